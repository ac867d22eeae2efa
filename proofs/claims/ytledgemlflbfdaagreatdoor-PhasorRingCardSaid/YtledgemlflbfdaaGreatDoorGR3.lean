/-
  The contract of bipole.bipoleref01.CheckEisen.
  The contract of bipole.bipoleref01.CheckEisen.
  The contract of bipole.bipoleref01.CheckRange.
  The contract of bipole.phasor.Norm.
  The contract of bipole.phasor.Norm.
  The contract of bipole.eisen.Norm.
  The contract of bipole.phasor.Turned.
  The contract of bipole.phasor.Turned.
  The contract of bipole.phasor.turn.
  The contract of bipole.phasor.checkTurn.
  The contract of bipole.phasor.Mul.
  The contract of bipole.phasor.Mul.
  The contract of bipole.eisen.Product.
  The contract of bipole.phasor.Add.
  The contract of bipole.phasor.Add.
  The contract of bipole.phasor.limited.
  The contract of bipole.eisen.Sum.
  The contract of bipole.phasor.CheckEisen.
  The contract of bipole.check.Range.
  Contracts: what is answered.
  Contracts: what is answered.
  Contracts: what is answered.
  Contracts: what is answered.
-/
import Derived.Test.YtledgemlflbfdaaGreatDoorGR1
import Derived.Test.YtledgemlflbfdaaGreatDoorGR2
import Derived.Test.YtledgemlflbfdaaGreatDoorProg
section
set_option linter.all false
set_option maxRecDepth 1000000
open Go.RowKit
namespace Go.Proofs.YtledgemlflbfdaaGreatDoor
open Mini
theorem gsz : Tryz.prog.globals.size = 6 := by kernel_rfl
theorem gfol : Tryz.prog.follows .mixedOrders = true := by kernel_rfl
theorem bl (w : World) : Holds Tryz.prog (noTabs 6) w := gsz ▸ noTabs_holds w

theorem w20 : IntKind.i64.wrap (0 - 1048576) = -1048576 := by decide
theorem w20' : IntKind.i64.wrap (-1048576) = -1048576 := by decide
theorem w16' : IntKind.i64.wrap (-65536) = -65536 := by decide
theorem wT' : IntKind.i64.wrap (-1000000) = -1000000 := by decide
theorem w16 : IntKind.i64.wrap (0 - 65536) = -65536 := by decide
theorem wT : IntKind.i64.wrap (0 - 1000000) = -1000000 := by decide
theorem parts_eq (a b m : Int) : Pl.parts a b m = if a < -m ∨ m < a ∨ b < -m ∨ m < b then 3 else 0 := by
  unfold Pl.parts Pl.firstE Pl.firstE Pl.firstE Pl.cr
  grind
theorem parts_zero {a b m : Int} : Pl.parts a b m = 0 ↔ Pl.inB m (a, b) := by
  rw [parts_eq]
  unfold Pl.inB
  simp only
  split <;> omega
theorem first_two (x y : Int) : Pl.firstE [x, y] = if x = 0 then y else x := by
  simp only [Pl.firstE]
  split
  · split <;> simp_all
  · rfl
theorem wi (x : Int) (h : -9223372036854775808 ≤ x ∧ x ≤ 9223372036854775807) : IntKind.i64.wrap x = x := IntWalk.i64_in _ (by omega)

/-- A result behind two checks. -/
def two (e1 e2 : Int) (r : (Int × Int) × Int) : (Int × Int) × Int := if e1 = 0 then (if e2 = 0 then r else ((0, 0), e2)) else ((0, 0), e1)
def oneB (x y e bad u v : Int) : Bool := if bad = 0 then (x == u && (y == v && true)) && (e == bad) else (x == 0 && (y == 0 && true)) && (e == bad)
def Bg (m : Int) (a b : Int) : Prop := -m ≤ a ∧ a ≤ m ∧ -m ≤ b ∧ b ≤ m
theorem bd (m k x y : Int) (hm : 0 ≤ m) (hk : 0 ≤ k) (h1 : -m ≤ x ∧ x ≤ m) (h2 : -k ≤ y ∧ y ≤ k) : -(m * k) ≤ x * y ∧ x * y ≤ m * k := mul_bd2 m k x y hm hk h1.1 h1.2 h2.1 h2.2
theorem tm6 (n : Int) : n.tmod 6 = n % 6 ∨ (n.tmod 6 = n % 6 - 6 ∧ n % 6 ≠ 0) := by
  have h := Int.tmod_eq_emod (a := n) (b := 6)
  split at h
  · exact .inl (by omega)
  · rename_i hc
    have h2 : ¬ (6 : Int) ∣ n := fun g => hc (.inr g)
    exact .inr ⟨by simpa using h, by omega⟩
theorem rem6 (n : Int) : (n.tmod 6 + 6).tmod 6 = n % 6 := by
  have h := tm6 n
  rw [Int.tmod_eq_emod_of_nonneg (by omega)]
  omega
theorem bg_of {a b m : Int} (h : Pl.parts a b 1048576 = 0) (hm : 1048576 ≤ m) : Bg m a b := by
  have := parts_zero.1 h
  unfold Pl.inB at this
  unfold Bg
  simp only at this
  omega

def c_range : Con := ⟨79, [.int .i64, .int .i64, .int .i64], fun ns => match ns with | [n, lo, hi] => .int .i64 (Pl.cr n lo hi) | _ => .bool true, fun ns => match ns with | [n, lo, hi] => True | _ => True⟩
def c_rrange : Con := ⟨15, [.int .i64, .int .i64, .int .i64], fun ns => match ns with | [n, lo, hi] => .int .i64 (Pl.cr n lo hi) | _ => .bool true, fun ns => match ns with | [n, lo, hi] => True | _ => True⟩
def c_checkEisen : Con := ⟨21, [.agg [.i64, .i64]], fun ns => match ns with | [a, b] => .int .i64 (Pl.parts a b 1048576) | _ => .bool true, fun ns => match ns with | [a, b] => True | _ => True⟩
def c_rcheckEisen : Con := ⟨13, [.agg [.i64, .i64]], fun ns => match ns with | [a, b] => .int .i64 (Pl.parts a b 1048576) | _ => .bool true, fun ns => match ns with | [a, b] => True | _ => True⟩
def c_checkTurn : Con := ⟨51, [.int .i64], fun ns => match ns with | [n] => .int .i64 (Pl.cr n (-1000000) 1000000) | _ => .bool true, fun ns => match ns with | [n] => True | _ => True⟩
def c_limited : Con := ⟨48, [.agg [.i64, .i64]], fun ns => match ns with | [a, b] => .tuple #[.agg #[.int .i64 (Pl.lim (a, b)).1.1, .int .i64 (Pl.lim (a, b)).1.2], .int .i64 (Pl.lim (a, b)).2] | _ => .bool true, fun ns => match ns with | [a, b] => True | _ => True⟩
def c_fits : Con := ⟨16, [.agg [.i64, .i64]], fun ns => match ns with | [a, b] => .tuple #[.agg #[.int .i64 (Pl.lim (a, b)).1.1, .int .i64 (Pl.lim (a, b)).1.2], .int .i64 (Pl.lim (a, b)).2] | _ => .bool true, fun ns => match ns with | [a, b] => True | _ => True⟩
def c_sum : Con := ⟨49, [.agg [.i64, .i64], .agg [.i64, .i64]], fun ns => match ns with | [a, b, c, d] => .agg #[.int .i64 (Pl.add (a, b) (c, d)).1, .int .i64 (Pl.add (a, b) (c, d)).2] | _ => .bool true, fun ns => match ns with | [a, b, c, d] => Bg 1099511627776 a b ∧ Bg 1099511627776 c d | _ => True⟩
def c_rsum : Con := ⟨17, [.agg [.i64, .i64], .agg [.i64, .i64]], fun ns => match ns with | [a, b, c, d] => .agg #[.int .i64 (Pl.add (a, b) (c, d)).1, .int .i64 (Pl.add (a, b) (c, d)).2] | _ => .bool true, fun ns => match ns with | [a, b, c, d] => Bg 1099511627776 a b ∧ Bg 1099511627776 c d | _ => True⟩
def c_prod : Con := ⟨50, [.agg [.i64, .i64], .agg [.i64, .i64]], fun ns => match ns with | [a, b, c, d] => .agg #[.int .i64 (Pl.mul (a, b) (c, d)).1, .int .i64 (Pl.mul (a, b) (c, d)).2] | _ => .bool true, fun ns => match ns with | [a, b, c, d] => Bg 268435456 a b ∧ Bg 268435456 c d | _ => True⟩
def c_rprod : Con := ⟨18, [.agg [.i64, .i64], .agg [.i64, .i64]], fun ns => match ns with | [a, b, c, d] => .agg #[.int .i64 (Pl.mul (a, b) (c, d)).1, .int .i64 (Pl.mul (a, b) (c, d)).2] | _ => .bool true, fun ns => match ns with | [a, b, c, d] => Bg 268435456 a b ∧ Bg 268435456 c d | _ => True⟩
def c_enorm : Con := ⟨53, [.agg [.i64, .i64]], fun ns => match ns with | [a, b] => .int .i64 (Pl.norm (a, b)) | _ => .bool true, fun ns => match ns with | [a, b] => Bg 268435456 a b | _ => True⟩
def c_rnorm : Con := ⟨20, [.agg [.i64, .i64]], fun ns => match ns with | [a, b] => .int .i64 (Pl.norm (a, b)) | _ => .bool true, fun ns => match ns with | [a, b] => Bg 268435456 a b | _ => True⟩
def c_turn : Con := ⟨52, [.agg [.i64, .i64], .int .i64], fun ns => match ns with | [a, b, n] => .agg #[.int .i64 (Pl.turn (a, b) n).1, .int .i64 (Pl.turn (a, b) n).2] | _ => .bool true, fun ns => match ns with | [a, b, n] => Bg 1099511627776 a b | _ => True⟩
def c_add : Con := ⟨9, [.agg [.i64, .i64], .agg [.i64, .i64]], fun ns => match ns with | [a, b, c, d] => .tuple #[.agg #[.int .i64 (two (Pl.parts a b 1048576) (Pl.parts c d 1048576) (Pl.lim (Pl.add (a, b) (c, d)))).1.1, .int .i64 (two (Pl.parts a b 1048576) (Pl.parts c d 1048576) (Pl.lim (Pl.add (a, b) (c, d)))).1.2], .int .i64 (two (Pl.parts a b 1048576) (Pl.parts c d 1048576) (Pl.lim (Pl.add (a, b) (c, d)))).2] | _ => .bool true, fun ns => match ns with | [a, b, c, d] => True | _ => True⟩
def c_mul : Con := ⟨10, [.agg [.i64, .i64], .agg [.i64, .i64]], fun ns => match ns with | [a, b, c, d] => .tuple #[.agg #[.int .i64 (two (Pl.parts a b 1048576) (Pl.parts c d 1048576) (Pl.lim (Pl.mul (a, b) (c, d)))).1.1, .int .i64 (two (Pl.parts a b 1048576) (Pl.parts c d 1048576) (Pl.lim (Pl.mul (a, b) (c, d)))).1.2], .int .i64 (two (Pl.parts a b 1048576) (Pl.parts c d 1048576) (Pl.lim (Pl.mul (a, b) (c, d)))).2] | _ => .bool true, fun ns => match ns with | [a, b, c, d] => True | _ => True⟩
def c_turned : Con := ⟨11, [.agg [.i64, .i64], .int .i64], fun ns => match ns with | [a, b, n] => .tuple #[.agg #[.int .i64 (two (Pl.parts a b 1048576) (Pl.cr n (-1000000) 1000000) (Pl.lim (Pl.turn (a, b) n))).1.1, .int .i64 (two (Pl.parts a b 1048576) (Pl.cr n (-1000000) 1000000) (Pl.lim (Pl.turn (a, b) n))).1.2], .int .i64 (two (Pl.parts a b 1048576) (Pl.cr n (-1000000) 1000000) (Pl.lim (Pl.turn (a, b) n))).2] | _ => .bool true, fun ns => match ns with | [a, b, n] => True | _ => True⟩
def c_norm : Con := ⟨12, [.agg [.i64, .i64]], fun ns => match ns with | [a, b] => .tuple #[.int .i64 (if Pl.parts a b 1048576 = 0 then Pl.norm (a, b) else 0), .int .i64 (Pl.parts a b 1048576)] | _ => .bool true, fun ns => match ns with | [a, b] => True | _ => True⟩
def c_rturn : Con := ⟨19, [.agg [.i64, .i64], .int .i64], fun ns => match ns with | [a, b, n] => .agg #[.int .i64 (Pl.turn (a, b) n).1, .int .i64 (Pl.turn (a, b) n).2] | _ => .bool true, fun ns => match ns with | [a, b, n] => Bg 1048576 a b ∧ (-9223372036854775808 ≤ n ∧ n ≤ 9223372036854775807) | _ => True⟩
def c_one : Con := ⟨22, [.agg [.i64, .i64], .int .i64, .int .i64, .agg [.i64, .i64]], fun ns => match ns with | [x, y, e, bad, u, v] => .bool (oneB x y e bad u v) | _ => .bool true, fun ns => match ns with | [x, y, e, bad, u, v] => True | _ => True⟩
noncomputable def x_range : CallS := kAll []
noncomputable def range_e0 (n lo hi : Int) : Option OutS := evFS Tryz.prog x_range 1000 79 #[.int .i64 n, .int .i64 lo, .int .i64 hi] (noTabs 6) ⟨[0, 0, 0, 1, 1], True⟩
noncomputable def range_e1 (n lo hi : Int) : Option OutS := evFS Tryz.prog x_range 1000 79 #[.int .i64 n, .int .i64 lo, .int .i64 hi] (noTabs 6) ⟨[1, 1, 1, 0, 1], True⟩
noncomputable def range_e2 (n lo hi : Int) : Option OutS := evFS Tryz.prog x_range 1000 79 #[.int .i64 n, .int .i64 lo, .int .i64 hi] (noTabs 6) ⟨[1, 1, 1, 0, 0], True⟩
noncomputable def x_rrange : CallS := kAll []
noncomputable def rrange_e0 (n lo hi : Int) : Option OutS := evFS Tryz.prog x_rrange 1000 15 #[.int .i64 n, .int .i64 lo, .int .i64 hi] (noTabs 6) ⟨[0, 0, 0, 1, 1], True⟩
noncomputable def rrange_e1 (n lo hi : Int) : Option OutS := evFS Tryz.prog x_rrange 1000 15 #[.int .i64 n, .int .i64 lo, .int .i64 hi] (noTabs 6) ⟨[1, 1, 1, 0, 1], True⟩
noncomputable def rrange_e2 (n lo hi : Int) : Option OutS := evFS Tryz.prog x_rrange 1000 15 #[.int .i64 n, .int .i64 lo, .int .i64 hi] (noTabs 6) ⟨[1, 1, 1, 0, 0], True⟩
noncomputable def x_checkEisen : CallS := kAll [c_range]
noncomputable def checkEisen_e0 (a b : Int) : Option OutS := evFS Tryz.prog x_checkEisen 1000 21 #[.agg #[.int .i64 a, .int .i64 b]] (noTabs 6) ⟨[1, 0, 0, 1, 1, 0, 0], True⟩
noncomputable def checkEisen_e1 (a b : Int) : Option OutS := evFS Tryz.prog x_checkEisen 1000 21 #[.agg #[.int .i64 a, .int .i64 b]] (noTabs 6) ⟨[1, 0, 0, 1, 1, 1], True⟩
noncomputable def checkEisen_e2 (a b : Int) : Option OutS := evFS Tryz.prog x_checkEisen 1000 21 #[.agg #[.int .i64 a, .int .i64 b]] (noTabs 6) ⟨[1, 0, 1], True⟩
noncomputable def x_rcheckEisen : CallS := kAll [c_rrange]
noncomputable def rcheckEisen_e0 (a b : Int) : Option OutS := evFS Tryz.prog x_rcheckEisen 1000 13 #[.agg #[.int .i64 a, .int .i64 b]] (noTabs 6) ⟨[1, 0, 0, 1, 1, 0, 0], True⟩
noncomputable def rcheckEisen_e1 (a b : Int) : Option OutS := evFS Tryz.prog x_rcheckEisen 1000 13 #[.agg #[.int .i64 a, .int .i64 b]] (noTabs 6) ⟨[1, 0, 0, 1, 1, 1, 1], True⟩
noncomputable def rcheckEisen_e2 (a b : Int) : Option OutS := evFS Tryz.prog x_rcheckEisen 1000 13 #[.agg #[.int .i64 a, .int .i64 b]] (noTabs 6) ⟨[1, 0, 1, 0], True⟩
noncomputable def x_checkTurn : CallS := kAll [c_range]
noncomputable def checkTurn_e0 (n : Int) : Option OutS := evFS Tryz.prog x_checkTurn 1000 51 #[.int .i64 n] (noTabs 6) ⟨[], True⟩
noncomputable def x_limited : CallS := kAll []
noncomputable def limited_e0 (a b : Int) : Option OutS := evFS Tryz.prog x_limited 1000 48 #[.agg #[.int .i64 a, .int .i64 b]] (noTabs 6) ⟨[0], True⟩
noncomputable def limited_e1 (a b : Int) : Option OutS := evFS Tryz.prog x_limited 1000 48 #[.agg #[.int .i64 a, .int .i64 b]] (noTabs 6) ⟨[1], True⟩
noncomputable def x_fits : CallS := kAll [c_rcheckEisen]
noncomputable def fits_e0 (a b : Int) : Option OutS := evFS Tryz.prog x_fits 1000 16 #[.agg #[.int .i64 a, .int .i64 b]] (noTabs 6) ⟨[0], True⟩
noncomputable def fits_e1 (a b : Int) : Option OutS := evFS Tryz.prog x_fits 1000 16 #[.agg #[.int .i64 a, .int .i64 b]] (noTabs 6) ⟨[1], True⟩
noncomputable def x_sum : CallS := kAll []
noncomputable def sum_e0 (a b c d : Int) : Option OutS := evFS Tryz.prog x_sum 1000 49 #[.agg #[.int .i64 a, .int .i64 b], .agg #[.int .i64 c, .int .i64 d]] (noTabs 6) ⟨[], True⟩
noncomputable def x_rsum : CallS := kAll []
noncomputable def rsum_e0 (a b c d : Int) : Option OutS := evFS Tryz.prog x_rsum 1000 17 #[.agg #[.int .i64 a, .int .i64 b], .agg #[.int .i64 c, .int .i64 d]] (noTabs 6) ⟨[], True⟩
noncomputable def x_prod : CallS := kAll []
noncomputable def prod_e0 (a b c d : Int) : Option OutS := evFS Tryz.prog x_prod 1000 50 #[.agg #[.int .i64 a, .int .i64 b], .agg #[.int .i64 c, .int .i64 d]] (noTabs 6) ⟨[], True⟩
noncomputable def x_rprod : CallS := kAll []
noncomputable def rprod_e0 (a b c d : Int) : Option OutS := evFS Tryz.prog x_rprod 1000 18 #[.agg #[.int .i64 a, .int .i64 b], .agg #[.int .i64 c, .int .i64 d]] (noTabs 6) ⟨[], True⟩
noncomputable def x_enorm : CallS := kAll []
noncomputable def enorm_e0 (a b : Int) : Option OutS := evFS Tryz.prog x_enorm 1000 53 #[.agg #[.int .i64 a, .int .i64 b]] (noTabs 6) ⟨[], True⟩
noncomputable def x_rnorm : CallS := kAll []
noncomputable def rnorm_e0 (a b : Int) : Option OutS := evFS Tryz.prog x_rnorm 1000 20 #[.agg #[.int .i64 a, .int .i64 b]] (noTabs 6) ⟨[], True⟩
noncomputable def x_turn : CallS := kAll []
noncomputable def turn_e0 (a b n : Int) : Option OutS := evFS Tryz.prog x_turn 1000 52 #[.agg #[.int .i64 a, .int .i64 b], .int .i64 n] (noTabs 6) ⟨[0], True⟩
noncomputable def turn_e1 (a b n : Int) : Option OutS := evFS Tryz.prog x_turn 1000 52 #[.agg #[.int .i64 a, .int .i64 b], .int .i64 n] (noTabs 6) ⟨[1, 0], True⟩
noncomputable def turn_e2 (a b n : Int) : Option OutS := evFS Tryz.prog x_turn 1000 52 #[.agg #[.int .i64 a, .int .i64 b], .int .i64 n] (noTabs 6) ⟨[1, 1, 0], True⟩
noncomputable def turn_e3 (a b n : Int) : Option OutS := evFS Tryz.prog x_turn 1000 52 #[.agg #[.int .i64 a, .int .i64 b], .int .i64 n] (noTabs 6) ⟨[1, 1, 1, 0], True⟩
noncomputable def turn_e4 (a b n : Int) : Option OutS := evFS Tryz.prog x_turn 1000 52 #[.agg #[.int .i64 a, .int .i64 b], .int .i64 n] (noTabs 6) ⟨[1, 1, 1, 1, 0], True⟩
noncomputable def turn_e5 (a b n : Int) : Option OutS := evFS Tryz.prog x_turn 1000 52 #[.agg #[.int .i64 a, .int .i64 b], .int .i64 n] (noTabs 6) ⟨[1, 1, 1, 1, 1, 0], True⟩
noncomputable def x_add : CallS := kAll [c_checkEisen, c_sum, c_limited]
noncomputable def add_e0 (a b c d : Int) : Option OutS := evFS Tryz.prog x_add 1000 9 #[.agg #[.int .i64 a, .int .i64 b], .agg #[.int .i64 c, .int .i64 d]] (noTabs 6) ⟨[1, 0, 0, 1, 1, 0, 0, 0], True⟩
noncomputable def add_e1 (a b c d : Int) : Option OutS := evFS Tryz.prog x_add 1000 9 #[.agg #[.int .i64 a, .int .i64 b], .agg #[.int .i64 c, .int .i64 d]] (noTabs 6) ⟨[1, 0, 0, 1, 1, 1, 1], True⟩
noncomputable def add_e2 (a b c d : Int) : Option OutS := evFS Tryz.prog x_add 1000 9 #[.agg #[.int .i64 a, .int .i64 b], .agg #[.int .i64 c, .int .i64 d]] (noTabs 6) ⟨[1, 0, 1, 1], True⟩
noncomputable def x_mul : CallS := kAll [c_checkEisen, c_prod, c_limited]
noncomputable def mul_e0 (a b c d : Int) : Option OutS := evFS Tryz.prog x_mul 1000 10 #[.agg #[.int .i64 a, .int .i64 b], .agg #[.int .i64 c, .int .i64 d]] (noTabs 6) ⟨[1, 0, 0, 1, 1, 0, 0, 0], True⟩
noncomputable def mul_e1 (a b c d : Int) : Option OutS := evFS Tryz.prog x_mul 1000 10 #[.agg #[.int .i64 a, .int .i64 b], .agg #[.int .i64 c, .int .i64 d]] (noTabs 6) ⟨[1, 0, 1, 1], True⟩
noncomputable def mul_e2 (a b c d : Int) : Option OutS := evFS Tryz.prog x_mul 1000 10 #[.agg #[.int .i64 a, .int .i64 b], .agg #[.int .i64 c, .int .i64 d]] (noTabs 6) ⟨[1, 0, 0, 1, 1, 1, 1], True⟩
noncomputable def x_turned : CallS := kAll [c_checkEisen, c_checkTurn, c_turn, c_limited]
noncomputable def turned_e0 (a b n : Int) : Option OutS := evFS Tryz.prog x_turned 1000 11 #[.agg #[.int .i64 a, .int .i64 b], .int .i64 n] (noTabs 6) ⟨[1, 0, 0, 1, 1, 1, 1], True⟩
noncomputable def turned_e1 (a b n : Int) : Option OutS := evFS Tryz.prog x_turned 1000 11 #[.agg #[.int .i64 a, .int .i64 b], .int .i64 n] (noTabs 6) ⟨[1, 0, 0, 1, 1, 0, 0, 0], True⟩
noncomputable def turned_e2 (a b n : Int) : Option OutS := evFS Tryz.prog x_turned 1000 11 #[.agg #[.int .i64 a, .int .i64 b], .int .i64 n] (noTabs 6) ⟨[1, 0, 1, 1], True⟩
noncomputable def x_norm : CallS := kAll [c_checkEisen, c_enorm]
noncomputable def norm_e0 (a b : Int) : Option OutS := evFS Tryz.prog x_norm 1000 12 #[.agg #[.int .i64 a, .int .i64 b]] (noTabs 6) ⟨[0], True⟩
noncomputable def norm_e1 (a b : Int) : Option OutS := evFS Tryz.prog x_norm 1000 12 #[.agg #[.int .i64 a, .int .i64 b]] (noTabs 6) ⟨[1], True⟩
noncomputable def x_rturn : CallS := kAll [c_rprod]
noncomputable def rturn_e0 (a b n : Int) : Option OutS := evFS Tryz.prog x_rturn 1000 19 #[.agg #[.int .i64 a, .int .i64 b], .int .i64 n] (noTabs 6) ⟨[0, 0], True⟩
noncomputable def rturn_e1 (a b n : Int) : Option OutS := evFS Tryz.prog x_rturn 1000 19 #[.agg #[.int .i64 a, .int .i64 b], .int .i64 n] (noTabs 6) ⟨[1, 1, 0], True⟩
noncomputable def rturn_e2 (a b n : Int) : Option OutS := evFS Tryz.prog x_rturn 1000 19 #[.agg #[.int .i64 a, .int .i64 b], .int .i64 n] (noTabs 6) ⟨[1, 1, 1, 0], True⟩
noncomputable def rturn_e3 (a b n : Int) : Option OutS := evFS Tryz.prog x_rturn 1000 19 #[.agg #[.int .i64 a, .int .i64 b], .int .i64 n] (noTabs 6) ⟨[1, 1, 1, 1, 0], True⟩
noncomputable def rturn_e4 (a b n : Int) : Option OutS := evFS Tryz.prog x_rturn 1000 19 #[.agg #[.int .i64 a, .int .i64 b], .int .i64 n] (noTabs 6) ⟨[1, 1, 1, 1, 1, 0], True⟩
noncomputable def rturn_e5 (a b n : Int) : Option OutS := evFS Tryz.prog x_rturn 1000 19 #[.agg #[.int .i64 a, .int .i64 b], .int .i64 n] (noTabs 6) ⟨[1, 1, 1, 1, 1, 1, 0], True⟩
noncomputable def rturn_e6 (a b n : Int) : Option OutS := evFS Tryz.prog x_rturn 1000 19 #[.agg #[.int .i64 a, .int .i64 b], .int .i64 n] (noTabs 6) ⟨[0, 1, 0], True⟩
noncomputable def rturn_e7 (a b n : Int) : Option OutS := evFS Tryz.prog x_rturn 1000 19 #[.agg #[.int .i64 a, .int .i64 b], .int .i64 n] (noTabs 6) ⟨[0, 1, 1, 0], True⟩
noncomputable def rturn_e8 (a b n : Int) : Option OutS := evFS Tryz.prog x_rturn 1000 19 #[.agg #[.int .i64 a, .int .i64 b], .int .i64 n] (noTabs 6) ⟨[0, 1, 1, 1, 0], True⟩
noncomputable def rturn_e9 (a b n : Int) : Option OutS := evFS Tryz.prog x_rturn 1000 19 #[.agg #[.int .i64 a, .int .i64 b], .int .i64 n] (noTabs 6) ⟨[0, 1, 1, 1, 1, 0], True⟩
noncomputable def rturn_e10 (a b n : Int) : Option OutS := evFS Tryz.prog x_rturn 1000 19 #[.agg #[.int .i64 a, .int .i64 b], .int .i64 n] (noTabs 6) ⟨[0, 1, 1, 1, 1, 1, 0], True⟩
noncomputable def x_one : CallS := kAll []
noncomputable def one_e0 (x y e bad u v : Int) : Option OutS := evFS Tryz.prog x_one 1000 22 #[.agg #[.int .i64 x, .int .i64 y], .int .i64 e, .int .i64 bad, .agg #[.int .i64 u, .int .i64 v]] (noTabs 6) ⟨[0, 1, 1, 1, 1], True⟩
noncomputable def one_e1 (x y e bad u v : Int) : Option OutS := evFS Tryz.prog x_one 1000 22 #[.agg #[.int .i64 x, .int .i64 y], .int .i64 e, .int .i64 bad, .agg #[.int .i64 u, .int .i64 v]] (noTabs 6) ⟨[0, 0, 0, 0, 0], True⟩
noncomputable def one_e2 (x y e bad u v : Int) : Option OutS := evFS Tryz.prog x_one 1000 22 #[.agg #[.int .i64 x, .int .i64 y], .int .i64 e, .int .i64 bad, .agg #[.int .i64 u, .int .i64 v]] (noTabs 6) ⟨[1, 1, 1, 1, 1], True⟩
noncomputable def one_e3 (x y e bad u v : Int) : Option OutS := evFS Tryz.prog x_one 1000 22 #[.agg #[.int .i64 x, .int .i64 y], .int .i64 e, .int .i64 bad, .agg #[.int .i64 u, .int .i64 v]] (noTabs 6) ⟨[1, 0, 0, 0, 0], True⟩
end Go.Proofs.YtledgemlflbfdaaGreatDoor
end
section
set_option linter.all false
set_option maxRecDepth 1000000
open Go.RowKit
namespace Go.Proofs.YtledgemlflbfdaaGreatDoor
open Mini

/-- The first of three errors. -/
def th (x y z : Int) : Int := if x = 0 then (if y = 0 then z else y) else x
/-- A number behind a check. -/
def cz (e x : Int) : Int := if e = 0 then x else 0
theorem int_eq {k : IntKind} {x y : Int} (h : x = y) : Value.int k x = Value.int k y := by rw [h]
theorem bool_eq {x y : Bool} (h : x = y) : Value.bool x = Value.bool y := by rw [h]
theorem cons_eq {x y : Value} {l m : List Value} (h : x = y) (g : l = m) : x :: l = y :: m := by rw [h, g]
theorem agg_eq {l m : List Value} (h : l = m) : Value.agg l.toArray = Value.agg m.toArray := by rw [h]
theorem tup_eq {l m : List Value} (h : l = m) : Value.tuple l.toArray = Value.tuple m.toArray := by rw [h]
theorem td3 (x : Int) : x - 2 ≤ 3 * x.tdiv 3 ∧ 3 * x.tdiv 3 ≤ x + 2 := by
  have h := Int.mul_tdiv_add_tmod x 3
  have h1 := Int.tmod_lt_of_pos x (b := 3) (by omega)
  have h2 := Int.lt_tmod_of_pos x (b := 3) (by omega)
  omega
theorem mulBg {a b c d : Int} (h : Bg 65536 a b) (g : Bg 131072 c d) : Bg 30000000000 (Pl.mul (a, b) (c, d)).1 (Pl.mul (a, b) (c, d)).2 := by
  obtain ⟨p1, p2, p3, p4⟩ := h
  obtain ⟨q1, q2, q3, q4⟩ := g
  have b1 := bd 65536 131072 a c (by omega) (by omega) ⟨p1, p2⟩ ⟨q1, q2⟩
  have b2 := bd 65536 131072 b d (by omega) (by omega) ⟨p3, p4⟩ ⟨q3, q4⟩
  have b3 := bd 65536 131072 a d (by omega) (by omega) ⟨p1, p2⟩ ⟨q3, q4⟩
  have b4 := bd 65536 131072 b c (by omega) (by omega) ⟨p3, p4⟩ ⟨q1, q2⟩
  unfold Pl.mul Bg
  simp only
  omega
theorem th0 {x y z : Int} : th x y z = 0 ↔ x = 0 ∧ y = 0 ∧ z = 0 := by
  unfold th
  split
  · split <;> simp_all
  · simp_all
def balB (e x y z u : Int) : Bool := decide (e = 0 ∧ x = 0 ∧ y = 0 ∧ z = 0 ∧ u = 0)
/-- Whether phases come back from components. -/
def okB (t1 t2 t3 t4 t5 t6 : Int) : Bool := decide (t1 % 3 = 0 ∧ t2 % 3 = 0 ∧ t3 % 3 = 0 ∧ t4 % 3 = 0 ∧ t5 % 3 = 0 ∧ t6 % 3 = 0) && decide (th (Pl.parts (t1.tdiv 3) (t2.tdiv 3) 65536) (Pl.parts (t3.tdiv 3) (t4.tdiv 3) 65536) (Pl.parts (t5.tdiv 3) (t6.tdiv 3) 65536) = 0)
theorem td3m (x : Int) : x.tmod 3 = x - 3 * x.tdiv 3 := by
  have h := Int.mul_tdiv_add_tmod x 3
  omega
theorem barBg {a b : Int} (h : Bg 65536 a b) : Bg 131072 (a - b) (-b) := by
  unfold Bg at *
  omega
theorem bg16 {a b m : Int} (h : Pl.parts a b 65536 = 0) (hm : 65536 ≤ m) : Bg m a b := by
  have := parts_zero.1 h
  unfold Pl.inB at this
  unfold Bg
  simp only at this
  omega

theorem q_of {x q : Int} (h : x - 2 ≤ 3 * q ∧ 3 * q ≤ x + 2) (hm : x % 3 = 0) : 3 * q = x := by omega
theorem rst_eqs {a1 a2 b1 b2 c1 c2 x0 x1 x2 x3 x4 x5 : Int} (e0 : 3 * x0 = a1 + b1 + c1) (e1 : 3 * x1 = a2 + b2 + c2) (e2 : 3 * x2 = a1 + (b2 - b1) + -c2) (e3 : 3 * x3 = a2 + -b1 + (c1 - c2)) (e4 : 3 * x4 = a1 + -b2 + (c2 - c1)) (e5 : 3 * x5 = a2 + (b1 - b2) + -c1) : x0 + x2 + x4 = a1 ∧ x1 + x3 + x5 = a2 ∧ x0 - x3 + (x5 - x4) = b1 ∧ x1 + (x2 - x3) - x4 = b2 ∧ x0 + (x3 - x2) - x5 = c1 ∧ x1 - x2 + (x4 - x5) = c2 := by
  refine ⟨?_, ?_, ?_, ?_, ?_, ?_⟩ <;> omega
theorem rst_mod {a1 a2 b1 b2 c1 c2 x0 x1 x2 x3 x4 x5 : Int} (f0 : x0 + x2 + x4 = a1) (f1 : x1 + x3 + x5 = a2) (f2 : x0 - x3 + (x5 - x4) = b1) (f3 : x1 + (x2 - x3) - x4 = b2) (f4 : x0 + (x3 - x2) - x5 = c1) (f5 : x1 - x2 + (x4 - x5) = c2) : (a1 + b1 + c1) % 3 = 0 ∧ (a2 + b2 + c2) % 3 = 0 ∧ (a1 + (b2 - b1) + -c2) % 3 = 0 ∧ (a2 + -b1 + (c1 - c2)) % 3 = 0 ∧ (a1 + -b2 + (c2 - c1)) % 3 = 0 ∧ (a2 + (b1 - b2) + -c1) % 3 = 0 := by
  subst f0 f1 f2 f3 f4 f5
  refine ⟨?_, ?_, ?_, ?_, ?_, ?_⟩ <;> omega
theorem tm3 {x : Int} : x.tmod 3 = 0 ↔ x % 3 = 0 := by
  have h := Int.tmod_eq_emod (a := x) (b := 3)
  split at h <;> omega

def c_checkPhase : Con := ⟨76, [.agg [.i64, .i64]], fun ns => match ns with | [a, b] => .int .i64 (Pl.parts a b 65536) | _ => .bool true, fun ns => match ns with | [a, b] => True | _ => True⟩
def c_checkPhases : Con := ⟨39, [.agg [.i64, .i64, .i64, .i64, .i64, .i64]], fun ns => match ns with | [a1, a2, b1, b2, c1, c2] => .int .i64 (th (Pl.parts a1 a2 65536) (Pl.parts b1 b2 65536) (Pl.parts c1 c2 65536)) | _ => .bool true, fun ns => match ns with | [a1, a2, b1, b2, c1, c2] => True | _ => True⟩
def c_rpart16 : Con := ⟨54, [.agg [.i64, .i64], .int .i64], fun ns => match ns with | [a, b, m] => .int .i64 (Pl.parts a b m) | _ => .bool true, fun ns => match ns with | [a, b, m] => m = 65536 ∨ m = 1048576 | _ => True⟩
def c_rcheckPhases : Con := ⟨33, [.agg [.i64, .i64, .i64, .i64, .i64, .i64]], fun ns => match ns with | [a1, a2, b1, b2, c1, c2] => .int .i64 (th (Pl.parts a1 a2 65536) (Pl.parts b1 b2 65536) (Pl.parts c1 c2 65536)) | _ => .bool true, fun ns => match ns with | [a1, a2, b1, b2, c1, c2] => True | _ => True⟩
def c_rcheckThree : Con := ⟨34, [.agg [.i64, .i64, .i64, .i64, .i64, .i64]], fun ns => match ns with | [a1, a2, b1, b2, c1, c2] => .int .i64 (th (Pl.parts a1 a2 1048576) (Pl.parts b1 b2 1048576) (Pl.parts c1 c2 1048576)) | _ => .bool true, fun ns => match ns with | [a1, a2, b1, b2, c1, c2] => True | _ => True⟩
def c_components0 : Con := ⟨67, [.agg [.i64, .i64, .i64, .i64, .i64, .i64]], fun ns => match ns with | [a1, a2, b1, b2, c1, c2] => .agg #[.int .i64 (a1 + b1 + c1), .int .i64 (a2 + b2 + c2), .int .i64 (a1 - b2 + (c2 - c1)), .int .i64 (a2 + (b1 - b2) - c1), .int .i64 (a1 + (b2 - b1) - c2), .int .i64 (a2 - b1 + (c1 - c2))] | _ => .bool true, fun ns => match ns with | [a1, a2, b1, b2, c1, c2] => Bg 268435456 a1 a2 ∧ Bg 268435456 b1 b2 ∧ Bg 268435456 c1 c2 | _ => True⟩
def c_components : Con := ⟨29, [.agg [.i64, .i64, .i64, .i64, .i64, .i64]], fun ns => match ns with | [a1, a2, b1, b2, c1, c2] => .tuple #[.agg #[.int .i64 (cz (th (Pl.parts a1 a2 65536) (Pl.parts b1 b2 65536) (Pl.parts c1 c2 65536)) (a1 + b1 + c1)), .int .i64 (cz (th (Pl.parts a1 a2 65536) (Pl.parts b1 b2 65536) (Pl.parts c1 c2 65536)) (a2 + b2 + c2)), .int .i64 (cz (th (Pl.parts a1 a2 65536) (Pl.parts b1 b2 65536) (Pl.parts c1 c2 65536)) (a1 - b2 + (c2 - c1))), .int .i64 (cz (th (Pl.parts a1 a2 65536) (Pl.parts b1 b2 65536) (Pl.parts c1 c2 65536)) (a2 + (b1 - b2) - c1)), .int .i64 (cz (th (Pl.parts a1 a2 65536) (Pl.parts b1 b2 65536) (Pl.parts c1 c2 65536)) (a1 + (b2 - b1) - c2)), .int .i64 (cz (th (Pl.parts a1 a2 65536) (Pl.parts b1 b2 65536) (Pl.parts c1 c2 65536)) (a2 - b1 + (c1 - c2)))], .int .i64 (th (Pl.parts a1 a2 65536) (Pl.parts b1 b2 65536) (Pl.parts c1 c2 65536))] | _ => .bool true, fun ns => match ns with | [a1, a2, b1, b2, c1, c2] => True | _ => True⟩
def c_conj : Con := ⟨72, [.agg [.i64, .i64]], fun ns => match ns with | [a, b] => .agg #[.int .i64 (a - b), .int .i64 (-b)] | _ => .bool true, fun ns => match ns with | [a, b] => Bg 1099511627776 a b | _ => True⟩
def c_rbar : Con := ⟨75, [.agg [.i64, .i64]], fun ns => match ns with | [a, b] => .agg #[.int .i64 (a - b), .int .i64 (-b)] | _ => .bool true, fun ns => match ns with | [a, b] => Bg 1099511627776 a b | _ => True⟩
def c_rmixed1 : Con := ⟨35, [.agg [.i64, .i64, .i64, .i64, .i64, .i64]], fun ns => match ns with | [a1, a2, b1, b2, c1, c2] => .agg #[.int .i64 (a1 + b1 + c1), .int .i64 (a2 + b2 + c2), .int .i64 (a1 - b2 + (c2 - c1)), .int .i64 (a2 + (b1 - b2) - c1), .int .i64 (a1 + (b2 - b1) - c2), .int .i64 (a2 - b1 + (c1 - c2))] | _ => .bool true, fun ns => match ns with | [a1, a2, b1, b2, c1, c2] => Bg 1048576 a1 a2 ∧ Bg 1048576 b1 b2 ∧ Bg 1048576 c1 c2 | _ => True⟩
def c_balanced : Con := ⟨31, [.agg [.i64, .i64, .i64, .i64, .i64, .i64]], fun ns => match ns with | [a1, a2, b1, b2, c1, c2] => .tuple #[.bool (balB (th (Pl.parts a1 a2 65536) (Pl.parts b1 b2 65536) (Pl.parts c1 c2 65536)) (a1 + b1 + c1) (a2 + b2 + c2) (a1 + (b2 - b1) - c2) (a2 - b1 + (c1 - c2))), .int .i64 (th (Pl.parts a1 a2 65536) (Pl.parts b1 b2 65536) (Pl.parts c1 c2 65536))] | _ => .bool true, fun ns => match ns with | [a1, a2, b1, b2, c1, c2] => True | _ => True⟩
def c_rbalanced : Con := ⟨36, [.agg [.i64, .i64, .i64, .i64, .i64, .i64]], fun ns => match ns with | [a1, a2, b1, b2, c1, c2] => .bool (balB 0 (a1 + b1 + c1) (a2 + b2 + c2) (a1 + (b2 - b1) - c2) (a2 - b1 + (c1 - c2))) | _ => .bool true, fun ns => match ns with | [a1, a2, b1, b2, c1, c2] => Bg 1048576 a1 a2 ∧ Bg 1048576 b1 b2 ∧ Bg 1048576 c1 c2 | _ => True⟩
def c_power : Con := ⟨32, [.agg [.i64, .i64, .i64, .i64, .i64, .i64], .agg [.i64, .i64, .i64, .i64, .i64, .i64]], fun ns => match ns with | [a1, a2, b1, b2, c1, c2, d1, d2, e1, e2, f1, f2] => .tuple #[.agg #[.int .i64 (cz (if (th (Pl.parts a1 a2 65536) (Pl.parts b1 b2 65536) (Pl.parts c1 c2 65536)) = 0 then (th (Pl.parts d1 d2 65536) (Pl.parts e1 e2 65536) (Pl.parts f1 f2 65536)) else (th (Pl.parts a1 a2 65536) (Pl.parts b1 b2 65536) (Pl.parts c1 c2 65536))) ((Pl.mul (a1, a2) (d1 - d2, -d2)).1 + (Pl.mul (b1, b2) (e1 - e2, -e2)).1 + (Pl.mul (c1, c2) (f1 - f2, -f2)).1)), .int .i64 (cz (if (th (Pl.parts a1 a2 65536) (Pl.parts b1 b2 65536) (Pl.parts c1 c2 65536)) = 0 then (th (Pl.parts d1 d2 65536) (Pl.parts e1 e2 65536) (Pl.parts f1 f2 65536)) else (th (Pl.parts a1 a2 65536) (Pl.parts b1 b2 65536) (Pl.parts c1 c2 65536))) ((Pl.mul (a1, a2) (d1 - d2, -d2)).2 + (Pl.mul (b1, b2) (e1 - e2, -e2)).2 + (Pl.mul (c1, c2) (f1 - f2, -f2)).2))], .int .i64 (cz (if (th (Pl.parts a1 a2 65536) (Pl.parts b1 b2 65536) (Pl.parts c1 c2 65536)) = 0 then (th (Pl.parts d1 d2 65536) (Pl.parts e1 e2 65536) (Pl.parts f1 f2 65536)) else (th (Pl.parts a1 a2 65536) (Pl.parts b1 b2 65536) (Pl.parts c1 c2 65536))) (2 * ((Pl.mul (a1, a2) (d1 - d2, -d2)).1 + (Pl.mul (b1, b2) (e1 - e2, -e2)).1 + (Pl.mul (c1, c2) (f1 - f2, -f2)).1) - ((Pl.mul (a1, a2) (d1 - d2, -d2)).2 + (Pl.mul (b1, b2) (e1 - e2, -e2)).2 + (Pl.mul (c1, c2) (f1 - f2, -f2)).2))), .int .i64 (if (th (Pl.parts a1 a2 65536) (Pl.parts b1 b2 65536) (Pl.parts c1 c2 65536)) = 0 then (th (Pl.parts d1 d2 65536) (Pl.parts e1 e2 65536) (Pl.parts f1 f2 65536)) else (th (Pl.parts a1 a2 65536) (Pl.parts b1 b2 65536) (Pl.parts c1 c2 65536)))] | _ => .bool true, fun ns => match ns with | [a1, a2, b1, b2, c1, c2, d1, d2, e1, e2, f1, f2] => True | _ => True⟩
def c_rpower : Con := ⟨38, [.agg [.i64, .i64, .i64, .i64, .i64, .i64], .agg [.i64, .i64, .i64, .i64, .i64, .i64]], fun ns => match ns with | [a1, a2, b1, b2, c1, c2, d1, d2, e1, e2, f1, f2] => .agg #[.int .i64 ((Pl.mul (a1, a2) (d1 - d2, -d2)).1 + (Pl.mul (b1, b2) (e1 - e2, -e2)).1 + (Pl.mul (c1, c2) (f1 - f2, -f2)).1), .int .i64 ((Pl.mul (a1, a2) (d1 - d2, -d2)).2 + (Pl.mul (b1, b2) (e1 - e2, -e2)).2 + (Pl.mul (c1, c2) (f1 - f2, -f2)).2)] | _ => .bool true, fun ns => match ns with | [a1, a2, b1, b2, c1, c2, d1, d2, e1, e2, f1, f2] => Bg 65536 a1 a2 ∧ Bg 65536 b1 b2 ∧ Bg 65536 c1 c2 ∧ Bg 65536 d1 d2 ∧ Bg 65536 e1 e2 ∧ Bg 65536 f1 f2 | _ => True⟩
def c_rreal : Con := ⟨40, [.agg [.i64, .i64]], fun ns => match ns with | [a, b] => .int .i64 (2 * a - b) | _ => .bool true, fun ns => match ns with | [a, b] => Bg 1099511627776 a b | _ => True⟩
def c_restored : Con := ⟨30, [.agg [.i64, .i64, .i64, .i64, .i64, .i64]], fun ns => match ns with | [a1, a2, b1, b2, c1, c2] => .tuple #[.agg #[.int .i64 (cz (th (Pl.parts a1 a2 1048576) (Pl.parts b1 b2 1048576) (Pl.parts c1 c2 1048576)) (bif (okB (a1 + b1 + c1) (a2 + b2 + c2) (a1 + (b2 - b1) + -c2) (a2 + -b1 + (c1 - c2)) (a1 + -b2 + (c2 - c1)) (a2 + (b1 - b2) + -c1)) then (a1 + b1 + c1).tdiv 3 else 0)), .int .i64 (cz (th (Pl.parts a1 a2 1048576) (Pl.parts b1 b2 1048576) (Pl.parts c1 c2 1048576)) (bif (okB (a1 + b1 + c1) (a2 + b2 + c2) (a1 + (b2 - b1) + -c2) (a2 + -b1 + (c1 - c2)) (a1 + -b2 + (c2 - c1)) (a2 + (b1 - b2) + -c1)) then (a2 + b2 + c2).tdiv 3 else 0)), .int .i64 (cz (th (Pl.parts a1 a2 1048576) (Pl.parts b1 b2 1048576) (Pl.parts c1 c2 1048576)) (bif (okB (a1 + b1 + c1) (a2 + b2 + c2) (a1 + (b2 - b1) + -c2) (a2 + -b1 + (c1 - c2)) (a1 + -b2 + (c2 - c1)) (a2 + (b1 - b2) + -c1)) then (a1 + (b2 - b1) + -c2).tdiv 3 else 0)), .int .i64 (cz (th (Pl.parts a1 a2 1048576) (Pl.parts b1 b2 1048576) (Pl.parts c1 c2 1048576)) (bif (okB (a1 + b1 + c1) (a2 + b2 + c2) (a1 + (b2 - b1) + -c2) (a2 + -b1 + (c1 - c2)) (a1 + -b2 + (c2 - c1)) (a2 + (b1 - b2) + -c1)) then (a2 + -b1 + (c1 - c2)).tdiv 3 else 0)), .int .i64 (cz (th (Pl.parts a1 a2 1048576) (Pl.parts b1 b2 1048576) (Pl.parts c1 c2 1048576)) (bif (okB (a1 + b1 + c1) (a2 + b2 + c2) (a1 + (b2 - b1) + -c2) (a2 + -b1 + (c1 - c2)) (a1 + -b2 + (c2 - c1)) (a2 + (b1 - b2) + -c1)) then (a1 + -b2 + (c2 - c1)).tdiv 3 else 0)), .int .i64 (cz (th (Pl.parts a1 a2 1048576) (Pl.parts b1 b2 1048576) (Pl.parts c1 c2 1048576)) (bif (okB (a1 + b1 + c1) (a2 + b2 + c2) (a1 + (b2 - b1) + -c2) (a2 + -b1 + (c1 - c2)) (a1 + -b2 + (c2 - c1)) (a2 + (b1 - b2) + -c1)) then (a2 + (b1 - b2) + -c1).tdiv 3 else 0))], .int .i64 (if (th (Pl.parts a1 a2 1048576) (Pl.parts b1 b2 1048576) (Pl.parts c1 c2 1048576)) = 0 then (bif (okB (a1 + b1 + c1) (a2 + b2 + c2) (a1 + (b2 - b1) + -c2) (a2 + -b1 + (c1 - c2)) (a1 + -b2 + (c2 - c1)) (a2 + (b1 - b2) + -c1)) then 0 else 1) else (th (Pl.parts a1 a2 1048576) (Pl.parts b1 b2 1048576) (Pl.parts c1 c2 1048576)))] | _ => .bool true, fun ns => match ns with | [a1, a2, b1, b2, c1, c2] => True | _ => True⟩
def c_rrestored : Con := ⟨37, [.agg [.i64, .i64, .i64, .i64, .i64, .i64]], fun ns => match ns with | [a1, a2, b1, b2, c1, c2] => .tuple #[.agg #[.int .i64 (cz 0 (bif (okB (a1 + b1 + c1) (a2 + b2 + c2) (a1 + (b2 - b1) + -c2) (a2 + -b1 + (c1 - c2)) (a1 + -b2 + (c2 - c1)) (a2 + (b1 - b2) + -c1)) then (a1 + b1 + c1).tdiv 3 else 0)), .int .i64 (cz 0 (bif (okB (a1 + b1 + c1) (a2 + b2 + c2) (a1 + (b2 - b1) + -c2) (a2 + -b1 + (c1 - c2)) (a1 + -b2 + (c2 - c1)) (a2 + (b1 - b2) + -c1)) then (a2 + b2 + c2).tdiv 3 else 0)), .int .i64 (cz 0 (bif (okB (a1 + b1 + c1) (a2 + b2 + c2) (a1 + (b2 - b1) + -c2) (a2 + -b1 + (c1 - c2)) (a1 + -b2 + (c2 - c1)) (a2 + (b1 - b2) + -c1)) then (a1 + (b2 - b1) + -c2).tdiv 3 else 0)), .int .i64 (cz 0 (bif (okB (a1 + b1 + c1) (a2 + b2 + c2) (a1 + (b2 - b1) + -c2) (a2 + -b1 + (c1 - c2)) (a1 + -b2 + (c2 - c1)) (a2 + (b1 - b2) + -c1)) then (a2 + -b1 + (c1 - c2)).tdiv 3 else 0)), .int .i64 (cz 0 (bif (okB (a1 + b1 + c1) (a2 + b2 + c2) (a1 + (b2 - b1) + -c2) (a2 + -b1 + (c1 - c2)) (a1 + -b2 + (c2 - c1)) (a2 + (b1 - b2) + -c1)) then (a1 + -b2 + (c2 - c1)).tdiv 3 else 0)), .int .i64 (cz 0 (bif (okB (a1 + b1 + c1) (a2 + b2 + c2) (a1 + (b2 - b1) + -c2) (a2 + -b1 + (c1 - c2)) (a1 + -b2 + (c2 - c1)) (a2 + (b1 - b2) + -c1)) then (a2 + (b1 - b2) + -c1).tdiv 3 else 0))], .int .i64 (if 0 = 0 then (bif (okB (a1 + b1 + c1) (a2 + b2 + c2) (a1 + (b2 - b1) + -c2) (a2 + -b1 + (c1 - c2)) (a1 + -b2 + (c2 - c1)) (a2 + (b1 - b2) + -c1)) then 0 else 1) else 0)] | _ => .bool true, fun ns => match ns with | [a1, a2, b1, b2, c1, c2] => Bg 1048576 a1 a2 ∧ Bg 1048576 b1 b2 ∧ Bg 1048576 c1 c2 | _ => True⟩
noncomputable def x_checkPhase : CallS := kAll [c_range]
noncomputable def checkPhase_e0 (a b : Int) : Option OutS := evFS Tryz.prog x_checkPhase 1000 76 #[.agg #[.int .i64 a, .int .i64 b]] (noTabs 6) ⟨[1, 0, 0, 1, 1, 0, 0], True⟩
noncomputable def checkPhase_e1 (a b : Int) : Option OutS := evFS Tryz.prog x_checkPhase 1000 76 #[.agg #[.int .i64 a, .int .i64 b]] (noTabs 6) ⟨[1, 0, 1], True⟩
noncomputable def checkPhase_e2 (a b : Int) : Option OutS := evFS Tryz.prog x_checkPhase 1000 76 #[.agg #[.int .i64 a, .int .i64 b]] (noTabs 6) ⟨[1, 0, 0, 1, 1, 1], True⟩
noncomputable def x_checkPhases : CallS := kAll [c_checkPhase]
noncomputable def checkPhases_e0 (a1 a2 b1 b2 c1 c2 : Int) : Option OutS := evFS Tryz.prog x_checkPhases 1000 39 #[.agg #[.int .i64 a1, .int .i64 a2, .int .i64 b1, .int .i64 b2, .int .i64 c1, .int .i64 c2]] (noTabs 6) ⟨[1, 0, 0, 1, 1, 0, 1, 2, 0, 0], True⟩
noncomputable def checkPhases_e1 (a1 a2 b1 b2 c1 c2 : Int) : Option OutS := evFS Tryz.prog x_checkPhases 1000 39 #[.agg #[.int .i64 a1, .int .i64 a2, .int .i64 b1, .int .i64 b2, .int .i64 c1, .int .i64 c2]] (noTabs 6) ⟨[1, 0, 1], True⟩
noncomputable def checkPhases_e2 (a1 a2 b1 b2 c1 c2 : Int) : Option OutS := evFS Tryz.prog x_checkPhases 1000 39 #[.agg #[.int .i64 a1, .int .i64 a2, .int .i64 b1, .int .i64 b2, .int .i64 c1, .int .i64 c2]] (noTabs 6) ⟨[1, 0, 0, 1, 1, 0, 1, 2, 1], True⟩
noncomputable def checkPhases_e3 (a1 a2 b1 b2 c1 c2 : Int) : Option OutS := evFS Tryz.prog x_checkPhases 1000 39 #[.agg #[.int .i64 a1, .int .i64 a2, .int .i64 b1, .int .i64 b2, .int .i64 c1, .int .i64 c2]] (noTabs 6) ⟨[1, 0, 0, 1, 1, 1], True⟩
noncomputable def x_rpart16 : CallS := kAll [c_rrange]
noncomputable def rpart16_e0 (a b m : Int) : Option OutS := evFS Tryz.prog x_rpart16 1000 54 #[.agg #[.int .i64 a, .int .i64 b], .int .i64 m] (noTabs 6) ⟨[1, 0, 0, 1, 1, 0, 0], True⟩
noncomputable def rpart16_e1 (a b m : Int) : Option OutS := evFS Tryz.prog x_rpart16 1000 54 #[.agg #[.int .i64 a, .int .i64 b], .int .i64 m] (noTabs 6) ⟨[1, 0, 0, 1, 1, 1, 1], True⟩
noncomputable def rpart16_e2 (a b m : Int) : Option OutS := evFS Tryz.prog x_rpart16 1000 54 #[.agg #[.int .i64 a, .int .i64 b], .int .i64 m] (noTabs 6) ⟨[1, 0, 1, 0], True⟩
noncomputable def x_rcheckPhases : CallS := kAll [c_rpart16]
noncomputable def rcheckPhases_e0 (a1 a2 b1 b2 c1 c2 : Int) : Option OutS := evFS Tryz.prog x_rcheckPhases 1000 33 #[.agg #[.int .i64 a1, .int .i64 a2, .int .i64 b1, .int .i64 b2, .int .i64 c1, .int .i64 c2]] (noTabs 6) ⟨[0, 1, 2, 1, 0, 1, 0], True⟩
noncomputable def rcheckPhases_e1 (a1 a2 b1 b2 c1 c2 : Int) : Option OutS := evFS Tryz.prog x_rcheckPhases 1000 33 #[.agg #[.int .i64 a1, .int .i64 a2, .int .i64 b1, .int .i64 b2, .int .i64 c1, .int .i64 c2]] (noTabs 6) ⟨[0, 1, 2, 1, 0, 0, 1, 1, 0, 1, 2, 0, 0], True⟩
noncomputable def rcheckPhases_e2 (a1 a2 b1 b2 c1 c2 : Int) : Option OutS := evFS Tryz.prog x_rcheckPhases 1000 33 #[.agg #[.int .i64 a1, .int .i64 a2, .int .i64 b1, .int .i64 b2, .int .i64 c1, .int .i64 c2]] (noTabs 6) ⟨[0, 1, 2, 1, 0, 0, 1, 1, 0, 1, 2, 1, 2], True⟩
noncomputable def rcheckPhases_e3 (a1 a2 b1 b2 c1 c2 : Int) : Option OutS := evFS Tryz.prog x_rcheckPhases 1000 33 #[.agg #[.int .i64 a1, .int .i64 a2, .int .i64 b1, .int .i64 b2, .int .i64 c1, .int .i64 c2]] (noTabs 6) ⟨[0, 1, 2, 1, 0, 0, 1, 1, 1, 1], True⟩
noncomputable def x_rcheckThree : CallS := kAll [c_rcheckEisen]
noncomputable def rcheckThree_e0 (a1 a2 b1 b2 c1 c2 : Int) : Option OutS := evFS Tryz.prog x_rcheckThree 1000 34 #[.agg #[.int .i64 a1, .int .i64 a2, .int .i64 b1, .int .i64 b2, .int .i64 c1, .int .i64 c2]] (noTabs 6) ⟨[0, 1, 2, 1, 0, 1, 0], True⟩
noncomputable def rcheckThree_e1 (a1 a2 b1 b2 c1 c2 : Int) : Option OutS := evFS Tryz.prog x_rcheckThree 1000 34 #[.agg #[.int .i64 a1, .int .i64 a2, .int .i64 b1, .int .i64 b2, .int .i64 c1, .int .i64 c2]] (noTabs 6) ⟨[0, 1, 2, 1, 0, 0, 1, 1, 0, 1, 2, 0, 0], True⟩
noncomputable def rcheckThree_e2 (a1 a2 b1 b2 c1 c2 : Int) : Option OutS := evFS Tryz.prog x_rcheckThree 1000 34 #[.agg #[.int .i64 a1, .int .i64 a2, .int .i64 b1, .int .i64 b2, .int .i64 c1, .int .i64 c2]] (noTabs 6) ⟨[0, 1, 2, 1, 0, 0, 1, 1, 1, 1], True⟩
noncomputable def rcheckThree_e3 (a1 a2 b1 b2 c1 c2 : Int) : Option OutS := evFS Tryz.prog x_rcheckThree 1000 34 #[.agg #[.int .i64 a1, .int .i64 a2, .int .i64 b1, .int .i64 b2, .int .i64 c1, .int .i64 c2]] (noTabs 6) ⟨[0, 1, 2, 1, 0, 0, 1, 1, 0, 1, 2, 1, 2], True⟩
noncomputable def x_components0 : CallS := kAll [c_turn, c_sum]
noncomputable def components0_e0 (a1 a2 b1 b2 c1 c2 : Int) : Option OutS := evFS Tryz.prog x_components0 1000 67 #[.agg #[.int .i64 a1, .int .i64 a2, .int .i64 b1, .int .i64 b2, .int .i64 c1, .int .i64 c2]] (noTabs 6) ⟨[1, 1, 0, 0, 0, 1, 0, 1, 0, 1, 0, 2, 0, 0, 1, 1, 1, 0, 1, 1, 1, 1, 1, 1, 1, 2, 1, 0, 1, 1, 2, 0, 2, 1, 2, 1, 2, 1, 2, 2, 2, 0, 0], True⟩
noncomputable def x_components : CallS := kAll [c_checkPhases, c_components0]
noncomputable def components_e0 (a1 a2 b1 b2 c1 c2 : Int) : Option OutS := evFS Tryz.prog x_components 1000 29 #[.agg #[.int .i64 a1, .int .i64 a2, .int .i64 b1, .int .i64 b2, .int .i64 c1, .int .i64 c2]] (noTabs 6) ⟨[0], True⟩
noncomputable def components_e1 (a1 a2 b1 b2 c1 c2 : Int) : Option OutS := evFS Tryz.prog x_components 1000 29 #[.agg #[.int .i64 a1, .int .i64 a2, .int .i64 b1, .int .i64 b2, .int .i64 c1, .int .i64 c2]] (noTabs 6) ⟨[1], True⟩
noncomputable def x_conj : CallS := kAll []
noncomputable def conj_e0 (a b : Int) : Option OutS := evFS Tryz.prog x_conj 1000 72 #[.agg #[.int .i64 a, .int .i64 b]] (noTabs 6) ⟨[], True⟩
noncomputable def x_rbar : CallS := kAll []
noncomputable def rbar_e0 (a b : Int) : Option OutS := evFS Tryz.prog x_rbar 1000 75 #[.agg #[.int .i64 a, .int .i64 b]] (noTabs 6) ⟨[], True⟩
noncomputable def x_rmixed1 : CallS := kAll [c_rprod, c_rsum]
noncomputable def rmixed1_e0 (a1 a2 b1 b2 c1 c2 : Int) : Option OutS := evFS Tryz.prog x_rmixed1 1000 35 #[.agg #[.int .i64 a1, .int .i64 a2, .int .i64 b1, .int .i64 b2, .int .i64 c1, .int .i64 c2]] (noTabs 6) ⟨[0, 1, 2, 0, 1, 2, 0, 1, 2], True⟩
noncomputable def x_balanced : CallS := kAll [c_components]
noncomputable def balanced_e0 (a1 a2 b1 b2 c1 c2 : Int) : Option OutS := evFS Tryz.prog x_balanced 1000 31 #[.agg #[.int .i64 a1, .int .i64 a2, .int .i64 b1, .int .i64 b2, .int .i64 c1, .int .i64 c2]] (noTabs 6) ⟨[1], True⟩
noncomputable def balanced_e1 (a1 a2 b1 b2 c1 c2 : Int) : Option OutS := evFS Tryz.prog x_balanced 1000 31 #[.agg #[.int .i64 a1, .int .i64 a2, .int .i64 b1, .int .i64 b2, .int .i64 c1, .int .i64 c2]] (noTabs 6) ⟨[0, 1], True⟩
noncomputable def x_rbalanced : CallS := kAll [c_rmixed1]
noncomputable def rbalanced_e0 (a1 a2 b1 b2 c1 c2 : Int) : Option OutS := evFS Tryz.prog x_rbalanced 1000 36 #[.agg #[.int .i64 a1, .int .i64 a2, .int .i64 b1, .int .i64 b2, .int .i64 c1, .int .i64 c2]] (noTabs 6) ⟨[0, 0, 0, 0, 0, 0], True⟩
noncomputable def rbalanced_e1 (a1 a2 b1 b2 c1 c2 : Int) : Option OutS := evFS Tryz.prog x_rbalanced 1000 36 #[.agg #[.int .i64 a1, .int .i64 a2, .int .i64 b1, .int .i64 b2, .int .i64 c1, .int .i64 c2]] (noTabs 6) ⟨[0, 1, 2, 1, 1, 1, 1], True⟩
noncomputable def x_power : CallS := kAll [c_checkPhases, c_sum, c_prod, c_conj]
noncomputable def power_e0 (a1 a2 b1 b2 c1 c2 d1 d2 e1 e2 f1 f2 : Int) : Option OutS := evFS Tryz.prog x_power 1000 32 #[.agg #[.int .i64 a1, .int .i64 a2, .int .i64 b1, .int .i64 b2, .int .i64 c1, .int .i64 c2], .agg #[.int .i64 d1, .int .i64 d2, .int .i64 e1, .int .i64 e2, .int .i64 f1, .int .i64 f2]] (noTabs 6) ⟨[1, 0, 1, 1], True⟩
noncomputable def power_e1 (a1 a2 b1 b2 c1 c2 d1 d2 e1 e2 f1 f2 : Int) : Option OutS := evFS Tryz.prog x_power 1000 32 #[.agg #[.int .i64 a1, .int .i64 a2, .int .i64 b1, .int .i64 b2, .int .i64 c1, .int .i64 c2], .agg #[.int .i64 d1, .int .i64 d2, .int .i64 e1, .int .i64 e2, .int .i64 f1, .int .i64 f2]] (noTabs 6) ⟨[1, 0, 0, 1, 1, 1, 1], True⟩
noncomputable def power_e2 (a1 a2 b1 b2 c1 c2 d1 d2 e1 e2 f1 f2 : Int) : Option OutS := evFS Tryz.prog x_power 1000 32 #[.agg #[.int .i64 a1, .int .i64 a2, .int .i64 b1, .int .i64 b2, .int .i64 c1, .int .i64 c2], .agg #[.int .i64 d1, .int .i64 d2, .int .i64 e1, .int .i64 e2, .int .i64 f1, .int .i64 f2]] (noTabs 6) ⟨[1, 0, 0, 1, 1, 0, 0, 0, 1, 0, 0, 1, 1, 1, 1, 2, 2, 0], True⟩
noncomputable def x_rpower : CallS := kAll [c_rsum, c_rprod, c_rbar]
noncomputable def rpower_e0 (a1 a2 b1 b2 c1 c2 d1 d2 e1 e2 f1 f2 : Int) : Option OutS := evFS Tryz.prog x_rpower 1000 38 #[.agg #[.int .i64 a1, .int .i64 a2, .int .i64 b1, .int .i64 b2, .int .i64 c1, .int .i64 c2], .agg #[.int .i64 d1, .int .i64 d2, .int .i64 e1, .int .i64 e2, .int .i64 f1, .int .i64 f2]] (noTabs 6) ⟨[1, 0, 0, 1, 1, 1, 1, 2, 2, 0], True⟩
noncomputable def x_rreal : CallS := kAll []
noncomputable def rreal_e0 (a b : Int) : Option OutS := evFS Tryz.prog x_rreal 1000 40 #[.agg #[.int .i64 a, .int .i64 b]] (noTabs 6) ⟨[], True⟩
noncomputable def x_restored : CallS := kAll [c_checkEisen, c_turn, c_sum, c_checkPhases, c_components0]
noncomputable def restored_e0 (a1 a2 b1 b2 c1 c2 : Int) : Option OutS := evFS Tryz.prog x_restored 1000 30 #[.agg #[.int .i64 a1, .int .i64 a2, .int .i64 b1, .int .i64 b2, .int .i64 c1, .int .i64 c2]] (noTabs 6) ⟨[1, 0, 1, 1], True⟩
noncomputable def restored_e1 (a1 a2 b1 b2 c1 c2 : Int) : Option OutS := evFS Tryz.prog x_restored 1000 30 #[.agg #[.int .i64 a1, .int .i64 a2, .int .i64 b1, .int .i64 b2, .int .i64 c1, .int .i64 c2]] (noTabs 6) ⟨[1, 0, 0, 1, 1, 0, 1, 2, 0, 0, 0, 1, 1, 0, 0, 0, 1, 0, 1, 0, 1, 0, 2, 0, 0, 1, 1, 1, 0, 1, 1, 1, 1, 1, 1, 1, 2, 1, 0, 1, 1, 2, 0, 2, 1, 2, 1, 2, 1, 2, 2, 2, 0, 0, 1, 0, 0, 1, 1, 1, 1, 2, 2, 0, 0, 0, 0, 0, 1, 1], True⟩
noncomputable def restored_e2 (a1 a2 b1 b2 c1 c2 : Int) : Option OutS := evFS Tryz.prog x_restored 1000 30 #[.agg #[.int .i64 a1, .int .i64 a2, .int .i64 b1, .int .i64 b2, .int .i64 c1, .int .i64 c2]] (noTabs 6) ⟨[1, 0, 0, 1, 1, 0, 1, 2, 0, 0, 0, 1, 1, 0, 0, 0, 1, 0, 1, 0, 1, 0, 2, 0, 0, 1, 1, 1, 0, 1, 1, 1, 1, 1, 1, 1, 2, 1, 0, 1, 1, 2, 0, 2, 1, 2, 1, 2, 1, 2, 2, 2, 0, 0, 1, 0, 0, 1, 1, 1, 1, 2, 2, 0, 1, 1, 1, 1, 0, 1], True⟩
noncomputable def restored_e3 (a1 a2 b1 b2 c1 c2 : Int) : Option OutS := evFS Tryz.prog x_restored 1000 30 #[.agg #[.int .i64 a1, .int .i64 a2, .int .i64 b1, .int .i64 b2, .int .i64 c1, .int .i64 c2]] (noTabs 6) ⟨[1, 0, 0, 1, 1, 1, 1], True⟩
noncomputable def restored_e4 (a1 a2 b1 b2 c1 c2 : Int) : Option OutS := evFS Tryz.prog x_restored 1000 30 #[.agg #[.int .i64 a1, .int .i64 a2, .int .i64 b1, .int .i64 b2, .int .i64 c1, .int .i64 c2]] (noTabs 6) ⟨[1, 0, 0, 1, 1, 0, 1, 2, 1, 1], True⟩
noncomputable def restored_e5 (a1 a2 b1 b2 c1 c2 : Int) : Option OutS := evFS Tryz.prog x_restored 1000 30 #[.agg #[.int .i64 a1, .int .i64 a2, .int .i64 b1, .int .i64 b2, .int .i64 c1, .int .i64 c2]] (noTabs 6) ⟨[1, 0, 0, 1, 1, 0, 1, 2, 0, 0, 0, 1, 1, 0, 0, 0, 1, 0, 1, 0, 1, 0, 2, 0, 0, 1, 1, 1, 0, 1, 1, 1, 1, 1, 1, 1, 2, 1, 0, 1, 1, 2, 0, 2, 1, 2, 1, 2, 1, 2, 2, 2, 0, 0, 1, 0, 0, 1, 1, 1, 1, 2, 2, 0, 1, 1, 1, 1, 0, 0], True⟩
noncomputable def x_rrestored : CallS := kAll [c_rprod, c_rsum, c_rcheckPhases]
noncomputable def rrestored_e0 (a1 a2 b1 b2 c1 c2 : Int) : Option OutS := evFS Tryz.prog x_rrestored 1000 37 #[.agg #[.int .i64 a1, .int .i64 a2, .int .i64 b1, .int .i64 b2, .int .i64 c1, .int .i64 c2]] (noTabs 6) ⟨[0, 1, 2, 0, 1, 2, 0, 1, 2, 1, 0, 0, 0, 0, 0, 0, 0, 1, 1], True⟩
noncomputable def rrestored_e1 (a1 a2 b1 b2 c1 c2 : Int) : Option OutS := evFS Tryz.prog x_rrestored 1000 37 #[.agg #[.int .i64 a1, .int .i64 a2, .int .i64 b1, .int .i64 b2, .int .i64 c1, .int .i64 c2]] (noTabs 6) ⟨[0, 1, 2, 0, 1, 2, 0, 1, 2, 1, 0, 1, 1, 0, 1, 1, 1, 1, 0, 1], True⟩
noncomputable def rrestored_e2 (a1 a2 b1 b2 c1 c2 : Int) : Option OutS := evFS Tryz.prog x_rrestored 1000 37 #[.agg #[.int .i64 a1, .int .i64 a2, .int .i64 b1, .int .i64 b2, .int .i64 c1, .int .i64 c2]] (noTabs 6) ⟨[0, 1, 2, 0, 1, 2, 0, 1, 2, 1, 0, 1, 1, 0, 1, 1, 1, 1, 0, 0, 0, 0, 0, 1, 1, 1, 1, 1, 1, 1, 1, 1, 0, 0, 1, 1, 1, 1, 2, 1, 1, 2, 1, 1, 1, 1, 0, 0, 2, 2, 2, 0, 0], True⟩
noncomputable def rrestored_e3 (a1 a2 b1 b2 c1 c2 : Int) : Option OutS := evFS Tryz.prog x_rrestored 1000 37 #[.agg #[.int .i64 a1, .int .i64 a2, .int .i64 b1, .int .i64 b2, .int .i64 c1, .int .i64 c2]] (noTabs 6) ⟨[0, 1, 2, 0, 1, 2, 0, 1, 2, 1, 0, 1, 1, 0, 1, 1, 1, 1, 0, 0, 0, 0, 0, 1, 1, 0, 0, 0, 0, 0, 0, 1, 1], True⟩
noncomputable def rrestored_e4 (a1 a2 b1 b2 c1 c2 : Int) : Option OutS := evFS Tryz.prog x_rrestored 1000 37 #[.agg #[.int .i64 a1, .int .i64 a2, .int .i64 b1, .int .i64 b2, .int .i64 c1, .int .i64 c2]] (noTabs 6) ⟨[0, 1, 2, 0, 1, 2, 0, 1, 2, 1, 0, 1, 1, 0, 1, 1, 1, 1, 0, 0, 0, 0, 0, 1, 1, 1, 1, 1, 1, 1, 1, 1, 0, 0, 1, 1, 1, 1, 2, 1, 1, 2, 1, 1, 1, 1, 0, 0, 2, 2, 2, 0, 1], True⟩
end Go.Proofs.YtledgemlflbfdaaGreatDoor
end
section
set_option linter.all false
set_option maxRecDepth 1000000
open Go.RowKit
namespace Go.Proofs.YtledgemlflbfdaaGreatDoor
open Mini

theorem parts_in {p : Int × Int} (h : Pl.inB 1048576 p) : Pl.parts p.1 p.2 1048576 = 0 := parts_zero.2 h
theorem lim_inB {p : Int × Int} (h : Pl.inB 1048576 p) : Pl.lim p = (p, 0) := if_pos h
theorem parts_bg {a b m : Int} (h : Bg m a b) : Pl.parts a b m = 0 := parts_zero.2 h
theorem cr_zero {n lo hi : Int} (h : lo ≤ n ∧ n ≤ hi) : Pl.cr n lo hi = 0 := by unfold Pl.cr; rw [if_neg (by omega)]

def c_addS : Con := ⟨9, [.agg [.i64, .i64], .agg [.i64, .i64]], fun ns => match ns with | [a, b, c, d] => .tuple #[.agg #[.int .i64 (Pl.add (a, b) (c, d)).1, .int .i64 (Pl.add (a, b) (c, d)).2], .int .i64 0] | _ => .bool true, fun ns => match ns with | [a, b, c, d] => Pl.inB 1048576 (a, b) ∧ Pl.inB 1048576 (c, d) ∧ Pl.inB 1048576 (Pl.add (a, b) (c, d)) | _ => True⟩
def c_mulS : Con := ⟨10, [.agg [.i64, .i64], .agg [.i64, .i64]], fun ns => match ns with | [a, b, c, d] => .tuple #[.agg #[.int .i64 (Pl.mul (a, b) (c, d)).1, .int .i64 (Pl.mul (a, b) (c, d)).2], .int .i64 0] | _ => .bool true, fun ns => match ns with | [a, b, c, d] => Pl.inB 1048576 (a, b) ∧ Pl.inB 1048576 (c, d) ∧ Pl.inB 1048576 (Pl.mul (a, b) (c, d)) | _ => True⟩
def c_turnedS : Con := ⟨11, [.agg [.i64, .i64], .int .i64], fun ns => match ns with | [a, b, n] => .tuple #[.agg #[.int .i64 (Pl.turn (a, b) n).1, .int .i64 (Pl.turn (a, b) n).2], .int .i64 0] | _ => .bool true, fun ns => match ns with | [a, b, n] => Pl.inB 1048576 (a, b) ∧ (-1000000 ≤ n ∧ n ≤ 1000000) ∧ Pl.inB 1048576 (Pl.turn (a, b) n) | _ => True⟩
def c_normS : Con := ⟨12, [.agg [.i64, .i64]], fun ns => match ns with | [a, b] => .tuple #[.int .i64 (Pl.norm (a, b)), .int .i64 0] | _ => .bool true, fun ns => match ns with | [a, b] => Pl.inB 1048576 (a, b) | _ => True⟩
def c_rcheckS : Con := ⟨13, [.agg [.i64, .i64]], fun ns => match ns with | [a, b] => .int .i64 0 | _ => .bool true, fun ns => match ns with | [a, b] => Pl.inB 1048576 (a, b) | _ => True⟩
def c_componentsS : Con := ⟨29, [.agg [.i64, .i64, .i64, .i64, .i64, .i64]], fun ns => match ns with | [a1, a2, b1, b2, c1, c2] => .tuple #[.agg #[.int .i64 (a1 + b1 + c1), .int .i64 (a2 + b2 + c2), .int .i64 (a1 - b2 + (c2 - c1)), .int .i64 (a2 + (b1 - b2) - c1), .int .i64 (a1 + (b2 - b1) - c2), .int .i64 (a2 - b1 + (c1 - c2))], .int .i64 0] | _ => .bool true, fun ns => match ns with | [a1, a2, b1, b2, c1, c2] => Bg 65536 a1 a2 ∧ Bg 65536 b1 b2 ∧ Bg 65536 c1 c2 | _ => True⟩
def c_balancedS : Con := ⟨31, [.agg [.i64, .i64, .i64, .i64, .i64, .i64]], fun ns => match ns with | [a1, a2, b1, b2, c1, c2] => .tuple #[.bool (balB 0 (a1 + b1 + c1) (a2 + b2 + c2) (a1 + (b2 - b1) - c2) (a2 - b1 + (c1 - c2))), .int .i64 0] | _ => .bool true, fun ns => match ns with | [a1, a2, b1, b2, c1, c2] => Bg 65536 a1 a2 ∧ Bg 65536 b1 b2 ∧ Bg 65536 c1 c2 | _ => True⟩
def c_powerS : Con := ⟨32, [.agg [.i64, .i64, .i64, .i64, .i64, .i64], .agg [.i64, .i64, .i64, .i64, .i64, .i64]], fun ns => match ns with | [a1, a2, b1, b2, c1, c2, d1, d2, e1, e2, f1, f2] => .tuple #[.agg #[.int .i64 ((Pl.mul (a1, a2) (d1 - d2, -d2)).1 + (Pl.mul (b1, b2) (e1 - e2, -e2)).1 + (Pl.mul (c1, c2) (f1 - f2, -f2)).1), .int .i64 ((Pl.mul (a1, a2) (d1 - d2, -d2)).2 + (Pl.mul (b1, b2) (e1 - e2, -e2)).2 + (Pl.mul (c1, c2) (f1 - f2, -f2)).2)], .int .i64 (2 * ((Pl.mul (a1, a2) (d1 - d2, -d2)).1 + (Pl.mul (b1, b2) (e1 - e2, -e2)).1 + (Pl.mul (c1, c2) (f1 - f2, -f2)).1) - ((Pl.mul (a1, a2) (d1 - d2, -d2)).2 + (Pl.mul (b1, b2) (e1 - e2, -e2)).2 + (Pl.mul (c1, c2) (f1 - f2, -f2)).2)), .int .i64 0] | _ => .bool true, fun ns => match ns with | [a1, a2, b1, b2, c1, c2, d1, d2, e1, e2, f1, f2] => Bg 65536 a1 a2 ∧ Bg 65536 b1 b2 ∧ Bg 65536 c1 c2 ∧ Bg 65536 d1 d2 ∧ Bg 65536 e1 e2 ∧ Bg 65536 f1 f2 | _ => True⟩
def c_restoredS : Con := ⟨30, [.agg [.i64, .i64, .i64, .i64, .i64, .i64]], fun ns => match ns with | [a1, a2, b1, b2, c1, c2] => .tuple #[.agg #[.int .i64 ((a1 + b1 + c1).tdiv 3), .int .i64 ((a2 + b2 + c2).tdiv 3), .int .i64 ((a1 + (b2 - b1) + -c2).tdiv 3), .int .i64 ((a2 + -b1 + (c1 - c2)).tdiv 3), .int .i64 ((a1 + -b2 + (c2 - c1)).tdiv 3), .int .i64 ((a2 + (b1 - b2) + -c1).tdiv 3)], .int .i64 0] | _ => .bool true, fun ns => match ns with | [a1, a2, b1, b2, c1, c2] => (Bg 1048576 a1 a2 ∧ Bg 1048576 b1 b2 ∧ Bg 1048576 c1 c2) ∧ ((a1 + b1 + c1) % 3 = 0 ∧ (a2 + b2 + c2) % 3 = 0 ∧ (a1 + (b2 - b1) + -c2) % 3 = 0 ∧ (a2 + -b1 + (c1 - c2)) % 3 = 0 ∧ (a1 + -b2 + (c2 - c1)) % 3 = 0 ∧ (a2 + (b1 - b2) + -c1) % 3 = 0) ∧ Bg 65536 ((a1 + b1 + c1).tdiv 3) ((a2 + b2 + c2).tdiv 3) ∧ Bg 65536 ((a1 + (b2 - b1) + -c2).tdiv 3) ((a2 + -b1 + (c1 - c2)).tdiv 3) ∧ Bg 65536 ((a1 + -b2 + (c2 - c1)).tdiv 3) ((a2 + (b1 - b2) + -c1).tdiv 3) | _ => True⟩
def c_rcheckThreeS : Con := ⟨34, [.agg [.i64, .i64, .i64, .i64, .i64, .i64]], fun ns => match ns with | [a1, a2, b1, b2, c1, c2] => .int .i64 0 | _ => .bool true, fun ns => match ns with | [a1, a2, b1, b2, c1, c2] => Bg 1048576 a1 a2 ∧ Bg 1048576 b1 b2 ∧ Bg 1048576 c1 c2 | _ => True⟩
end Go.Proofs.YtledgemlflbfdaaGreatDoor
end
section
set_option linter.all false
set_option maxRecDepth 1000000
open Go.RowKit
namespace Go.Proofs.YtledgemlflbfdaaGreatDoor
open Mini

theorem pow3 (a1 a2 b1 b2 c1 c2 d1 d2 e1 e2 f1 f2 : Int) : (Pl.mul ((a1 + b1 + c1), (a2 + b2 + c2)) ((d1 + e1 + f1) - (d2 + e2 + f2), -(d2 + e2 + f2))).1 + (Pl.mul ((a1 - b2 + (c2 - c1)), (a2 + (b1 - b2) - c1)) ((d1 - e2 + (f2 - f1)) - (d2 + (e1 - e2) - f1), -(d2 + (e1 - e2) - f1))).1 + (Pl.mul ((a1 + (b2 - b1) - c2), (a2 - b1 + (c1 - c2))) ((d1 + (e2 - e1) - f2) - (d2 - e1 + (f1 - f2)), -(d2 - e1 + (f1 - f2)))).1 = 3 * ((Pl.mul (a1, a2) (d1 - d2, -d2)).1 + (Pl.mul (b1, b2) (e1 - e2, -e2)).1 + (Pl.mul (c1, c2) (f1 - f2, -f2)).1) ∧ (Pl.mul ((a1 + b1 + c1), (a2 + b2 + c2)) ((d1 + e1 + f1) - (d2 + e2 + f2), -(d2 + e2 + f2))).2 + (Pl.mul ((a1 - b2 + (c2 - c1)), (a2 + (b1 - b2) - c1)) ((d1 - e2 + (f2 - f1)) - (d2 + (e1 - e2) - f1), -(d2 + (e1 - e2) - f1))).2 + (Pl.mul ((a1 + (b2 - b1) - c2), (a2 - b1 + (c1 - c2))) ((d1 + (e2 - e1) - f2) - (d2 - e1 + (f1 - f2)), -(d2 - e1 + (f1 - f2)))).2 = 3 * ((Pl.mul (a1, a2) (d1 - d2, -d2)).2 + (Pl.mul (b1, b2) (e1 - e2, -e2)).2 + (Pl.mul (c1, c2) (f1 - f2, -f2)).2) := by
  simp only [Pl.mul]
  constructor <;> grind
theorem tdc {x y : Int} (h : x = 3 * y) : x.tdiv 3 = y := by
  rw [h]
  exact Int.mul_tdiv_cancel_left _ (by omega)

noncomputable def x_lRing : CallS := bothX (kAll [c_addS, c_mulS, c_turnedS, c_normS, c_rcheckS]) (tabX awS0 23)
noncomputable def lRing_e0 (a1 a2 b1 b2 c1 c2 n : Int) : Option OutS := evFS Tryz.prog x_lRing 1000 6 #[.agg #[.int .i8 a1, .int .i8 a2, .int .i8 b1, .int .i8 b2, .int .i8 c1, .int .i8 c2], .int .i8 n] awS0 ⟨[0, 0, 1, 1, 0, 1, 2, 0, 1, 1, 1, 1, 0, 1, 1, 1, 0, 1, 1, 1, 1, 1, 1, 1, 1, 1, 1, 1, 1, 1, 0, 0, 0, 1, 1, 1, 0, 1, 1, 1, 1, 1, 0, 1, 1, 0, 1, 1, 1, 1, 1, 1, 0, 0, 1, 1, 1, 1, 1, 1, 1, 1, 1, 0, 1, 1, 1, 0, 1, 1, 1, 0, 0, 1, 1, 1, 1, 1, 1, 1, 1, 1, 1, 1, 1, 1, 1], True⟩
noncomputable def x_lSeq : CallS := bothX (kAll [c_componentsS, c_restoredS, c_powerS, c_balancedS, c_turnedS, c_rcheckThreeS]) (tabX awS0 23)
noncomputable def lSeq_e0 (a1 a2 b1 b2 c1 c2 d1 d2 e1 e2 f1 f2 : Int) : Option OutS := evFS Tryz.prog x_lSeq 1000 7 #[.agg #[.int .i8 a1, .int .i8 a2, .int .i8 b1, .int .i8 b2, .int .i8 c1, .int .i8 c2], .agg #[.int .i8 d1, .int .i8 d2, .int .i8 e1, .int .i8 e2, .int .i8 f1, .int .i8 f2]] awS0 ⟨[0, 1, 0, 1, 2, 3, 0, 1, 4, 5, 0, 1, 0, 1, 0, 1, 2, 3, 0, 1, 4, 5, 0, 1, 1, 1, 1, 0, 1, 1, 1, 0, 0, 1, 1, 1, 0, 1, 1, 1, 1, 1, 1, 1, 1, 1, 0, 1, 1, 1, 1, 0, 1, 1, 1, 1, 1, 1, 1, 1, 0, 0, 1, 0, 0, 0, 0, 0, 1, 1, 1, 0, 1, 1, 1, 2, 2, 0, 2, 2, 0, 0, 2, 1, 1, 2, 0, 2, 1, 1, 1, 1, 0, 1, 1, 0, 1, 1, 2, 1, 1, 1, 1, 1, 1, 0, 1, 1, 0, 1, 1, 1, 1, 1, 0, 1, 1, 0, 1, 1, 1, 1, 0, 0, 0, 0, 1, 0, 1, 0, 0, 0, 0, 0, 1, 1, 1, 1], True⟩
noncomputable def lSeq_e1 (a1 a2 b1 b2 c1 c2 d1 d2 e1 e2 f1 f2 : Int) : Option OutS := evFS Tryz.prog x_lSeq 1000 7 #[.agg #[.int .i8 a1, .int .i8 a2, .int .i8 b1, .int .i8 b2, .int .i8 c1, .int .i8 c2], .agg #[.int .i8 d1, .int .i8 d2, .int .i8 e1, .int .i8 e2, .int .i8 f1, .int .i8 f2]] awS0 ⟨[0, 1, 0, 1, 2, 3, 0, 1, 4, 5, 0, 1, 0, 1, 0, 1, 2, 3, 0, 1, 4, 5, 0, 1, 1, 1, 1, 0, 1, 1, 1, 0, 0, 1, 1, 1, 0, 1, 1, 1, 1, 1, 1, 1, 1, 1, 0, 1, 1, 1, 1, 0, 1, 1, 1, 1, 1, 1, 1, 1, 0, 0, 1, 0, 0, 0, 0, 0, 1, 1, 1, 0, 1, 1, 1, 2, 2, 0, 2, 2, 0, 0, 2, 1, 1, 2, 0, 2, 1, 1, 1, 1, 0, 1, 1, 0, 1, 1, 2, 1, 1, 1, 1, 1, 1, 0, 1, 1, 0, 1, 1, 1, 1, 1, 0, 1, 1, 0, 1, 1, 1, 1, 1, 2, 1, 1, 1, 1, 1, 1, 0, 0, 0, 0, 0, 1, 1, 1, 1], True⟩
end Go.Proofs.YtledgemlflbfdaaGreatDoor
end
section
set_option linter.all false
set_option maxRecDepth 1000000
set_option maxHeartbeats 2000000
open Go.RowKit
namespace Go.Proofs.YtledgemlflbfdaaGreatDoor
open Mini

def range_val (n lo hi : Int) : Value := .int .i64 (Pl.cr n lo hi)
theorem range_X : FOkS Tryz.prog x_range := noXS_ok
theorem range_args (n lo hi : Int) : (#[.int .i64 n, .int .i64 lo, .int .i64 hi] : Array Value).toList.all (ground 8) = true := by kernel_rfl
def range_c0 (n lo hi : Int) : Bool := (decide (n < lo))
theorem range_g1 : (Bool.true = Bool.true) := by first | rfl | trivial | decide | omega
def range_c1 (n lo hi : Int) : Bool := (decide (n > hi))
def range_w0 (n lo hi : Int) : Value := .int .i64 (3 : Int)
def range_r0 (n lo hi : Int) : Prop := (((((True ∧ (range_c0 n lo hi = true)) ∧ (range_c0 n lo hi = true)) ∧ (range_c0 n lo hi = true)) ∧ (range_c0 n lo hi = true)) ∧ ((Bool.true = Bool.true)))
theorem range_o0 (n lo hi : Int) : obOf (range_e0 n lo hi) = range_r0 n lo hi := by kernel_rfl
theorem range_v0 (n lo hi : Int) : resOf (range_e0 n lo hi) = range_w0 n lo hi := by kernel_rfl
theorem range_k0 (n lo hi : Int) : cleanOf Tryz.prog.globals.size (range_e0 n lo hi) = true := by kernel_rfl
theorem range_q0 (n lo hi : Int) : range_e0 n lo hi = evFS Tryz.prog x_range 1000 79 #[.int .i64 n, .int .i64 lo, .int .i64 hi] (noTabs 6) ⟨[0, 0, 0, 1, 1], True⟩ := by
  delta range_e0
  exact Eq.refl _
theorem range_p0 (n lo hi : Int) (h : range_r0 n lo hi) (w : World) : Calls Tryz.prog 79 #[.int .i64 n, .int .i64 lo, .int .i64 hi] w fun en w' => en = .returned (range_w0 n lo hi) ∧ Below w.heap.size w w' := by
  have hv := range_v0 n lo hi
  have hc := range_k0 n lo hi
  have he := range_q0 n lo hi
  have ho := range_o0 n lo hi
  generalize range_e0 n lo hi = r at *
  exact calls_way he gfol range_X hv rfl (range_args n lo hi) hc ho h (bl w)
def range_w1 (n lo hi : Int) : Value := .int .i64 (3 : Int)
def range_r1 (n lo hi : Int) : Prop := (((((True ∧ (range_c0 n lo hi = false)) ∧ (range_c0 n lo hi = false)) ∧ (range_c0 n lo hi = false)) ∧ (range_c0 n lo hi = false)) ∧ (range_c1 n lo hi = true))
theorem range_o1 (n lo hi : Int) : obOf (range_e1 n lo hi) = range_r1 n lo hi := by kernel_rfl
theorem range_v1 (n lo hi : Int) : resOf (range_e1 n lo hi) = range_w1 n lo hi := by kernel_rfl
theorem range_k1 (n lo hi : Int) : cleanOf Tryz.prog.globals.size (range_e1 n lo hi) = true := by kernel_rfl
theorem range_q1 (n lo hi : Int) : range_e1 n lo hi = evFS Tryz.prog x_range 1000 79 #[.int .i64 n, .int .i64 lo, .int .i64 hi] (noTabs 6) ⟨[1, 1, 1, 0, 1], True⟩ := by
  delta range_e1
  exact Eq.refl _
theorem range_p1 (n lo hi : Int) (h : range_r1 n lo hi) (w : World) : Calls Tryz.prog 79 #[.int .i64 n, .int .i64 lo, .int .i64 hi] w fun en w' => en = .returned (range_w1 n lo hi) ∧ Below w.heap.size w w' := by
  have hv := range_v1 n lo hi
  have hc := range_k1 n lo hi
  have he := range_q1 n lo hi
  have ho := range_o1 n lo hi
  generalize range_e1 n lo hi = r at *
  exact calls_way he gfol range_X hv rfl (range_args n lo hi) hc ho h (bl w)
def range_w2 (n lo hi : Int) : Value := .int .i64 (0 : Int)
def range_r2 (n lo hi : Int) : Prop := (((((True ∧ (range_c0 n lo hi = false)) ∧ (range_c0 n lo hi = false)) ∧ (range_c0 n lo hi = false)) ∧ (range_c0 n lo hi = false)) ∧ (range_c1 n lo hi = false))
theorem range_o2 (n lo hi : Int) : obOf (range_e2 n lo hi) = range_r2 n lo hi := by kernel_rfl
theorem range_v2 (n lo hi : Int) : resOf (range_e2 n lo hi) = range_w2 n lo hi := by kernel_rfl
theorem range_k2 (n lo hi : Int) : cleanOf Tryz.prog.globals.size (range_e2 n lo hi) = true := by kernel_rfl
theorem range_q2 (n lo hi : Int) : range_e2 n lo hi = evFS Tryz.prog x_range 1000 79 #[.int .i64 n, .int .i64 lo, .int .i64 hi] (noTabs 6) ⟨[1, 1, 1, 0, 0], True⟩ := by
  delta range_e2
  exact Eq.refl _
theorem range_p2 (n lo hi : Int) (h : range_r2 n lo hi) (w : World) : Calls Tryz.prog 79 #[.int .i64 n, .int .i64 lo, .int .i64 hi] w fun en w' => en = .returned (range_w2 n lo hi) ∧ Below w.heap.size w w' := by
  have hv := range_v2 n lo hi
  have hc := range_k2 n lo hi
  have he := range_q2 n lo hi
  have ho := range_o2 n lo hi
  generalize range_e2 n lo hi = r at *
  exact calls_way he gfol range_X hv rfl (range_args n lo hi) hc ho h (bl w)
theorem range_any (n lo hi : Int) (hpre : True) (w : World) : Calls Tryz.prog 79 #[.int .i64 n, .int .i64 lo, .int .i64 hi] w fun en w' => en = .returned (range_val n lo hi) ∧ Below w.heap.size w w' := by
  rcases Bool.eq_false_or_eq_true (range_c0 n lo hi) with h0 | h0
  ·
    unfold range_c0 at h0
    have hp := range_p0 n lo hi ⟨⟨⟨⟨⟨trivial, h0⟩, h0⟩, h0⟩, h0⟩, range_g1⟩ w
    have hv : range_w0 n lo hi = range_val n lo hi := by
      clear hp
      unfold range_w0 range_val
      first | rfl | ((try simp only [bne_iff_ne, ne_eq, decide_eq_true_eq, decide_eq_false_iff_not, Bool.not_eq_true', Bool.not_eq_false', beq_iff_eq, beq_eq_false_iff_ne, bne_eq_false_iff_eq, Bool.and_eq_true, Bool.not_eq_true, Bool.not_eq_false, Pl.cr, parts_eq, w20, w16, wT, w20', w16', wT', Pl.lim, Pl.inB, first_two, two, oneB, Bg] at *); grind)
    exact hv ▸ hp
  ·
    unfold range_c0 at h0
    rcases Bool.eq_false_or_eq_true (range_c1 n lo hi) with h1 | h1
    ·
      unfold range_c1 at h1
      have hp := range_p1 n lo hi ⟨⟨⟨⟨⟨trivial, h0⟩, h0⟩, h0⟩, h0⟩, h1⟩ w
      have hv : range_w1 n lo hi = range_val n lo hi := by
        clear hp
        unfold range_w1 range_val
        first | rfl | ((try simp only [bne_iff_ne, ne_eq, decide_eq_true_eq, decide_eq_false_iff_not, Bool.not_eq_true', Bool.not_eq_false', beq_iff_eq, beq_eq_false_iff_ne, bne_eq_false_iff_eq, Bool.and_eq_true, Bool.not_eq_true, Bool.not_eq_false, Pl.cr, parts_eq, w20, w16, wT, w20', w16', wT', Pl.lim, Pl.inB, first_two, two, oneB, Bg] at *); grind)
      exact hv ▸ hp
    ·
      unfold range_c1 at h1
      have hp := range_p2 n lo hi ⟨⟨⟨⟨⟨trivial, h0⟩, h0⟩, h0⟩, h0⟩, h1⟩ w
      have hv : range_w2 n lo hi = range_val n lo hi := by
        clear hp
        unfold range_w2 range_val
        first | rfl | ((try simp only [bne_iff_ne, ne_eq, decide_eq_true_eq, decide_eq_false_iff_not, Bool.not_eq_true', Bool.not_eq_false', beq_iff_eq, beq_eq_false_iff_ne, bne_eq_false_iff_eq, Bool.and_eq_true, Bool.not_eq_true, Bool.not_eq_false, Pl.cr, parts_eq, w20, w16, wT, w20', w16', wT', Pl.lim, Pl.inB, first_two, two, oneB, Bg] at *); grind)
      exact hv ▸ hp
theorem k_range : ConOk Tryz.prog c_range := fun ns hl => by
  have hl0 : ns.length = 3 := hl
  clear hl
  obtain ⟨n, ns0, rfl, hl1⟩ := len_cons hl0
  obtain ⟨lo, ns1, rfl, hl2⟩ := len_cons hl1
  obtain ⟨hi, ns2, rfl, hl3⟩ := len_cons hl2
  obtain rfl := len_nil hl3
  exact ⟨rfl, fun h w => range_any n lo hi h w⟩
end Go.Proofs.YtledgemlflbfdaaGreatDoor
end
section
set_option linter.all false
set_option maxRecDepth 1000000
set_option maxHeartbeats 2000000
open Go.RowKit
namespace Go.Proofs.YtledgemlflbfdaaGreatDoor
open Mini

def checkEisen_val (a b : Int) : Value := .int .i64 (Pl.parts a b 1048576)
theorem checkEisen_X : FOkS Tryz.prog x_checkEisen := kAll_ok _ ⟨k_range, trivial⟩
theorem checkEisen_args (a b : Int) : (#[.agg #[.int .i64 a, .int .i64 b]] : Array Value).toList.all (ground 8) = true := by kernel_rfl
theorem checkEisen_g0 : True := by first | rfl | trivial | decide | omega
theorem checkEisen_g1 : ((decide ((0 : Int) < ((2 : Nat) : Int))) = Bool.true) := by first | rfl | trivial | decide | omega
theorem checkEisen_g2 : ((0 : Int) = (Int.ofNat 0)) := by first | rfl | trivial | decide | omega
def checkEisen_c0 (a b : Int) : Bool := ((Pl.cr a (IntKind.i64.wrap ((0 : Int) - (1048576 : Int))) (1048576 : Int)) != (0 : Int))
theorem checkEisen_g4 : ((decide ((IntKind.i64.wrap ((0 : Int) + (1 : Int))) < ((2 : Nat) : Int))) = Bool.true) := by first | rfl | trivial | decide | omega
theorem checkEisen_g5 : ((IntKind.i64.wrap ((0 : Int) + (1 : Int))) = (Int.ofNat 1)) := by first | rfl | trivial | decide | omega
def checkEisen_c1 (a b : Int) : Bool := ((Pl.cr b (IntKind.i64.wrap ((0 : Int) - (1048576 : Int))) (1048576 : Int)) != (0 : Int))
theorem checkEisen_g7 : ((decide ((IntKind.i64.wrap ((IntKind.i64.wrap ((0 : Int) + (1 : Int))) + (1 : Int))) < ((2 : Nat) : Int))) = Bool.false) := by first | rfl | trivial | decide | omega
def checkEisen_w0 (a b : Int) : Value := .int .i64 (0 : Int)
def checkEisen_r0 (a b : Int) : Prop := (((((((((True ∧ (True)) ∧ (True)) ∧ (((decide ((0 : Int) < ((2 : Nat) : Int))) = Bool.true))) ∧ (((0 : Int) = (Int.ofNat 0)))) ∧ (checkEisen_c0 a b = false)) ∧ (((decide ((IntKind.i64.wrap ((0 : Int) + (1 : Int))) < ((2 : Nat) : Int))) = Bool.true))) ∧ (((IntKind.i64.wrap ((0 : Int) + (1 : Int))) = (Int.ofNat 1)))) ∧ (checkEisen_c1 a b = false)) ∧ (((decide ((IntKind.i64.wrap ((IntKind.i64.wrap ((0 : Int) + (1 : Int))) + (1 : Int))) < ((2 : Nat) : Int))) = Bool.false)))
theorem checkEisen_o0 (a b : Int) : obOf (checkEisen_e0 a b) = checkEisen_r0 a b := by kernel_rfl
theorem checkEisen_v0 (a b : Int) : resOf (checkEisen_e0 a b) = checkEisen_w0 a b := by kernel_rfl
theorem checkEisen_k0 (a b : Int) : cleanOf Tryz.prog.globals.size (checkEisen_e0 a b) = true := by kernel_rfl
theorem checkEisen_q0 (a b : Int) : checkEisen_e0 a b = evFS Tryz.prog x_checkEisen 1000 21 #[.agg #[.int .i64 a, .int .i64 b]] (noTabs 6) ⟨[1, 0, 0, 1, 1, 0, 0], True⟩ := by
  delta checkEisen_e0
  exact Eq.refl _
theorem checkEisen_p0 (a b : Int) (h : checkEisen_r0 a b) (w : World) : Calls Tryz.prog 21 #[.agg #[.int .i64 a, .int .i64 b]] w fun en w' => en = .returned (checkEisen_w0 a b) ∧ Below w.heap.size w w' := by
  have hv := checkEisen_v0 a b
  have hc := checkEisen_k0 a b
  have he := checkEisen_q0 a b
  have ho := checkEisen_o0 a b
  generalize checkEisen_e0 a b = r at *
  exact calls_way he gfol checkEisen_X hv rfl (checkEisen_args a b) hc ho h (bl w)
def checkEisen_w1 (a b : Int) : Value := .int .i64 (Pl.cr b (IntKind.i64.wrap ((0 : Int) - (1048576 : Int))) (1048576 : Int))
def checkEisen_r1 (a b : Int) : Prop := ((((((((True ∧ (True)) ∧ (True)) ∧ (((decide ((0 : Int) < ((2 : Nat) : Int))) = Bool.true))) ∧ (((0 : Int) = (Int.ofNat 0)))) ∧ (checkEisen_c0 a b = false)) ∧ (((decide ((IntKind.i64.wrap ((0 : Int) + (1 : Int))) < ((2 : Nat) : Int))) = Bool.true))) ∧ (((IntKind.i64.wrap ((0 : Int) + (1 : Int))) = (Int.ofNat 1)))) ∧ (checkEisen_c1 a b = true))
theorem checkEisen_o1 (a b : Int) : obOf (checkEisen_e1 a b) = checkEisen_r1 a b := by kernel_rfl
theorem checkEisen_v1 (a b : Int) : resOf (checkEisen_e1 a b) = checkEisen_w1 a b := by kernel_rfl
theorem checkEisen_k1 (a b : Int) : cleanOf Tryz.prog.globals.size (checkEisen_e1 a b) = true := by kernel_rfl
theorem checkEisen_q1 (a b : Int) : checkEisen_e1 a b = evFS Tryz.prog x_checkEisen 1000 21 #[.agg #[.int .i64 a, .int .i64 b]] (noTabs 6) ⟨[1, 0, 0, 1, 1, 1], True⟩ := by
  delta checkEisen_e1
  exact Eq.refl _
theorem checkEisen_p1 (a b : Int) (h : checkEisen_r1 a b) (w : World) : Calls Tryz.prog 21 #[.agg #[.int .i64 a, .int .i64 b]] w fun en w' => en = .returned (checkEisen_w1 a b) ∧ Below w.heap.size w w' := by
  have hv := checkEisen_v1 a b
  have hc := checkEisen_k1 a b
  have he := checkEisen_q1 a b
  have ho := checkEisen_o1 a b
  generalize checkEisen_e1 a b = r at *
  exact calls_way he gfol checkEisen_X hv rfl (checkEisen_args a b) hc ho h (bl w)
def checkEisen_w2 (a b : Int) : Value := .int .i64 (Pl.cr a (IntKind.i64.wrap ((0 : Int) - (1048576 : Int))) (1048576 : Int))
def checkEisen_r2 (a b : Int) : Prop := (((((True ∧ (True)) ∧ (True)) ∧ (((decide ((0 : Int) < ((2 : Nat) : Int))) = Bool.true))) ∧ (((0 : Int) = (Int.ofNat 0)))) ∧ (checkEisen_c0 a b = true))
theorem checkEisen_o2 (a b : Int) : obOf (checkEisen_e2 a b) = checkEisen_r2 a b := by kernel_rfl
theorem checkEisen_v2 (a b : Int) : resOf (checkEisen_e2 a b) = checkEisen_w2 a b := by kernel_rfl
theorem checkEisen_k2 (a b : Int) : cleanOf Tryz.prog.globals.size (checkEisen_e2 a b) = true := by kernel_rfl
theorem checkEisen_q2 (a b : Int) : checkEisen_e2 a b = evFS Tryz.prog x_checkEisen 1000 21 #[.agg #[.int .i64 a, .int .i64 b]] (noTabs 6) ⟨[1, 0, 1], True⟩ := by
  delta checkEisen_e2
  exact Eq.refl _
theorem checkEisen_p2 (a b : Int) (h : checkEisen_r2 a b) (w : World) : Calls Tryz.prog 21 #[.agg #[.int .i64 a, .int .i64 b]] w fun en w' => en = .returned (checkEisen_w2 a b) ∧ Below w.heap.size w w' := by
  have hv := checkEisen_v2 a b
  have hc := checkEisen_k2 a b
  have he := checkEisen_q2 a b
  have ho := checkEisen_o2 a b
  generalize checkEisen_e2 a b = r at *
  exact calls_way he gfol checkEisen_X hv rfl (checkEisen_args a b) hc ho h (bl w)
theorem checkEisen_any (a b : Int) (hpre : True) (w : World) : Calls Tryz.prog 21 #[.agg #[.int .i64 a, .int .i64 b]] w fun en w' => en = .returned (checkEisen_val a b) ∧ Below w.heap.size w w' := by
  rcases Bool.eq_false_or_eq_true (checkEisen_c0 a b) with h0 | h0
  ·
    unfold checkEisen_c0 at h0
    have hp := checkEisen_p2 a b ⟨⟨⟨⟨⟨trivial, checkEisen_g0⟩, checkEisen_g0⟩, checkEisen_g1⟩, checkEisen_g2⟩, h0⟩ w
    have hv : checkEisen_w2 a b = checkEisen_val a b := by
      clear hp
      unfold checkEisen_w2 checkEisen_val
      first | rfl | ((try simp only [bne_iff_ne, ne_eq, decide_eq_true_eq, decide_eq_false_iff_not, Bool.not_eq_true', Bool.not_eq_false', beq_iff_eq, beq_eq_false_iff_ne, bne_eq_false_iff_eq, Bool.and_eq_true, Bool.not_eq_true, Bool.not_eq_false, Pl.cr, parts_eq, w20, w16, wT, w20', w16', wT', Pl.lim, Pl.inB, first_two, two, oneB, Bg] at *); grind)
    exact hv ▸ hp
  ·
    unfold checkEisen_c0 at h0
    rcases Bool.eq_false_or_eq_true (checkEisen_c1 a b) with h1 | h1
    ·
      unfold checkEisen_c1 at h1
      have hp := checkEisen_p1 a b ⟨⟨⟨⟨⟨⟨⟨⟨trivial, checkEisen_g0⟩, checkEisen_g0⟩, checkEisen_g1⟩, checkEisen_g2⟩, h0⟩, checkEisen_g4⟩, checkEisen_g5⟩, h1⟩ w
      have hv : checkEisen_w1 a b = checkEisen_val a b := by
        clear hp
        unfold checkEisen_w1 checkEisen_val
        first | rfl | ((try simp only [bne_iff_ne, ne_eq, decide_eq_true_eq, decide_eq_false_iff_not, Bool.not_eq_true', Bool.not_eq_false', beq_iff_eq, beq_eq_false_iff_ne, bne_eq_false_iff_eq, Bool.and_eq_true, Bool.not_eq_true, Bool.not_eq_false, Pl.cr, parts_eq, w20, w16, wT, w20', w16', wT', Pl.lim, Pl.inB, first_two, two, oneB, Bg] at *); grind)
      exact hv ▸ hp
    ·
      unfold checkEisen_c1 at h1
      have hp := checkEisen_p0 a b ⟨⟨⟨⟨⟨⟨⟨⟨⟨trivial, checkEisen_g0⟩, checkEisen_g0⟩, checkEisen_g1⟩, checkEisen_g2⟩, h0⟩, checkEisen_g4⟩, checkEisen_g5⟩, h1⟩, checkEisen_g7⟩ w
      have hv : checkEisen_w0 a b = checkEisen_val a b := by
        clear hp
        unfold checkEisen_w0 checkEisen_val
        first | rfl | ((try simp only [bne_iff_ne, ne_eq, decide_eq_true_eq, decide_eq_false_iff_not, Bool.not_eq_true', Bool.not_eq_false', beq_iff_eq, beq_eq_false_iff_ne, bne_eq_false_iff_eq, Bool.and_eq_true, Bool.not_eq_true, Bool.not_eq_false, Pl.cr, parts_eq, w20, w16, wT, w20', w16', wT', Pl.lim, Pl.inB, first_two, two, oneB, Bg] at *); grind)
      exact hv ▸ hp
theorem k_checkEisen : ConOk Tryz.prog c_checkEisen := fun ns hl => by
  have hl0 : ns.length = 2 := hl
  clear hl
  obtain ⟨a, ns0, rfl, hl1⟩ := len_cons hl0
  obtain ⟨b, ns1, rfl, hl2⟩ := len_cons hl1
  obtain rfl := len_nil hl2
  exact ⟨rfl, fun h w => checkEisen_any a b h w⟩
end Go.Proofs.YtledgemlflbfdaaGreatDoor
end
section
set_option linter.all false
set_option maxRecDepth 1000000
set_option maxHeartbeats 2000000
open Go.RowKit
namespace Go.Proofs.YtledgemlflbfdaaGreatDoor
open Mini

def sum_val (a b c d : Int) : Value := .agg #[.int .i64 (Pl.add (a, b) (c, d)).1, .int .i64 (Pl.add (a, b) (c, d)).2]
theorem sum_X : FOkS Tryz.prog x_sum := noXS_ok
theorem sum_args (a b c d : Int) : (#[.agg #[.int .i64 a, .int .i64 b], .agg #[.int .i64 c, .int .i64 d]] : Array Value).toList.all (ground 8) = true := by kernel_rfl
def sum_w0 (a b c d : Int) : Value := .agg #[.int .i64 (IntKind.i64.wrap (a + c)), .int .i64 (IntKind.i64.wrap (b + d))]
def sum_r0 (a b c d : Int) : Prop := True
theorem sum_o0 (a b c d : Int) : obOf (sum_e0 a b c d) = sum_r0 a b c d := by kernel_rfl
theorem sum_v0 (a b c d : Int) : resOf (sum_e0 a b c d) = sum_w0 a b c d := by kernel_rfl
theorem sum_k0 (a b c d : Int) : cleanOf Tryz.prog.globals.size (sum_e0 a b c d) = true := by kernel_rfl
theorem sum_q0 (a b c d : Int) : sum_e0 a b c d = evFS Tryz.prog x_sum 1000 49 #[.agg #[.int .i64 a, .int .i64 b], .agg #[.int .i64 c, .int .i64 d]] (noTabs 6) ⟨[], True⟩ := by
  delta sum_e0
  exact Eq.refl _
theorem sum_p0 (a b c d : Int) (h : sum_r0 a b c d) (w : World) : Calls Tryz.prog 49 #[.agg #[.int .i64 a, .int .i64 b], .agg #[.int .i64 c, .int .i64 d]] w fun en w' => en = .returned (sum_w0 a b c d) ∧ Below w.heap.size w w' := by
  have hv := sum_v0 a b c d
  have hc := sum_k0 a b c d
  have he := sum_q0 a b c d
  have ho := sum_o0 a b c d
  generalize sum_e0 a b c d = r at *
  exact calls_way he gfol sum_X hv rfl (sum_args a b c d) hc ho h (bl w)
theorem sum_any (a b c d : Int) (hpre : Bg 1099511627776 a b ∧ Bg 1099511627776 c d) (w : World) : Calls Tryz.prog 49 #[.agg #[.int .i64 a, .int .i64 b], .agg #[.int .i64 c, .int .i64 d]] w fun en w' => en = .returned (sum_val a b c d) ∧ Below w.heap.size w w' := by
  have hp := sum_p0 a b c d trivial w
  have hv : sum_w0 a b c d = sum_val a b c d := by
    clear hp
    unfold sum_w0 sum_val
    unfold Bg at hpre; (try simp (disch := omega) only [wi]); rfl
  exact hv ▸ hp
theorem k_sum : ConOk Tryz.prog c_sum := fun ns hl => by
  have hl0 : ns.length = 4 := hl
  clear hl
  obtain ⟨a, ns0, rfl, hl1⟩ := len_cons hl0
  obtain ⟨b, ns1, rfl, hl2⟩ := len_cons hl1
  obtain ⟨c, ns2, rfl, hl3⟩ := len_cons hl2
  obtain ⟨d, ns3, rfl, hl4⟩ := len_cons hl3
  obtain rfl := len_nil hl4
  exact ⟨rfl, fun h w => sum_any a b c d h w⟩
end Go.Proofs.YtledgemlflbfdaaGreatDoor
end
section
set_option linter.all false
set_option maxRecDepth 1000000
set_option maxHeartbeats 2000000
open Go.RowKit
namespace Go.Proofs.YtledgemlflbfdaaGreatDoor
open Mini

def limited_val (a b : Int) : Value := .tuple #[.agg #[.int .i64 (Pl.lim (a, b)).1.1, .int .i64 (Pl.lim (a, b)).1.2], .int .i64 (Pl.lim (a, b)).2]
theorem limited_X : FOkS Tryz.prog x_limited := noXS_ok
theorem limited_args (a b : Int) : (#[.agg #[.int .i64 a, .int .i64 b]] : Array Value).toList.all (ground 8) = true := by kernel_rfl
def limited_c0 (a b : Int) : Bool := (Bool.not (Bool.and ((if ((1048576 : Int) < (if ((IntKind.i64.wrap ((0 : Int) - (1048576 : Int))) > a) then (IntKind.i64.wrap ((0 : Int) - (1048576 : Int))) else a)) then (1048576 : Int) else (if ((IntKind.i64.wrap ((0 : Int) - (1048576 : Int))) > a) then (IntKind.i64.wrap ((0 : Int) - (1048576 : Int))) else a)) == a) (Bool.and ((if ((1048576 : Int) < (if ((IntKind.i64.wrap ((0 : Int) - (1048576 : Int))) > b) then (IntKind.i64.wrap ((0 : Int) - (1048576 : Int))) else b)) then (1048576 : Int) else (if ((IntKind.i64.wrap ((0 : Int) - (1048576 : Int))) > b) then (IntKind.i64.wrap ((0 : Int) - (1048576 : Int))) else b)) == b) Bool.true)))
def limited_w0 (a b : Int) : Value := .tuple #[.agg #[.int .i64 a, .int .i64 b], .int .i64 (0 : Int)]
def limited_r0 (a b : Int) : Prop := (True ∧ (limited_c0 a b = false))
theorem limited_o0 (a b : Int) : obOf (limited_e0 a b) = limited_r0 a b := by kernel_rfl
theorem limited_v0 (a b : Int) : resOf (limited_e0 a b) = limited_w0 a b := by kernel_rfl
theorem limited_k0 (a b : Int) : cleanOf Tryz.prog.globals.size (limited_e0 a b) = true := by kernel_rfl
theorem limited_q0 (a b : Int) : limited_e0 a b = evFS Tryz.prog x_limited 1000 48 #[.agg #[.int .i64 a, .int .i64 b]] (noTabs 6) ⟨[0], True⟩ := by
  delta limited_e0
  exact Eq.refl _
theorem limited_p0 (a b : Int) (h : limited_r0 a b) (w : World) : Calls Tryz.prog 48 #[.agg #[.int .i64 a, .int .i64 b]] w fun en w' => en = .returned (limited_w0 a b) ∧ Below w.heap.size w w' := by
  have hv := limited_v0 a b
  have hc := limited_k0 a b
  have he := limited_q0 a b
  have ho := limited_o0 a b
  generalize limited_e0 a b = r at *
  exact calls_way he gfol limited_X hv rfl (limited_args a b) hc ho h (bl w)
def limited_w1 (a b : Int) : Value := .tuple #[.agg #[.int .i64 (0 : Int), .int .i64 (0 : Int)], .int .i64 (4 : Int)]
def limited_r1 (a b : Int) : Prop := (True ∧ (limited_c0 a b = true))
theorem limited_o1 (a b : Int) : obOf (limited_e1 a b) = limited_r1 a b := by kernel_rfl
theorem limited_v1 (a b : Int) : resOf (limited_e1 a b) = limited_w1 a b := by kernel_rfl
theorem limited_k1 (a b : Int) : cleanOf Tryz.prog.globals.size (limited_e1 a b) = true := by kernel_rfl
theorem limited_q1 (a b : Int) : limited_e1 a b = evFS Tryz.prog x_limited 1000 48 #[.agg #[.int .i64 a, .int .i64 b]] (noTabs 6) ⟨[1], True⟩ := by
  delta limited_e1
  exact Eq.refl _
theorem limited_p1 (a b : Int) (h : limited_r1 a b) (w : World) : Calls Tryz.prog 48 #[.agg #[.int .i64 a, .int .i64 b]] w fun en w' => en = .returned (limited_w1 a b) ∧ Below w.heap.size w w' := by
  have hv := limited_v1 a b
  have hc := limited_k1 a b
  have he := limited_q1 a b
  have ho := limited_o1 a b
  generalize limited_e1 a b = r at *
  exact calls_way he gfol limited_X hv rfl (limited_args a b) hc ho h (bl w)
theorem limited_any (a b : Int) (hpre : True) (w : World) : Calls Tryz.prog 48 #[.agg #[.int .i64 a, .int .i64 b]] w fun en w' => en = .returned (limited_val a b) ∧ Below w.heap.size w w' := by
  rcases Bool.eq_false_or_eq_true (limited_c0 a b) with h0 | h0
  ·
    unfold limited_c0 at h0
    have hp := limited_p1 a b ⟨trivial, h0⟩ w
    have hv : limited_w1 a b = limited_val a b := by
      clear hp
      unfold limited_w1 limited_val
      first | rfl | ((try simp only [bne_iff_ne, ne_eq, decide_eq_true_eq, decide_eq_false_iff_not, Bool.not_eq_true', Bool.not_eq_false', beq_iff_eq, beq_eq_false_iff_ne, bne_eq_false_iff_eq, Bool.and_eq_true, Bool.not_eq_true, Bool.not_eq_false, Pl.cr, parts_eq, w20, w16, wT, w20', w16', wT', Pl.lim, Pl.inB, first_two, two, oneB, Bg] at *); grind)
    exact hv ▸ hp
  ·
    unfold limited_c0 at h0
    have hp := limited_p0 a b ⟨trivial, h0⟩ w
    have hv : limited_w0 a b = limited_val a b := by
      clear hp
      unfold limited_w0 limited_val
      first | rfl | ((try simp only [bne_iff_ne, ne_eq, decide_eq_true_eq, decide_eq_false_iff_not, Bool.not_eq_true', Bool.not_eq_false', beq_iff_eq, beq_eq_false_iff_ne, bne_eq_false_iff_eq, Bool.and_eq_true, Bool.not_eq_true, Bool.not_eq_false, Pl.cr, parts_eq, w20, w16, wT, w20', w16', wT', Pl.lim, Pl.inB, first_two, two, oneB, Bg] at *); grind)
    exact hv ▸ hp
theorem k_limited : ConOk Tryz.prog c_limited := fun ns hl => by
  have hl0 : ns.length = 2 := hl
  clear hl
  obtain ⟨a, ns0, rfl, hl1⟩ := len_cons hl0
  obtain ⟨b, ns1, rfl, hl2⟩ := len_cons hl1
  obtain rfl := len_nil hl2
  exact ⟨rfl, fun h w => limited_any a b h w⟩
end Go.Proofs.YtledgemlflbfdaaGreatDoor
end
section
set_option linter.all false
set_option maxRecDepth 1000000
set_option maxHeartbeats 2000000
open Go.RowKit
namespace Go.Proofs.YtledgemlflbfdaaGreatDoor
open Mini

def add_val (a b c d : Int) : Value := .tuple #[.agg #[.int .i64 (two (Pl.parts a b 1048576) (Pl.parts c d 1048576) (Pl.lim (Pl.add (a, b) (c, d)))).1.1, .int .i64 (two (Pl.parts a b 1048576) (Pl.parts c d 1048576) (Pl.lim (Pl.add (a, b) (c, d)))).1.2], .int .i64 (two (Pl.parts a b 1048576) (Pl.parts c d 1048576) (Pl.lim (Pl.add (a, b) (c, d)))).2]
theorem add_X : FOkS Tryz.prog x_add := kAll_ok _ ⟨k_checkEisen, k_sum, k_limited, trivial⟩
theorem add_args (a b c d : Int) : (#[.agg #[.int .i64 a, .int .i64 b], .agg #[.int .i64 c, .int .i64 d]] : Array Value).toList.all (ground 8) = true := by kernel_rfl
theorem add_g0 : True := by first | rfl | trivial | decide | omega
theorem add_g1 : ((decide ((0 : Int) < ((2 : Nat) : Int))) = Bool.true) := by first | rfl | trivial | decide | omega
theorem add_g2 : ((0 : Int) = (Int.ofNat 0)) := by first | rfl | trivial | decide | omega
def add_c0 (a b c d : Int) : Bool := ((Pl.parts a b (1048576 : Int)) != (0 : Int))
theorem add_g4 : ((decide ((IntKind.i64.wrap ((0 : Int) + (1 : Int))) < ((2 : Nat) : Int))) = Bool.true) := by first | rfl | trivial | decide | omega
theorem add_g5 : ((IntKind.i64.wrap ((0 : Int) + (1 : Int))) = (Int.ofNat 1)) := by first | rfl | trivial | decide | omega
def add_c1 (a b c d : Int) : Bool := ((Pl.parts c d (1048576 : Int)) != (0 : Int))
theorem add_g7 : ((decide ((IntKind.i64.wrap ((IntKind.i64.wrap ((0 : Int) + (1 : Int))) + (1 : Int))) < ((2 : Nat) : Int))) = Bool.false) := by first | rfl | trivial | decide | omega
theorem add_g8 : (((0 : Int) != (0 : Int)) = Bool.false) := by first | rfl | trivial | decide | omega
def add_b9 (a b c d : Int) : Prop := ((Bg (1099511627776 : Int) a b) ∧ (Bg (1099511627776 : Int) c d))
def add_w0 (a b c d : Int) : Value := .tuple #[.agg #[.int .i64 (((Pl.lim (((Pl.add (a, b) (c, d))).1, ((Pl.add (a, b) (c, d))).2))).1).1, .int .i64 (((Pl.lim (((Pl.add (a, b) (c, d))).1, ((Pl.add (a, b) (c, d))).2))).1).2], .int .i64 ((Pl.lim (((Pl.add (a, b) (c, d))).1, ((Pl.add (a, b) (c, d))).2))).2]
def add_r0 (a b c d : Int) : Prop := ((((((((((((True ∧ (True)) ∧ (True)) ∧ (((decide ((0 : Int) < ((2 : Nat) : Int))) = Bool.true))) ∧ (((0 : Int) = (Int.ofNat 0)))) ∧ (add_c0 a b c d = false)) ∧ (((decide ((IntKind.i64.wrap ((0 : Int) + (1 : Int))) < ((2 : Nat) : Int))) = Bool.true))) ∧ (((IntKind.i64.wrap ((0 : Int) + (1 : Int))) = (Int.ofNat 1)))) ∧ (add_c1 a b c d = false)) ∧ (((decide ((IntKind.i64.wrap ((IntKind.i64.wrap ((0 : Int) + (1 : Int))) + (1 : Int))) < ((2 : Nat) : Int))) = Bool.false))) ∧ ((((0 : Int) != (0 : Int)) = Bool.false))) ∧ (add_b9 a b c d)) ∧ (True))
theorem add_o0 (a b c d : Int) : obOf (add_e0 a b c d) = add_r0 a b c d := by kernel_rfl
theorem add_v0 (a b c d : Int) : resOf (add_e0 a b c d) = add_w0 a b c d := by kernel_rfl
theorem add_k0 (a b c d : Int) : cleanOf Tryz.prog.globals.size (add_e0 a b c d) = true := by kernel_rfl
theorem add_q0 (a b c d : Int) : add_e0 a b c d = evFS Tryz.prog x_add 1000 9 #[.agg #[.int .i64 a, .int .i64 b], .agg #[.int .i64 c, .int .i64 d]] (noTabs 6) ⟨[1, 0, 0, 1, 1, 0, 0, 0], True⟩ := by
  delta add_e0
  exact Eq.refl _
theorem add_p0 (a b c d : Int) (h : add_r0 a b c d) (w : World) : Calls Tryz.prog 9 #[.agg #[.int .i64 a, .int .i64 b], .agg #[.int .i64 c, .int .i64 d]] w fun en w' => en = .returned (add_w0 a b c d) ∧ Below w.heap.size w w' := by
  have hv := add_v0 a b c d
  have hc := add_k0 a b c d
  have he := add_q0 a b c d
  have ho := add_o0 a b c d
  generalize add_e0 a b c d = r at *
  exact calls_way he gfol add_X hv rfl (add_args a b c d) hc ho h (bl w)
def add_w1 (a b c d : Int) : Value := .tuple #[.agg #[.int .i64 (0 : Int), .int .i64 (0 : Int)], .int .i64 (Pl.parts c d (1048576 : Int))]
def add_r1 (a b c d : Int) : Prop := (((((((((True ∧ (True)) ∧ (True)) ∧ (((decide ((0 : Int) < ((2 : Nat) : Int))) = Bool.true))) ∧ (((0 : Int) = (Int.ofNat 0)))) ∧ (add_c0 a b c d = false)) ∧ (((decide ((IntKind.i64.wrap ((0 : Int) + (1 : Int))) < ((2 : Nat) : Int))) = Bool.true))) ∧ (((IntKind.i64.wrap ((0 : Int) + (1 : Int))) = (Int.ofNat 1)))) ∧ (add_c1 a b c d = true)) ∧ (add_c1 a b c d = true))
theorem add_o1 (a b c d : Int) : obOf (add_e1 a b c d) = add_r1 a b c d := by kernel_rfl
theorem add_v1 (a b c d : Int) : resOf (add_e1 a b c d) = add_w1 a b c d := by kernel_rfl
theorem add_k1 (a b c d : Int) : cleanOf Tryz.prog.globals.size (add_e1 a b c d) = true := by kernel_rfl
theorem add_q1 (a b c d : Int) : add_e1 a b c d = evFS Tryz.prog x_add 1000 9 #[.agg #[.int .i64 a, .int .i64 b], .agg #[.int .i64 c, .int .i64 d]] (noTabs 6) ⟨[1, 0, 0, 1, 1, 1, 1], True⟩ := by
  delta add_e1
  exact Eq.refl _
theorem add_p1 (a b c d : Int) (h : add_r1 a b c d) (w : World) : Calls Tryz.prog 9 #[.agg #[.int .i64 a, .int .i64 b], .agg #[.int .i64 c, .int .i64 d]] w fun en w' => en = .returned (add_w1 a b c d) ∧ Below w.heap.size w w' := by
  have hv := add_v1 a b c d
  have hc := add_k1 a b c d
  have he := add_q1 a b c d
  have ho := add_o1 a b c d
  generalize add_e1 a b c d = r at *
  exact calls_way he gfol add_X hv rfl (add_args a b c d) hc ho h (bl w)
def add_w2 (a b c d : Int) : Value := .tuple #[.agg #[.int .i64 (0 : Int), .int .i64 (0 : Int)], .int .i64 (Pl.parts a b (1048576 : Int))]
def add_r2 (a b c d : Int) : Prop := ((((((True ∧ (True)) ∧ (True)) ∧ (((decide ((0 : Int) < ((2 : Nat) : Int))) = Bool.true))) ∧ (((0 : Int) = (Int.ofNat 0)))) ∧ (add_c0 a b c d = true)) ∧ (add_c0 a b c d = true))
theorem add_o2 (a b c d : Int) : obOf (add_e2 a b c d) = add_r2 a b c d := by kernel_rfl
theorem add_v2 (a b c d : Int) : resOf (add_e2 a b c d) = add_w2 a b c d := by kernel_rfl
theorem add_k2 (a b c d : Int) : cleanOf Tryz.prog.globals.size (add_e2 a b c d) = true := by kernel_rfl
theorem add_q2 (a b c d : Int) : add_e2 a b c d = evFS Tryz.prog x_add 1000 9 #[.agg #[.int .i64 a, .int .i64 b], .agg #[.int .i64 c, .int .i64 d]] (noTabs 6) ⟨[1, 0, 1, 1], True⟩ := by
  delta add_e2
  exact Eq.refl _
theorem add_p2 (a b c d : Int) (h : add_r2 a b c d) (w : World) : Calls Tryz.prog 9 #[.agg #[.int .i64 a, .int .i64 b], .agg #[.int .i64 c, .int .i64 d]] w fun en w' => en = .returned (add_w2 a b c d) ∧ Below w.heap.size w w' := by
  have hv := add_v2 a b c d
  have hc := add_k2 a b c d
  have he := add_q2 a b c d
  have ho := add_o2 a b c d
  generalize add_e2 a b c d = r at *
  exact calls_way he gfol add_X hv rfl (add_args a b c d) hc ho h (bl w)
theorem add_any (a b c d : Int) (hpre : True) (w : World) : Calls Tryz.prog 9 #[.agg #[.int .i64 a, .int .i64 b], .agg #[.int .i64 c, .int .i64 d]] w fun en w' => en = .returned (add_val a b c d) ∧ Below w.heap.size w w' := by
  rcases Bool.eq_false_or_eq_true (add_c0 a b c d) with h0 | h0
  ·
    unfold add_c0 at h0
    have hp := add_p2 a b c d ⟨⟨⟨⟨⟨⟨trivial, add_g0⟩, add_g0⟩, add_g1⟩, add_g2⟩, h0⟩, h0⟩ w
    have hv : add_w2 a b c d = add_val a b c d := by
      clear hp
      unfold add_w2 add_val
      first | rfl | ((try simp only [bne_iff_ne, ne_eq, decide_eq_true_eq, decide_eq_false_iff_not, Bool.not_eq_true', Bool.not_eq_false', beq_iff_eq, beq_eq_false_iff_ne, bne_eq_false_iff_eq, Bool.and_eq_true, Bool.not_eq_true, Bool.not_eq_false, two] at *); grind)
    exact hv ▸ hp
  ·
    unfold add_c0 at h0
    rcases Bool.eq_false_or_eq_true (add_c1 a b c d) with h1 | h1
    ·
      unfold add_c1 at h1
      have hp := add_p1 a b c d ⟨⟨⟨⟨⟨⟨⟨⟨⟨trivial, add_g0⟩, add_g0⟩, add_g1⟩, add_g2⟩, h0⟩, add_g4⟩, add_g5⟩, h1⟩, h1⟩ w
      have hv : add_w1 a b c d = add_val a b c d := by
        clear hp
        unfold add_w1 add_val
        first | rfl | ((try simp only [bne_iff_ne, ne_eq, decide_eq_true_eq, decide_eq_false_iff_not, Bool.not_eq_true', Bool.not_eq_false', beq_iff_eq, beq_eq_false_iff_ne, bne_eq_false_iff_eq, Bool.and_eq_true, Bool.not_eq_true, Bool.not_eq_false, two] at *); grind)
      exact hv ▸ hp
    ·
      unfold add_c1 at h1
      have h2 : (add_b9 a b c d) := by
        unfold add_b9
        first | rfl | trivial | (simp only [bne_eq_false_iff_eq] at *; exact ⟨bg_of (by assumption) (by decide), bg_of (by assumption) (by decide)⟩)
      unfold add_b9 at h2
      have hp := add_p0 a b c d ⟨⟨⟨⟨⟨⟨⟨⟨⟨⟨⟨⟨trivial, add_g0⟩, add_g0⟩, add_g1⟩, add_g2⟩, h0⟩, add_g4⟩, add_g5⟩, h1⟩, add_g7⟩, add_g8⟩, h2⟩, add_g0⟩ w
      have hv : add_w0 a b c d = add_val a b c d := by
        clear hp
        unfold add_w0 add_val
        first | rfl | ((try simp only [bne_iff_ne, ne_eq, decide_eq_true_eq, decide_eq_false_iff_not, Bool.not_eq_true', Bool.not_eq_false', beq_iff_eq, beq_eq_false_iff_ne, bne_eq_false_iff_eq, Bool.and_eq_true, Bool.not_eq_true, Bool.not_eq_false, two] at *); grind)
      exact hv ▸ hp
theorem k_add : ConOk Tryz.prog c_add := fun ns hl => by
  have hl0 : ns.length = 4 := hl
  clear hl
  obtain ⟨a, ns0, rfl, hl1⟩ := len_cons hl0
  obtain ⟨b, ns1, rfl, hl2⟩ := len_cons hl1
  obtain ⟨c, ns2, rfl, hl3⟩ := len_cons hl2
  obtain ⟨d, ns3, rfl, hl4⟩ := len_cons hl3
  obtain rfl := len_nil hl4
  exact ⟨rfl, fun h w => add_any a b c d h w⟩
end Go.Proofs.YtledgemlflbfdaaGreatDoor
end
section
set_option linter.all false
set_option maxRecDepth 1000000
set_option maxHeartbeats 2000000
open Go.RowKit
namespace Go.Proofs.YtledgemlflbfdaaGreatDoor
open Mini

def addS_val (a b c d : Int) : Value := .tuple #[.agg #[.int .i64 (Pl.add (a, b) (c, d)).1, .int .i64 (Pl.add (a, b) (c, d)).2], .int .i64 0]
theorem addS_any (a b c d : Int) (hpre : Pl.inB 1048576 (a, b) ∧ Pl.inB 1048576 (c, d) ∧ Pl.inB 1048576 (Pl.add (a, b) (c, d))) (w : World) : Calls Tryz.prog 9 #[.agg #[.int .i64 a, .int .i64 b], .agg #[.int .i64 c, .int .i64 d]] w fun en w' => en = .returned (addS_val a b c d) ∧ Below w.heap.size w w' := by
  have hp := add_any a b c d (trivial) w
  have hv : add_val a b c d = addS_val a b c d := by
    clear hp
    unfold add_val addS_val
    obtain ⟨h1, h2, h3⟩ := hpre
    simp only [two, parts_in h1, parts_in h2, lim_inB h3, ↓reduceIte]
  exact hv ▸ hp
theorem k_addS : ConOk Tryz.prog c_addS := fun ns hl => by
  have hl0 : ns.length = 4 := hl
  clear hl
  obtain ⟨a, ns0, rfl, hl1⟩ := len_cons hl0
  obtain ⟨b, ns1, rfl, hl2⟩ := len_cons hl1
  obtain ⟨c, ns2, rfl, hl3⟩ := len_cons hl2
  obtain ⟨d, ns3, rfl, hl4⟩ := len_cons hl3
  obtain rfl := len_nil hl4
  exact ⟨rfl, fun h w => addS_any a b c d h w⟩
end Go.Proofs.YtledgemlflbfdaaGreatDoor
end
section
set_option linter.all false
set_option maxRecDepth 1000000
set_option maxHeartbeats 2000000
open Go.RowKit
namespace Go.Proofs.YtledgemlflbfdaaGreatDoor
open Mini

def prod_val (a b c d : Int) : Value := .agg #[.int .i64 (Pl.mul (a, b) (c, d)).1, .int .i64 (Pl.mul (a, b) (c, d)).2]
theorem prod_X : FOkS Tryz.prog x_prod := noXS_ok
theorem prod_args (a b c d : Int) : (#[.agg #[.int .i64 a, .int .i64 b], .agg #[.int .i64 c, .int .i64 d]] : Array Value).toList.all (ground 8) = true := by kernel_rfl
def prod_w0 (a b c d : Int) : Value := .agg #[.int .i64 (IntKind.i64.wrap ((IntKind.i64.wrap (a * c)) - (IntKind.i64.wrap (b * d)))), .int .i64 (IntKind.i64.wrap ((IntKind.i64.wrap ((IntKind.i64.wrap (a * d)) + (IntKind.i64.wrap (b * c)))) - (IntKind.i64.wrap (b * d))))]
def prod_r0 (a b c d : Int) : Prop := True
theorem prod_o0 (a b c d : Int) : obOf (prod_e0 a b c d) = prod_r0 a b c d := by kernel_rfl
theorem prod_v0 (a b c d : Int) : resOf (prod_e0 a b c d) = prod_w0 a b c d := by kernel_rfl
theorem prod_k0 (a b c d : Int) : cleanOf Tryz.prog.globals.size (prod_e0 a b c d) = true := by kernel_rfl
theorem prod_q0 (a b c d : Int) : prod_e0 a b c d = evFS Tryz.prog x_prod 1000 50 #[.agg #[.int .i64 a, .int .i64 b], .agg #[.int .i64 c, .int .i64 d]] (noTabs 6) ⟨[], True⟩ := by
  delta prod_e0
  exact Eq.refl _
theorem prod_p0 (a b c d : Int) (h : prod_r0 a b c d) (w : World) : Calls Tryz.prog 50 #[.agg #[.int .i64 a, .int .i64 b], .agg #[.int .i64 c, .int .i64 d]] w fun en w' => en = .returned (prod_w0 a b c d) ∧ Below w.heap.size w w' := by
  have hv := prod_v0 a b c d
  have hc := prod_k0 a b c d
  have he := prod_q0 a b c d
  have ho := prod_o0 a b c d
  generalize prod_e0 a b c d = r at *
  exact calls_way he gfol prod_X hv rfl (prod_args a b c d) hc ho h (bl w)
theorem prod_any (a b c d : Int) (hpre : Bg 268435456 a b ∧ Bg 268435456 c d) (w : World) : Calls Tryz.prog 50 #[.agg #[.int .i64 a, .int .i64 b], .agg #[.int .i64 c, .int .i64 d]] w fun en w' => en = .returned (prod_val a b c d) ∧ Below w.heap.size w w' := by
  obtain ⟨⟨p1, p2, p3, p4⟩, q1, q2, q3, q4⟩ := hpre
  have b1 := bd 268435456 268435456 a c (by omega) (by omega) ⟨p1, p2⟩ ⟨q1, q2⟩
  have b2 := bd 268435456 268435456 b d (by omega) (by omega) ⟨p3, p4⟩ ⟨q3, q4⟩
  have b3 := bd 268435456 268435456 a d (by omega) (by omega) ⟨p1, p2⟩ ⟨q3, q4⟩
  have b4 := bd 268435456 268435456 b c (by omega) (by omega) ⟨p3, p4⟩ ⟨q1, q2⟩
  have hp := prod_p0 a b c d trivial w
  have hv : prod_w0 a b c d = prod_val a b c d := by
    clear hp
    unfold prod_w0 prod_val
    (try simp (disch := omega) only [wi]); rfl
  exact hv ▸ hp
theorem k_prod : ConOk Tryz.prog c_prod := fun ns hl => by
  have hl0 : ns.length = 4 := hl
  clear hl
  obtain ⟨a, ns0, rfl, hl1⟩ := len_cons hl0
  obtain ⟨b, ns1, rfl, hl2⟩ := len_cons hl1
  obtain ⟨c, ns2, rfl, hl3⟩ := len_cons hl2
  obtain ⟨d, ns3, rfl, hl4⟩ := len_cons hl3
  obtain rfl := len_nil hl4
  exact ⟨rfl, fun h w => prod_any a b c d h w⟩
end Go.Proofs.YtledgemlflbfdaaGreatDoor
end
section
set_option linter.all false
set_option maxRecDepth 1000000
set_option maxHeartbeats 2000000
open Go.RowKit
namespace Go.Proofs.YtledgemlflbfdaaGreatDoor
open Mini

def mul_val (a b c d : Int) : Value := .tuple #[.agg #[.int .i64 (two (Pl.parts a b 1048576) (Pl.parts c d 1048576) (Pl.lim (Pl.mul (a, b) (c, d)))).1.1, .int .i64 (two (Pl.parts a b 1048576) (Pl.parts c d 1048576) (Pl.lim (Pl.mul (a, b) (c, d)))).1.2], .int .i64 (two (Pl.parts a b 1048576) (Pl.parts c d 1048576) (Pl.lim (Pl.mul (a, b) (c, d)))).2]
theorem mul_X : FOkS Tryz.prog x_mul := kAll_ok _ ⟨k_checkEisen, k_prod, k_limited, trivial⟩
theorem mul_args (a b c d : Int) : (#[.agg #[.int .i64 a, .int .i64 b], .agg #[.int .i64 c, .int .i64 d]] : Array Value).toList.all (ground 8) = true := by kernel_rfl
theorem mul_g0 : True := by first | rfl | trivial | decide | omega
theorem mul_g1 : ((decide ((0 : Int) < ((2 : Nat) : Int))) = Bool.true) := by first | rfl | trivial | decide | omega
theorem mul_g2 : ((0 : Int) = (Int.ofNat 0)) := by first | rfl | trivial | decide | omega
def mul_c0 (a b c d : Int) : Bool := ((Pl.parts a b (1048576 : Int)) != (0 : Int))
theorem mul_g4 : ((decide ((IntKind.i64.wrap ((0 : Int) + (1 : Int))) < ((2 : Nat) : Int))) = Bool.true) := by first | rfl | trivial | decide | omega
theorem mul_g5 : ((IntKind.i64.wrap ((0 : Int) + (1 : Int))) = (Int.ofNat 1)) := by first | rfl | trivial | decide | omega
def mul_c1 (a b c d : Int) : Bool := ((Pl.parts c d (1048576 : Int)) != (0 : Int))
theorem mul_g7 : ((decide ((IntKind.i64.wrap ((IntKind.i64.wrap ((0 : Int) + (1 : Int))) + (1 : Int))) < ((2 : Nat) : Int))) = Bool.false) := by first | rfl | trivial | decide | omega
theorem mul_g8 : (((0 : Int) != (0 : Int)) = Bool.false) := by first | rfl | trivial | decide | omega
def mul_b9 (a b c d : Int) : Prop := ((Bg (268435456 : Int) a b) ∧ (Bg (268435456 : Int) c d))
def mul_w0 (a b c d : Int) : Value := .tuple #[.agg #[.int .i64 (((Pl.lim (((Pl.mul (a, b) (c, d))).1, ((Pl.mul (a, b) (c, d))).2))).1).1, .int .i64 (((Pl.lim (((Pl.mul (a, b) (c, d))).1, ((Pl.mul (a, b) (c, d))).2))).1).2], .int .i64 ((Pl.lim (((Pl.mul (a, b) (c, d))).1, ((Pl.mul (a, b) (c, d))).2))).2]
def mul_r0 (a b c d : Int) : Prop := ((((((((((((True ∧ (True)) ∧ (True)) ∧ (((decide ((0 : Int) < ((2 : Nat) : Int))) = Bool.true))) ∧ (((0 : Int) = (Int.ofNat 0)))) ∧ (mul_c0 a b c d = false)) ∧ (((decide ((IntKind.i64.wrap ((0 : Int) + (1 : Int))) < ((2 : Nat) : Int))) = Bool.true))) ∧ (((IntKind.i64.wrap ((0 : Int) + (1 : Int))) = (Int.ofNat 1)))) ∧ (mul_c1 a b c d = false)) ∧ (((decide ((IntKind.i64.wrap ((IntKind.i64.wrap ((0 : Int) + (1 : Int))) + (1 : Int))) < ((2 : Nat) : Int))) = Bool.false))) ∧ ((((0 : Int) != (0 : Int)) = Bool.false))) ∧ (mul_b9 a b c d)) ∧ (True))
theorem mul_o0 (a b c d : Int) : obOf (mul_e0 a b c d) = mul_r0 a b c d := by kernel_rfl
theorem mul_v0 (a b c d : Int) : resOf (mul_e0 a b c d) = mul_w0 a b c d := by kernel_rfl
theorem mul_k0 (a b c d : Int) : cleanOf Tryz.prog.globals.size (mul_e0 a b c d) = true := by kernel_rfl
theorem mul_q0 (a b c d : Int) : mul_e0 a b c d = evFS Tryz.prog x_mul 1000 10 #[.agg #[.int .i64 a, .int .i64 b], .agg #[.int .i64 c, .int .i64 d]] (noTabs 6) ⟨[1, 0, 0, 1, 1, 0, 0, 0], True⟩ := by
  delta mul_e0
  exact Eq.refl _
theorem mul_p0 (a b c d : Int) (h : mul_r0 a b c d) (w : World) : Calls Tryz.prog 10 #[.agg #[.int .i64 a, .int .i64 b], .agg #[.int .i64 c, .int .i64 d]] w fun en w' => en = .returned (mul_w0 a b c d) ∧ Below w.heap.size w w' := by
  have hv := mul_v0 a b c d
  have hc := mul_k0 a b c d
  have he := mul_q0 a b c d
  have ho := mul_o0 a b c d
  generalize mul_e0 a b c d = r at *
  exact calls_way he gfol mul_X hv rfl (mul_args a b c d) hc ho h (bl w)
def mul_w1 (a b c d : Int) : Value := .tuple #[.agg #[.int .i64 (0 : Int), .int .i64 (0 : Int)], .int .i64 (Pl.parts a b (1048576 : Int))]
def mul_r1 (a b c d : Int) : Prop := ((((((True ∧ (True)) ∧ (True)) ∧ (((decide ((0 : Int) < ((2 : Nat) : Int))) = Bool.true))) ∧ (((0 : Int) = (Int.ofNat 0)))) ∧ (mul_c0 a b c d = true)) ∧ (mul_c0 a b c d = true))
theorem mul_o1 (a b c d : Int) : obOf (mul_e1 a b c d) = mul_r1 a b c d := by kernel_rfl
theorem mul_v1 (a b c d : Int) : resOf (mul_e1 a b c d) = mul_w1 a b c d := by kernel_rfl
theorem mul_k1 (a b c d : Int) : cleanOf Tryz.prog.globals.size (mul_e1 a b c d) = true := by kernel_rfl
theorem mul_q1 (a b c d : Int) : mul_e1 a b c d = evFS Tryz.prog x_mul 1000 10 #[.agg #[.int .i64 a, .int .i64 b], .agg #[.int .i64 c, .int .i64 d]] (noTabs 6) ⟨[1, 0, 1, 1], True⟩ := by
  delta mul_e1
  exact Eq.refl _
theorem mul_p1 (a b c d : Int) (h : mul_r1 a b c d) (w : World) : Calls Tryz.prog 10 #[.agg #[.int .i64 a, .int .i64 b], .agg #[.int .i64 c, .int .i64 d]] w fun en w' => en = .returned (mul_w1 a b c d) ∧ Below w.heap.size w w' := by
  have hv := mul_v1 a b c d
  have hc := mul_k1 a b c d
  have he := mul_q1 a b c d
  have ho := mul_o1 a b c d
  generalize mul_e1 a b c d = r at *
  exact calls_way he gfol mul_X hv rfl (mul_args a b c d) hc ho h (bl w)
def mul_w2 (a b c d : Int) : Value := .tuple #[.agg #[.int .i64 (0 : Int), .int .i64 (0 : Int)], .int .i64 (Pl.parts c d (1048576 : Int))]
def mul_r2 (a b c d : Int) : Prop := (((((((((True ∧ (True)) ∧ (True)) ∧ (((decide ((0 : Int) < ((2 : Nat) : Int))) = Bool.true))) ∧ (((0 : Int) = (Int.ofNat 0)))) ∧ (mul_c0 a b c d = false)) ∧ (((decide ((IntKind.i64.wrap ((0 : Int) + (1 : Int))) < ((2 : Nat) : Int))) = Bool.true))) ∧ (((IntKind.i64.wrap ((0 : Int) + (1 : Int))) = (Int.ofNat 1)))) ∧ (mul_c1 a b c d = true)) ∧ (mul_c1 a b c d = true))
theorem mul_o2 (a b c d : Int) : obOf (mul_e2 a b c d) = mul_r2 a b c d := by kernel_rfl
theorem mul_v2 (a b c d : Int) : resOf (mul_e2 a b c d) = mul_w2 a b c d := by kernel_rfl
theorem mul_k2 (a b c d : Int) : cleanOf Tryz.prog.globals.size (mul_e2 a b c d) = true := by kernel_rfl
theorem mul_q2 (a b c d : Int) : mul_e2 a b c d = evFS Tryz.prog x_mul 1000 10 #[.agg #[.int .i64 a, .int .i64 b], .agg #[.int .i64 c, .int .i64 d]] (noTabs 6) ⟨[1, 0, 0, 1, 1, 1, 1], True⟩ := by
  delta mul_e2
  exact Eq.refl _
theorem mul_p2 (a b c d : Int) (h : mul_r2 a b c d) (w : World) : Calls Tryz.prog 10 #[.agg #[.int .i64 a, .int .i64 b], .agg #[.int .i64 c, .int .i64 d]] w fun en w' => en = .returned (mul_w2 a b c d) ∧ Below w.heap.size w w' := by
  have hv := mul_v2 a b c d
  have hc := mul_k2 a b c d
  have he := mul_q2 a b c d
  have ho := mul_o2 a b c d
  generalize mul_e2 a b c d = r at *
  exact calls_way he gfol mul_X hv rfl (mul_args a b c d) hc ho h (bl w)
theorem mul_any (a b c d : Int) (hpre : True) (w : World) : Calls Tryz.prog 10 #[.agg #[.int .i64 a, .int .i64 b], .agg #[.int .i64 c, .int .i64 d]] w fun en w' => en = .returned (mul_val a b c d) ∧ Below w.heap.size w w' := by
  rcases Bool.eq_false_or_eq_true (mul_c0 a b c d) with h0 | h0
  ·
    unfold mul_c0 at h0
    have hp := mul_p1 a b c d ⟨⟨⟨⟨⟨⟨trivial, mul_g0⟩, mul_g0⟩, mul_g1⟩, mul_g2⟩, h0⟩, h0⟩ w
    have hv : mul_w1 a b c d = mul_val a b c d := by
      clear hp
      unfold mul_w1 mul_val
      first | rfl | ((try simp only [bne_iff_ne, ne_eq, decide_eq_true_eq, decide_eq_false_iff_not, Bool.not_eq_true', Bool.not_eq_false', beq_iff_eq, beq_eq_false_iff_ne, bne_eq_false_iff_eq, Bool.and_eq_true, Bool.not_eq_true, Bool.not_eq_false, two] at *); grind)
    exact hv ▸ hp
  ·
    unfold mul_c0 at h0
    rcases Bool.eq_false_or_eq_true (mul_c1 a b c d) with h1 | h1
    ·
      unfold mul_c1 at h1
      have hp := mul_p2 a b c d ⟨⟨⟨⟨⟨⟨⟨⟨⟨trivial, mul_g0⟩, mul_g0⟩, mul_g1⟩, mul_g2⟩, h0⟩, mul_g4⟩, mul_g5⟩, h1⟩, h1⟩ w
      have hv : mul_w2 a b c d = mul_val a b c d := by
        clear hp
        unfold mul_w2 mul_val
        first | rfl | ((try simp only [bne_iff_ne, ne_eq, decide_eq_true_eq, decide_eq_false_iff_not, Bool.not_eq_true', Bool.not_eq_false', beq_iff_eq, beq_eq_false_iff_ne, bne_eq_false_iff_eq, Bool.and_eq_true, Bool.not_eq_true, Bool.not_eq_false, two] at *); grind)
      exact hv ▸ hp
    ·
      unfold mul_c1 at h1
      have h2 : (mul_b9 a b c d) := by
        unfold mul_b9
        first | rfl | trivial | (simp only [bne_eq_false_iff_eq] at *; exact ⟨bg_of (by assumption) (by decide), bg_of (by assumption) (by decide)⟩)
      unfold mul_b9 at h2
      have hp := mul_p0 a b c d ⟨⟨⟨⟨⟨⟨⟨⟨⟨⟨⟨⟨trivial, mul_g0⟩, mul_g0⟩, mul_g1⟩, mul_g2⟩, h0⟩, mul_g4⟩, mul_g5⟩, h1⟩, mul_g7⟩, mul_g8⟩, h2⟩, mul_g0⟩ w
      have hv : mul_w0 a b c d = mul_val a b c d := by
        clear hp
        unfold mul_w0 mul_val
        first | rfl | ((try simp only [bne_iff_ne, ne_eq, decide_eq_true_eq, decide_eq_false_iff_not, Bool.not_eq_true', Bool.not_eq_false', beq_iff_eq, beq_eq_false_iff_ne, bne_eq_false_iff_eq, Bool.and_eq_true, Bool.not_eq_true, Bool.not_eq_false, two] at *); grind)
      exact hv ▸ hp
theorem k_mul : ConOk Tryz.prog c_mul := fun ns hl => by
  have hl0 : ns.length = 4 := hl
  clear hl
  obtain ⟨a, ns0, rfl, hl1⟩ := len_cons hl0
  obtain ⟨b, ns1, rfl, hl2⟩ := len_cons hl1
  obtain ⟨c, ns2, rfl, hl3⟩ := len_cons hl2
  obtain ⟨d, ns3, rfl, hl4⟩ := len_cons hl3
  obtain rfl := len_nil hl4
  exact ⟨rfl, fun h w => mul_any a b c d h w⟩
end Go.Proofs.YtledgemlflbfdaaGreatDoor
end
section
set_option linter.all false
set_option maxRecDepth 1000000
set_option maxHeartbeats 2000000
open Go.RowKit
namespace Go.Proofs.YtledgemlflbfdaaGreatDoor
open Mini

def mulS_val (a b c d : Int) : Value := .tuple #[.agg #[.int .i64 (Pl.mul (a, b) (c, d)).1, .int .i64 (Pl.mul (a, b) (c, d)).2], .int .i64 0]
theorem mulS_any (a b c d : Int) (hpre : Pl.inB 1048576 (a, b) ∧ Pl.inB 1048576 (c, d) ∧ Pl.inB 1048576 (Pl.mul (a, b) (c, d))) (w : World) : Calls Tryz.prog 10 #[.agg #[.int .i64 a, .int .i64 b], .agg #[.int .i64 c, .int .i64 d]] w fun en w' => en = .returned (mulS_val a b c d) ∧ Below w.heap.size w w' := by
  have hp := mul_any a b c d (trivial) w
  have hv : mul_val a b c d = mulS_val a b c d := by
    clear hp
    unfold mul_val mulS_val
    obtain ⟨h1, h2, h3⟩ := hpre
    simp only [two, parts_in h1, parts_in h2, lim_inB h3, ↓reduceIte]
  exact hv ▸ hp
theorem k_mulS : ConOk Tryz.prog c_mulS := fun ns hl => by
  have hl0 : ns.length = 4 := hl
  clear hl
  obtain ⟨a, ns0, rfl, hl1⟩ := len_cons hl0
  obtain ⟨b, ns1, rfl, hl2⟩ := len_cons hl1
  obtain ⟨c, ns2, rfl, hl3⟩ := len_cons hl2
  obtain ⟨d, ns3, rfl, hl4⟩ := len_cons hl3
  obtain rfl := len_nil hl4
  exact ⟨rfl, fun h w => mulS_any a b c d h w⟩
end Go.Proofs.YtledgemlflbfdaaGreatDoor
end
section
set_option linter.all false
set_option maxRecDepth 1000000
set_option maxHeartbeats 2000000
open Go.RowKit
namespace Go.Proofs.YtledgemlflbfdaaGreatDoor
open Mini

def checkTurn_val (n : Int) : Value := .int .i64 (Pl.cr n (-1000000) 1000000)
theorem checkTurn_X : FOkS Tryz.prog x_checkTurn := kAll_ok _ ⟨k_range, trivial⟩
theorem checkTurn_args (n : Int) : (#[.int .i64 n] : Array Value).toList.all (ground 8) = true := by kernel_rfl
theorem checkTurn_g0 : True := by first | rfl | trivial | decide | omega
def checkTurn_w0 (n : Int) : Value := .int .i64 (Pl.cr n (- (1000000 : Int)) (1000000 : Int))
def checkTurn_r0 (n : Int) : Prop := (True ∧ (True))
theorem checkTurn_o0 (n : Int) : obOf (checkTurn_e0 n) = checkTurn_r0 n := by kernel_rfl
theorem checkTurn_v0 (n : Int) : resOf (checkTurn_e0 n) = checkTurn_w0 n := by kernel_rfl
theorem checkTurn_k0 (n : Int) : cleanOf Tryz.prog.globals.size (checkTurn_e0 n) = true := by kernel_rfl
theorem checkTurn_q0 (n : Int) : checkTurn_e0 n = evFS Tryz.prog x_checkTurn 1000 51 #[.int .i64 n] (noTabs 6) ⟨[], True⟩ := by
  delta checkTurn_e0
  exact Eq.refl _
theorem checkTurn_p0 (n : Int) (h : checkTurn_r0 n) (w : World) : Calls Tryz.prog 51 #[.int .i64 n] w fun en w' => en = .returned (checkTurn_w0 n) ∧ Below w.heap.size w w' := by
  have hv := checkTurn_v0 n
  have hc := checkTurn_k0 n
  have he := checkTurn_q0 n
  have ho := checkTurn_o0 n
  generalize checkTurn_e0 n = r at *
  exact calls_way he gfol checkTurn_X hv rfl (checkTurn_args n) hc ho h (bl w)
theorem checkTurn_any (n : Int) (hpre : True) (w : World) : Calls Tryz.prog 51 #[.int .i64 n] w fun en w' => en = .returned (checkTurn_val n) ∧ Below w.heap.size w w' := by
  have hp := checkTurn_p0 n ⟨trivial, checkTurn_g0⟩ w
  have hv : checkTurn_w0 n = checkTurn_val n := by
    clear hp
    unfold checkTurn_w0 checkTurn_val
    first | rfl | ((try simp only [bne_iff_ne, ne_eq, decide_eq_true_eq, decide_eq_false_iff_not, Bool.not_eq_true', Bool.not_eq_false', beq_iff_eq, beq_eq_false_iff_ne, bne_eq_false_iff_eq, Bool.and_eq_true, Bool.not_eq_true, Bool.not_eq_false, Pl.cr, parts_eq, w20, w16, wT, w20', w16', wT', Pl.lim, Pl.inB, first_two, two, oneB, Bg] at *); grind)
  exact hv ▸ hp
theorem k_checkTurn : ConOk Tryz.prog c_checkTurn := fun ns hl => by
  have hl0 : ns.length = 1 := hl
  clear hl
  obtain ⟨n, ns0, rfl, hl1⟩ := len_cons hl0
  obtain rfl := len_nil hl1
  exact ⟨rfl, fun h w => checkTurn_any n h w⟩
end Go.Proofs.YtledgemlflbfdaaGreatDoor
end
section
set_option linter.all false
set_option maxRecDepth 1000000
set_option maxHeartbeats 2000000
open Go.RowKit
namespace Go.Proofs.YtledgemlflbfdaaGreatDoor
open Mini

def turn_val (a b n : Int) : Value := .agg #[.int .i64 (Pl.turn (a, b) n).1, .int .i64 (Pl.turn (a, b) n).2]
theorem turn_X : FOkS Tryz.prog x_turn := noXS_ok
theorem turn_args (a b n : Int) : (#[.agg #[.int .i64 a, .int .i64 b], .int .i64 n] : Array Value).toList.all (ground 8) = true := by kernel_rfl
def turn_c0 (a b n : Int) : Bool := (decide ((0 : Int) < (Int.tmod (IntKind.i64.wrap ((Int.tmod n (6 : Int)) + (6 : Int))) (6 : Int))))
def turn_c1 (a b n : Int) : Bool := (decide ((IntKind.i64.wrap ((0 : Int) + (1 : Int))) < (Int.tmod (IntKind.i64.wrap ((Int.tmod n (6 : Int)) + (6 : Int))) (6 : Int))))
def turn_c2 (a b n : Int) : Bool := (decide ((IntKind.i64.wrap ((IntKind.i64.wrap ((0 : Int) + (1 : Int))) + (1 : Int))) < (Int.tmod (IntKind.i64.wrap ((Int.tmod n (6 : Int)) + (6 : Int))) (6 : Int))))
def turn_c3 (a b n : Int) : Bool := (decide ((IntKind.i64.wrap ((IntKind.i64.wrap ((IntKind.i64.wrap ((0 : Int) + (1 : Int))) + (1 : Int))) + (1 : Int))) < (Int.tmod (IntKind.i64.wrap ((Int.tmod n (6 : Int)) + (6 : Int))) (6 : Int))))
def turn_c4 (a b n : Int) : Bool := (decide ((IntKind.i64.wrap ((IntKind.i64.wrap ((IntKind.i64.wrap ((IntKind.i64.wrap ((0 : Int) + (1 : Int))) + (1 : Int))) + (1 : Int))) + (1 : Int))) < (Int.tmod (IntKind.i64.wrap ((Int.tmod n (6 : Int)) + (6 : Int))) (6 : Int))))
def turn_c5 (a b n : Int) : Bool := (decide ((IntKind.i64.wrap ((IntKind.i64.wrap ((IntKind.i64.wrap ((IntKind.i64.wrap ((IntKind.i64.wrap ((0 : Int) + (1 : Int))) + (1 : Int))) + (1 : Int))) + (1 : Int))) + (1 : Int))) < (Int.tmod (IntKind.i64.wrap ((Int.tmod n (6 : Int)) + (6 : Int))) (6 : Int))))
def turn_w0 (a b n : Int) : Value := .agg #[.int .i64 a, .int .i64 b]
def turn_r0 (a b n : Int) : Prop := (True ∧ (turn_c0 a b n = false))
theorem turn_o0 (a b n : Int) : obOf (turn_e0 a b n) = turn_r0 a b n := by kernel_rfl
theorem turn_v0 (a b n : Int) : resOf (turn_e0 a b n) = turn_w0 a b n := by kernel_rfl
theorem turn_k0 (a b n : Int) : cleanOf Tryz.prog.globals.size (turn_e0 a b n) = true := by kernel_rfl
theorem turn_q0 (a b n : Int) : turn_e0 a b n = evFS Tryz.prog x_turn 1000 52 #[.agg #[.int .i64 a, .int .i64 b], .int .i64 n] (noTabs 6) ⟨[0], True⟩ := by
  delta turn_e0
  exact Eq.refl _
theorem turn_p0 (a b n : Int) (h : turn_r0 a b n) (w : World) : Calls Tryz.prog 52 #[.agg #[.int .i64 a, .int .i64 b], .int .i64 n] w fun en w' => en = .returned (turn_w0 a b n) ∧ Below w.heap.size w w' := by
  have hv := turn_v0 a b n
  have hc := turn_k0 a b n
  have he := turn_q0 a b n
  have ho := turn_o0 a b n
  generalize turn_e0 a b n = r at *
  exact calls_way he gfol turn_X hv rfl (turn_args a b n) hc ho h (bl w)
def turn_w1 (a b n : Int) : Value := .agg #[.int .i64 (IntKind.i64.wrap (a - b)), .int .i64 a]
def turn_r1 (a b n : Int) : Prop := ((True ∧ (turn_c0 a b n = true)) ∧ (turn_c1 a b n = false))
theorem turn_o1 (a b n : Int) : obOf (turn_e1 a b n) = turn_r1 a b n := by kernel_rfl
theorem turn_v1 (a b n : Int) : resOf (turn_e1 a b n) = turn_w1 a b n := by kernel_rfl
theorem turn_k1 (a b n : Int) : cleanOf Tryz.prog.globals.size (turn_e1 a b n) = true := by kernel_rfl
theorem turn_q1 (a b n : Int) : turn_e1 a b n = evFS Tryz.prog x_turn 1000 52 #[.agg #[.int .i64 a, .int .i64 b], .int .i64 n] (noTabs 6) ⟨[1, 0], True⟩ := by
  delta turn_e1
  exact Eq.refl _
theorem turn_p1 (a b n : Int) (h : turn_r1 a b n) (w : World) : Calls Tryz.prog 52 #[.agg #[.int .i64 a, .int .i64 b], .int .i64 n] w fun en w' => en = .returned (turn_w1 a b n) ∧ Below w.heap.size w w' := by
  have hv := turn_v1 a b n
  have hc := turn_k1 a b n
  have he := turn_q1 a b n
  have ho := turn_o1 a b n
  generalize turn_e1 a b n = r at *
  exact calls_way he gfol turn_X hv rfl (turn_args a b n) hc ho h (bl w)
def turn_w2 (a b n : Int) : Value := .agg #[.int .i64 (IntKind.i64.wrap ((IntKind.i64.wrap (a - b)) - a)), .int .i64 (IntKind.i64.wrap (a - b))]
def turn_r2 (a b n : Int) : Prop := (((True ∧ (turn_c0 a b n = true)) ∧ (turn_c1 a b n = true)) ∧ (turn_c2 a b n = false))
theorem turn_o2 (a b n : Int) : obOf (turn_e2 a b n) = turn_r2 a b n := by kernel_rfl
theorem turn_v2 (a b n : Int) : resOf (turn_e2 a b n) = turn_w2 a b n := by kernel_rfl
theorem turn_k2 (a b n : Int) : cleanOf Tryz.prog.globals.size (turn_e2 a b n) = true := by kernel_rfl
theorem turn_q2 (a b n : Int) : turn_e2 a b n = evFS Tryz.prog x_turn 1000 52 #[.agg #[.int .i64 a, .int .i64 b], .int .i64 n] (noTabs 6) ⟨[1, 1, 0], True⟩ := by
  delta turn_e2
  exact Eq.refl _
theorem turn_p2 (a b n : Int) (h : turn_r2 a b n) (w : World) : Calls Tryz.prog 52 #[.agg #[.int .i64 a, .int .i64 b], .int .i64 n] w fun en w' => en = .returned (turn_w2 a b n) ∧ Below w.heap.size w w' := by
  have hv := turn_v2 a b n
  have hc := turn_k2 a b n
  have he := turn_q2 a b n
  have ho := turn_o2 a b n
  generalize turn_e2 a b n = r at *
  exact calls_way he gfol turn_X hv rfl (turn_args a b n) hc ho h (bl w)
def turn_w3 (a b n : Int) : Value := .agg #[.int .i64 (IntKind.i64.wrap ((IntKind.i64.wrap ((IntKind.i64.wrap (a - b)) - a)) - (IntKind.i64.wrap (a - b)))), .int .i64 (IntKind.i64.wrap ((IntKind.i64.wrap (a - b)) - a))]
def turn_r3 (a b n : Int) : Prop := ((((True ∧ (turn_c0 a b n = true)) ∧ (turn_c1 a b n = true)) ∧ (turn_c2 a b n = true)) ∧ (turn_c3 a b n = false))
theorem turn_o3 (a b n : Int) : obOf (turn_e3 a b n) = turn_r3 a b n := by kernel_rfl
theorem turn_v3 (a b n : Int) : resOf (turn_e3 a b n) = turn_w3 a b n := by kernel_rfl
theorem turn_k3 (a b n : Int) : cleanOf Tryz.prog.globals.size (turn_e3 a b n) = true := by kernel_rfl
theorem turn_q3 (a b n : Int) : turn_e3 a b n = evFS Tryz.prog x_turn 1000 52 #[.agg #[.int .i64 a, .int .i64 b], .int .i64 n] (noTabs 6) ⟨[1, 1, 1, 0], True⟩ := by
  delta turn_e3
  exact Eq.refl _
theorem turn_p3 (a b n : Int) (h : turn_r3 a b n) (w : World) : Calls Tryz.prog 52 #[.agg #[.int .i64 a, .int .i64 b], .int .i64 n] w fun en w' => en = .returned (turn_w3 a b n) ∧ Below w.heap.size w w' := by
  have hv := turn_v3 a b n
  have hc := turn_k3 a b n
  have he := turn_q3 a b n
  have ho := turn_o3 a b n
  generalize turn_e3 a b n = r at *
  exact calls_way he gfol turn_X hv rfl (turn_args a b n) hc ho h (bl w)
def turn_w4 (a b n : Int) : Value := .agg #[.int .i64 (IntKind.i64.wrap ((IntKind.i64.wrap ((IntKind.i64.wrap ((IntKind.i64.wrap (a - b)) - a)) - (IntKind.i64.wrap (a - b)))) - (IntKind.i64.wrap ((IntKind.i64.wrap (a - b)) - a)))), .int .i64 (IntKind.i64.wrap ((IntKind.i64.wrap ((IntKind.i64.wrap (a - b)) - a)) - (IntKind.i64.wrap (a - b))))]
def turn_r4 (a b n : Int) : Prop := (((((True ∧ (turn_c0 a b n = true)) ∧ (turn_c1 a b n = true)) ∧ (turn_c2 a b n = true)) ∧ (turn_c3 a b n = true)) ∧ (turn_c4 a b n = false))
theorem turn_o4 (a b n : Int) : obOf (turn_e4 a b n) = turn_r4 a b n := by kernel_rfl
theorem turn_v4 (a b n : Int) : resOf (turn_e4 a b n) = turn_w4 a b n := by kernel_rfl
theorem turn_k4 (a b n : Int) : cleanOf Tryz.prog.globals.size (turn_e4 a b n) = true := by kernel_rfl
theorem turn_q4 (a b n : Int) : turn_e4 a b n = evFS Tryz.prog x_turn 1000 52 #[.agg #[.int .i64 a, .int .i64 b], .int .i64 n] (noTabs 6) ⟨[1, 1, 1, 1, 0], True⟩ := by
  delta turn_e4
  exact Eq.refl _
theorem turn_p4 (a b n : Int) (h : turn_r4 a b n) (w : World) : Calls Tryz.prog 52 #[.agg #[.int .i64 a, .int .i64 b], .int .i64 n] w fun en w' => en = .returned (turn_w4 a b n) ∧ Below w.heap.size w w' := by
  have hv := turn_v4 a b n
  have hc := turn_k4 a b n
  have he := turn_q4 a b n
  have ho := turn_o4 a b n
  generalize turn_e4 a b n = r at *
  exact calls_way he gfol turn_X hv rfl (turn_args a b n) hc ho h (bl w)
def turn_w5 (a b n : Int) : Value := .agg #[.int .i64 (IntKind.i64.wrap ((IntKind.i64.wrap ((IntKind.i64.wrap ((IntKind.i64.wrap ((IntKind.i64.wrap (a - b)) - a)) - (IntKind.i64.wrap (a - b)))) - (IntKind.i64.wrap ((IntKind.i64.wrap (a - b)) - a)))) - (IntKind.i64.wrap ((IntKind.i64.wrap ((IntKind.i64.wrap (a - b)) - a)) - (IntKind.i64.wrap (a - b)))))), .int .i64 (IntKind.i64.wrap ((IntKind.i64.wrap ((IntKind.i64.wrap ((IntKind.i64.wrap (a - b)) - a)) - (IntKind.i64.wrap (a - b)))) - (IntKind.i64.wrap ((IntKind.i64.wrap (a - b)) - a))))]
def turn_r5 (a b n : Int) : Prop := ((((((True ∧ (turn_c0 a b n = true)) ∧ (turn_c1 a b n = true)) ∧ (turn_c2 a b n = true)) ∧ (turn_c3 a b n = true)) ∧ (turn_c4 a b n = true)) ∧ (turn_c5 a b n = false))
theorem turn_o5 (a b n : Int) : obOf (turn_e5 a b n) = turn_r5 a b n := by kernel_rfl
theorem turn_v5 (a b n : Int) : resOf (turn_e5 a b n) = turn_w5 a b n := by kernel_rfl
theorem turn_k5 (a b n : Int) : cleanOf Tryz.prog.globals.size (turn_e5 a b n) = true := by kernel_rfl
theorem turn_q5 (a b n : Int) : turn_e5 a b n = evFS Tryz.prog x_turn 1000 52 #[.agg #[.int .i64 a, .int .i64 b], .int .i64 n] (noTabs 6) ⟨[1, 1, 1, 1, 1, 0], True⟩ := by
  delta turn_e5
  exact Eq.refl _
theorem turn_p5 (a b n : Int) (h : turn_r5 a b n) (w : World) : Calls Tryz.prog 52 #[.agg #[.int .i64 a, .int .i64 b], .int .i64 n] w fun en w' => en = .returned (turn_w5 a b n) ∧ Below w.heap.size w w' := by
  have hv := turn_v5 a b n
  have hc := turn_k5 a b n
  have he := turn_q5 a b n
  have ho := turn_o5 a b n
  generalize turn_e5 a b n = r at *
  exact calls_way he gfol turn_X hv rfl (turn_args a b n) hc ho h (bl w)
theorem turn_any (a b n : Int) (hpre : Bg 1099511627776 a b) (w : World) : Calls Tryz.prog 52 #[.agg #[.int .i64 a, .int .i64 b], .int .i64 n] w fun en w' => en = .returned (turn_val a b n) ∧ Below w.heap.size w w' := by
  have t6 := tm6 n
  rcases Bool.eq_false_or_eq_true (turn_c0 a b n) with h0 | h0
  ·
    unfold turn_c0 at h0
    rcases Bool.eq_false_or_eq_true (turn_c1 a b n) with h1 | h1
    ·
      unfold turn_c1 at h1
      rcases Bool.eq_false_or_eq_true (turn_c2 a b n) with h2 | h2
      ·
        unfold turn_c2 at h2
        rcases Bool.eq_false_or_eq_true (turn_c3 a b n) with h3 | h3
        ·
          unfold turn_c3 at h3
          rcases Bool.eq_false_or_eq_true (turn_c4 a b n) with h4 | h4
          ·
            unfold turn_c4 at h4
            have h5 : (turn_c5 a b n = false) := by
              unfold turn_c5
              first | rfl | trivial | decide | ((try simp (disch := omega) only [wi, rem6, decide_eq_true_eq, decide_eq_false_iff_not] at *) <;> omega)
            unfold turn_c5 at h5
            have hp := turn_p5 a b n ⟨⟨⟨⟨⟨⟨trivial, h0⟩, h1⟩, h2⟩, h3⟩, h4⟩, h5⟩ w
            have hv : turn_w5 a b n = turn_val a b n := by
              clear hp
              unfold turn_w5 turn_val
              unfold Bg at hpre
              (try simp (disch := omega) only [wi, rem6, decide_eq_true_eq, decide_eq_false_iff_not] at *)
              rcases turn_cases (a, b) n with ⟨g, e⟩ | ⟨g, e⟩ | ⟨g, e⟩ | ⟨g, e⟩ | ⟨g, e⟩ | ⟨g, e⟩ <;> first | (exfalso; omega) | (rw [e]; done) | (rw [e]; first | rfl | (simp only; congr 2; simp only [Value.int.injEq, true_and, List.cons.injEq, and_true] <;> omega))
            exact hv ▸ hp
          ·
            unfold turn_c4 at h4
            have hp := turn_p4 a b n ⟨⟨⟨⟨⟨trivial, h0⟩, h1⟩, h2⟩, h3⟩, h4⟩ w
            have hv : turn_w4 a b n = turn_val a b n := by
              clear hp
              unfold turn_w4 turn_val
              unfold Bg at hpre
              (try simp (disch := omega) only [wi, rem6, decide_eq_true_eq, decide_eq_false_iff_not] at *)
              rcases turn_cases (a, b) n with ⟨g, e⟩ | ⟨g, e⟩ | ⟨g, e⟩ | ⟨g, e⟩ | ⟨g, e⟩ | ⟨g, e⟩ <;> first | (exfalso; omega) | (rw [e]; done) | (rw [e]; first | rfl | (simp only; congr 2; simp only [Value.int.injEq, true_and, List.cons.injEq, and_true] <;> omega))
            exact hv ▸ hp
        ·
          unfold turn_c3 at h3
          have hp := turn_p3 a b n ⟨⟨⟨⟨trivial, h0⟩, h1⟩, h2⟩, h3⟩ w
          have hv : turn_w3 a b n = turn_val a b n := by
            clear hp
            unfold turn_w3 turn_val
            unfold Bg at hpre
            (try simp (disch := omega) only [wi, rem6, decide_eq_true_eq, decide_eq_false_iff_not] at *)
            rcases turn_cases (a, b) n with ⟨g, e⟩ | ⟨g, e⟩ | ⟨g, e⟩ | ⟨g, e⟩ | ⟨g, e⟩ | ⟨g, e⟩ <;> first | (exfalso; omega) | (rw [e]; done) | (rw [e]; first | rfl | (simp only; congr 2; simp only [Value.int.injEq, true_and, List.cons.injEq, and_true] <;> omega))
          exact hv ▸ hp
      ·
        unfold turn_c2 at h2
        have hp := turn_p2 a b n ⟨⟨⟨trivial, h0⟩, h1⟩, h2⟩ w
        have hv : turn_w2 a b n = turn_val a b n := by
          clear hp
          unfold turn_w2 turn_val
          unfold Bg at hpre
          (try simp (disch := omega) only [wi, rem6, decide_eq_true_eq, decide_eq_false_iff_not] at *)
          rcases turn_cases (a, b) n with ⟨g, e⟩ | ⟨g, e⟩ | ⟨g, e⟩ | ⟨g, e⟩ | ⟨g, e⟩ | ⟨g, e⟩ <;> first | (exfalso; omega) | (rw [e]; done) | (rw [e]; first | rfl | (simp only; congr 2; simp only [Value.int.injEq, true_and, List.cons.injEq, and_true] <;> omega))
        exact hv ▸ hp
    ·
      unfold turn_c1 at h1
      have hp := turn_p1 a b n ⟨⟨trivial, h0⟩, h1⟩ w
      have hv : turn_w1 a b n = turn_val a b n := by
        clear hp
        unfold turn_w1 turn_val
        unfold Bg at hpre
        (try simp (disch := omega) only [wi, rem6, decide_eq_true_eq, decide_eq_false_iff_not] at *)
        rcases turn_cases (a, b) n with ⟨g, e⟩ | ⟨g, e⟩ | ⟨g, e⟩ | ⟨g, e⟩ | ⟨g, e⟩ | ⟨g, e⟩ <;> first | (exfalso; omega) | (rw [e]; done) | (rw [e]; first | rfl | (simp only; congr 2; simp only [Value.int.injEq, true_and, List.cons.injEq, and_true] <;> omega))
      exact hv ▸ hp
  ·
    unfold turn_c0 at h0
    have hp := turn_p0 a b n ⟨trivial, h0⟩ w
    have hv : turn_w0 a b n = turn_val a b n := by
      clear hp
      unfold turn_w0 turn_val
      unfold Bg at hpre
      (try simp (disch := omega) only [wi, rem6, decide_eq_true_eq, decide_eq_false_iff_not] at *)
      rcases turn_cases (a, b) n with ⟨g, e⟩ | ⟨g, e⟩ | ⟨g, e⟩ | ⟨g, e⟩ | ⟨g, e⟩ | ⟨g, e⟩ <;> first | (exfalso; omega) | (rw [e]; done) | (rw [e]; first | rfl | (simp only; congr 2; simp only [Value.int.injEq, true_and, List.cons.injEq, and_true] <;> omega))
    exact hv ▸ hp
theorem k_turn : ConOk Tryz.prog c_turn := fun ns hl => by
  have hl0 : ns.length = 3 := hl
  clear hl
  obtain ⟨a, ns0, rfl, hl1⟩ := len_cons hl0
  obtain ⟨b, ns1, rfl, hl2⟩ := len_cons hl1
  obtain ⟨n, ns2, rfl, hl3⟩ := len_cons hl2
  obtain rfl := len_nil hl3
  exact ⟨rfl, fun h w => turn_any a b n h w⟩
end Go.Proofs.YtledgemlflbfdaaGreatDoor
end
section
set_option linter.all false
set_option maxRecDepth 1000000
set_option maxHeartbeats 2000000
open Go.RowKit
namespace Go.Proofs.YtledgemlflbfdaaGreatDoor
open Mini

def turned_val (a b n : Int) : Value := .tuple #[.agg #[.int .i64 (two (Pl.parts a b 1048576) (Pl.cr n (-1000000) 1000000) (Pl.lim (Pl.turn (a, b) n))).1.1, .int .i64 (two (Pl.parts a b 1048576) (Pl.cr n (-1000000) 1000000) (Pl.lim (Pl.turn (a, b) n))).1.2], .int .i64 (two (Pl.parts a b 1048576) (Pl.cr n (-1000000) 1000000) (Pl.lim (Pl.turn (a, b) n))).2]
theorem turned_X : FOkS Tryz.prog x_turned := kAll_ok _ ⟨k_checkEisen, k_checkTurn, k_turn, k_limited, trivial⟩
theorem turned_args (a b n : Int) : (#[.agg #[.int .i64 a, .int .i64 b], .int .i64 n] : Array Value).toList.all (ground 8) = true := by kernel_rfl
theorem turned_g0 : True := by first | rfl | trivial | decide | omega
theorem turned_g1 : ((decide ((0 : Int) < ((2 : Nat) : Int))) = Bool.true) := by first | rfl | trivial | decide | omega
theorem turned_g2 : ((0 : Int) = (Int.ofNat 0)) := by first | rfl | trivial | decide | omega
def turned_c0 (a b n : Int) : Bool := ((Pl.parts a b (1048576 : Int)) != (0 : Int))
theorem turned_g4 : ((decide ((IntKind.i64.wrap ((0 : Int) + (1 : Int))) < ((2 : Nat) : Int))) = Bool.true) := by first | rfl | trivial | decide | omega
theorem turned_g5 : ((IntKind.i64.wrap ((0 : Int) + (1 : Int))) = (Int.ofNat 1)) := by first | rfl | trivial | decide | omega
def turned_c1 (a b n : Int) : Bool := ((Pl.cr n (- (1000000 : Int)) (1000000 : Int)) != (0 : Int))
theorem turned_g8 : ((decide ((IntKind.i64.wrap ((IntKind.i64.wrap ((0 : Int) + (1 : Int))) + (1 : Int))) < ((2 : Nat) : Int))) = Bool.false) := by first | rfl | trivial | decide | omega
theorem turned_g9 : (((0 : Int) != (0 : Int)) = Bool.false) := by first | rfl | trivial | decide | omega
def turned_b10 (a b n : Int) : Prop := (((- (1099511627776 : Int)) ≤ a) ∧ ((a ≤ (1099511627776 : Int)) ∧ (((- (1099511627776 : Int)) ≤ b) ∧ (b ≤ (1099511627776 : Int)))))
def turned_w0 (a b n : Int) : Value := .tuple #[.agg #[.int .i64 (0 : Int), .int .i64 (0 : Int)], .int .i64 (Pl.cr n (- (1000000 : Int)) (1000000 : Int))]
def turned_r0 (a b n : Int) : Prop := (((((((((True ∧ (True)) ∧ (True)) ∧ (((decide ((0 : Int) < ((2 : Nat) : Int))) = Bool.true))) ∧ (((0 : Int) = (Int.ofNat 0)))) ∧ (turned_c0 a b n = false)) ∧ (((decide ((IntKind.i64.wrap ((0 : Int) + (1 : Int))) < ((2 : Nat) : Int))) = Bool.true))) ∧ (((IntKind.i64.wrap ((0 : Int) + (1 : Int))) = (Int.ofNat 1)))) ∧ (turned_c1 a b n = true)) ∧ (turned_c1 a b n = true))
theorem turned_o0 (a b n : Int) : obOf (turned_e0 a b n) = turned_r0 a b n := by kernel_rfl
theorem turned_v0 (a b n : Int) : resOf (turned_e0 a b n) = turned_w0 a b n := by kernel_rfl
theorem turned_k0 (a b n : Int) : cleanOf Tryz.prog.globals.size (turned_e0 a b n) = true := by kernel_rfl
theorem turned_q0 (a b n : Int) : turned_e0 a b n = evFS Tryz.prog x_turned 1000 11 #[.agg #[.int .i64 a, .int .i64 b], .int .i64 n] (noTabs 6) ⟨[1, 0, 0, 1, 1, 1, 1], True⟩ := by
  delta turned_e0
  exact Eq.refl _
theorem turned_p0 (a b n : Int) (h : turned_r0 a b n) (w : World) : Calls Tryz.prog 11 #[.agg #[.int .i64 a, .int .i64 b], .int .i64 n] w fun en w' => en = .returned (turned_w0 a b n) ∧ Below w.heap.size w w' := by
  have hv := turned_v0 a b n
  have hc := turned_k0 a b n
  have he := turned_q0 a b n
  have ho := turned_o0 a b n
  generalize turned_e0 a b n = r at *
  exact calls_way he gfol turned_X hv rfl (turned_args a b n) hc ho h (bl w)
def turned_w1 (a b n : Int) : Value := .tuple #[.agg #[.int .i64 (((Pl.lim (((Pl.turn (a, b) n)).1, ((Pl.turn (a, b) n)).2))).1).1, .int .i64 (((Pl.lim (((Pl.turn (a, b) n)).1, ((Pl.turn (a, b) n)).2))).1).2], .int .i64 ((Pl.lim (((Pl.turn (a, b) n)).1, ((Pl.turn (a, b) n)).2))).2]
def turned_r1 (a b n : Int) : Prop := ((((((((((((True ∧ (True)) ∧ (True)) ∧ (((decide ((0 : Int) < ((2 : Nat) : Int))) = Bool.true))) ∧ (((0 : Int) = (Int.ofNat 0)))) ∧ (turned_c0 a b n = false)) ∧ (((decide ((IntKind.i64.wrap ((0 : Int) + (1 : Int))) < ((2 : Nat) : Int))) = Bool.true))) ∧ (((IntKind.i64.wrap ((0 : Int) + (1 : Int))) = (Int.ofNat 1)))) ∧ (turned_c1 a b n = false)) ∧ (((decide ((IntKind.i64.wrap ((IntKind.i64.wrap ((0 : Int) + (1 : Int))) + (1 : Int))) < ((2 : Nat) : Int))) = Bool.false))) ∧ ((((0 : Int) != (0 : Int)) = Bool.false))) ∧ (turned_b10 a b n)) ∧ (True))
theorem turned_o1 (a b n : Int) : obOf (turned_e1 a b n) = turned_r1 a b n := by kernel_rfl
theorem turned_v1 (a b n : Int) : resOf (turned_e1 a b n) = turned_w1 a b n := by kernel_rfl
theorem turned_k1 (a b n : Int) : cleanOf Tryz.prog.globals.size (turned_e1 a b n) = true := by kernel_rfl
theorem turned_q1 (a b n : Int) : turned_e1 a b n = evFS Tryz.prog x_turned 1000 11 #[.agg #[.int .i64 a, .int .i64 b], .int .i64 n] (noTabs 6) ⟨[1, 0, 0, 1, 1, 0, 0, 0], True⟩ := by
  delta turned_e1
  exact Eq.refl _
theorem turned_p1 (a b n : Int) (h : turned_r1 a b n) (w : World) : Calls Tryz.prog 11 #[.agg #[.int .i64 a, .int .i64 b], .int .i64 n] w fun en w' => en = .returned (turned_w1 a b n) ∧ Below w.heap.size w w' := by
  have hv := turned_v1 a b n
  have hc := turned_k1 a b n
  have he := turned_q1 a b n
  have ho := turned_o1 a b n
  generalize turned_e1 a b n = r at *
  exact calls_way he gfol turned_X hv rfl (turned_args a b n) hc ho h (bl w)
def turned_w2 (a b n : Int) : Value := .tuple #[.agg #[.int .i64 (0 : Int), .int .i64 (0 : Int)], .int .i64 (Pl.parts a b (1048576 : Int))]
def turned_r2 (a b n : Int) : Prop := ((((((True ∧ (True)) ∧ (True)) ∧ (((decide ((0 : Int) < ((2 : Nat) : Int))) = Bool.true))) ∧ (((0 : Int) = (Int.ofNat 0)))) ∧ (turned_c0 a b n = true)) ∧ (turned_c0 a b n = true))
theorem turned_o2 (a b n : Int) : obOf (turned_e2 a b n) = turned_r2 a b n := by kernel_rfl
theorem turned_v2 (a b n : Int) : resOf (turned_e2 a b n) = turned_w2 a b n := by kernel_rfl
theorem turned_k2 (a b n : Int) : cleanOf Tryz.prog.globals.size (turned_e2 a b n) = true := by kernel_rfl
theorem turned_q2 (a b n : Int) : turned_e2 a b n = evFS Tryz.prog x_turned 1000 11 #[.agg #[.int .i64 a, .int .i64 b], .int .i64 n] (noTabs 6) ⟨[1, 0, 1, 1], True⟩ := by
  delta turned_e2
  exact Eq.refl _
theorem turned_p2 (a b n : Int) (h : turned_r2 a b n) (w : World) : Calls Tryz.prog 11 #[.agg #[.int .i64 a, .int .i64 b], .int .i64 n] w fun en w' => en = .returned (turned_w2 a b n) ∧ Below w.heap.size w w' := by
  have hv := turned_v2 a b n
  have hc := turned_k2 a b n
  have he := turned_q2 a b n
  have ho := turned_o2 a b n
  generalize turned_e2 a b n = r at *
  exact calls_way he gfol turned_X hv rfl (turned_args a b n) hc ho h (bl w)
theorem turned_any (a b n : Int) (hpre : True) (w : World) : Calls Tryz.prog 11 #[.agg #[.int .i64 a, .int .i64 b], .int .i64 n] w fun en w' => en = .returned (turned_val a b n) ∧ Below w.heap.size w w' := by
  rcases Bool.eq_false_or_eq_true (turned_c0 a b n) with h0 | h0
  ·
    unfold turned_c0 at h0
    have hp := turned_p2 a b n ⟨⟨⟨⟨⟨⟨trivial, turned_g0⟩, turned_g0⟩, turned_g1⟩, turned_g2⟩, h0⟩, h0⟩ w
    have hv : turned_w2 a b n = turned_val a b n := by
      clear hp
      unfold turned_w2 turned_val
      first | rfl | ((try simp only [bne_iff_ne, ne_eq, decide_eq_true_eq, decide_eq_false_iff_not, Bool.not_eq_true', Bool.not_eq_false', beq_iff_eq, beq_eq_false_iff_ne, bne_eq_false_iff_eq, Bool.and_eq_true, Bool.not_eq_true, Bool.not_eq_false, two] at *); grind)
    exact hv ▸ hp
  ·
    unfold turned_c0 at h0
    rcases Bool.eq_false_or_eq_true (turned_c1 a b n) with h1 | h1
    ·
      unfold turned_c1 at h1
      have hp := turned_p0 a b n ⟨⟨⟨⟨⟨⟨⟨⟨⟨trivial, turned_g0⟩, turned_g0⟩, turned_g1⟩, turned_g2⟩, h0⟩, turned_g4⟩, turned_g5⟩, h1⟩, h1⟩ w
      have hv : turned_w0 a b n = turned_val a b n := by
        clear hp
        unfold turned_w0 turned_val
        first | rfl | ((try simp only [bne_iff_ne, ne_eq, decide_eq_true_eq, decide_eq_false_iff_not, Bool.not_eq_true', Bool.not_eq_false', beq_iff_eq, beq_eq_false_iff_ne, bne_eq_false_iff_eq, Bool.and_eq_true, Bool.not_eq_true, Bool.not_eq_false, two] at *); grind)
      exact hv ▸ hp
    ·
      unfold turned_c1 at h1
      have h2 : (turned_b10 a b n) := by
        unfold turned_b10
        first | rfl | trivial | (simp only [bne_eq_false_iff_eq] at *; exact bg_of (by assumption) (by decide))
      unfold turned_b10 at h2
      have hp := turned_p1 a b n ⟨⟨⟨⟨⟨⟨⟨⟨⟨⟨⟨⟨trivial, turned_g0⟩, turned_g0⟩, turned_g1⟩, turned_g2⟩, h0⟩, turned_g4⟩, turned_g5⟩, h1⟩, turned_g8⟩, turned_g9⟩, h2⟩, turned_g0⟩ w
      have hv : turned_w1 a b n = turned_val a b n := by
        clear hp
        unfold turned_w1 turned_val
        first | rfl | ((try simp only [bne_iff_ne, ne_eq, decide_eq_true_eq, decide_eq_false_iff_not, Bool.not_eq_true', Bool.not_eq_false', beq_iff_eq, beq_eq_false_iff_ne, bne_eq_false_iff_eq, Bool.and_eq_true, Bool.not_eq_true, Bool.not_eq_false, two] at *); grind)
      exact hv ▸ hp
theorem k_turned : ConOk Tryz.prog c_turned := fun ns hl => by
  have hl0 : ns.length = 3 := hl
  clear hl
  obtain ⟨a, ns0, rfl, hl1⟩ := len_cons hl0
  obtain ⟨b, ns1, rfl, hl2⟩ := len_cons hl1
  obtain ⟨n, ns2, rfl, hl3⟩ := len_cons hl2
  obtain rfl := len_nil hl3
  exact ⟨rfl, fun h w => turned_any a b n h w⟩
end Go.Proofs.YtledgemlflbfdaaGreatDoor
end
section
set_option linter.all false
set_option maxRecDepth 1000000
set_option maxHeartbeats 2000000
open Go.RowKit
namespace Go.Proofs.YtledgemlflbfdaaGreatDoor
open Mini

def turnedS_val (a b n : Int) : Value := .tuple #[.agg #[.int .i64 (Pl.turn (a, b) n).1, .int .i64 (Pl.turn (a, b) n).2], .int .i64 0]
theorem turnedS_any (a b n : Int) (hpre : Pl.inB 1048576 (a, b) ∧ (-1000000 ≤ n ∧ n ≤ 1000000) ∧ Pl.inB 1048576 (Pl.turn (a, b) n)) (w : World) : Calls Tryz.prog 11 #[.agg #[.int .i64 a, .int .i64 b], .int .i64 n] w fun en w' => en = .returned (turnedS_val a b n) ∧ Below w.heap.size w w' := by
  have hp := turned_any a b n (trivial) w
  have hv : turned_val a b n = turnedS_val a b n := by
    clear hp
    unfold turned_val turnedS_val
    obtain ⟨h1, h2, h3⟩ := hpre
    simp only [two, parts_in h1, cr_zero h2, lim_inB h3, ↓reduceIte]
  exact hv ▸ hp
theorem k_turnedS : ConOk Tryz.prog c_turnedS := fun ns hl => by
  have hl0 : ns.length = 3 := hl
  clear hl
  obtain ⟨a, ns0, rfl, hl1⟩ := len_cons hl0
  obtain ⟨b, ns1, rfl, hl2⟩ := len_cons hl1
  obtain ⟨n, ns2, rfl, hl3⟩ := len_cons hl2
  obtain rfl := len_nil hl3
  exact ⟨rfl, fun h w => turnedS_any a b n h w⟩
end Go.Proofs.YtledgemlflbfdaaGreatDoor
end
section
set_option linter.all false
set_option maxRecDepth 1000000
set_option maxHeartbeats 2000000
open Go.RowKit
namespace Go.Proofs.YtledgemlflbfdaaGreatDoor
open Mini

def enorm_val (a b : Int) : Value := .int .i64 (Pl.norm (a, b))
theorem enorm_X : FOkS Tryz.prog x_enorm := noXS_ok
theorem enorm_args (a b : Int) : (#[.agg #[.int .i64 a, .int .i64 b]] : Array Value).toList.all (ground 8) = true := by kernel_rfl
def enorm_w0 (a b : Int) : Value := .int .i64 (IntKind.i64.wrap ((IntKind.i64.wrap ((IntKind.i64.wrap (a * a)) - (IntKind.i64.wrap (a * b)))) + (IntKind.i64.wrap (b * b))))
def enorm_r0 (a b : Int) : Prop := True
theorem enorm_o0 (a b : Int) : obOf (enorm_e0 a b) = enorm_r0 a b := by kernel_rfl
theorem enorm_v0 (a b : Int) : resOf (enorm_e0 a b) = enorm_w0 a b := by kernel_rfl
theorem enorm_k0 (a b : Int) : cleanOf Tryz.prog.globals.size (enorm_e0 a b) = true := by kernel_rfl
theorem enorm_q0 (a b : Int) : enorm_e0 a b = evFS Tryz.prog x_enorm 1000 53 #[.agg #[.int .i64 a, .int .i64 b]] (noTabs 6) ⟨[], True⟩ := by
  delta enorm_e0
  exact Eq.refl _
theorem enorm_p0 (a b : Int) (h : enorm_r0 a b) (w : World) : Calls Tryz.prog 53 #[.agg #[.int .i64 a, .int .i64 b]] w fun en w' => en = .returned (enorm_w0 a b) ∧ Below w.heap.size w w' := by
  have hv := enorm_v0 a b
  have hc := enorm_k0 a b
  have he := enorm_q0 a b
  have ho := enorm_o0 a b
  generalize enorm_e0 a b = r at *
  exact calls_way he gfol enorm_X hv rfl (enorm_args a b) hc ho h (bl w)
theorem enorm_any (a b : Int) (hpre : Bg 268435456 a b) (w : World) : Calls Tryz.prog 53 #[.agg #[.int .i64 a, .int .i64 b]] w fun en w' => en = .returned (enorm_val a b) ∧ Below w.heap.size w w' := by
  obtain ⟨p1, p2, p3, p4⟩ := hpre
  have b1 := bd 268435456 268435456 a a (by omega) (by omega) ⟨p1, p2⟩ ⟨p1, p2⟩
  have b2 := bd 268435456 268435456 b b (by omega) (by omega) ⟨p3, p4⟩ ⟨p3, p4⟩
  have b3 := bd 268435456 268435456 a b (by omega) (by omega) ⟨p1, p2⟩ ⟨p3, p4⟩
  have hp := enorm_p0 a b trivial w
  have hv : enorm_w0 a b = enorm_val a b := by
    clear hp
    unfold enorm_w0 enorm_val
    (try simp (disch := omega) only [wi]); rfl
  exact hv ▸ hp
theorem k_enorm : ConOk Tryz.prog c_enorm := fun ns hl => by
  have hl0 : ns.length = 2 := hl
  clear hl
  obtain ⟨a, ns0, rfl, hl1⟩ := len_cons hl0
  obtain ⟨b, ns1, rfl, hl2⟩ := len_cons hl1
  obtain rfl := len_nil hl2
  exact ⟨rfl, fun h w => enorm_any a b h w⟩
end Go.Proofs.YtledgemlflbfdaaGreatDoor
end
section
set_option linter.all false
set_option maxRecDepth 1000000
set_option maxHeartbeats 2000000
open Go.RowKit
namespace Go.Proofs.YtledgemlflbfdaaGreatDoor
open Mini

def norm_val (a b : Int) : Value := .tuple #[.int .i64 (if Pl.parts a b 1048576 = 0 then Pl.norm (a, b) else 0), .int .i64 (Pl.parts a b 1048576)]
theorem norm_X : FOkS Tryz.prog x_norm := kAll_ok _ ⟨k_checkEisen, k_enorm, trivial⟩
theorem norm_args (a b : Int) : (#[.agg #[.int .i64 a, .int .i64 b]] : Array Value).toList.all (ground 8) = true := by kernel_rfl
theorem norm_g0 : True := by first | rfl | trivial | decide | omega
def norm_c0 (a b : Int) : Bool := ((Pl.parts a b (1048576 : Int)) != (0 : Int))
def norm_b2 (a b : Int) : Prop := (((- (268435456 : Int)) ≤ a) ∧ ((a ≤ (268435456 : Int)) ∧ (((- (268435456 : Int)) ≤ b) ∧ (b ≤ (268435456 : Int)))))
def norm_w0 (a b : Int) : Value := .tuple #[.int .i64 (Pl.norm (a, b)), .int .i64 (0 : Int)]
def norm_r0 (a b : Int) : Prop := (((True ∧ (True)) ∧ (norm_c0 a b = false)) ∧ (norm_b2 a b))
theorem norm_o0 (a b : Int) : obOf (norm_e0 a b) = norm_r0 a b := by kernel_rfl
theorem norm_v0 (a b : Int) : resOf (norm_e0 a b) = norm_w0 a b := by kernel_rfl
theorem norm_k0 (a b : Int) : cleanOf Tryz.prog.globals.size (norm_e0 a b) = true := by kernel_rfl
theorem norm_q0 (a b : Int) : norm_e0 a b = evFS Tryz.prog x_norm 1000 12 #[.agg #[.int .i64 a, .int .i64 b]] (noTabs 6) ⟨[0], True⟩ := by
  delta norm_e0
  exact Eq.refl _
theorem norm_p0 (a b : Int) (h : norm_r0 a b) (w : World) : Calls Tryz.prog 12 #[.agg #[.int .i64 a, .int .i64 b]] w fun en w' => en = .returned (norm_w0 a b) ∧ Below w.heap.size w w' := by
  have hv := norm_v0 a b
  have hc := norm_k0 a b
  have he := norm_q0 a b
  have ho := norm_o0 a b
  generalize norm_e0 a b = r at *
  exact calls_way he gfol norm_X hv rfl (norm_args a b) hc ho h (bl w)
def norm_w1 (a b : Int) : Value := .tuple #[.int .i64 (0 : Int), .int .i64 (Pl.parts a b (1048576 : Int))]
def norm_r1 (a b : Int) : Prop := ((True ∧ (True)) ∧ (norm_c0 a b = true))
theorem norm_o1 (a b : Int) : obOf (norm_e1 a b) = norm_r1 a b := by kernel_rfl
theorem norm_v1 (a b : Int) : resOf (norm_e1 a b) = norm_w1 a b := by kernel_rfl
theorem norm_k1 (a b : Int) : cleanOf Tryz.prog.globals.size (norm_e1 a b) = true := by kernel_rfl
theorem norm_q1 (a b : Int) : norm_e1 a b = evFS Tryz.prog x_norm 1000 12 #[.agg #[.int .i64 a, .int .i64 b]] (noTabs 6) ⟨[1], True⟩ := by
  delta norm_e1
  exact Eq.refl _
theorem norm_p1 (a b : Int) (h : norm_r1 a b) (w : World) : Calls Tryz.prog 12 #[.agg #[.int .i64 a, .int .i64 b]] w fun en w' => en = .returned (norm_w1 a b) ∧ Below w.heap.size w w' := by
  have hv := norm_v1 a b
  have hc := norm_k1 a b
  have he := norm_q1 a b
  have ho := norm_o1 a b
  generalize norm_e1 a b = r at *
  exact calls_way he gfol norm_X hv rfl (norm_args a b) hc ho h (bl w)
theorem norm_any (a b : Int) (hpre : True) (w : World) : Calls Tryz.prog 12 #[.agg #[.int .i64 a, .int .i64 b]] w fun en w' => en = .returned (norm_val a b) ∧ Below w.heap.size w w' := by
  rcases Bool.eq_false_or_eq_true (norm_c0 a b) with h0 | h0
  ·
    unfold norm_c0 at h0
    have hp := norm_p1 a b ⟨⟨trivial, norm_g0⟩, h0⟩ w
    have hv : norm_w1 a b = norm_val a b := by
      clear hp
      unfold norm_w1 norm_val
      first | rfl | ((try simp only [bne_iff_ne, ne_eq, decide_eq_true_eq, decide_eq_false_iff_not, Bool.not_eq_true', Bool.not_eq_false', beq_iff_eq, beq_eq_false_iff_ne, bne_eq_false_iff_eq, Bool.and_eq_true, Bool.not_eq_true, Bool.not_eq_false, two] at *); grind)
    exact hv ▸ hp
  ·
    unfold norm_c0 at h0
    have h1 : (norm_b2 a b) := by
      unfold norm_b2
      first | rfl | trivial | (simp only [bne_eq_false_iff_eq] at *; exact bg_of (by assumption) (by decide))
    unfold norm_b2 at h1
    have hp := norm_p0 a b ⟨⟨⟨trivial, norm_g0⟩, h0⟩, h1⟩ w
    have hv : norm_w0 a b = norm_val a b := by
      clear hp
      unfold norm_w0 norm_val
      first | rfl | ((try simp only [bne_iff_ne, ne_eq, decide_eq_true_eq, decide_eq_false_iff_not, Bool.not_eq_true', Bool.not_eq_false', beq_iff_eq, beq_eq_false_iff_ne, bne_eq_false_iff_eq, Bool.and_eq_true, Bool.not_eq_true, Bool.not_eq_false, two] at *); grind)
    exact hv ▸ hp
theorem k_norm : ConOk Tryz.prog c_norm := fun ns hl => by
  have hl0 : ns.length = 2 := hl
  clear hl
  obtain ⟨a, ns0, rfl, hl1⟩ := len_cons hl0
  obtain ⟨b, ns1, rfl, hl2⟩ := len_cons hl1
  obtain rfl := len_nil hl2
  exact ⟨rfl, fun h w => norm_any a b h w⟩
end Go.Proofs.YtledgemlflbfdaaGreatDoor
end
section
set_option linter.all false
set_option maxRecDepth 1000000
set_option maxHeartbeats 2000000
open Go.RowKit
namespace Go.Proofs.YtledgemlflbfdaaGreatDoor
open Mini

def normS_val (a b : Int) : Value := .tuple #[.int .i64 (Pl.norm (a, b)), .int .i64 0]
theorem normS_any (a b : Int) (hpre : Pl.inB 1048576 (a, b)) (w : World) : Calls Tryz.prog 12 #[.agg #[.int .i64 a, .int .i64 b]] w fun en w' => en = .returned (normS_val a b) ∧ Below w.heap.size w w' := by
  have hp := norm_any a b (trivial) w
  have hv : norm_val a b = normS_val a b := by
    clear hp
    unfold norm_val normS_val
    simp only [parts_in hpre, ↓reduceIte]
  exact hv ▸ hp
theorem k_normS : ConOk Tryz.prog c_normS := fun ns hl => by
  have hl0 : ns.length = 2 := hl
  clear hl
  obtain ⟨a, ns0, rfl, hl1⟩ := len_cons hl0
  obtain ⟨b, ns1, rfl, hl2⟩ := len_cons hl1
  obtain rfl := len_nil hl2
  exact ⟨rfl, fun h w => normS_any a b h w⟩
end Go.Proofs.YtledgemlflbfdaaGreatDoor
end
section
set_option linter.all false
set_option maxRecDepth 1000000
set_option maxHeartbeats 2000000
open Go.RowKit
namespace Go.Proofs.YtledgemlflbfdaaGreatDoor
open Mini

def rrange_val (n lo hi : Int) : Value := .int .i64 (Pl.cr n lo hi)
theorem rrange_X : FOkS Tryz.prog x_rrange := noXS_ok
theorem rrange_args (n lo hi : Int) : (#[.int .i64 n, .int .i64 lo, .int .i64 hi] : Array Value).toList.all (ground 8) = true := by kernel_rfl
def rrange_c0 (n lo hi : Int) : Bool := (decide (n < lo))
theorem rrange_g1 : (Bool.true = Bool.true) := by first | rfl | trivial | decide | omega
def rrange_c1 (n lo hi : Int) : Bool := (decide (n > hi))
def rrange_w0 (n lo hi : Int) : Value := .int .i64 (3 : Int)
def rrange_r0 (n lo hi : Int) : Prop := (((((True ∧ (rrange_c0 n lo hi = true)) ∧ (rrange_c0 n lo hi = true)) ∧ (rrange_c0 n lo hi = true)) ∧ (rrange_c0 n lo hi = true)) ∧ ((Bool.true = Bool.true)))
theorem rrange_o0 (n lo hi : Int) : obOf (rrange_e0 n lo hi) = rrange_r0 n lo hi := by kernel_rfl
theorem rrange_v0 (n lo hi : Int) : resOf (rrange_e0 n lo hi) = rrange_w0 n lo hi := by kernel_rfl
theorem rrange_k0 (n lo hi : Int) : cleanOf Tryz.prog.globals.size (rrange_e0 n lo hi) = true := by kernel_rfl
theorem rrange_q0 (n lo hi : Int) : rrange_e0 n lo hi = evFS Tryz.prog x_rrange 1000 15 #[.int .i64 n, .int .i64 lo, .int .i64 hi] (noTabs 6) ⟨[0, 0, 0, 1, 1], True⟩ := by
  delta rrange_e0
  exact Eq.refl _
theorem rrange_p0 (n lo hi : Int) (h : rrange_r0 n lo hi) (w : World) : Calls Tryz.prog 15 #[.int .i64 n, .int .i64 lo, .int .i64 hi] w fun en w' => en = .returned (rrange_w0 n lo hi) ∧ Below w.heap.size w w' := by
  have hv := rrange_v0 n lo hi
  have hc := rrange_k0 n lo hi
  have he := rrange_q0 n lo hi
  have ho := rrange_o0 n lo hi
  generalize rrange_e0 n lo hi = r at *
  exact calls_way he gfol rrange_X hv rfl (rrange_args n lo hi) hc ho h (bl w)
def rrange_w1 (n lo hi : Int) : Value := .int .i64 (3 : Int)
def rrange_r1 (n lo hi : Int) : Prop := (((((True ∧ (rrange_c0 n lo hi = false)) ∧ (rrange_c0 n lo hi = false)) ∧ (rrange_c0 n lo hi = false)) ∧ (rrange_c0 n lo hi = false)) ∧ (rrange_c1 n lo hi = true))
theorem rrange_o1 (n lo hi : Int) : obOf (rrange_e1 n lo hi) = rrange_r1 n lo hi := by kernel_rfl
theorem rrange_v1 (n lo hi : Int) : resOf (rrange_e1 n lo hi) = rrange_w1 n lo hi := by kernel_rfl
theorem rrange_k1 (n lo hi : Int) : cleanOf Tryz.prog.globals.size (rrange_e1 n lo hi) = true := by kernel_rfl
theorem rrange_q1 (n lo hi : Int) : rrange_e1 n lo hi = evFS Tryz.prog x_rrange 1000 15 #[.int .i64 n, .int .i64 lo, .int .i64 hi] (noTabs 6) ⟨[1, 1, 1, 0, 1], True⟩ := by
  delta rrange_e1
  exact Eq.refl _
theorem rrange_p1 (n lo hi : Int) (h : rrange_r1 n lo hi) (w : World) : Calls Tryz.prog 15 #[.int .i64 n, .int .i64 lo, .int .i64 hi] w fun en w' => en = .returned (rrange_w1 n lo hi) ∧ Below w.heap.size w w' := by
  have hv := rrange_v1 n lo hi
  have hc := rrange_k1 n lo hi
  have he := rrange_q1 n lo hi
  have ho := rrange_o1 n lo hi
  generalize rrange_e1 n lo hi = r at *
  exact calls_way he gfol rrange_X hv rfl (rrange_args n lo hi) hc ho h (bl w)
def rrange_w2 (n lo hi : Int) : Value := .int .i64 (0 : Int)
def rrange_r2 (n lo hi : Int) : Prop := (((((True ∧ (rrange_c0 n lo hi = false)) ∧ (rrange_c0 n lo hi = false)) ∧ (rrange_c0 n lo hi = false)) ∧ (rrange_c0 n lo hi = false)) ∧ (rrange_c1 n lo hi = false))
theorem rrange_o2 (n lo hi : Int) : obOf (rrange_e2 n lo hi) = rrange_r2 n lo hi := by kernel_rfl
theorem rrange_v2 (n lo hi : Int) : resOf (rrange_e2 n lo hi) = rrange_w2 n lo hi := by kernel_rfl
theorem rrange_k2 (n lo hi : Int) : cleanOf Tryz.prog.globals.size (rrange_e2 n lo hi) = true := by kernel_rfl
theorem rrange_q2 (n lo hi : Int) : rrange_e2 n lo hi = evFS Tryz.prog x_rrange 1000 15 #[.int .i64 n, .int .i64 lo, .int .i64 hi] (noTabs 6) ⟨[1, 1, 1, 0, 0], True⟩ := by
  delta rrange_e2
  exact Eq.refl _
theorem rrange_p2 (n lo hi : Int) (h : rrange_r2 n lo hi) (w : World) : Calls Tryz.prog 15 #[.int .i64 n, .int .i64 lo, .int .i64 hi] w fun en w' => en = .returned (rrange_w2 n lo hi) ∧ Below w.heap.size w w' := by
  have hv := rrange_v2 n lo hi
  have hc := rrange_k2 n lo hi
  have he := rrange_q2 n lo hi
  have ho := rrange_o2 n lo hi
  generalize rrange_e2 n lo hi = r at *
  exact calls_way he gfol rrange_X hv rfl (rrange_args n lo hi) hc ho h (bl w)
theorem rrange_any (n lo hi : Int) (hpre : True) (w : World) : Calls Tryz.prog 15 #[.int .i64 n, .int .i64 lo, .int .i64 hi] w fun en w' => en = .returned (rrange_val n lo hi) ∧ Below w.heap.size w w' := by
  rcases Bool.eq_false_or_eq_true (rrange_c0 n lo hi) with h0 | h0
  ·
    unfold rrange_c0 at h0
    have hp := rrange_p0 n lo hi ⟨⟨⟨⟨⟨trivial, h0⟩, h0⟩, h0⟩, h0⟩, rrange_g1⟩ w
    have hv : rrange_w0 n lo hi = rrange_val n lo hi := by
      clear hp
      unfold rrange_w0 rrange_val
      first | rfl | ((try simp only [bne_iff_ne, ne_eq, decide_eq_true_eq, decide_eq_false_iff_not, Bool.not_eq_true', Bool.not_eq_false', beq_iff_eq, beq_eq_false_iff_ne, bne_eq_false_iff_eq, Bool.and_eq_true, Bool.not_eq_true, Bool.not_eq_false, Pl.cr, parts_eq, w20, w16, wT, w20', w16', wT', Pl.lim, Pl.inB, first_two, two, oneB, Bg] at *); grind)
    exact hv ▸ hp
  ·
    unfold rrange_c0 at h0
    rcases Bool.eq_false_or_eq_true (rrange_c1 n lo hi) with h1 | h1
    ·
      unfold rrange_c1 at h1
      have hp := rrange_p1 n lo hi ⟨⟨⟨⟨⟨trivial, h0⟩, h0⟩, h0⟩, h0⟩, h1⟩ w
      have hv : rrange_w1 n lo hi = rrange_val n lo hi := by
        clear hp
        unfold rrange_w1 rrange_val
        first | rfl | ((try simp only [bne_iff_ne, ne_eq, decide_eq_true_eq, decide_eq_false_iff_not, Bool.not_eq_true', Bool.not_eq_false', beq_iff_eq, beq_eq_false_iff_ne, bne_eq_false_iff_eq, Bool.and_eq_true, Bool.not_eq_true, Bool.not_eq_false, Pl.cr, parts_eq, w20, w16, wT, w20', w16', wT', Pl.lim, Pl.inB, first_two, two, oneB, Bg] at *); grind)
      exact hv ▸ hp
    ·
      unfold rrange_c1 at h1
      have hp := rrange_p2 n lo hi ⟨⟨⟨⟨⟨trivial, h0⟩, h0⟩, h0⟩, h0⟩, h1⟩ w
      have hv : rrange_w2 n lo hi = rrange_val n lo hi := by
        clear hp
        unfold rrange_w2 rrange_val
        first | rfl | ((try simp only [bne_iff_ne, ne_eq, decide_eq_true_eq, decide_eq_false_iff_not, Bool.not_eq_true', Bool.not_eq_false', beq_iff_eq, beq_eq_false_iff_ne, bne_eq_false_iff_eq, Bool.and_eq_true, Bool.not_eq_true, Bool.not_eq_false, Pl.cr, parts_eq, w20, w16, wT, w20', w16', wT', Pl.lim, Pl.inB, first_two, two, oneB, Bg] at *); grind)
      exact hv ▸ hp
theorem k_rrange : ConOk Tryz.prog c_rrange := fun ns hl => by
  have hl0 : ns.length = 3 := hl
  clear hl
  obtain ⟨n, ns0, rfl, hl1⟩ := len_cons hl0
  obtain ⟨lo, ns1, rfl, hl2⟩ := len_cons hl1
  obtain ⟨hi, ns2, rfl, hl3⟩ := len_cons hl2
  obtain rfl := len_nil hl3
  exact ⟨rfl, fun h w => rrange_any n lo hi h w⟩
end Go.Proofs.YtledgemlflbfdaaGreatDoor
end
section
set_option linter.all false
set_option maxRecDepth 1000000
set_option maxHeartbeats 2000000
open Go.RowKit
namespace Go.Proofs.YtledgemlflbfdaaGreatDoor
open Mini

def rcheckEisen_val (a b : Int) : Value := .int .i64 (Pl.parts a b 1048576)
theorem rcheckEisen_X : FOkS Tryz.prog x_rcheckEisen := kAll_ok _ ⟨k_rrange, trivial⟩
theorem rcheckEisen_args (a b : Int) : (#[.agg #[.int .i64 a, .int .i64 b]] : Array Value).toList.all (ground 8) = true := by kernel_rfl
theorem rcheckEisen_g0 : True := by first | rfl | trivial | decide | omega
theorem rcheckEisen_g1 : ((decide ((0 : Int) < ((2 : Nat) : Int))) = Bool.true) := by first | rfl | trivial | decide | omega
theorem rcheckEisen_g2 : ((0 : Int) = (Int.ofNat 0)) := by first | rfl | trivial | decide | omega
def rcheckEisen_c0 (a b : Int) : Bool := ((Pl.cr a (IntKind.i64.wrap ((0 : Int) - (1048576 : Int))) (1048576 : Int)) != (0 : Int))
theorem rcheckEisen_g4 : ((decide ((IntKind.i64.wrap ((0 : Int) + (1 : Int))) < ((2 : Nat) : Int))) = Bool.true) := by first | rfl | trivial | decide | omega
theorem rcheckEisen_g5 : ((IntKind.i64.wrap ((0 : Int) + (1 : Int))) = (Int.ofNat 1)) := by first | rfl | trivial | decide | omega
def rcheckEisen_c1 (a b : Int) : Bool := ((Pl.cr b (IntKind.i64.wrap ((0 : Int) - (1048576 : Int))) (1048576 : Int)) != (0 : Int))
theorem rcheckEisen_g7 : ((decide ((IntKind.i64.wrap ((IntKind.i64.wrap ((0 : Int) + (1 : Int))) + (1 : Int))) < ((2 : Nat) : Int))) = Bool.false) := by first | rfl | trivial | decide | omega
def rcheckEisen_w0 (a b : Int) : Value := .int .i64 (0 : Int)
def rcheckEisen_r0 (a b : Int) : Prop := (((((((((True ∧ (True)) ∧ (True)) ∧ (((decide ((0 : Int) < ((2 : Nat) : Int))) = Bool.true))) ∧ (((0 : Int) = (Int.ofNat 0)))) ∧ (rcheckEisen_c0 a b = false)) ∧ (((decide ((IntKind.i64.wrap ((0 : Int) + (1 : Int))) < ((2 : Nat) : Int))) = Bool.true))) ∧ (((IntKind.i64.wrap ((0 : Int) + (1 : Int))) = (Int.ofNat 1)))) ∧ (rcheckEisen_c1 a b = false)) ∧ (((decide ((IntKind.i64.wrap ((IntKind.i64.wrap ((0 : Int) + (1 : Int))) + (1 : Int))) < ((2 : Nat) : Int))) = Bool.false)))
theorem rcheckEisen_o0 (a b : Int) : obOf (rcheckEisen_e0 a b) = rcheckEisen_r0 a b := by kernel_rfl
theorem rcheckEisen_v0 (a b : Int) : resOf (rcheckEisen_e0 a b) = rcheckEisen_w0 a b := by kernel_rfl
theorem rcheckEisen_k0 (a b : Int) : cleanOf Tryz.prog.globals.size (rcheckEisen_e0 a b) = true := by kernel_rfl
theorem rcheckEisen_q0 (a b : Int) : rcheckEisen_e0 a b = evFS Tryz.prog x_rcheckEisen 1000 13 #[.agg #[.int .i64 a, .int .i64 b]] (noTabs 6) ⟨[1, 0, 0, 1, 1, 0, 0], True⟩ := by
  delta rcheckEisen_e0
  exact Eq.refl _
theorem rcheckEisen_p0 (a b : Int) (h : rcheckEisen_r0 a b) (w : World) : Calls Tryz.prog 13 #[.agg #[.int .i64 a, .int .i64 b]] w fun en w' => en = .returned (rcheckEisen_w0 a b) ∧ Below w.heap.size w w' := by
  have hv := rcheckEisen_v0 a b
  have hc := rcheckEisen_k0 a b
  have he := rcheckEisen_q0 a b
  have ho := rcheckEisen_o0 a b
  generalize rcheckEisen_e0 a b = r at *
  exact calls_way he gfol rcheckEisen_X hv rfl (rcheckEisen_args a b) hc ho h (bl w)
def rcheckEisen_w1 (a b : Int) : Value := .int .i64 (Pl.cr b (IntKind.i64.wrap ((0 : Int) - (1048576 : Int))) (1048576 : Int))
def rcheckEisen_r1 (a b : Int) : Prop := (((((((((True ∧ (True)) ∧ (True)) ∧ (((decide ((0 : Int) < ((2 : Nat) : Int))) = Bool.true))) ∧ (((0 : Int) = (Int.ofNat 0)))) ∧ (rcheckEisen_c0 a b = false)) ∧ (((decide ((IntKind.i64.wrap ((0 : Int) + (1 : Int))) < ((2 : Nat) : Int))) = Bool.true))) ∧ (((IntKind.i64.wrap ((0 : Int) + (1 : Int))) = (Int.ofNat 1)))) ∧ (rcheckEisen_c1 a b = true)) ∧ (((IntKind.i64.wrap ((0 : Int) + (1 : Int))) = (Int.ofNat 1))))
theorem rcheckEisen_o1 (a b : Int) : obOf (rcheckEisen_e1 a b) = rcheckEisen_r1 a b := by kernel_rfl
theorem rcheckEisen_v1 (a b : Int) : resOf (rcheckEisen_e1 a b) = rcheckEisen_w1 a b := by kernel_rfl
theorem rcheckEisen_k1 (a b : Int) : cleanOf Tryz.prog.globals.size (rcheckEisen_e1 a b) = true := by kernel_rfl
theorem rcheckEisen_q1 (a b : Int) : rcheckEisen_e1 a b = evFS Tryz.prog x_rcheckEisen 1000 13 #[.agg #[.int .i64 a, .int .i64 b]] (noTabs 6) ⟨[1, 0, 0, 1, 1, 1, 1], True⟩ := by
  delta rcheckEisen_e1
  exact Eq.refl _
theorem rcheckEisen_p1 (a b : Int) (h : rcheckEisen_r1 a b) (w : World) : Calls Tryz.prog 13 #[.agg #[.int .i64 a, .int .i64 b]] w fun en w' => en = .returned (rcheckEisen_w1 a b) ∧ Below w.heap.size w w' := by
  have hv := rcheckEisen_v1 a b
  have hc := rcheckEisen_k1 a b
  have he := rcheckEisen_q1 a b
  have ho := rcheckEisen_o1 a b
  generalize rcheckEisen_e1 a b = r at *
  exact calls_way he gfol rcheckEisen_X hv rfl (rcheckEisen_args a b) hc ho h (bl w)
def rcheckEisen_w2 (a b : Int) : Value := .int .i64 (Pl.cr a (IntKind.i64.wrap ((0 : Int) - (1048576 : Int))) (1048576 : Int))
def rcheckEisen_r2 (a b : Int) : Prop := ((((((True ∧ (True)) ∧ (True)) ∧ (((decide ((0 : Int) < ((2 : Nat) : Int))) = Bool.true))) ∧ (((0 : Int) = (Int.ofNat 0)))) ∧ (rcheckEisen_c0 a b = true)) ∧ (((0 : Int) = (Int.ofNat 0))))
theorem rcheckEisen_o2 (a b : Int) : obOf (rcheckEisen_e2 a b) = rcheckEisen_r2 a b := by kernel_rfl
theorem rcheckEisen_v2 (a b : Int) : resOf (rcheckEisen_e2 a b) = rcheckEisen_w2 a b := by kernel_rfl
theorem rcheckEisen_k2 (a b : Int) : cleanOf Tryz.prog.globals.size (rcheckEisen_e2 a b) = true := by kernel_rfl
theorem rcheckEisen_q2 (a b : Int) : rcheckEisen_e2 a b = evFS Tryz.prog x_rcheckEisen 1000 13 #[.agg #[.int .i64 a, .int .i64 b]] (noTabs 6) ⟨[1, 0, 1, 0], True⟩ := by
  delta rcheckEisen_e2
  exact Eq.refl _
theorem rcheckEisen_p2 (a b : Int) (h : rcheckEisen_r2 a b) (w : World) : Calls Tryz.prog 13 #[.agg #[.int .i64 a, .int .i64 b]] w fun en w' => en = .returned (rcheckEisen_w2 a b) ∧ Below w.heap.size w w' := by
  have hv := rcheckEisen_v2 a b
  have hc := rcheckEisen_k2 a b
  have he := rcheckEisen_q2 a b
  have ho := rcheckEisen_o2 a b
  generalize rcheckEisen_e2 a b = r at *
  exact calls_way he gfol rcheckEisen_X hv rfl (rcheckEisen_args a b) hc ho h (bl w)
theorem rcheckEisen_any (a b : Int) (hpre : True) (w : World) : Calls Tryz.prog 13 #[.agg #[.int .i64 a, .int .i64 b]] w fun en w' => en = .returned (rcheckEisen_val a b) ∧ Below w.heap.size w w' := by
  rcases Bool.eq_false_or_eq_true (rcheckEisen_c0 a b) with h0 | h0
  ·
    unfold rcheckEisen_c0 at h0
    have hp := rcheckEisen_p2 a b ⟨⟨⟨⟨⟨⟨trivial, rcheckEisen_g0⟩, rcheckEisen_g0⟩, rcheckEisen_g1⟩, rcheckEisen_g2⟩, h0⟩, rcheckEisen_g2⟩ w
    have hv : rcheckEisen_w2 a b = rcheckEisen_val a b := by
      clear hp
      unfold rcheckEisen_w2 rcheckEisen_val
      first | rfl | ((try simp only [bne_iff_ne, ne_eq, decide_eq_true_eq, decide_eq_false_iff_not, Bool.not_eq_true', Bool.not_eq_false', beq_iff_eq, beq_eq_false_iff_ne, bne_eq_false_iff_eq, Bool.and_eq_true, Bool.not_eq_true, Bool.not_eq_false, Pl.cr, parts_eq, w20, w16, wT, w20', w16', wT', Pl.lim, Pl.inB, first_two, two, oneB, Bg] at *); grind)
    exact hv ▸ hp
  ·
    unfold rcheckEisen_c0 at h0
    rcases Bool.eq_false_or_eq_true (rcheckEisen_c1 a b) with h1 | h1
    ·
      unfold rcheckEisen_c1 at h1
      have hp := rcheckEisen_p1 a b ⟨⟨⟨⟨⟨⟨⟨⟨⟨trivial, rcheckEisen_g0⟩, rcheckEisen_g0⟩, rcheckEisen_g1⟩, rcheckEisen_g2⟩, h0⟩, rcheckEisen_g4⟩, rcheckEisen_g5⟩, h1⟩, rcheckEisen_g5⟩ w
      have hv : rcheckEisen_w1 a b = rcheckEisen_val a b := by
        clear hp
        unfold rcheckEisen_w1 rcheckEisen_val
        first | rfl | ((try simp only [bne_iff_ne, ne_eq, decide_eq_true_eq, decide_eq_false_iff_not, Bool.not_eq_true', Bool.not_eq_false', beq_iff_eq, beq_eq_false_iff_ne, bne_eq_false_iff_eq, Bool.and_eq_true, Bool.not_eq_true, Bool.not_eq_false, Pl.cr, parts_eq, w20, w16, wT, w20', w16', wT', Pl.lim, Pl.inB, first_two, two, oneB, Bg] at *); grind)
      exact hv ▸ hp
    ·
      unfold rcheckEisen_c1 at h1
      have hp := rcheckEisen_p0 a b ⟨⟨⟨⟨⟨⟨⟨⟨⟨trivial, rcheckEisen_g0⟩, rcheckEisen_g0⟩, rcheckEisen_g1⟩, rcheckEisen_g2⟩, h0⟩, rcheckEisen_g4⟩, rcheckEisen_g5⟩, h1⟩, rcheckEisen_g7⟩ w
      have hv : rcheckEisen_w0 a b = rcheckEisen_val a b := by
        clear hp
        unfold rcheckEisen_w0 rcheckEisen_val
        first | rfl | ((try simp only [bne_iff_ne, ne_eq, decide_eq_true_eq, decide_eq_false_iff_not, Bool.not_eq_true', Bool.not_eq_false', beq_iff_eq, beq_eq_false_iff_ne, bne_eq_false_iff_eq, Bool.and_eq_true, Bool.not_eq_true, Bool.not_eq_false, Pl.cr, parts_eq, w20, w16, wT, w20', w16', wT', Pl.lim, Pl.inB, first_two, two, oneB, Bg] at *); grind)
      exact hv ▸ hp
theorem k_rcheckEisen : ConOk Tryz.prog c_rcheckEisen := fun ns hl => by
  have hl0 : ns.length = 2 := hl
  clear hl
  obtain ⟨a, ns0, rfl, hl1⟩ := len_cons hl0
  obtain ⟨b, ns1, rfl, hl2⟩ := len_cons hl1
  obtain rfl := len_nil hl2
  exact ⟨rfl, fun h w => rcheckEisen_any a b h w⟩
end Go.Proofs.YtledgemlflbfdaaGreatDoor
end
section
set_option linter.all false
set_option maxRecDepth 1000000
set_option maxHeartbeats 2000000
open Go.RowKit
namespace Go.Proofs.YtledgemlflbfdaaGreatDoor
open Mini

def rcheckS_val (a b : Int) : Value := .int .i64 0
theorem rcheckS_any (a b : Int) (hpre : Pl.inB 1048576 (a, b)) (w : World) : Calls Tryz.prog 13 #[.agg #[.int .i64 a, .int .i64 b]] w fun en w' => en = .returned (rcheckS_val a b) ∧ Below w.heap.size w w' := by
  have hp := rcheckEisen_any a b (trivial) w
  have hv : rcheckEisen_val a b = rcheckS_val a b := by
    clear hp
    unfold rcheckEisen_val rcheckS_val
    simp only [parts_in hpre]
  exact hv ▸ hp
theorem k_rcheckS : ConOk Tryz.prog c_rcheckS := fun ns hl => by
  have hl0 : ns.length = 2 := hl
  clear hl
  obtain ⟨a, ns0, rfl, hl1⟩ := len_cons hl0
  obtain ⟨b, ns1, rfl, hl2⟩ := len_cons hl1
  obtain rfl := len_nil hl2
  exact ⟨rfl, fun h w => rcheckS_any a b h w⟩
end Go.Proofs.YtledgemlflbfdaaGreatDoor
end
