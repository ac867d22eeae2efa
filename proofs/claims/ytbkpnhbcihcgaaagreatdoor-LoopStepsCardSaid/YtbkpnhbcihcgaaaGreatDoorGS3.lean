/-
  Both sides make the same values at the degree 2.
  The reference's Stepped at the degree 2.
  The reference's Stepped at the degree 2: the loop.
  Stepped at the degree 2.
  Stepped at the degree 2: the loop.
  Stepped of both at the degree 1, known.
  Both sides make the same values at the degree 1.
  Sums and products of wrapped numbers.
  The reference's Stepped at the degree 1.
  The reference's checkNumbers.
  The reference's Stepped at the degree 1: the loop.
  Stepped at the degree 1.
  check.Each with the limits of first values.
  The reference's CheckPoly.
  Stepped at the degree 1: the loop.
  What the steps want.
  loop.CheckPoly.
  The second of two errors.
  The contract of bipole.check.Index.
  The contract of bipole.bipoleref01.CheckRange.
  The contract of bipole.check.Range.
  Contracts: what is answered.
-/
import Derived.Test.YtbkpnhbcihcgaaaGreatDoorGS2
import Derived.Test.YtbkpnhbcihcgaaaGreatDoorProg
section
set_option linter.all false
set_option maxRecDepth 1000000
open Go.RowKit
namespace Go.Proofs.YtbkpnhbcihcgaaaGreatDoor
open Mini
theorem gsz : Tryz.prog.globals.size = 6 := by kernel_rfl
theorem gfol : Tryz.prog.follows .mixedOrders = true := by kernel_rfl
theorem bl (w : World) : Holds Tryz.prog (noTabs 6) w := gsz ▸ noTabs_holds w

def ixE (a n : Int) : Int := if a < 0 ∨ n ≤ a then 10 else 0

def c_range : Con := ⟨96, [.int .i64, .int .i64, .int .i64], fun ns => match ns with | [n, lo, hi] => .int .i64 (Pl.cr n lo hi) | _ => .bool true, fun ns => match ns with | [n, lo, hi] => True | _ => True⟩
def c_rrange : Con := ⟨20, [.int .i64, .int .i64, .int .i64], fun ns => match ns with | [n, lo, hi] => .int .i64 (Pl.cr n lo hi) | _ => .bool true, fun ns => match ns with | [n, lo, hi] => True | _ => True⟩
def c_index : Con := ⟨103, [.int .i64, .int .i64], fun ns => match ns with | [a, n] => .int .i64 (ixE a n) | _ => .bool true, fun ns => match ns with | [a, n] => True | _ => True⟩
noncomputable def x_range : CallS := kAll []
noncomputable def range_e0 (n lo hi : Int) : Option OutS := evFS Tryz.prog x_range 1000 96 #[.int .i64 n, .int .i64 lo, .int .i64 hi] (noTabs 6) ⟨[1, 1, 1, 0, 1], True⟩
noncomputable def range_e1 (n lo hi : Int) : Option OutS := evFS Tryz.prog x_range 1000 96 #[.int .i64 n, .int .i64 lo, .int .i64 hi] (noTabs 6) ⟨[1, 1, 1, 0, 0], True⟩
noncomputable def range_e2 (n lo hi : Int) : Option OutS := evFS Tryz.prog x_range 1000 96 #[.int .i64 n, .int .i64 lo, .int .i64 hi] (noTabs 6) ⟨[0, 0, 0, 1, 1], True⟩
noncomputable def x_rrange : CallS := kAll []
noncomputable def rrange_e0 (n lo hi : Int) : Option OutS := evFS Tryz.prog x_rrange 1000 20 #[.int .i64 n, .int .i64 lo, .int .i64 hi] (noTabs 6) ⟨[0, 0, 0, 1, 1], True⟩
noncomputable def rrange_e1 (n lo hi : Int) : Option OutS := evFS Tryz.prog x_rrange 1000 20 #[.int .i64 n, .int .i64 lo, .int .i64 hi] (noTabs 6) ⟨[1, 1, 1, 0, 1], True⟩
noncomputable def rrange_e2 (n lo hi : Int) : Option OutS := evFS Tryz.prog x_rrange 1000 20 #[.int .i64 n, .int .i64 lo, .int .i64 hi] (noTabs 6) ⟨[1, 1, 1, 0, 0], True⟩
noncomputable def x_index : CallS := kAll []
noncomputable def index_e0 (a n : Int) : Option OutS := evFS Tryz.prog x_index 1000 103 #[.int .i64 a, .int .i64 n] (noTabs 6) ⟨[1, 1, 1, 0, 1], True⟩
noncomputable def index_e1 (a n : Int) : Option OutS := evFS Tryz.prog x_index 1000 103 #[.int .i64 a, .int .i64 n] (noTabs 6) ⟨[0, 0, 0, 1, 1], True⟩
noncomputable def index_e2 (a n : Int) : Option OutS := evFS Tryz.prog x_index 1000 103 #[.int .i64 a, .int .i64 n] (noTabs 6) ⟨[1, 1, 1, 0, 0], True⟩
end Go.Proofs.YtbkpnhbcihcgaaaGreatDoor
end
section
set_option linter.all false
set_option maxRecDepth 1000000
set_option maxHeartbeats 2000000
open Go.RowKit
namespace Go.Proofs.YtbkpnhbcihcgaaaGreatDoor
open Mini

def range_val (n lo hi : Int) : Value := .int .i64 (Pl.cr n lo hi)
theorem range_X : FOkS Tryz.prog x_range := noXS_ok
theorem range_args (n lo hi : Int) : (#[.int .i64 n, .int .i64 lo, .int .i64 hi] : Array Value).toList.all (ground 8) = true := by kernel_rfl
def range_c0 (n lo hi : Int) : Bool := (decide (n < lo))
def range_c1 (n lo hi : Int) : Bool := (decide (n > hi))
theorem range_g4 : (true = true) := by first | rfl | trivial | decide | omega
def range_w0 (n lo hi : Int) : Value := .int .i64 (3 : Int)
def range_r0 (n lo hi : Int) : Prop := (((((True ∧ (range_c0 n lo hi = false)) ∧ (range_c0 n lo hi = false)) ∧ (range_c0 n lo hi = false)) ∧ (range_c0 n lo hi = false)) ∧ (range_c1 n lo hi = true))
theorem range_o0 (n lo hi : Int) : obOf (range_e0 n lo hi) = range_r0 n lo hi := by kernel_rfl
theorem range_v0 (n lo hi : Int) : resOf (range_e0 n lo hi) = range_w0 n lo hi := by kernel_rfl
theorem range_k0 (n lo hi : Int) : cleanOf Tryz.prog.globals.size (range_e0 n lo hi) = true := by kernel_rfl
theorem range_q0 (n lo hi : Int) : range_e0 n lo hi = evFS Tryz.prog x_range 1000 96 #[.int .i64 n, .int .i64 lo, .int .i64 hi] (noTabs 6) ⟨[1, 1, 1, 0, 1], True⟩ := by
  delta range_e0
  exact Eq.refl _
theorem range_p0 (n lo hi : Int) (h : range_r0 n lo hi) (w : World) : Calls Tryz.prog 96 #[.int .i64 n, .int .i64 lo, .int .i64 hi] w fun en w' => en = .returned (range_w0 n lo hi) ∧ Below w.heap.size w w' := by
  have hv := range_v0 n lo hi
  have hc := range_k0 n lo hi
  have he := range_q0 n lo hi
  have ho := range_o0 n lo hi
  generalize range_e0 n lo hi = r at *
  exact calls_way he gfol range_X hv rfl (range_args n lo hi) hc ho h (bl w)
def range_w1 (n lo hi : Int) : Value := .int .i64 (0 : Int)
def range_r1 (n lo hi : Int) : Prop := (((((True ∧ (range_c0 n lo hi = false)) ∧ (range_c0 n lo hi = false)) ∧ (range_c0 n lo hi = false)) ∧ (range_c0 n lo hi = false)) ∧ (range_c1 n lo hi = false))
theorem range_o1 (n lo hi : Int) : obOf (range_e1 n lo hi) = range_r1 n lo hi := by kernel_rfl
theorem range_v1 (n lo hi : Int) : resOf (range_e1 n lo hi) = range_w1 n lo hi := by kernel_rfl
theorem range_k1 (n lo hi : Int) : cleanOf Tryz.prog.globals.size (range_e1 n lo hi) = true := by kernel_rfl
theorem range_q1 (n lo hi : Int) : range_e1 n lo hi = evFS Tryz.prog x_range 1000 96 #[.int .i64 n, .int .i64 lo, .int .i64 hi] (noTabs 6) ⟨[1, 1, 1, 0, 0], True⟩ := by
  delta range_e1
  exact Eq.refl _
theorem range_p1 (n lo hi : Int) (h : range_r1 n lo hi) (w : World) : Calls Tryz.prog 96 #[.int .i64 n, .int .i64 lo, .int .i64 hi] w fun en w' => en = .returned (range_w1 n lo hi) ∧ Below w.heap.size w w' := by
  have hv := range_v1 n lo hi
  have hc := range_k1 n lo hi
  have he := range_q1 n lo hi
  have ho := range_o1 n lo hi
  generalize range_e1 n lo hi = r at *
  exact calls_way he gfol range_X hv rfl (range_args n lo hi) hc ho h (bl w)
def range_w2 (n lo hi : Int) : Value := .int .i64 (3 : Int)
def range_r2 (n lo hi : Int) : Prop := (((((True ∧ (range_c0 n lo hi = true)) ∧ (range_c0 n lo hi = true)) ∧ (range_c0 n lo hi = true)) ∧ (range_c0 n lo hi = true)) ∧ ((true = true)))
theorem range_o2 (n lo hi : Int) : obOf (range_e2 n lo hi) = range_r2 n lo hi := by kernel_rfl
theorem range_v2 (n lo hi : Int) : resOf (range_e2 n lo hi) = range_w2 n lo hi := by kernel_rfl
theorem range_k2 (n lo hi : Int) : cleanOf Tryz.prog.globals.size (range_e2 n lo hi) = true := by kernel_rfl
theorem range_q2 (n lo hi : Int) : range_e2 n lo hi = evFS Tryz.prog x_range 1000 96 #[.int .i64 n, .int .i64 lo, .int .i64 hi] (noTabs 6) ⟨[0, 0, 0, 1, 1], True⟩ := by
  delta range_e2
  exact Eq.refl _
theorem range_p2 (n lo hi : Int) (h : range_r2 n lo hi) (w : World) : Calls Tryz.prog 96 #[.int .i64 n, .int .i64 lo, .int .i64 hi] w fun en w' => en = .returned (range_w2 n lo hi) ∧ Below w.heap.size w w' := by
  have hv := range_v2 n lo hi
  have hc := range_k2 n lo hi
  have he := range_q2 n lo hi
  have ho := range_o2 n lo hi
  generalize range_e2 n lo hi = r at *
  exact calls_way he gfol range_X hv rfl (range_args n lo hi) hc ho h (bl w)
theorem range_any (n lo hi : Int) (hpre : True) (w : World) : Calls Tryz.prog 96 #[.int .i64 n, .int .i64 lo, .int .i64 hi] w fun en w' => en = .returned (range_val n lo hi) ∧ Below w.heap.size w w' := by
  rcases Bool.eq_false_or_eq_true (range_c0 n lo hi) with h0 | h0
  ·
    unfold range_c0 at h0
    have hp := range_p2 n lo hi ⟨⟨⟨⟨⟨trivial, h0⟩, h0⟩, h0⟩, h0⟩, range_g4⟩ w
    have hv : range_w2 n lo hi = (range_val n lo hi) := by
      clear hp
      unfold range_w2 range_val
      (try simp only [Pl.cr, ixE, decide_eq_true_eq, decide_eq_false_iff_not] at *)
      first | rfl | grind
    exact hv ▸ hp
  ·
    unfold range_c0 at h0
    rcases Bool.eq_false_or_eq_true (range_c1 n lo hi) with h1 | h1
    ·
      unfold range_c1 at h1
      have hp := range_p0 n lo hi ⟨⟨⟨⟨⟨trivial, h0⟩, h0⟩, h0⟩, h0⟩, h1⟩ w
      have hv : range_w0 n lo hi = (range_val n lo hi) := by
        clear hp
        unfold range_w0 range_val
        (try simp only [Pl.cr, ixE, decide_eq_true_eq, decide_eq_false_iff_not] at *)
        first | rfl | grind
      exact hv ▸ hp
    ·
      unfold range_c1 at h1
      have hp := range_p1 n lo hi ⟨⟨⟨⟨⟨trivial, h0⟩, h0⟩, h0⟩, h0⟩, h1⟩ w
      have hv : range_w1 n lo hi = (range_val n lo hi) := by
        clear hp
        unfold range_w1 range_val
        (try simp only [Pl.cr, ixE, decide_eq_true_eq, decide_eq_false_iff_not] at *)
        first | rfl | grind
      exact hv ▸ hp
theorem k_range : ConOk Tryz.prog c_range := fun ns hl => by
  have hl0 : ns.length = 3 := hl
  clear hl
  obtain ⟨n, ns0, rfl, hl1⟩ := len_cons hl0
  obtain ⟨lo, ns1, rfl, hl2⟩ := len_cons hl1
  obtain ⟨hi, ns2, rfl, hl3⟩ := len_cons hl2
  obtain rfl := len_nil hl3
  exact ⟨rfl, fun h w => range_any n lo hi h w⟩
end Go.Proofs.YtbkpnhbcihcgaaaGreatDoor
end
section
set_option linter.all false
set_option maxRecDepth 1000000
set_option maxHeartbeats 2000000
open Go.RowKit
namespace Go.Proofs.YtbkpnhbcihcgaaaGreatDoor
open Mini

def rrange_val (n lo hi : Int) : Value := .int .i64 (Pl.cr n lo hi)
theorem rrange_X : FOkS Tryz.prog x_rrange := noXS_ok
theorem rrange_args (n lo hi : Int) : (#[.int .i64 n, .int .i64 lo, .int .i64 hi] : Array Value).toList.all (ground 8) = true := by kernel_rfl
def rrange_c0 (n lo hi : Int) : Bool := (decide (n < lo))
theorem rrange_g1 : (true = true) := by first | rfl | trivial | decide | omega
def rrange_c1 (n lo hi : Int) : Bool := (decide (n > hi))
def rrange_w0 (n lo hi : Int) : Value := .int .i64 (3 : Int)
def rrange_r0 (n lo hi : Int) : Prop := (((((True ∧ (rrange_c0 n lo hi = true)) ∧ (rrange_c0 n lo hi = true)) ∧ (rrange_c0 n lo hi = true)) ∧ (rrange_c0 n lo hi = true)) ∧ ((true = true)))
theorem rrange_o0 (n lo hi : Int) : obOf (rrange_e0 n lo hi) = rrange_r0 n lo hi := by kernel_rfl
theorem rrange_v0 (n lo hi : Int) : resOf (rrange_e0 n lo hi) = rrange_w0 n lo hi := by kernel_rfl
theorem rrange_k0 (n lo hi : Int) : cleanOf Tryz.prog.globals.size (rrange_e0 n lo hi) = true := by kernel_rfl
theorem rrange_q0 (n lo hi : Int) : rrange_e0 n lo hi = evFS Tryz.prog x_rrange 1000 20 #[.int .i64 n, .int .i64 lo, .int .i64 hi] (noTabs 6) ⟨[0, 0, 0, 1, 1], True⟩ := by
  delta rrange_e0
  exact Eq.refl _
theorem rrange_p0 (n lo hi : Int) (h : rrange_r0 n lo hi) (w : World) : Calls Tryz.prog 20 #[.int .i64 n, .int .i64 lo, .int .i64 hi] w fun en w' => en = .returned (rrange_w0 n lo hi) ∧ Below w.heap.size w w' := by
  have hv := rrange_v0 n lo hi
  have hc := rrange_k0 n lo hi
  have he := rrange_q0 n lo hi
  have ho := rrange_o0 n lo hi
  generalize rrange_e0 n lo hi = r at *
  exact calls_way he gfol rrange_X hv rfl (rrange_args n lo hi) hc ho h (bl w)
def rrange_w1 (n lo hi : Int) : Value := .int .i64 (3 : Int)
def rrange_r1 (n lo hi : Int) : Prop := (((((True ∧ (rrange_c0 n lo hi = false)) ∧ (rrange_c0 n lo hi = false)) ∧ (rrange_c0 n lo hi = false)) ∧ (rrange_c0 n lo hi = false)) ∧ (rrange_c1 n lo hi = true))
theorem rrange_o1 (n lo hi : Int) : obOf (rrange_e1 n lo hi) = rrange_r1 n lo hi := by kernel_rfl
theorem rrange_v1 (n lo hi : Int) : resOf (rrange_e1 n lo hi) = rrange_w1 n lo hi := by kernel_rfl
theorem rrange_k1 (n lo hi : Int) : cleanOf Tryz.prog.globals.size (rrange_e1 n lo hi) = true := by kernel_rfl
theorem rrange_q1 (n lo hi : Int) : rrange_e1 n lo hi = evFS Tryz.prog x_rrange 1000 20 #[.int .i64 n, .int .i64 lo, .int .i64 hi] (noTabs 6) ⟨[1, 1, 1, 0, 1], True⟩ := by
  delta rrange_e1
  exact Eq.refl _
theorem rrange_p1 (n lo hi : Int) (h : rrange_r1 n lo hi) (w : World) : Calls Tryz.prog 20 #[.int .i64 n, .int .i64 lo, .int .i64 hi] w fun en w' => en = .returned (rrange_w1 n lo hi) ∧ Below w.heap.size w w' := by
  have hv := rrange_v1 n lo hi
  have hc := rrange_k1 n lo hi
  have he := rrange_q1 n lo hi
  have ho := rrange_o1 n lo hi
  generalize rrange_e1 n lo hi = r at *
  exact calls_way he gfol rrange_X hv rfl (rrange_args n lo hi) hc ho h (bl w)
def rrange_w2 (n lo hi : Int) : Value := .int .i64 (0 : Int)
def rrange_r2 (n lo hi : Int) : Prop := (((((True ∧ (rrange_c0 n lo hi = false)) ∧ (rrange_c0 n lo hi = false)) ∧ (rrange_c0 n lo hi = false)) ∧ (rrange_c0 n lo hi = false)) ∧ (rrange_c1 n lo hi = false))
theorem rrange_o2 (n lo hi : Int) : obOf (rrange_e2 n lo hi) = rrange_r2 n lo hi := by kernel_rfl
theorem rrange_v2 (n lo hi : Int) : resOf (rrange_e2 n lo hi) = rrange_w2 n lo hi := by kernel_rfl
theorem rrange_k2 (n lo hi : Int) : cleanOf Tryz.prog.globals.size (rrange_e2 n lo hi) = true := by kernel_rfl
theorem rrange_q2 (n lo hi : Int) : rrange_e2 n lo hi = evFS Tryz.prog x_rrange 1000 20 #[.int .i64 n, .int .i64 lo, .int .i64 hi] (noTabs 6) ⟨[1, 1, 1, 0, 0], True⟩ := by
  delta rrange_e2
  exact Eq.refl _
theorem rrange_p2 (n lo hi : Int) (h : rrange_r2 n lo hi) (w : World) : Calls Tryz.prog 20 #[.int .i64 n, .int .i64 lo, .int .i64 hi] w fun en w' => en = .returned (rrange_w2 n lo hi) ∧ Below w.heap.size w w' := by
  have hv := rrange_v2 n lo hi
  have hc := rrange_k2 n lo hi
  have he := rrange_q2 n lo hi
  have ho := rrange_o2 n lo hi
  generalize rrange_e2 n lo hi = r at *
  exact calls_way he gfol rrange_X hv rfl (rrange_args n lo hi) hc ho h (bl w)
theorem rrange_any (n lo hi : Int) (hpre : True) (w : World) : Calls Tryz.prog 20 #[.int .i64 n, .int .i64 lo, .int .i64 hi] w fun en w' => en = .returned (rrange_val n lo hi) ∧ Below w.heap.size w w' := by
  rcases Bool.eq_false_or_eq_true (rrange_c0 n lo hi) with h0 | h0
  ·
    unfold rrange_c0 at h0
    have hp := rrange_p0 n lo hi ⟨⟨⟨⟨⟨trivial, h0⟩, h0⟩, h0⟩, h0⟩, rrange_g1⟩ w
    have hv : rrange_w0 n lo hi = (rrange_val n lo hi) := by
      clear hp
      unfold rrange_w0 rrange_val
      (try simp only [Pl.cr, ixE, decide_eq_true_eq, decide_eq_false_iff_not] at *)
      first | rfl | grind
    exact hv ▸ hp
  ·
    unfold rrange_c0 at h0
    rcases Bool.eq_false_or_eq_true (rrange_c1 n lo hi) with h1 | h1
    ·
      unfold rrange_c1 at h1
      have hp := rrange_p1 n lo hi ⟨⟨⟨⟨⟨trivial, h0⟩, h0⟩, h0⟩, h0⟩, h1⟩ w
      have hv : rrange_w1 n lo hi = (rrange_val n lo hi) := by
        clear hp
        unfold rrange_w1 rrange_val
        (try simp only [Pl.cr, ixE, decide_eq_true_eq, decide_eq_false_iff_not] at *)
        first | rfl | grind
      exact hv ▸ hp
    ·
      unfold rrange_c1 at h1
      have hp := rrange_p2 n lo hi ⟨⟨⟨⟨⟨trivial, h0⟩, h0⟩, h0⟩, h0⟩, h1⟩ w
      have hv : rrange_w2 n lo hi = (rrange_val n lo hi) := by
        clear hp
        unfold rrange_w2 rrange_val
        (try simp only [Pl.cr, ixE, decide_eq_true_eq, decide_eq_false_iff_not] at *)
        first | rfl | grind
      exact hv ▸ hp
theorem k_rrange : ConOk Tryz.prog c_rrange := fun ns hl => by
  have hl0 : ns.length = 3 := hl
  clear hl
  obtain ⟨n, ns0, rfl, hl1⟩ := len_cons hl0
  obtain ⟨lo, ns1, rfl, hl2⟩ := len_cons hl1
  obtain ⟨hi, ns2, rfl, hl3⟩ := len_cons hl2
  obtain rfl := len_nil hl3
  exact ⟨rfl, fun h w => rrange_any n lo hi h w⟩
end Go.Proofs.YtbkpnhbcihcgaaaGreatDoor
end
section
set_option linter.all false
set_option maxRecDepth 1000000
set_option maxHeartbeats 2000000
open Go.RowKit
namespace Go.Proofs.YtbkpnhbcihcgaaaGreatDoor
open Mini

def index_val (a n : Int) : Value := .int .i64 (ixE a n)
theorem index_X : FOkS Tryz.prog x_index := noXS_ok
theorem index_args (a n : Int) : (#[.int .i64 a, .int .i64 n] : Array Value).toList.all (ground 8) = true := by kernel_rfl
def index_c0 (a n : Int) : Bool := (decide (a < (0 : Int)))
def index_c1 (a n : Int) : Bool := (decide (a ≥ n))
theorem index_g3 : (true = true) := by first | rfl | trivial | decide | omega
def index_w0 (a n : Int) : Value := .int .i64 (10 : Int)
def index_r0 (a n : Int) : Prop := (((((True ∧ (index_c0 a n = false)) ∧ (index_c0 a n = false)) ∧ (index_c0 a n = false)) ∧ (index_c0 a n = false)) ∧ (index_c1 a n = true))
theorem index_o0 (a n : Int) : obOf (index_e0 a n) = index_r0 a n := by kernel_rfl
theorem index_v0 (a n : Int) : resOf (index_e0 a n) = index_w0 a n := by kernel_rfl
theorem index_k0 (a n : Int) : cleanOf Tryz.prog.globals.size (index_e0 a n) = true := by kernel_rfl
theorem index_q0 (a n : Int) : index_e0 a n = evFS Tryz.prog x_index 1000 103 #[.int .i64 a, .int .i64 n] (noTabs 6) ⟨[1, 1, 1, 0, 1], True⟩ := by
  delta index_e0
  exact Eq.refl _
theorem index_p0 (a n : Int) (h : index_r0 a n) (w : World) : Calls Tryz.prog 103 #[.int .i64 a, .int .i64 n] w fun en w' => en = .returned (index_w0 a n) ∧ Below w.heap.size w w' := by
  have hv := index_v0 a n
  have hc := index_k0 a n
  have he := index_q0 a n
  have ho := index_o0 a n
  generalize index_e0 a n = r at *
  exact calls_way he gfol index_X hv rfl (index_args a n) hc ho h (bl w)
def index_w1 (a n : Int) : Value := .int .i64 (10 : Int)
def index_r1 (a n : Int) : Prop := (((((True ∧ (index_c0 a n = true)) ∧ (index_c0 a n = true)) ∧ (index_c0 a n = true)) ∧ (index_c0 a n = true)) ∧ ((true = true)))
theorem index_o1 (a n : Int) : obOf (index_e1 a n) = index_r1 a n := by kernel_rfl
theorem index_v1 (a n : Int) : resOf (index_e1 a n) = index_w1 a n := by kernel_rfl
theorem index_k1 (a n : Int) : cleanOf Tryz.prog.globals.size (index_e1 a n) = true := by kernel_rfl
theorem index_q1 (a n : Int) : index_e1 a n = evFS Tryz.prog x_index 1000 103 #[.int .i64 a, .int .i64 n] (noTabs 6) ⟨[0, 0, 0, 1, 1], True⟩ := by
  delta index_e1
  exact Eq.refl _
theorem index_p1 (a n : Int) (h : index_r1 a n) (w : World) : Calls Tryz.prog 103 #[.int .i64 a, .int .i64 n] w fun en w' => en = .returned (index_w1 a n) ∧ Below w.heap.size w w' := by
  have hv := index_v1 a n
  have hc := index_k1 a n
  have he := index_q1 a n
  have ho := index_o1 a n
  generalize index_e1 a n = r at *
  exact calls_way he gfol index_X hv rfl (index_args a n) hc ho h (bl w)
def index_w2 (a n : Int) : Value := .int .i64 (0 : Int)
def index_r2 (a n : Int) : Prop := (((((True ∧ (index_c0 a n = false)) ∧ (index_c0 a n = false)) ∧ (index_c0 a n = false)) ∧ (index_c0 a n = false)) ∧ (index_c1 a n = false))
theorem index_o2 (a n : Int) : obOf (index_e2 a n) = index_r2 a n := by kernel_rfl
theorem index_v2 (a n : Int) : resOf (index_e2 a n) = index_w2 a n := by kernel_rfl
theorem index_k2 (a n : Int) : cleanOf Tryz.prog.globals.size (index_e2 a n) = true := by kernel_rfl
theorem index_q2 (a n : Int) : index_e2 a n = evFS Tryz.prog x_index 1000 103 #[.int .i64 a, .int .i64 n] (noTabs 6) ⟨[1, 1, 1, 0, 0], True⟩ := by
  delta index_e2
  exact Eq.refl _
theorem index_p2 (a n : Int) (h : index_r2 a n) (w : World) : Calls Tryz.prog 103 #[.int .i64 a, .int .i64 n] w fun en w' => en = .returned (index_w2 a n) ∧ Below w.heap.size w w' := by
  have hv := index_v2 a n
  have hc := index_k2 a n
  have he := index_q2 a n
  have ho := index_o2 a n
  generalize index_e2 a n = r at *
  exact calls_way he gfol index_X hv rfl (index_args a n) hc ho h (bl w)
theorem index_any (a n : Int) (hpre : True) (w : World) : Calls Tryz.prog 103 #[.int .i64 a, .int .i64 n] w fun en w' => en = .returned (index_val a n) ∧ Below w.heap.size w w' := by
  rcases Bool.eq_false_or_eq_true (index_c0 a n) with h0 | h0
  ·
    unfold index_c0 at h0
    have hp := index_p1 a n ⟨⟨⟨⟨⟨trivial, h0⟩, h0⟩, h0⟩, h0⟩, index_g3⟩ w
    have hv : index_w1 a n = (index_val a n) := by
      clear hp
      unfold index_w1 index_val
      (try simp only [Pl.cr, ixE, decide_eq_true_eq, decide_eq_false_iff_not] at *)
      first | rfl | grind
    exact hv ▸ hp
  ·
    unfold index_c0 at h0
    rcases Bool.eq_false_or_eq_true (index_c1 a n) with h1 | h1
    ·
      unfold index_c1 at h1
      have hp := index_p0 a n ⟨⟨⟨⟨⟨trivial, h0⟩, h0⟩, h0⟩, h0⟩, h1⟩ w
      have hv : index_w0 a n = (index_val a n) := by
        clear hp
        unfold index_w0 index_val
        (try simp only [Pl.cr, ixE, decide_eq_true_eq, decide_eq_false_iff_not] at *)
        first | rfl | grind
      exact hv ▸ hp
    ·
      unfold index_c1 at h1
      have hp := index_p2 a n ⟨⟨⟨⟨⟨trivial, h0⟩, h0⟩, h0⟩, h0⟩, h1⟩ w
      have hv : index_w2 a n = (index_val a n) := by
        clear hp
        unfold index_w2 index_val
        (try simp only [Pl.cr, ixE, decide_eq_true_eq, decide_eq_false_iff_not] at *)
        first | rfl | grind
      exact hv ▸ hp
theorem k_index : ConOk Tryz.prog c_index := fun ns hl => by
  have hl0 : ns.length = 2 := hl
  clear hl
  obtain ⟨a, ns0, rfl, hl1⟩ := len_cons hl0
  obtain ⟨n, ns1, rfl, hl2⟩ := len_cons hl1
  obtain rfl := len_nil hl2
  exact ⟨rfl, fun h w => index_any a n h w⟩
end Go.Proofs.YtbkpnhbcihcgaaaGreatDoor
end
section
set_option linter.all false
set_option maxRecDepth 1000000
open Go.RowKit
namespace Go.Proofs.YtbkpnhbcihcgaaaGreatDoor
open Mini
def th2 (a b : Int) : Int := if a = 0 then b else a
end Go.Proofs.YtbkpnhbcihcgaaaGreatDoor
end
section
set_option linter.all false
set_option maxRecDepth 1000000
open Go.RowKit
namespace Go.Proofs.YtbkpnhbcihcgaaaGreatDoor
open Mini
noncomputable section
variable (n : Nat) (c : Nat) (g : GI) (e : TypeId) (opn : Bool) (sz : Nat) (ro : Bool) (i10 : Nat) (jj : Nat)
noncomputable def peX : Code := loopAt Tryz.prog 115 0
noncomputable def peK : CallS := kAll [c_range, c_rrange, c_index]
def peA (g : GI) (e : TypeId) (opn : Bool) (sz : Nat) (ro : Bool) (i10 : Nat) : MA := MA.ofL 21 (jl [.chan none, .func (.func 84) #[] #[]] 6 (jl [.slice (some ⟨6, 0, none⟩) n c, .int .i64 ((n : Nat) : Int), .int .i64 ((i10 : Nat) : Int)] 10 [])) []
abbrev zb0 : List MObj := [.rows n 1 (fun i j => .int .i64 (g i j)) e opn sz ro]
def peL (c : Nat) (g : GI) (e : TypeId) (opn : Bool) (sz : Nat) (ro : Bool) (i10 : Nat) : List MObj := (zb0 n g e opn sz ro)
noncomputable def per0 : Option OutCS := evK Tryz.prog peK 1000 false peX (peA n c g e opn sz ro i10) (wS 6 (peL n c g e opn sz ro i10)) ⟨[1, .row i10 0, .row i10 0, 0, .azz (.int .i64 ((i10 + 1 : Nat) : Int))], True⟩
noncomputable def per1 : Option OutCS := evK Tryz.prog peK 1000 false peX (peA n c g e opn sz ro i10) (wS 6 (peL n c g e opn sz ro i10)) ⟨[1, .row i10 0, .row i10 0, 1], True⟩
abbrev zb1 := Pl.cr (g i10 0) (-100 : Int) (100 : Int)
def per1E (n : Nat) (c : Nat) (g : GI) (e : TypeId) (opn : Bool) (sz : Nat) (ro : Bool) (i10 : Nat) : MA := MA.ofL 21 (jl [] 4 (jl [.int .i64 (zb1 g i10)] 16 [])) []
noncomputable def per2 : Option OutCS := evK Tryz.prog peK 1000 false peX (peA n c g e opn sz ro i10) (wS 6 (peL n c g e opn sz ro i10)) ⟨[0], True⟩
def per2E (n : Nat) (c : Nat) (g : GI) (e : TypeId) (opn : Bool) (sz : Nat) (ro : Bool) (i10 : Nat) : MA := MA.ofL 21 (jl [] 21 []) []
def peArgs (g : GI) (e : TypeId) (opn : Bool) (sz : Nat) (ro : Bool) : Array Value := #[.slice (some ⟨6, 0, none⟩) n c]
def peS (c : Nat) (g : GI) (e : TypeId) (opn : Bool) (sz : Nat) (ro : Bool) : List MObj := (zb0 n g e opn sz ro)
noncomputable abbrev zb2 := bodyOf Tryz.prog 24
noncomputable abbrev zb3 := startM Tryz.f24 (peArgs n c g e opn sz ro)
abbrev zb4 := wS 6 (peS n c g e opn sz ro)
noncomputable def pef0 : Option OutCS := evK Tryz.prog peK 1000 false zb2 (zb3 n c g e opn sz ro) (zb4 n c g e opn sz ro) ⟨[1], True⟩
noncomputable def pef1 : Option OutCS := evK Tryz.prog peK 1000 false zb2 (zb3 n c g e opn sz ro) (zb4 n c g e opn sz ro) ⟨[0, 1, 1], True⟩
noncomputable def pef4 : Option OutCS := evK Tryz.prog peK 1000 false zb2 (zb3 n c g e opn sz ro) (zb4 n c g e opn sz ro) ⟨[0, 0, .lp 1794 (peA n c g e opn sz ro 0) 6 (peL n c g e opn sz ro 0) .ret (per1E n c g e opn sz ro jj) (peL n c g e opn sz ro 0) 64 0, 1], True⟩
noncomputable def pef5 : Option OutCS := evK Tryz.prog peK 1000 false zb2 (zb3 n c g e opn sz ro) (zb4 n c g e opn sz ro) ⟨[0, 0, .lp 1794 (peA n c g e opn sz ro 0) 6 (peL n c g e opn sz ro 0) (.exit 0) (per2E n c g e opn sz ro n) (peL n c g e opn sz ro 0) 64 0, 0, .row (n - 1) 0, .row (n - 1) 0, 1], True⟩
noncomputable def pef6 : Option OutCS := evK Tryz.prog peK 1000 false zb2 (zb3 n c g e opn sz ro) (zb4 n c g e opn sz ro) ⟨[0, 0, .lp 1794 (peA n c g e opn sz ro 0) 6 (peL n c g e opn sz ro 0) (.exit 0) (per2E n c g e opn sz ro n) (peL n c g e opn sz ro 0) 64 0, 0, .row (n - 1) 0, .row (n - 1) 0, 0], True⟩
theorem peK_ok : FOkS Tryz.prog peK := kAll_ok _ ⟨k_range, k_rrange, k_index, trivial⟩
abbrev zb5 := decide ((((i10 : Nat)) : Int) < (((n : Nat)) : Int))
abbrev zb6 := (((True ∧ ((zb5 n i10) = true)) ∧ (((((i10 : Nat)) : Int) = (Int.ofNat i10)) ∧ (i10 < n))) ∧ (((0 + (i10 * 1)) = ((i10 * 1) + 0)) ∧ (i10 < n))) ∧ True
abbrev zb7 := (Pl.cr (g i10 0) (- (100 : Int)) (100 : Int)) != (0 : Int)
theorem per0_eq : seenK 6 1 [] 1794 0 (per0 n c g e opn sz ro i10) = some (.normal, peA n c g e opn sz ro (i10 + 1), (zb0 n g e opn sz ro), 0, ⟨[], (((zb6 n i10) ∧ ((zb7 g i10) = false)) ∧ (((.int .i64 (IntKind.i64.wrap ((((i10 : Nat)) : Int) + (1 : Int)))) : Value) = (.int .i64 ((((i10 + 1) : Nat)) : Int))))⟩) := by kernel_rfl
theorem per0_k (hx : 0 < n ∧ (n : Int) ≤ 9223372036854775807) (h0 : ((i10 : Nat) : Int) < ((n : Nat) : Int)) (h1 : (zb1 g i10) = (0 : Int)) : KC Tryz.prog none peX (peA n c g e opn sz ro i10).act (wS 6 (peL n c g e opn sz ro i10)) .normal (peA n c g e opn sz ro (i10 + 1)).act (wS 6 (peL n c g e opn sz ro (i10 + 1))) 7 0 :=
  seenK_ok smx peK_ok sng (per0_eq n c g e opn sz ro i10) kq
theorem per1_eq : seenK 6 1 [] 16 0 (per1 n c g e opn sz ro i10) = some (.ret, per1E n c g e opn sz ro i10, (zb0 n g e opn sz ro), 0, ⟨[], ((zb6 n i10) ∧ ((zb7 g i10) = true))⟩) := by kernel_rfl
abbrev zb8 := wS 6 (zb0 n g e opn sz ro)
theorem per1_k (hx : 0 < n ∧ (n : Int) ≤ 9223372036854775807) (h0 : ((i10 : Nat) : Int) < ((n : Nat) : Int)) (h1 : (zb1 g i10) ≠ (0 : Int)) : KC Tryz.prog none peX (peA n c g e opn sz ro i10).act (wS 6 (peL n c g e opn sz ro i10)) .ret (per1E n c g e opn sz ro i10).act (zb8 n g e opn sz ro) 7 0 :=
  seenK_ok smx peK_ok sng (per1_eq n c g e opn sz ro i10) kq
theorem per2_eq : seenK 6 1 [] 0 0 (per2 n c g e opn sz ro i10) = some ((.exit 0), per2E n c g e opn sz ro i10, (zb0 n g e opn sz ro), 0, ⟨[], (True ∧ ((zb5 n i10) = false))⟩) := by kernel_rfl
theorem per2_k (hx : 0 < n ∧ (n : Int) ≤ 9223372036854775807) (h0 : ¬ ((i10 : Nat) : Int) < ((n : Nat) : Int)) : KC Tryz.prog none peX (peA n c g e opn sz ro i10).act (wS 6 (peL n c g e opn sz ro i10)) (.exit 0) (per2E n c g e opn sz ro i10).act (zb8 n g e opn sz ro) 7 0 :=
  seenK_ok smx peK_ok sng (per2_eq n c g e opn sz ro i10) kq
abbrev zb9 := Pl.cr (g jj 0) (-100 : Int) (100 : Int)
abbrev zb10 := wS 6 (peL n c g e opn sz ro 0)
theorem pe_ret (hx : 0 < n ∧ (n : Int) ≤ 9223372036854775807) (hj : jj < n) (h1 : ∀ i, i < jj → (Pl.cr (g i 0) (-100 : Int) (100 : Int)) = 0) (h2 : (zb9 g jj) ≠ 0) : KC Tryz.prog none (.loop peX) (peA n c g e opn sz ro 0).act (zb10 n c g e opn sz ro) .ret (per1E n c g e opn sz ro jj).act (zb8 n g e opn sz ro) 7 0 := by
  exact K_rounds (A := fun i => (peA n c g e opn sz ro i).act) (S := fun i => wS 6 (peL n c g e opn sz ro i)) (jj) (fun i hi => per0_k n c g e opn sz ro i hx (by omega) (h1 i hi)) (per1_k n c g e opn sz ro jj hx (by omega) h2) (by simp)
theorem pe_ret_s (hx : 0 < n ∧ (n : Int) ≤ 9223372036854775807) (hj : jj < n) (h1 : ∀ i, i < jj → (Pl.cr (g i 0) (-100 : Int) (100 : Int)) = 0) (h2 : (zb9 g jj) ≠ 0) : SndC Tryz.prog none (.loop peX) (peA n c g e opn sz ro 0).act (zb10 n c g e opn sz ro) .ret (per1E n c g e opn sz ro jj).act (zb10 n c g e opn sz ro) 64 0 :=
  KT.snd (a := peA n c g e opn sz ro 0) (a2 := per1E n c g e opn sz ro jj) (L := peL n c g e opn sz ro 0) (pe_ret n c g e opn sz ro jj hx hj h1 h2) sng (Nat.le_refl _) (fun b _ => by simp) rfl rfl (by kernel_rfl) (by kernel_rfl) (fun o ho => by
    simp only [peL, List.mem_cons, List.not_mem_nil, or_false] at ho
    rcases ho with rfl
    all_goals first | rfl | exact fun i j => rfl)
theorem pe_all  (hx : 0 < n ∧ (n : Int) ≤ 9223372036854775807) (h1 : ∀ i, i < n → (Pl.cr (g i 0) (-100 : Int) (100 : Int)) = 0) : KC Tryz.prog none (.loop peX) (peA n c g e opn sz ro 0).act (zb10 n c g e opn sz ro) (.exit 0) (per2E n c g e opn sz ro n).act (zb8 n g e opn sz ro) 7 0 := by
  exact K_rounds (A := fun i => (peA n c g e opn sz ro i).act) (S := fun i => wS 6 (peL n c g e opn sz ro i)) (n) (fun i hi => per0_k n c g e opn sz ro i hx (by omega) (h1 i hi)) (per2_k n c g e opn sz ro n hx (by omega)) (by simp)
theorem pe_all_s  (hx : 0 < n ∧ (n : Int) ≤ 9223372036854775807) (h1 : ∀ i, i < n → (Pl.cr (g i 0) (-100 : Int) (100 : Int)) = 0) : SndC Tryz.prog none (.loop peX) (peA n c g e opn sz ro 0).act (zb10 n c g e opn sz ro) (.exit 0) (per2E n c g e opn sz ro n).act (zb10 n c g e opn sz ro) 64 0 :=
  KT.snd (a := peA n c g e opn sz ro 0) (a2 := per2E n c g e opn sz ro n) (L := peL n c g e opn sz ro 0) (pe_all n c g e opn sz ro hx h1) sng (Nat.le_refl _) (fun b _ => by simp) rfl rfl (by kernel_rfl) (by kernel_rfl) (fun o ho => by
    simp only [peL, List.mem_cons, List.not_mem_nil, or_false] at ho
    rcases ho with rfl
    all_goals first | rfl | exact fun i j => rfl)
theorem pef0_eq : seenF' Tryz.prog Tryz.f24 6 1 [] (pef0 n c g e opn sz ro) = some (.int .i64 (12 : Int), peS n c g e opn sz ro ++ [], ⟨[], (True ∧ (((((n : Nat)) : Int) == (0 : Int)) = true))⟩) := by kernel_rfl
theorem pef0_s (h0 : ((n : Nat) : Int) = (0 : Int)) : SndF Tryz.prog 24 (peArgs n c g e opn sz ro) (zb4 n c g e opn sz ro) (.int .i64 (12 : Int)) (zb4 n c g e opn sz ro) 64 0 :=
  kF (L := peS n c g e opn sz ro) (L2 := []) (ms := []) peK_ok (pef0_eq n c g e opn sz ro) kq
abbrev zb11 := True ∧ (((((n : Nat)) : Int) == (0 : Int)) = false)
abbrev zb12 := decide ((((n : Nat)) : Int) > (5 : Int))
theorem pef1_eq : seenF' Tryz.prog Tryz.f24 6 1 [] (pef1 n c g e opn sz ro) = some (.int .i64 (5 : Int), peS n c g e opn sz ro ++ [], ⟨[], (((zb11 n) ∧ ((zb12 n) = true)) ∧ (((5 : Int) != (0 : Int)) = true))⟩) := by kernel_rfl
theorem pef1_s (h0 : ((n : Nat) : Int) ≠ (0 : Int)) (h1 : (5 : Int) < ((n : Nat) : Int)) : SndF Tryz.prog 24 (peArgs n c g e opn sz ro) (zb4 n c g e opn sz ro) (.int .i64 (5 : Int)) (zb4 n c g e opn sz ro) 64 0 :=
  kF (L := peS n c g e opn sz ro) (L2 := []) (ms := []) peK_ok (pef1_eq n c g e opn sz ro) kq
abbrev zb13 := (zb11 n) ∧ ((zb12 n) = false)
abbrev zb14 := HAppend.hAppend (List.replicate (6 : Nat) MObj.hole) (peL n c g e opn sz ro (0 : Nat))
abbrev zb15 := ((peA n c g e opn sz ro (0 : Nat)) = (peA n c g e opn sz ro (0 : Nat))) ∧ ((7 = (6 + 1)) ∧ ((zb14 n c g e opn sz ro) = (zb14 n c g e opn sz ro)))
theorem pef4_eq : seenF' Tryz.prog Tryz.f24 6 1 [] (pef4 n c g e opn sz ro jj) = some (.int .i64 (zb9 g jj), peS n c g e opn sz ro ++ [], ⟨[], (((zb13 n) ∧ ((zb15 n c g e opn sz ro) ∧ SndC Tryz.prog none (.loop peX) (peA n c g e opn sz ro 0).act (zb10 n c g e opn sz ro) .ret (per1E n c g e opn sz ro jj).act (zb10 n c g e opn sz ro) 64 0)) ∧ (((Pl.cr (g jj 0) (- (100 : Int)) (100 : Int)) != (0 : Int)) = true))⟩) := by kernel_rfl
theorem pef4_s (h0 : ((n : Nat) : Int) ≠ (0 : Int)) (h1 : ¬ (5 : Int) < ((n : Nat) : Int)) (h2 : (zb9 g jj) ≠ (0 : Int)) (l0 : SndC Tryz.prog none (.loop peX) (peA n c g e opn sz ro 0).act (zb10 n c g e opn sz ro) .ret (per1E n c g e opn sz ro jj).act (zb10 n c g e opn sz ro) 64 0) : SndF Tryz.prog 24 (peArgs n c g e opn sz ro) (zb4 n c g e opn sz ro) (.int .i64 (zb9 g jj)) (zb4 n c g e opn sz ro) 64 0 :=
  kF (L := peS n c g e opn sz ro) (L2 := []) (ms := []) peK_ok (pef4_eq n c g e opn sz ro jj) kq
noncomputable abbrev zb16 := ((((zb13 n) ∧ ((zb15 n c g e opn sz ro) ∧ SndC Tryz.prog none (.loop peX) (peA n c g e opn sz ro 0).act (zb10 n c g e opn sz ro) (.exit 0) (per2E n c g e opn sz ro n).act (zb10 n c g e opn sz ro) 64 0)) ∧ (((0 : Int) != (0 : Int)) = false)) ∧ (((IntKind.i64.wrap ((((n : Nat)) : Int) - (1 : Int))) = (Int.ofNat (n - 1))) ∧ ((n - 1) < n))) ∧ (((0 + ((n - 1) * 1)) = (((n - 1) * 1) + 0)) ∧ ((n - 1) < n))
theorem pef5_eq : seenF' Tryz.prog Tryz.f24 6 1 [] (pef5 n c g e opn sz ro) = some (.int .i64 (6 : Int), peS n c g e opn sz ro ++ [], ⟨[], ((zb16 n c g e opn sz ro) ∧ (((g (n - 1) 0) == (0 : Int)) = true))⟩) := by kernel_rfl
theorem pef5_s (h0 : ((n : Nat) : Int) ≠ (0 : Int)) (h1 : ¬ (5 : Int) < ((n : Nat) : Int)) (h2 : (g (n - 1) 0) = (0 : Int)) (l0 : SndC Tryz.prog none (.loop peX) (peA n c g e opn sz ro 0).act (zb10 n c g e opn sz ro) (.exit 0) (per2E n c g e opn sz ro n).act (zb10 n c g e opn sz ro) 64 0) : SndF Tryz.prog 24 (peArgs n c g e opn sz ro) (zb4 n c g e opn sz ro) (.int .i64 (6 : Int)) (zb4 n c g e opn sz ro) 64 0 :=
  kF (L := peS n c g e opn sz ro) (L2 := []) (ms := []) peK_ok (pef5_eq n c g e opn sz ro) kq
theorem pef6_eq : seenF' Tryz.prog Tryz.f24 6 1 [] (pef6 n c g e opn sz ro) = some (.int .i64 (0 : Int), peS n c g e opn sz ro ++ [], ⟨[], ((zb16 n c g e opn sz ro) ∧ (((g (n - 1) 0) == (0 : Int)) = false))⟩) := by kernel_rfl
theorem pef6_s (h0 : ((n : Nat) : Int) ≠ (0 : Int)) (h1 : ¬ (5 : Int) < ((n : Nat) : Int)) (h2 : (g (n - 1) 0) ≠ (0 : Int)) (l0 : SndC Tryz.prog none (.loop peX) (peA n c g e opn sz ro 0).act (zb10 n c g e opn sz ro) (.exit 0) (per2E n c g e opn sz ro n).act (zb10 n c g e opn sz ro) 64 0) : SndF Tryz.prog 24 (peArgs n c g e opn sz ro) (zb4 n c g e opn sz ro) (.int .i64 (0 : Int)) (zb4 n c g e opn sz ro) 64 0 :=
  kF (L := peS n c g e opn sz ro) (L2 := []) (ms := []) peK_ok (pef6_eq n c g e opn sz ro) kq
def cpV : Int := if n = 0 then 12 else if 5 < n then 5 else th2 (feN (fun i => Pl.cr (g i 0) (-100) 100) n 0) (if g (n - 1) 0 = 0 then 6 else 0)
theorem cpo_sndF (hn : (n : Int) ≤ 9223372036854775807) : SndF Tryz.prog 24 (peArgs n c g e opn sz ro) (wS 6 (peS n c g e opn sz ro)) (.int .i64 (cpV n g)) (wS 6 (peS n c g e opn sz ro)) 64 0 := by
  unfold cpV
  by_cases h0 : n = 0
  · rw [if_pos h0]; exact pef0_s n c g e opn sz ro (by omega)
  · rw [if_neg h0]
    by_cases h1 : 5 < n
    · rw [if_pos h1]; exact pef1_s n c g e opn sz ro (by omega) (by omega)
    · rw [if_neg h1]
      rcases first_or (p := fun i => Pl.cr (g i 0) (-100) 100 ≠ 0) (fun _ => inferInstance) n with h2 | ⟨j, hj, h2, h3⟩
      · have h4 : ∀ i, i < n → Pl.cr (g i 0) (-100) 100 = 0 := fun i hi => Decidable.not_not.1 (h2 i hi)
        rw [feN_all fun k _ hk => h4 k (by omega)]
        by_cases h5 : g (n - 1) 0 = 0
        · rw [if_pos h5]; exact pef5_s n c g e opn sz ro (by omega) (by omega) h5 (pe_all_s n c g e opn sz ro ⟨by omega, hn⟩ h4)
        · rw [if_neg h5]; exact pef6_s n c g e opn sz ro (by omega) (by omega) h5 (pe_all_s n c g e opn sz ro ⟨by omega, hn⟩ h4)
      · have h4 : ∀ i, i < j → Pl.cr (g i 0) (-100) 100 = 0 := fun i hi => Decidable.not_not.1 (h3 i hi)
        rw [feN_first (Nat.zero_le j) (by omega) (fun k _ hk => h4 k hk) h2, show th2 (Pl.cr (g j 0) (-100) 100) (if g (n - 1) 0 = 0 then 6 else 0) = Pl.cr (g j 0) (-100) 100 from if_neg h2]
        exact pef4_s n c g e opn sz ro j (by omega) (by omega) h2 (pe_ret_s n c g e opn sz ro j ⟨by omega, hn⟩ hj h4 h2)
def kCP : CallS := fun f xs s q => match decide (f = 24) with
  | true => match xs.toList with
    | [.slice (some ⟨b, 0, none⟩) n c] => match Nat.ble 6 b, rowK 1 .i64 s b n with
      | true, some (g, _, _, _, _, p) => some (.int .i64 (cpV n g), s, 2 ^ b, 0, ⟨q.rest, q.ob ∧ (p ∧ ((n : Int) ≤ 9223372036854775807))⟩)
      | _, _ => none
    | _ => none
  | false => none
theorem kCP_ok : FOkS Tryz.prog kCP := fun f xs s q u s1 R W q1 he => by
  unfold kCP at he
  split at he
  · rename_i hf
    have hf := of_decide_eq_true hf
    subst hf
    split at he
    · rename_i b n c hx0
      split at he
      · rename_i g e opn sz ro p hb hr
        have hb := Nat.le_of_ble_eq_true hb
        have hxs : xs = #[.slice (some ⟨b, 0, none⟩) n c] := by apply Array.ext'; exact hx0
        subst hxs
        cases he
        refine ⟨fun hq => hq.1, fun hq => ?_⟩
        obtain ⟨hp, hx⟩ := hq.2
        obtain ⟨l1, w1⟩ := rowK_wo hr hp
        exact SndF.row (N := 6) sng (cpo_sndF n c g e opn sz ro hx) rfl hb l1 w1 (fun f _ hf => wvs_one (slice_wv hf))
      · cases he
    · cases he
  · cases he
end
end Go.Proofs.YtbkpnhbcihcgaaaGreatDoor
end
section
set_option linter.all false
set_option maxRecDepth 1000000
open Go.RowKit
namespace Go.Proofs.YtbkpnhbcihcgaaaGreatDoor
open Mini
structure SV where
  c : Nat
  g : GI
  e : TypeId
  opn : Bool
  sz : Nat
  ro : Bool
  c2 : Nat
  h : GI
  e2 : TypeId
  opn2 : Bool
  sz2 : Nat
  ro2 : Bool
  x : Int
def SV.can (y : SV) : SV := ⟨0, y.g, 0, false, 0, false, 0, y.h, 0, false, 0, false, y.x⟩
abbrev yS (n : Nat) (g : GI) (m : Nat) (h : GI) (x : Int) : SV := ⟨n, g, 3, true, 1, false, m, h, 3, true, 1, false, x⟩
abbrev yR (c : Nat) (g : GI) (c2 : Nat) (h : GI) (x : Int) : SV := ⟨c, g, 0, true, 0, true, c2, h, 0, true, 0, true, x⟩
end Go.Proofs.YtbkpnhbcihcgaaaGreatDoor
end
section
set_option linter.all false
set_option maxRecDepth 1000000
open Go.RowKit
namespace Go.Proofs.YtbkpnhbcihcgaaaGreatDoor
open Mini
noncomputable section
variable (y : SV) (a0 : Int) (a1 : Int) (a2 : Int) (v0 : Int) (u0 : Int) (w0 : Int) (m9 : Nat) (i34 : Nat) (g6 : GI)
noncomputable def st1X : Code := loopAt Tryz.prog 50 0
noncomputable def st1K : CallS := kAll [c_range, c_rrange, c_index]
def st1A (a0 : Int) (a1 : Int) (a2 : Int) (v0 : Int) (u0 : Int) (w0 : Int) : MA := MA.ofL 64 (jl [] 9 (jl [.slice (some ⟨9, 0, none⟩) 1 1, .slice (some ⟨11, 0, none⟩) 1 1] 22 (jl [.int .i64 y.x, .int .i64 (0 : Int)] 29 []))) []
abbrev zf0 : List MObj := [.rows 2 1 (fun i j => .int .i64 (y.g i j)) y.e y.opn y.sz y.ro, .rows 1 1 (fun i j => .int .i64 (y.h i j)) y.e2 y.opn2 y.sz2 y.ro2, .cells [.int .i64 a0, .int .i64 a1, .int .i64 a2] 26 false 0 false, .cells [.int .i64 v0] 3 false 0 false, .cells [.int .i64 u0] 155 false 0 false, .cells [.int .i64 w0] 155 false 0 false]
def st1L : List MObj := (zf0 y a0 a1 a2 v0 u0 w0)
def st1A1 (a0 : Int) (a1 : Int) (a2 : Int) (v0 : Int) (u0 : Int) (w0 : Int) (m9 : Nat) (i34 : Nat) (g6 : GI) : MA := MA.ofL 64 (jl [] 9 (jl [.slice (some ⟨12, 0, none⟩) (m9 + 2) (m9 + 2), .slice (some ⟨11, 0, none⟩) 1 1] 22 (jl [.int .i64 y.x, .int .i64 ((i34 : Nat) : Int)] 29 []))) []
abbrev zf1 : List MObj := [.rows 2 1 (fun i j => .int .i64 (y.g i j)) y.e y.opn y.sz y.ro, .rows 1 1 (fun i j => .int .i64 (y.h i j)) y.e2 y.opn2 y.sz2 y.ro2, .cells [.int .i64 a0, .int .i64 a1, .int .i64 a2] 26 false 0 false, .cells [.int .i64 v0] 3 false 0 false, .cells [.int .i64 u0] 155 false 0 false, .cells [.int .i64 w0] 155 false 0 false, .rows (m9 + 2) 1 (fun i j => .int .i64 (g6 i j)) 3 true 1 false]
def st1L1 (i34 : Nat) (g6 : GI) : List MObj := (zf1 y a0 a1 a2 v0 u0 w0 m9 g6)
noncomputable def st1r0 : Option OutCS := evK Tryz.prog st1K 1000 false st1X (st1A y a0 a1 a2 v0 u0 w0) (wS 6 (st1L y a0 a1 a2 v0 u0 w0)) ⟨[1, 1, 0, 0, 0, 0], True⟩
noncomputable def st1r1 : Option OutCS := evK Tryz.prog st1K 1000 false st1X (st1A y a0 a1 a2 v0 u0 w0) (wS 6 (st1L y a0 a1 a2 v0 u0 w0)) ⟨[1, 1, 0, 0, 0, 1], True⟩
abbrev zf2 := jl [] 6 (jl [.slice none 0 0, .int .i64 (4 : Int)] 56 [])
def st1r1E (y : SV) (a0 : Int) (a1 : Int) (a2 : Int) (v0 : Int) (u0 : Int) (w0 : Int) : MA := MA.ofL 64 zf2 []
noncomputable def st1r2 : Option OutCS := evK Tryz.prog st1K 1000 false st1X (st1A y a0 a1 a2 v0 u0 w0) (wS 6 (st1L y a0 a1 a2 v0 u0 w0)) ⟨[0], True⟩
def st1r2E (y : SV) (a0 : Int) (a1 : Int) (a2 : Int) (v0 : Int) (u0 : Int) (w0 : Int) : MA := MA.ofL 64 (jl [] 9 (jl [.slice (some ⟨9, 0, none⟩) 1 1] 54 [])) []
noncomputable def st1r3 : Option OutCS := evK Tryz.prog st1K 1000 false st1X (st1A1 y a0 a1 a2 v0 u0 w0 m9 i34 g6) (wS 6 (st1L1 y a0 a1 a2 v0 u0 w0 m9 i34 g6)) ⟨[1, 1, 0, .azz (.int .i64 ((i34 : Nat) : Int)), .row i34 0, .row i34 0, 0, 0, .row 0 0, .azz (.int .i64 ((i34 + 1 : Nat) : Int))], True⟩
noncomputable def st1r4 : Option OutCS := evK Tryz.prog st1K 1000 false st1X (st1A1 y a0 a1 a2 v0 u0 w0 m9 i34 g6) (wS 6 (st1L1 y a0 a1 a2 v0 u0 w0 m9 i34 g6)) ⟨[1, 1, 0, .azz (.int .i64 ((i34 : Nat) : Int)), .row i34 0, .row i34 0, 0, 1], True⟩
def st1r4E (y : SV) (a0 : Int) (a1 : Int) (a2 : Int) (v0 : Int) (u0 : Int) (w0 : Int) (m9 : Nat) (i34 : Nat) (g6 : GI) : MA := MA.ofL 64 zf2 []
noncomputable def st1r5 : Option OutCS := evK Tryz.prog st1K 1000 false st1X (st1A1 y a0 a1 a2 v0 u0 w0 m9 i34 g6) (wS 6 (st1L1 y a0 a1 a2 v0 u0 w0 m9 i34 g6)) ⟨[0], True⟩
def st1r5E (y : SV) (a0 : Int) (a1 : Int) (a2 : Int) (v0 : Int) (u0 : Int) (w0 : Int) (m9 : Nat) (i34 : Nat) (g6 : GI) : MA := MA.ofL 64 (jl [] 9 (jl [.slice (some ⟨12, 0, none⟩) (m9 + 2) (m9 + 2)] 54 [])) []
theorem st1K_ok : FOkS Tryz.prog st1K := kAll_ok _ ⟨k_range, k_rrange, k_index, trivial⟩
abbrev zf3 := IntKind.i64.wrap ((0 : Int) + (IntKind.i64.wrap (w0 * v0)))
abbrev zf4 := fun i j => ([v0, (zf3 v0 w0)] : List Int).getD (i * 1 + j) 0
abbrev zf5 : List MObj := [.rows 2 1 (fun i j => .int .i64 (y.g i j)) y.e y.opn y.sz y.ro, .rows 1 1 (fun i j => .int .i64 (y.h i j)) y.e2 y.opn2 y.sz2 y.ro2, .cells [.int .i64 a0, .int .i64 a1, .int .i64 a2] 26 false 0 false, .cells [.int .i64 v0] 3 false 0 false, .cells [.int .i64 u0] 155 false 0 false, .cells [.int .i64 w0] 155 false 0 false, .cells [.int .i64 v0, .int .i64 (zf3 v0 w0)] 3 true 1 false]
abbrev zf6 := (decide ((0 : Int) < (((1 : Nat)) : Int))) = true
abbrev zf7 := (decide ((IntKind.i64.wrap ((0 : Int) + (1 : Int))) < (((1 : Nat)) : Int))) = false
abbrev zf8 := (((((True ∧ ((decide ((0 : Int) < y.x)) = true)) ∧ zf6) ∧ ((0 : Int) = (Int.ofNat 0))) ∧ ((IntKind.i64.wrap ((0 : Int) + (0 : Int))) = (Int.ofNat 0))) ∧ zf7) ∧ True
abbrev zf9 := (Pl.cr (zf3 v0 w0) (- (1073741824 : Int)) (1073741824 : Int)) != (0 : Int)
theorem st1r0_eq : seenK 6 6 [13] 25769805312 4096 (st1r0 y a0 a1 a2 v0 u0 w0) = some (.normal, st1A1 y a0 a1 a2 v0 u0 w0 0 1 (zf4 v0 w0), (zf5 y a0 a1 a2 v0 u0 w0), 4096, ⟨[], ((zf8 y) ∧ ((zf9 v0 w0) = false))⟩) := by kernel_rfl
abbrev zf10 := Pl.cr (zf3 v0 w0) (-1073741824 : Int) (1073741824 : Int)
theorem st1r0_k (h0 : (0 : Int) < y.x) (h1 : (zf10 v0 w0) = (0 : Int)) : KC Tryz.prog none st1X (st1A y a0 a1 a2 v0 u0 w0).act (wS 6 (st1L y a0 a1 a2 v0 u0 w0)) .normal (st1A1 y a0 a1 a2 v0 u0 w0 0 1 (zf4 v0 w0)).act (wS 6 (st1L1 y a0 a1 a2 v0 u0 w0 0 1 (zf4 v0 w0))) 12 4096 := by
  refine KT.toldAs (L := (zf5 y a0 a1 a2 v0 u0 w0)) ?_ (by
    simp only [List.map_cons, List.map_nil, st1L, st1L1]
    all_goals exact kr)
  exact seenK_ok smx st1K_ok sng (st1r0_eq y a0 a1 a2 v0 u0 w0) kq
theorem st1r1_eq : seenK 6 6 [] 192 4096 (st1r1 y a0 a1 a2 v0 u0 w0) = some (.ret, st1r1E y a0 a1 a2 v0 u0 w0, (zf0 y a0 a1 a2 v0 u0 w0), 4096, ⟨[], ((zf8 y) ∧ ((zf9 v0 w0) = true))⟩) := by kernel_rfl
abbrev zf11 := wS 6 (zf0 y a0 a1 a2 v0 u0 w0)
theorem st1r1_k (h0 : (0 : Int) < y.x) (h1 : (zf10 v0 w0) ≠ (0 : Int)) : KC Tryz.prog none st1X (st1A y a0 a1 a2 v0 u0 w0).act (wS 6 (st1L y a0 a1 a2 v0 u0 w0)) .ret (st1r1E y a0 a1 a2 v0 u0 w0).act (zf11 y a0 a1 a2 v0 u0 w0) 12 4096 :=
  seenK_ok smx st1K_ok sng (st1r1_eq y a0 a1 a2 v0 u0 w0) kq
theorem st1r2_eq : seenK 6 6 [] 512 4096 (st1r2 y a0 a1 a2 v0 u0 w0) = some ((.exit 0), st1r2E y a0 a1 a2 v0 u0 w0, (zf0 y a0 a1 a2 v0 u0 w0), 4096, ⟨[], (True ∧ ((decide ((0 : Int) < y.x)) = false))⟩) := by kernel_rfl
theorem st1r2_k (h0 : ¬ (0 : Int) < y.x) : KC Tryz.prog none st1X (st1A y a0 a1 a2 v0 u0 w0).act (wS 6 (st1L y a0 a1 a2 v0 u0 w0)) (.exit 0) (st1r2E y a0 a1 a2 v0 u0 w0).act (zf11 y a0 a1 a2 v0 u0 w0) 12 4096 :=
  seenK_ok smx st1K_ok sng (st1r2_eq y a0 a1 a2 v0 u0 w0) kq
abbrev zf12 := IntKind.i64.wrap ((0 : Int) + (IntKind.i64.wrap (w0 * (g6 i34 0))))
abbrev zf13 := pushI (m9 + 2) g6 [(zf12 w0 i34 g6)]
abbrev zf14 : List MObj := [.rows 2 1 (fun i j => .int .i64 (y.g i j)) y.e y.opn y.sz y.ro, .rows 1 1 (fun i j => .int .i64 (y.h i j)) y.e2 y.opn2 y.sz2 y.ro2, .cells [.int .i64 a0, .int .i64 a1, .int .i64 a2] 26 false 0 false, .cells [.int .i64 v0] 3 false 0 false, .cells [.int .i64 u0] 155 false 0 false, .cells [.int .i64 w0] 155 false 0 false, .rows (m9 + 3) 1 (fun i j => tellV (invN 12 [14]) 8 ((pushRow (m9 + 2) 1 (fun i j => .int .i64 (g6 i j)) [.int .i64 (zf12 w0 i34 g6)]) i j)) 3 true 1 false]
abbrev zf15 := (((((((True ∧ ((decide ((((i34 : Nat)) : Int) < y.x)) = true)) ∧ zf6) ∧ ((0 : Int) = (Int.ofNat 0))) ∧ (((.int .i64 (IntKind.i64.wrap ((((i34 : Nat)) : Int) + (0 : Int)))) : Value) = (.int .i64 (((i34 : Nat)) : Int)))) ∧ (((((i34 : Nat)) : Int) = (Int.ofNat i34)) ∧ (i34 < (m9 + 2)))) ∧ (((0 + (i34 * 1)) = ((i34 * 1) + 0)) ∧ (i34 < (m9 + 2)))) ∧ zf7) ∧ True
abbrev zf16 := (Pl.cr (zf12 w0 i34 g6) (- (1073741824 : Int)) (1073741824 : Int)) != (0 : Int)
theorem st1r3_eq : seenK 6 6 [14] 25769805312 4096 (st1r3 y a0 a1 a2 v0 u0 w0 m9 i34 g6) = some (.normal, st1A1 y a0 a1 a2 v0 u0 w0 (m9 + 1) (i34 + 1) (zf13 w0 m9 i34 g6), (zf14 y a0 a1 a2 v0 u0 w0 m9 i34 g6), 4096, ⟨[], ((((zf15 y m9 i34) ∧ ((zf16 w0 i34 g6) = false)) ∧ (((m9 + 2) = (m9 + 2)) ∧ (((m9 + 2) = (m9 + 2)) ∧ ((((m9 + 2) + 1) * 8) ≤ (140737488355328 : Nat))))) ∧ (((.int .i64 (IntKind.i64.wrap ((((i34 : Nat)) : Int) + (1 : Int)))) : Value) = (.int .i64 ((((i34 + 1) : Nat)) : Int))))⟩) := by kernel_rfl
abbrev zf17 := Pl.cr (zf12 w0 i34 g6) (-1073741824 : Int) (1073741824 : Int)
theorem st1r3_k (hx : i34 = m9 + 1) (hb : m9 ≤ 1000) (h0 : ((i34 : Nat) : Int) < y.x) (h1 : (zf17 w0 i34 g6) = (0 : Int)) : KC Tryz.prog none st1X (st1A1 y a0 a1 a2 v0 u0 w0 m9 i34 g6).act (wS 6 (st1L1 y a0 a1 a2 v0 u0 w0 m9 i34 g6)) .normal (st1A1 y a0 a1 a2 v0 u0 w0 (m9 + 1) (i34 + 1) (zf13 w0 m9 i34 g6)).act (wS 6 (st1L1 y a0 a1 a2 v0 u0 w0 (m9 + 1) (i34 + 1) (zf13 w0 m9 i34 g6))) 12 4096 := by
  refine KT.toldAs (L := (zf14 y a0 a1 a2 v0 u0 w0 m9 i34 g6)) ?_ (by
    simp only [List.map_cons, List.map_nil, st1L, st1L1]
    all_goals exact kr)
  exact seenK_ok smx st1K_ok sng (st1r3_eq y a0 a1 a2 v0 u0 w0 m9 i34 g6) kq
theorem st1r4_eq : seenK 6 6 [] 192 4096 (st1r4 y a0 a1 a2 v0 u0 w0 m9 i34 g6) = some (.ret, st1r4E y a0 a1 a2 v0 u0 w0 m9 i34 g6, (zf0 y a0 a1 a2 v0 u0 w0), 4096, ⟨[], ((zf15 y m9 i34) ∧ ((zf16 w0 i34 g6) = true))⟩) := by kernel_rfl
theorem st1r4_k (hx : i34 = m9 + 1) (hb : m9 ≤ 1000) (h0 : ((i34 : Nat) : Int) < y.x) (h1 : (zf17 w0 i34 g6) ≠ (0 : Int)) : KC Tryz.prog none st1X (st1A1 y a0 a1 a2 v0 u0 w0 m9 i34 g6).act (wS 6 (st1L1 y a0 a1 a2 v0 u0 w0 m9 i34 g6)) .ret (st1r4E y a0 a1 a2 v0 u0 w0 m9 i34 g6).act (zf11 y a0 a1 a2 v0 u0 w0) 12 4096 :=
  seenK_ok smx st1K_ok sng (st1r4_eq y a0 a1 a2 v0 u0 w0 m9 i34 g6) kq
theorem st1r5_eq : seenK 6 6 [12] 512 4096 (st1r5 y a0 a1 a2 v0 u0 w0 m9 i34 g6) = some ((.exit 0), st1r5E y a0 a1 a2 v0 u0 w0 m9 i34 g6, (zf1 y a0 a1 a2 v0 u0 w0 m9 g6), 4096, ⟨[], (True ∧ ((decide ((((i34 : Nat)) : Int) < y.x)) = false))⟩) := by kernel_rfl
theorem st1r5_k (hx : i34 = m9 + 1) (hb : m9 ≤ 1000) (h0 : ¬ ((i34 : Nat) : Int) < y.x) : KC Tryz.prog none st1X (st1A1 y a0 a1 a2 v0 u0 w0 m9 i34 g6).act (wS 6 (st1L1 y a0 a1 a2 v0 u0 w0 m9 i34 g6)) (.exit 0) (st1r5E y a0 a1 a2 v0 u0 w0 m9 i34 g6).act (wS 6 (zf1 y a0 a1 a2 v0 u0 w0 m9 g6)) 12 4096 := by
  refine KT.toldAs (L := (zf1 y a0 a1 a2 v0 u0 w0 m9 g6)) ?_ (by
    simp only [List.map_cons, List.map_nil, st1L, st1L1]
    all_goals exact kr)
  exact seenK_ok smx st1K_ok sng (st1r5_eq y a0 a1 a2 v0 u0 w0 m9 i34 g6) kq
end
end Go.Proofs.YtbkpnhbcihcgaaaGreatDoor
end
section
set_option linter.all false
set_option maxRecDepth 1000000
open Go.RowKit
namespace Go.Proofs.YtbkpnhbcihcgaaaGreatDoor
open Mini
noncomputable section
variable (n : Nat) (c : Nat) (g : GI) (e : TypeId) (opn : Bool) (sz : Nat) (ro : Bool) (i7 : Nat) (jj : Nat)
noncomputable def pnX : Code := loopAt Tryz.prog 78 0
noncomputable def pnK : CallS := kAll [c_range, c_rrange, c_index]
def pnA (g : GI) (e : TypeId) (opn : Bool) (sz : Nat) (ro : Bool) (i7 : Nat) : MA := MA.ofL 25 (jl [.slice (some ⟨6, 0, none⟩) n c, .int .i64 (-100 : Int), .int .i64 (100 : Int)] 4 (jl [.int .i64 ((i7 : Nat) : Int)] 17 [])) []
abbrev zc0 : List MObj := [.rows n 1 (fun i j => .int .i64 (g i j)) e opn sz ro]
def pnL (c : Nat) (g : GI) (e : TypeId) (opn : Bool) (sz : Nat) (ro : Bool) (i7 : Nat) : List MObj := (zc0 n g e opn sz ro)
noncomputable def pnr0 : Option OutCS := evK Tryz.prog pnK 1000 false pnX (pnA n c g e opn sz ro i7) (wS 6 (pnL n c g e opn sz ro i7)) ⟨[1, .row i7 0, .row i7 0, 0, .azz (.int .i64 ((i7 + 1 : Nat) : Int))], True⟩
noncomputable def pnr1 : Option OutCS := evK Tryz.prog pnK 1000 false pnX (pnA n c g e opn sz ro i7) (wS 6 (pnL n c g e opn sz ro i7)) ⟨[1, .row i7 0, .row i7 0, 1], True⟩
abbrev zc1 := Pl.cr (g i7 0) (-100 : Int) (100 : Int)
def pnr1E (n : Nat) (c : Nat) (g : GI) (e : TypeId) (opn : Bool) (sz : Nat) (ro : Bool) (i7 : Nat) : MA := MA.ofL 25 (jl [] 6 (jl [.int .i64 (zc1 g i7)] 18 [])) []
noncomputable def pnr2 : Option OutCS := evK Tryz.prog pnK 1000 false pnX (pnA n c g e opn sz ro i7) (wS 6 (pnL n c g e opn sz ro i7)) ⟨[0], True⟩
def pnr2E (n : Nat) (c : Nat) (g : GI) (e : TypeId) (opn : Bool) (sz : Nat) (ro : Bool) (i7 : Nat) : MA := MA.ofL 25 (jl [] 25 []) []
def pnArgs (g : GI) (e : TypeId) (opn : Bool) (sz : Nat) (ro : Bool) : Array Value := #[.slice (some ⟨6, 0, none⟩) n c]
def pnS (c : Nat) (g : GI) (e : TypeId) (opn : Bool) (sz : Nat) (ro : Bool) : List MObj := (zc0 n g e opn sz ro)
noncomputable abbrev zc2 := bodyOf Tryz.prog 18
noncomputable abbrev zc3 := startM Tryz.f18 (pnArgs n c g e opn sz ro)
abbrev zc4 := wS 6 (pnS n c g e opn sz ro)
noncomputable def pnf0 : Option OutCS := evK Tryz.prog pnK 1000 false zc2 (zc3 n c g e opn sz ro) (zc4 n c g e opn sz ro) ⟨[1], True⟩
noncomputable def pnf1 : Option OutCS := evK Tryz.prog pnK 1000 false zc2 (zc3 n c g e opn sz ro) (zc4 n c g e opn sz ro) ⟨[0, 1], True⟩
noncomputable def pnf4 : Option OutCS := evK Tryz.prog pnK 1000 false zc2 (zc3 n c g e opn sz ro) (zc4 n c g e opn sz ro) ⟨[0, 0, .lp 135 (pnA n c g e opn sz ro 0) 6 (pnL n c g e opn sz ro 0) .ret (pnr1E n c g e opn sz ro jj) (pnL n c g e opn sz ro 0) 64 0, 1], True⟩
noncomputable def pnf5 : Option OutCS := evK Tryz.prog pnK 1000 false zc2 (zc3 n c g e opn sz ro) (zc4 n c g e opn sz ro) ⟨[0, 0, .lp 135 (pnA n c g e opn sz ro 0) 6 (pnL n c g e opn sz ro 0) (.exit 0) (pnr2E n c g e opn sz ro n) (pnL n c g e opn sz ro 0) 64 0, 0, .azz (.int .i64 ((n : Nat) : Int)), .azz (.int .i64 (((n - 1) : Nat) : Int)), .row (n - 1) 0, .row (n - 1) 0, 1], True⟩
noncomputable def pnf6 : Option OutCS := evK Tryz.prog pnK 1000 false zc2 (zc3 n c g e opn sz ro) (zc4 n c g e opn sz ro) ⟨[0, 0, .lp 135 (pnA n c g e opn sz ro 0) 6 (pnL n c g e opn sz ro 0) (.exit 0) (pnr2E n c g e opn sz ro n) (pnL n c g e opn sz ro 0) 64 0, 0, .azz (.int .i64 ((n : Nat) : Int)), .azz (.int .i64 (((n - 1) : Nat) : Int)), .row (n - 1) 0, .row (n - 1) 0, 0], True⟩
theorem pnK_ok : FOkS Tryz.prog pnK := kAll_ok _ ⟨k_range, k_rrange, k_index, trivial⟩
abbrev zc5 := decide ((((i7 : Nat)) : Int) < (((n : Nat)) : Int))
abbrev zc6 := (((True ∧ ((zc5 n i7) = true)) ∧ (((((i7 : Nat)) : Int) = (Int.ofNat i7)) ∧ (i7 < n))) ∧ (((0 + (i7 * 1)) = ((i7 * 1) + 0)) ∧ (i7 < n))) ∧ True
abbrev zc7 := (Pl.cr (g i7 0) (- (100 : Int)) (100 : Int)) != (0 : Int)
theorem pnr0_eq : seenK 6 1 [] 135 0 (pnr0 n c g e opn sz ro i7) = some (.normal, pnA n c g e opn sz ro (i7 + 1), (zc0 n g e opn sz ro), 0, ⟨[], (((zc6 n i7) ∧ ((zc7 g i7) = false)) ∧ (((.int .i64 (IntKind.i64.wrap ((((i7 : Nat)) : Int) + (1 : Int)))) : Value) = (.int .i64 ((((i7 + 1) : Nat)) : Int))))⟩) := by kernel_rfl
theorem pnr0_k (hx : 0 < n ∧ (n : Int) ≤ 9223372036854775807) (h0 : ((i7 : Nat) : Int) < ((n : Nat) : Int)) (h1 : (zc1 g i7) = (0 : Int)) : KC Tryz.prog none pnX (pnA n c g e opn sz ro i7).act (wS 6 (pnL n c g e opn sz ro i7)) .normal (pnA n c g e opn sz ro (i7 + 1)).act (wS 6 (pnL n c g e opn sz ro (i7 + 1))) 7 0 :=
  seenK_ok smx pnK_ok sng (pnr0_eq n c g e opn sz ro i7) kq
theorem pnr1_eq : seenK 6 1 [] 64 0 (pnr1 n c g e opn sz ro i7) = some (.ret, pnr1E n c g e opn sz ro i7, (zc0 n g e opn sz ro), 0, ⟨[], ((zc6 n i7) ∧ ((zc7 g i7) = true))⟩) := by kernel_rfl
abbrev zc8 := wS 6 (zc0 n g e opn sz ro)
theorem pnr1_k (hx : 0 < n ∧ (n : Int) ≤ 9223372036854775807) (h0 : ((i7 : Nat) : Int) < ((n : Nat) : Int)) (h1 : (zc1 g i7) ≠ (0 : Int)) : KC Tryz.prog none pnX (pnA n c g e opn sz ro i7).act (wS 6 (pnL n c g e opn sz ro i7)) .ret (pnr1E n c g e opn sz ro i7).act (zc8 n g e opn sz ro) 7 0 :=
  seenK_ok smx pnK_ok sng (pnr1_eq n c g e opn sz ro i7) kq
theorem pnr2_eq : seenK 6 1 [] 0 0 (pnr2 n c g e opn sz ro i7) = some ((.exit 0), pnr2E n c g e opn sz ro i7, (zc0 n g e opn sz ro), 0, ⟨[], (True ∧ ((zc5 n i7) = false))⟩) := by kernel_rfl
theorem pnr2_k (hx : 0 < n ∧ (n : Int) ≤ 9223372036854775807) (h0 : ¬ ((i7 : Nat) : Int) < ((n : Nat) : Int)) : KC Tryz.prog none pnX (pnA n c g e opn sz ro i7).act (wS 6 (pnL n c g e opn sz ro i7)) (.exit 0) (pnr2E n c g e opn sz ro i7).act (zc8 n g e opn sz ro) 7 0 :=
  seenK_ok smx pnK_ok sng (pnr2_eq n c g e opn sz ro i7) kq
abbrev zc9 := Pl.cr (g jj 0) (-100 : Int) (100 : Int)
abbrev zc10 := wS 6 (pnL n c g e opn sz ro 0)
theorem pn_ret (hx : 0 < n ∧ (n : Int) ≤ 9223372036854775807) (hj : jj < n) (h1 : ∀ i, i < jj → (Pl.cr (g i 0) (-100 : Int) (100 : Int)) = 0) (h2 : (zc9 g jj) ≠ 0) : KC Tryz.prog none (.loop pnX) (pnA n c g e opn sz ro 0).act (zc10 n c g e opn sz ro) .ret (pnr1E n c g e opn sz ro jj).act (zc8 n g e opn sz ro) 7 0 := by
  exact K_rounds (A := fun i => (pnA n c g e opn sz ro i).act) (S := fun i => wS 6 (pnL n c g e opn sz ro i)) (jj) (fun i hi => pnr0_k n c g e opn sz ro i hx (by omega) (h1 i hi)) (pnr1_k n c g e opn sz ro jj hx (by omega) h2) (by simp)
theorem pn_ret_s (hx : 0 < n ∧ (n : Int) ≤ 9223372036854775807) (hj : jj < n) (h1 : ∀ i, i < jj → (Pl.cr (g i 0) (-100 : Int) (100 : Int)) = 0) (h2 : (zc9 g jj) ≠ 0) : SndC Tryz.prog none (.loop pnX) (pnA n c g e opn sz ro 0).act (zc10 n c g e opn sz ro) .ret (pnr1E n c g e opn sz ro jj).act (zc10 n c g e opn sz ro) 64 0 :=
  KT.snd (a := pnA n c g e opn sz ro 0) (a2 := pnr1E n c g e opn sz ro jj) (L := pnL n c g e opn sz ro 0) (pn_ret n c g e opn sz ro jj hx hj h1 h2) sng (Nat.le_refl _) (fun b _ => by simp) rfl rfl (by kernel_rfl) (by kernel_rfl) (fun o ho => by
    simp only [pnL, List.mem_cons, List.not_mem_nil, or_false] at ho
    rcases ho with rfl
    all_goals first | rfl | exact fun i j => rfl)
theorem pn_all  (hx : 0 < n ∧ (n : Int) ≤ 9223372036854775807) (h1 : ∀ i, i < n → (Pl.cr (g i 0) (-100 : Int) (100 : Int)) = 0) : KC Tryz.prog none (.loop pnX) (pnA n c g e opn sz ro 0).act (zc10 n c g e opn sz ro) (.exit 0) (pnr2E n c g e opn sz ro n).act (zc8 n g e opn sz ro) 7 0 := by
  exact K_rounds (A := fun i => (pnA n c g e opn sz ro i).act) (S := fun i => wS 6 (pnL n c g e opn sz ro i)) (n) (fun i hi => pnr0_k n c g e opn sz ro i hx (by omega) (h1 i hi)) (pnr2_k n c g e opn sz ro n hx (by omega)) (by simp)
theorem pn_all_s  (hx : 0 < n ∧ (n : Int) ≤ 9223372036854775807) (h1 : ∀ i, i < n → (Pl.cr (g i 0) (-100 : Int) (100 : Int)) = 0) : SndC Tryz.prog none (.loop pnX) (pnA n c g e opn sz ro 0).act (zc10 n c g e opn sz ro) (.exit 0) (pnr2E n c g e opn sz ro n).act (zc10 n c g e opn sz ro) 64 0 :=
  KT.snd (a := pnA n c g e opn sz ro 0) (a2 := pnr2E n c g e opn sz ro n) (L := pnL n c g e opn sz ro 0) (pn_all n c g e opn sz ro hx h1) sng (Nat.le_refl _) (fun b _ => by simp) rfl rfl (by kernel_rfl) (by kernel_rfl) (fun o ho => by
    simp only [pnL, List.mem_cons, List.not_mem_nil, or_false] at ho
    rcases ho with rfl
    all_goals first | rfl | exact fun i j => rfl)
theorem pnf0_eq : seenF' Tryz.prog Tryz.f18 6 1 [] (pnf0 n c g e opn sz ro) = some (.int .i64 (12 : Int), pnS n c g e opn sz ro ++ [], ⟨[], (True ∧ (((((n : Nat)) : Int) == (0 : Int)) = true))⟩) := by kernel_rfl
theorem pnf0_s (h0 : ((n : Nat) : Int) = (0 : Int)) : SndF Tryz.prog 18 (pnArgs n c g e opn sz ro) (zc4 n c g e opn sz ro) (.int .i64 (12 : Int)) (zc4 n c g e opn sz ro) 64 0 :=
  kF (L := pnS n c g e opn sz ro) (L2 := []) (ms := []) pnK_ok (pnf0_eq n c g e opn sz ro) kq
abbrev zc11 := True ∧ (((((n : Nat)) : Int) == (0 : Int)) = false)
abbrev zc12 := decide ((((n : Nat)) : Int) > (5 : Int))
theorem pnf1_eq : seenF' Tryz.prog Tryz.f18 6 1 [] (pnf1 n c g e opn sz ro) = some (.int .i64 (5 : Int), pnS n c g e opn sz ro ++ [], ⟨[], ((zc11 n) ∧ ((zc12 n) = true))⟩) := by kernel_rfl
theorem pnf1_s (h0 : ((n : Nat) : Int) ≠ (0 : Int)) (h1 : (5 : Int) < ((n : Nat) : Int)) : SndF Tryz.prog 18 (pnArgs n c g e opn sz ro) (zc4 n c g e opn sz ro) (.int .i64 (5 : Int)) (zc4 n c g e opn sz ro) 64 0 :=
  kF (L := pnS n c g e opn sz ro) (L2 := []) (ms := []) pnK_ok (pnf1_eq n c g e opn sz ro) kq
abbrev zc13 := (zc11 n) ∧ ((zc12 n) = false)
abbrev zc14 := HAppend.hAppend (List.replicate (6 : Nat) MObj.hole) (pnL n c g e opn sz ro (0 : Nat))
abbrev zc15 := ((pnA n c g e opn sz ro (0 : Nat)) = (pnA n c g e opn sz ro (0 : Nat))) ∧ ((7 = (6 + 1)) ∧ ((zc14 n c g e opn sz ro) = (zc14 n c g e opn sz ro)))
theorem pnf4_eq : seenF' Tryz.prog Tryz.f18 6 1 [] (pnf4 n c g e opn sz ro jj) = some (.int .i64 (zc9 g jj), pnS n c g e opn sz ro ++ [], ⟨[], (((zc13 n) ∧ ((zc15 n c g e opn sz ro) ∧ SndC Tryz.prog none (.loop pnX) (pnA n c g e opn sz ro 0).act (zc10 n c g e opn sz ro) .ret (pnr1E n c g e opn sz ro jj).act (zc10 n c g e opn sz ro) 64 0)) ∧ (((Pl.cr (g jj 0) (- (100 : Int)) (100 : Int)) != (0 : Int)) = true))⟩) := by kernel_rfl
theorem pnf4_s (h0 : ((n : Nat) : Int) ≠ (0 : Int)) (h1 : ¬ (5 : Int) < ((n : Nat) : Int)) (h2 : (zc9 g jj) ≠ (0 : Int)) (l0 : SndC Tryz.prog none (.loop pnX) (pnA n c g e opn sz ro 0).act (zc10 n c g e opn sz ro) .ret (pnr1E n c g e opn sz ro jj).act (zc10 n c g e opn sz ro) 64 0) : SndF Tryz.prog 18 (pnArgs n c g e opn sz ro) (zc4 n c g e opn sz ro) (.int .i64 (zc9 g jj)) (zc4 n c g e opn sz ro) 64 0 :=
  kF (L := pnS n c g e opn sz ro) (L2 := []) (ms := []) pnK_ok (pnf4_eq n c g e opn sz ro jj) kq
noncomputable abbrev zc16 := ((((((zc13 n) ∧ ((zc15 n c g e opn sz ro) ∧ SndC Tryz.prog none (.loop pnX) (pnA n c g e opn sz ro 0).act (zc10 n c g e opn sz ro) (.exit 0) (pnr2E n c g e opn sz ro n).act (zc10 n c g e opn sz ro) 64 0)) ∧ (((0 : Int) != (0 : Int)) = false)) ∧ (((.int .i64 (((n : Nat)) : Int)) : Value) = (.int .i64 (((n : Nat)) : Int)))) ∧ (((.int .i64 (IntKind.i64.wrap ((((n : Nat)) : Int) - (1 : Int)))) : Value) = (.int .i64 ((((n - 1) : Nat)) : Int)))) ∧ ((((((n - 1) : Nat)) : Int) = (Int.ofNat (n - 1))) ∧ ((n - 1) < n))) ∧ (((0 + ((n - 1) * 1)) = (((n - 1) * 1) + 0)) ∧ ((n - 1) < n))
theorem pnf5_eq : seenF' Tryz.prog Tryz.f18 6 1 [] (pnf5 n c g e opn sz ro) = some (.int .i64 (6 : Int), pnS n c g e opn sz ro ++ [], ⟨[], ((zc16 n c g e opn sz ro) ∧ (((g (n - 1) 0) == (0 : Int)) = true))⟩) := by kernel_rfl
theorem pnf5_s (h0 : ((n : Nat) : Int) ≠ (0 : Int)) (h1 : ¬ (5 : Int) < ((n : Nat) : Int)) (h2 : (g (n - 1) 0) = (0 : Int)) (l0 : SndC Tryz.prog none (.loop pnX) (pnA n c g e opn sz ro 0).act (zc10 n c g e opn sz ro) (.exit 0) (pnr2E n c g e opn sz ro n).act (zc10 n c g e opn sz ro) 64 0) : SndF Tryz.prog 18 (pnArgs n c g e opn sz ro) (zc4 n c g e opn sz ro) (.int .i64 (6 : Int)) (zc4 n c g e opn sz ro) 64 0 :=
  kF (L := pnS n c g e opn sz ro) (L2 := []) (ms := []) pnK_ok (pnf5_eq n c g e opn sz ro) kq
theorem pnf6_eq : seenF' Tryz.prog Tryz.f18 6 1 [] (pnf6 n c g e opn sz ro) = some (.int .i64 (0 : Int), pnS n c g e opn sz ro ++ [], ⟨[], ((zc16 n c g e opn sz ro) ∧ (((g (n - 1) 0) == (0 : Int)) = false))⟩) := by kernel_rfl
theorem pnf6_s (h0 : ((n : Nat) : Int) ≠ (0 : Int)) (h1 : ¬ (5 : Int) < ((n : Nat) : Int)) (h2 : (g (n - 1) 0) ≠ (0 : Int)) (l0 : SndC Tryz.prog none (.loop pnX) (pnA n c g e opn sz ro 0).act (zc10 n c g e opn sz ro) (.exit 0) (pnr2E n c g e opn sz ro n).act (zc10 n c g e opn sz ro) 64 0) : SndF Tryz.prog 18 (pnArgs n c g e opn sz ro) (zc4 n c g e opn sz ro) (.int .i64 (0 : Int)) (zc4 n c g e opn sz ro) 64 0 :=
  kF (L := pnS n c g e opn sz ro) (L2 := []) (ms := []) pnK_ok (pnf6_eq n c g e opn sz ro) kq
theorem rcpo_sndF (hn : (n : Int) ≤ 9223372036854775807) : SndF Tryz.prog 18 (pnArgs n c g e opn sz ro) (wS 6 (pnS n c g e opn sz ro)) (.int .i64 (cpV n g)) (wS 6 (pnS n c g e opn sz ro)) 64 0 := by
  unfold cpV
  by_cases h0 : n = 0
  · rw [if_pos h0]; exact pnf0_s n c g e opn sz ro (by omega)
  · rw [if_neg h0]
    by_cases h1 : 5 < n
    · rw [if_pos h1]; exact pnf1_s n c g e opn sz ro (by omega) (by omega)
    · rw [if_neg h1]
      rcases first_or (p := fun i => Pl.cr (g i 0) (-100) 100 ≠ 0) (fun _ => inferInstance) n with h2 | ⟨j, hj, h2, h3⟩
      · have h4 : ∀ i, i < n → Pl.cr (g i 0) (-100) 100 = 0 := fun i hi => Decidable.not_not.1 (h2 i hi)
        rw [feN_all fun k _ hk => h4 k (by omega)]
        by_cases h5 : g (n - 1) 0 = 0
        · rw [if_pos h5]; exact pnf5_s n c g e opn sz ro (by omega) (by omega) h5 (pn_all_s n c g e opn sz ro ⟨by omega, hn⟩ h4)
        · rw [if_neg h5]; exact pnf6_s n c g e opn sz ro (by omega) (by omega) h5 (pn_all_s n c g e opn sz ro ⟨by omega, hn⟩ h4)
      · have h4 : ∀ i, i < j → Pl.cr (g i 0) (-100) 100 = 0 := fun i hi => Decidable.not_not.1 (h3 i hi)
        rw [feN_first (Nat.zero_le j) (by omega) (fun k _ hk => h4 k hk) h2, show th2 (Pl.cr (g j 0) (-100) 100) (if g (n - 1) 0 = 0 then 6 else 0) = Pl.cr (g j 0) (-100) 100 from if_neg h2]
        exact pnf4_s n c g e opn sz ro j (by omega) (by omega) h2 (pn_ret_s n c g e opn sz ro j ⟨by omega, hn⟩ hj h4 h2)
def kRCP : CallS := fun f xs s q => match decide (f = 18) with
  | true => match xs.toList with
    | [.slice (some ⟨b, 0, none⟩) n c] => match Nat.ble 6 b, rowK 1 .i64 s b n with
      | true, some (g, _, _, _, _, p) => some (.int .i64 (cpV n g), s, 2 ^ b, 0, ⟨q.rest, q.ob ∧ (p ∧ ((n : Int) ≤ 9223372036854775807))⟩)
      | _, _ => none
    | _ => none
  | false => none
theorem kRCP_ok : FOkS Tryz.prog kRCP := fun f xs s q u s1 R W q1 he => by
  unfold kRCP at he
  split at he
  · rename_i hf
    have hf := of_decide_eq_true hf
    subst hf
    split at he
    · rename_i b n c hx0
      split at he
      · rename_i g e opn sz ro p hb hr
        have hb := Nat.le_of_ble_eq_true hb
        have hxs : xs = #[.slice (some ⟨b, 0, none⟩) n c] := by apply Array.ext'; exact hx0
        subst hxs
        cases he
        refine ⟨fun hq => hq.1, fun hq => ?_⟩
        obtain ⟨hp, hx⟩ := hq.2
        obtain ⟨l1, w1⟩ := rowK_wo hr hp
        exact SndF.row (N := 6) sng (rcpo_sndF n c g e opn sz ro hx) rfl hb l1 w1 (fun f _ hf => wvs_one (slice_wv hf))
      · cases he
    · cases he
  · cases he
end
end Go.Proofs.YtbkpnhbcihcgaaaGreatDoor
end
section
set_option linter.all false
set_option maxRecDepth 1000000
open Go.RowKit
namespace Go.Proofs.YtbkpnhbcihcgaaaGreatDoor
open Mini
noncomputable section
variable (n : Nat) (c : Nat) (g : GI) (e : TypeId) (opn : Bool) (sz : Nat) (ro : Bool) (i10 : Nat) (jj : Nat)
noncomputable def efX : Code := loopAt Tryz.prog 115 0
noncomputable def efK : CallS := kAll [c_range, c_rrange, c_index]
def efA (g : GI) (e : TypeId) (opn : Bool) (sz : Nat) (ro : Bool) (i10 : Nat) : MA := MA.ofL 21 (jl [.chan none, .func (.func 122) #[] #[]] 6 (jl [.slice (some ⟨6, 0, none⟩) n c, .int .i64 ((n : Nat) : Int), .int .i64 ((i10 : Nat) : Int)] 10 [])) []
abbrev zd0 : List MObj := [.rows n 1 (fun i j => .int .i64 (g i j)) e opn sz ro]
def efL (c : Nat) (g : GI) (e : TypeId) (opn : Bool) (sz : Nat) (ro : Bool) (i10 : Nat) : List MObj := (zd0 n g e opn sz ro)
noncomputable def efr0 : Option OutCS := evK Tryz.prog efK 1000 false efX (efA n c g e opn sz ro i10) (wS 6 (efL n c g e opn sz ro i10)) ⟨[1, .row i10 0, .row i10 0, 0, .azz (.int .i64 ((i10 + 1 : Nat) : Int))], True⟩
noncomputable def efr1 : Option OutCS := evK Tryz.prog efK 1000 false efX (efA n c g e opn sz ro i10) (wS 6 (efL n c g e opn sz ro i10)) ⟨[1, .row i10 0, .row i10 0, 1], True⟩
abbrev zd1 := Pl.cr (g i10 0) (-1000 : Int) (1000 : Int)
def efr1E (n : Nat) (c : Nat) (g : GI) (e : TypeId) (opn : Bool) (sz : Nat) (ro : Bool) (i10 : Nat) : MA := MA.ofL 21 (jl [] 4 (jl [.int .i64 (zd1 g i10)] 16 [])) []
noncomputable def efr2 : Option OutCS := evK Tryz.prog efK 1000 false efX (efA n c g e opn sz ro i10) (wS 6 (efL n c g e opn sz ro i10)) ⟨[0], True⟩
def efr2E (n : Nat) (c : Nat) (g : GI) (e : TypeId) (opn : Bool) (sz : Nat) (ro : Bool) (i10 : Nat) : MA := MA.ofL 21 (jl [] 21 []) []
def efArgs (g : GI) (e : TypeId) (opn : Bool) (sz : Nat) (ro : Bool) : Array Value := #[.slice (some ⟨6, 0, none⟩) n c, .func (.func 122) #[] #[]]
def efS (c : Nat) (g : GI) (e : TypeId) (opn : Bool) (sz : Nat) (ro : Bool) : List MObj := (zd0 n g e opn sz ro)
noncomputable abbrev zd2 := bodyOf Tryz.prog 115
noncomputable abbrev zd3 := startM Tryz.f115 (efArgs n c g e opn sz ro)
noncomputable def eff0 : Option OutCS := evK Tryz.prog efK 1000 false zd2 (zd3 n c g e opn sz ro) (wS 6 (efS n c g e opn sz ro)) ⟨[.lp 1794 (efA n c g e opn sz ro 0) 6 (efL n c g e opn sz ro 0) .ret (efr1E n c g e opn sz ro jj) (zd0 n g e opn sz ro) 7 0], True⟩
noncomputable def eff1 : Option OutCS := evK Tryz.prog efK 1000 false zd2 (zd3 n c g e opn sz ro) (wS 6 (efS n c g e opn sz ro)) ⟨[.lp 1794 (efA n c g e opn sz ro 0) 6 (efL n c g e opn sz ro 0) (.exit 0) (efr2E n c g e opn sz ro n) (zd0 n g e opn sz ro) 7 0], True⟩
theorem efK_ok : FOkS Tryz.prog efK := kAll_ok _ ⟨k_range, k_rrange, k_index, trivial⟩
abbrev zd4 := decide ((((i10 : Nat)) : Int) < (((n : Nat)) : Int))
abbrev zd5 := (((True ∧ ((zd4 n i10) = true)) ∧ (((((i10 : Nat)) : Int) = (Int.ofNat i10)) ∧ (i10 < n))) ∧ (((0 + (i10 * 1)) = ((i10 * 1) + 0)) ∧ (i10 < n))) ∧ True
abbrev zd6 := (Pl.cr (g i10 0) (- (1000 : Int)) (1000 : Int)) != (0 : Int)
theorem efr0_eq : seenK 6 1 [] 1794 0 (efr0 n c g e opn sz ro i10) = some (.normal, efA n c g e opn sz ro (i10 + 1), (zd0 n g e opn sz ro), 0, ⟨[], (((zd5 n i10) ∧ ((zd6 g i10) = false)) ∧ (((.int .i64 (IntKind.i64.wrap ((((i10 : Nat)) : Int) + (1 : Int)))) : Value) = (.int .i64 ((((i10 + 1) : Nat)) : Int))))⟩) := by kernel_rfl
theorem efr0_k (hx : (n : Int) ≤ 9223372036854775807) (h0 : ((i10 : Nat) : Int) < ((n : Nat) : Int)) (h1 : (zd1 g i10) = (0 : Int)) : KC Tryz.prog none efX (efA n c g e opn sz ro i10).act (wS 6 (efL n c g e opn sz ro i10)) .normal (efA n c g e opn sz ro (i10 + 1)).act (wS 6 (efL n c g e opn sz ro (i10 + 1))) 7 0 :=
  seenK_ok smx efK_ok sng (efr0_eq n c g e opn sz ro i10) kq
theorem efr1_eq : seenK 6 1 [] 16 0 (efr1 n c g e opn sz ro i10) = some (.ret, efr1E n c g e opn sz ro i10, (zd0 n g e opn sz ro), 0, ⟨[], ((zd5 n i10) ∧ ((zd6 g i10) = true))⟩) := by kernel_rfl
abbrev zd7 := wS 6 (zd0 n g e opn sz ro)
theorem efr1_k (hx : (n : Int) ≤ 9223372036854775807) (h0 : ((i10 : Nat) : Int) < ((n : Nat) : Int)) (h1 : (zd1 g i10) ≠ (0 : Int)) : KC Tryz.prog none efX (efA n c g e opn sz ro i10).act (wS 6 (efL n c g e opn sz ro i10)) .ret (efr1E n c g e opn sz ro i10).act (zd7 n g e opn sz ro) 7 0 :=
  seenK_ok smx efK_ok sng (efr1_eq n c g e opn sz ro i10) kq
theorem efr2_eq : seenK 6 1 [] 0 0 (efr2 n c g e opn sz ro i10) = some ((.exit 0), efr2E n c g e opn sz ro i10, (zd0 n g e opn sz ro), 0, ⟨[], (True ∧ ((zd4 n i10) = false))⟩) := by kernel_rfl
theorem efr2_k (hx : (n : Int) ≤ 9223372036854775807) (h0 : ¬ ((i10 : Nat) : Int) < ((n : Nat) : Int)) : KC Tryz.prog none efX (efA n c g e opn sz ro i10).act (wS 6 (efL n c g e opn sz ro i10)) (.exit 0) (efr2E n c g e opn sz ro i10).act (zd7 n g e opn sz ro) 7 0 :=
  seenK_ok smx efK_ok sng (efr2_eq n c g e opn sz ro i10) kq
abbrev zd8 := Pl.cr (g jj 0) (-1000 : Int) (1000 : Int)
theorem ef_ret (hx : (n : Int) ≤ 9223372036854775807) (hj : jj < n) (h1 : ∀ i, i < jj → (Pl.cr (g i 0) (-1000 : Int) (1000 : Int)) = 0) (h2 : (zd8 g jj) ≠ 0) : KC Tryz.prog none (.loop efX) (efA n c g e opn sz ro 0).act (wS 6 (efL n c g e opn sz ro 0)) .ret (efr1E n c g e opn sz ro jj).act (zd7 n g e opn sz ro) 7 0 := by
  exact K_rounds (A := fun i => (efA n c g e opn sz ro i).act) (S := fun i => wS 6 (efL n c g e opn sz ro i)) (jj) (fun i hi => efr0_k n c g e opn sz ro i hx (by omega) (h1 i hi)) (efr1_k n c g e opn sz ro jj hx (by omega) h2) (by simp)
theorem ef_all  (hx : (n : Int) ≤ 9223372036854775807) (h1 : ∀ i, i < n → (Pl.cr (g i 0) (-1000 : Int) (1000 : Int)) = 0) : KC Tryz.prog none (.loop efX) (efA n c g e opn sz ro 0).act (wS 6 (efL n c g e opn sz ro 0)) (.exit 0) (efr2E n c g e opn sz ro n).act (zd7 n g e opn sz ro) 7 0 := by
  exact K_rounds (A := fun i => (efA n c g e opn sz ro i).act) (S := fun i => wS 6 (efL n c g e opn sz ro i)) (n) (fun i hi => efr0_k n c g e opn sz ro i hx (by omega) (h1 i hi)) (efr2_k n c g e opn sz ro n hx (by omega)) (by simp)
abbrev zd9 := HAppend.hAppend (List.replicate (6 : Nat) MObj.hole) (efL n c g e opn sz ro (0 : Nat))
abbrev zd10 := ((efA n c g e opn sz ro (0 : Nat)) = (efA n c g e opn sz ro (0 : Nat))) ∧ ((7 = (6 + 1)) ∧ ((zd9 n c g e opn sz ro) = (zd9 n c g e opn sz ro)))
theorem eff0_eq : seenF' Tryz.prog Tryz.f115 6 1 [] (eff0 n c g e opn sz ro jj) = some (.int .i64 (zd8 g jj), efS n c g e opn sz ro ++ [], ⟨[], (True ∧ ((zd10 n c g e opn sz ro) ∧ KC Tryz.prog none (.loop efX) (efA n c g e opn sz ro 0).act (wS 6 (efL n c g e opn sz ro 0)) .ret (efr1E n c g e opn sz ro jj).act (zd7 n g e opn sz ro) 7 0))⟩) := by kernel_rfl
theorem eff0_s (l0 : KC Tryz.prog none (.loop efX) (efA n c g e opn sz ro 0).act (wS 6 (efL n c g e opn sz ro 0)) .ret (efr1E n c g e opn sz ro jj).act (zd7 n g e opn sz ro) 7 0) : SndF Tryz.prog 115 (efArgs n c g e opn sz ro) (wS 6 (efS n c g e opn sz ro)) (.int .i64 (zd8 g jj)) (wS 6 (efS n c g e opn sz ro)) 64 0 :=
  kF (L := efS n c g e opn sz ro) (L2 := []) (ms := []) efK_ok (eff0_eq n c g e opn sz ro jj) kq
theorem eff1_eq : seenF' Tryz.prog Tryz.f115 6 1 [] (eff1 n c g e opn sz ro) = some (.int .i64 (0 : Int), efS n c g e opn sz ro ++ [], ⟨[], (True ∧ ((zd10 n c g e opn sz ro) ∧ KC Tryz.prog none (.loop efX) (efA n c g e opn sz ro 0).act (wS 6 (efL n c g e opn sz ro 0)) (.exit 0) (efr2E n c g e opn sz ro n).act (zd7 n g e opn sz ro) 7 0))⟩) := by kernel_rfl
theorem eff1_s (l0 : KC Tryz.prog none (.loop efX) (efA n c g e opn sz ro 0).act (wS 6 (efL n c g e opn sz ro 0)) (.exit 0) (efr2E n c g e opn sz ro n).act (zd7 n g e opn sz ro) 7 0) : SndF Tryz.prog 115 (efArgs n c g e opn sz ro) (wS 6 (efS n c g e opn sz ro)) (.int .i64 (0 : Int)) (wS 6 (efS n c g e opn sz ro)) 64 0 :=
  kF (L := efS n c g e opn sz ro) (L2 := []) (ms := []) efK_ok (eff1_eq n c g e opn sz ro) kq
theorem ef_sndF (hn : (n : Int) ≤ 9223372036854775807) : SndF Tryz.prog 115 (efArgs n c g e opn sz ro) (wS 6 (efS n c g e opn sz ro)) (.int .i64 (feN (fun i => (Pl.cr (g i 0) (-1000 : Int) (1000 : Int))) n 0)) (wS 6 (efS n c g e opn sz ro)) 64 0 := by
  rcases first_or (p := fun i => (Pl.cr (g i 0) (-1000 : Int) (1000 : Int)) ≠ 0) (fun _ => inferInstance) n with h2 | ⟨j, hj, h2, h3⟩
  · have h4 : ∀ i, i < n → (Pl.cr (g i 0) (-1000 : Int) (1000 : Int)) = 0 := fun i hi => Decidable.not_not.1 (h2 i hi)
    rw [feN_all fun k _ hk => h4 k (by omega)]
    exact eff1_s n c g e opn sz ro (ef_all n c g e opn sz ro hn h4)
  · have h4 : ∀ i, i < j → (Pl.cr (g i 0) (-1000 : Int) (1000 : Int)) = 0 := fun i hi => Decidable.not_not.1 (h3 i hi)
    rw [feN_first (Nat.zero_le j) (by omega) (fun k _ hk => h4 k hk) h2]
    exact eff0_s n c g e opn sz ro j (ef_ret n c g e opn sz ro j hn hj h4 h2)
def kEF : CallS := fun f xs s q => match decide (f = 115) with
  | true => match xs.toList with
    | [.slice (some ⟨b, 0, none⟩) n c, .func (.func hh) ⟨la⟩ ⟨lb⟩] => match decide (hh = 122), la, lb, Nat.ble 6 b, rowK 1 .i64 s b n with
      | true, [], [], true, some (g, _, _, _, _, p) => some (.int .i64 (feN (fun i => (Pl.cr (g i 0) (-1000 : Int) (1000 : Int))) n 0), s, 2 ^ b, 0, ⟨q.rest, q.ob ∧ (p ∧ ((n : Int) ≤ 9223372036854775807))⟩)
      | _, _, _, _, _ => none
    | _ => none
  | false => none
theorem kEF_ok : FOkS Tryz.prog kEF := fun f xs s q u s1 R W q1 he => by
  unfold kEF at he
  split at he
  · rename_i hf
    have hf := of_decide_eq_true hf
    subst hf
    split at he
    · rename_i b n c hh la lb hx0
      split at he
      · rename_i g e opn sz ro p hb0 hb hr
        have hb := Nat.le_of_ble_eq_true hb
        have hh0 := of_decide_eq_true hb0
        subst hh0
        have hxs : xs = #[.slice (some ⟨b, 0, none⟩) n c, .func (.func 122) #[] #[]] := by apply Array.ext'; exact hx0
        subst hxs
        cases he
        refine ⟨fun hq => hq.1, fun hq => ?_⟩
        obtain ⟨hp, hx⟩ := hq.2
        obtain ⟨l1, w1⟩ := rowK_wo hr hp
        exact SndF.row (N := 6) sng (ef_sndF n c g e opn sz ro hx) (by kernel_rfl) hb l1 w1 (fun f _ hf => wvs_two (slice_wv hf) (ground_wv (n := 8) rfl))
      · cases he
    · cases he
  · cases he
end
end Go.Proofs.YtbkpnhbcihcgaaaGreatDoor
end
section
set_option linter.all false
set_option maxRecDepth 1000000
open Go.RowKit
namespace Go.Proofs.YtbkpnhbcihcgaaaGreatDoor
open Mini
noncomputable section
variable (y : SV) (a0 : Int) (a1 : Int) (a2 : Int) (v0 : Int) (u0 : Int) (w0 : Int) (mm : Nat) (jj : Nat) (i : Nat)
abbrev zn0 := IntKind.i64.wrap ((0 : Int) + (IntKind.i64.wrap (w0 * v0)))
def st1RR (y : SV) (a0 : Int) (a1 : Int) (a2 : Int) (v0 : Int) (u0 : Int) (w0 : Int) : Nat → Nat → Nat → Int
  | 0 => (fun i j => ([v0, (zn0 v0 w0)] : List Int).getD (i * 1 + j) 0)
  | q + 1 => pushI (q + 2) (st1RR y a0 a1 a2 v0 u0 w0 q) [(IntKind.i64.wrap ((0 : Int) + (IntKind.i64.wrap (w0 * ((st1RR y a0 a1 a2 v0 u0 w0 q) (q + 1) 0)))))]
def st1EE : Nat → Int
  | 0 => (zn0 v0 w0)
  | q + 1 => (IntKind.i64.wrap ((0 : Int) + (IntKind.i64.wrap (w0 * ((st1RR y a0 a1 a2 v0 u0 w0 q) (q + 1) 0)))))
def st1AA : MA := match i with
  | 0 => st1A y a0 a1 a2 v0 u0 w0
  | q + 1 => st1A1 y a0 a1 a2 v0 u0 w0 q (q + 1) (st1RR y a0 a1 a2 v0 u0 w0 q)
def st1LL : List MObj := match i with
  | 0 => st1L y a0 a1 a2 v0 u0 w0
  | q + 1 => st1L1 y a0 a1 a2 v0 u0 w0 q (q + 1) (st1RR y a0 a1 a2 v0 u0 w0 q)
abbrev zn1 := feN (fun i => Pl.cr (y.h i 0) (-1000) 1000) 1 0
abbrev zn2 := Pl.cr y.x (0 : Int) (24 : Int)
abbrev zn3 := IntKind.i64.wrap ((0 : Int) - (IntKind.i64.wrap ((y.g 0 0) * (1 : Int))))
def st1F : Nat → Nat → Nat → Int := st1RR y (cpV 2 y.g) (zn1 y) (zn2 y) (IntKind.i64.wrap ((y.h 0 0) * (1 : Int))) (IntKind.i64.wrap ((y.g 0 0) * (1 : Int))) (zn3 y)
noncomputable def st1FK : CallS := bothX kCP (bothX kEF (kAll [c_range, c_rrange, c_index]))
def st1Args : Array Value := #[.slice (some ⟨6, 0, none⟩) 2 y.c, .slice (some ⟨7, 0, none⟩) 1 y.c2, .int .i64 y.x]
def st1S : List MObj := [.rows 2 1 (fun i j => .int .i64 (y.g i j)) y.e y.opn y.sz y.ro, .rows 1 1 (fun i j => .int .i64 (y.h i j)) y.e2 y.opn2 y.sz2 y.ro2]
noncomputable abbrev zn4 := bodyOf Tryz.prog 50
noncomputable abbrev zn5 := startM Tryz.f50 (st1Args y)
abbrev zn6 := st1A y (cpV 2 y.g) (zn1 y) (zn2 y) (IntKind.i64.wrap ((y.h 0 0) * (1 : Int))) (IntKind.i64.wrap ((y.g 0 0) * (1 : Int))) (zn3 y)
abbrev zn7 := st1L y (cpV 2 y.g) (zn1 y) (zn2 y) (IntKind.i64.wrap ((y.h 0 0) * (1 : Int))) (IntKind.i64.wrap ((y.g 0 0) * (1 : Int))) (zn3 y)
abbrev zn8 := st1r2E y (cpV 2 y.g) (zn1 y) (zn2 y) (IntKind.i64.wrap ((y.h 0 0) * (1 : Int))) (IntKind.i64.wrap ((y.g 0 0) * (1 : Int))) (zn3 y)
abbrev zn9 : List MObj := [.rows 2 1 (fun i j => .int .i64 (y.g i j)) y.e y.opn y.sz y.ro, .rows 1 1 (fun i j => .int .i64 (y.h i j)) y.e2 y.opn2 y.sz2 y.ro2, .cells [.int .i64 (cpV 2 y.g), .int .i64 (zn1 y), .int .i64 (zn2 y)] 26 false 0 false, .cells [.int .i64 (IntKind.i64.wrap ((y.h 0 0) * (1 : Int)))] 3 false 0 false, .cells [.int .i64 (IntKind.i64.wrap ((y.g 0 0) * (1 : Int)))] 155 false 0 false, .cells [.int .i64 (zn3 y)] 155 false 0 false]
noncomputable def st1f0 : Option OutCS := evK Tryz.prog st1FK 1000 false zn4 (zn5 y) (wS 6 (st1S y)) ⟨[0, 0, 1, 0, 0, 1, 1, 0, 1, 2, 0, 0, 0, 1, .row 0 0, .row 0 0, .row 1 0, .row 1 0, 0, 0, 0, 1, .row 0 0, .row 0 0, .row 1 0, .row 1 0, 0, 0, 0, 1, 0, 0, 0, .lp 25769805312 (zn6 y) 6 (zn7 y) (.exit 0) (zn8 y) (zn9 y) 12 4096], True⟩
abbrev zn10 := st1r5E y (cpV 2 y.g) (zn1 y) (zn2 y) (IntKind.i64.wrap ((y.h 0 0) * (1 : Int))) (IntKind.i64.wrap ((y.g 0 0) * (1 : Int))) (zn3 y) mm (mm + 1) (st1F y mm)
abbrev zn11 : List MObj := [.rows 2 1 (fun i j => .int .i64 (y.g i j)) y.e y.opn y.sz y.ro, .rows 1 1 (fun i j => .int .i64 (y.h i j)) y.e2 y.opn2 y.sz2 y.ro2, .cells [.int .i64 (cpV 2 y.g), .int .i64 (zn1 y), .int .i64 (zn2 y)] 26 false 0 false, .cells [.int .i64 (IntKind.i64.wrap ((y.h 0 0) * (1 : Int)))] 3 false 0 false, .cells [.int .i64 (IntKind.i64.wrap ((y.g 0 0) * (1 : Int)))] 155 false 0 false, .cells [.int .i64 (zn3 y)] 155 false 0 false, .rows (mm + 2) 1 (fun i j => .int .i64 ((st1F y mm) i j)) 3 true 1 false]
noncomputable def st1f1 : Option OutCS := evK Tryz.prog st1FK 1000 false zn4 (zn5 y) (wS 6 (st1S y)) ⟨[0, 0, 1, 0, 0, 1, 1, 0, 1, 2, 0, 0, 0, 1, .row 0 0, .row 0 0, .row 1 0, .row 1 0, 0, 0, 0, 1, .row 0 0, .row 0 0, .row 1 0, .row 1 0, 0, 0, 0, 1, 0, 0, 0, .lp 25769805312 (zn6 y) 6 (zn7 y) (.exit 0) (zn10 y mm) (zn11 y mm) 12 4096], True⟩
abbrev zn12 := st1r1E y (cpV 2 y.g) (zn1 y) (zn2 y) (IntKind.i64.wrap ((y.h 0 0) * (1 : Int))) (IntKind.i64.wrap ((y.g 0 0) * (1 : Int))) (zn3 y)
noncomputable def st1f2 : Option OutCS := evK Tryz.prog st1FK 1000 false zn4 (zn5 y) (wS 6 (st1S y)) ⟨[0, 0, 1, 0, 0, 1, 1, 0, 1, 2, 0, 0, 0, 1, .row 0 0, .row 0 0, .row 1 0, .row 1 0, 0, 0, 0, 1, .row 0 0, .row 0 0, .row 1 0, .row 1 0, 0, 0, 0, 1, 0, 0, 0, .lp 25769805312 (zn6 y) 6 (zn7 y) .ret (zn12 y) (zn9 y) 12 4096], True⟩
abbrev zn13 := st1r4E y (cpV 2 y.g) (zn1 y) (zn2 y) (IntKind.i64.wrap ((y.h 0 0) * (1 : Int))) (IntKind.i64.wrap ((y.g 0 0) * (1 : Int))) (zn3 y) jj (jj + 1) (st1F y jj)
noncomputable def st1f3 : Option OutCS := evK Tryz.prog st1FK 1000 false zn4 (zn5 y) (wS 6 (st1S y)) ⟨[0, 0, 1, 0, 0, 1, 1, 0, 1, 2, 0, 0, 0, 1, .row 0 0, .row 0 0, .row 1 0, .row 1 0, 0, 0, 0, 1, .row 0 0, .row 0 0, .row 1 0, .row 1 0, 0, 0, 0, 1, 0, 0, 0, .lp 25769805312 (zn6 y) 6 (zn7 y) .ret (zn13 y jj) (zn9 y) 12 4096], True⟩
noncomputable def st1f4 : Option OutCS := evK Tryz.prog st1FK 1000 false zn4 (zn5 y) (wS 6 (st1S y)) ⟨[0, 0, 1, 0, 0, 1, 1, 0, 1, 2, 1, 1], True⟩
noncomputable def st1f5 : Option OutCS := evK Tryz.prog st1FK 1000 false zn4 (zn5 y) (wS 6 (st1S y)) ⟨[0, 0, 1, 0, 0, 1, 1, 1, 1], True⟩
noncomputable def st1f6 : Option OutCS := evK Tryz.prog st1FK 1000 false zn4 (zn5 y) (wS 6 (st1S y)) ⟨[0, 0, 1, 0, 1, 1], True⟩
theorem st1_go (hi : ((i : Nat) : Int) < y.x) (hb : i ≤ 1000) (h1 : Pl.cr (st1EE y a0 a1 a2 v0 u0 w0 i) (-1073741824 : Int) (1073741824 : Int) = 0) : KC Tryz.prog none st1X (st1AA y a0 a1 a2 v0 u0 w0 i).act (wS 6 (st1LL y a0 a1 a2 v0 u0 w0 i)) .normal (st1AA y a0 a1 a2 v0 u0 w0 (i + 1)).act (wS 6 (st1LL y a0 a1 a2 v0 u0 w0 (i + 1))) 12 4096 := by
  cases i with
  | zero => exact st1r0_k y a0 a1 a2 v0 u0 w0 hi h1
  | succ q => exact st1r3_k y a0 a1 a2 v0 u0 w0 q (q + 1) (st1RR y a0 a1 a2 v0 u0 w0 q) rfl (by omega) hi h1
abbrev zn14 := wS 6 [.rows 2 1 (fun i j => .int .i64 (y.g i j)) y.e y.opn y.sz y.ro, .rows 1 1 (fun i j => .int .i64 (y.h i j)) y.e2 y.opn2 y.sz2 y.ro2, .cells [.int .i64 a0, .int .i64 a1, .int .i64 a2] 26 false 0 false, .cells [.int .i64 v0] 3 false 0 false, .cells [.int .i64 u0] 155 false 0 false, .cells [.int .i64 w0] 155 false 0 false]
theorem st1_l0 (hz : ¬ (0 : Int) < y.x) : KC Tryz.prog none (.loop st1X) (st1A y a0 a1 a2 v0 u0 w0).act (wS 6 (st1L y a0 a1 a2 v0 u0 w0)) (.exit 0) (st1r2E y a0 a1 a2 v0 u0 w0).act (zn14 y a0 a1 a2 v0 u0 w0) 12 4096 :=
  K_rounds (A := fun i => (st1AA y a0 a1 a2 v0 u0 w0 i).act) (S := fun i => wS 6 (st1LL y a0 a1 a2 v0 u0 w0 i)) 0 (fun i hi => absurd hi (Nat.not_lt_zero i)) (st1r2_k y a0 a1 a2 v0 u0 w0 hz) (by simp)
theorem st1_l1 (hm : y.x = ((mm + 1 : Nat) : Int)) (hb : mm ≤ 900) (h1 : ∀ i, i < mm + 1 → Pl.cr (st1EE y a0 a1 a2 v0 u0 w0 i) (-1073741824 : Int) (1073741824 : Int) = 0) : KC Tryz.prog none (.loop st1X) (st1A y a0 a1 a2 v0 u0 w0).act (wS 6 (st1L y a0 a1 a2 v0 u0 w0)) (.exit 0) (st1r5E y a0 a1 a2 v0 u0 w0 mm (mm + 1) (st1RR y a0 a1 a2 v0 u0 w0 mm)).act (wS 6 [.rows 2 1 (fun i j => .int .i64 (y.g i j)) y.e y.opn y.sz y.ro, .rows 1 1 (fun i j => .int .i64 (y.h i j)) y.e2 y.opn2 y.sz2 y.ro2, .cells [.int .i64 a0, .int .i64 a1, .int .i64 a2] 26 false 0 false, .cells [.int .i64 v0] 3 false 0 false, .cells [.int .i64 u0] 155 false 0 false, .cells [.int .i64 w0] 155 false 0 false, .rows (mm + 2) 1 (fun i j => .int .i64 ((st1RR y a0 a1 a2 v0 u0 w0 mm) i j)) 3 true 1 false]) 12 4096 :=
  K_rounds (A := fun i => (st1AA y a0 a1 a2 v0 u0 w0 i).act) (S := fun i => wS 6 (st1LL y a0 a1 a2 v0 u0 w0 i)) (mm + 1) (fun i hi => st1_go y a0 a1 a2 v0 u0 w0 i (by omega) (by omega) (h1 i hi)) (st1r5_k y a0 a1 a2 v0 u0 w0 mm (mm + 1) (st1RR y a0 a1 a2 v0 u0 w0 mm) rfl (by omega) (by omega)) (by simp)
theorem st1_b0 (hz : (0 : Int) < y.x) (h2 : Pl.cr (st1EE y a0 a1 a2 v0 u0 w0 0) (-1073741824 : Int) (1073741824 : Int) ≠ 0) : KC Tryz.prog none (.loop st1X) (st1A y a0 a1 a2 v0 u0 w0).act (wS 6 (st1L y a0 a1 a2 v0 u0 w0)) .ret (st1r1E y a0 a1 a2 v0 u0 w0).act (zn14 y a0 a1 a2 v0 u0 w0) 12 4096 :=
  K_rounds (A := fun i => (st1AA y a0 a1 a2 v0 u0 w0 i).act) (S := fun i => wS 6 (st1LL y a0 a1 a2 v0 u0 w0 i)) 0 (fun i hi => absurd hi (Nat.not_lt_zero i)) (st1r1_k y a0 a1 a2 v0 u0 w0 hz h2) (by simp)
theorem st1_b1 (hj : ((jj + 1 : Nat) : Int) < y.x) (hb : jj ≤ 900) (h1 : ∀ i, i < jj + 1 → Pl.cr (st1EE y a0 a1 a2 v0 u0 w0 i) (-1073741824 : Int) (1073741824 : Int) = 0) (h2 : Pl.cr (st1EE y a0 a1 a2 v0 u0 w0 (jj + 1)) (-1073741824 : Int) (1073741824 : Int) ≠ 0) : KC Tryz.prog none (.loop st1X) (st1A y a0 a1 a2 v0 u0 w0).act (wS 6 (st1L y a0 a1 a2 v0 u0 w0)) .ret (st1r4E y a0 a1 a2 v0 u0 w0 jj (jj + 1) (st1RR y a0 a1 a2 v0 u0 w0 jj)).act (zn14 y a0 a1 a2 v0 u0 w0) 12 4096 :=
  K_rounds (A := fun i => (st1AA y a0 a1 a2 v0 u0 w0 i).act) (S := fun i => wS 6 (st1LL y a0 a1 a2 v0 u0 w0 i)) (jj + 1) (fun i hi => st1_go y a0 a1 a2 v0 u0 w0 i (by omega) (by omega) (h1 i hi)) (st1r4_k y a0 a1 a2 v0 u0 w0 jj (jj + 1) (st1RR y a0 a1 a2 v0 u0 w0 jj) rfl (by omega) hj h2) (by simp)
theorem st1FK_ok : FOkS Tryz.prog st1FK := bothX_ok kCP_ok (bothX_ok kEF_ok (kAll_ok _ ⟨k_range, k_rrange, k_index, trivial⟩))
abbrev zn15 : List MObj := [.cells [.int .i64 (IntKind.i64.wrap ((y.h 0 0) * (1 : Int)))] 3 false 0 false]
abbrev zn16 := (((2 : Nat)) : Int) - (1 : Int)
abbrev zn17 := (0 : Int) = (Int.ofNat 0)
abbrev zn18 := ((((((True ∧ (((2 = 2) ∧ (∀ (i : Nat), ((i < (2 : Nat)) → (∀ (j : Nat), ((j < (1 : Nat)) → ((Value.int .i64 (y.g i j)) = (Value.int .i64 (gI (Value.int .i64 (y.g i j)))))))))) ∧ ((((2 : Nat)) : Int) ≤ (9223372036854775807 : Int)))) ∧ (((IntKind.i64.wrap zn16) == (0 : Int)) = false)) ∧ (((((1 : Nat)) : Int) != (IntKind.i64.wrap zn16)) = false)) ∧ (((1 = 1) ∧ (∀ (i : Nat), ((i < (1 : Nat)) → (∀ (j : Nat), ((j < (1 : Nat)) → ((Value.int .i64 (y.h i j)) = (Value.int .i64 (gI (Value.int .i64 (y.h i j)))))))))) ∧ ((((1 : Nat)) : Int) ≤ (9223372036854775807 : Int)))) ∧ True) ∧ ((decide ((0 : Int) < (((3 : Nat)) : Int))) = true)) ∧ zn17
abbrev zn19 := (cpV (2 : Nat) (fun (i : Nat) => (fun (j : Nat) => (gI (Value.int .i64 (y.g i j)))))) != (0 : Int)
abbrev zn20 := (((zn18 y) ∧ ((zn19 y) = false)) ∧ ((decide ((IntKind.i64.wrap ((0 : Int) + (1 : Int))) < (((3 : Nat)) : Int))) = true)) ∧ ((IntKind.i64.wrap ((0 : Int) + (1 : Int))) = (Int.ofNat 1))
abbrev zn21 := (feN (fun (i : Nat) => (Pl.cr (gI (Value.int .i64 (y.h i 0))) (- (1000 : Int)) (1000 : Int))) (1 : Nat) (0 : Nat)) != (0 : Int)
abbrev zn22 := IntKind.i64.wrap ((IntKind.i64.wrap ((0 : Int) + (1 : Int))) + (1 : Int))
abbrev zn23 := (((zn20 y) ∧ ((zn21 y) = false)) ∧ ((decide (zn22 < (((3 : Nat)) : Int))) = true)) ∧ (zn22 = (Int.ofNat 2))
abbrev zn24 := (zn2 y) != (0 : Int)
abbrev zn25 := (decide ((0 : Int) < (((1 : Nat)) : Int))) = true
abbrev zn26 := (0 : Int) = (Int.ofNat (0 : Nat))
abbrev zn27 := ((IntKind.i64.wrap zn16) = (Int.ofNat (1 : Nat))) ∧ ((1 : Nat) < (2 : Nat))
abbrev zn28 := (1 = 1) ∧ ((1 : Nat) < (2 : Nat))
abbrev zn29 := (decide ((IntKind.i64.wrap ((0 : Int) + (1 : Int))) < (((1 : Nat)) : Int))) = false
abbrev zn30 := (((((((((((((((((((((((zn23 y) ∧ ((zn24 y) = false)) ∧ ((decide ((IntKind.i64.wrap (zn22 + (1 : Int))) < (((3 : Nat)) : Int))) = false)) ∧ (((0 : Int) != (0 : Int)) = false)) ∧ zn25) ∧ (zn26 ∧ ((0 : Nat) < (1 : Nat)))) ∧ ((0 = 0) ∧ ((0 : Nat) < (1 : Nat)))) ∧ zn27) ∧ zn28) ∧ ((decide ((0 : Int) < (0 : Int))) = false)) ∧ zn17) ∧ zn29) ∧ ((decide ((0 : Int) < (IntKind.i64.wrap zn16))) = true)) ∧ (zn26 ∧ ((0 : Nat) < (2 : Nat)))) ∧ ((0 = 0) ∧ ((0 : Nat) < (2 : Nat)))) ∧ zn27) ∧ zn28) ∧ ((decide ((0 : Int) < (IntKind.i64.wrap ((IntKind.i64.wrap ((IntKind.i64.wrap zn16) - (0 : Int))) - (1 : Int))))) = false)) ∧ zn17) ∧ ((decide ((IntKind.i64.wrap ((0 : Int) + (1 : Int))) < (IntKind.i64.wrap zn16))) = false)) ∧ zn25) ∧ zn17) ∧ zn17) ∧ zn29
abbrev zn31 := feN (fun (i : Nat) => (Pl.cr (y.h i 0) (- (1000 : Int)) (1000 : Int))) (1 : Nat) (0 : Nat)
abbrev zn32 := st1A y (cpV (2 : Nat) y.g) (zn31 y) (zn2 y) (IntKind.i64.wrap ((y.h 0 0) * (1 : Int))) (IntKind.i64.wrap ((y.g 0 0) * (1 : Int))) (zn3 y)
abbrev zn33 := HAppend.hAppend (List.replicate (6 : Nat) MObj.hole) (st1L y (cpV (2 : Nat) y.g) (zn31 y) (zn2 y) (IntKind.i64.wrap ((y.h 0 0) * (1 : Int))) (IntKind.i64.wrap ((y.g 0 0) * (1 : Int))) (zn3 y))
abbrev zn34 := ((zn32 y) = (zn32 y)) ∧ ((12 = (6 + 6)) ∧ ((zn33 y) = (zn33 y)))
abbrev zn35 := wS 6 (zn7 y)
abbrev zn36 := wS 6 (zn9 y)
theorem st1f0_eq : seenF' Tryz.prog Tryz.f50 6 2 [9] (st1f0 y) = some (.tuple #[.slice (some ⟨8, 0, none⟩) 1 1, .int .i64 (0 : Int)], st1S y ++ (zn15 y), ⟨[], ((zn30 y) ∧ ((zn34 y) ∧ KC Tryz.prog none (.loop st1X) (zn6 y).act (zn35 y) (.exit 0) (zn8 y).act (zn36 y) 12 4096))⟩) := by kernel_rfl
theorem st1f0_s (h0 : (cpV 2 y.g) = (0 : Int)) (h1 : (zn1 y) = (0 : Int)) (h2 : (zn2 y) = (0 : Int)) (l0 : KC Tryz.prog none (.loop st1X) (zn6 y).act (zn35 y) (.exit 0) (zn8 y).act (zn36 y) 12 4096) : SndF Tryz.prog 50 (st1Args y) (wS 6 (st1S y)) (.tuple #[.slice (some ⟨8, 0, none⟩) 1 1, .int .i64 (0 : Int)]) (wS 6 (st1S y ++ (zn15 y))) 192 0 :=
  kF (L := st1S y) (L2 := (zn15 y)) (ms := [9]) st1FK_ok (st1f0_eq y) kq
abbrev zn37 : List MObj := [.rows (mm + 2) 1 (fun i j => .int .i64 ((st1F y mm) i j)) 3 true 1 false]
abbrev zn38 := wS 6 (zn11 y mm)
theorem st1f1_eq : seenF' Tryz.prog Tryz.f50 6 2 [12] (st1f1 y mm) = some (.tuple #[.slice (some ⟨8, 0, none⟩) (mm + 2) (mm + 2), .int .i64 (0 : Int)], st1S y ++ (zn37 y mm), ⟨[], ((zn30 y) ∧ ((zn34 y) ∧ KC Tryz.prog none (.loop st1X) (zn6 y).act (zn35 y) (.exit 0) (zn10 y mm).act (zn38 y mm) 12 4096))⟩) := by kernel_rfl
theorem st1f1_s (h0 : (cpV 2 y.g) = (0 : Int)) (h1 : (zn1 y) = (0 : Int)) (h2 : (zn2 y) = (0 : Int)) (l0 : KC Tryz.prog none (.loop st1X) (zn6 y).act (zn35 y) (.exit 0) (zn10 y mm).act (zn38 y mm) 12 4096) : SndF Tryz.prog 50 (st1Args y) (wS 6 (st1S y)) (.tuple #[.slice (some ⟨8, 0, none⟩) (mm + 2) (mm + 2), .int .i64 (0 : Int)]) (wS 6 (st1S y ++ (zn37 y mm))) 192 0 :=
  kF (L := st1S y) (L2 := (zn37 y mm)) (ms := [12]) st1FK_ok (st1f1_eq y mm) kq
theorem st1f2_eq : seenF' Tryz.prog Tryz.f50 6 2 [] (st1f2 y) = some (.tuple #[.slice none 0 0, .int .i64 (4 : Int)], st1S y ++ [], ⟨[], ((zn30 y) ∧ ((zn34 y) ∧ KC Tryz.prog none (.loop st1X) (zn6 y).act (zn35 y) .ret (zn12 y).act (zn36 y) 12 4096))⟩) := by kernel_rfl
theorem st1f2_s (h0 : (cpV 2 y.g) = (0 : Int)) (h1 : (zn1 y) = (0 : Int)) (h2 : (zn2 y) = (0 : Int)) (l0 : KC Tryz.prog none (.loop st1X) (zn6 y).act (zn35 y) .ret (zn12 y).act (zn36 y) 12 4096) : SndF Tryz.prog 50 (st1Args y) (wS 6 (st1S y)) (.tuple #[.slice none 0 0, .int .i64 (4 : Int)]) (wS 6 (st1S y)) 192 0 :=
  kF (L := st1S y) (L2 := []) (ms := []) st1FK_ok (st1f2_eq y) kq
theorem st1f3_eq : seenF' Tryz.prog Tryz.f50 6 2 [] (st1f3 y jj) = some (.tuple #[.slice none 0 0, .int .i64 (4 : Int)], st1S y ++ [], ⟨[], ((zn30 y) ∧ ((zn34 y) ∧ KC Tryz.prog none (.loop st1X) (zn6 y).act (zn35 y) .ret (zn13 y jj).act (zn36 y) 12 4096))⟩) := by kernel_rfl
theorem st1f3_s (h0 : (cpV 2 y.g) = (0 : Int)) (h1 : (zn1 y) = (0 : Int)) (h2 : (zn2 y) = (0 : Int)) (l0 : KC Tryz.prog none (.loop st1X) (zn6 y).act (zn35 y) .ret (zn13 y jj).act (zn36 y) 12 4096) : SndF Tryz.prog 50 (st1Args y) (wS 6 (st1S y)) (.tuple #[.slice none 0 0, .int .i64 (4 : Int)]) (wS 6 (st1S y)) 192 0 :=
  kF (L := st1S y) (L2 := []) (ms := []) st1FK_ok (st1f3_eq y jj) kq
abbrev zn39 := (zn24 y) = true
theorem st1f4_eq : seenF' Tryz.prog Tryz.f50 6 2 [] (st1f4 y) = some (.tuple #[.slice none 0 0, .int .i64 (zn2 y)], st1S y ++ [], ⟨[], (((zn23 y) ∧ (zn39 y)) ∧ (zn39 y))⟩) := by kernel_rfl
theorem st1f4_s (h0 : (cpV 2 y.g) = (0 : Int)) (h1 : (zn1 y) = (0 : Int)) (h2 : (zn2 y) ≠ (0 : Int)) : SndF Tryz.prog 50 (st1Args y) (wS 6 (st1S y)) (.tuple #[.slice none 0 0, .int .i64 (zn2 y)]) (wS 6 (st1S y)) 192 0 :=
  kF (L := st1S y) (L2 := []) (ms := []) st1FK_ok (st1f4_eq y) kq
abbrev zn40 := (zn21 y) = true
theorem st1f5_eq : seenF' Tryz.prog Tryz.f50 6 2 [] (st1f5 y) = some (.tuple #[.slice none 0 0, .int .i64 (zn1 y)], st1S y ++ [], ⟨[], (((zn20 y) ∧ (zn40 y)) ∧ (zn40 y))⟩) := by kernel_rfl
theorem st1f5_s (h0 : (cpV 2 y.g) = (0 : Int)) (h1 : (zn1 y) ≠ (0 : Int)) : SndF Tryz.prog 50 (st1Args y) (wS 6 (st1S y)) (.tuple #[.slice none 0 0, .int .i64 (zn1 y)]) (wS 6 (st1S y)) 192 0 :=
  kF (L := st1S y) (L2 := []) (ms := []) st1FK_ok (st1f5_eq y) kq
abbrev zn41 := (zn19 y) = true
theorem st1f6_eq : seenF' Tryz.prog Tryz.f50 6 2 [] (st1f6 y) = some (.tuple #[.slice none 0 0, .int .i64 (cpV 2 y.g)], st1S y ++ [], ⟨[], (((zn18 y) ∧ (zn41 y)) ∧ (zn41 y))⟩) := by kernel_rfl
theorem st1f6_s (h0 : (cpV 2 y.g) ≠ (0 : Int)) : SndF Tryz.prog 50 (st1Args y) (wS 6 (st1S y)) (.tuple #[.slice none 0 0, .int .i64 (cpV 2 y.g)]) (wS 6 (st1S y)) 192 0 :=
  kF (L := st1S y) (L2 := []) (ms := []) st1FK_ok (st1f6_eq y) kq
end
end Go.Proofs.YtbkpnhbcihcgaaaGreatDoor
end
section
set_option linter.all false
set_option maxRecDepth 1000000
open Go.RowKit
namespace Go.Proofs.YtbkpnhbcihcgaaaGreatDoor
open Mini
noncomputable section
variable (y : SV) (a0 : Int) (a1 : Int) (g3 : GI) (m11 : Nat) (i12 : Nat)
noncomputable def rt1X : Code := loopAt Tryz.prog 52 0
noncomputable def rt1K : CallS := kAll [c_range, c_rrange, c_index]
def rt1A (a0 : Int) (a1 : Int) : MA := MA.ofL 102 (jl [.slice (some ⟨6, 0, none⟩) 2 y.c, .slice (some ⟨7, 0, none⟩) 1 y.c2, .int .i64 y.x] 6 (jl [.int .i64 (1 : Int), .chan none, .slice none 0 0, .int .i64 (0 : Int)] 89 [])) []
abbrev zj0 : List MObj := [.rows 2 1 (fun i j => .int .i64 (y.g i j)) y.e y.opn y.sz y.ro, .rows 1 1 (fun i j => .int .i64 (y.h i j)) y.e2 y.opn2 y.sz2 y.ro2, .cells [.int .i64 a0, .int .i64 a1] 3 false 0 false]
def rt1L : List MObj := (zj0 y a0 a1)
def rt1A1 (a0 : Int) (a1 : Int) (g3 : GI) : MA := MA.ofL 102 (jl [.slice (some ⟨6, 0, none⟩) 2 y.c, .slice (some ⟨7, 0, none⟩) 1 y.c2, .int .i64 y.x] 6 (jl [.int .i64 (1 : Int), .chan none, .slice (some ⟨9, 0, none⟩) 1 1, .int .i64 (1 : Int)] 89 [])) []
abbrev zj1 : List MObj := [.rows 2 1 (fun i j => .int .i64 (y.g i j)) y.e y.opn y.sz y.ro, .rows 1 1 (fun i j => .int .i64 (y.h i j)) y.e2 y.opn2 y.sz2 y.ro2, .cells [.int .i64 a0, .int .i64 a1] 3 false 0 false, .rows 1 1 (fun i j => .int .i64 (g3 i j)) 3 true 1 false]
def rt1L1 : List MObj := (zj1 y a0 a1 g3)
def rt1A2 (a0 : Int) (a1 : Int) (g3 : GI) (m11 : Nat) (i12 : Nat) : MA := MA.ofL 102 (jl [.slice (some ⟨6, 0, none⟩) 2 y.c, .slice (some ⟨7, 0, none⟩) 1 y.c2, .int .i64 y.x] 6 (jl [.int .i64 (1 : Int), .chan none, .slice (some ⟨9, 0, none⟩) (m11 + 2) (m11 + 2), .int .i64 ((i12 + 2 : Nat) : Int)] 89 [])) []
abbrev zj2 : List MObj := [.rows 2 1 (fun i j => .int .i64 (y.g i j)) y.e y.opn y.sz y.ro, .rows 1 1 (fun i j => .int .i64 (y.h i j)) y.e2 y.opn2 y.sz2 y.ro2, .cells [.int .i64 a0, .int .i64 a1] 3 false 0 false, .rows (m11 + 2) 1 (fun i j => .int .i64 (g3 i j)) 3 true 1 false]
def rt1L2 (i12 : Nat) : List MObj := (zj2 y a0 a1 g3 m11)
noncomputable def rt1r0 : Option OutCS := evK Tryz.prog rt1K 1000 false rt1X (rt1A y a0 a1) (wS 6 (rt1L y a0 a1)) ⟨[1, 1, .row 0 0, .row 0 0, .row 1 0, .row 1 0, 0, 1, 1, 1, 1, 0, 0], True⟩
abbrev zj3 := jl [] 6 (jl [.slice none 0 0, .int .i64 (4 : Int)] 94 [])
noncomputable def rt1r3 : Option OutCS := evK Tryz.prog rt1K 1000 false rt1X (rt1A1 y a0 a1 g3) (wS 6 (rt1L1 y a0 a1 g3)) ⟨[1, 0, 1, 1, 1, 1, 1, .row 0 0, .row 0 0, .row 0 0, .row 0 0, .row 1 0, .row 1 0, 0, 0, 0, 0, 0, 0, 0, .row 0 0], True⟩
noncomputable def rt1r4 : Option OutCS := evK Tryz.prog rt1K 1000 false rt1X (rt1A1 y a0 a1 g3) (wS 6 (rt1L1 y a0 a1 g3)) ⟨[1, 0, 1, 1, 1, 1, 1, .row 0 0, .row 0 0, .row 0 0, .row 0 0, .row 1 0, .row 1 0, 0, 0, 0, 0, 0, 0, 1], True⟩
def rt1r4E (y : SV) (a0 : Int) (a1 : Int) (g3 : GI) : MA := MA.ofL 102 zj3 []
noncomputable def rt1r5 : Option OutCS := evK Tryz.prog rt1K 1000 false rt1X (rt1A1 y a0 a1 g3) (wS 6 (rt1L1 y a0 a1 g3)) ⟨[0], True⟩
def rt1r5E (y : SV) (a0 : Int) (a1 : Int) (g3 : GI) : MA := MA.ofL 102 (jl [] 11 (jl [.slice (some ⟨9, 0, none⟩) 1 1] 90 [])) []
noncomputable def rt1r6 : Option OutCS := evK Tryz.prog rt1K 1000 false rt1X (rt1A2 y a0 a1 g3 m11 i12) (wS 6 (rt1L2 y a0 a1 g3 m11 i12)) ⟨[1, 0, 1, 1, 1, 1, 1, .row 0 0, .row 0 0, .azz (.int .i64 ((i12 + 1 : Nat) : Int)), .azz (.int .i64 ((i12 + 1 : Nat) : Int)), .row (i12 + 1) 0, .row (i12 + 1) 0, .row 1 0, .row 1 0, 0, 0, 0, 0, 0, 0, 0, .row 0 0, .azz (.int .i64 ((i12 + 3 : Nat) : Int))], True⟩
noncomputable def rt1r7 : Option OutCS := evK Tryz.prog rt1K 1000 false rt1X (rt1A2 y a0 a1 g3 m11 i12) (wS 6 (rt1L2 y a0 a1 g3 m11 i12)) ⟨[1, 0, 1, 1, 1, 1, 1, .row 0 0, .row 0 0, .azz (.int .i64 ((i12 + 1 : Nat) : Int)), .azz (.int .i64 ((i12 + 1 : Nat) : Int)), .row (i12 + 1) 0, .row (i12 + 1) 0, .row 1 0, .row 1 0, 0, 0, 0, 0, 0, 0, 1], True⟩
def rt1r7E (y : SV) (a0 : Int) (a1 : Int) (g3 : GI) (m11 : Nat) (i12 : Nat) : MA := MA.ofL 102 zj3 []
noncomputable def rt1r8 : Option OutCS := evK Tryz.prog rt1K 1000 false rt1X (rt1A2 y a0 a1 g3 m11 i12) (wS 6 (rt1L2 y a0 a1 g3 m11 i12)) ⟨[0], True⟩
def rt1r8E (y : SV) (a0 : Int) (a1 : Int) (g3 : GI) (m11 : Nat) (i12 : Nat) : MA := MA.ofL 102 (jl [] 11 (jl [.slice (some ⟨9, 0, none⟩) (m11 + 2) (m11 + 2)] 90 [])) []
theorem rt1K_ok : FOkS Tryz.prog rt1K := kAll_ok _ ⟨k_range, k_rrange, k_index, trivial⟩
abbrev zj4 := fun i j => ([(IntKind.i64.wrap ((y.h 0 0) * (1 : Int)))] : List Int).getD (i * 1 + j) 0
abbrev zj5 : List MObj := [.rows 2 1 (fun i j => .int .i64 (y.g i j)) y.e y.opn y.sz y.ro, .rows 1 1 (fun i j => .int .i64 (y.h i j)) y.e2 y.opn2 y.sz2 y.ro2, .cells [.int .i64 a0, .int .i64 a1] 3 false 0 false, .cells [.int .i64 (IntKind.i64.wrap ((y.h 0 0) * (1 : Int)))] 3 true 1 false]
abbrev zj6 := decide ((0 : Int) < (IntKind.i64.wrap ((1 : Int) + y.x)))
abbrev zj7 := (decide ((0 : Int) < (1 : Int))) = true
abbrev zj8 := (0 : Int) = (Int.ofNat (0 : Nat))
abbrev zj9 := (0 = 0) ∧ ((0 : Nat) < (1 : Nat))
abbrev zj10 := ((1 : Int) = (Int.ofNat (1 : Nat))) ∧ ((1 : Nat) < (2 : Nat))
abbrev zj11 := (1 = 1) ∧ ((1 : Nat) < (2 : Nat))
abbrev zj12 := ((((((((((((True ∧ ((zj6 y) = true)) ∧ zj7) ∧ (zj8 ∧ ((0 : Nat) < (1 : Nat)))) ∧ zj9) ∧ zj10) ∧ zj11) ∧ ((decide ((0 : Int) < (0 : Int))) = false)) ∧ zj7) ∧ zj7) ∧ zj7) ∧ zj7) ∧ ((decide ((0 : Int) ≥ (1 : Int))) = false)) ∧ True
abbrev zj13 := (Pl.cr (IntKind.i64.wrap ((y.h 0 0) * (1 : Int))) (- (1073741824 : Int)) (1073741824 : Int)) != (0 : Int)
theorem rt1r0_eq : seenK 6 3 [10] 6663 512 (rt1r0 y a0 a1) = some (.normal, rt1A1 y a0 a1 (zj4 y), (zj5 y a0 a1), 512, ⟨[], ((zj12 y) ∧ ((zj13 y) = false))⟩) := by kernel_rfl
abbrev zj14 := Pl.cr (IntKind.i64.wrap ((y.h 0 0) * (1 : Int))) (-1073741824 : Int) (1073741824 : Int)
theorem rt1r0_k (h0 : (0 : Int) < (IntKind.i64.wrap ((1 : Int) + y.x))) (h1 : (zj14 y) = (0 : Int)) : KC Tryz.prog none rt1X (rt1A y a0 a1).act (wS 6 (rt1L y a0 a1)) .normal (rt1A1 y a0 a1 (zj4 y)).act (wS 6 (rt1L1 y a0 a1 (zj4 y))) 9 512 := by
  refine KT.toldAs (L := (zj5 y a0 a1)) ?_ (by
    simp only [List.map_cons, List.map_nil, rt1L, rt1L1, rt1L2]
    all_goals exact kr)
  exact seenK_ok smx rt1K_ok sng (rt1r0_eq y a0 a1) kq
abbrev zj15 := wS 6 (zj0 y a0 a1)
abbrev zj16 := IntKind.i64.wrap ((0 : Int) - (IntKind.i64.wrap ((IntKind.i64.wrap ((y.g 0 0) * (g3 0 0))) * (1 : Int))))
abbrev zj17 := pushI 1 g3 [(zj16 y g3)]
abbrev zj18 : List MObj := [.rows 2 1 (fun i j => .int .i64 (y.g i j)) y.e y.opn y.sz y.ro, .rows 1 1 (fun i j => .int .i64 (y.h i j)) y.e2 y.opn2 y.sz2 y.ro2, .cells [.int .i64 a0, .int .i64 a1] 3 false 0 false, .rows 2 1 (fun i j => tellV (invN 9 [11]) 8 ((pushRow 1 1 (fun i j => .int .i64 (g3 i j)) [.int .i64 (zj16 y g3)]) i j)) 3 true 1 false]
abbrev zj19 := decide ((1 : Int) < (IntKind.i64.wrap ((1 : Int) + y.x)))
abbrev zj20 := zj8 ∧ ((0 : Nat) < (2 : Nat))
abbrev zj21 := (0 = 0) ∧ ((0 : Nat) < (2 : Nat))
abbrev zj22 := (decide ((0 : Int) < (IntKind.i64.wrap ((IntKind.i64.wrap ((1 : Int) - (0 : Int))) - (1 : Int))))) = false
abbrev zj23 := (decide ((IntKind.i64.wrap ((0 : Int) + (1 : Int))) < (1 : Int))) = false
abbrev zj24 := (((((((((((((((((((True ∧ ((zj19 y) = true)) ∧ ((decide ((1 : Int) < (1 : Int))) = false)) ∧ zj7) ∧ zj7) ∧ zj7) ∧ zj7) ∧ ((decide ((1 : Int) ≥ (1 : Int))) = true)) ∧ zj20) ∧ zj21) ∧ (((IntKind.i64.wrap ((IntKind.i64.wrap ((1 : Int) - (1 : Int))) + (0 : Int))) = (Int.ofNat (0 : Nat))) ∧ ((0 : Nat) < (1 : Nat)))) ∧ zj9) ∧ zj10) ∧ zj11) ∧ zj22) ∧ zj23) ∧ zj23) ∧ zj23) ∧ zj23) ∧ (false = false)) ∧ True
abbrev zj25 := (Pl.cr (zj16 y g3) (- (1073741824 : Int)) (1073741824 : Int)) != (0 : Int)
theorem rt1r3_eq : seenK 6 3 [11] 6663 512 (rt1r3 y a0 a1 g3) = some (.normal, rt1A2 y a0 a1 (zj17 y g3) 0 0, (zj18 y a0 a1 g3), 512, ⟨[], (((zj24 y) ∧ ((zj25 y g3) = false)) ∧ ((1 = 1) ∧ ((1 = 1) ∧ (16 ≤ (140737488355328 : Nat)))))⟩) := by kernel_rfl
abbrev zj26 := Pl.cr (zj16 y g3) (-1073741824 : Int) (1073741824 : Int)
theorem rt1r3_k (h0 : (1 : Int) < (IntKind.i64.wrap ((1 : Int) + y.x))) (h1 : (zj26 y g3) = (0 : Int)) : KC Tryz.prog none rt1X (rt1A1 y a0 a1 g3).act (wS 6 (rt1L1 y a0 a1 g3)) .normal (rt1A2 y a0 a1 (zj17 y g3) 0 0).act (wS 6 (rt1L2 y a0 a1 (zj17 y g3) 0 0)) 9 512 := by
  refine KT.toldAs (L := (zj18 y a0 a1 g3)) ?_ (by
    simp only [List.map_cons, List.map_nil, rt1L, rt1L1, rt1L2]
    all_goals exact kr)
  exact seenK_ok smx rt1K_ok sng (rt1r3_eq y a0 a1 g3) kq
theorem rt1r4_eq : seenK 6 3 [] 192 512 (rt1r4 y a0 a1 g3) = some (.ret, rt1r4E y a0 a1 g3, (zj0 y a0 a1), 512, ⟨[], ((zj24 y) ∧ ((zj25 y g3) = true))⟩) := by kernel_rfl
theorem rt1r4_k (h0 : (1 : Int) < (IntKind.i64.wrap ((1 : Int) + y.x))) (h1 : (zj26 y g3) ≠ (0 : Int)) : KC Tryz.prog none rt1X (rt1A1 y a0 a1 g3).act (wS 6 (rt1L1 y a0 a1 g3)) .ret (rt1r4E y a0 a1 g3).act (zj15 y a0 a1) 9 512 :=
  seenK_ok smx rt1K_ok sng (rt1r4_eq y a0 a1 g3) kq
theorem rt1r5_eq : seenK 6 3 [9] 2048 512 (rt1r5 y a0 a1 g3) = some ((.exit 0), rt1r5E y a0 a1 g3, (zj1 y a0 a1 g3), 512, ⟨[], (True ∧ ((zj19 y) = false))⟩) := by kernel_rfl
theorem rt1r5_k (h0 : ¬ (1 : Int) < (IntKind.i64.wrap ((1 : Int) + y.x))) : KC Tryz.prog none rt1X (rt1A1 y a0 a1 g3).act (wS 6 (rt1L1 y a0 a1 g3)) (.exit 0) (rt1r5E y a0 a1 g3).act (wS 6 (zj1 y a0 a1 g3)) 9 512 :=
  seenK_ok smx rt1K_ok sng (rt1r5_eq y a0 a1 g3) kq
abbrev zj27 := IntKind.i64.wrap ((0 : Int) - (IntKind.i64.wrap ((IntKind.i64.wrap ((y.g 0 0) * (g3 (i12 + 1) 0))) * (1 : Int))))
abbrev zj28 := pushI (m11 + 2) g3 [(zj27 y g3 i12)]
abbrev zj29 : List MObj := [.rows 2 1 (fun i j => .int .i64 (y.g i j)) y.e y.opn y.sz y.ro, .rows 1 1 (fun i j => .int .i64 (y.h i j)) y.e2 y.opn2 y.sz2 y.ro2, .cells [.int .i64 a0, .int .i64 a1] 3 false 0 false, .rows (m11 + 3) 1 (fun i j => tellV (invN 9 [11]) 8 ((pushRow (m11 + 2) 1 (fun i j => .int .i64 (g3 i j)) [.int .i64 (zj27 y g3 i12)]) i j)) 3 true 1 false]
abbrev zj30 := decide (((((i12 + 2) : Nat)) : Int) < (IntKind.i64.wrap ((1 : Int) + y.x)))
abbrev zj31 := (((((((((((((((((((((True ∧ ((zj30 y i12) = true)) ∧ ((decide (((((i12 + 2) : Nat)) : Int) < (1 : Int))) = false)) ∧ zj7) ∧ zj7) ∧ zj7) ∧ zj7) ∧ ((decide (((((i12 + 2) : Nat)) : Int) ≥ (1 : Int))) = true)) ∧ zj20) ∧ zj21) ∧ (((.int .i64 (IntKind.i64.wrap (((((i12 + 2) : Nat)) : Int) - (1 : Int)))) : Value) = (.int .i64 ((((i12 + 1) : Nat)) : Int)))) ∧ (((.int .i64 (IntKind.i64.wrap (((((i12 + 1) : Nat)) : Int) + (0 : Int)))) : Value) = (.int .i64 ((((i12 + 1) : Nat)) : Int)))) ∧ ((((((i12 + 1) : Nat)) : Int) = (Int.ofNat (i12 + 1))) ∧ ((i12 + 1) < (m11 + 2)))) ∧ (((0 + ((i12 + 1) * 1)) = (((i12 + 1) * 1) + 0)) ∧ ((i12 + 1) < (m11 + 2)))) ∧ zj10) ∧ zj11) ∧ zj22) ∧ zj23) ∧ zj23) ∧ zj23) ∧ zj23) ∧ (false = false)) ∧ True
abbrev zj32 := (Pl.cr (zj27 y g3 i12) (- (1073741824 : Int)) (1073741824 : Int)) != (0 : Int)
theorem rt1r6_eq : seenK 6 3 [11] 6663 512 (rt1r6 y a0 a1 g3 m11 i12) = some (.normal, rt1A2 y a0 a1 (zj28 y g3 m11 i12) (m11 + 1) (i12 + 1), (zj29 y a0 a1 g3 m11 i12), 512, ⟨[], ((((zj31 y m11 i12) ∧ ((zj32 y g3 i12) = false)) ∧ (((m11 + 2) = (m11 + 2)) ∧ (((m11 + 2) = (m11 + 2)) ∧ ((((m11 + 2) + 1) * 8) ≤ (140737488355328 : Nat))))) ∧ (((.int .i64 (IntKind.i64.wrap (((((i12 + 2) : Nat)) : Int) + (1 : Int)))) : Value) = (.int .i64 ((((i12 + 3) : Nat)) : Int))))⟩) := by kernel_rfl
abbrev zj33 := Pl.cr (zj27 y g3 i12) (-1073741824 : Int) (1073741824 : Int)
theorem rt1r6_k (hx : i12 = m11) (hb : m11 ≤ 1000) (h0 : ((i12 + 2 : Nat) : Int) < (IntKind.i64.wrap ((1 : Int) + y.x))) (h1 : (zj33 y g3 i12) = (0 : Int)) : KC Tryz.prog none rt1X (rt1A2 y a0 a1 g3 m11 i12).act (wS 6 (rt1L2 y a0 a1 g3 m11 i12)) .normal (rt1A2 y a0 a1 (zj28 y g3 m11 i12) (m11 + 1) (i12 + 1)).act (wS 6 (rt1L2 y a0 a1 (zj28 y g3 m11 i12) (m11 + 1) (i12 + 1))) 9 512 := by
  refine KT.toldAs (L := (zj29 y a0 a1 g3 m11 i12)) ?_ (by
    simp only [List.map_cons, List.map_nil, rt1L, rt1L1, rt1L2]
    all_goals exact kr)
  exact seenK_ok smx rt1K_ok sng (rt1r6_eq y a0 a1 g3 m11 i12) kq
theorem rt1r7_eq : seenK 6 3 [] 192 512 (rt1r7 y a0 a1 g3 m11 i12) = some (.ret, rt1r7E y a0 a1 g3 m11 i12, (zj0 y a0 a1), 512, ⟨[], ((zj31 y m11 i12) ∧ ((zj32 y g3 i12) = true))⟩) := by kernel_rfl
theorem rt1r7_k (hx : i12 = m11) (hb : m11 ≤ 1000) (h0 : ((i12 + 2 : Nat) : Int) < (IntKind.i64.wrap ((1 : Int) + y.x))) (h1 : (zj33 y g3 i12) ≠ (0 : Int)) : KC Tryz.prog none rt1X (rt1A2 y a0 a1 g3 m11 i12).act (wS 6 (rt1L2 y a0 a1 g3 m11 i12)) .ret (rt1r7E y a0 a1 g3 m11 i12).act (zj15 y a0 a1) 9 512 :=
  seenK_ok smx rt1K_ok sng (rt1r7_eq y a0 a1 g3 m11 i12) kq
theorem rt1r8_eq : seenK 6 3 [9] 2048 512 (rt1r8 y a0 a1 g3 m11 i12) = some ((.exit 0), rt1r8E y a0 a1 g3 m11 i12, (zj2 y a0 a1 g3 m11), 512, ⟨[], (True ∧ ((zj30 y i12) = false))⟩) := by kernel_rfl
theorem rt1r8_k (hx : i12 = m11) (hb : m11 ≤ 1000) (h0 : ¬ ((i12 + 2 : Nat) : Int) < (IntKind.i64.wrap ((1 : Int) + y.x))) : KC Tryz.prog none rt1X (rt1A2 y a0 a1 g3 m11 i12).act (wS 6 (rt1L2 y a0 a1 g3 m11 i12)) (.exit 0) (rt1r8E y a0 a1 g3 m11 i12).act (wS 6 (zj2 y a0 a1 g3 m11)) 9 512 :=
  seenK_ok smx rt1K_ok sng (rt1r8_eq y a0 a1 g3 m11 i12) kq
end
end Go.Proofs.YtbkpnhbcihcgaaaGreatDoor
end
section
set_option linter.all false
set_option maxRecDepth 1000000
open Go.RowKit
namespace Go.Proofs.YtbkpnhbcihcgaaaGreatDoor
open Mini
noncomputable section
variable (n : Nat) (c : Nat) (g : GI) (e : TypeId) (opn : Bool) (sz : Nat) (ro : Bool) (lw : Int) (up : Int) (i7 : Nat) (jj : Nat)
noncomputable def nnX : Code := loopAt Tryz.prog 78 0
noncomputable def nnK : CallS := kAll [c_range, c_rrange, c_index]
def nnA (g : GI) (e : TypeId) (opn : Bool) (sz : Nat) (ro : Bool) (lw : Int) (up : Int) (i7 : Nat) : MA := MA.ofL 25 (jl [.slice (some ⟨6, 0, none⟩) n c, .int .i64 lw, .int .i64 up] 4 (jl [.int .i64 ((i7 : Nat) : Int)] 17 [])) []
abbrev ze0 : List MObj := [.rows n 1 (fun i j => .int .i64 (g i j)) e opn sz ro]
def nnL (c : Nat) (g : GI) (e : TypeId) (opn : Bool) (sz : Nat) (ro : Bool) (lw : Int) (up : Int) (i7 : Nat) : List MObj := (ze0 n g e opn sz ro)
noncomputable def nnr0 : Option OutCS := evK Tryz.prog nnK 1000 false nnX (nnA n c g e opn sz ro lw up i7) (wS 6 (nnL n c g e opn sz ro lw up i7)) ⟨[1, .row i7 0, .row i7 0, 0, .azz (.int .i64 ((i7 + 1 : Nat) : Int))], True⟩
noncomputable def nnr1 : Option OutCS := evK Tryz.prog nnK 1000 false nnX (nnA n c g e opn sz ro lw up i7) (wS 6 (nnL n c g e opn sz ro lw up i7)) ⟨[1, .row i7 0, .row i7 0, 1], True⟩
def nnr1E (n : Nat) (c : Nat) (g : GI) (e : TypeId) (opn : Bool) (sz : Nat) (ro : Bool) (lw : Int) (up : Int) (i7 : Nat) : MA := MA.ofL 25 (jl [] 6 (jl [.int .i64 (Pl.cr (g i7 0) lw up)] 18 [])) []
noncomputable def nnr2 : Option OutCS := evK Tryz.prog nnK 1000 false nnX (nnA n c g e opn sz ro lw up i7) (wS 6 (nnL n c g e opn sz ro lw up i7)) ⟨[0], True⟩
def nnr2E (n : Nat) (c : Nat) (g : GI) (e : TypeId) (opn : Bool) (sz : Nat) (ro : Bool) (lw : Int) (up : Int) (i7 : Nat) : MA := MA.ofL 25 (jl [] 25 []) []
def nnArgs (g : GI) (e : TypeId) (opn : Bool) (sz : Nat) (ro : Bool) (lw : Int) (up : Int) : Array Value := #[.slice (some ⟨6, 0, none⟩) n c, .int .i64 lw, .int .i64 up]
def nnS (c : Nat) (g : GI) (e : TypeId) (opn : Bool) (sz : Nat) (ro : Bool) (lw : Int) (up : Int) : List MObj := (ze0 n g e opn sz ro)
noncomputable abbrev ze1 := bodyOf Tryz.prog 78
noncomputable abbrev ze2 := startM Tryz.f78 (nnArgs n c g e opn sz ro lw up)
noncomputable def nnf0 : Option OutCS := evK Tryz.prog nnK 1000 false ze1 (ze2 n c g e opn sz ro lw up) (wS 6 (nnS n c g e opn sz ro lw up)) ⟨[.lp 135 (nnA n c g e opn sz ro lw up 0) 6 (nnL n c g e opn sz ro lw up 0) .ret (nnr1E n c g e opn sz ro lw up jj) (ze0 n g e opn sz ro) 7 0], True⟩
noncomputable def nnf1 : Option OutCS := evK Tryz.prog nnK 1000 false ze1 (ze2 n c g e opn sz ro lw up) (wS 6 (nnS n c g e opn sz ro lw up)) ⟨[.lp 135 (nnA n c g e opn sz ro lw up 0) 6 (nnL n c g e opn sz ro lw up 0) (.exit 0) (nnr2E n c g e opn sz ro lw up n) (ze0 n g e opn sz ro) 7 0], True⟩
theorem nnK_ok : FOkS Tryz.prog nnK := kAll_ok _ ⟨k_range, k_rrange, k_index, trivial⟩
abbrev ze3 := decide ((((i7 : Nat)) : Int) < (((n : Nat)) : Int))
abbrev ze4 := (((True ∧ ((ze3 n i7) = true)) ∧ (((((i7 : Nat)) : Int) = (Int.ofNat i7)) ∧ (i7 < n))) ∧ (((0 + (i7 * 1)) = ((i7 * 1) + 0)) ∧ (i7 < n))) ∧ True
theorem nnr0_eq : seenK 6 1 [] 135 0 (nnr0 n c g e opn sz ro lw up i7) = some (.normal, nnA n c g e opn sz ro lw up (i7 + 1), (ze0 n g e opn sz ro), 0, ⟨[], (((ze4 n i7) ∧ (((Pl.cr (g i7 0) lw up) != (0 : Int)) = false)) ∧ (((.int .i64 (IntKind.i64.wrap ((((i7 : Nat)) : Int) + (1 : Int)))) : Value) = (.int .i64 ((((i7 + 1) : Nat)) : Int))))⟩) := by kernel_rfl
theorem nnr0_k (hx : (n : Int) ≤ 9223372036854775807) (h0 : ((i7 : Nat) : Int) < ((n : Nat) : Int)) (h1 : (Pl.cr (g i7 0) lw up) = (0 : Int)) : KC Tryz.prog none nnX (nnA n c g e opn sz ro lw up i7).act (wS 6 (nnL n c g e opn sz ro lw up i7)) .normal (nnA n c g e opn sz ro lw up (i7 + 1)).act (wS 6 (nnL n c g e opn sz ro lw up (i7 + 1))) 7 0 :=
  seenK_ok smx nnK_ok sng (nnr0_eq n c g e opn sz ro lw up i7) kq
theorem nnr1_eq : seenK 6 1 [] 64 0 (nnr1 n c g e opn sz ro lw up i7) = some (.ret, nnr1E n c g e opn sz ro lw up i7, (ze0 n g e opn sz ro), 0, ⟨[], ((ze4 n i7) ∧ (((Pl.cr (g i7 0) lw up) != (0 : Int)) = true))⟩) := by kernel_rfl
abbrev ze5 := wS 6 (ze0 n g e opn sz ro)
theorem nnr1_k (hx : (n : Int) ≤ 9223372036854775807) (h0 : ((i7 : Nat) : Int) < ((n : Nat) : Int)) (h1 : (Pl.cr (g i7 0) lw up) ≠ (0 : Int)) : KC Tryz.prog none nnX (nnA n c g e opn sz ro lw up i7).act (wS 6 (nnL n c g e opn sz ro lw up i7)) .ret (nnr1E n c g e opn sz ro lw up i7).act (ze5 n g e opn sz ro) 7 0 :=
  seenK_ok smx nnK_ok sng (nnr1_eq n c g e opn sz ro lw up i7) kq
theorem nnr2_eq : seenK 6 1 [] 0 0 (nnr2 n c g e opn sz ro lw up i7) = some ((.exit 0), nnr2E n c g e opn sz ro lw up i7, (ze0 n g e opn sz ro), 0, ⟨[], (True ∧ ((ze3 n i7) = false))⟩) := by kernel_rfl
theorem nnr2_k (hx : (n : Int) ≤ 9223372036854775807) (h0 : ¬ ((i7 : Nat) : Int) < ((n : Nat) : Int)) : KC Tryz.prog none nnX (nnA n c g e opn sz ro lw up i7).act (wS 6 (nnL n c g e opn sz ro lw up i7)) (.exit 0) (nnr2E n c g e opn sz ro lw up i7).act (ze5 n g e opn sz ro) 7 0 :=
  seenK_ok smx nnK_ok sng (nnr2_eq n c g e opn sz ro lw up i7) kq
theorem nn_ret (hx : (n : Int) ≤ 9223372036854775807) (hj : jj < n) (h1 : ∀ i, i < jj → (Pl.cr (g i 0) lw up) = 0) (h2 : (Pl.cr (g jj 0) lw up) ≠ 0) : KC Tryz.prog none (.loop nnX) (nnA n c g e opn sz ro lw up 0).act (wS 6 (nnL n c g e opn sz ro lw up 0)) .ret (nnr1E n c g e opn sz ro lw up jj).act (ze5 n g e opn sz ro) 7 0 := by
  exact K_rounds (A := fun i => (nnA n c g e opn sz ro lw up i).act) (S := fun i => wS 6 (nnL n c g e opn sz ro lw up i)) (jj) (fun i hi => nnr0_k n c g e opn sz ro lw up i hx (by omega) (h1 i hi)) (nnr1_k n c g e opn sz ro lw up jj hx (by omega) h2) (by simp)
theorem nn_all  (hx : (n : Int) ≤ 9223372036854775807) (h1 : ∀ i, i < n → (Pl.cr (g i 0) lw up) = 0) : KC Tryz.prog none (.loop nnX) (nnA n c g e opn sz ro lw up 0).act (wS 6 (nnL n c g e opn sz ro lw up 0)) (.exit 0) (nnr2E n c g e opn sz ro lw up n).act (ze5 n g e opn sz ro) 7 0 := by
  exact K_rounds (A := fun i => (nnA n c g e opn sz ro lw up i).act) (S := fun i => wS 6 (nnL n c g e opn sz ro lw up i)) (n) (fun i hi => nnr0_k n c g e opn sz ro lw up i hx (by omega) (h1 i hi)) (nnr2_k n c g e opn sz ro lw up n hx (by omega)) (by simp)
abbrev ze6 := HAppend.hAppend (List.replicate (6 : Nat) MObj.hole) (nnL n c g e opn sz ro lw up (0 : Nat))
abbrev ze7 := ((nnA n c g e opn sz ro lw up (0 : Nat)) = (nnA n c g e opn sz ro lw up (0 : Nat))) ∧ ((7 = (6 + 1)) ∧ ((ze6 n c g e opn sz ro lw up) = (ze6 n c g e opn sz ro lw up)))
theorem nnf0_eq : seenF' Tryz.prog Tryz.f78 6 1 [] (nnf0 n c g e opn sz ro lw up jj) = some (.int .i64 (Pl.cr (g jj 0) lw up), nnS n c g e opn sz ro lw up ++ [], ⟨[], (True ∧ ((ze7 n c g e opn sz ro lw up) ∧ KC Tryz.prog none (.loop nnX) (nnA n c g e opn sz ro lw up 0).act (wS 6 (nnL n c g e opn sz ro lw up 0)) .ret (nnr1E n c g e opn sz ro lw up jj).act (ze5 n g e opn sz ro) 7 0))⟩) := by kernel_rfl
theorem nnf0_s (l0 : KC Tryz.prog none (.loop nnX) (nnA n c g e opn sz ro lw up 0).act (wS 6 (nnL n c g e opn sz ro lw up 0)) .ret (nnr1E n c g e opn sz ro lw up jj).act (ze5 n g e opn sz ro) 7 0) : SndF Tryz.prog 78 (nnArgs n c g e opn sz ro lw up) (wS 6 (nnS n c g e opn sz ro lw up)) (.int .i64 (Pl.cr (g jj 0) lw up)) (wS 6 (nnS n c g e opn sz ro lw up)) 64 0 :=
  kF (L := nnS n c g e opn sz ro lw up) (L2 := []) (ms := []) nnK_ok (nnf0_eq n c g e opn sz ro lw up jj) kq
theorem nnf1_eq : seenF' Tryz.prog Tryz.f78 6 1 [] (nnf1 n c g e opn sz ro lw up) = some (.int .i64 (0 : Int), nnS n c g e opn sz ro lw up ++ [], ⟨[], (True ∧ ((ze7 n c g e opn sz ro lw up) ∧ KC Tryz.prog none (.loop nnX) (nnA n c g e opn sz ro lw up 0).act (wS 6 (nnL n c g e opn sz ro lw up 0)) (.exit 0) (nnr2E n c g e opn sz ro lw up n).act (ze5 n g e opn sz ro) 7 0))⟩) := by kernel_rfl
theorem nnf1_s (l0 : KC Tryz.prog none (.loop nnX) (nnA n c g e opn sz ro lw up 0).act (wS 6 (nnL n c g e opn sz ro lw up 0)) (.exit 0) (nnr2E n c g e opn sz ro lw up n).act (ze5 n g e opn sz ro) 7 0) : SndF Tryz.prog 78 (nnArgs n c g e opn sz ro lw up) (wS 6 (nnS n c g e opn sz ro lw up)) (.int .i64 (0 : Int)) (wS 6 (nnS n c g e opn sz ro lw up)) 64 0 :=
  kF (L := nnS n c g e opn sz ro lw up) (L2 := []) (ms := []) nnK_ok (nnf1_eq n c g e opn sz ro lw up) kq
theorem nn_sndF (hn : (n : Int) ≤ 9223372036854775807) : SndF Tryz.prog 78 (nnArgs n c g e opn sz ro lw up) (wS 6 (nnS n c g e opn sz ro lw up)) (.int .i64 (feN (fun i => (Pl.cr (g i 0) lw up)) n 0)) (wS 6 (nnS n c g e opn sz ro lw up)) 64 0 := by
  rcases first_or (p := fun i => (Pl.cr (g i 0) lw up) ≠ 0) (fun _ => inferInstance) n with h2 | ⟨j, hj, h2, h3⟩
  · have h4 : ∀ i, i < n → (Pl.cr (g i 0) lw up) = 0 := fun i hi => Decidable.not_not.1 (h2 i hi)
    rw [feN_all fun k _ hk => h4 k (by omega)]
    exact nnf1_s n c g e opn sz ro lw up (nn_all n c g e opn sz ro lw up hn h4)
  · have h4 : ∀ i, i < j → (Pl.cr (g i 0) lw up) = 0 := fun i hi => Decidable.not_not.1 (h3 i hi)
    rw [feN_first (Nat.zero_le j) (by omega) (fun k _ hk => h4 k hk) h2]
    exact nnf0_s n c g e opn sz ro lw up j (nn_ret n c g e opn sz ro lw up j hn hj h4 h2)
def kNN : CallS := fun f xs s q => match decide (f = 78) with
  | true => match xs.toList with
    | [.slice (some ⟨b, 0, none⟩) n c, .int .i64 lw, .int .i64 up] => match Nat.ble 6 b, rowK 1 .i64 s b n with
      | true, some (g, _, _, _, _, p) => some (.int .i64 (feN (fun i => (Pl.cr (g i 0) lw up)) n 0), s, 2 ^ b, 0, ⟨q.rest, q.ob ∧ (p ∧ ((n : Int) ≤ 9223372036854775807))⟩)
      | _, _ => none
    | _ => none
  | false => none
theorem kNN_ok : FOkS Tryz.prog kNN := fun f xs s q u s1 R W q1 he => by
  unfold kNN at he
  split at he
  · rename_i hf
    have hf := of_decide_eq_true hf
    subst hf
    split at he
    · rename_i b n c lw up hx0
      split at he
      · rename_i g e opn sz ro p hb hr
        have hb := Nat.le_of_ble_eq_true hb
        have hxs : xs = #[.slice (some ⟨b, 0, none⟩) n c, .int .i64 lw, .int .i64 up] := by apply Array.ext'; exact hx0
        subst hxs
        cases he
        refine ⟨fun hq => hq.1, fun hq => ?_⟩
        obtain ⟨hp, hx⟩ := hq.2
        obtain ⟨l1, w1⟩ := rowK_wo hr hp
        exact SndF.row (N := 6) sng (nn_sndF n c g e opn sz ro lw up hx) rfl hb l1 w1 (fun f _ hf => wvs_three (slice_wv hf) (ground_wv (n := 8) rfl) (ground_wv (n := 8) rfl))
      · cases he
    · cases he
  · cases he
end
end Go.Proofs.YtbkpnhbcihcgaaaGreatDoor
end
section
set_option linter.all false
set_option maxRecDepth 1000000
open Go.RowKit
namespace Go.Proofs.YtbkpnhbcihcgaaaGreatDoor
open Mini
noncomputable section
variable (y : SV) (a0 : Int) (a1 : Int) (mm : Nat) (jj : Nat) (i : Nat)
def rt1RR (y : SV) (a0 : Int) (a1 : Int) : Nat → Nat → Nat → Int
  | 0 => fun _ _ => 0
  | 1 => (fun i j => ([(IntKind.i64.wrap ((y.h 0 0) * (1 : Int)))] : List Int).getD (i * 1 + j) 0)
  | q + 2 => pushI (q + 1) (rt1RR y a0 a1 (q + 1)) [(IntKind.i64.wrap ((0 : Int) - (IntKind.i64.wrap ((IntKind.i64.wrap ((y.g 0 0) * ((rt1RR y a0 a1 (q + 1)) q 0))) * (1 : Int)))))]
def rt1EE : Nat → Int
  | 0 => (IntKind.i64.wrap ((y.h 0 0) * (1 : Int)))
  | q + 1 => (IntKind.i64.wrap ((0 : Int) - (IntKind.i64.wrap ((IntKind.i64.wrap ((y.g 0 0) * ((rt1RR y a0 a1 (q + 1)) q 0))) * (1 : Int)))))
def rt1AA : MA := match i with
  | 0 => rt1A y a0 a1 
  | 1 => rt1A1 y a0 a1 (rt1RR y a0 a1 1)
  | q + 2 => rt1A2 y a0 a1 (rt1RR y a0 a1 (q + 2)) q q
def rt1LL : List MObj := match i with
  | 0 => rt1L y a0 a1 
  | 1 => rt1L1 y a0 a1 (rt1RR y a0 a1 1)
  | q + 2 => rt1L2 y a0 a1 (rt1RR y a0 a1 (q + 2)) q q
abbrev zr0 := feN (fun i => Pl.cr (y.h i 0) (-1000) 1000) 1 0
abbrev zr1 := Pl.cr y.x (0 : Int) (24 : Int)
def rt1F : Nat → Nat → Nat → Int := rt1RR y (zr0 y) (zr1 y)
noncomputable def rt1FK : CallS := bothX kRCP (bothX kNN (kAll [c_range, c_rrange, c_index]))
def rt1Args : Array Value := #[.slice (some ⟨6, 0, none⟩) 2 y.c, .slice (some ⟨7, 0, none⟩) 1 y.c2, .int .i64 y.x]
def rt1S : List MObj := [.rows 2 1 (fun i j => .int .i64 (y.g i j)) y.e y.opn y.sz y.ro, .rows 1 1 (fun i j => .int .i64 (y.h i j)) y.e2 y.opn2 y.sz2 y.ro2]
noncomputable abbrev zr2 := bodyOf Tryz.prog 52
noncomputable abbrev zr3 := startM Tryz.f52 (rt1Args y)
abbrev zr4 := rt1A y (zr0 y) (zr1 y)
abbrev zr5 := rt1L y (zr0 y) (zr1 y)
abbrev zr6 := rt1r5E y (zr0 y) (zr1 y) (rt1F y 1)
abbrev zr7 : List MObj := [.rows 2 1 (fun i j => .int .i64 (y.g i j)) y.e y.opn y.sz y.ro, .rows 1 1 (fun i j => .int .i64 (y.h i j)) y.e2 y.opn2 y.sz2 y.ro2, .cells [.int .i64 (zr0 y), .int .i64 (zr1 y)] 3 false 0 false, .rows 1 1 (fun i j => .int .i64 ((rt1F y 1) i j)) 3 true 1 false]
noncomputable def rt1f0 : Option OutCS := evK Tryz.prog rt1FK 1000 false zr2 (zr3 y) (wS 6 (rt1S y)) ⟨[0, 0, 0, 1, 0, 0, 1, 1, 0, 0, 0, .lp 6663 (zr4 y) 6 (zr5 y) (.exit 0) (zr6 y) (zr7 y) 9 512], True⟩
abbrev zr8 := rt1r8E y (zr0 y) (zr1 y) (rt1F y (mm + 2)) mm mm
abbrev zr9 : List MObj := [.rows 2 1 (fun i j => .int .i64 (y.g i j)) y.e y.opn y.sz y.ro, .rows 1 1 (fun i j => .int .i64 (y.h i j)) y.e2 y.opn2 y.sz2 y.ro2, .cells [.int .i64 (zr0 y), .int .i64 (zr1 y)] 3 false 0 false, .rows (mm + 2) 1 (fun i j => .int .i64 ((rt1F y (mm + 2)) i j)) 3 true 1 false]
noncomputable def rt1f1 : Option OutCS := evK Tryz.prog rt1FK 1000 false zr2 (zr3 y) (wS 6 (rt1S y)) ⟨[0, 0, 0, 1, 0, 0, 1, 1, 0, 0, 0, .lp 6663 (zr4 y) 6 (zr5 y) (.exit 0) (zr8 y mm) (zr9 y mm) 9 512], True⟩
abbrev zr10 := rt1r4E y (zr0 y) (zr1 y) (rt1F y 1)
abbrev zr11 : List MObj := [.rows 2 1 (fun i j => .int .i64 (y.g i j)) y.e y.opn y.sz y.ro, .rows 1 1 (fun i j => .int .i64 (y.h i j)) y.e2 y.opn2 y.sz2 y.ro2, .cells [.int .i64 (zr0 y), .int .i64 (zr1 y)] 3 false 0 false]
noncomputable def rt1f2 : Option OutCS := evK Tryz.prog rt1FK 1000 false zr2 (zr3 y) (wS 6 (rt1S y)) ⟨[0, 0, 0, 1, 0, 0, 1, 1, 0, 0, 0, .lp 6663 (zr4 y) 6 (zr5 y) .ret (zr10 y) (zr11 y) 9 512], True⟩
abbrev zr12 := rt1r7E y (zr0 y) (zr1 y) (rt1F y (jj + 2)) jj jj
noncomputable def rt1f3 : Option OutCS := evK Tryz.prog rt1FK 1000 false zr2 (zr3 y) (wS 6 (rt1S y)) ⟨[0, 0, 0, 1, 0, 0, 1, 1, 0, 0, 0, .lp 6663 (zr4 y) 6 (zr5 y) .ret (zr12 y jj) (zr11 y) 9 512], True⟩
noncomputable def rt1f4 : Option OutCS := evK Tryz.prog rt1FK 1000 false zr2 (zr3 y) (wS 6 (rt1S y)) ⟨[0, 0, 0, 1, 0, 0, 1, 1, 1, 1, 1], True⟩
noncomputable def rt1f5 : Option OutCS := evK Tryz.prog rt1FK 1000 false zr2 (zr3 y) (wS 6 (rt1S y)) ⟨[0, 0, 0, 1, 0, 1, 0, 1], True⟩
noncomputable def rt1f6 : Option OutCS := evK Tryz.prog rt1FK 1000 false zr2 (zr3 y) (wS 6 (rt1S y)) ⟨[1], True⟩
theorem rt1_go (hi : ((i : Nat) : Int) < (IntKind.i64.wrap ((1 : Int) + y.x))) (hb : i ≤ 1000) (h1 : Pl.cr (rt1EE y a0 a1 i) (-1073741824 : Int) (1073741824 : Int) = 0) : KC Tryz.prog none rt1X (rt1AA y a0 a1 i).act (wS 6 (rt1LL y a0 a1 i)) .normal (rt1AA y a0 a1 (i + 1)).act (wS 6 (rt1LL y a0 a1 (i + 1))) 9 512 := by
  match i, hi, hb, h1 with
  | 0, hi, hb, h1 => exact rt1r0_k y a0 a1  hi h1
  | 1, hi, hb, h1 => exact rt1r3_k y a0 a1 (rt1RR y a0 a1 1) hi h1
  | q + 2, hi, hb, h1 => exact rt1r6_k y a0 a1 (rt1RR y a0 a1 (q + 2)) q q rfl (by omega) hi h1
theorem rt1_l0 (hz : ¬ (1 : Int) < (IntKind.i64.wrap ((1 : Int) + y.x))) (hw : (1 : Int) ≤ (IntKind.i64.wrap ((1 : Int) + y.x))) (h1 : ∀ i, i < 1 → Pl.cr (rt1EE y a0 a1 i) (-1073741824 : Int) (1073741824 : Int) = 0) : KC Tryz.prog none (.loop rt1X) (rt1A y a0 a1).act (wS 6 (rt1L y a0 a1)) (.exit 0) (rt1r5E y a0 a1 (rt1RR y a0 a1 1)).act (wS 6 [.rows 2 1 (fun i j => .int .i64 (y.g i j)) y.e y.opn y.sz y.ro, .rows 1 1 (fun i j => .int .i64 (y.h i j)) y.e2 y.opn2 y.sz2 y.ro2, .cells [.int .i64 a0, .int .i64 a1] 3 false 0 false, .rows 1 1 (fun i j => .int .i64 ((rt1RR y a0 a1 1) i j)) 3 true 1 false]) 9 512 :=
  K_rounds (A := fun i => (rt1AA y a0 a1 i).act) (S := fun i => wS 6 (rt1LL y a0 a1 i)) 1 (fun i hi => rt1_go y a0 a1 i (by omega) (by omega) (h1 i hi)) (rt1r5_k y a0 a1 (rt1RR y a0 a1 1) hz) (by simp)
theorem rt1_l1 (hm : ((mm + 2 : Nat) : Int) = (IntKind.i64.wrap ((1 : Int) + y.x))) (hb : mm ≤ 900) (h1 : ∀ i, i < mm + 2 → Pl.cr (rt1EE y a0 a1 i) (-1073741824 : Int) (1073741824 : Int) = 0) : KC Tryz.prog none (.loop rt1X) (rt1A y a0 a1).act (wS 6 (rt1L y a0 a1)) (.exit 0) (rt1r8E y a0 a1 (rt1RR y a0 a1 (mm + 2)) mm mm).act (wS 6 [.rows 2 1 (fun i j => .int .i64 (y.g i j)) y.e y.opn y.sz y.ro, .rows 1 1 (fun i j => .int .i64 (y.h i j)) y.e2 y.opn2 y.sz2 y.ro2, .cells [.int .i64 a0, .int .i64 a1] 3 false 0 false, .rows (mm + 2) 1 (fun i j => .int .i64 ((rt1RR y a0 a1 (mm + 2)) i j)) 3 true 1 false]) 9 512 :=
  K_rounds (A := fun i => (rt1AA y a0 a1 i).act) (S := fun i => wS 6 (rt1LL y a0 a1 i)) (mm + 2) (fun i hi => rt1_go y a0 a1 i (by omega) (by omega) (h1 i hi)) (rt1r8_k y a0 a1 (rt1RR y a0 a1 (mm + 2)) mm mm rfl (by omega) (by omega)) (by simp)
abbrev zr13 := wS 6 [.rows 2 1 (fun i j => .int .i64 (y.g i j)) y.e y.opn y.sz y.ro, .rows 1 1 (fun i j => .int .i64 (y.h i j)) y.e2 y.opn2 y.sz2 y.ro2, .cells [.int .i64 a0, .int .i64 a1] 3 false 0 false]
theorem rt1_b0 (hz : (1 : Int) < (IntKind.i64.wrap ((1 : Int) + y.x))) (h1 : ∀ i, i < 1 → Pl.cr (rt1EE y a0 a1 i) (-1073741824 : Int) (1073741824 : Int) = 0) (h2 : Pl.cr (rt1EE y a0 a1 1) (-1073741824 : Int) (1073741824 : Int) ≠ 0) : KC Tryz.prog none (.loop rt1X) (rt1A y a0 a1).act (wS 6 (rt1L y a0 a1)) .ret (rt1r4E y a0 a1 (rt1RR y a0 a1 1)).act (zr13 y a0 a1) 9 512 :=
  K_rounds (A := fun i => (rt1AA y a0 a1 i).act) (S := fun i => wS 6 (rt1LL y a0 a1 i)) 1 (fun i hi => rt1_go y a0 a1 i (by omega) (by omega) (h1 i hi)) (rt1r4_k y a0 a1 (rt1RR y a0 a1 1) hz h2) (by simp)
theorem rt1_b1 (hj : ((jj + 2 : Nat) : Int) < (IntKind.i64.wrap ((1 : Int) + y.x))) (hb : jj ≤ 900) (h1 : ∀ i, i < jj + 2 → Pl.cr (rt1EE y a0 a1 i) (-1073741824 : Int) (1073741824 : Int) = 0) (h2 : Pl.cr (rt1EE y a0 a1 (jj + 2)) (-1073741824 : Int) (1073741824 : Int) ≠ 0) : KC Tryz.prog none (.loop rt1X) (rt1A y a0 a1).act (wS 6 (rt1L y a0 a1)) .ret (rt1r7E y a0 a1 (rt1RR y a0 a1 (jj + 2)) jj jj).act (zr13 y a0 a1) 9 512 :=
  K_rounds (A := fun i => (rt1AA y a0 a1 i).act) (S := fun i => wS 6 (rt1LL y a0 a1 i)) (jj + 2) (fun i hi => rt1_go y a0 a1 i (by omega) (by omega) (h1 i hi)) (rt1r7_k y a0 a1 (rt1RR y a0 a1 (jj + 2)) jj jj rfl (by omega) hj h2) (by simp)
theorem rt1FK_ok : FOkS Tryz.prog rt1FK := bothX_ok kRCP_ok (bothX_ok kNN_ok (kAll_ok _ ⟨k_range, k_rrange, k_index, trivial⟩))
abbrev zr14 : List MObj := [.rows 1 1 (fun i j => .int .i64 ((rt1F y 1) i j)) 3 true 1 false]
abbrev zr15 := True ∧ (((2 = 2) ∧ (∀ (i : Nat), ((i < (2 : Nat)) → (∀ (j : Nat), ((j < (1 : Nat)) → ((Value.int .i64 (y.g i j)) = (Value.int .i64 (gI (Value.int .i64 (y.g i j)))))))))) ∧ ((((2 : Nat)) : Int) ≤ (9223372036854775807 : Int)))
abbrev zr16 := (cpV (2 : Nat) (fun (i : Nat) => (fun (j : Nat) => (gI (Value.int .i64 (y.g i j)))))) != (0 : Int)
abbrev zr17 := (((2 : Nat)) : Int) - (1 : Int)
abbrev zr18 := (((((((zr15 y) ∧ ((zr16 y) = false)) ∧ (((IntKind.i64.wrap zr17) == (0 : Int)) = false)) ∧ (((((1 : Nat)) : Int) != (IntKind.i64.wrap zr17)) = false)) ∧ (((1 = 1) ∧ (∀ (i : Nat), ((i < (1 : Nat)) → (∀ (j : Nat), ((j < (1 : Nat)) → ((Value.int .i64 (y.h i j)) = (Value.int .i64 (gI (Value.int .i64 (y.h i j)))))))))) ∧ ((((1 : Nat)) : Int) ≤ (9223372036854775807 : Int)))) ∧ True) ∧ ((decide ((0 : Int) < (((2 : Nat)) : Int))) = true)) ∧ ((0 : Int) = (Int.ofNat 0))
abbrev zr19 := (feN (fun (i : Nat) => (Pl.cr (gI (Value.int .i64 (y.h i 0))) (- (1000 : Int)) (1000 : Int))) (1 : Nat) (0 : Nat)) != (0 : Int)
abbrev zr20 := (IntKind.i64.wrap ((0 : Int) + (1 : Int))) = (Int.ofNat 1)
abbrev zr21 := (((zr18 y) ∧ ((zr19 y) = false)) ∧ ((decide ((IntKind.i64.wrap ((0 : Int) + (1 : Int))) < (((2 : Nat)) : Int))) = true)) ∧ zr20
abbrev zr22 := (zr1 y) != (0 : Int)
abbrev zr23 := (((zr21 y) ∧ ((zr22 y) = false)) ∧ ((decide ((IntKind.i64.wrap ((IntKind.i64.wrap ((0 : Int) + (1 : Int))) + (1 : Int))) < (((2 : Nat)) : Int))) = false)) ∧ (((0 : Int) != (0 : Int)) = false)
abbrev zr24 := feN (fun (i : Nat) => (Pl.cr (y.h i 0) (- (1000 : Int)) (1000 : Int))) (1 : Nat) (0 : Nat)
abbrev zr25 := rt1A y (zr24 y) (zr1 y)
abbrev zr26 := HAppend.hAppend (List.replicate (6 : Nat) MObj.hole) (rt1L y (zr24 y) (zr1 y))
abbrev zr27 := ((zr25 y) = (zr25 y)) ∧ ((9 = (6 + 3)) ∧ ((zr26 y) = (zr26 y)))
abbrev zr28 := wS 6 (zr5 y)
abbrev zr29 := wS 6 (zr7 y)
theorem rt1f0_eq : seenF' Tryz.prog Tryz.f52 6 2 [9] (rt1f0 y) = some (.tuple #[.slice (some ⟨8, 0, none⟩) 1 1, .int .i64 (0 : Int)], rt1S y ++ (zr14 y), ⟨[], ((zr23 y) ∧ ((zr27 y) ∧ KC Tryz.prog none (.loop rt1X) (zr4 y).act (zr28 y) (.exit 0) (zr6 y).act (zr29 y) 9 512))⟩) := by kernel_rfl
theorem rt1f0_s (h0 : (cpV 2 y.g) = (0 : Int)) (h1 : (zr0 y) = (0 : Int)) (h2 : (zr1 y) = (0 : Int)) (l0 : KC Tryz.prog none (.loop rt1X) (zr4 y).act (zr28 y) (.exit 0) (zr6 y).act (zr29 y) 9 512) : SndF Tryz.prog 52 (rt1Args y) (wS 6 (rt1S y)) (.tuple #[.slice (some ⟨8, 0, none⟩) 1 1, .int .i64 (0 : Int)]) (wS 6 (rt1S y ++ (zr14 y))) 192 0 :=
  kF (L := rt1S y) (L2 := (zr14 y)) (ms := [9]) rt1FK_ok (rt1f0_eq y) kq
abbrev zr30 : List MObj := [.rows (mm + 2) 1 (fun i j => .int .i64 ((rt1F y (mm + 2)) i j)) 3 true 1 false]
abbrev zr31 := wS 6 (zr9 y mm)
theorem rt1f1_eq : seenF' Tryz.prog Tryz.f52 6 2 [9] (rt1f1 y mm) = some (.tuple #[.slice (some ⟨8, 0, none⟩) (mm + 2) (mm + 2), .int .i64 (0 : Int)], rt1S y ++ (zr30 y mm), ⟨[], ((zr23 y) ∧ ((zr27 y) ∧ KC Tryz.prog none (.loop rt1X) (zr4 y).act (zr28 y) (.exit 0) (zr8 y mm).act (zr31 y mm) 9 512))⟩) := by kernel_rfl
theorem rt1f1_s (h0 : (cpV 2 y.g) = (0 : Int)) (h1 : (zr0 y) = (0 : Int)) (h2 : (zr1 y) = (0 : Int)) (l0 : KC Tryz.prog none (.loop rt1X) (zr4 y).act (zr28 y) (.exit 0) (zr8 y mm).act (zr31 y mm) 9 512) : SndF Tryz.prog 52 (rt1Args y) (wS 6 (rt1S y)) (.tuple #[.slice (some ⟨8, 0, none⟩) (mm + 2) (mm + 2), .int .i64 (0 : Int)]) (wS 6 (rt1S y ++ (zr30 y mm))) 192 0 :=
  kF (L := rt1S y) (L2 := (zr30 y mm)) (ms := [9]) rt1FK_ok (rt1f1_eq y mm) kq
abbrev zr32 := wS 6 (zr11 y)
theorem rt1f2_eq : seenF' Tryz.prog Tryz.f52 6 2 [] (rt1f2 y) = some (.tuple #[.slice none 0 0, .int .i64 (4 : Int)], rt1S y ++ [], ⟨[], ((zr23 y) ∧ ((zr27 y) ∧ KC Tryz.prog none (.loop rt1X) (zr4 y).act (zr28 y) .ret (zr10 y).act (zr32 y) 9 512))⟩) := by kernel_rfl
theorem rt1f2_s (h0 : (cpV 2 y.g) = (0 : Int)) (h1 : (zr0 y) = (0 : Int)) (h2 : (zr1 y) = (0 : Int)) (l0 : KC Tryz.prog none (.loop rt1X) (zr4 y).act (zr28 y) .ret (zr10 y).act (zr32 y) 9 512) : SndF Tryz.prog 52 (rt1Args y) (wS 6 (rt1S y)) (.tuple #[.slice none 0 0, .int .i64 (4 : Int)]) (wS 6 (rt1S y)) 192 0 :=
  kF (L := rt1S y) (L2 := []) (ms := []) rt1FK_ok (rt1f2_eq y) kq
theorem rt1f3_eq : seenF' Tryz.prog Tryz.f52 6 2 [] (rt1f3 y jj) = some (.tuple #[.slice none 0 0, .int .i64 (4 : Int)], rt1S y ++ [], ⟨[], ((zr23 y) ∧ ((zr27 y) ∧ KC Tryz.prog none (.loop rt1X) (zr4 y).act (zr28 y) .ret (zr12 y jj).act (zr32 y) 9 512))⟩) := by kernel_rfl
theorem rt1f3_s (h0 : (cpV 2 y.g) = (0 : Int)) (h1 : (zr0 y) = (0 : Int)) (h2 : (zr1 y) = (0 : Int)) (l0 : KC Tryz.prog none (.loop rt1X) (zr4 y).act (zr28 y) .ret (zr12 y jj).act (zr32 y) 9 512) : SndF Tryz.prog 52 (rt1Args y) (wS 6 (rt1S y)) (.tuple #[.slice none 0 0, .int .i64 (4 : Int)]) (wS 6 (rt1S y)) 192 0 :=
  kF (L := rt1S y) (L2 := []) (ms := []) rt1FK_ok (rt1f3_eq y jj) kq
abbrev zr33 := (zr22 y) = true
theorem rt1f4_eq : seenF' Tryz.prog Tryz.f52 6 2 [] (rt1f4 y) = some (.tuple #[.slice none 0 0, .int .i64 (zr1 y)], rt1S y ++ [], ⟨[], ((((zr21 y) ∧ (zr33 y)) ∧ zr20) ∧ (zr33 y))⟩) := by kernel_rfl
theorem rt1f4_s (h0 : (cpV 2 y.g) = (0 : Int)) (h1 : (zr0 y) = (0 : Int)) (h2 : (zr1 y) ≠ (0 : Int)) : SndF Tryz.prog 52 (rt1Args y) (wS 6 (rt1S y)) (.tuple #[.slice none 0 0, .int .i64 (zr1 y)]) (wS 6 (rt1S y)) 192 0 :=
  kF (L := rt1S y) (L2 := []) (ms := []) rt1FK_ok (rt1f4_eq y) kq
abbrev zr34 := (zr19 y) = true
theorem rt1f5_eq : seenF' Tryz.prog Tryz.f52 6 2 [] (rt1f5 y) = some (.tuple #[.slice none 0 0, .int .i64 (zr0 y)], rt1S y ++ [], ⟨[], ((((zr18 y) ∧ (zr34 y)) ∧ ((0 : Int) = (Int.ofNat 0))) ∧ (zr34 y))⟩) := by kernel_rfl
theorem rt1f5_s (h0 : (cpV 2 y.g) = (0 : Int)) (h1 : (zr0 y) ≠ (0 : Int)) : SndF Tryz.prog 52 (rt1Args y) (wS 6 (rt1S y)) (.tuple #[.slice none 0 0, .int .i64 (zr0 y)]) (wS 6 (rt1S y)) 192 0 :=
  kF (L := rt1S y) (L2 := []) (ms := []) rt1FK_ok (rt1f5_eq y) kq
theorem rt1f6_eq : seenF' Tryz.prog Tryz.f52 6 2 [] (rt1f6 y) = some (.tuple #[.slice none 0 0, .int .i64 (cpV 2 y.g)], rt1S y ++ [], ⟨[], ((zr15 y) ∧ ((zr16 y) = true))⟩) := by kernel_rfl
theorem rt1f6_s (h0 : (cpV 2 y.g) ≠ (0 : Int)) : SndF Tryz.prog 52 (rt1Args y) (wS 6 (rt1S y)) (.tuple #[.slice none 0 0, .int .i64 (cpV 2 y.g)]) (wS 6 (rt1S y)) 192 0 :=
  kF (L := rt1S y) (L2 := []) (ms := []) rt1FK_ok (rt1f6_eq y) kq
end
end Go.Proofs.YtbkpnhbcihcgaaaGreatDoor
end
section
set_option linter.all false
set_option maxRecDepth 1000000
open Go.RowKit
namespace Go.Proofs.YtbkpnhbcihcgaaaGreatDoor
open Mini
theorem wr_ex (a : Int) : ∃ k : Int, IntKind.i64.wrap a = a + 18446744073709551616 * k := by
  refine ⟨-((a + 9223372036854775808) / 18446744073709551616), ?_⟩
  rw [IntKind.wrap_i64]
  omega
theorem wr_sh (a k : Int) : IntKind.i64.wrap (a + 18446744073709551616 * k) = IntKind.i64.wrap a := by
  rw [IntKind.wrap_i64, IntKind.wrap_i64]; omega
theorem wr_al (a b : Int) : IntKind.i64.wrap (IntKind.i64.wrap a + b) = IntKind.i64.wrap (a + b) := by
  obtain ⟨k, hk⟩ := wr_ex a
  rw [hk, show a + 18446744073709551616 * k + b = (a + b) + 18446744073709551616 * k by omega, wr_sh]
theorem wr_ar (a b : Int) : IntKind.i64.wrap (a + IntKind.i64.wrap b) = IntKind.i64.wrap (a + b) := by
  rw [Int.add_comm, wr_al, Int.add_comm]
theorem wr_sl (a b : Int) : IntKind.i64.wrap (IntKind.i64.wrap a - b) = IntKind.i64.wrap (a - b) := by
  obtain ⟨k, hk⟩ := wr_ex a
  rw [hk, show a + 18446744073709551616 * k - b = (a - b) + 18446744073709551616 * k by omega, wr_sh]
theorem wr_sr (a b : Int) : IntKind.i64.wrap (a - IntKind.i64.wrap b) = IntKind.i64.wrap (a - b) := by
  obtain ⟨k, hk⟩ := wr_ex b
  rw [hk, show a - (b + 18446744073709551616 * k) = (a - b) + 18446744073709551616 * (-k) by omega, wr_sh]
theorem wr_ml (a b : Int) : IntKind.i64.wrap (IntKind.i64.wrap a * b) = IntKind.i64.wrap (a * b) := by
  obtain ⟨k, hk⟩ := wr_ex a
  rw [hk, Int.add_mul, Int.mul_assoc, wr_sh]
theorem wr_mr (a b : Int) : IntKind.i64.wrap (a * IntKind.i64.wrap b) = IntKind.i64.wrap (a * b) := by
  rw [Int.mul_comm, wr_ml, Int.mul_comm]
theorem nab_mul {a b : Int} {A B : Nat} (h1 : a.natAbs ≤ A) (h2 : b.natAbs ≤ B) : (a * b).natAbs ≤ A * B := by
  rw [Int.natAbs_mul]; exact Nat.mul_le_mul h1 h2
theorem cr_nab {a : Int} {A : Nat} (h : Pl.cr a (-(A : Int)) (A : Int) = 0) : a.natAbs ≤ A := by
  unfold Pl.cr at h
  split at h <;> omega
theorem cr_in {a : Int} {A : Nat} (h : a.natAbs ≤ A) (hA : A ≤ 1073741824) : Pl.cr (IntKind.i64.wrap a) (-1073741824 : Int) (1073741824 : Int) = 0 := by
  rw [IntWalk.i64_in _ (by omega)]
  unfold Pl.cr
  rw [if_neg (by omega)]
theorem cpV_c {n : Nat} {g : Nat → Nat → Int} (h : cpV n g = 0) : ∀ i, i < n → Pl.cr (g i 0) (-100) 100 = 0 := by
  unfold cpV at h
  split at h
  · exact absurd h (by decide)
  · split at h
    · exact absurd h (by decide)
    · unfold th2 at h
      split at h
      · rename_i c; exact feN_zero c
      · rename_i c; exact absurd h c
end Go.Proofs.YtbkpnhbcihcgaaaGreatDoor
end
section
set_option linter.all false
set_option maxRecDepth 1000000
open Go.RowKit
namespace Go.Proofs.YtbkpnhbcihcgaaaGreatDoor
open Mini
def st1D (y : SV) : Nat → Int := st1EE y (cpV 2 y.g) (feN (fun i => Pl.cr (y.h i 0) (-1000) 1000) 1 0) (Pl.cr y.x (0 : Int) (24 : Int)) (IntKind.i64.wrap ((y.h 0 0) * (1 : Int))) (IntKind.i64.wrap ((y.g 0 0) * (1 : Int))) (IntKind.i64.wrap ((0 : Int) - (IntKind.i64.wrap ((y.g 0 0) * (1 : Int)))))
def rt1D (y : SV) : Nat → Int := rt1EE y (feN (fun i => Pl.cr (y.h i 0) (-1000) 1000) 1 0) (Pl.cr y.x (0 : Int) (24 : Int))
theorem al1 (g : Nat → Nat → Int) (y0 : Int) : (IntKind.i64.wrap ((0 : Int) + (IntKind.i64.wrap ((IntKind.i64.wrap ((0 : Int) - (IntKind.i64.wrap ((g 0 0) * (1 : Int))))) * y0)))) = (IntKind.i64.wrap ((0 : Int) - (IntKind.i64.wrap ((IntKind.i64.wrap ((g 0 0) * y0)) * (1 : Int))))) := by
  simp only [wr_al, wr_ar, wr_sl, wr_sr, wr_ml, wr_mr]
  refine congrArg _ ?_
  all_goals try simp only [Int.zero_add, Int.zero_sub, Int.mul_one, Int.one_mul, Int.neg_mul, Int.sub_mul, Int.add_mul]
  all_goals try simp only [Int.mul_assoc, Int.mul_comm, Int.mul_left_comm]
  all_goals omega
theorem rt1_at (y : SV) : ∀ t j, j < t → rt1F y t j 0 = rt1D y j
  | 0, j, hz => absurd hz (Nat.not_lt_zero j)
  | 1, j, hz => by
    obtain rfl : j = 0 := by omega
    rfl
  | q + 2, j, hz => by
    show (if j < q + 1 then rt1F y (q + 1) j 0 else _) = _
    by_cases c0 : j < q + 1
    · rw [if_pos c0]; exact rt1_at y (q + 1) j c0
    · rw [if_neg c0]
      obtain rfl : j = q + 1 := by omega
      rfl
theorem rt1_nx (y : SV) (q : Nat) : rt1D y (q + 1) = (IntKind.i64.wrap ((0 : Int) - (IntKind.i64.wrap ((IntKind.i64.wrap ((y.g 0 0) * (rt1D y (q)))) * (1 : Int))))) := by
  rw [← rt1_at y (q + 1) (q) (by omega)]
  rfl
theorem st1_at (y : SV) : ∀ q, (∀ j, j < q + 2 → st1F y q j 0 = rt1D y j) ∧ st1D y q = rt1D y (q + 1)
  | 0 => by
    have hd : st1D y 0 = rt1D y (0 + 1) := by
      rw [rt1_nx]
      exact al1 y.g (rt1D y 0)
    refine ⟨fun j hj => ?_, hd⟩
    match j, hj with
    | 0, _ => rfl
    | 1, _ => exact hd
    | j + 2, hj => omega
  | q + 1 => by
    obtain ⟨h1, h2⟩ := st1_at y q
    have hd : st1D y (q + 1) = rt1D y (q + 1 + 1) := by
      rw [rt1_nx, ← al1 y.g, ← h1 (q + 1) (by omega)]
      rfl
    refine ⟨fun j hj => ?_, hd⟩
    show (if j < q + 2 then st1F y q j 0 else _) = _
    by_cases c0 : j < q + 2
    · rw [if_pos c0]; exact h1 j c0
    · rw [if_neg c0]
      obtain rfl : j = q + 1 + 1 := by omega
      exact hd
theorem rt1_in (y : SV) (h1 : cpV 2 y.g = 0) (h2 : feN (fun i => Pl.cr (y.h i 0) (-1000) 1000) 1 0 = 0) : ∀ i, i < 1 → Pl.cr (rt1D y i) (-1073741824 : Int) (1073741824 : Int) = 0 := fun i hi => by
  have hg : (y.g 1 0).natAbs ≤ 100 := cr_nab (A := 100) (cpV_c h1 1 (by omega))
  have hh : ∀ k, k < 1 → (y.h k 0).natAbs ≤ 1000 := fun k hk => cr_nab (A := 1000) (feN_zero h2 k hk)
  match i, hi with
  | 0, _ =>
    show Pl.cr (IntKind.i64.wrap ((y.h 0 0) * (1 : Int))) _ _ = 0
    try simp only [wr_ml, wr_mr]
    exact cr_in (nab_mul (hh 0 (by omega)) (by decide : (1 : Int).natAbs ≤ 1)) (by decide)
  | i + 1, hi => omega
end Go.Proofs.YtbkpnhbcihcgaaaGreatDoor
end
section
set_option linter.all false
set_option maxRecDepth 1000000
open Go.RowKit
namespace Go.Proofs.YtbkpnhbcihcgaaaGreatDoor
open Mini
noncomputable section
variable (y : SV)
theorem st1_lt {x : Int} (h : Pl.cr x (0 : Int) (24 : Int) = 0) : 0 ≤ x ∧ x ≤ 24 := by
  unfold Pl.cr at h
  split at h <;> omega
theorem rt1_w {x : Int} (h : Pl.cr x (0 : Int) (24 : Int) = 0) : (IntKind.i64.wrap ((1 : Int) + x)) = 1 + x := by
  have := st1_lt h
  exact IntWalk.i64_in _ (by omega)
abbrev zv0 := fun i => Pl.cr (y.h i 0) (-1000) 1000
abbrev zv1 := feN (zv0 y) 1 0
abbrev zv2 := Pl.cr y.x (0 : Int) (24 : Int)
abbrev zv3 := IntKind.i64.wrap ((0 : Int) - (IntKind.i64.wrap ((y.g 0 0) * (1 : Int))))
theorem st1_o2 (h0 : cpV 2 y.g = 0) (h1 : feN (zv0 y) 1 0 = 0) (h2 : Pl.cr y.x (0 : Int) (24 : Int) = 0) (hz : ¬ (0 : Int) < y.x) : SndF Tryz.prog 50 (st1Args y) (wS 6 (st1S y)) (.tuple #[.slice (some ⟨8, 0, none⟩) 1 1, .int .i64 (0 : Int)]) (wS 6 (st1S y ++ [.cells [.int .i64 (IntKind.i64.wrap ((y.h 0 0) * (1 : Int)))] 3 false 0 false])) 192 0 :=
  st1f0_s y h0 h1 h2 (st1_l0 y (cpV 2 y.g) (zv1 y) (zv2 y) (IntKind.i64.wrap ((y.h 0 0) * (1 : Int))) (IntKind.i64.wrap ((y.g 0 0) * (1 : Int))) (zv3 y) hz)
theorem st1_o1 (h0 : cpV 2 y.g = 0) (h1 : feN (zv0 y) 1 0 = 0) (h2 : Pl.cr y.x (0 : Int) (24 : Int) = 0) (hz : (0 : Int) < y.x) (hk : (∀ i, i < y.x.toNat → Pl.cr (rt1D y (i + 1)) (-1073741824 : Int) (1073741824 : Int) = 0)) : SndF Tryz.prog 50 (st1Args y) (wS 6 (st1S y)) (.tuple #[.slice (some ⟨8, 0, none⟩) ((y.x.toNat - 1) + 2) ((y.x.toNat - 1) + 2), .int .i64 (0 : Int)]) (wS 6 (st1S y ++ [.rows ((y.x.toNat - 1) + 2) 1 (fun i j => .int .i64 ((st1F y (y.x.toNat - 1)) i j)) 3 true 1 false])) 192 0 := by
  have hx := st1_lt h2
  exact st1f1_s y (y.x.toNat - 1) h0 h1 h2 (st1_l1 y (cpV 2 y.g) (zv1 y) (zv2 y) (IntKind.i64.wrap ((y.h 0 0) * (1 : Int))) (IntKind.i64.wrap ((y.g 0 0) * (1 : Int))) (zv3 y) (y.x.toNat - 1) (by omega) (by omega) (fun i hi => by
    have hk := hk i (by omega)
    rw [← (st1_at y i).2] at hk
    exact hk))
theorem st1_o0 (hp : cpV 2 y.g ≠ 0 ∨ feN (fun i => Pl.cr (y.h i 0) (-1000) 1000) 1 0 ≠ 0 ∨ Pl.cr y.x (0 : Int) (24 : Int) ≠ 0 ∨ (∃ i, i < y.x.toNat ∧ Pl.cr (rt1D y (i + 1)) (-1073741824 : Int) (1073741824 : Int) ≠ 0)) : SndF Tryz.prog 50 (st1Args y) (wS 6 (st1S y)) (.tuple #[.slice none 0 0, .int .i64 (th2 (th2 (th2 (cpV 2 y.g) (feN (fun i => Pl.cr (y.h i 0) (-1000) 1000) 1 0)) (Pl.cr y.x (0 : Int) (24 : Int))) 4)]) (wS 6 (st1S y)) 192 0 := by
  by_cases h0 : cpV 2 y.g = 0
  · by_cases h1 : feN (fun i => Pl.cr (y.h i 0) (-1000) 1000) 1 0 = 0
    · by_cases h2 : Pl.cr y.x (0 : Int) (24 : Int) = 0
      · have hx := st1_lt h2
        have ev : (th2 (th2 (th2 (cpV 2 y.g) (feN (fun i => Pl.cr (y.h i 0) (-1000) 1000) 1 0)) (Pl.cr y.x (0 : Int) (24 : Int))) 4) = 4 := by rw [h0, h1, h2]; rfl
        rw [ev]
        rcases first_or (p := fun i => Pl.cr (rt1D y (i + 1)) (-1073741824 : Int) (1073741824 : Int) ≠ 0) (fun _ => inferInstance) y.x.toNat with ha | ⟨j, hj, hb, hk⟩
        · rcases hp with k | k | k | ⟨i, k1, k2⟩
          · exact absurd h0 k
          · exact absurd h1 k
          · exact absurd h2 k
          · exact absurd k2 (ha i k1)
        · have hk : ∀ i, i < j → Pl.cr (rt1D y (i + 1)) (-1073741824 : Int) (1073741824 : Int) = 0 := fun i hi => Decidable.not_not.1 (hk i hi)
          skip
          match j, hj, hb, hk with
          | 0, hj, hb, hk => rw [← (st1_at y _).2] at hb; exact st1f2_s y h0 h1 h2 (st1_b0 y (cpV 2 y.g) (feN (fun i => Pl.cr (y.h i 0) (-1000) 1000) 1 0) (Pl.cr y.x (0 : Int) (24 : Int)) (IntKind.i64.wrap ((y.h 0 0) * (1 : Int))) (IntKind.i64.wrap ((y.g 0 0) * (1 : Int))) (IntKind.i64.wrap ((0 : Int) - (IntKind.i64.wrap ((y.g 0 0) * (1 : Int))))) (by omega) hb)
          | q + 1, hj, hb, hk => rw [← (st1_at y _).2] at hb; exact st1f3_s y q h0 h1 h2 (st1_b1 y (cpV 2 y.g) (feN (fun i => Pl.cr (y.h i 0) (-1000) 1000) 1 0) (Pl.cr y.x (0 : Int) (24 : Int)) (IntKind.i64.wrap ((y.h 0 0) * (1 : Int))) (IntKind.i64.wrap ((y.g 0 0) * (1 : Int))) (IntKind.i64.wrap ((0 : Int) - (IntKind.i64.wrap ((y.g 0 0) * (1 : Int))))) q (by omega) (by omega) (fun i hi => by
            have hk := hk i (by omega)
            rw [← (st1_at y i).2] at hk
            exact hk) hb)
      · have ev : (th2 (th2 (th2 (cpV 2 y.g) (feN (fun i => Pl.cr (y.h i 0) (-1000) 1000) 1 0)) (Pl.cr y.x (0 : Int) (24 : Int))) 4) = Pl.cr y.x (0 : Int) (24 : Int) := by
          rw [h0, h1, show th2 (th2 (0 : Int) 0) (Pl.cr y.x (0 : Int) (24 : Int)) = Pl.cr y.x (0 : Int) (24 : Int) from rfl]; exact if_neg h2
        rw [ev]; exact st1f4_s y h0 h1 h2
    · have ev : (th2 (th2 (th2 (cpV 2 y.g) (feN (fun i => Pl.cr (y.h i 0) (-1000) 1000) 1 0)) (Pl.cr y.x (0 : Int) (24 : Int))) 4) = feN (fun i => Pl.cr (y.h i 0) (-1000) 1000) 1 0 := by
        rw [h0, show th2 (0 : Int) (feN (fun i => Pl.cr (y.h i 0) (-1000) 1000) 1 0) = feN (fun i => Pl.cr (y.h i 0) (-1000) 1000) 1 0 from rfl]
        unfold th2
        rw [if_neg h1, if_neg h1]
      rw [ev]; exact st1f5_s y h0 h1
  · have ev : (th2 (th2 (th2 (cpV 2 y.g) (feN (fun i => Pl.cr (y.h i 0) (-1000) 1000) 1 0)) (Pl.cr y.x (0 : Int) (24 : Int))) 4) = cpV 2 y.g := by
      unfold th2
      rw [if_neg h0, if_neg h0, if_neg h0]
    rw [ev]; exact st1f6_s y h0
def kS1 : CallS := fun f xs s q => match decide (f = 50) with
  | true => match xs.toList, q.rest with
    | [.slice (some ⟨b, 0, none⟩) 2 c, .slice (some ⟨b2, 0, none⟩) 1 c2, .int .i64 x], .n dd :: rest => match Nat.ble 6 b, Nat.ble 6 b2, Nat.beq b b2, rowK 1 .i64 s b 2, rowK 1 .i64 s b2 1, dd with
      | true, true, false, some (g, e, opn, sz, ro, p), some (h, e2, opn2, sz2, ro2, p2), 2 => some (.tuple #[.slice (some ⟨s.next, 0, none⟩) 1 1, .int .i64 (0 : Int)], s.push (.cells [.int .i64 (IntKind.i64.wrap ((h 0 0) * (1 : Int)))] 3 false 0 false), 2 ^ b ||| 2 ^ b2, 0, ⟨rest, q.ob ∧ (p ∧ p2 ∧ (cpV 2 g = 0 ∧ feN (fun i => Pl.cr (h i 0) (-1000) 1000) 1 0 = 0 ∧ Pl.cr x (0 : Int) (24 : Int) = 0 ∧ ¬ (0 : Int) < x))⟩)
      | true, true, false, some (g, e, opn, sz, ro, p), some (h, e2, opn2, sz2, ro2, p2), 1 => some (.tuple #[.slice (some ⟨s.next, 0, none⟩) ((x.toNat - 1) + 2) ((x.toNat - 1) + 2), .int .i64 (0 : Int)], s.push (.rows ((x.toNat - 1) + 2) 1 (fun i j => .int .i64 ((st1F ⟨c, g, e, opn, sz, ro, c2, h, e2, opn2, sz2, ro2, x⟩ (x.toNat - 1)) i j)) 3 true 1 false), 2 ^ b ||| 2 ^ b2, 0, ⟨rest, q.ob ∧ (p ∧ p2 ∧ (cpV 2 g = 0 ∧ feN (fun i => Pl.cr (h i 0) (-1000) 1000) 1 0 = 0 ∧ Pl.cr x (0 : Int) (24 : Int) = 0 ∧ (0 : Int) < x ∧ (∀ i, i < x.toNat → Pl.cr (rt1D ⟨c, g, e, opn, sz, ro, c2, h, e2, opn2, sz2, ro2, x⟩ (i + 1)) (-1073741824 : Int) (1073741824 : Int) = 0)))⟩)
      | true, true, false, some (g, e, opn, sz, ro, p), some (h, e2, opn2, sz2, ro2, p2), 0 => some (.tuple #[.slice none 0 0, .int .i64 (th2 (th2 (th2 (cpV 2 g) (feN (fun i => Pl.cr (h i 0) (-1000) 1000) 1 0)) (Pl.cr x (0 : Int) (24 : Int))) 4)], s, 2 ^ b ||| 2 ^ b2, 0, ⟨rest, q.ob ∧ (p ∧ p2 ∧ (cpV 2 g ≠ 0 ∨ feN (fun i => Pl.cr (h i 0) (-1000) 1000) 1 0 ≠ 0 ∨ Pl.cr x (0 : Int) (24 : Int) ≠ 0 ∨ (∃ i, i < x.toNat ∧ Pl.cr (rt1D ⟨c, g, e, opn, sz, ro, c2, h, e2, opn2, sz2, ro2, x⟩ (i + 1)) (-1073741824 : Int) (1073741824 : Int) ≠ 0)))⟩)
      | _, _, _, _, _, _ => none
    | _, _ => none
  | false => none
theorem kS1_ok : FOkS Tryz.prog kS1 := fun f xs s q u s1 R W q1 he => by
  unfold kS1 at he
  split at he
  · rename_i hf
    have hf := of_decide_eq_true hf
    subst hf
    split at he
    · rename_i b c b2 c2 x dd rest hx0 hrest
      have hxs : xs = #[.slice (some ⟨b, 0, none⟩) 2 c, .slice (some ⟨b2, 0, none⟩) 1 c2, .int .i64 x] := by apply Array.ext'; exact hx0
      subst hxs
      split at he
      · rename_i g e opn sz ro p h e2 opn2 sz2 ro2 p2 k1 k2 k3 k4 k5
        cases he
        refine ⟨fun hq => hq.1, fun hq => ?_⟩
        obtain ⟨l1, l2, hx⟩ := hq.2
        obtain ⟨m1, w1⟩ := rowK_wo k4 l1
        obtain ⟨m2, w2⟩ := rowK_wo k5 l2
        have b1 := Nat.le_of_ble_eq_true k1
        have b3 := Nat.le_of_ble_eq_true k2
        have hne : b ≠ b2 := fun e => by rw [e, Nat.beq_refl] at k3; cases k3
        refine SndF.rowsNew (N := 6) (bs := [b, b2]) (s0 := wS 6 [rowI 1 2 g e opn sz ro, rowI 1 1 h e2 opn2 sz2 ro2]) (o1 := .cells [.int .i64 (IntKind.i64.wrap ((h 0 0) * (1 : Int)))] 3 false 0 false) sng (st1_o2 ⟨c, g, e, opn, sz, ro, c2, h, e2, opn2, sz2, ro2, x⟩ hx.1 hx.2.1 hx.2.2.1 hx.2.2.2) rfl (fun x' hx' => ?_) (by simp [hne]) (by omega) (fun x' hx' _ => ?_) (fun x' hx' => ?_) (fun f j hj => ?_) (fun f hl hf => wvs_three (slice_wv (hf 0 (by simp))) (slice_wv (hf 1 (by simp))) (ground_wv (n := 8) rfl)) (fun f _ hf hn => ⟨wv_tuple (wvs_two (slice_wv hn) (ground_wv (n := 8) rfl)), keep_wo (N := fun _ => false) (fun b hb => by cases hb) rfl⟩)
        · simp at hx'
          rcases hx' with rfl | rfl <;> omega
        · rcases Nat.lt_or_ge x' 6 with k | k
          · have hz := (by decide : ∀ b, b < 6 → Nat.testBit 192 b = false) x' k
            rw [hz] at hx'; cases hx'
          · exact k
        · simp at hx'
          rcases hx' with rfl | rfl <;> simp [or_bit, bit_self]
        · match j, hj with
          | 0, _ => exact w1 f
          | 1, _ => exact w2 f
      · rename_i g e opn sz ro p h e2 opn2 sz2 ro2 p2 k1 k2 k3 k4 k5
        cases he
        refine ⟨fun hq => hq.1, fun hq => ?_⟩
        obtain ⟨l1, l2, hx⟩ := hq.2
        obtain ⟨m1, w1⟩ := rowK_wo k4 l1
        obtain ⟨m2, w2⟩ := rowK_wo k5 l2
        have b1 := Nat.le_of_ble_eq_true k1
        have b3 := Nat.le_of_ble_eq_true k2
        have hne : b ≠ b2 := fun e => by rw [e, Nat.beq_refl] at k3; cases k3
        refine SndF.rowsNew (N := 6) (bs := [b, b2]) (s0 := wS 6 [rowI 1 2 g e opn sz ro, rowI 1 1 h e2 opn2 sz2 ro2]) (o1 := .rows ((x.toNat - 1) + 2) 1 (fun i j => .int .i64 ((st1F ⟨c, g, e, opn, sz, ro, c2, h, e2, opn2, sz2, ro2, x⟩ (x.toNat - 1)) i j)) 3 true 1 false) sng (st1_o1 ⟨c, g, e, opn, sz, ro, c2, h, e2, opn2, sz2, ro2, x⟩ hx.1 hx.2.1 hx.2.2.1 hx.2.2.2.1 hx.2.2.2.2) rfl (fun x' hx' => ?_) (by simp [hne]) (by omega) (fun x' hx' _ => ?_) (fun x' hx' => ?_) (fun f j hj => ?_) (fun f hl hf => wvs_three (slice_wv (hf 0 (by simp))) (slice_wv (hf 1 (by simp))) (ground_wv (n := 8) rfl)) (fun f _ hf hn => ⟨wv_tuple (wvs_two (slice_wv hn) (ground_wv (n := 8) rfl)), keep_wo (N := fun _ => false) (fun b hb => by cases hb) (fun i j => rfl)⟩)
        · simp at hx'
          rcases hx' with rfl | rfl <;> omega
        · rcases Nat.lt_or_ge x' 6 with k | k
          · have hz := (by decide : ∀ b, b < 6 → Nat.testBit 192 b = false) x' k
            rw [hz] at hx'; cases hx'
          · exact k
        · simp at hx'
          rcases hx' with rfl | rfl <;> simp [or_bit, bit_self]
        · match j, hj with
          | 0, _ => exact w1 f
          | 1, _ => exact w2 f
      · rename_i g e opn sz ro p h e2 opn2 sz2 ro2 p2 k1 k2 k3 k4 k5
        cases he
        refine ⟨fun hq => hq.1, fun hq => ?_⟩
        obtain ⟨l1, l2, hx⟩ := hq.2
        obtain ⟨m1, w1⟩ := rowK_wo k4 l1
        obtain ⟨m2, w2⟩ := rowK_wo k5 l2
        have b1 := Nat.le_of_ble_eq_true k1
        have b3 := Nat.le_of_ble_eq_true k2
        have hne : b ≠ b2 := fun e => by rw [e, Nat.beq_refl] at k3; cases k3
        refine SndF.rows (N := 6) (bs := [b, b2]) (s0 := wS 6 [rowI 1 2 g e opn sz ro, rowI 1 1 h e2 opn2 sz2 ro2]) sng (st1_o0 ⟨c, g, e, opn, sz, ro, c2, h, e2, opn2, sz2, ro2, x⟩ hx) rfl rfl (fun x' hx' => ?_) (by simp [hne]) (by omega) (fun x' hx' _ => ?_) (fun x' hx' => ?_) (fun f j hj => ?_) (fun f _ hf => ?_)
        · simp at hx'
          rcases hx' with rfl | rfl <;> omega
        · rcases Nat.lt_or_ge x' 6 with k | k
          · have hz := (by decide : ∀ b, b < 6 → Nat.testBit 192 b = false) x' k
            rw [hz] at hx'; cases hx'
          · exact k
        · simp at hx'
          rcases hx' with rfl | rfl <;> simp [or_bit, bit_self]
        · match j, hj with
          | 0, _ => exact w1 f
          | 1, _ => exact w2 f
        · exact wvs_three (slice_wv (hf 0 (by simp))) (slice_wv (hf 1 (by simp))) (ground_wv (n := 8) rfl)
      · cases he
    · cases he
  · cases he
theorem rt1_o2 (h0 : cpV 2 y.g = 0) (h1 : feN (zv0 y) 1 0 = 0) (h2 : Pl.cr y.x (0 : Int) (24 : Int) = 0) (hz : ¬ (0 : Int) < y.x) : SndF Tryz.prog 52 (rt1Args y) (wS 6 (rt1S y)) (.tuple #[.slice (some ⟨8, 0, none⟩) 1 1, .int .i64 (0 : Int)]) (wS 6 (rt1S y ++ [.rows 1 1 (fun i j => .int .i64 ((rt1F y 1) i j)) 3 true 1 false])) 192 0 :=
  rt1f0_s y h0 h1 h2 (rt1_l0 y (zv1 y) (zv2 y) (by rw [rt1_w h2]; omega) (by have := st1_lt h2; rw [rt1_w h2]; omega) (rt1_in y h0 h1))
theorem rt1_o1 (h0 : cpV 2 y.g = 0) (h1 : feN (fun i => Pl.cr (y.h i 0) (-1000) 1000) 1 0 = 0) (h2 : Pl.cr y.x (0 : Int) (24 : Int) = 0) (hz : (0 : Int) < y.x) (hk : (∀ i, i < y.x.toNat → Pl.cr (rt1D y (i + 1)) (-1073741824 : Int) (1073741824 : Int) = 0)) : SndF Tryz.prog 52 (rt1Args y) (wS 6 (rt1S y)) (.tuple #[.slice (some ⟨8, 0, none⟩) ((y.x.toNat - 1) + 2) ((y.x.toNat - 1) + 2), .int .i64 (0 : Int)]) (wS 6 (rt1S y ++ [.rows ((y.x.toNat - 1) + 2) 1 (fun i j => .int .i64 ((rt1F y ((y.x.toNat - 1) + 2)) i j)) 3 true 1 false])) 192 0 := by
  have hx := st1_lt h2
  exact rt1f1_s y (y.x.toNat - 1) h0 h1 h2 (rt1_l1 y (feN (fun i => Pl.cr (y.h i 0) (-1000) 1000) 1 0) (Pl.cr y.x (0 : Int) (24 : Int)) (y.x.toNat - 1) (by rw [rt1_w h2]; omega) (by omega) (fun i hi => by
    rcases Nat.lt_or_ge i 1 with c0 | c0
    · exact rt1_in y h0 h1 i c0
    · have hk := hk (i - 1) (by omega)
      rw [show i - 1 + 1 = i by omega] at hk
      exact hk))
theorem rt1_o0 (hp : cpV 2 y.g ≠ 0 ∨ feN (fun i => Pl.cr (y.h i 0) (-1000) 1000) 1 0 ≠ 0 ∨ Pl.cr y.x (0 : Int) (24 : Int) ≠ 0 ∨ (∃ i, i < y.x.toNat ∧ Pl.cr (rt1D y (i + 1)) (-1073741824 : Int) (1073741824 : Int) ≠ 0)) : SndF Tryz.prog 52 (rt1Args y) (wS 6 (rt1S y)) (.tuple #[.slice none 0 0, .int .i64 (th2 (th2 (th2 (cpV 2 y.g) (feN (fun i => Pl.cr (y.h i 0) (-1000) 1000) 1 0)) (Pl.cr y.x (0 : Int) (24 : Int))) 4)]) (wS 6 (rt1S y)) 192 0 := by
  by_cases h0 : cpV 2 y.g = 0
  · by_cases h1 : feN (fun i => Pl.cr (y.h i 0) (-1000) 1000) 1 0 = 0
    · by_cases h2 : Pl.cr y.x (0 : Int) (24 : Int) = 0
      · have hx := st1_lt h2
        have ev : (th2 (th2 (th2 (cpV 2 y.g) (feN (fun i => Pl.cr (y.h i 0) (-1000) 1000) 1 0)) (Pl.cr y.x (0 : Int) (24 : Int))) 4) = 4 := by rw [h0, h1, h2]; rfl
        rw [ev]
        rcases first_or (p := fun i => Pl.cr (rt1D y (i + 1)) (-1073741824 : Int) (1073741824 : Int) ≠ 0) (fun _ => inferInstance) y.x.toNat with ha | ⟨j, hj, hb, hk⟩
        · rcases hp with k | k | k | ⟨i, k1, k2⟩
          · exact absurd h0 k
          · exact absurd h1 k
          · exact absurd h2 k
          · exact absurd k2 (ha i k1)
        · have hk : ∀ i, i < j → Pl.cr (rt1D y (i + 1)) (-1073741824 : Int) (1073741824 : Int) = 0 := fun i hi => Decidable.not_not.1 (hk i hi)
          skip
          match j, hj, hb, hk with
          | 0, hj, hb, hk => exact rt1f2_s y h0 h1 h2 (rt1_b0 y (feN (fun i => Pl.cr (y.h i 0) (-1000) 1000) 1 0) (Pl.cr y.x (0 : Int) (24 : Int)) (by rw [rt1_w h2]; omega) (rt1_in y h0 h1) hb)
          | q + 1, hj, hb, hk => exact rt1f3_s y q h0 h1 h2 (rt1_b1 y (feN (fun i => Pl.cr (y.h i 0) (-1000) 1000) 1 0) (Pl.cr y.x (0 : Int) (24 : Int)) q (by rw [rt1_w h2]; omega) (by omega) (fun i hi => by
            rcases Nat.lt_or_ge i 1 with c0 | c0
            · exact rt1_in y h0 h1 i c0
            · have hk := hk (i - 1) (by omega)
              rw [show i - 1 + 1 = i by omega] at hk
              exact hk) hb)
      · have ev : (th2 (th2 (th2 (cpV 2 y.g) (feN (fun i => Pl.cr (y.h i 0) (-1000) 1000) 1 0)) (Pl.cr y.x (0 : Int) (24 : Int))) 4) = Pl.cr y.x (0 : Int) (24 : Int) := by
          rw [h0, h1, show th2 (th2 (0 : Int) 0) (Pl.cr y.x (0 : Int) (24 : Int)) = Pl.cr y.x (0 : Int) (24 : Int) from rfl]; exact if_neg h2
        rw [ev]; exact rt1f4_s y h0 h1 h2
    · have ev : (th2 (th2 (th2 (cpV 2 y.g) (feN (fun i => Pl.cr (y.h i 0) (-1000) 1000) 1 0)) (Pl.cr y.x (0 : Int) (24 : Int))) 4) = feN (fun i => Pl.cr (y.h i 0) (-1000) 1000) 1 0 := by
        rw [h0, show th2 (0 : Int) (feN (fun i => Pl.cr (y.h i 0) (-1000) 1000) 1 0) = feN (fun i => Pl.cr (y.h i 0) (-1000) 1000) 1 0 from rfl]
        unfold th2
        rw [if_neg h1, if_neg h1]
      rw [ev]; exact rt1f5_s y h0 h1
  · have ev : (th2 (th2 (th2 (cpV 2 y.g) (feN (fun i => Pl.cr (y.h i 0) (-1000) 1000) 1 0)) (Pl.cr y.x (0 : Int) (24 : Int))) 4) = cpV 2 y.g := by
      unfold th2
      rw [if_neg h0, if_neg h0, if_neg h0]
    rw [ev]; exact rt1f6_s y h0
def kT1 : CallS := fun f xs s q => match decide (f = 52) with
  | true => match xs.toList, q.rest with
    | [.slice (some ⟨b, 0, none⟩) 2 c, .slice (some ⟨b2, 0, none⟩) 1 c2, .int .i64 x], .n dd :: rest => match Nat.ble 6 b, Nat.ble 6 b2, Nat.beq b b2, rowK 1 .i64 s b 2, rowK 1 .i64 s b2 1, dd with
      | true, true, false, some (g, e, opn, sz, ro, p), some (h, e2, opn2, sz2, ro2, p2), 2 => some (.tuple #[.slice (some ⟨s.next, 0, none⟩) 1 1, .int .i64 (0 : Int)], s.push (.rows 1 1 (fun i j => .int .i64 ((rt1F ⟨c, g, e, opn, sz, ro, c2, h, e2, opn2, sz2, ro2, x⟩ 1) i j)) 3 true 1 false), 2 ^ b ||| 2 ^ b2, 0, ⟨rest, q.ob ∧ (p ∧ p2 ∧ (cpV 2 g = 0 ∧ feN (fun i => Pl.cr (h i 0) (-1000) 1000) 1 0 = 0 ∧ Pl.cr x (0 : Int) (24 : Int) = 0 ∧ ¬ (0 : Int) < x))⟩)
      | true, true, false, some (g, e, opn, sz, ro, p), some (h, e2, opn2, sz2, ro2, p2), 1 => some (.tuple #[.slice (some ⟨s.next, 0, none⟩) ((x.toNat - 1) + 2) ((x.toNat - 1) + 2), .int .i64 (0 : Int)], s.push (.rows ((x.toNat - 1) + 2) 1 (fun i j => .int .i64 ((rt1F ⟨c, g, e, opn, sz, ro, c2, h, e2, opn2, sz2, ro2, x⟩ ((x.toNat - 1) + 2)) i j)) 3 true 1 false), 2 ^ b ||| 2 ^ b2, 0, ⟨rest, q.ob ∧ (p ∧ p2 ∧ (cpV 2 g = 0 ∧ feN (fun i => Pl.cr (h i 0) (-1000) 1000) 1 0 = 0 ∧ Pl.cr x (0 : Int) (24 : Int) = 0 ∧ (0 : Int) < x ∧ (∀ i, i < x.toNat → Pl.cr (rt1D ⟨c, g, e, opn, sz, ro, c2, h, e2, opn2, sz2, ro2, x⟩ (i + 1)) (-1073741824 : Int) (1073741824 : Int) = 0)))⟩)
      | true, true, false, some (g, e, opn, sz, ro, p), some (h, e2, opn2, sz2, ro2, p2), 0 => some (.tuple #[.slice none 0 0, .int .i64 (th2 (th2 (th2 (cpV 2 g) (feN (fun i => Pl.cr (h i 0) (-1000) 1000) 1 0)) (Pl.cr x (0 : Int) (24 : Int))) 4)], s, 2 ^ b ||| 2 ^ b2, 0, ⟨rest, q.ob ∧ (p ∧ p2 ∧ (cpV 2 g ≠ 0 ∨ feN (fun i => Pl.cr (h i 0) (-1000) 1000) 1 0 ≠ 0 ∨ Pl.cr x (0 : Int) (24 : Int) ≠ 0 ∨ (∃ i, i < x.toNat ∧ Pl.cr (rt1D ⟨c, g, e, opn, sz, ro, c2, h, e2, opn2, sz2, ro2, x⟩ (i + 1)) (-1073741824 : Int) (1073741824 : Int) ≠ 0)))⟩)
      | _, _, _, _, _, _ => none
    | _, _ => none
  | false => none
theorem kT1_ok : FOkS Tryz.prog kT1 := fun f xs s q u s1 R W q1 he => by
  unfold kT1 at he
  split at he
  · rename_i hf
    have hf := of_decide_eq_true hf
    subst hf
    split at he
    · rename_i b c b2 c2 x dd rest hx0 hrest
      have hxs : xs = #[.slice (some ⟨b, 0, none⟩) 2 c, .slice (some ⟨b2, 0, none⟩) 1 c2, .int .i64 x] := by apply Array.ext'; exact hx0
      subst hxs
      split at he
      · rename_i g e opn sz ro p h e2 opn2 sz2 ro2 p2 k1 k2 k3 k4 k5
        cases he
        refine ⟨fun hq => hq.1, fun hq => ?_⟩
        obtain ⟨l1, l2, hx⟩ := hq.2
        obtain ⟨m1, w1⟩ := rowK_wo k4 l1
        obtain ⟨m2, w2⟩ := rowK_wo k5 l2
        have b1 := Nat.le_of_ble_eq_true k1
        have b3 := Nat.le_of_ble_eq_true k2
        have hne : b ≠ b2 := fun e => by rw [e, Nat.beq_refl] at k3; cases k3
        refine SndF.rowsNew (N := 6) (bs := [b, b2]) (s0 := wS 6 [rowI 1 2 g e opn sz ro, rowI 1 1 h e2 opn2 sz2 ro2]) (o1 := .rows 1 1 (fun i j => .int .i64 ((rt1F ⟨c, g, e, opn, sz, ro, c2, h, e2, opn2, sz2, ro2, x⟩ 1) i j)) 3 true 1 false) sng (rt1_o2 ⟨c, g, e, opn, sz, ro, c2, h, e2, opn2, sz2, ro2, x⟩ hx.1 hx.2.1 hx.2.2.1 hx.2.2.2) rfl (fun x' hx' => ?_) (by simp [hne]) (by omega) (fun x' hx' _ => ?_) (fun x' hx' => ?_) (fun f j hj => ?_) (fun f hl hf => wvs_three (slice_wv (hf 0 (by simp))) (slice_wv (hf 1 (by simp))) (ground_wv (n := 8) rfl)) (fun f _ hf hn => ⟨wv_tuple (wvs_two (slice_wv hn) (ground_wv (n := 8) rfl)), keep_wo (N := fun _ => false) (fun b hb => by cases hb) (fun i j => rfl)⟩)
        · simp at hx'
          rcases hx' with rfl | rfl <;> omega
        · rcases Nat.lt_or_ge x' 6 with k | k
          · have hz := (by decide : ∀ b, b < 6 → Nat.testBit 192 b = false) x' k
            rw [hz] at hx'; cases hx'
          · exact k
        · simp at hx'
          rcases hx' with rfl | rfl <;> simp [or_bit, bit_self]
        · match j, hj with
          | 0, _ => exact w1 f
          | 1, _ => exact w2 f
      · rename_i g e opn sz ro p h e2 opn2 sz2 ro2 p2 k1 k2 k3 k4 k5
        cases he
        refine ⟨fun hq => hq.1, fun hq => ?_⟩
        obtain ⟨l1, l2, hx⟩ := hq.2
        obtain ⟨m1, w1⟩ := rowK_wo k4 l1
        obtain ⟨m2, w2⟩ := rowK_wo k5 l2
        have b1 := Nat.le_of_ble_eq_true k1
        have b3 := Nat.le_of_ble_eq_true k2
        have hne : b ≠ b2 := fun e => by rw [e, Nat.beq_refl] at k3; cases k3
        refine SndF.rowsNew (N := 6) (bs := [b, b2]) (s0 := wS 6 [rowI 1 2 g e opn sz ro, rowI 1 1 h e2 opn2 sz2 ro2]) (o1 := .rows ((x.toNat - 1) + 2) 1 (fun i j => .int .i64 ((rt1F ⟨c, g, e, opn, sz, ro, c2, h, e2, opn2, sz2, ro2, x⟩ ((x.toNat - 1) + 2)) i j)) 3 true 1 false) sng (rt1_o1 ⟨c, g, e, opn, sz, ro, c2, h, e2, opn2, sz2, ro2, x⟩ hx.1 hx.2.1 hx.2.2.1 hx.2.2.2.1 hx.2.2.2.2) rfl (fun x' hx' => ?_) (by simp [hne]) (by omega) (fun x' hx' _ => ?_) (fun x' hx' => ?_) (fun f j hj => ?_) (fun f hl hf => wvs_three (slice_wv (hf 0 (by simp))) (slice_wv (hf 1 (by simp))) (ground_wv (n := 8) rfl)) (fun f _ hf hn => ⟨wv_tuple (wvs_two (slice_wv hn) (ground_wv (n := 8) rfl)), keep_wo (N := fun _ => false) (fun b hb => by cases hb) (fun i j => rfl)⟩)
        · simp at hx'
          rcases hx' with rfl | rfl <;> omega
        · rcases Nat.lt_or_ge x' 6 with k | k
          · have hz := (by decide : ∀ b, b < 6 → Nat.testBit 192 b = false) x' k
            rw [hz] at hx'; cases hx'
          · exact k
        · simp at hx'
          rcases hx' with rfl | rfl <;> simp [or_bit, bit_self]
        · match j, hj with
          | 0, _ => exact w1 f
          | 1, _ => exact w2 f
      · rename_i g e opn sz ro p h e2 opn2 sz2 ro2 p2 k1 k2 k3 k4 k5
        cases he
        refine ⟨fun hq => hq.1, fun hq => ?_⟩
        obtain ⟨l1, l2, hx⟩ := hq.2
        obtain ⟨m1, w1⟩ := rowK_wo k4 l1
        obtain ⟨m2, w2⟩ := rowK_wo k5 l2
        have b1 := Nat.le_of_ble_eq_true k1
        have b3 := Nat.le_of_ble_eq_true k2
        have hne : b ≠ b2 := fun e => by rw [e, Nat.beq_refl] at k3; cases k3
        refine SndF.rows (N := 6) (bs := [b, b2]) (s0 := wS 6 [rowI 1 2 g e opn sz ro, rowI 1 1 h e2 opn2 sz2 ro2]) sng (rt1_o0 ⟨c, g, e, opn, sz, ro, c2, h, e2, opn2, sz2, ro2, x⟩ hx) rfl rfl (fun x' hx' => ?_) (by simp [hne]) (by omega) (fun x' hx' _ => ?_) (fun x' hx' => ?_) (fun f j hj => ?_) (fun f _ hf => ?_)
        · simp at hx'
          rcases hx' with rfl | rfl <;> omega
        · rcases Nat.lt_or_ge x' 6 with k | k
          · have hz := (by decide : ∀ b, b < 6 → Nat.testBit 192 b = false) x' k
            rw [hz] at hx'; cases hx'
          · exact k
        · simp at hx'
          rcases hx' with rfl | rfl <;> simp [or_bit, bit_self]
        · match j, hj with
          | 0, _ => exact w1 f
          | 1, _ => exact w2 f
        · exact wvs_three (slice_wv (hf 0 (by simp))) (slice_wv (hf 1 (by simp))) (ground_wv (n := 8) rfl)
      · cases he
    · cases he
  · cases he
end
end Go.Proofs.YtbkpnhbcihcgaaaGreatDoor
end
section
set_option linter.all false
set_option maxRecDepth 1000000
open Go.RowKit
namespace Go.Proofs.YtbkpnhbcihcgaaaGreatDoor
open Mini
noncomputable section
variable (y : SV) (a0 : Int) (a1 : Int) (a2 : Int) (v0 : Int) (v1 : Int) (u0 : Int) (u1 : Int) (w0 : Int) (w1 : Int) (m9 : Nat) (i34 : Nat) (g6 : GI)
noncomputable def st2X : Code := loopAt Tryz.prog 50 0
noncomputable def st2K : CallS := kAll [c_range, c_rrange, c_index]
def st2A (a0 : Int) (a1 : Int) (a2 : Int) (v0 : Int) (v1 : Int) (u0 : Int) (u1 : Int) (w0 : Int) (w1 : Int) : MA := MA.ofL 64 (jl [] 9 (jl [.slice (some ⟨9, 0, none⟩) 2 2, .slice (some ⟨11, 0, none⟩) 2 2] 22 (jl [.int .i64 y.x, .int .i64 (0 : Int)] 29 []))) []
abbrev zg0 : List MObj := [.rows 3 1 (fun i j => .int .i64 (y.g i j)) y.e y.opn y.sz y.ro, .rows 2 1 (fun i j => .int .i64 (y.h i j)) y.e2 y.opn2 y.sz2 y.ro2, .cells [.int .i64 a0, .int .i64 a1, .int .i64 a2] 26 false 0 false, .cells [.int .i64 v0, .int .i64 v1] 3 false 0 false, .cells [.int .i64 u0, .int .i64 u1] 155 false 0 false, .cells [.int .i64 w0, .int .i64 w1] 155 false 0 false]
def st2L : List MObj := (zg0 y a0 a1 a2 v0 v1 u0 u1 w0 w1)
def st2A1 (a0 : Int) (a1 : Int) (a2 : Int) (v0 : Int) (v1 : Int) (u0 : Int) (u1 : Int) (w0 : Int) (w1 : Int) (m9 : Nat) (i34 : Nat) (g6 : GI) : MA := MA.ofL 64 (jl [] 9 (jl [.slice (some ⟨12, 0, none⟩) (m9 + 3) (m9 + 3), .slice (some ⟨11, 0, none⟩) 2 2] 22 (jl [.int .i64 y.x, .int .i64 ((i34 : Nat) : Int)] 29 []))) []
abbrev zg1 : List MObj := [.rows 3 1 (fun i j => .int .i64 (y.g i j)) y.e y.opn y.sz y.ro, .rows 2 1 (fun i j => .int .i64 (y.h i j)) y.e2 y.opn2 y.sz2 y.ro2, .cells [.int .i64 a0, .int .i64 a1, .int .i64 a2] 26 false 0 false, .cells [.int .i64 v0, .int .i64 v1] 3 false 0 false, .cells [.int .i64 u0, .int .i64 u1] 155 false 0 false, .cells [.int .i64 w0, .int .i64 w1] 155 false 0 false, .rows (m9 + 3) 1 (fun i j => .int .i64 (g6 i j)) 3 true 1 false]
def st2L1 (i34 : Nat) (g6 : GI) : List MObj := (zg1 y a0 a1 a2 v0 v1 u0 u1 w0 w1 m9 g6)
noncomputable def st2r0 : Option OutCS := evK Tryz.prog st2K 1000 false st2X (st2A y a0 a1 a2 v0 v1 u0 u1 w0 w1) (wS 6 (st2L y a0 a1 a2 v0 v1 u0 u1 w0 w1)) ⟨[1, 1, 0, 0, 1, 1, 1, 0, 0], True⟩
noncomputable def st2r1 : Option OutCS := evK Tryz.prog st2K 1000 false st2X (st2A y a0 a1 a2 v0 v1 u0 u1 w0 w1) (wS 6 (st2L y a0 a1 a2 v0 v1 u0 u1 w0 w1)) ⟨[1, 1, 0, 0, 1, 1, 1, 0, 1], True⟩
abbrev zg2 := jl [] 6 (jl [.slice none 0 0, .int .i64 (4 : Int)] 56 [])
def st2r1E (y : SV) (a0 : Int) (a1 : Int) (a2 : Int) (v0 : Int) (v1 : Int) (u0 : Int) (u1 : Int) (w0 : Int) (w1 : Int) : MA := MA.ofL 64 zg2 []
noncomputable def st2r2 : Option OutCS := evK Tryz.prog st2K 1000 false st2X (st2A y a0 a1 a2 v0 v1 u0 u1 w0 w1) (wS 6 (st2L y a0 a1 a2 v0 v1 u0 u1 w0 w1)) ⟨[0], True⟩
def st2r2E (y : SV) (a0 : Int) (a1 : Int) (a2 : Int) (v0 : Int) (v1 : Int) (u0 : Int) (u1 : Int) (w0 : Int) (w1 : Int) : MA := MA.ofL 64 (jl [] 9 (jl [.slice (some ⟨9, 0, none⟩) 2 2] 54 [])) []
noncomputable def st2r3 : Option OutCS := evK Tryz.prog st2K 1000 false st2X (st2A1 y a0 a1 a2 v0 v1 u0 u1 w0 w1 m9 i34 g6) (wS 6 (st2L1 y a0 a1 a2 v0 v1 u0 u1 w0 w1 m9 i34 g6)) ⟨[1, 1, 0, .azz (.int .i64 ((i34 : Nat) : Int)), .row i34 0, .row i34 0, 1, 1, .azz (.int .i64 ((i34 + 1 : Nat) : Int)), .row (i34 + 1) 0, .row (i34 + 1) 0, 0, 0, .row 0 0, .azz (.int .i64 ((i34 + 1 : Nat) : Int))], True⟩
noncomputable def st2r4 : Option OutCS := evK Tryz.prog st2K 1000 false st2X (st2A1 y a0 a1 a2 v0 v1 u0 u1 w0 w1 m9 i34 g6) (wS 6 (st2L1 y a0 a1 a2 v0 v1 u0 u1 w0 w1 m9 i34 g6)) ⟨[1, 1, 0, .azz (.int .i64 ((i34 : Nat) : Int)), .row i34 0, .row i34 0, 1, 1, .azz (.int .i64 ((i34 + 1 : Nat) : Int)), .row (i34 + 1) 0, .row (i34 + 1) 0, 0, 1], True⟩
def st2r4E (y : SV) (a0 : Int) (a1 : Int) (a2 : Int) (v0 : Int) (v1 : Int) (u0 : Int) (u1 : Int) (w0 : Int) (w1 : Int) (m9 : Nat) (i34 : Nat) (g6 : GI) : MA := MA.ofL 64 zg2 []
noncomputable def st2r5 : Option OutCS := evK Tryz.prog st2K 1000 false st2X (st2A1 y a0 a1 a2 v0 v1 u0 u1 w0 w1 m9 i34 g6) (wS 6 (st2L1 y a0 a1 a2 v0 v1 u0 u1 w0 w1 m9 i34 g6)) ⟨[0], True⟩
def st2r5E (y : SV) (a0 : Int) (a1 : Int) (a2 : Int) (v0 : Int) (v1 : Int) (u0 : Int) (u1 : Int) (w0 : Int) (w1 : Int) (m9 : Nat) (i34 : Nat) (g6 : GI) : MA := MA.ofL 64 (jl [] 9 (jl [.slice (some ⟨12, 0, none⟩) (m9 + 3) (m9 + 3)] 54 [])) []
theorem st2K_ok : FOkS Tryz.prog st2K := kAll_ok _ ⟨k_range, k_rrange, k_index, trivial⟩
abbrev zg3 := IntKind.i64.wrap ((IntKind.i64.wrap ((0 : Int) + (IntKind.i64.wrap (w0 * v0)))) + (IntKind.i64.wrap (w1 * v1)))
abbrev zg4 := fun i j => ([v0, v1, (zg3 v0 v1 w0 w1)] : List Int).getD (i * 1 + j) 0
abbrev zg5 : List MObj := [.rows 3 1 (fun i j => .int .i64 (y.g i j)) y.e y.opn y.sz y.ro, .rows 2 1 (fun i j => .int .i64 (y.h i j)) y.e2 y.opn2 y.sz2 y.ro2, .cells [.int .i64 a0, .int .i64 a1, .int .i64 a2] 26 false 0 false, .cells [.int .i64 v0, .int .i64 v1] 3 false 0 false, .cells [.int .i64 u0, .int .i64 u1] 155 false 0 false, .cells [.int .i64 w0, .int .i64 w1] 155 false 0 false, .cells [.int .i64 v0, .int .i64 v1, .int .i64 (zg3 v0 v1 w0 w1)] 3 true 1 false]
abbrev zg6 := (decide ((0 : Int) < (((2 : Nat)) : Int))) = true
abbrev zg7 := (decide ((IntKind.i64.wrap ((0 : Int) + (1 : Int))) < (((2 : Nat)) : Int))) = true
abbrev zg8 := (IntKind.i64.wrap ((0 : Int) + (1 : Int))) = (Int.ofNat 1)
abbrev zg9 := (decide ((IntKind.i64.wrap ((IntKind.i64.wrap ((0 : Int) + (1 : Int))) + (1 : Int))) < (((2 : Nat)) : Int))) = false
abbrev zg10 := ((((((((True ∧ ((decide ((0 : Int) < y.x)) = true)) ∧ zg6) ∧ ((0 : Int) = (Int.ofNat 0))) ∧ ((IntKind.i64.wrap ((0 : Int) + (0 : Int))) = (Int.ofNat 0))) ∧ zg7) ∧ zg8) ∧ ((IntKind.i64.wrap ((0 : Int) + (IntKind.i64.wrap ((0 : Int) + (1 : Int))))) = (Int.ofNat 1))) ∧ zg9) ∧ True
abbrev zg11 := (Pl.cr (zg3 v0 v1 w0 w1) (- (1073741824 : Int)) (1073741824 : Int)) != (0 : Int)
theorem st2r0_eq : seenK 6 6 [13] 25769805312 4096 (st2r0 y a0 a1 a2 v0 v1 u0 u1 w0 w1) = some (.normal, st2A1 y a0 a1 a2 v0 v1 u0 u1 w0 w1 0 1 (zg4 v0 v1 w0 w1), (zg5 y a0 a1 a2 v0 v1 u0 u1 w0 w1), 4096, ⟨[], ((zg10 y) ∧ ((zg11 v0 v1 w0 w1) = false))⟩) := by kernel_rfl
abbrev zg12 := Pl.cr (zg3 v0 v1 w0 w1) (-1073741824 : Int) (1073741824 : Int)
theorem st2r0_k (h0 : (0 : Int) < y.x) (h1 : (zg12 v0 v1 w0 w1) = (0 : Int)) : KC Tryz.prog none st2X (st2A y a0 a1 a2 v0 v1 u0 u1 w0 w1).act (wS 6 (st2L y a0 a1 a2 v0 v1 u0 u1 w0 w1)) .normal (st2A1 y a0 a1 a2 v0 v1 u0 u1 w0 w1 0 1 (zg4 v0 v1 w0 w1)).act (wS 6 (st2L1 y a0 a1 a2 v0 v1 u0 u1 w0 w1 0 1 (zg4 v0 v1 w0 w1))) 12 4096 := by
  refine KT.toldAs (L := (zg5 y a0 a1 a2 v0 v1 u0 u1 w0 w1)) ?_ (by
    simp only [List.map_cons, List.map_nil, st2L, st2L1]
    all_goals exact kr)
  exact seenK_ok smx st2K_ok sng (st2r0_eq y a0 a1 a2 v0 v1 u0 u1 w0 w1) kq
theorem st2r1_eq : seenK 6 6 [] 192 4096 (st2r1 y a0 a1 a2 v0 v1 u0 u1 w0 w1) = some (.ret, st2r1E y a0 a1 a2 v0 v1 u0 u1 w0 w1, (zg0 y a0 a1 a2 v0 v1 u0 u1 w0 w1), 4096, ⟨[], ((zg10 y) ∧ ((zg11 v0 v1 w0 w1) = true))⟩) := by kernel_rfl
abbrev zg13 := wS 6 (zg0 y a0 a1 a2 v0 v1 u0 u1 w0 w1)
theorem st2r1_k (h0 : (0 : Int) < y.x) (h1 : (zg12 v0 v1 w0 w1) ≠ (0 : Int)) : KC Tryz.prog none st2X (st2A y a0 a1 a2 v0 v1 u0 u1 w0 w1).act (wS 6 (st2L y a0 a1 a2 v0 v1 u0 u1 w0 w1)) .ret (st2r1E y a0 a1 a2 v0 v1 u0 u1 w0 w1).act (zg13 y a0 a1 a2 v0 v1 u0 u1 w0 w1) 12 4096 :=
  seenK_ok smx st2K_ok sng (st2r1_eq y a0 a1 a2 v0 v1 u0 u1 w0 w1) kq
theorem st2r2_eq : seenK 6 6 [] 512 4096 (st2r2 y a0 a1 a2 v0 v1 u0 u1 w0 w1) = some ((.exit 0), st2r2E y a0 a1 a2 v0 v1 u0 u1 w0 w1, (zg0 y a0 a1 a2 v0 v1 u0 u1 w0 w1), 4096, ⟨[], (True ∧ ((decide ((0 : Int) < y.x)) = false))⟩) := by kernel_rfl
theorem st2r2_k (h0 : ¬ (0 : Int) < y.x) : KC Tryz.prog none st2X (st2A y a0 a1 a2 v0 v1 u0 u1 w0 w1).act (wS 6 (st2L y a0 a1 a2 v0 v1 u0 u1 w0 w1)) (.exit 0) (st2r2E y a0 a1 a2 v0 v1 u0 u1 w0 w1).act (zg13 y a0 a1 a2 v0 v1 u0 u1 w0 w1) 12 4096 :=
  seenK_ok smx st2K_ok sng (st2r2_eq y a0 a1 a2 v0 v1 u0 u1 w0 w1) kq
abbrev zg14 := IntKind.i64.wrap ((IntKind.i64.wrap ((0 : Int) + (IntKind.i64.wrap (w0 * (g6 i34 0))))) + (IntKind.i64.wrap (w1 * (g6 (i34 + 1) 0))))
abbrev zg15 := pushI (m9 + 3) g6 [(zg14 w0 w1 i34 g6)]
abbrev zg16 : List MObj := [.rows 3 1 (fun i j => .int .i64 (y.g i j)) y.e y.opn y.sz y.ro, .rows 2 1 (fun i j => .int .i64 (y.h i j)) y.e2 y.opn2 y.sz2 y.ro2, .cells [.int .i64 a0, .int .i64 a1, .int .i64 a2] 26 false 0 false, .cells [.int .i64 v0, .int .i64 v1] 3 false 0 false, .cells [.int .i64 u0, .int .i64 u1] 155 false 0 false, .cells [.int .i64 w0, .int .i64 w1] 155 false 0 false, .rows (m9 + 4) 1 (fun i j => tellV (invN 12 [14]) 8 ((pushRow (m9 + 3) 1 (fun i j => .int .i64 (g6 i j)) [.int .i64 (zg14 w0 w1 i34 g6)]) i j)) 3 true 1 false]
abbrev zg17 := ((((((((((((True ∧ ((decide ((((i34 : Nat)) : Int) < y.x)) = true)) ∧ zg6) ∧ ((0 : Int) = (Int.ofNat 0))) ∧ (((.int .i64 (IntKind.i64.wrap ((((i34 : Nat)) : Int) + (0 : Int)))) : Value) = (.int .i64 (((i34 : Nat)) : Int)))) ∧ (((((i34 : Nat)) : Int) = (Int.ofNat i34)) ∧ (i34 < (m9 + 3)))) ∧ (((0 + (i34 * 1)) = ((i34 * 1) + 0)) ∧ (i34 < (m9 + 3)))) ∧ zg7) ∧ zg8) ∧ (((.int .i64 (IntKind.i64.wrap ((((i34 : Nat)) : Int) + (IntKind.i64.wrap ((0 : Int) + (1 : Int)))))) : Value) = (.int .i64 ((((i34 + 1) : Nat)) : Int)))) ∧ ((((((i34 + 1) : Nat)) : Int) = (Int.ofNat (i34 + 1))) ∧ ((i34 + 1) < (m9 + 3)))) ∧ (((0 + ((i34 + 1) * 1)) = (((i34 + 1) * 1) + 0)) ∧ ((i34 + 1) < (m9 + 3)))) ∧ zg9) ∧ True
abbrev zg18 := (Pl.cr (zg14 w0 w1 i34 g6) (- (1073741824 : Int)) (1073741824 : Int)) != (0 : Int)
theorem st2r3_eq : seenK 6 6 [14] 25769805312 4096 (st2r3 y a0 a1 a2 v0 v1 u0 u1 w0 w1 m9 i34 g6) = some (.normal, st2A1 y a0 a1 a2 v0 v1 u0 u1 w0 w1 (m9 + 1) (i34 + 1) (zg15 w0 w1 m9 i34 g6), (zg16 y a0 a1 a2 v0 v1 u0 u1 w0 w1 m9 i34 g6), 4096, ⟨[], ((((zg17 y m9 i34) ∧ ((zg18 w0 w1 i34 g6) = false)) ∧ (((m9 + 3) = (m9 + 3)) ∧ (((m9 + 3) = (m9 + 3)) ∧ ((((m9 + 3) + 1) * 8) ≤ (140737488355328 : Nat))))) ∧ (((.int .i64 (IntKind.i64.wrap ((((i34 : Nat)) : Int) + (1 : Int)))) : Value) = (.int .i64 ((((i34 + 1) : Nat)) : Int))))⟩) := by kernel_rfl
abbrev zg19 := Pl.cr (zg14 w0 w1 i34 g6) (-1073741824 : Int) (1073741824 : Int)
theorem st2r3_k (hx : i34 = m9 + 1) (hb : m9 ≤ 1000) (h0 : ((i34 : Nat) : Int) < y.x) (h1 : (zg19 w0 w1 i34 g6) = (0 : Int)) : KC Tryz.prog none st2X (st2A1 y a0 a1 a2 v0 v1 u0 u1 w0 w1 m9 i34 g6).act (wS 6 (st2L1 y a0 a1 a2 v0 v1 u0 u1 w0 w1 m9 i34 g6)) .normal (st2A1 y a0 a1 a2 v0 v1 u0 u1 w0 w1 (m9 + 1) (i34 + 1) (zg15 w0 w1 m9 i34 g6)).act (wS 6 (st2L1 y a0 a1 a2 v0 v1 u0 u1 w0 w1 (m9 + 1) (i34 + 1) (zg15 w0 w1 m9 i34 g6))) 12 4096 := by
  refine KT.toldAs (L := (zg16 y a0 a1 a2 v0 v1 u0 u1 w0 w1 m9 i34 g6)) ?_ (by
    simp only [List.map_cons, List.map_nil, st2L, st2L1]
    all_goals exact kr)
  exact seenK_ok smx st2K_ok sng (st2r3_eq y a0 a1 a2 v0 v1 u0 u1 w0 w1 m9 i34 g6) kq
theorem st2r4_eq : seenK 6 6 [] 192 4096 (st2r4 y a0 a1 a2 v0 v1 u0 u1 w0 w1 m9 i34 g6) = some (.ret, st2r4E y a0 a1 a2 v0 v1 u0 u1 w0 w1 m9 i34 g6, (zg0 y a0 a1 a2 v0 v1 u0 u1 w0 w1), 4096, ⟨[], ((zg17 y m9 i34) ∧ ((zg18 w0 w1 i34 g6) = true))⟩) := by kernel_rfl
theorem st2r4_k (hx : i34 = m9 + 1) (hb : m9 ≤ 1000) (h0 : ((i34 : Nat) : Int) < y.x) (h1 : (zg19 w0 w1 i34 g6) ≠ (0 : Int)) : KC Tryz.prog none st2X (st2A1 y a0 a1 a2 v0 v1 u0 u1 w0 w1 m9 i34 g6).act (wS 6 (st2L1 y a0 a1 a2 v0 v1 u0 u1 w0 w1 m9 i34 g6)) .ret (st2r4E y a0 a1 a2 v0 v1 u0 u1 w0 w1 m9 i34 g6).act (zg13 y a0 a1 a2 v0 v1 u0 u1 w0 w1) 12 4096 :=
  seenK_ok smx st2K_ok sng (st2r4_eq y a0 a1 a2 v0 v1 u0 u1 w0 w1 m9 i34 g6) kq
theorem st2r5_eq : seenK 6 6 [12] 512 4096 (st2r5 y a0 a1 a2 v0 v1 u0 u1 w0 w1 m9 i34 g6) = some ((.exit 0), st2r5E y a0 a1 a2 v0 v1 u0 u1 w0 w1 m9 i34 g6, (zg1 y a0 a1 a2 v0 v1 u0 u1 w0 w1 m9 g6), 4096, ⟨[], (True ∧ ((decide ((((i34 : Nat)) : Int) < y.x)) = false))⟩) := by kernel_rfl
theorem st2r5_k (hx : i34 = m9 + 1) (hb : m9 ≤ 1000) (h0 : ¬ ((i34 : Nat) : Int) < y.x) : KC Tryz.prog none st2X (st2A1 y a0 a1 a2 v0 v1 u0 u1 w0 w1 m9 i34 g6).act (wS 6 (st2L1 y a0 a1 a2 v0 v1 u0 u1 w0 w1 m9 i34 g6)) (.exit 0) (st2r5E y a0 a1 a2 v0 v1 u0 u1 w0 w1 m9 i34 g6).act (wS 6 (zg1 y a0 a1 a2 v0 v1 u0 u1 w0 w1 m9 g6)) 12 4096 := by
  refine KT.toldAs (L := (zg1 y a0 a1 a2 v0 v1 u0 u1 w0 w1 m9 g6)) ?_ (by
    simp only [List.map_cons, List.map_nil, st2L, st2L1]
    all_goals exact kr)
  exact seenK_ok smx st2K_ok sng (st2r5_eq y a0 a1 a2 v0 v1 u0 u1 w0 w1 m9 i34 g6) kq
end
end Go.Proofs.YtbkpnhbcihcgaaaGreatDoor
end
section
set_option linter.all false
set_option maxRecDepth 1000000
open Go.RowKit
namespace Go.Proofs.YtbkpnhbcihcgaaaGreatDoor
open Mini
noncomputable section
variable (y : SV) (a0 : Int) (a1 : Int) (a2 : Int) (v0 : Int) (v1 : Int) (u0 : Int) (u1 : Int) (w0 : Int) (w1 : Int) (mm : Nat) (jj : Nat) (i : Nat)
abbrev zo0 := IntKind.i64.wrap ((IntKind.i64.wrap ((0 : Int) + (IntKind.i64.wrap (w0 * v0)))) + (IntKind.i64.wrap (w1 * v1)))
def st2RR (y : SV) (a0 : Int) (a1 : Int) (a2 : Int) (v0 : Int) (v1 : Int) (u0 : Int) (u1 : Int) (w0 : Int) (w1 : Int) : Nat → Nat → Nat → Int
  | 0 => (fun i j => ([v0, v1, (zo0 v0 v1 w0 w1)] : List Int).getD (i * 1 + j) 0)
  | q + 1 => pushI (q + 3) (st2RR y a0 a1 a2 v0 v1 u0 u1 w0 w1 q) [(IntKind.i64.wrap ((IntKind.i64.wrap ((0 : Int) + (IntKind.i64.wrap (w0 * ((st2RR y a0 a1 a2 v0 v1 u0 u1 w0 w1 q) (q + 1) 0))))) + (IntKind.i64.wrap (w1 * ((st2RR y a0 a1 a2 v0 v1 u0 u1 w0 w1 q) ((q + 1) + 1) 0)))))]
def st2EE : Nat → Int
  | 0 => (zo0 v0 v1 w0 w1)
  | q + 1 => (IntKind.i64.wrap ((IntKind.i64.wrap ((0 : Int) + (IntKind.i64.wrap (w0 * ((st2RR y a0 a1 a2 v0 v1 u0 u1 w0 w1 q) (q + 1) 0))))) + (IntKind.i64.wrap (w1 * ((st2RR y a0 a1 a2 v0 v1 u0 u1 w0 w1 q) ((q + 1) + 1) 0)))))
def st2AA : MA := match i with
  | 0 => st2A y a0 a1 a2 v0 v1 u0 u1 w0 w1
  | q + 1 => st2A1 y a0 a1 a2 v0 v1 u0 u1 w0 w1 q (q + 1) (st2RR y a0 a1 a2 v0 v1 u0 u1 w0 w1 q)
def st2LL : List MObj := match i with
  | 0 => st2L y a0 a1 a2 v0 v1 u0 u1 w0 w1
  | q + 1 => st2L1 y a0 a1 a2 v0 v1 u0 u1 w0 w1 q (q + 1) (st2RR y a0 a1 a2 v0 v1 u0 u1 w0 w1 q)
abbrev zo1 := feN (fun i => Pl.cr (y.h i 0) (-1000) 1000) 2 0
abbrev zo2 := Pl.cr y.x (0 : Int) (24 : Int)
abbrev zo3 := IntKind.i64.wrap ((y.h 1 0) * (IntKind.i64.wrap ((1 : Int) * (y.g 2 0))))
abbrev zo4 := IntKind.i64.wrap ((y.g 0 0) * (IntKind.i64.wrap ((1 : Int) * (y.g 2 0))))
abbrev zo5 := IntKind.i64.wrap ((0 : Int) - (zo4 y))
abbrev zo6 := IntKind.i64.wrap ((0 : Int) - (IntKind.i64.wrap ((y.g 1 0) * (1 : Int))))
def st2F : Nat → Nat → Nat → Int := st2RR y (cpV 3 y.g) (zo1 y) (zo2 y) (IntKind.i64.wrap ((y.h 0 0) * (1 : Int))) (zo3 y) (zo4 y) (IntKind.i64.wrap ((y.g 1 0) * (1 : Int))) (zo5 y) (zo6 y)
noncomputable def st2FK : CallS := bothX kCP (bothX kEF (kAll [c_range, c_rrange, c_index]))
def st2Args : Array Value := #[.slice (some ⟨6, 0, none⟩) 3 y.c, .slice (some ⟨7, 0, none⟩) 2 y.c2, .int .i64 y.x]
def st2S : List MObj := [.rows 3 1 (fun i j => .int .i64 (y.g i j)) y.e y.opn y.sz y.ro, .rows 2 1 (fun i j => .int .i64 (y.h i j)) y.e2 y.opn2 y.sz2 y.ro2]
noncomputable abbrev zo7 := bodyOf Tryz.prog 50
noncomputable abbrev zo8 := startM Tryz.f50 (st2Args y)
abbrev zo9 := st2A y (cpV 3 y.g) (zo1 y) (zo2 y) (IntKind.i64.wrap ((y.h 0 0) * (1 : Int))) (zo3 y) (zo4 y) (IntKind.i64.wrap ((y.g 1 0) * (1 : Int))) (zo5 y) (zo6 y)
abbrev zo10 := st2L y (cpV 3 y.g) (zo1 y) (zo2 y) (IntKind.i64.wrap ((y.h 0 0) * (1 : Int))) (zo3 y) (zo4 y) (IntKind.i64.wrap ((y.g 1 0) * (1 : Int))) (zo5 y) (zo6 y)
abbrev zo11 := st2r2E y (cpV 3 y.g) (zo1 y) (zo2 y) (IntKind.i64.wrap ((y.h 0 0) * (1 : Int))) (zo3 y) (zo4 y) (IntKind.i64.wrap ((y.g 1 0) * (1 : Int))) (zo5 y) (zo6 y)
abbrev zo12 : List MObj := [.rows 3 1 (fun i j => .int .i64 (y.g i j)) y.e y.opn y.sz y.ro, .rows 2 1 (fun i j => .int .i64 (y.h i j)) y.e2 y.opn2 y.sz2 y.ro2, .cells [.int .i64 (cpV 3 y.g), .int .i64 (zo1 y), .int .i64 (zo2 y)] 26 false 0 false, .cells [.int .i64 (IntKind.i64.wrap ((y.h 0 0) * (1 : Int))), .int .i64 (zo3 y)] 3 false 0 false, .cells [.int .i64 (zo4 y), .int .i64 (IntKind.i64.wrap ((y.g 1 0) * (1 : Int)))] 155 false 0 false, .cells [.int .i64 (zo5 y), .int .i64 (zo6 y)] 155 false 0 false]
noncomputable def st2f0 : Option OutCS := evK Tryz.prog st2FK 1000 false zo7 (zo8 y) (wS 6 (st2S y)) ⟨[0, 0, 1, 0, 0, 1, 1, 0, 1, 2, 0, 0, 0, 1, .row 0 0, .row 0 0, .row 2 0, .row 2 0, 0, 0, 1, .row 1 0, .row 1 0, .row 2 0, .row 2 0, 1, 0, 1, 0, 1, .row 0 0, .row 0 0, .row 2 0, .row 2 0, 1, 0, 0, 1, .row 1 0, .row 1 0, .row 2 0, .row 2 0, 0, 1, 0, 1, 0, 0, 1, 1, 1, 0, .lp 25769805312 (zo9 y) 6 (zo10 y) (.exit 0) (zo11 y) (zo12 y) 12 4096], True⟩
abbrev zo13 := st2r5E y (cpV 3 y.g) (zo1 y) (zo2 y) (IntKind.i64.wrap ((y.h 0 0) * (1 : Int))) (zo3 y) (zo4 y) (IntKind.i64.wrap ((y.g 1 0) * (1 : Int))) (zo5 y) (zo6 y) mm (mm + 1) (st2F y mm)
abbrev zo14 : List MObj := [.rows 3 1 (fun i j => .int .i64 (y.g i j)) y.e y.opn y.sz y.ro, .rows 2 1 (fun i j => .int .i64 (y.h i j)) y.e2 y.opn2 y.sz2 y.ro2, .cells [.int .i64 (cpV 3 y.g), .int .i64 (zo1 y), .int .i64 (zo2 y)] 26 false 0 false, .cells [.int .i64 (IntKind.i64.wrap ((y.h 0 0) * (1 : Int))), .int .i64 (zo3 y)] 3 false 0 false, .cells [.int .i64 (zo4 y), .int .i64 (IntKind.i64.wrap ((y.g 1 0) * (1 : Int)))] 155 false 0 false, .cells [.int .i64 (zo5 y), .int .i64 (zo6 y)] 155 false 0 false, .rows (mm + 3) 1 (fun i j => .int .i64 ((st2F y mm) i j)) 3 true 1 false]
noncomputable def st2f1 : Option OutCS := evK Tryz.prog st2FK 1000 false zo7 (zo8 y) (wS 6 (st2S y)) ⟨[0, 0, 1, 0, 0, 1, 1, 0, 1, 2, 0, 0, 0, 1, .row 0 0, .row 0 0, .row 2 0, .row 2 0, 0, 0, 1, .row 1 0, .row 1 0, .row 2 0, .row 2 0, 1, 0, 1, 0, 1, .row 0 0, .row 0 0, .row 2 0, .row 2 0, 1, 0, 0, 1, .row 1 0, .row 1 0, .row 2 0, .row 2 0, 0, 1, 0, 1, 0, 0, 1, 1, 1, 0, .lp 25769805312 (zo9 y) 6 (zo10 y) (.exit 0) (zo13 y mm) (zo14 y mm) 12 4096], True⟩
abbrev zo15 := st2r1E y (cpV 3 y.g) (zo1 y) (zo2 y) (IntKind.i64.wrap ((y.h 0 0) * (1 : Int))) (zo3 y) (zo4 y) (IntKind.i64.wrap ((y.g 1 0) * (1 : Int))) (zo5 y) (zo6 y)
noncomputable def st2f2 : Option OutCS := evK Tryz.prog st2FK 1000 false zo7 (zo8 y) (wS 6 (st2S y)) ⟨[0, 0, 1, 0, 0, 1, 1, 0, 1, 2, 0, 0, 0, 1, .row 0 0, .row 0 0, .row 2 0, .row 2 0, 0, 0, 1, .row 1 0, .row 1 0, .row 2 0, .row 2 0, 1, 0, 1, 0, 1, .row 0 0, .row 0 0, .row 2 0, .row 2 0, 1, 0, 0, 1, .row 1 0, .row 1 0, .row 2 0, .row 2 0, 0, 1, 0, 1, 0, 0, 1, 1, 1, 0, .lp 25769805312 (zo9 y) 6 (zo10 y) .ret (zo15 y) (zo12 y) 12 4096], True⟩
abbrev zo16 := st2r4E y (cpV 3 y.g) (zo1 y) (zo2 y) (IntKind.i64.wrap ((y.h 0 0) * (1 : Int))) (zo3 y) (zo4 y) (IntKind.i64.wrap ((y.g 1 0) * (1 : Int))) (zo5 y) (zo6 y) jj (jj + 1) (st2F y jj)
noncomputable def st2f3 : Option OutCS := evK Tryz.prog st2FK 1000 false zo7 (zo8 y) (wS 6 (st2S y)) ⟨[0, 0, 1, 0, 0, 1, 1, 0, 1, 2, 0, 0, 0, 1, .row 0 0, .row 0 0, .row 2 0, .row 2 0, 0, 0, 1, .row 1 0, .row 1 0, .row 2 0, .row 2 0, 1, 0, 1, 0, 1, .row 0 0, .row 0 0, .row 2 0, .row 2 0, 1, 0, 0, 1, .row 1 0, .row 1 0, .row 2 0, .row 2 0, 0, 1, 0, 1, 0, 0, 1, 1, 1, 0, .lp 25769805312 (zo9 y) 6 (zo10 y) .ret (zo16 y jj) (zo12 y) 12 4096], True⟩
noncomputable def st2f4 : Option OutCS := evK Tryz.prog st2FK 1000 false zo7 (zo8 y) (wS 6 (st2S y)) ⟨[0, 0, 1, 0, 0, 1, 1, 0, 1, 2, 1, 1], True⟩
noncomputable def st2f5 : Option OutCS := evK Tryz.prog st2FK 1000 false zo7 (zo8 y) (wS 6 (st2S y)) ⟨[0, 0, 1, 0, 0, 1, 1, 1, 1], True⟩
noncomputable def st2f6 : Option OutCS := evK Tryz.prog st2FK 1000 false zo7 (zo8 y) (wS 6 (st2S y)) ⟨[0, 0, 1, 0, 1, 1], True⟩
theorem st2_go (hi : ((i : Nat) : Int) < y.x) (hb : i ≤ 1000) (h1 : Pl.cr (st2EE y a0 a1 a2 v0 v1 u0 u1 w0 w1 i) (-1073741824 : Int) (1073741824 : Int) = 0) : KC Tryz.prog none st2X (st2AA y a0 a1 a2 v0 v1 u0 u1 w0 w1 i).act (wS 6 (st2LL y a0 a1 a2 v0 v1 u0 u1 w0 w1 i)) .normal (st2AA y a0 a1 a2 v0 v1 u0 u1 w0 w1 (i + 1)).act (wS 6 (st2LL y a0 a1 a2 v0 v1 u0 u1 w0 w1 (i + 1))) 12 4096 := by
  cases i with
  | zero => exact st2r0_k y a0 a1 a2 v0 v1 u0 u1 w0 w1 hi h1
  | succ q => exact st2r3_k y a0 a1 a2 v0 v1 u0 u1 w0 w1 q (q + 1) (st2RR y a0 a1 a2 v0 v1 u0 u1 w0 w1 q) rfl (by omega) hi h1
abbrev zo17 := wS 6 [.rows 3 1 (fun i j => .int .i64 (y.g i j)) y.e y.opn y.sz y.ro, .rows 2 1 (fun i j => .int .i64 (y.h i j)) y.e2 y.opn2 y.sz2 y.ro2, .cells [.int .i64 a0, .int .i64 a1, .int .i64 a2] 26 false 0 false, .cells [.int .i64 v0, .int .i64 v1] 3 false 0 false, .cells [.int .i64 u0, .int .i64 u1] 155 false 0 false, .cells [.int .i64 w0, .int .i64 w1] 155 false 0 false]
theorem st2_l0 (hz : ¬ (0 : Int) < y.x) : KC Tryz.prog none (.loop st2X) (st2A y a0 a1 a2 v0 v1 u0 u1 w0 w1).act (wS 6 (st2L y a0 a1 a2 v0 v1 u0 u1 w0 w1)) (.exit 0) (st2r2E y a0 a1 a2 v0 v1 u0 u1 w0 w1).act (zo17 y a0 a1 a2 v0 v1 u0 u1 w0 w1) 12 4096 :=
  K_rounds (A := fun i => (st2AA y a0 a1 a2 v0 v1 u0 u1 w0 w1 i).act) (S := fun i => wS 6 (st2LL y a0 a1 a2 v0 v1 u0 u1 w0 w1 i)) 0 (fun i hi => absurd hi (Nat.not_lt_zero i)) (st2r2_k y a0 a1 a2 v0 v1 u0 u1 w0 w1 hz) (by simp)
theorem st2_l1 (hm : y.x = ((mm + 1 : Nat) : Int)) (hb : mm ≤ 900) (h1 : ∀ i, i < mm + 1 → Pl.cr (st2EE y a0 a1 a2 v0 v1 u0 u1 w0 w1 i) (-1073741824 : Int) (1073741824 : Int) = 0) : KC Tryz.prog none (.loop st2X) (st2A y a0 a1 a2 v0 v1 u0 u1 w0 w1).act (wS 6 (st2L y a0 a1 a2 v0 v1 u0 u1 w0 w1)) (.exit 0) (st2r5E y a0 a1 a2 v0 v1 u0 u1 w0 w1 mm (mm + 1) (st2RR y a0 a1 a2 v0 v1 u0 u1 w0 w1 mm)).act (wS 6 [.rows 3 1 (fun i j => .int .i64 (y.g i j)) y.e y.opn y.sz y.ro, .rows 2 1 (fun i j => .int .i64 (y.h i j)) y.e2 y.opn2 y.sz2 y.ro2, .cells [.int .i64 a0, .int .i64 a1, .int .i64 a2] 26 false 0 false, .cells [.int .i64 v0, .int .i64 v1] 3 false 0 false, .cells [.int .i64 u0, .int .i64 u1] 155 false 0 false, .cells [.int .i64 w0, .int .i64 w1] 155 false 0 false, .rows (mm + 3) 1 (fun i j => .int .i64 ((st2RR y a0 a1 a2 v0 v1 u0 u1 w0 w1 mm) i j)) 3 true 1 false]) 12 4096 :=
  K_rounds (A := fun i => (st2AA y a0 a1 a2 v0 v1 u0 u1 w0 w1 i).act) (S := fun i => wS 6 (st2LL y a0 a1 a2 v0 v1 u0 u1 w0 w1 i)) (mm + 1) (fun i hi => st2_go y a0 a1 a2 v0 v1 u0 u1 w0 w1 i (by omega) (by omega) (h1 i hi)) (st2r5_k y a0 a1 a2 v0 v1 u0 u1 w0 w1 mm (mm + 1) (st2RR y a0 a1 a2 v0 v1 u0 u1 w0 w1 mm) rfl (by omega) (by omega)) (by simp)
theorem st2_b0 (hz : (0 : Int) < y.x) (h2 : Pl.cr (st2EE y a0 a1 a2 v0 v1 u0 u1 w0 w1 0) (-1073741824 : Int) (1073741824 : Int) ≠ 0) : KC Tryz.prog none (.loop st2X) (st2A y a0 a1 a2 v0 v1 u0 u1 w0 w1).act (wS 6 (st2L y a0 a1 a2 v0 v1 u0 u1 w0 w1)) .ret (st2r1E y a0 a1 a2 v0 v1 u0 u1 w0 w1).act (zo17 y a0 a1 a2 v0 v1 u0 u1 w0 w1) 12 4096 :=
  K_rounds (A := fun i => (st2AA y a0 a1 a2 v0 v1 u0 u1 w0 w1 i).act) (S := fun i => wS 6 (st2LL y a0 a1 a2 v0 v1 u0 u1 w0 w1 i)) 0 (fun i hi => absurd hi (Nat.not_lt_zero i)) (st2r1_k y a0 a1 a2 v0 v1 u0 u1 w0 w1 hz h2) (by simp)
theorem st2_b1 (hj : ((jj + 1 : Nat) : Int) < y.x) (hb : jj ≤ 900) (h1 : ∀ i, i < jj + 1 → Pl.cr (st2EE y a0 a1 a2 v0 v1 u0 u1 w0 w1 i) (-1073741824 : Int) (1073741824 : Int) = 0) (h2 : Pl.cr (st2EE y a0 a1 a2 v0 v1 u0 u1 w0 w1 (jj + 1)) (-1073741824 : Int) (1073741824 : Int) ≠ 0) : KC Tryz.prog none (.loop st2X) (st2A y a0 a1 a2 v0 v1 u0 u1 w0 w1).act (wS 6 (st2L y a0 a1 a2 v0 v1 u0 u1 w0 w1)) .ret (st2r4E y a0 a1 a2 v0 v1 u0 u1 w0 w1 jj (jj + 1) (st2RR y a0 a1 a2 v0 v1 u0 u1 w0 w1 jj)).act (zo17 y a0 a1 a2 v0 v1 u0 u1 w0 w1) 12 4096 :=
  K_rounds (A := fun i => (st2AA y a0 a1 a2 v0 v1 u0 u1 w0 w1 i).act) (S := fun i => wS 6 (st2LL y a0 a1 a2 v0 v1 u0 u1 w0 w1 i)) (jj + 1) (fun i hi => st2_go y a0 a1 a2 v0 v1 u0 u1 w0 w1 i (by omega) (by omega) (h1 i hi)) (st2r4_k y a0 a1 a2 v0 v1 u0 u1 w0 w1 jj (jj + 1) (st2RR y a0 a1 a2 v0 v1 u0 u1 w0 w1 jj) rfl (by omega) hj h2) (by simp)
theorem st2FK_ok : FOkS Tryz.prog st2FK := bothX_ok kCP_ok (bothX_ok kEF_ok (kAll_ok _ ⟨k_range, k_rrange, k_index, trivial⟩))
abbrev zo18 : List MObj := [.cells [.int .i64 (IntKind.i64.wrap ((y.h 0 0) * (1 : Int))), .int .i64 (zo3 y)] 3 false 0 false]
abbrev zo19 := (((3 : Nat)) : Int) - (1 : Int)
abbrev zo20 := (0 : Int) = (Int.ofNat 0)
abbrev zo21 := ((((((True ∧ (((3 = 3) ∧ (∀ (i : Nat), ((i < (3 : Nat)) → (∀ (j : Nat), ((j < (1 : Nat)) → ((Value.int .i64 (y.g i j)) = (Value.int .i64 (gI (Value.int .i64 (y.g i j)))))))))) ∧ ((((3 : Nat)) : Int) ≤ (9223372036854775807 : Int)))) ∧ (((IntKind.i64.wrap zo19) == (0 : Int)) = false)) ∧ (((((2 : Nat)) : Int) != (IntKind.i64.wrap zo19)) = false)) ∧ (((2 = 2) ∧ (∀ (i : Nat), ((i < (2 : Nat)) → (∀ (j : Nat), ((j < (1 : Nat)) → ((Value.int .i64 (y.h i j)) = (Value.int .i64 (gI (Value.int .i64 (y.h i j)))))))))) ∧ ((((2 : Nat)) : Int) ≤ (9223372036854775807 : Int)))) ∧ True) ∧ ((decide ((0 : Int) < (((3 : Nat)) : Int))) = true)) ∧ zo20
abbrev zo22 := (cpV (3 : Nat) (fun (i : Nat) => (fun (j : Nat) => (gI (Value.int .i64 (y.g i j)))))) != (0 : Int)
abbrev zo23 := (IntKind.i64.wrap ((0 : Int) + (1 : Int))) = (Int.ofNat 1)
abbrev zo24 := (((zo21 y) ∧ ((zo22 y) = false)) ∧ ((decide ((IntKind.i64.wrap ((0 : Int) + (1 : Int))) < (((3 : Nat)) : Int))) = true)) ∧ zo23
abbrev zo25 := (feN (fun (i : Nat) => (Pl.cr (gI (Value.int .i64 (y.h i 0))) (- (1000 : Int)) (1000 : Int))) (2 : Nat) (0 : Nat)) != (0 : Int)
abbrev zo26 := IntKind.i64.wrap ((IntKind.i64.wrap ((0 : Int) + (1 : Int))) + (1 : Int))
abbrev zo27 := (((zo24 y) ∧ ((zo25 y) = false)) ∧ ((decide (zo26 < (((3 : Nat)) : Int))) = true)) ∧ (zo26 = (Int.ofNat 2))
abbrev zo28 := (zo2 y) != (0 : Int)
abbrev zo29 := (decide ((0 : Int) < (((2 : Nat)) : Int))) = true
abbrev zo30 := (0 : Int) = (Int.ofNat (0 : Nat))
abbrev zo31 := ((IntKind.i64.wrap zo19) = (Int.ofNat (2 : Nat))) ∧ ((2 : Nat) < (3 : Nat))
abbrev zo32 := (2 = 2) ∧ ((2 : Nat) < (3 : Nat))
abbrev zo33 := (decide ((IntKind.i64.wrap ((0 : Int) + (1 : Int))) < (((2 : Nat)) : Int))) = true
abbrev zo34 := (IntKind.i64.wrap ((0 : Int) + (1 : Int))) = (Int.ofNat (1 : Nat))
abbrev zo35 := (decide (zo26 < (((2 : Nat)) : Int))) = false
abbrev zo36 := IntKind.i64.wrap ((IntKind.i64.wrap ((IntKind.i64.wrap zo19) - (0 : Int))) - (1 : Int))
abbrev zo37 := ((((((((((((((((((((((((((((((((((((((((((zo27 y) ∧ ((zo28 y) = false)) ∧ ((decide ((IntKind.i64.wrap (zo26 + (1 : Int))) < (((3 : Nat)) : Int))) = false)) ∧ (((0 : Int) != (0 : Int)) = false)) ∧ zo29) ∧ (zo30 ∧ ((0 : Nat) < (2 : Nat)))) ∧ ((0 = 0) ∧ ((0 : Nat) < (2 : Nat)))) ∧ zo31) ∧ zo32) ∧ ((decide ((0 : Int) < (0 : Int))) = false)) ∧ zo20) ∧ zo33) ∧ (zo34 ∧ ((1 : Nat) < (2 : Nat)))) ∧ ((1 = 1) ∧ ((1 : Nat) < (2 : Nat)))) ∧ zo31) ∧ zo32) ∧ ((decide ((0 : Int) < (IntKind.i64.wrap ((0 : Int) + (1 : Int))))) = true)) ∧ ((decide ((IntKind.i64.wrap ((0 : Int) + (1 : Int))) < (IntKind.i64.wrap ((0 : Int) + (1 : Int))))) = false)) ∧ zo23) ∧ zo35) ∧ ((decide ((0 : Int) < (IntKind.i64.wrap zo19))) = true)) ∧ (zo30 ∧ ((0 : Nat) < (3 : Nat)))) ∧ ((0 = 0) ∧ ((0 : Nat) < (3 : Nat)))) ∧ zo31) ∧ zo32) ∧ ((decide ((0 : Int) < zo36)) = true)) ∧ ((decide ((IntKind.i64.wrap ((0 : Int) + (1 : Int))) < zo36)) = false)) ∧ zo20) ∧ ((decide ((IntKind.i64.wrap ((0 : Int) + (1 : Int))) < (IntKind.i64.wrap zo19))) = true)) ∧ (zo34 ∧ ((1 : Nat) < (3 : Nat)))) ∧ ((1 = 1) ∧ ((1 : Nat) < (3 : Nat)))) ∧ zo31) ∧ zo32) ∧ ((decide ((0 : Int) < (IntKind.i64.wrap ((IntKind.i64.wrap ((IntKind.i64.wrap zo19) - (IntKind.i64.wrap ((0 : Int) + (1 : Int))))) - (1 : Int))))) = false)) ∧ zo23) ∧ ((decide (zo26 < (IntKind.i64.wrap zo19))) = false)) ∧ zo29) ∧ zo20) ∧ zo20) ∧ zo33) ∧ zo23) ∧ zo23) ∧ zo35
abbrev zo38 := feN (fun (i : Nat) => (Pl.cr (y.h i 0) (- (1000 : Int)) (1000 : Int))) (2 : Nat) (0 : Nat)
abbrev zo39 := st2A y (cpV (3 : Nat) y.g) (zo38 y) (zo2 y) (IntKind.i64.wrap ((y.h 0 0) * (1 : Int))) (zo3 y) (zo4 y) (IntKind.i64.wrap ((y.g 1 0) * (1 : Int))) (zo5 y) (zo6 y)
abbrev zo40 := HAppend.hAppend (List.replicate (6 : Nat) MObj.hole) (st2L y (cpV (3 : Nat) y.g) (zo38 y) (zo2 y) (IntKind.i64.wrap ((y.h 0 0) * (1 : Int))) (zo3 y) (zo4 y) (IntKind.i64.wrap ((y.g 1 0) * (1 : Int))) (zo5 y) (zo6 y))
abbrev zo41 := ((zo39 y) = (zo39 y)) ∧ ((12 = (6 + 6)) ∧ ((zo40 y) = (zo40 y)))
abbrev zo42 := wS 6 (zo10 y)
abbrev zo43 := wS 6 (zo12 y)
theorem st2f0_eq : seenF' Tryz.prog Tryz.f50 6 2 [9] (st2f0 y) = some (.tuple #[.slice (some ⟨8, 0, none⟩) 2 2, .int .i64 (0 : Int)], st2S y ++ (zo18 y), ⟨[], ((zo37 y) ∧ ((zo41 y) ∧ KC Tryz.prog none (.loop st2X) (zo9 y).act (zo42 y) (.exit 0) (zo11 y).act (zo43 y) 12 4096))⟩) := by kernel_rfl
theorem st2f0_s (h0 : (cpV 3 y.g) = (0 : Int)) (h1 : (zo1 y) = (0 : Int)) (h2 : (zo2 y) = (0 : Int)) (l0 : KC Tryz.prog none (.loop st2X) (zo9 y).act (zo42 y) (.exit 0) (zo11 y).act (zo43 y) 12 4096) : SndF Tryz.prog 50 (st2Args y) (wS 6 (st2S y)) (.tuple #[.slice (some ⟨8, 0, none⟩) 2 2, .int .i64 (0 : Int)]) (wS 6 (st2S y ++ (zo18 y))) 192 0 :=
  kF (L := st2S y) (L2 := (zo18 y)) (ms := [9]) st2FK_ok (st2f0_eq y) kq
abbrev zo44 : List MObj := [.rows (mm + 3) 1 (fun i j => .int .i64 ((st2F y mm) i j)) 3 true 1 false]
abbrev zo45 := wS 6 (zo14 y mm)
theorem st2f1_eq : seenF' Tryz.prog Tryz.f50 6 2 [12] (st2f1 y mm) = some (.tuple #[.slice (some ⟨8, 0, none⟩) (mm + 3) (mm + 3), .int .i64 (0 : Int)], st2S y ++ (zo44 y mm), ⟨[], ((zo37 y) ∧ ((zo41 y) ∧ KC Tryz.prog none (.loop st2X) (zo9 y).act (zo42 y) (.exit 0) (zo13 y mm).act (zo45 y mm) 12 4096))⟩) := by kernel_rfl
theorem st2f1_s (h0 : (cpV 3 y.g) = (0 : Int)) (h1 : (zo1 y) = (0 : Int)) (h2 : (zo2 y) = (0 : Int)) (l0 : KC Tryz.prog none (.loop st2X) (zo9 y).act (zo42 y) (.exit 0) (zo13 y mm).act (zo45 y mm) 12 4096) : SndF Tryz.prog 50 (st2Args y) (wS 6 (st2S y)) (.tuple #[.slice (some ⟨8, 0, none⟩) (mm + 3) (mm + 3), .int .i64 (0 : Int)]) (wS 6 (st2S y ++ (zo44 y mm))) 192 0 :=
  kF (L := st2S y) (L2 := (zo44 y mm)) (ms := [12]) st2FK_ok (st2f1_eq y mm) kq
theorem st2f2_eq : seenF' Tryz.prog Tryz.f50 6 2 [] (st2f2 y) = some (.tuple #[.slice none 0 0, .int .i64 (4 : Int)], st2S y ++ [], ⟨[], ((zo37 y) ∧ ((zo41 y) ∧ KC Tryz.prog none (.loop st2X) (zo9 y).act (zo42 y) .ret (zo15 y).act (zo43 y) 12 4096))⟩) := by kernel_rfl
theorem st2f2_s (h0 : (cpV 3 y.g) = (0 : Int)) (h1 : (zo1 y) = (0 : Int)) (h2 : (zo2 y) = (0 : Int)) (l0 : KC Tryz.prog none (.loop st2X) (zo9 y).act (zo42 y) .ret (zo15 y).act (zo43 y) 12 4096) : SndF Tryz.prog 50 (st2Args y) (wS 6 (st2S y)) (.tuple #[.slice none 0 0, .int .i64 (4 : Int)]) (wS 6 (st2S y)) 192 0 :=
  kF (L := st2S y) (L2 := []) (ms := []) st2FK_ok (st2f2_eq y) kq
theorem st2f3_eq : seenF' Tryz.prog Tryz.f50 6 2 [] (st2f3 y jj) = some (.tuple #[.slice none 0 0, .int .i64 (4 : Int)], st2S y ++ [], ⟨[], ((zo37 y) ∧ ((zo41 y) ∧ KC Tryz.prog none (.loop st2X) (zo9 y).act (zo42 y) .ret (zo16 y jj).act (zo43 y) 12 4096))⟩) := by kernel_rfl
theorem st2f3_s (h0 : (cpV 3 y.g) = (0 : Int)) (h1 : (zo1 y) = (0 : Int)) (h2 : (zo2 y) = (0 : Int)) (l0 : KC Tryz.prog none (.loop st2X) (zo9 y).act (zo42 y) .ret (zo16 y jj).act (zo43 y) 12 4096) : SndF Tryz.prog 50 (st2Args y) (wS 6 (st2S y)) (.tuple #[.slice none 0 0, .int .i64 (4 : Int)]) (wS 6 (st2S y)) 192 0 :=
  kF (L := st2S y) (L2 := []) (ms := []) st2FK_ok (st2f3_eq y jj) kq
abbrev zo46 := (zo28 y) = true
theorem st2f4_eq : seenF' Tryz.prog Tryz.f50 6 2 [] (st2f4 y) = some (.tuple #[.slice none 0 0, .int .i64 (zo2 y)], st2S y ++ [], ⟨[], (((zo27 y) ∧ (zo46 y)) ∧ (zo46 y))⟩) := by kernel_rfl
theorem st2f4_s (h0 : (cpV 3 y.g) = (0 : Int)) (h1 : (zo1 y) = (0 : Int)) (h2 : (zo2 y) ≠ (0 : Int)) : SndF Tryz.prog 50 (st2Args y) (wS 6 (st2S y)) (.tuple #[.slice none 0 0, .int .i64 (zo2 y)]) (wS 6 (st2S y)) 192 0 :=
  kF (L := st2S y) (L2 := []) (ms := []) st2FK_ok (st2f4_eq y) kq
abbrev zo47 := (zo25 y) = true
theorem st2f5_eq : seenF' Tryz.prog Tryz.f50 6 2 [] (st2f5 y) = some (.tuple #[.slice none 0 0, .int .i64 (zo1 y)], st2S y ++ [], ⟨[], (((zo24 y) ∧ (zo47 y)) ∧ (zo47 y))⟩) := by kernel_rfl
theorem st2f5_s (h0 : (cpV 3 y.g) = (0 : Int)) (h1 : (zo1 y) ≠ (0 : Int)) : SndF Tryz.prog 50 (st2Args y) (wS 6 (st2S y)) (.tuple #[.slice none 0 0, .int .i64 (zo1 y)]) (wS 6 (st2S y)) 192 0 :=
  kF (L := st2S y) (L2 := []) (ms := []) st2FK_ok (st2f5_eq y) kq
abbrev zo48 := (zo22 y) = true
theorem st2f6_eq : seenF' Tryz.prog Tryz.f50 6 2 [] (st2f6 y) = some (.tuple #[.slice none 0 0, .int .i64 (cpV 3 y.g)], st2S y ++ [], ⟨[], (((zo21 y) ∧ (zo48 y)) ∧ (zo48 y))⟩) := by kernel_rfl
theorem st2f6_s (h0 : (cpV 3 y.g) ≠ (0 : Int)) : SndF Tryz.prog 50 (st2Args y) (wS 6 (st2S y)) (.tuple #[.slice none 0 0, .int .i64 (cpV 3 y.g)]) (wS 6 (st2S y)) 192 0 :=
  kF (L := st2S y) (L2 := []) (ms := []) st2FK_ok (st2f6_eq y) kq
end
end Go.Proofs.YtbkpnhbcihcgaaaGreatDoor
end
section
set_option linter.all false
set_option maxRecDepth 1000000
open Go.RowKit
namespace Go.Proofs.YtbkpnhbcihcgaaaGreatDoor
open Mini
noncomputable section
variable (y : SV) (a0 : Int) (a1 : Int) (g3 : GI) (m11 : Nat) (i12 : Nat)
noncomputable def rt2X : Code := loopAt Tryz.prog 52 0
noncomputable def rt2K : CallS := kAll [c_range, c_rrange, c_index]
def rt2A (a0 : Int) (a1 : Int) : MA := MA.ofL 102 (jl [.slice (some ⟨6, 0, none⟩) 3 y.c, .slice (some ⟨7, 0, none⟩) 2 y.c2, .int .i64 y.x] 6 (jl [.int .i64 (2 : Int), .chan none, .slice none 0 0, .int .i64 (0 : Int)] 89 [])) []
abbrev zk0 : List MObj := [.rows 3 1 (fun i j => .int .i64 (y.g i j)) y.e y.opn y.sz y.ro, .rows 2 1 (fun i j => .int .i64 (y.h i j)) y.e2 y.opn2 y.sz2 y.ro2, .cells [.int .i64 a0, .int .i64 a1] 3 false 0 false]
def rt2L : List MObj := (zk0 y a0 a1)
def rt2A1 (a0 : Int) (a1 : Int) (g3 : GI) : MA := MA.ofL 102 (jl [.slice (some ⟨6, 0, none⟩) 3 y.c, .slice (some ⟨7, 0, none⟩) 2 y.c2, .int .i64 y.x] 6 (jl [.int .i64 (2 : Int), .chan none, .slice (some ⟨9, 0, none⟩) 1 1, .int .i64 (1 : Int)] 89 [])) []
abbrev zk1 : List MObj := [.rows 3 1 (fun i j => .int .i64 (y.g i j)) y.e y.opn y.sz y.ro, .rows 2 1 (fun i j => .int .i64 (y.h i j)) y.e2 y.opn2 y.sz2 y.ro2, .cells [.int .i64 a0, .int .i64 a1] 3 false 0 false, .rows 1 1 (fun i j => .int .i64 (g3 i j)) 3 true 1 false]
def rt2L1 : List MObj := (zk1 y a0 a1 g3)
def rt2A2 (a0 : Int) (a1 : Int) (g3 : GI) : MA := MA.ofL 102 (jl [.slice (some ⟨6, 0, none⟩) 3 y.c, .slice (some ⟨7, 0, none⟩) 2 y.c2, .int .i64 y.x] 6 (jl [.int .i64 (2 : Int), .chan none, .slice (some ⟨9, 0, none⟩) 2 2, .int .i64 (2 : Int)] 89 [])) []
abbrev zk2 : List MObj := [.rows 3 1 (fun i j => .int .i64 (y.g i j)) y.e y.opn y.sz y.ro, .rows 2 1 (fun i j => .int .i64 (y.h i j)) y.e2 y.opn2 y.sz2 y.ro2, .cells [.int .i64 a0, .int .i64 a1] 3 false 0 false, .rows 2 1 (fun i j => .int .i64 (g3 i j)) 3 true 1 false]
def rt2L2 : List MObj := (zk2 y a0 a1 g3)
def rt2A3 (a0 : Int) (a1 : Int) (g3 : GI) (m11 : Nat) (i12 : Nat) : MA := MA.ofL 102 (jl [.slice (some ⟨6, 0, none⟩) 3 y.c, .slice (some ⟨7, 0, none⟩) 2 y.c2, .int .i64 y.x] 6 (jl [.int .i64 (2 : Int), .chan none, .slice (some ⟨9, 0, none⟩) (m11 + 3) (m11 + 3), .int .i64 ((i12 + 3 : Nat) : Int)] 89 [])) []
abbrev zk3 : List MObj := [.rows 3 1 (fun i j => .int .i64 (y.g i j)) y.e y.opn y.sz y.ro, .rows 2 1 (fun i j => .int .i64 (y.h i j)) y.e2 y.opn2 y.sz2 y.ro2, .cells [.int .i64 a0, .int .i64 a1] 3 false 0 false, .rows (m11 + 3) 1 (fun i j => .int .i64 (g3 i j)) 3 true 1 false]
def rt2L3 (i12 : Nat) : List MObj := (zk3 y a0 a1 g3 m11)
noncomputable def rt2r0 : Option OutCS := evK Tryz.prog rt2K 1000 false rt2X (rt2A y a0 a1) (wS 6 (rt2L y a0 a1)) ⟨[1, 1, .row 0 0, .row 0 0, .row 2 0, .row 2 0, 0, 1, 1, 1, 1, 0, 0], True⟩
abbrev zk4 := jl [] 6 (jl [.slice none 0 0, .int .i64 (4 : Int)] 94 [])
noncomputable def rt2r3 : Option OutCS := evK Tryz.prog rt2K 1000 false rt2X (rt2A1 y a0 a1 g3) (wS 6 (rt2L1 y a0 a1 g3)) ⟨[1, 1, .row 1 0, .row 1 0, .row 2 0, .row 2 0, 1, 0, 1, 1, 1, 1, 0, 0, .row 0 0], True⟩
noncomputable def rt2r6 : Option OutCS := evK Tryz.prog rt2K 1000 false rt2X (rt2A2 y a0 a1 g3) (wS 6 (rt2L2 y a0 a1 g3)) ⟨[1, 0, 1, 1, 1, 1, 1, .row 0 0, .row 0 0, .row 0 0, .row 0 0, .row 2 0, .row 2 0, 1, 0, 1, 1, 1, 1, 1, .row 1 0, .row 1 0, .row 1 0, .row 1 0, .row 2 0, .row 2 0, 0, 0, 0, 0, 0, 0, 0, .row 0 0], True⟩
noncomputable def rt2r7 : Option OutCS := evK Tryz.prog rt2K 1000 false rt2X (rt2A2 y a0 a1 g3) (wS 6 (rt2L2 y a0 a1 g3)) ⟨[1, 0, 1, 1, 1, 1, 1, .row 0 0, .row 0 0, .row 0 0, .row 0 0, .row 2 0, .row 2 0, 1, 0, 1, 1, 1, 1, 1, .row 1 0, .row 1 0, .row 1 0, .row 1 0, .row 2 0, .row 2 0, 0, 0, 0, 0, 0, 0, 1], True⟩
def rt2r7E (y : SV) (a0 : Int) (a1 : Int) (g3 : GI) : MA := MA.ofL 102 zk4 []
noncomputable def rt2r8 : Option OutCS := evK Tryz.prog rt2K 1000 false rt2X (rt2A2 y a0 a1 g3) (wS 6 (rt2L2 y a0 a1 g3)) ⟨[0], True⟩
def rt2r8E (y : SV) (a0 : Int) (a1 : Int) (g3 : GI) : MA := MA.ofL 102 (jl [] 11 (jl [.slice (some ⟨9, 0, none⟩) 2 2] 90 [])) []
noncomputable def rt2r9 : Option OutCS := evK Tryz.prog rt2K 1000 false rt2X (rt2A3 y a0 a1 g3 m11 i12) (wS 6 (rt2L3 y a0 a1 g3 m11 i12)) ⟨[1, 0, 1, 1, 1, 1, 1, .row 0 0, .row 0 0, .azz (.int .i64 ((i12 + 1 : Nat) : Int)), .azz (.int .i64 ((i12 + 1 : Nat) : Int)), .row (i12 + 1) 0, .row (i12 + 1) 0, .row 2 0, .row 2 0, 1, 0, 1, 1, 1, 1, 1, .row 1 0, .row 1 0, .azz (.int .i64 ((i12 + 1 : Nat) : Int)), .azz (.int .i64 ((i12 + 2 : Nat) : Int)), .row (i12 + 2) 0, .row (i12 + 2) 0, .row 2 0, .row 2 0, 0, 0, 0, 0, 0, 0, 0, .row 0 0, .azz (.int .i64 ((i12 + 4 : Nat) : Int))], True⟩
noncomputable def rt2r10 : Option OutCS := evK Tryz.prog rt2K 1000 false rt2X (rt2A3 y a0 a1 g3 m11 i12) (wS 6 (rt2L3 y a0 a1 g3 m11 i12)) ⟨[1, 0, 1, 1, 1, 1, 1, .row 0 0, .row 0 0, .azz (.int .i64 ((i12 + 1 : Nat) : Int)), .azz (.int .i64 ((i12 + 1 : Nat) : Int)), .row (i12 + 1) 0, .row (i12 + 1) 0, .row 2 0, .row 2 0, 1, 0, 1, 1, 1, 1, 1, .row 1 0, .row 1 0, .azz (.int .i64 ((i12 + 1 : Nat) : Int)), .azz (.int .i64 ((i12 + 2 : Nat) : Int)), .row (i12 + 2) 0, .row (i12 + 2) 0, .row 2 0, .row 2 0, 0, 0, 0, 0, 0, 0, 1], True⟩
def rt2r10E (y : SV) (a0 : Int) (a1 : Int) (g3 : GI) (m11 : Nat) (i12 : Nat) : MA := MA.ofL 102 zk4 []
noncomputable def rt2r11 : Option OutCS := evK Tryz.prog rt2K 1000 false rt2X (rt2A3 y a0 a1 g3 m11 i12) (wS 6 (rt2L3 y a0 a1 g3 m11 i12)) ⟨[0], True⟩
def rt2r11E (y : SV) (a0 : Int) (a1 : Int) (g3 : GI) (m11 : Nat) (i12 : Nat) : MA := MA.ofL 102 (jl [] 11 (jl [.slice (some ⟨9, 0, none⟩) (m11 + 3) (m11 + 3)] 90 [])) []
theorem rt2K_ok : FOkS Tryz.prog rt2K := kAll_ok _ ⟨k_range, k_rrange, k_index, trivial⟩
abbrev zk5 := fun i j => ([(IntKind.i64.wrap ((y.h 0 0) * (1 : Int)))] : List Int).getD (i * 1 + j) 0
abbrev zk6 : List MObj := [.rows 3 1 (fun i j => .int .i64 (y.g i j)) y.e y.opn y.sz y.ro, .rows 2 1 (fun i j => .int .i64 (y.h i j)) y.e2 y.opn2 y.sz2 y.ro2, .cells [.int .i64 a0, .int .i64 a1] 3 false 0 false, .cells [.int .i64 (IntKind.i64.wrap ((y.h 0 0) * (1 : Int)))] 3 true 1 false]
abbrev zk7 := decide ((0 : Int) < (IntKind.i64.wrap ((2 : Int) + y.x)))
abbrev zk8 := (decide ((0 : Int) < (2 : Int))) = true
abbrev zk9 := (0 : Int) = (Int.ofNat (0 : Nat))
abbrev zk10 := (0 = 0) ∧ ((0 : Nat) < (2 : Nat))
abbrev zk11 := ((2 : Int) = (Int.ofNat (2 : Nat))) ∧ ((2 : Nat) < (3 : Nat))
abbrev zk12 := (2 = 2) ∧ ((2 : Nat) < (3 : Nat))
abbrev zk13 := ((((((((((((True ∧ ((zk7 y) = true)) ∧ zk8) ∧ (zk9 ∧ ((0 : Nat) < (2 : Nat)))) ∧ zk10) ∧ zk11) ∧ zk12) ∧ ((decide ((0 : Int) < (0 : Int))) = false)) ∧ zk8) ∧ zk8) ∧ zk8) ∧ zk8) ∧ ((decide ((0 : Int) ≥ (2 : Int))) = false)) ∧ True
abbrev zk14 := (Pl.cr (IntKind.i64.wrap ((y.h 0 0) * (1 : Int))) (- (1073741824 : Int)) (1073741824 : Int)) != (0 : Int)
theorem rt2r0_eq : seenK 6 3 [10] 6663 512 (rt2r0 y a0 a1) = some (.normal, rt2A1 y a0 a1 (zk5 y), (zk6 y a0 a1), 512, ⟨[], ((zk13 y) ∧ ((zk14 y) = false))⟩) := by kernel_rfl
abbrev zk15 := Pl.cr (IntKind.i64.wrap ((y.h 0 0) * (1 : Int))) (-1073741824 : Int) (1073741824 : Int)
theorem rt2r0_k (h0 : (0 : Int) < (IntKind.i64.wrap ((2 : Int) + y.x))) (h1 : (zk15 y) = (0 : Int)) : KC Tryz.prog none rt2X (rt2A y a0 a1).act (wS 6 (rt2L y a0 a1)) .normal (rt2A1 y a0 a1 (zk5 y)).act (wS 6 (rt2L1 y a0 a1 (zk5 y))) 9 512 := by
  refine KT.toldAs (L := (zk6 y a0 a1)) ?_ (by
    simp only [List.map_cons, List.map_nil, rt2L, rt2L1, rt2L2, rt2L3]
    all_goals exact kr)
  exact seenK_ok smx rt2K_ok sng (rt2r0_eq y a0 a1) kq
abbrev zk16 := wS 6 (zk0 y a0 a1)
abbrev zk17 := IntKind.i64.wrap ((y.h 1 0) * (IntKind.i64.wrap ((1 : Int) * (y.g 2 0))))
abbrev zk18 := pushI 1 g3 [(zk17 y)]
abbrev zk19 : List MObj := [.rows 3 1 (fun i j => .int .i64 (y.g i j)) y.e y.opn y.sz y.ro, .rows 2 1 (fun i j => .int .i64 (y.h i j)) y.e2 y.opn2 y.sz2 y.ro2, .cells [.int .i64 a0, .int .i64 a1] 3 false 0 false, .rows 2 1 (fun i j => tellV (invN 9 [11]) 8 ((pushRow 1 1 (fun i j => .int .i64 (g3 i j)) [.int .i64 (zk17 y)]) i j)) 3 true 1 false]
abbrev zk20 := decide ((1 : Int) < (IntKind.i64.wrap ((2 : Int) + y.x)))
abbrev zk21 := (1 = 1) ∧ ((1 : Nat) < (2 : Nat))
abbrev zk22 := (((((((((((((True ∧ ((zk20 y) = true)) ∧ ((decide ((1 : Int) < (2 : Int))) = true)) ∧ (((1 : Int) = (Int.ofNat (1 : Nat))) ∧ ((1 : Nat) < (2 : Nat)))) ∧ zk21) ∧ zk11) ∧ zk12) ∧ ((decide ((0 : Int) < (1 : Int))) = true)) ∧ ((decide ((IntKind.i64.wrap ((0 : Int) + (1 : Int))) < (1 : Int))) = false)) ∧ zk8) ∧ zk8) ∧ zk8) ∧ zk8) ∧ ((decide ((1 : Int) ≥ (2 : Int))) = false)) ∧ True
abbrev zk23 := (Pl.cr (zk17 y) (- (1073741824 : Int)) (1073741824 : Int)) != (0 : Int)
theorem rt2r3_eq : seenK 6 3 [11] 6663 512 (rt2r3 y a0 a1 g3) = some (.normal, rt2A2 y a0 a1 (zk18 y g3), (zk19 y a0 a1 g3), 512, ⟨[], (((zk22 y) ∧ ((zk23 y) = false)) ∧ ((1 = 1) ∧ ((1 = 1) ∧ (16 ≤ (140737488355328 : Nat)))))⟩) := by kernel_rfl
abbrev zk24 := Pl.cr (zk17 y) (-1073741824 : Int) (1073741824 : Int)
theorem rt2r3_k (h0 : (1 : Int) < (IntKind.i64.wrap ((2 : Int) + y.x))) (h1 : (zk24 y) = (0 : Int)) : KC Tryz.prog none rt2X (rt2A1 y a0 a1 g3).act (wS 6 (rt2L1 y a0 a1 g3)) .normal (rt2A2 y a0 a1 (zk18 y g3)).act (wS 6 (rt2L2 y a0 a1 (zk18 y g3))) 9 512 := by
  refine KT.toldAs (L := (zk19 y a0 a1 g3)) ?_ (by
    simp only [List.map_cons, List.map_nil, rt2L, rt2L1, rt2L2, rt2L3]
    all_goals exact kr)
  exact seenK_ok smx rt2K_ok sng (rt2r3_eq y a0 a1 g3) kq
abbrev zk25 := IntKind.i64.wrap ((IntKind.i64.wrap ((0 : Int) - (IntKind.i64.wrap ((IntKind.i64.wrap ((y.g 0 0) * (g3 0 0))) * (IntKind.i64.wrap ((1 : Int) * (y.g 2 0))))))) - (IntKind.i64.wrap ((IntKind.i64.wrap ((y.g 1 0) * (g3 1 0))) * (1 : Int))))
abbrev zk26 := pushI 2 g3 [(zk25 y g3)]
abbrev zk27 : List MObj := [.rows 3 1 (fun i j => .int .i64 (y.g i j)) y.e y.opn y.sz y.ro, .rows 2 1 (fun i j => .int .i64 (y.h i j)) y.e2 y.opn2 y.sz2 y.ro2, .cells [.int .i64 a0, .int .i64 a1] 3 false 0 false, .rows 3 1 (fun i j => tellV (invN 9 [11]) 8 ((pushRow 2 1 (fun i j => .int .i64 (g3 i j)) [.int .i64 (zk25 y g3)]) i j)) 3 true 1 false]
abbrev zk28 := decide ((2 : Int) < (IntKind.i64.wrap ((2 : Int) + y.x)))
abbrev zk29 := (decide ((2 : Int) ≥ (2 : Int))) = true
abbrev zk30 := zk9 ∧ ((0 : Nat) < (3 : Nat))
abbrev zk31 := (0 = 0) ∧ ((0 : Nat) < (3 : Nat))
abbrev zk32 := IntKind.i64.wrap ((IntKind.i64.wrap ((2 : Int) - (0 : Int))) - (1 : Int))
abbrev zk33 := (decide ((0 : Int) < zk32)) = true
abbrev zk34 := (decide ((IntKind.i64.wrap ((0 : Int) + (1 : Int))) < zk32)) = false
abbrev zk35 := (decide ((IntKind.i64.wrap ((0 : Int) + (1 : Int))) < (2 : Int))) = true
abbrev zk36 := ((IntKind.i64.wrap ((0 : Int) + (1 : Int))) = (Int.ofNat (1 : Nat))) ∧ ((1 : Nat) < (3 : Nat))
abbrev zk37 := (1 = 1) ∧ ((1 : Nat) < (3 : Nat))
abbrev zk38 := (decide ((0 : Int) < (IntKind.i64.wrap ((IntKind.i64.wrap ((2 : Int) - (IntKind.i64.wrap ((0 : Int) + (1 : Int))))) - (1 : Int))))) = false
abbrev zk39 := (decide ((IntKind.i64.wrap ((IntKind.i64.wrap ((0 : Int) + (1 : Int))) + (1 : Int))) < (2 : Int))) = false
abbrev zk40 := ((((((((((((((((((((((((((((((((True ∧ ((zk28 y) = true)) ∧ ((decide ((2 : Int) < (2 : Int))) = false)) ∧ zk8) ∧ zk8) ∧ zk8) ∧ zk8) ∧ zk29) ∧ zk30) ∧ zk31) ∧ (((IntKind.i64.wrap ((IntKind.i64.wrap ((2 : Int) - (2 : Int))) + (0 : Int))) = (Int.ofNat (0 : Nat))) ∧ ((0 : Nat) < (2 : Nat)))) ∧ zk10) ∧ zk11) ∧ zk12) ∧ zk33) ∧ zk34) ∧ zk35) ∧ zk35) ∧ zk35) ∧ zk35) ∧ zk29) ∧ zk36) ∧ zk37) ∧ (((IntKind.i64.wrap ((IntKind.i64.wrap ((2 : Int) - (2 : Int))) + (IntKind.i64.wrap ((0 : Int) + (1 : Int))))) = (Int.ofNat (1 : Nat))) ∧ ((1 : Nat) < (2 : Nat)))) ∧ zk21) ∧ zk11) ∧ zk12) ∧ zk38) ∧ zk39) ∧ zk39) ∧ zk39) ∧ zk39) ∧ (false = false)) ∧ True
abbrev zk41 := (Pl.cr (zk25 y g3) (- (1073741824 : Int)) (1073741824 : Int)) != (0 : Int)
theorem rt2r6_eq : seenK 6 3 [11] 6663 512 (rt2r6 y a0 a1 g3) = some (.normal, rt2A3 y a0 a1 (zk26 y g3) 0 0, (zk27 y a0 a1 g3), 512, ⟨[], (((zk40 y) ∧ ((zk41 y g3) = false)) ∧ ((2 = 2) ∧ ((2 = 2) ∧ (24 ≤ (140737488355328 : Nat)))))⟩) := by kernel_rfl
abbrev zk42 := Pl.cr (zk25 y g3) (-1073741824 : Int) (1073741824 : Int)
theorem rt2r6_k (h0 : (2 : Int) < (IntKind.i64.wrap ((2 : Int) + y.x))) (h1 : (zk42 y g3) = (0 : Int)) : KC Tryz.prog none rt2X (rt2A2 y a0 a1 g3).act (wS 6 (rt2L2 y a0 a1 g3)) .normal (rt2A3 y a0 a1 (zk26 y g3) 0 0).act (wS 6 (rt2L3 y a0 a1 (zk26 y g3) 0 0)) 9 512 := by
  refine KT.toldAs (L := (zk27 y a0 a1 g3)) ?_ (by
    simp only [List.map_cons, List.map_nil, rt2L, rt2L1, rt2L2, rt2L3]
    all_goals exact kr)
  exact seenK_ok smx rt2K_ok sng (rt2r6_eq y a0 a1 g3) kq
theorem rt2r7_eq : seenK 6 3 [] 192 512 (rt2r7 y a0 a1 g3) = some (.ret, rt2r7E y a0 a1 g3, (zk0 y a0 a1), 512, ⟨[], ((zk40 y) ∧ ((zk41 y g3) = true))⟩) := by kernel_rfl
theorem rt2r7_k (h0 : (2 : Int) < (IntKind.i64.wrap ((2 : Int) + y.x))) (h1 : (zk42 y g3) ≠ (0 : Int)) : KC Tryz.prog none rt2X (rt2A2 y a0 a1 g3).act (wS 6 (rt2L2 y a0 a1 g3)) .ret (rt2r7E y a0 a1 g3).act (zk16 y a0 a1) 9 512 :=
  seenK_ok smx rt2K_ok sng (rt2r7_eq y a0 a1 g3) kq
theorem rt2r8_eq : seenK 6 3 [9] 2048 512 (rt2r8 y a0 a1 g3) = some ((.exit 0), rt2r8E y a0 a1 g3, (zk2 y a0 a1 g3), 512, ⟨[], (True ∧ ((zk28 y) = false))⟩) := by kernel_rfl
theorem rt2r8_k (h0 : ¬ (2 : Int) < (IntKind.i64.wrap ((2 : Int) + y.x))) : KC Tryz.prog none rt2X (rt2A2 y a0 a1 g3).act (wS 6 (rt2L2 y a0 a1 g3)) (.exit 0) (rt2r8E y a0 a1 g3).act (wS 6 (zk2 y a0 a1 g3)) 9 512 :=
  seenK_ok smx rt2K_ok sng (rt2r8_eq y a0 a1 g3) kq
abbrev zk43 := IntKind.i64.wrap ((IntKind.i64.wrap ((0 : Int) - (IntKind.i64.wrap ((IntKind.i64.wrap ((y.g 0 0) * (g3 (i12 + 1) 0))) * (IntKind.i64.wrap ((1 : Int) * (y.g 2 0))))))) - (IntKind.i64.wrap ((IntKind.i64.wrap ((y.g 1 0) * (g3 (i12 + 2) 0))) * (1 : Int))))
abbrev zk44 := pushI (m11 + 3) g3 [(zk43 y g3 i12)]
abbrev zk45 : List MObj := [.rows 3 1 (fun i j => .int .i64 (y.g i j)) y.e y.opn y.sz y.ro, .rows 2 1 (fun i j => .int .i64 (y.h i j)) y.e2 y.opn2 y.sz2 y.ro2, .cells [.int .i64 a0, .int .i64 a1] 3 false 0 false, .rows (m11 + 4) 1 (fun i j => tellV (invN 9 [11]) 8 ((pushRow (m11 + 3) 1 (fun i j => .int .i64 (g3 i j)) [.int .i64 (zk43 y g3 i12)]) i j)) 3 true 1 false]
abbrev zk46 := decide (((((i12 + 3) : Nat)) : Int) < (IntKind.i64.wrap ((2 : Int) + y.x)))
abbrev zk47 := (decide (((((i12 + 3) : Nat)) : Int) ≥ (2 : Int))) = true
abbrev zk48 := ((.int .i64 (IntKind.i64.wrap (((((i12 + 3) : Nat)) : Int) - (2 : Int)))) : Value) = (.int .i64 ((((i12 + 1) : Nat)) : Int))
abbrev zk49 := ((((((((((((((((((((((((((((((((((((True ∧ ((zk46 y i12) = true)) ∧ ((decide (((((i12 + 3) : Nat)) : Int) < (2 : Int))) = false)) ∧ zk8) ∧ zk8) ∧ zk8) ∧ zk8) ∧ (zk47 i12)) ∧ zk30) ∧ zk31) ∧ (zk48 i12)) ∧ (((.int .i64 (IntKind.i64.wrap (((((i12 + 1) : Nat)) : Int) + (0 : Int)))) : Value) = (.int .i64 ((((i12 + 1) : Nat)) : Int)))) ∧ ((((((i12 + 1) : Nat)) : Int) = (Int.ofNat (i12 + 1))) ∧ ((i12 + 1) < (m11 + 3)))) ∧ (((0 + ((i12 + 1) * 1)) = (((i12 + 1) * 1) + 0)) ∧ ((i12 + 1) < (m11 + 3)))) ∧ zk11) ∧ zk12) ∧ zk33) ∧ zk34) ∧ zk35) ∧ zk35) ∧ zk35) ∧ zk35) ∧ (zk47 i12)) ∧ zk36) ∧ zk37) ∧ (zk48 i12)) ∧ (((.int .i64 (IntKind.i64.wrap (((((i12 + 1) : Nat)) : Int) + (IntKind.i64.wrap ((0 : Int) + (1 : Int)))))) : Value) = (.int .i64 ((((i12 + 2) : Nat)) : Int)))) ∧ ((((((i12 + 2) : Nat)) : Int) = (Int.ofNat (i12 + 2))) ∧ ((i12 + 2) < (m11 + 3)))) ∧ (((0 + ((i12 + 2) * 1)) = (((i12 + 2) * 1) + 0)) ∧ ((i12 + 2) < (m11 + 3)))) ∧ zk11) ∧ zk12) ∧ zk38) ∧ zk39) ∧ zk39) ∧ zk39) ∧ zk39) ∧ (false = false)) ∧ True
abbrev zk50 := (Pl.cr (zk43 y g3 i12) (- (1073741824 : Int)) (1073741824 : Int)) != (0 : Int)
theorem rt2r9_eq : seenK 6 3 [11] 6663 512 (rt2r9 y a0 a1 g3 m11 i12) = some (.normal, rt2A3 y a0 a1 (zk44 y g3 m11 i12) (m11 + 1) (i12 + 1), (zk45 y a0 a1 g3 m11 i12), 512, ⟨[], ((((zk49 y m11 i12) ∧ ((zk50 y g3 i12) = false)) ∧ (((m11 + 3) = (m11 + 3)) ∧ (((m11 + 3) = (m11 + 3)) ∧ ((((m11 + 3) + 1) * 8) ≤ (140737488355328 : Nat))))) ∧ (((.int .i64 (IntKind.i64.wrap (((((i12 + 3) : Nat)) : Int) + (1 : Int)))) : Value) = (.int .i64 ((((i12 + 4) : Nat)) : Int))))⟩) := by kernel_rfl
abbrev zk51 := Pl.cr (zk43 y g3 i12) (-1073741824 : Int) (1073741824 : Int)
theorem rt2r9_k (hx : i12 = m11) (hb : m11 ≤ 1000) (h0 : ((i12 + 3 : Nat) : Int) < (IntKind.i64.wrap ((2 : Int) + y.x))) (h1 : (zk51 y g3 i12) = (0 : Int)) : KC Tryz.prog none rt2X (rt2A3 y a0 a1 g3 m11 i12).act (wS 6 (rt2L3 y a0 a1 g3 m11 i12)) .normal (rt2A3 y a0 a1 (zk44 y g3 m11 i12) (m11 + 1) (i12 + 1)).act (wS 6 (rt2L3 y a0 a1 (zk44 y g3 m11 i12) (m11 + 1) (i12 + 1))) 9 512 := by
  refine KT.toldAs (L := (zk45 y a0 a1 g3 m11 i12)) ?_ (by
    simp only [List.map_cons, List.map_nil, rt2L, rt2L1, rt2L2, rt2L3]
    all_goals exact kr)
  exact seenK_ok smx rt2K_ok sng (rt2r9_eq y a0 a1 g3 m11 i12) kq
theorem rt2r10_eq : seenK 6 3 [] 192 512 (rt2r10 y a0 a1 g3 m11 i12) = some (.ret, rt2r10E y a0 a1 g3 m11 i12, (zk0 y a0 a1), 512, ⟨[], ((zk49 y m11 i12) ∧ ((zk50 y g3 i12) = true))⟩) := by kernel_rfl
theorem rt2r10_k (hx : i12 = m11) (hb : m11 ≤ 1000) (h0 : ((i12 + 3 : Nat) : Int) < (IntKind.i64.wrap ((2 : Int) + y.x))) (h1 : (zk51 y g3 i12) ≠ (0 : Int)) : KC Tryz.prog none rt2X (rt2A3 y a0 a1 g3 m11 i12).act (wS 6 (rt2L3 y a0 a1 g3 m11 i12)) .ret (rt2r10E y a0 a1 g3 m11 i12).act (zk16 y a0 a1) 9 512 :=
  seenK_ok smx rt2K_ok sng (rt2r10_eq y a0 a1 g3 m11 i12) kq
theorem rt2r11_eq : seenK 6 3 [9] 2048 512 (rt2r11 y a0 a1 g3 m11 i12) = some ((.exit 0), rt2r11E y a0 a1 g3 m11 i12, (zk3 y a0 a1 g3 m11), 512, ⟨[], (True ∧ ((zk46 y i12) = false))⟩) := by kernel_rfl
theorem rt2r11_k (hx : i12 = m11) (hb : m11 ≤ 1000) (h0 : ¬ ((i12 + 3 : Nat) : Int) < (IntKind.i64.wrap ((2 : Int) + y.x))) : KC Tryz.prog none rt2X (rt2A3 y a0 a1 g3 m11 i12).act (wS 6 (rt2L3 y a0 a1 g3 m11 i12)) (.exit 0) (rt2r11E y a0 a1 g3 m11 i12).act (wS 6 (zk3 y a0 a1 g3 m11)) 9 512 :=
  seenK_ok smx rt2K_ok sng (rt2r11_eq y a0 a1 g3 m11 i12) kq
end
end Go.Proofs.YtbkpnhbcihcgaaaGreatDoor
end
section
set_option linter.all false
set_option maxRecDepth 1000000
open Go.RowKit
namespace Go.Proofs.YtbkpnhbcihcgaaaGreatDoor
open Mini
noncomputable section
variable (y : SV) (a0 : Int) (a1 : Int) (mm : Nat) (jj : Nat) (i : Nat)
abbrev zs0 := IntKind.i64.wrap ((y.h 1 0) * (IntKind.i64.wrap ((1 : Int) * (y.g 2 0))))
def rt2RR (y : SV) (a0 : Int) (a1 : Int) : Nat → Nat → Nat → Int
  | 0 => fun _ _ => 0
  | 1 => (fun i j => ([(IntKind.i64.wrap ((y.h 0 0) * (1 : Int)))] : List Int).getD (i * 1 + j) 0)
  | 2 => (pushI 1 (rt2RR y a0 a1 1) [(zs0 y)])
  | q + 3 => pushI (q + 2) (rt2RR y a0 a1 (q + 2)) [(IntKind.i64.wrap ((IntKind.i64.wrap ((0 : Int) - (IntKind.i64.wrap ((IntKind.i64.wrap ((y.g 0 0) * ((rt2RR y a0 a1 (q + 2)) q 0))) * (IntKind.i64.wrap ((1 : Int) * (y.g 2 0))))))) - (IntKind.i64.wrap ((IntKind.i64.wrap ((y.g 1 0) * ((rt2RR y a0 a1 (q + 2)) (q + 1) 0))) * (1 : Int)))))]
def rt2EE : Nat → Int
  | 0 => (IntKind.i64.wrap ((y.h 0 0) * (1 : Int)))
  | 1 => (zs0 y)
  | q + 2 => (IntKind.i64.wrap ((IntKind.i64.wrap ((0 : Int) - (IntKind.i64.wrap ((IntKind.i64.wrap ((y.g 0 0) * ((rt2RR y a0 a1 (q + 2)) q 0))) * (IntKind.i64.wrap ((1 : Int) * (y.g 2 0))))))) - (IntKind.i64.wrap ((IntKind.i64.wrap ((y.g 1 0) * ((rt2RR y a0 a1 (q + 2)) (q + 1) 0))) * (1 : Int)))))
def rt2AA : MA := match i with
  | 0 => rt2A y a0 a1 
  | 1 => rt2A1 y a0 a1 (rt2RR y a0 a1 1)
  | 2 => rt2A2 y a0 a1 (rt2RR y a0 a1 2)
  | q + 3 => rt2A3 y a0 a1 (rt2RR y a0 a1 (q + 3)) q q
def rt2LL : List MObj := match i with
  | 0 => rt2L y a0 a1 
  | 1 => rt2L1 y a0 a1 (rt2RR y a0 a1 1)
  | 2 => rt2L2 y a0 a1 (rt2RR y a0 a1 2)
  | q + 3 => rt2L3 y a0 a1 (rt2RR y a0 a1 (q + 3)) q q
abbrev zs1 := feN (fun i => Pl.cr (y.h i 0) (-1000) 1000) 2 0
abbrev zs2 := Pl.cr y.x (0 : Int) (24 : Int)
def rt2F : Nat → Nat → Nat → Int := rt2RR y (zs1 y) (zs2 y)
noncomputable def rt2FK : CallS := bothX kRCP (bothX kNN (kAll [c_range, c_rrange, c_index]))
def rt2Args : Array Value := #[.slice (some ⟨6, 0, none⟩) 3 y.c, .slice (some ⟨7, 0, none⟩) 2 y.c2, .int .i64 y.x]
def rt2S : List MObj := [.rows 3 1 (fun i j => .int .i64 (y.g i j)) y.e y.opn y.sz y.ro, .rows 2 1 (fun i j => .int .i64 (y.h i j)) y.e2 y.opn2 y.sz2 y.ro2]
noncomputable abbrev zs3 := bodyOf Tryz.prog 52
noncomputable abbrev zs4 := startM Tryz.f52 (rt2Args y)
abbrev zs5 := rt2A y (zs1 y) (zs2 y)
abbrev zs6 := rt2L y (zs1 y) (zs2 y)
abbrev zs7 := rt2r8E y (zs1 y) (zs2 y) (rt2F y 2)
abbrev zs8 : List MObj := [.rows 3 1 (fun i j => .int .i64 (y.g i j)) y.e y.opn y.sz y.ro, .rows 2 1 (fun i j => .int .i64 (y.h i j)) y.e2 y.opn2 y.sz2 y.ro2, .cells [.int .i64 (zs1 y), .int .i64 (zs2 y)] 3 false 0 false, .rows 2 1 (fun i j => .int .i64 ((rt2F y 2) i j)) 3 true 1 false]
noncomputable def rt2f0 : Option OutCS := evK Tryz.prog rt2FK 1000 false zs3 (zs4 y) (wS 6 (rt2S y)) ⟨[0, 0, 0, 1, 0, 0, 1, 1, 0, 0, 0, .lp 6663 (zs5 y) 6 (zs6 y) (.exit 0) (zs7 y) (zs8 y) 9 512], True⟩
abbrev zs9 := rt2r11E y (zs1 y) (zs2 y) (rt2F y (mm + 3)) mm mm
abbrev zs10 : List MObj := [.rows 3 1 (fun i j => .int .i64 (y.g i j)) y.e y.opn y.sz y.ro, .rows 2 1 (fun i j => .int .i64 (y.h i j)) y.e2 y.opn2 y.sz2 y.ro2, .cells [.int .i64 (zs1 y), .int .i64 (zs2 y)] 3 false 0 false, .rows (mm + 3) 1 (fun i j => .int .i64 ((rt2F y (mm + 3)) i j)) 3 true 1 false]
noncomputable def rt2f1 : Option OutCS := evK Tryz.prog rt2FK 1000 false zs3 (zs4 y) (wS 6 (rt2S y)) ⟨[0, 0, 0, 1, 0, 0, 1, 1, 0, 0, 0, .lp 6663 (zs5 y) 6 (zs6 y) (.exit 0) (zs9 y mm) (zs10 y mm) 9 512], True⟩
abbrev zs11 := rt2r7E y (zs1 y) (zs2 y) (rt2F y 2)
abbrev zs12 : List MObj := [.rows 3 1 (fun i j => .int .i64 (y.g i j)) y.e y.opn y.sz y.ro, .rows 2 1 (fun i j => .int .i64 (y.h i j)) y.e2 y.opn2 y.sz2 y.ro2, .cells [.int .i64 (zs1 y), .int .i64 (zs2 y)] 3 false 0 false]
noncomputable def rt2f2 : Option OutCS := evK Tryz.prog rt2FK 1000 false zs3 (zs4 y) (wS 6 (rt2S y)) ⟨[0, 0, 0, 1, 0, 0, 1, 1, 0, 0, 0, .lp 6663 (zs5 y) 6 (zs6 y) .ret (zs11 y) (zs12 y) 9 512], True⟩
abbrev zs13 := rt2r10E y (zs1 y) (zs2 y) (rt2F y (jj + 3)) jj jj
noncomputable def rt2f3 : Option OutCS := evK Tryz.prog rt2FK 1000 false zs3 (zs4 y) (wS 6 (rt2S y)) ⟨[0, 0, 0, 1, 0, 0, 1, 1, 0, 0, 0, .lp 6663 (zs5 y) 6 (zs6 y) .ret (zs13 y jj) (zs12 y) 9 512], True⟩
noncomputable def rt2f4 : Option OutCS := evK Tryz.prog rt2FK 1000 false zs3 (zs4 y) (wS 6 (rt2S y)) ⟨[0, 0, 0, 1, 0, 0, 1, 1, 1, 1, 1], True⟩
noncomputable def rt2f5 : Option OutCS := evK Tryz.prog rt2FK 1000 false zs3 (zs4 y) (wS 6 (rt2S y)) ⟨[0, 0, 0, 1, 0, 1, 0, 1], True⟩
noncomputable def rt2f6 : Option OutCS := evK Tryz.prog rt2FK 1000 false zs3 (zs4 y) (wS 6 (rt2S y)) ⟨[1], True⟩
theorem rt2_go (hi : ((i : Nat) : Int) < (IntKind.i64.wrap ((2 : Int) + y.x))) (hb : i ≤ 1000) (h1 : Pl.cr (rt2EE y a0 a1 i) (-1073741824 : Int) (1073741824 : Int) = 0) : KC Tryz.prog none rt2X (rt2AA y a0 a1 i).act (wS 6 (rt2LL y a0 a1 i)) .normal (rt2AA y a0 a1 (i + 1)).act (wS 6 (rt2LL y a0 a1 (i + 1))) 9 512 := by
  match i, hi, hb, h1 with
  | 0, hi, hb, h1 => exact rt2r0_k y a0 a1  hi h1
  | 1, hi, hb, h1 => exact rt2r3_k y a0 a1 (rt2RR y a0 a1 1) hi h1
  | 2, hi, hb, h1 => exact rt2r6_k y a0 a1 (rt2RR y a0 a1 2) hi h1
  | q + 3, hi, hb, h1 => exact rt2r9_k y a0 a1 (rt2RR y a0 a1 (q + 3)) q q rfl (by omega) hi h1
theorem rt2_l0 (hz : ¬ (2 : Int) < (IntKind.i64.wrap ((2 : Int) + y.x))) (hw : (2 : Int) ≤ (IntKind.i64.wrap ((2 : Int) + y.x))) (h1 : ∀ i, i < 2 → Pl.cr (rt2EE y a0 a1 i) (-1073741824 : Int) (1073741824 : Int) = 0) : KC Tryz.prog none (.loop rt2X) (rt2A y a0 a1).act (wS 6 (rt2L y a0 a1)) (.exit 0) (rt2r8E y a0 a1 (rt2RR y a0 a1 2)).act (wS 6 [.rows 3 1 (fun i j => .int .i64 (y.g i j)) y.e y.opn y.sz y.ro, .rows 2 1 (fun i j => .int .i64 (y.h i j)) y.e2 y.opn2 y.sz2 y.ro2, .cells [.int .i64 a0, .int .i64 a1] 3 false 0 false, .rows 2 1 (fun i j => .int .i64 ((rt2RR y a0 a1 2) i j)) 3 true 1 false]) 9 512 :=
  K_rounds (A := fun i => (rt2AA y a0 a1 i).act) (S := fun i => wS 6 (rt2LL y a0 a1 i)) 2 (fun i hi => rt2_go y a0 a1 i (by omega) (by omega) (h1 i hi)) (rt2r8_k y a0 a1 (rt2RR y a0 a1 2) hz) (by simp)
theorem rt2_l1 (hm : ((mm + 3 : Nat) : Int) = (IntKind.i64.wrap ((2 : Int) + y.x))) (hb : mm ≤ 900) (h1 : ∀ i, i < mm + 3 → Pl.cr (rt2EE y a0 a1 i) (-1073741824 : Int) (1073741824 : Int) = 0) : KC Tryz.prog none (.loop rt2X) (rt2A y a0 a1).act (wS 6 (rt2L y a0 a1)) (.exit 0) (rt2r11E y a0 a1 (rt2RR y a0 a1 (mm + 3)) mm mm).act (wS 6 [.rows 3 1 (fun i j => .int .i64 (y.g i j)) y.e y.opn y.sz y.ro, .rows 2 1 (fun i j => .int .i64 (y.h i j)) y.e2 y.opn2 y.sz2 y.ro2, .cells [.int .i64 a0, .int .i64 a1] 3 false 0 false, .rows (mm + 3) 1 (fun i j => .int .i64 ((rt2RR y a0 a1 (mm + 3)) i j)) 3 true 1 false]) 9 512 :=
  K_rounds (A := fun i => (rt2AA y a0 a1 i).act) (S := fun i => wS 6 (rt2LL y a0 a1 i)) (mm + 3) (fun i hi => rt2_go y a0 a1 i (by omega) (by omega) (h1 i hi)) (rt2r11_k y a0 a1 (rt2RR y a0 a1 (mm + 3)) mm mm rfl (by omega) (by omega)) (by simp)
abbrev zs14 := wS 6 [.rows 3 1 (fun i j => .int .i64 (y.g i j)) y.e y.opn y.sz y.ro, .rows 2 1 (fun i j => .int .i64 (y.h i j)) y.e2 y.opn2 y.sz2 y.ro2, .cells [.int .i64 a0, .int .i64 a1] 3 false 0 false]
theorem rt2_b0 (hz : (2 : Int) < (IntKind.i64.wrap ((2 : Int) + y.x))) (h1 : ∀ i, i < 2 → Pl.cr (rt2EE y a0 a1 i) (-1073741824 : Int) (1073741824 : Int) = 0) (h2 : Pl.cr (rt2EE y a0 a1 2) (-1073741824 : Int) (1073741824 : Int) ≠ 0) : KC Tryz.prog none (.loop rt2X) (rt2A y a0 a1).act (wS 6 (rt2L y a0 a1)) .ret (rt2r7E y a0 a1 (rt2RR y a0 a1 2)).act (zs14 y a0 a1) 9 512 :=
  K_rounds (A := fun i => (rt2AA y a0 a1 i).act) (S := fun i => wS 6 (rt2LL y a0 a1 i)) 2 (fun i hi => rt2_go y a0 a1 i (by omega) (by omega) (h1 i hi)) (rt2r7_k y a0 a1 (rt2RR y a0 a1 2) hz h2) (by simp)
theorem rt2_b1 (hj : ((jj + 3 : Nat) : Int) < (IntKind.i64.wrap ((2 : Int) + y.x))) (hb : jj ≤ 900) (h1 : ∀ i, i < jj + 3 → Pl.cr (rt2EE y a0 a1 i) (-1073741824 : Int) (1073741824 : Int) = 0) (h2 : Pl.cr (rt2EE y a0 a1 (jj + 3)) (-1073741824 : Int) (1073741824 : Int) ≠ 0) : KC Tryz.prog none (.loop rt2X) (rt2A y a0 a1).act (wS 6 (rt2L y a0 a1)) .ret (rt2r10E y a0 a1 (rt2RR y a0 a1 (jj + 3)) jj jj).act (zs14 y a0 a1) 9 512 :=
  K_rounds (A := fun i => (rt2AA y a0 a1 i).act) (S := fun i => wS 6 (rt2LL y a0 a1 i)) (jj + 3) (fun i hi => rt2_go y a0 a1 i (by omega) (by omega) (h1 i hi)) (rt2r10_k y a0 a1 (rt2RR y a0 a1 (jj + 3)) jj jj rfl (by omega) hj h2) (by simp)
theorem rt2FK_ok : FOkS Tryz.prog rt2FK := bothX_ok kRCP_ok (bothX_ok kNN_ok (kAll_ok _ ⟨k_range, k_rrange, k_index, trivial⟩))
abbrev zs15 : List MObj := [.rows 2 1 (fun i j => .int .i64 ((rt2F y 2) i j)) 3 true 1 false]
abbrev zs16 := True ∧ (((3 = 3) ∧ (∀ (i : Nat), ((i < (3 : Nat)) → (∀ (j : Nat), ((j < (1 : Nat)) → ((Value.int .i64 (y.g i j)) = (Value.int .i64 (gI (Value.int .i64 (y.g i j)))))))))) ∧ ((((3 : Nat)) : Int) ≤ (9223372036854775807 : Int)))
abbrev zs17 := (cpV (3 : Nat) (fun (i : Nat) => (fun (j : Nat) => (gI (Value.int .i64 (y.g i j)))))) != (0 : Int)
abbrev zs18 := (((3 : Nat)) : Int) - (1 : Int)
abbrev zs19 := (((((((zs16 y) ∧ ((zs17 y) = false)) ∧ (((IntKind.i64.wrap zs18) == (0 : Int)) = false)) ∧ (((((2 : Nat)) : Int) != (IntKind.i64.wrap zs18)) = false)) ∧ (((2 = 2) ∧ (∀ (i : Nat), ((i < (2 : Nat)) → (∀ (j : Nat), ((j < (1 : Nat)) → ((Value.int .i64 (y.h i j)) = (Value.int .i64 (gI (Value.int .i64 (y.h i j)))))))))) ∧ ((((2 : Nat)) : Int) ≤ (9223372036854775807 : Int)))) ∧ True) ∧ ((decide ((0 : Int) < (((2 : Nat)) : Int))) = true)) ∧ ((0 : Int) = (Int.ofNat 0))
abbrev zs20 := (feN (fun (i : Nat) => (Pl.cr (gI (Value.int .i64 (y.h i 0))) (- (1000 : Int)) (1000 : Int))) (2 : Nat) (0 : Nat)) != (0 : Int)
abbrev zs21 := (IntKind.i64.wrap ((0 : Int) + (1 : Int))) = (Int.ofNat 1)
abbrev zs22 := (((zs19 y) ∧ ((zs20 y) = false)) ∧ ((decide ((IntKind.i64.wrap ((0 : Int) + (1 : Int))) < (((2 : Nat)) : Int))) = true)) ∧ zs21
abbrev zs23 := (zs2 y) != (0 : Int)
abbrev zs24 := (((zs22 y) ∧ ((zs23 y) = false)) ∧ ((decide ((IntKind.i64.wrap ((IntKind.i64.wrap ((0 : Int) + (1 : Int))) + (1 : Int))) < (((2 : Nat)) : Int))) = false)) ∧ (((0 : Int) != (0 : Int)) = false)
abbrev zs25 := feN (fun (i : Nat) => (Pl.cr (y.h i 0) (- (1000 : Int)) (1000 : Int))) (2 : Nat) (0 : Nat)
abbrev zs26 := rt2A y (zs25 y) (zs2 y)
abbrev zs27 := HAppend.hAppend (List.replicate (6 : Nat) MObj.hole) (rt2L y (zs25 y) (zs2 y))
abbrev zs28 := ((zs26 y) = (zs26 y)) ∧ ((9 = (6 + 3)) ∧ ((zs27 y) = (zs27 y)))
abbrev zs29 := wS 6 (zs6 y)
abbrev zs30 := wS 6 (zs8 y)
theorem rt2f0_eq : seenF' Tryz.prog Tryz.f52 6 2 [9] (rt2f0 y) = some (.tuple #[.slice (some ⟨8, 0, none⟩) 2 2, .int .i64 (0 : Int)], rt2S y ++ (zs15 y), ⟨[], ((zs24 y) ∧ ((zs28 y) ∧ KC Tryz.prog none (.loop rt2X) (zs5 y).act (zs29 y) (.exit 0) (zs7 y).act (zs30 y) 9 512))⟩) := by kernel_rfl
theorem rt2f0_s (h0 : (cpV 3 y.g) = (0 : Int)) (h1 : (zs1 y) = (0 : Int)) (h2 : (zs2 y) = (0 : Int)) (l0 : KC Tryz.prog none (.loop rt2X) (zs5 y).act (zs29 y) (.exit 0) (zs7 y).act (zs30 y) 9 512) : SndF Tryz.prog 52 (rt2Args y) (wS 6 (rt2S y)) (.tuple #[.slice (some ⟨8, 0, none⟩) 2 2, .int .i64 (0 : Int)]) (wS 6 (rt2S y ++ (zs15 y))) 192 0 :=
  kF (L := rt2S y) (L2 := (zs15 y)) (ms := [9]) rt2FK_ok (rt2f0_eq y) kq
abbrev zs31 : List MObj := [.rows (mm + 3) 1 (fun i j => .int .i64 ((rt2F y (mm + 3)) i j)) 3 true 1 false]
abbrev zs32 := wS 6 (zs10 y mm)
theorem rt2f1_eq : seenF' Tryz.prog Tryz.f52 6 2 [9] (rt2f1 y mm) = some (.tuple #[.slice (some ⟨8, 0, none⟩) (mm + 3) (mm + 3), .int .i64 (0 : Int)], rt2S y ++ (zs31 y mm), ⟨[], ((zs24 y) ∧ ((zs28 y) ∧ KC Tryz.prog none (.loop rt2X) (zs5 y).act (zs29 y) (.exit 0) (zs9 y mm).act (zs32 y mm) 9 512))⟩) := by kernel_rfl
theorem rt2f1_s (h0 : (cpV 3 y.g) = (0 : Int)) (h1 : (zs1 y) = (0 : Int)) (h2 : (zs2 y) = (0 : Int)) (l0 : KC Tryz.prog none (.loop rt2X) (zs5 y).act (zs29 y) (.exit 0) (zs9 y mm).act (zs32 y mm) 9 512) : SndF Tryz.prog 52 (rt2Args y) (wS 6 (rt2S y)) (.tuple #[.slice (some ⟨8, 0, none⟩) (mm + 3) (mm + 3), .int .i64 (0 : Int)]) (wS 6 (rt2S y ++ (zs31 y mm))) 192 0 :=
  kF (L := rt2S y) (L2 := (zs31 y mm)) (ms := [9]) rt2FK_ok (rt2f1_eq y mm) kq
abbrev zs33 := wS 6 (zs12 y)
theorem rt2f2_eq : seenF' Tryz.prog Tryz.f52 6 2 [] (rt2f2 y) = some (.tuple #[.slice none 0 0, .int .i64 (4 : Int)], rt2S y ++ [], ⟨[], ((zs24 y) ∧ ((zs28 y) ∧ KC Tryz.prog none (.loop rt2X) (zs5 y).act (zs29 y) .ret (zs11 y).act (zs33 y) 9 512))⟩) := by kernel_rfl
theorem rt2f2_s (h0 : (cpV 3 y.g) = (0 : Int)) (h1 : (zs1 y) = (0 : Int)) (h2 : (zs2 y) = (0 : Int)) (l0 : KC Tryz.prog none (.loop rt2X) (zs5 y).act (zs29 y) .ret (zs11 y).act (zs33 y) 9 512) : SndF Tryz.prog 52 (rt2Args y) (wS 6 (rt2S y)) (.tuple #[.slice none 0 0, .int .i64 (4 : Int)]) (wS 6 (rt2S y)) 192 0 :=
  kF (L := rt2S y) (L2 := []) (ms := []) rt2FK_ok (rt2f2_eq y) kq
theorem rt2f3_eq : seenF' Tryz.prog Tryz.f52 6 2 [] (rt2f3 y jj) = some (.tuple #[.slice none 0 0, .int .i64 (4 : Int)], rt2S y ++ [], ⟨[], ((zs24 y) ∧ ((zs28 y) ∧ KC Tryz.prog none (.loop rt2X) (zs5 y).act (zs29 y) .ret (zs13 y jj).act (zs33 y) 9 512))⟩) := by kernel_rfl
theorem rt2f3_s (h0 : (cpV 3 y.g) = (0 : Int)) (h1 : (zs1 y) = (0 : Int)) (h2 : (zs2 y) = (0 : Int)) (l0 : KC Tryz.prog none (.loop rt2X) (zs5 y).act (zs29 y) .ret (zs13 y jj).act (zs33 y) 9 512) : SndF Tryz.prog 52 (rt2Args y) (wS 6 (rt2S y)) (.tuple #[.slice none 0 0, .int .i64 (4 : Int)]) (wS 6 (rt2S y)) 192 0 :=
  kF (L := rt2S y) (L2 := []) (ms := []) rt2FK_ok (rt2f3_eq y jj) kq
abbrev zs34 := (zs23 y) = true
theorem rt2f4_eq : seenF' Tryz.prog Tryz.f52 6 2 [] (rt2f4 y) = some (.tuple #[.slice none 0 0, .int .i64 (zs2 y)], rt2S y ++ [], ⟨[], ((((zs22 y) ∧ (zs34 y)) ∧ zs21) ∧ (zs34 y))⟩) := by kernel_rfl
theorem rt2f4_s (h0 : (cpV 3 y.g) = (0 : Int)) (h1 : (zs1 y) = (0 : Int)) (h2 : (zs2 y) ≠ (0 : Int)) : SndF Tryz.prog 52 (rt2Args y) (wS 6 (rt2S y)) (.tuple #[.slice none 0 0, .int .i64 (zs2 y)]) (wS 6 (rt2S y)) 192 0 :=
  kF (L := rt2S y) (L2 := []) (ms := []) rt2FK_ok (rt2f4_eq y) kq
abbrev zs35 := (zs20 y) = true
theorem rt2f5_eq : seenF' Tryz.prog Tryz.f52 6 2 [] (rt2f5 y) = some (.tuple #[.slice none 0 0, .int .i64 (zs1 y)], rt2S y ++ [], ⟨[], ((((zs19 y) ∧ (zs35 y)) ∧ ((0 : Int) = (Int.ofNat 0))) ∧ (zs35 y))⟩) := by kernel_rfl
theorem rt2f5_s (h0 : (cpV 3 y.g) = (0 : Int)) (h1 : (zs1 y) ≠ (0 : Int)) : SndF Tryz.prog 52 (rt2Args y) (wS 6 (rt2S y)) (.tuple #[.slice none 0 0, .int .i64 (zs1 y)]) (wS 6 (rt2S y)) 192 0 :=
  kF (L := rt2S y) (L2 := []) (ms := []) rt2FK_ok (rt2f5_eq y) kq
theorem rt2f6_eq : seenF' Tryz.prog Tryz.f52 6 2 [] (rt2f6 y) = some (.tuple #[.slice none 0 0, .int .i64 (cpV 3 y.g)], rt2S y ++ [], ⟨[], ((zs16 y) ∧ ((zs17 y) = true))⟩) := by kernel_rfl
theorem rt2f6_s (h0 : (cpV 3 y.g) ≠ (0 : Int)) : SndF Tryz.prog 52 (rt2Args y) (wS 6 (rt2S y)) (.tuple #[.slice none 0 0, .int .i64 (cpV 3 y.g)]) (wS 6 (rt2S y)) 192 0 :=
  kF (L := rt2S y) (L2 := []) (ms := []) rt2FK_ok (rt2f6_eq y) kq
end
end Go.Proofs.YtbkpnhbcihcgaaaGreatDoor
end
section
set_option linter.all false
set_option maxRecDepth 1000000
open Go.RowKit
namespace Go.Proofs.YtbkpnhbcihcgaaaGreatDoor
open Mini
def st2D (y : SV) : Nat → Int := st2EE y (cpV 3 y.g) (feN (fun i => Pl.cr (y.h i 0) (-1000) 1000) 2 0) (Pl.cr y.x (0 : Int) (24 : Int)) (IntKind.i64.wrap ((y.h 0 0) * (1 : Int))) (IntKind.i64.wrap ((y.h 1 0) * (IntKind.i64.wrap ((1 : Int) * (y.g 2 0))))) (IntKind.i64.wrap ((y.g 0 0) * (IntKind.i64.wrap ((1 : Int) * (y.g 2 0))))) (IntKind.i64.wrap ((y.g 1 0) * (1 : Int))) (IntKind.i64.wrap ((0 : Int) - (IntKind.i64.wrap ((y.g 0 0) * (IntKind.i64.wrap ((1 : Int) * (y.g 2 0))))))) (IntKind.i64.wrap ((0 : Int) - (IntKind.i64.wrap ((y.g 1 0) * (1 : Int)))))
def rt2D (y : SV) : Nat → Int := rt2EE y (feN (fun i => Pl.cr (y.h i 0) (-1000) 1000) 2 0) (Pl.cr y.x (0 : Int) (24 : Int))
theorem al2 (g : Nat → Nat → Int) (y0 : Int) (y1 : Int) : (IntKind.i64.wrap ((IntKind.i64.wrap ((0 : Int) + (IntKind.i64.wrap ((IntKind.i64.wrap ((0 : Int) - (IntKind.i64.wrap ((g 0 0) * (IntKind.i64.wrap ((1 : Int) * (g 2 0))))))) * y0)))) + (IntKind.i64.wrap ((IntKind.i64.wrap ((0 : Int) - (IntKind.i64.wrap ((g 1 0) * (1 : Int))))) * y1)))) = (IntKind.i64.wrap ((IntKind.i64.wrap ((0 : Int) - (IntKind.i64.wrap ((IntKind.i64.wrap ((g 0 0) * y0)) * (IntKind.i64.wrap ((1 : Int) * (g 2 0))))))) - (IntKind.i64.wrap ((IntKind.i64.wrap ((g 1 0) * y1)) * (1 : Int))))) := by
  simp only [wr_al, wr_ar, wr_sl, wr_sr, wr_ml, wr_mr]
  refine congrArg _ ?_
  all_goals try simp only [Int.zero_add, Int.zero_sub, Int.mul_one, Int.one_mul, Int.neg_mul, Int.sub_mul, Int.add_mul]
  all_goals try simp only [Int.mul_assoc, Int.mul_comm, Int.mul_left_comm]
  all_goals omega
theorem rt2_at (y : SV) : ∀ t j, j < t → rt2F y t j 0 = rt2D y j
  | 0, j, hz => absurd hz (Nat.not_lt_zero j)
  | 1, j, hz => by
    obtain rfl : j = 0 := by omega
    rfl
  | 2, j, hz => by
    show (if j < 1 then rt2F y 1 j 0 else _) = _
    by_cases c0 : j < 1
    · rw [if_pos c0]; exact rt2_at y 1 j c0
    · rw [if_neg c0]
      obtain rfl : j = 1 := by omega
      rfl
  | q + 3, j, hz => by
    show (if j < q + 2 then rt2F y (q + 2) j 0 else _) = _
    by_cases c0 : j < q + 2
    · rw [if_pos c0]; exact rt2_at y (q + 2) j c0
    · rw [if_neg c0]
      obtain rfl : j = q + 2 := by omega
      rfl
theorem rt2_nx (y : SV) (q : Nat) : rt2D y (q + 2) = (IntKind.i64.wrap ((IntKind.i64.wrap ((0 : Int) - (IntKind.i64.wrap ((IntKind.i64.wrap ((y.g 0 0) * (rt2D y (q)))) * (IntKind.i64.wrap ((1 : Int) * (y.g 2 0))))))) - (IntKind.i64.wrap ((IntKind.i64.wrap ((y.g 1 0) * (rt2D y (q + 1)))) * (1 : Int))))) := by
  rw [← rt2_at y (q + 2) (q) (by omega), ← rt2_at y (q + 2) (q + 1) (by omega)]
  rfl
theorem st2_at (y : SV) : ∀ q, (∀ j, j < q + 3 → st2F y q j 0 = rt2D y j) ∧ st2D y q = rt2D y (q + 2)
  | 0 => by
    have hd : st2D y 0 = rt2D y (0 + 2) := by
      rw [rt2_nx]
      exact al2 y.g (rt2D y 0) (rt2D y 1)
    refine ⟨fun j hj => ?_, hd⟩
    match j, hj with
    | 0, _ => rfl
    | 1, _ => rfl
    | 2, _ => exact hd
    | j + 3, hj => omega
  | q + 1 => by
    obtain ⟨h1, h2⟩ := st2_at y q
    have hd : st2D y (q + 1) = rt2D y (q + 1 + 2) := by
      rw [rt2_nx, ← al2 y.g, ← h1 (q + 1) (by omega), ← h1 (q + 1 + 1) (by omega)]
      rfl
    refine ⟨fun j hj => ?_, hd⟩
    show (if j < q + 3 then st2F y q j 0 else _) = _
    by_cases c0 : j < q + 3
    · rw [if_pos c0]; exact h1 j c0
    · rw [if_neg c0]
      obtain rfl : j = q + 1 + 2 := by omega
      exact hd
theorem rt2_in (y : SV) (h1 : cpV 3 y.g = 0) (h2 : feN (fun i => Pl.cr (y.h i 0) (-1000) 1000) 2 0 = 0) : ∀ i, i < 2 → Pl.cr (rt2D y i) (-1073741824 : Int) (1073741824 : Int) = 0 := fun i hi => by
  have hg : (y.g 2 0).natAbs ≤ 100 := cr_nab (A := 100) (cpV_c h1 2 (by omega))
  have hh : ∀ k, k < 2 → (y.h k 0).natAbs ≤ 1000 := fun k hk => cr_nab (A := 1000) (feN_zero h2 k hk)
  match i, hi with
  | 0, _ =>
    show Pl.cr (IntKind.i64.wrap ((y.h 0 0) * (1 : Int))) _ _ = 0
    try simp only [wr_ml, wr_mr]
    exact cr_in (nab_mul (hh 0 (by omega)) (by decide : (1 : Int).natAbs ≤ 1)) (by decide)
  | 1, _ =>
    show Pl.cr (IntKind.i64.wrap ((y.h 1 0) * (IntKind.i64.wrap ((1 : Int) * (y.g 2 0))))) _ _ = 0
    try simp only [wr_ml, wr_mr]
    exact cr_in (nab_mul (hh 1 (by omega)) (nab_mul (by decide : (1 : Int).natAbs ≤ 1) hg)) (by decide)
  | i + 2, hi => omega
end Go.Proofs.YtbkpnhbcihcgaaaGreatDoor
end
