/-
  The small worlds between the steps.
  Two rows of numbers of the ring compared.
  CheckFrame of the reference over a row.
  Framed of the reference over a row: a row that grows.
  The contract of bipole.bipoleref01.Fits.
  The contract of bipole.bipoleref01.CheckEisen.
  The contract of bipole.bipoleref01.CheckRange.
  The contract of bipole.bipoleref01.Turn.
  The contract of bipole.bipoleref01.Mul.
  Framed over a row: a new row, or the first error.
  The contract of bipole.phasor.CheckEisen.
  The contract of bipole.phasor.checkTurn.
  The contract of bipole.check.Range.
-/
import Derived.Test.YtffllmdjpeigbaaGreatDoorGGF2
import Derived.Test.YtffllmdjpeigbaaGreatDoorGGF1
import Derived.Test.YtffllmdjpeigbaaGreatDoorProg
section
set_option linter.all false
set_option maxRecDepth 1000000
set_option maxHeartbeats 2000000
open Go.RowKit
namespace Go.Proofs.YtffllmdjpeigbaaGreatDoor
open Mini

def range_val (n lo hi : Int) : Value := .int .i64 (Pl.cr n lo hi)
theorem range_X : FOkS Tryz.prog x_range := noXS_ok
theorem range_args (n lo hi : Int) : (#[.int .i64 n, .int .i64 lo, .int .i64 hi] : Array Value).toList.all (ground 8) = true := by kernel_rfl
def range_c0 (n lo hi : Int) : Bool := (decide (n < lo))
theorem range_g1 : (true = true) := by first | rfl | trivial | decide | omega
def range_c1 (n lo hi : Int) : Bool := (decide (n > hi))
def range_w0 (n lo hi : Int) : Value := .int .i64 (3 : Int)
def range_r0 (n lo hi : Int) : Prop := (((((True ∧ (range_c0 n lo hi = true)) ∧ (range_c0 n lo hi = true)) ∧ (range_c0 n lo hi = true)) ∧ (range_c0 n lo hi = true)) ∧ ((true = true)))
theorem range_o0 (n lo hi : Int) : obOf (range_e0 n lo hi) = range_r0 n lo hi := by kernel_rfl
theorem range_v0 (n lo hi : Int) : resOf (range_e0 n lo hi) = range_w0 n lo hi := by kernel_rfl
theorem range_k0 (n lo hi : Int) : cleanOf Tryz.prog.globals.size (range_e0 n lo hi) = true := by kernel_rfl
theorem range_q0 (n lo hi : Int) : range_e0 n lo hi = evFS Tryz.prog x_range 1000 160 #[.int .i64 n, .int .i64 lo, .int .i64 hi] (noTabs 9) ⟨[0, 0, 0, 1, 1], True⟩ := by
  delta range_e0
  exact Eq.refl _
theorem range_p0 (n lo hi : Int) (h : range_r0 n lo hi) (w : World) : Calls Tryz.prog 160 #[.int .i64 n, .int .i64 lo, .int .i64 hi] w fun en w' => en = .returned (range_w0 n lo hi) ∧ Below w.heap.size w w' := by
  have hv := range_v0 n lo hi
  have hc := range_k0 n lo hi
  have he := range_q0 n lo hi
  have ho := range_o0 n lo hi
  generalize range_e0 n lo hi = r at *
  exact calls_way he gfol range_X hv rfl (range_args n lo hi) hc ho h (bl w)
def range_w1 (n lo hi : Int) : Value := .int .i64 (3 : Int)
def range_r1 (n lo hi : Int) : Prop := (((((True ∧ (range_c0 n lo hi = false)) ∧ (range_c0 n lo hi = false)) ∧ (range_c0 n lo hi = false)) ∧ (range_c0 n lo hi = false)) ∧ (range_c1 n lo hi = true))
theorem range_o1 (n lo hi : Int) : obOf (range_e1 n lo hi) = range_r1 n lo hi := by kernel_rfl
theorem range_v1 (n lo hi : Int) : resOf (range_e1 n lo hi) = range_w1 n lo hi := by kernel_rfl
theorem range_k1 (n lo hi : Int) : cleanOf Tryz.prog.globals.size (range_e1 n lo hi) = true := by kernel_rfl
theorem range_q1 (n lo hi : Int) : range_e1 n lo hi = evFS Tryz.prog x_range 1000 160 #[.int .i64 n, .int .i64 lo, .int .i64 hi] (noTabs 9) ⟨[1, 1, 1, 0, 1], True⟩ := by
  delta range_e1
  exact Eq.refl _
theorem range_p1 (n lo hi : Int) (h : range_r1 n lo hi) (w : World) : Calls Tryz.prog 160 #[.int .i64 n, .int .i64 lo, .int .i64 hi] w fun en w' => en = .returned (range_w1 n lo hi) ∧ Below w.heap.size w w' := by
  have hv := range_v1 n lo hi
  have hc := range_k1 n lo hi
  have he := range_q1 n lo hi
  have ho := range_o1 n lo hi
  generalize range_e1 n lo hi = r at *
  exact calls_way he gfol range_X hv rfl (range_args n lo hi) hc ho h (bl w)
def range_w2 (n lo hi : Int) : Value := .int .i64 (0 : Int)
def range_r2 (n lo hi : Int) : Prop := (((((True ∧ (range_c0 n lo hi = false)) ∧ (range_c0 n lo hi = false)) ∧ (range_c0 n lo hi = false)) ∧ (range_c0 n lo hi = false)) ∧ (range_c1 n lo hi = false))
theorem range_o2 (n lo hi : Int) : obOf (range_e2 n lo hi) = range_r2 n lo hi := by kernel_rfl
theorem range_v2 (n lo hi : Int) : resOf (range_e2 n lo hi) = range_w2 n lo hi := by kernel_rfl
theorem range_k2 (n lo hi : Int) : cleanOf Tryz.prog.globals.size (range_e2 n lo hi) = true := by kernel_rfl
theorem range_q2 (n lo hi : Int) : range_e2 n lo hi = evFS Tryz.prog x_range 1000 160 #[.int .i64 n, .int .i64 lo, .int .i64 hi] (noTabs 9) ⟨[1, 1, 1, 0, 0], True⟩ := by
  delta range_e2
  exact Eq.refl _
theorem range_p2 (n lo hi : Int) (h : range_r2 n lo hi) (w : World) : Calls Tryz.prog 160 #[.int .i64 n, .int .i64 lo, .int .i64 hi] w fun en w' => en = .returned (range_w2 n lo hi) ∧ Below w.heap.size w w' := by
  have hv := range_v2 n lo hi
  have hc := range_k2 n lo hi
  have he := range_q2 n lo hi
  have ho := range_o2 n lo hi
  generalize range_e2 n lo hi = r at *
  exact calls_way he gfol range_X hv rfl (range_args n lo hi) hc ho h (bl w)
theorem range_any (n lo hi : Int) (hpre : True) (w : World) : Calls Tryz.prog 160 #[.int .i64 n, .int .i64 lo, .int .i64 hi] w fun en w' => en = .returned (range_val n lo hi) ∧ Below w.heap.size w w' := by
  rcases Bool.eq_false_or_eq_true (range_c0 n lo hi) with h0 | h0
  ·
    unfold range_c0 at h0
    have hp := range_p0 n lo hi ⟨⟨⟨⟨⟨trivial, h0⟩, h0⟩, h0⟩, h0⟩, range_g1⟩ w
    have hv : range_w0 n lo hi = (range_val n lo hi) := by
      clear hp
      unfold range_w0 range_val
      first | rfl | ((try simp only [bne_iff_ne, ne_eq, decide_eq_true_eq, decide_eq_false_iff_not, Bool.not_eq_true', Bool.not_eq_false', beq_iff_eq, beq_eq_false_iff_ne, bne_eq_false_iff_eq, Bool.and_eq_true, Bool.not_eq_true, Bool.not_eq_false, Pl.cr, parts_eq, w20, w16, wT, w20', w16', wT', Pl.lim, Pl.inB, first_two, two, oneB, Bg] at *); grind)
    exact hv ▸ hp
  ·
    unfold range_c0 at h0
    rcases Bool.eq_false_or_eq_true (range_c1 n lo hi) with h1 | h1
    ·
      unfold range_c1 at h1
      have hp := range_p1 n lo hi ⟨⟨⟨⟨⟨trivial, h0⟩, h0⟩, h0⟩, h0⟩, h1⟩ w
      have hv : range_w1 n lo hi = (range_val n lo hi) := by
        clear hp
        unfold range_w1 range_val
        first | rfl | ((try simp only [bne_iff_ne, ne_eq, decide_eq_true_eq, decide_eq_false_iff_not, Bool.not_eq_true', Bool.not_eq_false', beq_iff_eq, beq_eq_false_iff_ne, bne_eq_false_iff_eq, Bool.and_eq_true, Bool.not_eq_true, Bool.not_eq_false, Pl.cr, parts_eq, w20, w16, wT, w20', w16', wT', Pl.lim, Pl.inB, first_two, two, oneB, Bg] at *); grind)
      exact hv ▸ hp
    ·
      unfold range_c1 at h1
      have hp := range_p2 n lo hi ⟨⟨⟨⟨⟨trivial, h0⟩, h0⟩, h0⟩, h0⟩, h1⟩ w
      have hv : range_w2 n lo hi = (range_val n lo hi) := by
        clear hp
        unfold range_w2 range_val
        first | rfl | ((try simp only [bne_iff_ne, ne_eq, decide_eq_true_eq, decide_eq_false_iff_not, Bool.not_eq_true', Bool.not_eq_false', beq_iff_eq, beq_eq_false_iff_ne, bne_eq_false_iff_eq, Bool.and_eq_true, Bool.not_eq_true, Bool.not_eq_false, Pl.cr, parts_eq, w20, w16, wT, w20', w16', wT', Pl.lim, Pl.inB, first_two, two, oneB, Bg] at *); grind)
      exact hv ▸ hp
theorem k_range : ConOk Tryz.prog c_range := fun ns hl => by
  have hl0 : ns.length = 3 := hl
  clear hl
  obtain ⟨n, ns0, rfl, hl1⟩ := len_cons hl0
  obtain ⟨lo, ns1, rfl, hl2⟩ := len_cons hl1
  obtain ⟨hi, ns2, rfl, hl3⟩ := len_cons hl2
  obtain rfl := len_nil hl3
  exact ⟨rfl, fun h w => range_any n lo hi h w⟩
end Go.Proofs.YtffllmdjpeigbaaGreatDoor
end
section
set_option linter.all false
set_option maxRecDepth 1000000
set_option maxHeartbeats 2000000
open Go.RowKit
namespace Go.Proofs.YtffllmdjpeigbaaGreatDoor
open Mini

def checkTurn_val (n : Int) : Value := .int .i64 (Pl.cr n (-1000000) 1000000)
theorem checkTurn_X : FOkS Tryz.prog x_checkTurn := kAll_ok _ ⟨k_range, trivial⟩
theorem checkTurn_args (n : Int) : (#[.int .i64 n] : Array Value).toList.all (ground 8) = true := by kernel_rfl
theorem checkTurn_g0 : True := by first | rfl | trivial | decide | omega
def checkTurn_w0 (n : Int) : Value := .int .i64 (Pl.cr n (-1000000 : Int) (1000000 : Int))
def checkTurn_r0 (n : Int) : Prop := (True ∧ (True))
theorem checkTurn_o0 (n : Int) : obOf (checkTurn_e0 n) = checkTurn_r0 n := by kernel_rfl
theorem checkTurn_v0 (n : Int) : resOf (checkTurn_e0 n) = checkTurn_w0 n := by kernel_rfl
theorem checkTurn_k0 (n : Int) : cleanOf Tryz.prog.globals.size (checkTurn_e0 n) = true := by kernel_rfl
theorem checkTurn_q0 (n : Int) : checkTurn_e0 n = evFS Tryz.prog x_checkTurn 1000 67 #[.int .i64 n] (noTabs 9) ⟨[], True⟩ := by
  delta checkTurn_e0
  exact Eq.refl _
theorem checkTurn_p0 (n : Int) (h : checkTurn_r0 n) (w : World) : Calls Tryz.prog 67 #[.int .i64 n] w fun en w' => en = .returned (checkTurn_w0 n) ∧ Below w.heap.size w w' := by
  have hv := checkTurn_v0 n
  have hc := checkTurn_k0 n
  have he := checkTurn_q0 n
  have ho := checkTurn_o0 n
  generalize checkTurn_e0 n = r at *
  exact calls_way he gfol checkTurn_X hv rfl (checkTurn_args n) hc ho h (bl w)
theorem checkTurn_any (n : Int) (hpre : True) (w : World) : Calls Tryz.prog 67 #[.int .i64 n] w fun en w' => en = .returned (checkTurn_val n) ∧ Below w.heap.size w w' := by
  have hp := checkTurn_p0 n ⟨trivial, checkTurn_g0⟩ w
  have hv : checkTurn_w0 n = (checkTurn_val n) := by
    clear hp
    unfold checkTurn_w0 checkTurn_val
    first | rfl | ((try simp only [bne_iff_ne, ne_eq, decide_eq_true_eq, decide_eq_false_iff_not, Bool.not_eq_true', Bool.not_eq_false', beq_iff_eq, beq_eq_false_iff_ne, bne_eq_false_iff_eq, Bool.and_eq_true, Bool.not_eq_true, Bool.not_eq_false, Pl.cr, parts_eq, w20, w16, wT, w20', w16', wT', Pl.lim, Pl.inB, first_two, two, oneB, Bg] at *); grind)
  exact hv ▸ hp
theorem k_checkTurn : ConOk Tryz.prog c_checkTurn := fun ns hl => by
  have hl0 : ns.length = 1 := hl
  clear hl
  obtain ⟨n, ns0, rfl, hl1⟩ := len_cons hl0
  obtain rfl := len_nil hl1
  exact ⟨rfl, fun h w => checkTurn_any n h w⟩
end Go.Proofs.YtffllmdjpeigbaaGreatDoor
end
section
set_option linter.all false
set_option maxRecDepth 1000000
set_option maxHeartbeats 2000000
open Go.RowKit
namespace Go.Proofs.YtffllmdjpeigbaaGreatDoor
open Mini

def checkEisen_val (a b : Int) : Value := .int .i64 (Pl.parts a b 1048576)
theorem checkEisen_X : FOkS Tryz.prog x_checkEisen := kAll_ok _ ⟨k_range, trivial⟩
theorem checkEisen_args (a b : Int) : (#[.agg #[.int .i64 a, .int .i64 b]] : Array Value).toList.all (ground 8) = true := by kernel_rfl
theorem checkEisen_g0 : True := by first | rfl | trivial | decide | omega
theorem checkEisen_g1 : (true = true) := by first | rfl | trivial | decide | omega
theorem checkEisen_g2 : ((0 : Int) = (0 : Int)) := by first | rfl | trivial | decide | omega
def checkEisen_c0 (a b : Int) : Bool := ((Pl.cr a (-1048576 : Int) (1048576 : Int)) != (0 : Int))
theorem checkEisen_g4 : ((1 : Int) = (1 : Int)) := by first | rfl | trivial | decide | omega
def checkEisen_c1 (a b : Int) : Bool := ((Pl.cr b (-1048576 : Int) (1048576 : Int)) != (0 : Int))
theorem checkEisen_g6 : (false = false) := by first | rfl | trivial | decide | omega
def checkEisen_w0 (a b : Int) : Value := .int .i64 (0 : Int)
def checkEisen_r0 (a b : Int) : Prop := (((((((((True ∧ (True)) ∧ (True)) ∧ ((true = true))) ∧ (((0 : Int) = (0 : Int)))) ∧ (checkEisen_c0 a b = false)) ∧ ((true = true))) ∧ (((1 : Int) = (1 : Int)))) ∧ (checkEisen_c1 a b = false)) ∧ ((false = false)))
theorem checkEisen_o0 (a b : Int) : obOf (checkEisen_e0 a b) = checkEisen_r0 a b := by kernel_rfl
theorem checkEisen_v0 (a b : Int) : resOf (checkEisen_e0 a b) = checkEisen_w0 a b := by kernel_rfl
theorem checkEisen_k0 (a b : Int) : cleanOf Tryz.prog.globals.size (checkEisen_e0 a b) = true := by kernel_rfl
theorem checkEisen_q0 (a b : Int) : checkEisen_e0 a b = evFS Tryz.prog x_checkEisen 1000 66 #[.agg #[.int .i64 a, .int .i64 b]] (noTabs 9) ⟨[1, 0, 0, 1, 1, 0, 0], True⟩ := by
  delta checkEisen_e0
  exact Eq.refl _
theorem checkEisen_p0 (a b : Int) (h : checkEisen_r0 a b) (w : World) : Calls Tryz.prog 66 #[.agg #[.int .i64 a, .int .i64 b]] w fun en w' => en = .returned (checkEisen_w0 a b) ∧ Below w.heap.size w w' := by
  have hv := checkEisen_v0 a b
  have hc := checkEisen_k0 a b
  have he := checkEisen_q0 a b
  have ho := checkEisen_o0 a b
  generalize checkEisen_e0 a b = r at *
  exact calls_way he gfol checkEisen_X hv rfl (checkEisen_args a b) hc ho h (bl w)
def checkEisen_w1 (a b : Int) : Value := .int .i64 (Pl.cr b (-1048576 : Int) (1048576 : Int))
def checkEisen_r1 (a b : Int) : Prop := ((((((((True ∧ (True)) ∧ (True)) ∧ ((true = true))) ∧ (((0 : Int) = (0 : Int)))) ∧ (checkEisen_c0 a b = false)) ∧ ((true = true))) ∧ (((1 : Int) = (1 : Int)))) ∧ (checkEisen_c1 a b = true))
theorem checkEisen_o1 (a b : Int) : obOf (checkEisen_e1 a b) = checkEisen_r1 a b := by kernel_rfl
theorem checkEisen_v1 (a b : Int) : resOf (checkEisen_e1 a b) = checkEisen_w1 a b := by kernel_rfl
theorem checkEisen_k1 (a b : Int) : cleanOf Tryz.prog.globals.size (checkEisen_e1 a b) = true := by kernel_rfl
theorem checkEisen_q1 (a b : Int) : checkEisen_e1 a b = evFS Tryz.prog x_checkEisen 1000 66 #[.agg #[.int .i64 a, .int .i64 b]] (noTabs 9) ⟨[1, 0, 0, 1, 1, 1], True⟩ := by
  delta checkEisen_e1
  exact Eq.refl _
theorem checkEisen_p1 (a b : Int) (h : checkEisen_r1 a b) (w : World) : Calls Tryz.prog 66 #[.agg #[.int .i64 a, .int .i64 b]] w fun en w' => en = .returned (checkEisen_w1 a b) ∧ Below w.heap.size w w' := by
  have hv := checkEisen_v1 a b
  have hc := checkEisen_k1 a b
  have he := checkEisen_q1 a b
  have ho := checkEisen_o1 a b
  generalize checkEisen_e1 a b = r at *
  exact calls_way he gfol checkEisen_X hv rfl (checkEisen_args a b) hc ho h (bl w)
def checkEisen_w2 (a b : Int) : Value := .int .i64 (Pl.cr a (-1048576 : Int) (1048576 : Int))
def checkEisen_r2 (a b : Int) : Prop := (((((True ∧ (True)) ∧ (True)) ∧ ((true = true))) ∧ (((0 : Int) = (0 : Int)))) ∧ (checkEisen_c0 a b = true))
theorem checkEisen_o2 (a b : Int) : obOf (checkEisen_e2 a b) = checkEisen_r2 a b := by kernel_rfl
theorem checkEisen_v2 (a b : Int) : resOf (checkEisen_e2 a b) = checkEisen_w2 a b := by kernel_rfl
theorem checkEisen_k2 (a b : Int) : cleanOf Tryz.prog.globals.size (checkEisen_e2 a b) = true := by kernel_rfl
theorem checkEisen_q2 (a b : Int) : checkEisen_e2 a b = evFS Tryz.prog x_checkEisen 1000 66 #[.agg #[.int .i64 a, .int .i64 b]] (noTabs 9) ⟨[1, 0, 1], True⟩ := by
  delta checkEisen_e2
  exact Eq.refl _
theorem checkEisen_p2 (a b : Int) (h : checkEisen_r2 a b) (w : World) : Calls Tryz.prog 66 #[.agg #[.int .i64 a, .int .i64 b]] w fun en w' => en = .returned (checkEisen_w2 a b) ∧ Below w.heap.size w w' := by
  have hv := checkEisen_v2 a b
  have hc := checkEisen_k2 a b
  have he := checkEisen_q2 a b
  have ho := checkEisen_o2 a b
  generalize checkEisen_e2 a b = r at *
  exact calls_way he gfol checkEisen_X hv rfl (checkEisen_args a b) hc ho h (bl w)
theorem checkEisen_any (a b : Int) (hpre : True) (w : World) : Calls Tryz.prog 66 #[.agg #[.int .i64 a, .int .i64 b]] w fun en w' => en = .returned (checkEisen_val a b) ∧ Below w.heap.size w w' := by
  rcases Bool.eq_false_or_eq_true (checkEisen_c0 a b) with h0 | h0
  ·
    unfold checkEisen_c0 at h0
    have hp := checkEisen_p2 a b ⟨⟨⟨⟨⟨trivial, checkEisen_g0⟩, checkEisen_g0⟩, checkEisen_g1⟩, checkEisen_g2⟩, h0⟩ w
    have hv : checkEisen_w2 a b = (checkEisen_val a b) := by
      clear hp
      unfold checkEisen_w2 checkEisen_val
      first | rfl | ((try simp only [bne_iff_ne, ne_eq, decide_eq_true_eq, decide_eq_false_iff_not, Bool.not_eq_true', Bool.not_eq_false', beq_iff_eq, beq_eq_false_iff_ne, bne_eq_false_iff_eq, Bool.and_eq_true, Bool.not_eq_true, Bool.not_eq_false, Pl.cr, parts_eq, w20, w16, wT, w20', w16', wT', Pl.lim, Pl.inB, first_two, two, oneB, Bg] at *); grind)
    exact hv ▸ hp
  ·
    unfold checkEisen_c0 at h0
    rcases Bool.eq_false_or_eq_true (checkEisen_c1 a b) with h1 | h1
    ·
      unfold checkEisen_c1 at h1
      have hp := checkEisen_p1 a b ⟨⟨⟨⟨⟨⟨⟨⟨trivial, checkEisen_g0⟩, checkEisen_g0⟩, checkEisen_g1⟩, checkEisen_g2⟩, h0⟩, checkEisen_g1⟩, checkEisen_g4⟩, h1⟩ w
      have hv : checkEisen_w1 a b = (checkEisen_val a b) := by
        clear hp
        unfold checkEisen_w1 checkEisen_val
        first | rfl | ((try simp only [bne_iff_ne, ne_eq, decide_eq_true_eq, decide_eq_false_iff_not, Bool.not_eq_true', Bool.not_eq_false', beq_iff_eq, beq_eq_false_iff_ne, bne_eq_false_iff_eq, Bool.and_eq_true, Bool.not_eq_true, Bool.not_eq_false, Pl.cr, parts_eq, w20, w16, wT, w20', w16', wT', Pl.lim, Pl.inB, first_two, two, oneB, Bg] at *); grind)
      exact hv ▸ hp
    ·
      unfold checkEisen_c1 at h1
      have hp := checkEisen_p0 a b ⟨⟨⟨⟨⟨⟨⟨⟨⟨trivial, checkEisen_g0⟩, checkEisen_g0⟩, checkEisen_g1⟩, checkEisen_g2⟩, h0⟩, checkEisen_g1⟩, checkEisen_g4⟩, h1⟩, checkEisen_g6⟩ w
      have hv : checkEisen_w0 a b = (checkEisen_val a b) := by
        clear hp
        unfold checkEisen_w0 checkEisen_val
        first | rfl | ((try simp only [bne_iff_ne, ne_eq, decide_eq_true_eq, decide_eq_false_iff_not, Bool.not_eq_true', Bool.not_eq_false', beq_iff_eq, beq_eq_false_iff_ne, bne_eq_false_iff_eq, Bool.and_eq_true, Bool.not_eq_true, Bool.not_eq_false, Pl.cr, parts_eq, w20, w16, wT, w20', w16', wT', Pl.lim, Pl.inB, first_two, two, oneB, Bg] at *); grind)
      exact hv ▸ hp
theorem k_checkEisen : ConOk Tryz.prog c_checkEisen := fun ns hl => by
  have hl0 : ns.length = 2 := hl
  clear hl
  obtain ⟨a, ns0, rfl, hl1⟩ := len_cons hl0
  obtain ⟨b, ns1, rfl, hl2⟩ := len_cons hl1
  obtain rfl := len_nil hl2
  exact ⟨rfl, fun h w => checkEisen_any a b h w⟩
end Go.Proofs.YtffllmdjpeigbaaGreatDoor
end
section
set_option linter.all false
set_option maxRecDepth 1000000
open Go.RowKit
namespace Go.Proofs.YtffllmdjpeigbaaGreatDoor
open Mini
noncomputable def frX : Code := loopOf Tryz.prog 9
noncomputable def frK : CallS := kAll [c_turn, c_limited]
noncomputable def frKF (v : Int → Int → Int) : CallS := bothX (kEachE v) (kAll [c_checkTurn])
def frArgs (n c : Nat) (s : Int) : Array Value := #[.slice (some ⟨9, 0, none⟩) n c, .int .i64 s]
def frQ (s : Int) (i : Nat) : Int := IntKind.i64.wrap (IntKind.i64.wrap (0 - s) * (i : Int))
def frT (g : Nat → Nat → Int) (s : Int) (i : Nat) : (Int × Int) × Int := Pl.lim ((Pl.turn (g i 0, g i 1) (frQ s i)).1, (Pl.turn (g i 0, g i 1) (frQ s i)).2)
def frW (g : Nat → Nat → Int) (s : Int) (i : Nat) : List Value := [.int .i64 (frT g s i).1.1, .int .i64 (frT g s i).1.2]
def frZ : List Value := [.int .i64 0, .int .i64 0]
def frZ0 : Nat → Nat → Value := fun _ j => (#[.int .i64 0, .int .i64 0] : Array Value).getD j (.chan none)
def frL (n : Nat) (g : Nat → Nat → Int) (e : TypeId) (opn : Bool) (sz : Nat) (ro : Bool) (s u1 u2 : Int) (i : Nat) : List MObj := [rowI 2 n g e opn sz ro, .cells [.int .i64 u1, .int .i64 u2] 24 false 0 false, .rows n 2 (fillG frZ (frW g s) i) 40 false 0 false]
def frL0 (n : Nat) (g : Nat → Nat → Int) (e : TypeId) (opn : Bool) (sz : Nat) (ro : Bool) (u1 u2 : Int) : List MObj := [rowI 2 n g e opn sz ro, .cells [.int .i64 u1, .int .i64 u2] 24 false 0 false, .rows n 2 frZ0 40 false 0 false]
def frA (n c : Nat) (s : Int) (i : Nat) : MA := MA.ofL 50 [.chan none, .int .i64 s, .chan none, .chan none, .chan none, .chan none, .chan none, .slice (some ⟨11, 0, none⟩) n n, .chan none, .chan none, .chan none, .chan none, .chan none, .chan none, .chan none, .chan none, .chan none, .chan none, .chan none, .chan none, .chan none, .chan none, .chan none, .chan none, .slice (some ⟨9, 0, none⟩) n c, .int .i64 (n : Int), .int .i64 (i : Int), .chan none, .chan none, .chan none, .chan none, .chan none, .chan none, .chan none, .chan none, .chan none, .chan none, .chan none, .chan none, .chan none, .chan none, .chan none, .chan none, .chan none, .chan none, .chan none, .chan none, .chan none, .chan none, .chan none] []
def frB (r : Int) : MA := MA.ofL 50 [.chan none, .chan none, .chan none, .chan none, .slice none 0 0, .int .i64 r, .chan none, .chan none, .chan none, .chan none, .chan none, .chan none, .chan none, .chan none, .chan none, .chan none, .chan none, .chan none, .chan none, .chan none, .chan none, .chan none, .chan none, .chan none, .chan none, .chan none, .chan none, .chan none, .chan none, .chan none, .chan none, .chan none, .chan none, .chan none, .chan none, .chan none, .chan none, .chan none, .chan none, .chan none, .chan none, .chan none, .chan none, .chan none, .chan none, .chan none, .chan none, .chan none, .chan none, .chan none] []
def frE (n : Nat) : MA := MA.ofL 50 [.chan none, .chan none, .chan none, .chan none, .chan none, .chan none, .chan none, .slice (some ⟨11, 0, none⟩) n n, .chan none, .chan none, .chan none, .chan none, .chan none, .chan none, .chan none, .chan none, .chan none, .chan none, .chan none, .chan none, .chan none, .chan none, .chan none, .chan none, .chan none, .chan none, .chan none, .chan none, .chan none, .chan none, .chan none, .chan none, .chan none, .chan none, .chan none, .chan none, .chan none, .chan none, .chan none, .chan none, .chan none, .chan none, .chan none, .chan none, .chan none, .chan none, .chan none, .chan none, .chan none, .chan none] []
def frU1 (v : Int → Int → Int) (n : Nat) (g : Nat → Nat → Int) : Int := feN (fun i => v (g i 0) (g i 1)) n 0
def frU2 (s : Int) : Int := Pl.cr s (-1000000) 1000000
noncomputable def frR (n c : Nat) (g : Nat → Nat → Int) (e : TypeId) (opn : Bool) (sz : Nat) (ro : Bool) (s u1 u2 : Int) (i : Nat) : Option OutCS := evCRS Tryz.prog frK 1000 none false frX (frA n c s i) (wS 9 (frL n g e opn sz ro s u1 u2 (i))) ⟨[1, .row i 0, .row i 0, 0, .row i 0, .row i 0, .azz (.int .i64 ((i + 1 : Nat) : Int))], True⟩
noncomputable def frW1 (n c : Nat) (g : Nat → Nat → Int) (e : TypeId) (opn : Bool) (sz : Nat) (ro : Bool) (s u1 u2 : Int) (i : Nat) : Option OutCS := evCRS Tryz.prog frK 1000 none false frX (frA n c s i) (wS 9 (frL n g e opn sz ro s u1 u2 (i))) ⟨[1, .row i 0, .row i 0, 1], True⟩
noncomputable def frN (n c : Nat) (g : Nat → Nat → Int) (e : TypeId) (opn : Bool) (sz : Nat) (ro : Bool) (s u1 u2 : Int) (i : Nat) : Option OutCS := evCRS Tryz.prog frK 1000 none false frX (frA n c s i) (wS 9 (frL n g e opn sz ro s u1 u2 (i))) ⟨[0], True⟩
noncomputable def frF_many (v : Int → Int → Int) (n c : Nat) (g : Nat → Nat → Int) (e : TypeId) (opn : Bool) (sz : Nat) (ro : Bool) (s : Int) : Option OutS := evFS Tryz.prog (frKF v) 1000 9 (frArgs n c s) (wS 9 [rowI 2 n g e opn sz ro]) ⟨[1, 1, 0, 1, 1], True⟩
noncomputable def frF_e1 (v : Int → Int → Int) (n c : Nat) (g : Nat → Nat → Int) (e : TypeId) (opn : Bool) (sz : Nat) (ro : Bool) (s : Int) : Option OutS := evFS Tryz.prog (frKF v) 1000 9 (frArgs n c s) (wS 9 [rowI 2 n g e opn sz ro]) ⟨[0, 1, 0, 1, 1], True⟩
noncomputable def frF_e2 (v : Int → Int → Int) (n c : Nat) (g : Nat → Nat → Int) (e : TypeId) (opn : Bool) (sz : Nat) (ro : Bool) (s : Int) : Option OutS := evFS Tryz.prog (frKF v) 1000 9 (frArgs n c s) (wS 9 [rowI 2 n g e opn sz ro]) ⟨[0, 1, 0, 0, 1, 1, 1, 1], True⟩
noncomputable def frF_ret (v : Int → Int → Int) (n c : Nat) (g : Nat → Nat → Int) (e : TypeId) (opn : Bool) (sz : Nat) (ro : Bool) (s r : Int) (j : Nat) : Option OutS := evFS Tryz.prog (frKF v) 1000 9 (frArgs n c s) (wS 9 [rowI 2 n g e opn sz ro]) ⟨[0, 1, 0, 0, 1, 1, 0, 0, 0, .row n 0, .lp 117440642 (frA n c s 0) 9 (frL0 n g e opn sz ro (frU1 v n g) (frU2 s)) .ret (frB r) (frL n g e opn sz ro s (frU1 v n g) (frU2 s) j) 3584 2048], True⟩
noncomputable def frF_end (v : Int → Int → Int) (n c : Nat) (g : Nat → Nat → Int) (e : TypeId) (opn : Bool) (sz : Nat) (ro : Bool) (s : Int) : Option OutS := evFS Tryz.prog (frKF v) 1000 9 (frArgs n c s) (wS 9 [rowI 2 n g e opn sz ro]) ⟨[0, 1, 0, 0, 1, 1, 0, 0, 0, .row n 0, .lp 117440642 (frA n c s 0) 9 (frL0 n g e opn sz ro (frU1 v n g) (frU2 s)) (.exit 0) (frE n) (frL n g e opn sz ro s (frU1 v n g) (frU2 s) n) 3584 2048], True⟩
theorem frK_ok : FOkS Tryz.prog frK := kAll_ok _ ⟨k_turn, k_limited, trivial⟩
theorem frKF_ok {v : Int → Int → Int} (hc : ConOk Tryz.prog (ceC v)) : FOkS Tryz.prog (frKF v) := bothX_ok (kEachE_ok hc) (kAll_ok _ ⟨k_checkTurn, trivial⟩)
section
variable (n c : Nat) (g : Nat → Nat → Int) (e : TypeId) (opn : Bool) (sz : Nat) (ro : Bool) (s u1 u2 : Int) (i : Nat)
theorem frR_eq : seenF 9 3 117440642 (frR n c g e opn sz ro s u1 u2 i) = some (.normal, frA n c s (i + 1), [rowI 2 n g e opn sz ro, .cells [.int .i64 u1, .int .i64 u2] 24 false 0 false, .rows n 2 (setRow (fillG frZ (frW g s) i) i 0 (frW g s i)) 40 false 0 false], 12800, 14336, ⟨[], (((((((((True ∧ ((decide ((((i : Nat)) : Int) < (((n : Nat)) : Int))) = true)) ∧ (((((i : Nat)) : Int) = (Int.ofNat i)) ∧ (i < n))) ∧ (((0 + (i * 2)) = ((i * 2) + 0)) ∧ (i < n))) ∧ (((- (1099511627776 : Int)) ≤ (g i 0)) ∧ (((g i 0) ≤ (1099511627776 : Int)) ∧ (((- (1099511627776 : Int)) ≤ (g i 1)) ∧ ((g i 1) ≤ (1099511627776 : Int)))))) ∧ True) ∧ ((((Pl.lim (((Pl.turn ((g i 0), (g i 1)) (IntKind.i64.wrap ((IntKind.i64.wrap ((0 : Int) - s)) * (((i : Nat)) : Int))))).1, ((Pl.turn ((g i 0), (g i 1)) (IntKind.i64.wrap ((IntKind.i64.wrap ((0 : Int) - s)) * (((i : Nat)) : Int))))).2))).2 != (0 : Int)) = false)) ∧ (((((i : Nat)) : Int) = (Int.ofNat i)) ∧ (i < n))) ∧ (((0 + (i * 2)) = ((i * 2) + 0)) ∧ (i < n))) ∧ (((.int .i64 (IntKind.i64.wrap ((((i : Nat)) : Int) + (1 : Int)))) : Value) = (.int .i64 ((((i + 1) : Nat)) : Int))))⟩) := by kernel_rfl
theorem frW1_eq : seenF 9 3 48 (frW1 n c g e opn sz ro s u1 u2 i) = some (.ret, frB (frT g s i).2, frL n g e opn sz ro s u1 u2 i, 4608, 12288, ⟨[], ((((((True ∧ ((decide ((((i : Nat)) : Int) < (((n : Nat)) : Int))) = true)) ∧ (((((i : Nat)) : Int) = (Int.ofNat i)) ∧ (i < n))) ∧ (((0 + (i * 2)) = ((i * 2) + 0)) ∧ (i < n))) ∧ (((- (1099511627776 : Int)) ≤ (g i 0)) ∧ (((g i 0) ≤ (1099511627776 : Int)) ∧ (((- (1099511627776 : Int)) ≤ (g i 1)) ∧ ((g i 1) ≤ (1099511627776 : Int)))))) ∧ True) ∧ ((((Pl.lim (((Pl.turn ((g i 0), (g i 1)) (IntKind.i64.wrap ((IntKind.i64.wrap ((0 : Int) - s)) * (((i : Nat)) : Int))))).1, ((Pl.turn ((g i 0), (g i 1)) (IntKind.i64.wrap ((IntKind.i64.wrap ((0 : Int) - s)) * (((i : Nat)) : Int))))).2))).2 != (0 : Int)) = true))⟩) := by kernel_rfl
theorem frN_eq : seenF 9 3 128 (frN n c g e opn sz ro s u1 u2 i) = some ((.exit (0 : Nat)), frE n, frL n g e opn sz ro s u1 u2 i, 0, 0, ⟨[], (True ∧ ((decide ((((i : Nat)) : Int) < (((n : Nat)) : Int))) = false))⟩) := by kernel_rfl
theorem frA_keep : allKeep (9 + 3) (frA n c s i) 50 = true := by kernel_rfl
theorem frL_keep : ∀ o, o ∈ frL n g e opn sz ro s u1 u2 i → keepO (below (9 + 3)) o := fun o ho => by
  simp only [frL, List.mem_cons, List.not_mem_nil, or_false] at ho
  rcases ho with rfl | rfl | rfl
  · exact rowI_keep _ _ _ _ _ _ _
  · rfl
  · exact fill_keep rfl (fun a => rfl)
theorem frL_set : [rowI 2 n g e opn sz ro, .cells [.int .i64 u1, .int .i64 u2] 24 false 0 false, .rows n 2 (setRow (fillG frZ (frW g s) i) i 0 (frW g s i)) 40 false 0 false] = frL n g e opn sz ro s u1 u2 (i + 1) := by rw [fill_set (z := frZ) (w := frW g s) (i := i) rfl]; rfl
theorem frZ0_eq : frZ0 = fillG frZ (frW g s) 0 := by
  rw [← fill_zero frZ (frW g s)]
  funext a j
  match j with
  | 0 => rfl
  | 1 => rfl
  | j + 2 =>
    simp [frZ0, frZ, List.getD, Array.getD]
    intro h; omega
theorem frL0_eq : frL0 n g e opn sz ro u1 u2 = frL n g e opn sz ro s u1 u2 0 := by unfold frL0 frL; rw [frZ0_eq g s]
variable {n i}
theorem fr_go (hn : n ≤ 256) (hi : i < n) (hg : Bg 1099511627776 (g i 0) (g i 1)) (h0 : (frT g s i).2 = 0) : SndC Tryz.prog none frX (frA n c s i).act (wS 9 (frL n g e opn sz ro s u1 u2 (i))) .normal (frA n c s (i + 1)).act (wS 9 (frL n g e opn sz ro s u1 u2 (i + 1))) 3584 2048 := by
  have h := frR_eq n c g e opn sz ro s u1 u2 i
  rw [frL_set] at h
  refine wayF_ok smx frK_ok sng h ?_ rfl (frA_keep n c s i) (frL_keep n g e opn sz ro s u1 u2 i) (frL_keep n g e opn sz ro s u1 u2 (i + 1)) (fun k hk hw => ?_) (by exact (by decide : ∀ b, b < 9 → Nat.testBit 14336 b = false)) (by exact (by decide : ∀ b, b < 12 → Nat.testBit 12800 b = true → Nat.testBit 3584 b = true)) (by exact (by decide : ∀ b, b < 12 → Nat.testBit 2048 b = Nat.testBit 14336 b))
  · repeat' apply And.intro
    all_goals first | trivial | rfl | exact decide_eq_true (by omega) | omega | exact hg.1 | exact hg.2.1 | exact hg.2.2.1 | exact hg.2.2.2 | exact bne_eq_false_iff_eq.2 h0 | exact wnextV hi (by omega)
  · match k, hk, hw with
    | 0, _, hw => exact absurd hw (by decide)
    | 1, _, hw => exact absurd hw (by decide)
    | 2, _, hw => exact ⟨fun h => (by cases h), rfl⟩
theorem fr_bad (hn : n ≤ 256) (hi : i < n) (hg : Bg 1099511627776 (g i 0) (g i 1)) (h0 : (frT g s i).2 ≠ 0) : SndC Tryz.prog none frX (frA n c s i).act (wS 9 (frL n g e opn sz ro s u1 u2 (i))) .ret (frB (frT g s i).2).act (wS 9 (frL n g e opn sz ro s u1 u2 (i))) 3584 2048 := by
  refine (wayF_ok0 smx frK_ok sng (frW1_eq n c g e opn sz ro s u1 u2 i) ?_ rfl (frA_keep n c s i) (frL_keep n g e opn sz ro s u1 u2 i) (frL_keep n g e opn sz ro s u1 u2 i) (by exact (by decide : ∀ b, b < 12 → Nat.testBit 12288 b = false)) (R2 := 3584) (by exact (by decide : ∀ b, b < 12 → Nat.testBit 4608 b = true → Nat.testBit 3584 b = true))).wide (fun b hb => by rw [or_bit, hb]; rfl) (fun b hb => by simp at hb)
  repeat' apply And.intro
  all_goals first | trivial | rfl | exact decide_eq_true (by omega) | omega | exact hg.1 | exact hg.2.1 | exact hg.2.2.1 | exact hg.2.2.2 | exact bne_iff_ne.2 h0
theorem fr_end (hi : ¬ i < n) : SndC Tryz.prog none frX (frA n c s i).act (wS 9 (frL n g e opn sz ro s u1 u2 (i))) (.exit 0) (frE n).act (wS 9 (frL n g e opn sz ro s u1 u2 (i))) 3584 2048 := by
  refine (wayF_ok0 smx frK_ok sng (frN_eq n c g e opn sz ro s u1 u2 i) ⟨trivial, decide_eq_false (by omega)⟩ rfl (frA_keep n c s i) (frL_keep n g e opn sz ro s u1 u2 i) (frL_keep n g e opn sz ro s u1 u2 i) (by exact (by decide : ∀ b, b < 12 → Nat.testBit 0 b = false)) (R2 := 3584) (by exact (by decide : ∀ b, b < 12 → Nat.testBit 0 b = true → Nat.testBit 3584 b = true))).wide (fun b hb => by rw [or_bit, hb]; rfl) (fun b hb => by simp at hb)
end
section
variable (v : Int → Int → Int) (n c : Nat) (g : Nat → Nat → Int) (e : TypeId) (opn : Bool) (sz : Nat) (ro : Bool) (s r : Int) (j : Nat)
theorem frF_manyeq : frF_many v n c g e opn sz ro s = some ((.tuple #[(.slice none (0 : Nat) (0 : Nat)), (.int .i64 (5 : Int))]), wldOf (frF_many v n c g e opn sz ro s), 0, 0, ⟨[], ((((((True ∧ ((decide ((((n : Nat)) : Int) > (256 : Int))) = true)) ∧ True) ∧ ((decide ((0 : Int) < (((2 : Nat)) : Int))) = true)) ∧ ((0 : Int) = (Int.ofNat 0))) ∧ (((5 : Int) != (0 : Int)) = true)) ∧ (((5 : Int) != (0 : Int)) = true))⟩) := by kernel_rfl
theorem frF_e1eq : frF_e1 v n c g e opn sz ro s = some ((.tuple #[(.slice none (0 : Nat) (0 : Nat)), (.int .i64 (feN (fun (i : Nat) => (v (gI (Value.int .i64 (g i 0))) (gI (Value.int .i64 (g i 1))))) n (0 : Nat)))]), wldOf (frF_e1 v n c g e opn sz ro s), 512, 0, ⟨[], (((((((True ∧ ((decide ((((n : Nat)) : Int) > (256 : Int))) = false)) ∧ (((n = n) ∧ (∀ (i : Nat), ((i < n) → (∀ (j : Nat), ((j < (2 : Nat)) → ((Value.int .i64 (g i j)) = (Value.int .i64 (gI (Value.int .i64 (g i j)))))))))) ∧ ((((n : Nat)) : Int) ≤ (9223372036854775807 : Int)))) ∧ True) ∧ ((decide ((0 : Int) < (((2 : Nat)) : Int))) = true)) ∧ ((0 : Int) = (Int.ofNat 0))) ∧ (((feN (fun (i : Nat) => (v (gI (Value.int .i64 (g i 0))) (gI (Value.int .i64 (g i 1))))) n (0 : Nat)) != (0 : Int)) = true)) ∧ (((feN (fun (i : Nat) => (v (gI (Value.int .i64 (g i 0))) (gI (Value.int .i64 (g i 1))))) n (0 : Nat)) != (0 : Int)) = true))⟩) := by kernel_rfl
theorem frF_e2eq : frF_e2 v n c g e opn sz ro s = some ((.tuple #[(.slice none (0 : Nat) (0 : Nat)), (.int .i64 (Pl.cr s (- (1000000 : Int)) (1000000 : Int)))]), wldOf (frF_e2 v n c g e opn sz ro s), 512, 0, ⟨[], ((((((((((True ∧ ((decide ((((n : Nat)) : Int) > (256 : Int))) = false)) ∧ (((n = n) ∧ (∀ (i : Nat), ((i < n) → (∀ (j : Nat), ((j < (2 : Nat)) → ((Value.int .i64 (g i j)) = (Value.int .i64 (gI (Value.int .i64 (g i j)))))))))) ∧ ((((n : Nat)) : Int) ≤ (9223372036854775807 : Int)))) ∧ True) ∧ ((decide ((0 : Int) < (((2 : Nat)) : Int))) = true)) ∧ ((0 : Int) = (Int.ofNat 0))) ∧ (((feN (fun (i : Nat) => (v (gI (Value.int .i64 (g i 0))) (gI (Value.int .i64 (g i 1))))) n (0 : Nat)) != (0 : Int)) = false)) ∧ ((decide ((IntKind.i64.wrap ((0 : Int) + (1 : Int))) < (((2 : Nat)) : Int))) = true)) ∧ ((IntKind.i64.wrap ((0 : Int) + (1 : Int))) = (Int.ofNat 1))) ∧ (((Pl.cr s (- (1000000 : Int)) (1000000 : Int)) != (0 : Int)) = true)) ∧ (((Pl.cr s (- (1000000 : Int)) (1000000 : Int)) != (0 : Int)) = true))⟩) := by kernel_rfl
theorem frF_reteq : frF_ret v n c g e opn sz ro s r j = some ((.tuple #[(.slice none (0 : Nat) (0 : Nat)), (.int .i64 r)]), wldOf (frF_ret v n c g e opn sz ro s r j), 512, 0, ⟨[], (((((((((((((True ∧ ((decide ((((n : Nat)) : Int) > (256 : Int))) = false)) ∧ (((n = n) ∧ (∀ (i : Nat), ((i < n) → (∀ (j : Nat), ((j < (2 : Nat)) → ((Value.int .i64 (g i j)) = (Value.int .i64 (gI (Value.int .i64 (g i j)))))))))) ∧ ((((n : Nat)) : Int) ≤ (9223372036854775807 : Int)))) ∧ True) ∧ ((decide ((0 : Int) < (((2 : Nat)) : Int))) = true)) ∧ ((0 : Int) = (Int.ofNat 0))) ∧ (((feN (fun (i : Nat) => (v (gI (Value.int .i64 (g i 0))) (gI (Value.int .i64 (g i 1))))) n (0 : Nat)) != (0 : Int)) = false)) ∧ ((decide ((IntKind.i64.wrap ((0 : Int) + (1 : Int))) < (((2 : Nat)) : Int))) = true)) ∧ ((IntKind.i64.wrap ((0 : Int) + (1 : Int))) = (Int.ofNat 1))) ∧ (((Pl.cr s (- (1000000 : Int)) (1000000 : Int)) != (0 : Int)) = false)) ∧ ((decide ((IntKind.i64.wrap ((IntKind.i64.wrap ((0 : Int) + (1 : Int))) + (1 : Int))) < (((2 : Nat)) : Int))) = false)) ∧ (((0 : Int) != (0 : Int)) = false)) ∧ (((((n : Nat)) : Int) = (Int.ofNat n)) ∧ (((((n : Nat)) : Int) = (Int.ofNat n)) ∧ ((((((16 : Nat)) : Int) * (((n : Nat)) : Int)) ≤ (281474976710656 : Int)) ∧ (n ≤ (1048576 : Nat)))))) ∧ ((((frA n c s (0 : Nat)) = (frA n c s (0 : Nat))) ∧ ((12 = (9 + 3)) ∧ ((HAppend.hAppend (List.replicate (9 : Nat) MObj.hole) (frL0 n g e opn sz ro (frU1 v n g) (frU2 s))) = (HAppend.hAppend (List.replicate (9 : Nat) MObj.hole) (frL0 n g e opn sz ro (frU1 v n g) (frU2 s)))))) ∧ SndC Tryz.prog none (.loop frX) (frA n c s 0).act (wS 9 (frL0 n g e opn sz ro (frU1 v n g) (frU2 s))) .ret (frB r).act (wS 9 (frL n g e opn sz ro s (frU1 v n g) (frU2 s) j)) 3584 2048))⟩) := by kernel_rfl
theorem frF_endeq : frF_end v n c g e opn sz ro s = some ((.tuple #[(.slice (some ⟨11, 0, none⟩) n n), (.int .i64 (0 : Int))]), wldOf (frF_end v n c g e opn sz ro s), 3584, 2048, ⟨[], (((((((((((((True ∧ ((decide ((((n : Nat)) : Int) > (256 : Int))) = false)) ∧ (((n = n) ∧ (∀ (i : Nat), ((i < n) → (∀ (j : Nat), ((j < (2 : Nat)) → ((Value.int .i64 (g i j)) = (Value.int .i64 (gI (Value.int .i64 (g i j)))))))))) ∧ ((((n : Nat)) : Int) ≤ (9223372036854775807 : Int)))) ∧ True) ∧ ((decide ((0 : Int) < (((2 : Nat)) : Int))) = true)) ∧ ((0 : Int) = (Int.ofNat 0))) ∧ (((feN (fun (i : Nat) => (v (gI (Value.int .i64 (g i 0))) (gI (Value.int .i64 (g i 1))))) n (0 : Nat)) != (0 : Int)) = false)) ∧ ((decide ((IntKind.i64.wrap ((0 : Int) + (1 : Int))) < (((2 : Nat)) : Int))) = true)) ∧ ((IntKind.i64.wrap ((0 : Int) + (1 : Int))) = (Int.ofNat 1))) ∧ (((Pl.cr s (- (1000000 : Int)) (1000000 : Int)) != (0 : Int)) = false)) ∧ ((decide ((IntKind.i64.wrap ((IntKind.i64.wrap ((0 : Int) + (1 : Int))) + (1 : Int))) < (((2 : Nat)) : Int))) = false)) ∧ (((0 : Int) != (0 : Int)) = false)) ∧ (((((n : Nat)) : Int) = (Int.ofNat n)) ∧ (((((n : Nat)) : Int) = (Int.ofNat n)) ∧ ((((((16 : Nat)) : Int) * (((n : Nat)) : Int)) ≤ (281474976710656 : Int)) ∧ (n ≤ (1048576 : Nat)))))) ∧ ((((frA n c s (0 : Nat)) = (frA n c s (0 : Nat))) ∧ ((12 = (9 + 3)) ∧ ((HAppend.hAppend (List.replicate (9 : Nat) MObj.hole) (frL0 n g e opn sz ro (frU1 v n g) (frU2 s))) = (HAppend.hAppend (List.replicate (9 : Nat) MObj.hole) (frL0 n g e opn sz ro (frU1 v n g) (frU2 s)))))) ∧ SndC Tryz.prog none (.loop frX) (frA n c s 0).act (wS 9 (frL0 n g e opn sz ro (frU1 v n g) (frU2 s))) (.exit 0) (frE n).act (wS 9 (frL n g e opn sz ro s (frU1 v n g) (frU2 s) n)) 3584 2048))⟩) := by kernel_rfl
theorem frF_endo : (wldOf (frF_end v n c g e opn sz ro s)).get 11 = .rows n 2 (fillG frZ (frW g s) n) 40 false 0 false := by kernel_rfl
theorem frF_endn : Nat.ble (11 + 1) (wldOf (frF_end v n c g e opn sz ro s)).next = true := by kernel_rfl
end
/-- The error of Framed. -/
def frErr (v : Int → Int → Int) (n : Nat) (g : Nat → Nat → Int) (s : Int) : Int := if 256 < n then 5 else if frU1 v n g ≠ 0 then frU1 v n g else if frU2 s ≠ 0 then frU2 s else feN (fun i => (frT g s i).2) n 0
/-- A number of the new row. -/
def frI (g : Nat → Nat → Int) (s : Int) (i j : Nat) : Int := match j with
  | 0 => (frT g s i).1.1
  | _ => (frT g s i).1.2
theorem fr_keep (n c : Nat) (s : Int) : ((frArgs n c s : Array Value).toList.all (keepB (below (9 + 1)) 8)) = true := by kernel_rfl
theorem fr_loops {v : Int → Int → Int} {n : Nat} (c : Nat) (g : Nat → Nat → Int) (e : TypeId) (opn : Bool) (sz : Nat) (ro : Bool) (s u1 u2 : Int) (hn : n ≤ 256) (hg : ∀ i, i < n → Bg 1099511627776 (g i 0) (g i 1)) :
    (feN (fun i => (frT g s i).2) n 0 = 0 ∧ SndC Tryz.prog none (.loop frX) (frA n c s 0).act (wS 9 (frL0 n g e opn sz ro u1 u2)) (.exit 0) (frE n).act (wS 9 (frL n g e opn sz ro s u1 u2 n)) 3584 2048) ∨
    (∃ j, feN (fun i => (frT g s i).2) n 0 = (frT g s j).2 ∧ (frT g s j).2 ≠ 0 ∧ SndC Tryz.prog none (.loop frX) (frA n c s 0).act (wS 9 (frL0 n g e opn sz ro u1 u2)) .ret (frB (frT g s j).2).act (wS 9 (frL n g e opn sz ro s u1 u2 j)) 3584 2048) := by
  rw [frL0_eq n g e opn sz ro s u1 u2]
  rcases loop_split (A := fun i => (frA n c s i).act) (S := fun i => wS 9 (frL n g e opn sz ro s u1 u2 i)) (A1 := fun i => (frB (frT g s i).2).act) (S1 := fun i => wS 9 (frL n g e opn sz ro s u1 u2 i)) (good := fun i => (frT g s i).2 = 0) (fun i => Decidable.em _) n
    (fun i hi h0 => fr_go c g e opn sz ro s u1 u2 hn hi (hg i hi) h0) (fun i hi h0 => fr_bad c g e opn sz ro s u1 u2 hn hi (hg i hi) h0) (fr_end c g e opn sz ro s u1 u2 (Nat.lt_irrefl n)) (by simp) (by simp) with ⟨h1, h2⟩ | ⟨j, hj, h1, h3, h2⟩
  · exact .inl ⟨feN_all fun k _ hk => h1 k (by omega), h2⟩
  · exact .inr ⟨j, feN_first (Nat.zero_le j) (by omega) (fun k _ hk => h1 k hk) h3, h3, h2⟩
theorem fr_err {v : Int → Int → Int} {n : Nat} (c : Nat) (g : Nat → Nat → Int) (e : TypeId) (opn : Bool) (sz : Nat) (ro : Bool) (s : Int) (hc : ConOk Tryz.prog (ceC v)) (hn : (n : Int) ≤ 9223372036854775807) (hg : ∀ i, i < n → v (g i 0) (g i 1) = 0 → Bg 1099511627776 (g i 0) (g i 1)) (hE : frErr v n g s ≠ 0) :
    SndF Tryz.prog 9 (frArgs n c s) (wS 9 [rowI 2 n g e opn sz ro]) (.tuple #[.slice none 0 0, .int .i64 (frErr v n g s)]) (wS 9 [rowI 2 n g e opn sz ro]) 512 0 := by
  have fin : ∀ {s01 : St} {R0 W0 : Nat}, SndF Tryz.prog 9 (frArgs n c s) (wS 9 [rowI 2 n g e opn sz ro]) (.tuple #[.slice none 0 0, .int .i64 (frErr v n g s)]) s01 R0 W0 → (∀ b, b < 10 → W0.testBit b = false) → (∀ b, b < 10 → R0.testBit b = true → Nat.testBit 512 b = true) → SndF Tryz.prog 9 (frArgs n c s) (wS 9 [rowI 2 n g e opn sz ro]) (.tuple #[.slice none 0 0, .int .i64 (frErr v n g s)]) (wS 9 [rowI 2 n g e opn sz ro]) 512 0 := fun h hW hR =>
    (SndF.tidy0 h sng rowI_keep1 hW (fr_keep n c s) rfl).mask hR (fun b _ => rfl)
  unfold frErr at hE fin ⊢
  by_cases h0 : 256 < n
  · rw [if_pos h0] at fin ⊢
    refine fin ((evFS_ok smx (frKF_ok hc) 1000 _ _ _ _ _ _ _ _ _ (show evFS _ _ _ _ _ _ _ = _ from frF_manyeq v n c g e opn sz ro s)).2 ?_) (by exact (by decide : ∀ b, b < 10 → Nat.testBit 0 b = false)) (by exact (by decide : ∀ b, b < 10 → Nat.testBit 0 b = true → Nat.testBit 512 b = true))
    repeat' (first | (with_reducible assumption) | apply And.intro)
    all_goals first | trivial | rfl | exact decide_eq_true (by omega) | exact decide_eq_false (by omega) | exact (fun _ _ _ _ => rfl) | exact bne_eq_false_iff_eq.2 hU1 | exact bne_eq_false_iff_eq.2 hU2 | exact bne_iff_ne.2 hU1 | exact bne_iff_ne.2 hU2 | omega | assumption
  rw [if_neg h0] at fin hE ⊢
  by_cases hU1 : frU1 v n g = 0
  · rw [if_neg (by simpa using hU1)] at fin hE ⊢
    by_cases hU2 : frU2 s = 0
    · rw [if_neg (by simpa using hU2)] at fin hE ⊢
      have hv : ∀ i, i < n → v (g i 0) (g i 1) = 0 := feN_zero (by unfold frU1 at hU1; exact hU1)
      rcases fr_loops (v := v) c g e opn sz ro s (frU1 v n g) (frU2 s) (by omega) (fun i hi => hg i hi (hv i hi)) with ⟨h1, h2⟩ | ⟨j, h1, h3, h2⟩
      · exact absurd h1 hE
      · rw [h1] at fin ⊢
        refine fin ((evFS_ok smx (frKF_ok hc) 1000 _ _ _ _ _ _ _ _ _ (show evFS _ _ _ _ _ _ _ = _ from frF_reteq v n c g e opn sz ro s (frT g s j).2 j)).2 ?_) (by exact (by decide : ∀ b, b < 10 → Nat.testBit 0 b = false)) (by exact (by decide : ∀ b, b < 10 → Nat.testBit 512 b = true → Nat.testBit 512 b = true))
        repeat' (first | (with_reducible assumption) | apply And.intro)
        all_goals first | trivial | rfl | exact decide_eq_true (by omega) | exact decide_eq_false (by omega) | exact (fun _ _ _ _ => rfl) | exact bne_eq_false_iff_eq.2 hU1 | exact bne_eq_false_iff_eq.2 hU2 | exact bne_iff_ne.2 hU1 | exact bne_iff_ne.2 hU2 | omega | assumption
    · rw [if_pos (by simpa using hU2)] at fin ⊢
      refine fin ((evFS_ok smx (frKF_ok hc) 1000 _ _ _ _ _ _ _ _ _ (show evFS _ _ _ _ _ _ _ = _ from frF_e2eq v n c g e opn sz ro s)).2 ?_) (by exact (by decide : ∀ b, b < 10 → Nat.testBit 0 b = false)) (by exact (by decide : ∀ b, b < 10 → Nat.testBit 512 b = true → Nat.testBit 512 b = true))
      repeat' (first | (with_reducible assumption) | apply And.intro)
      all_goals first | trivial | rfl | exact decide_eq_true (by omega) | exact decide_eq_false (by omega) | exact (fun _ _ _ _ => rfl) | exact bne_eq_false_iff_eq.2 hU1 | exact bne_eq_false_iff_eq.2 hU2 | exact bne_iff_ne.2 hU1 | exact bne_iff_ne.2 hU2 | omega | assumption
  · rw [if_pos (by simpa using hU1)] at fin ⊢
    refine fin ((evFS_ok smx (frKF_ok hc) 1000 _ _ _ _ _ _ _ _ _ (show evFS _ _ _ _ _ _ _ = _ from frF_e1eq v n c g e opn sz ro s)).2 ?_) (by exact (by decide : ∀ b, b < 10 → Nat.testBit 0 b = false)) (by exact (by decide : ∀ b, b < 10 → Nat.testBit 512 b = true → Nat.testBit 512 b = true))
    repeat' (first | (with_reducible assumption) | apply And.intro)
    all_goals first | trivial | rfl | exact decide_eq_true (by omega) | exact decide_eq_false (by omega) | exact (fun _ _ _ _ => rfl) | exact bne_eq_false_iff_eq.2 hU1 | exact bne_eq_false_iff_eq.2 hU2 | exact bne_iff_ne.2 hU1 | exact bne_iff_ne.2 hU2 | omega | assumption
theorem fr_yes {v : Int → Int → Int} {n : Nat} (c : Nat) (g : Nat → Nat → Int) (e : TypeId) (opn : Bool) (sz : Nat) (ro : Bool) (s : Int) (hc : ConOk Tryz.prog (ceC v)) (hg : ∀ i, i < n → v (g i 0) (g i 1) = 0 → Bg 1099511627776 (g i 0) (g i 1)) (hE : frErr v n g s = 0) :
    SndF Tryz.prog 9 (frArgs n c s) (wS 9 [rowI 2 n g e opn sz ro]) (.tuple #[.slice (some ⟨10, 0, none⟩) n n, .int .i64 0]) (wS 9 [rowI 2 n g e opn sz ro, rowI 2 n (frI g s) 40 false 0 false]) 3584 0 := by
  unfold frErr at hE
  split at hE
  · cases hE
  rename_i h0
  by_cases hU1 : frU1 v n g = 0
  · rw [if_neg (by simpa using hU1)] at hE
    by_cases hU2 : frU2 s = 0
    · rw [if_neg (by simpa using hU2)] at hE
      have hv : ∀ i, i < n → v (g i 0) (g i 1) = 0 := feN_zero (by unfold frU1 at hU1; exact hU1)
      rcases fr_loops (v := v) c g e opn sz ro s (frU1 v n g) (frU2 s) (by omega) (fun i hi => hg i hi (hv i hi)) with ⟨h1, h2⟩ | ⟨j, h1, h3, h2⟩
      · refine SndF.tidy (r := 11) (l := [rowI 2 n g e opn sz ro]) (o2 := rowI 2 n (frI g s) 40 false 0 false) ((evFS_ok smx (frKF_ok hc) 1000 _ _ _ _ _ _ _ _ _ (show evFS _ _ _ _ _ _ _ = _ from frF_endeq v n c g e opn sz ro s)).2 ?_) sng (by show 10 ≤ 11; decide) (Nat.le_of_ble_eq_true (frF_endn v n c g e opn sz ro s)) (fun f => ?_) rowI_keep1 (by exact (by decide : ∀ b, b < 10 → Nat.testBit 2048 b = false)) (fr_keep n c s) (fun f hf hr => wv_tuple (wvs_two (slice_wv hr) (ground_wv (n := 8) rfl)))
        · repeat' (first | (with_reducible assumption) | apply And.intro)
          all_goals first | trivial | rfl | exact decide_eq_true (by omega) | exact decide_eq_false (by omega) | exact (fun _ _ _ _ => rfl) | exact bne_eq_false_iff_eq.2 hU1 | exact bne_eq_false_iff_eq.2 hU2 | exact bne_iff_ne.2 hU1 | exact bne_iff_ne.2 hU2 | omega | assumption
        · rw [frF_endo]
          exact wo_rows (congrArg (fun l => MObj.cells l _ _ _ _) (rowsL_congr fun i j hi hj => by
            unfold fillG
            rw [if_pos hi]
            match j, hj with
            | 0, _ => rfl
            | 1, _ => rfl)) fun i j _ _ => rfl
      · exact absurd (h1.symm.trans hE) h3
    · rw [if_pos (by simpa using hU2)] at hE; exact absurd hE hU2
  · rw [if_pos (by simpa using hU1)] at hE; exact absurd hE hU1

/-! ### Known to the reckoner -/
def kFrm (v : Int → Int → Int) : CallS := fun f xs s q => match decide (f = 9) with
  | true => match xs.toList with
    | [.slice (some ⟨b, 0, none⟩) n c, .int .i64 k] => match Nat.ble 9 b, rowK 2 .i64 s b n, q.rest with
      | true, some (g, _, _, _, _, p), .n d :: rest => match (d == 1) with
        | true => some (.tuple #[.slice (some ⟨s.next, 0, none⟩) n n, .int .i64 0], s.push (rowI 2 n (frI g k) 40 false 0 false), 2 ^ b, 0, ⟨rest, q.ob ∧ (p ∧ (∀ i, i < n → v (g i 0) (g i 1) = 0 → Bg 1099511627776 (g i 0) (g i 1)) ∧ frErr v n g k = 0)⟩)
        | false => some (.tuple #[.slice none 0 0, .int .i64 (frErr v n g k)], s, 2 ^ b, 0, ⟨rest, q.ob ∧ (p ∧ (n : Int) ≤ 9223372036854775807 ∧ (∀ i, i < n → v (g i 0) (g i 1) = 0 → Bg 1099511627776 (g i 0) (g i 1)) ∧ frErr v n g k ≠ 0)⟩)
      | _, _, _ => none
    | _ => none
  | false => none
theorem kFrm_ok {v : Int → Int → Int} (hc : ConOk Tryz.prog (ceC v)) : FOkS Tryz.prog (kFrm v) := fun f xs s q u s1 R W q1 he => by
  unfold kFrm at he
  split at he
  · rename_i hf
    have hf := of_decide_eq_true hf
    subst hf
    split at he
    · rename_i b n c k hx
      have hxs : xs = #[.slice (some ⟨b, 0, none⟩) n c, .int .i64 k] := by apply Array.ext'; exact hx
      subst hxs
      split at he
      · rename_i g e opn sz ro p d rest hb hr hq0
        have hb := Nat.le_of_ble_eq_true hb
        split at he
        · cases he
          refine ⟨fun hq => hq.1, fun hq => ?_⟩
          obtain ⟨hp, hg, hE⟩ := hq.2
          obtain ⟨l1, w1⟩ := rowK_wo hr hp
          refine SndF.rowsNew (N := 9) (bs := [b]) (s0 := wS 9 [rowI 2 n g e opn sz ro]) (o1 := rowI 2 n (frI g k) 40 false 0 false) sng (fr_yes c g e opn sz ro k hc hg hE) rfl (fun x hx => ?_) (by simp) (by omega) (fun x hx _ => ?_) (fun x hx => ?_) (fun f j hj => ?_) (fun f _ hf => wvs_two (slice_wv (hf 0 (by simp))) (ground_wv (n := 8) rfl)) (fun f _ hf hn => ⟨wv_tuple (wvs_two (slice_wv hn) (ground_wv (n := 8) rfl)), keep_wo (N := fun _ => false) (fun b hb => by cases hb) (rowI_keep _ _ _ _ _ _ _)⟩)
          · simp at hx; subst hx; omega
          · rcases Nat.lt_or_ge x 9 with k | k
            · have hz := (by decide : ∀ b, b < 9 → Nat.testBit 3584 b = false) x k
              rw [hz] at hx; cases hx
            · exact k
          · simp at hx; subst hx; exact bit_self _
          · match j, hj with
            | 0, _ => exact w1 f
        · cases he
          refine ⟨fun hq => hq.1, fun hq => ?_⟩
          obtain ⟨hp, hn, hg, hE⟩ := hq.2
          obtain ⟨l1, w1⟩ := rowK_wo hr hp
          exact SndF.row (N := 9) sng (fr_err c g e opn sz ro k hc hn hg hE) rfl hb l1 w1 (fun f _ hf => wvs_two (slice_wv hf) (ground_wv (n := 8) rfl))
      · cases he
    · cases he
  · cases he
end Go.Proofs.YtffllmdjpeigbaaGreatDoor
end
section
set_option linter.all false
set_option maxRecDepth 1000000
set_option maxHeartbeats 2000000
open Go.RowKit
namespace Go.Proofs.YtffllmdjpeigbaaGreatDoor
open Mini

def rprod_val (a b c d : Int) : Value := .agg #[.int .i64 (Pl.mul (a, b) (c, d)).1, .int .i64 (Pl.mul (a, b) (c, d)).2]
theorem rprod_X : FOkS Tryz.prog x_rprod := noXS_ok
theorem rprod_args (a b c d : Int) : (#[.agg #[.int .i64 a, .int .i64 b], .agg #[.int .i64 c, .int .i64 d]] : Array Value).toList.all (ground 8) = true := by kernel_rfl
def rprod_w0 (a b c d : Int) : Value := .agg #[.int .i64 (IntKind.i64.wrap ((IntKind.i64.wrap (a * c)) - (IntKind.i64.wrap (b * d)))), .int .i64 (IntKind.i64.wrap ((IntKind.i64.wrap ((IntKind.i64.wrap (a * d)) + (IntKind.i64.wrap (b * c)))) - (IntKind.i64.wrap (b * d))))]
def rprod_r0 (a b c d : Int) : Prop := True
theorem rprod_o0 (a b c d : Int) : obOf (rprod_e0 a b c d) = rprod_r0 a b c d := by kernel_rfl
theorem rprod_v0 (a b c d : Int) : resOf (rprod_e0 a b c d) = rprod_w0 a b c d := by kernel_rfl
theorem rprod_k0 (a b c d : Int) : cleanOf Tryz.prog.globals.size (rprod_e0 a b c d) = true := by kernel_rfl
theorem rprod_q0 (a b c d : Int) : rprod_e0 a b c d = evFS Tryz.prog x_rprod 1000 163 #[.agg #[.int .i64 a, .int .i64 b], .agg #[.int .i64 c, .int .i64 d]] (noTabs 9) ⟨[], True⟩ := by
  delta rprod_e0
  exact Eq.refl _
theorem rprod_p0 (a b c d : Int) (h : rprod_r0 a b c d) (w : World) : Calls Tryz.prog 163 #[.agg #[.int .i64 a, .int .i64 b], .agg #[.int .i64 c, .int .i64 d]] w fun en w' => en = .returned (rprod_w0 a b c d) ∧ Below w.heap.size w w' := by
  have hv := rprod_v0 a b c d
  have hc := rprod_k0 a b c d
  have he := rprod_q0 a b c d
  have ho := rprod_o0 a b c d
  generalize rprod_e0 a b c d = r at *
  exact calls_way he gfol rprod_X hv rfl (rprod_args a b c d) hc ho h (bl w)
theorem rprod_any (a b c d : Int) (hpre : Bg 268435456 a b ∧ Bg 268435456 c d) (w : World) : Calls Tryz.prog 163 #[.agg #[.int .i64 a, .int .i64 b], .agg #[.int .i64 c, .int .i64 d]] w fun en w' => en = .returned (rprod_val a b c d) ∧ Below w.heap.size w w' := by
  obtain ⟨⟨p1, p2, p3, p4⟩, q1, q2, q3, q4⟩ := hpre
  have b1 := bd 268435456 268435456 a c (by omega) (by omega) ⟨p1, p2⟩ ⟨q1, q2⟩
  have b2 := bd 268435456 268435456 b d (by omega) (by omega) ⟨p3, p4⟩ ⟨q3, q4⟩
  have b3 := bd 268435456 268435456 a d (by omega) (by omega) ⟨p1, p2⟩ ⟨q3, q4⟩
  have b4 := bd 268435456 268435456 b c (by omega) (by omega) ⟨p3, p4⟩ ⟨q1, q2⟩
  have hp := rprod_p0 a b c d trivial w
  have hv : rprod_w0 a b c d = (rprod_val a b c d) := by
    clear hp
    unfold rprod_w0 rprod_val
    (try simp (disch := omega) only [wi]); rfl
  exact hv ▸ hp
theorem k_rprod : ConOk Tryz.prog c_rprod := fun ns hl => by
  have hl0 : ns.length = 4 := hl
  clear hl
  obtain ⟨a, ns0, rfl, hl1⟩ := len_cons hl0
  obtain ⟨b, ns1, rfl, hl2⟩ := len_cons hl1
  obtain ⟨c, ns2, rfl, hl3⟩ := len_cons hl2
  obtain ⟨d, ns3, rfl, hl4⟩ := len_cons hl3
  obtain rfl := len_nil hl4
  exact ⟨rfl, fun h w => rprod_any a b c d h w⟩
end Go.Proofs.YtffllmdjpeigbaaGreatDoor
end
section
set_option linter.all false
set_option maxRecDepth 1000000
set_option maxHeartbeats 2000000
open Go.RowKit
namespace Go.Proofs.YtffllmdjpeigbaaGreatDoor
open Mini

def rturn_val (a b n : Int) : Value := .agg #[.int .i64 (Pl.turn (a, b) n).1, .int .i64 (Pl.turn (a, b) n).2]
theorem rturn_X : FOkS Tryz.prog x_rturn := kAll_ok _ ⟨k_rprod, trivial⟩
theorem rturn_args (a b n : Int) : (#[.agg #[.int .i64 a, .int .i64 b], .int .i64 n] : Array Value).toList.all (ground 8) = true := by kernel_rfl
theorem rturn_g0 : (false = false) := by first | rfl | trivial | decide | omega
def rturn_c0 (a b n : Int) : Bool := (decide ((Int.tmod n (6 : Int)) < (0 : Int)))
def rturn_c1 (a b n : Int) : Bool := (decide ((0 : Int) < (Int.tmod n (6 : Int))))
def rturn_c2 (a b n : Int) : Bool := (decide ((0 : Int) < (IntKind.i64.wrap ((Int.tmod n (6 : Int)) + (6 : Int)))))
def rturn_b5 (a b n : Int) : Prop := ((Bg (268435456 : Int) a b) ∧ (Bg (268435456 : Int) (1 : Int) (1 : Int)))
def rturn_c3 (a b n : Int) : Bool := (decide ((1 : Int) < (IntKind.i64.wrap ((Int.tmod n (6 : Int)) + (6 : Int)))))
def rturn_b8 (a b n : Int) : Prop := ((Bg (268435456 : Int) (Pl.mul (a , b) ((1 : Int) , (1 : Int))).1 (Pl.mul (a , b) ((1 : Int) , (1 : Int))).2) ∧ (Bg (268435456 : Int) (1 : Int) (1 : Int)))
def rturn_c4 (a b n : Int) : Bool := (decide ((2 : Int) < (IntKind.i64.wrap ((Int.tmod n (6 : Int)) + (6 : Int)))))
def rturn_b11 (a b n : Int) : Prop := ((Bg (268435456 : Int) (Pl.mul ((Pl.mul (a , b) ((1 : Int) , (1 : Int))).1 , (Pl.mul (a , b) ((1 : Int) , (1 : Int))).2) ((1 : Int) , (1 : Int))).1 (Pl.mul ((Pl.mul (a , b) ((1 : Int) , (1 : Int))).1 , (Pl.mul (a , b) ((1 : Int) , (1 : Int))).2) ((1 : Int) , (1 : Int))).2) ∧ (Bg (268435456 : Int) (1 : Int) (1 : Int)))
def rturn_c5 (a b n : Int) : Bool := (decide ((3 : Int) < (IntKind.i64.wrap ((Int.tmod n (6 : Int)) + (6 : Int)))))
def rturn_b14 (a b n : Int) : Prop := ((Bg (268435456 : Int) (Pl.mul ((Pl.mul ((Pl.mul (a , b) ((1 : Int) , (1 : Int))).1 , (Pl.mul (a , b) ((1 : Int) , (1 : Int))).2) ((1 : Int) , (1 : Int))).1 , (Pl.mul ((Pl.mul (a , b) ((1 : Int) , (1 : Int))).1 , (Pl.mul (a , b) ((1 : Int) , (1 : Int))).2) ((1 : Int) , (1 : Int))).2) ((1 : Int) , (1 : Int))).1 (Pl.mul ((Pl.mul ((Pl.mul (a , b) ((1 : Int) , (1 : Int))).1 , (Pl.mul (a , b) ((1 : Int) , (1 : Int))).2) ((1 : Int) , (1 : Int))).1 , (Pl.mul ((Pl.mul (a , b) ((1 : Int) , (1 : Int))).1 , (Pl.mul (a , b) ((1 : Int) , (1 : Int))).2) ((1 : Int) , (1 : Int))).2) ((1 : Int) , (1 : Int))).2) ∧ (Bg (268435456 : Int) (1 : Int) (1 : Int)))
def rturn_c6 (a b n : Int) : Bool := (decide ((4 : Int) < (IntKind.i64.wrap ((Int.tmod n (6 : Int)) + (6 : Int)))))
def rturn_b17 (a b n : Int) : Prop := ((Bg (268435456 : Int) (Pl.mul ((Pl.mul ((Pl.mul ((Pl.mul (a , b) ((1 : Int) , (1 : Int))).1 , (Pl.mul (a , b) ((1 : Int) , (1 : Int))).2) ((1 : Int) , (1 : Int))).1 , (Pl.mul ((Pl.mul (a , b) ((1 : Int) , (1 : Int))).1 , (Pl.mul (a , b) ((1 : Int) , (1 : Int))).2) ((1 : Int) , (1 : Int))).2) ((1 : Int) , (1 : Int))).1 , (Pl.mul ((Pl.mul ((Pl.mul (a , b) ((1 : Int) , (1 : Int))).1 , (Pl.mul (a , b) ((1 : Int) , (1 : Int))).2) ((1 : Int) , (1 : Int))).1 , (Pl.mul ((Pl.mul (a , b) ((1 : Int) , (1 : Int))).1 , (Pl.mul (a , b) ((1 : Int) , (1 : Int))).2) ((1 : Int) , (1 : Int))).2) ((1 : Int) , (1 : Int))).2) ((1 : Int) , (1 : Int))).1 (Pl.mul ((Pl.mul ((Pl.mul ((Pl.mul (a , b) ((1 : Int) , (1 : Int))).1 , (Pl.mul (a , b) ((1 : Int) , (1 : Int))).2) ((1 : Int) , (1 : Int))).1 , (Pl.mul ((Pl.mul (a , b) ((1 : Int) , (1 : Int))).1 , (Pl.mul (a , b) ((1 : Int) , (1 : Int))).2) ((1 : Int) , (1 : Int))).2) ((1 : Int) , (1 : Int))).1 , (Pl.mul ((Pl.mul ((Pl.mul (a , b) ((1 : Int) , (1 : Int))).1 , (Pl.mul (a , b) ((1 : Int) , (1 : Int))).2) ((1 : Int) , (1 : Int))).1 , (Pl.mul ((Pl.mul (a , b) ((1 : Int) , (1 : Int))).1 , (Pl.mul (a , b) ((1 : Int) , (1 : Int))).2) ((1 : Int) , (1 : Int))).2) ((1 : Int) , (1 : Int))).2) ((1 : Int) , (1 : Int))).2) ∧ (Bg (268435456 : Int) (1 : Int) (1 : Int)))
def rturn_c7 (a b n : Int) : Bool := (decide ((5 : Int) < (IntKind.i64.wrap ((Int.tmod n (6 : Int)) + (6 : Int)))))
def rturn_c8 (a b n : Int) : Bool := (decide ((1 : Int) < (Int.tmod n (6 : Int))))
def rturn_c9 (a b n : Int) : Bool := (decide ((2 : Int) < (Int.tmod n (6 : Int))))
def rturn_c10 (a b n : Int) : Bool := (decide ((3 : Int) < (Int.tmod n (6 : Int))))
def rturn_c11 (a b n : Int) : Bool := (decide ((4 : Int) < (Int.tmod n (6 : Int))))
def rturn_c12 (a b n : Int) : Bool := (decide ((5 : Int) < (Int.tmod n (6 : Int))))
def rturn_w0 (a b n : Int) : Value := .agg #[.int .i64 a, .int .i64 b]
def rturn_r0 (a b n : Int) : Prop := (((True ∧ ((false = false))) ∧ (rturn_c0 a b n = false)) ∧ (rturn_c1 a b n = false))
theorem rturn_o0 (a b n : Int) : obOf (rturn_e0 a b n) = rturn_r0 a b n := by kernel_rfl
theorem rturn_v0 (a b n : Int) : resOf (rturn_e0 a b n) = rturn_w0 a b n := by kernel_rfl
theorem rturn_k0 (a b n : Int) : cleanOf Tryz.prog.globals.size (rturn_e0 a b n) = true := by kernel_rfl
theorem rturn_q0 (a b n : Int) : rturn_e0 a b n = evFS Tryz.prog x_rturn 1000 74 #[.agg #[.int .i64 a, .int .i64 b], .int .i64 n] (noTabs 9) ⟨[0, 0], True⟩ := by
  delta rturn_e0
  exact Eq.refl _
theorem rturn_p0 (a b n : Int) (h : rturn_r0 a b n) (w : World) : Calls Tryz.prog 74 #[.agg #[.int .i64 a, .int .i64 b], .int .i64 n] w fun en w' => en = .returned (rturn_w0 a b n) ∧ Below w.heap.size w w' := by
  have hv := rturn_v0 a b n
  have hc := rturn_k0 a b n
  have he := rturn_q0 a b n
  have ho := rturn_o0 a b n
  generalize rturn_e0 a b n = r at *
  exact calls_way he gfol rturn_X hv rfl (rturn_args a b n) hc ho h (bl w)
def rturn_w1 (a b n : Int) : Value := .agg #[.int .i64 (Pl.mul (a , b) ((1 : Int) , (1 : Int))).1, .int .i64 (Pl.mul (a , b) ((1 : Int) , (1 : Int))).2]
def rturn_r1 (a b n : Int) : Prop := (((((True ∧ ((false = false))) ∧ (rturn_c0 a b n = true)) ∧ (rturn_c2 a b n = true)) ∧ (rturn_b5 a b n)) ∧ (rturn_c3 a b n = false))
theorem rturn_o1 (a b n : Int) : obOf (rturn_e1 a b n) = rturn_r1 a b n := by kernel_rfl
theorem rturn_v1 (a b n : Int) : resOf (rturn_e1 a b n) = rturn_w1 a b n := by kernel_rfl
theorem rturn_k1 (a b n : Int) : cleanOf Tryz.prog.globals.size (rturn_e1 a b n) = true := by kernel_rfl
theorem rturn_q1 (a b n : Int) : rturn_e1 a b n = evFS Tryz.prog x_rturn 1000 74 #[.agg #[.int .i64 a, .int .i64 b], .int .i64 n] (noTabs 9) ⟨[1, 1, 0], True⟩ := by
  delta rturn_e1
  exact Eq.refl _
theorem rturn_p1 (a b n : Int) (h : rturn_r1 a b n) (w : World) : Calls Tryz.prog 74 #[.agg #[.int .i64 a, .int .i64 b], .int .i64 n] w fun en w' => en = .returned (rturn_w1 a b n) ∧ Below w.heap.size w w' := by
  have hv := rturn_v1 a b n
  have hc := rturn_k1 a b n
  have he := rturn_q1 a b n
  have ho := rturn_o1 a b n
  generalize rturn_e1 a b n = r at *
  exact calls_way he gfol rturn_X hv rfl (rturn_args a b n) hc ho h (bl w)
def rturn_w2 (a b n : Int) : Value := .agg #[.int .i64 (Pl.mul ((Pl.mul (a , b) ((1 : Int) , (1 : Int))).1 , (Pl.mul (a , b) ((1 : Int) , (1 : Int))).2) ((1 : Int) , (1 : Int))).1, .int .i64 (Pl.mul ((Pl.mul (a , b) ((1 : Int) , (1 : Int))).1 , (Pl.mul (a , b) ((1 : Int) , (1 : Int))).2) ((1 : Int) , (1 : Int))).2]
def rturn_r2 (a b n : Int) : Prop := (((((((True ∧ ((false = false))) ∧ (rturn_c0 a b n = true)) ∧ (rturn_c2 a b n = true)) ∧ (rturn_b5 a b n)) ∧ (rturn_c3 a b n = true)) ∧ (rturn_b8 a b n)) ∧ (rturn_c4 a b n = false))
theorem rturn_o2 (a b n : Int) : obOf (rturn_e2 a b n) = rturn_r2 a b n := by kernel_rfl
theorem rturn_v2 (a b n : Int) : resOf (rturn_e2 a b n) = rturn_w2 a b n := by kernel_rfl
theorem rturn_k2 (a b n : Int) : cleanOf Tryz.prog.globals.size (rturn_e2 a b n) = true := by kernel_rfl
theorem rturn_q2 (a b n : Int) : rturn_e2 a b n = evFS Tryz.prog x_rturn 1000 74 #[.agg #[.int .i64 a, .int .i64 b], .int .i64 n] (noTabs 9) ⟨[1, 1, 1, 0], True⟩ := by
  delta rturn_e2
  exact Eq.refl _
theorem rturn_p2 (a b n : Int) (h : rturn_r2 a b n) (w : World) : Calls Tryz.prog 74 #[.agg #[.int .i64 a, .int .i64 b], .int .i64 n] w fun en w' => en = .returned (rturn_w2 a b n) ∧ Below w.heap.size w w' := by
  have hv := rturn_v2 a b n
  have hc := rturn_k2 a b n
  have he := rturn_q2 a b n
  have ho := rturn_o2 a b n
  generalize rturn_e2 a b n = r at *
  exact calls_way he gfol rturn_X hv rfl (rturn_args a b n) hc ho h (bl w)
def rturn_w3 (a b n : Int) : Value := .agg #[.int .i64 (Pl.mul ((Pl.mul ((Pl.mul (a , b) ((1 : Int) , (1 : Int))).1 , (Pl.mul (a , b) ((1 : Int) , (1 : Int))).2) ((1 : Int) , (1 : Int))).1 , (Pl.mul ((Pl.mul (a , b) ((1 : Int) , (1 : Int))).1 , (Pl.mul (a , b) ((1 : Int) , (1 : Int))).2) ((1 : Int) , (1 : Int))).2) ((1 : Int) , (1 : Int))).1, .int .i64 (Pl.mul ((Pl.mul ((Pl.mul (a , b) ((1 : Int) , (1 : Int))).1 , (Pl.mul (a , b) ((1 : Int) , (1 : Int))).2) ((1 : Int) , (1 : Int))).1 , (Pl.mul ((Pl.mul (a , b) ((1 : Int) , (1 : Int))).1 , (Pl.mul (a , b) ((1 : Int) , (1 : Int))).2) ((1 : Int) , (1 : Int))).2) ((1 : Int) , (1 : Int))).2]
def rturn_r3 (a b n : Int) : Prop := (((((((((True ∧ ((false = false))) ∧ (rturn_c0 a b n = true)) ∧ (rturn_c2 a b n = true)) ∧ (rturn_b5 a b n)) ∧ (rturn_c3 a b n = true)) ∧ (rturn_b8 a b n)) ∧ (rturn_c4 a b n = true)) ∧ (rturn_b11 a b n)) ∧ (rturn_c5 a b n = false))
theorem rturn_o3 (a b n : Int) : obOf (rturn_e3 a b n) = rturn_r3 a b n := by kernel_rfl
theorem rturn_v3 (a b n : Int) : resOf (rturn_e3 a b n) = rturn_w3 a b n := by kernel_rfl
theorem rturn_k3 (a b n : Int) : cleanOf Tryz.prog.globals.size (rturn_e3 a b n) = true := by kernel_rfl
theorem rturn_q3 (a b n : Int) : rturn_e3 a b n = evFS Tryz.prog x_rturn 1000 74 #[.agg #[.int .i64 a, .int .i64 b], .int .i64 n] (noTabs 9) ⟨[1, 1, 1, 1, 0], True⟩ := by
  delta rturn_e3
  exact Eq.refl _
theorem rturn_p3 (a b n : Int) (h : rturn_r3 a b n) (w : World) : Calls Tryz.prog 74 #[.agg #[.int .i64 a, .int .i64 b], .int .i64 n] w fun en w' => en = .returned (rturn_w3 a b n) ∧ Below w.heap.size w w' := by
  have hv := rturn_v3 a b n
  have hc := rturn_k3 a b n
  have he := rturn_q3 a b n
  have ho := rturn_o3 a b n
  generalize rturn_e3 a b n = r at *
  exact calls_way he gfol rturn_X hv rfl (rturn_args a b n) hc ho h (bl w)
def rturn_w4 (a b n : Int) : Value := .agg #[.int .i64 (Pl.mul ((Pl.mul ((Pl.mul ((Pl.mul (a , b) ((1 : Int) , (1 : Int))).1 , (Pl.mul (a , b) ((1 : Int) , (1 : Int))).2) ((1 : Int) , (1 : Int))).1 , (Pl.mul ((Pl.mul (a , b) ((1 : Int) , (1 : Int))).1 , (Pl.mul (a , b) ((1 : Int) , (1 : Int))).2) ((1 : Int) , (1 : Int))).2) ((1 : Int) , (1 : Int))).1 , (Pl.mul ((Pl.mul ((Pl.mul (a , b) ((1 : Int) , (1 : Int))).1 , (Pl.mul (a , b) ((1 : Int) , (1 : Int))).2) ((1 : Int) , (1 : Int))).1 , (Pl.mul ((Pl.mul (a , b) ((1 : Int) , (1 : Int))).1 , (Pl.mul (a , b) ((1 : Int) , (1 : Int))).2) ((1 : Int) , (1 : Int))).2) ((1 : Int) , (1 : Int))).2) ((1 : Int) , (1 : Int))).1, .int .i64 (Pl.mul ((Pl.mul ((Pl.mul ((Pl.mul (a , b) ((1 : Int) , (1 : Int))).1 , (Pl.mul (a , b) ((1 : Int) , (1 : Int))).2) ((1 : Int) , (1 : Int))).1 , (Pl.mul ((Pl.mul (a , b) ((1 : Int) , (1 : Int))).1 , (Pl.mul (a , b) ((1 : Int) , (1 : Int))).2) ((1 : Int) , (1 : Int))).2) ((1 : Int) , (1 : Int))).1 , (Pl.mul ((Pl.mul ((Pl.mul (a , b) ((1 : Int) , (1 : Int))).1 , (Pl.mul (a , b) ((1 : Int) , (1 : Int))).2) ((1 : Int) , (1 : Int))).1 , (Pl.mul ((Pl.mul (a , b) ((1 : Int) , (1 : Int))).1 , (Pl.mul (a , b) ((1 : Int) , (1 : Int))).2) ((1 : Int) , (1 : Int))).2) ((1 : Int) , (1 : Int))).2) ((1 : Int) , (1 : Int))).2]
def rturn_r4 (a b n : Int) : Prop := (((((((((((True ∧ ((false = false))) ∧ (rturn_c0 a b n = true)) ∧ (rturn_c2 a b n = true)) ∧ (rturn_b5 a b n)) ∧ (rturn_c3 a b n = true)) ∧ (rturn_b8 a b n)) ∧ (rturn_c4 a b n = true)) ∧ (rturn_b11 a b n)) ∧ (rturn_c5 a b n = true)) ∧ (rturn_b14 a b n)) ∧ (rturn_c6 a b n = false))
theorem rturn_o4 (a b n : Int) : obOf (rturn_e4 a b n) = rturn_r4 a b n := by kernel_rfl
theorem rturn_v4 (a b n : Int) : resOf (rturn_e4 a b n) = rturn_w4 a b n := by kernel_rfl
theorem rturn_k4 (a b n : Int) : cleanOf Tryz.prog.globals.size (rturn_e4 a b n) = true := by kernel_rfl
theorem rturn_q4 (a b n : Int) : rturn_e4 a b n = evFS Tryz.prog x_rturn 1000 74 #[.agg #[.int .i64 a, .int .i64 b], .int .i64 n] (noTabs 9) ⟨[1, 1, 1, 1, 1, 0], True⟩ := by
  delta rturn_e4
  exact Eq.refl _
theorem rturn_p4 (a b n : Int) (h : rturn_r4 a b n) (w : World) : Calls Tryz.prog 74 #[.agg #[.int .i64 a, .int .i64 b], .int .i64 n] w fun en w' => en = .returned (rturn_w4 a b n) ∧ Below w.heap.size w w' := by
  have hv := rturn_v4 a b n
  have hc := rturn_k4 a b n
  have he := rturn_q4 a b n
  have ho := rturn_o4 a b n
  generalize rturn_e4 a b n = r at *
  exact calls_way he gfol rturn_X hv rfl (rturn_args a b n) hc ho h (bl w)
def rturn_w5 (a b n : Int) : Value := .agg #[.int .i64 (Pl.mul ((Pl.mul ((Pl.mul ((Pl.mul ((Pl.mul (a , b) ((1 : Int) , (1 : Int))).1 , (Pl.mul (a , b) ((1 : Int) , (1 : Int))).2) ((1 : Int) , (1 : Int))).1 , (Pl.mul ((Pl.mul (a , b) ((1 : Int) , (1 : Int))).1 , (Pl.mul (a , b) ((1 : Int) , (1 : Int))).2) ((1 : Int) , (1 : Int))).2) ((1 : Int) , (1 : Int))).1 , (Pl.mul ((Pl.mul ((Pl.mul (a , b) ((1 : Int) , (1 : Int))).1 , (Pl.mul (a , b) ((1 : Int) , (1 : Int))).2) ((1 : Int) , (1 : Int))).1 , (Pl.mul ((Pl.mul (a , b) ((1 : Int) , (1 : Int))).1 , (Pl.mul (a , b) ((1 : Int) , (1 : Int))).2) ((1 : Int) , (1 : Int))).2) ((1 : Int) , (1 : Int))).2) ((1 : Int) , (1 : Int))).1 , (Pl.mul ((Pl.mul ((Pl.mul ((Pl.mul (a , b) ((1 : Int) , (1 : Int))).1 , (Pl.mul (a , b) ((1 : Int) , (1 : Int))).2) ((1 : Int) , (1 : Int))).1 , (Pl.mul ((Pl.mul (a , b) ((1 : Int) , (1 : Int))).1 , (Pl.mul (a , b) ((1 : Int) , (1 : Int))).2) ((1 : Int) , (1 : Int))).2) ((1 : Int) , (1 : Int))).1 , (Pl.mul ((Pl.mul ((Pl.mul (a , b) ((1 : Int) , (1 : Int))).1 , (Pl.mul (a , b) ((1 : Int) , (1 : Int))).2) ((1 : Int) , (1 : Int))).1 , (Pl.mul ((Pl.mul (a , b) ((1 : Int) , (1 : Int))).1 , (Pl.mul (a , b) ((1 : Int) , (1 : Int))).2) ((1 : Int) , (1 : Int))).2) ((1 : Int) , (1 : Int))).2) ((1 : Int) , (1 : Int))).2) ((1 : Int) , (1 : Int))).1, .int .i64 (Pl.mul ((Pl.mul ((Pl.mul ((Pl.mul ((Pl.mul (a , b) ((1 : Int) , (1 : Int))).1 , (Pl.mul (a , b) ((1 : Int) , (1 : Int))).2) ((1 : Int) , (1 : Int))).1 , (Pl.mul ((Pl.mul (a , b) ((1 : Int) , (1 : Int))).1 , (Pl.mul (a , b) ((1 : Int) , (1 : Int))).2) ((1 : Int) , (1 : Int))).2) ((1 : Int) , (1 : Int))).1 , (Pl.mul ((Pl.mul ((Pl.mul (a , b) ((1 : Int) , (1 : Int))).1 , (Pl.mul (a , b) ((1 : Int) , (1 : Int))).2) ((1 : Int) , (1 : Int))).1 , (Pl.mul ((Pl.mul (a , b) ((1 : Int) , (1 : Int))).1 , (Pl.mul (a , b) ((1 : Int) , (1 : Int))).2) ((1 : Int) , (1 : Int))).2) ((1 : Int) , (1 : Int))).2) ((1 : Int) , (1 : Int))).1 , (Pl.mul ((Pl.mul ((Pl.mul ((Pl.mul (a , b) ((1 : Int) , (1 : Int))).1 , (Pl.mul (a , b) ((1 : Int) , (1 : Int))).2) ((1 : Int) , (1 : Int))).1 , (Pl.mul ((Pl.mul (a , b) ((1 : Int) , (1 : Int))).1 , (Pl.mul (a , b) ((1 : Int) , (1 : Int))).2) ((1 : Int) , (1 : Int))).2) ((1 : Int) , (1 : Int))).1 , (Pl.mul ((Pl.mul ((Pl.mul (a , b) ((1 : Int) , (1 : Int))).1 , (Pl.mul (a , b) ((1 : Int) , (1 : Int))).2) ((1 : Int) , (1 : Int))).1 , (Pl.mul ((Pl.mul (a , b) ((1 : Int) , (1 : Int))).1 , (Pl.mul (a , b) ((1 : Int) , (1 : Int))).2) ((1 : Int) , (1 : Int))).2) ((1 : Int) , (1 : Int))).2) ((1 : Int) , (1 : Int))).2) ((1 : Int) , (1 : Int))).2]
def rturn_r5 (a b n : Int) : Prop := (((((((((((((True ∧ ((false = false))) ∧ (rturn_c0 a b n = true)) ∧ (rturn_c2 a b n = true)) ∧ (rturn_b5 a b n)) ∧ (rturn_c3 a b n = true)) ∧ (rturn_b8 a b n)) ∧ (rturn_c4 a b n = true)) ∧ (rturn_b11 a b n)) ∧ (rturn_c5 a b n = true)) ∧ (rturn_b14 a b n)) ∧ (rturn_c6 a b n = true)) ∧ (rturn_b17 a b n)) ∧ (rturn_c7 a b n = false))
theorem rturn_o5 (a b n : Int) : obOf (rturn_e5 a b n) = rturn_r5 a b n := by kernel_rfl
theorem rturn_v5 (a b n : Int) : resOf (rturn_e5 a b n) = rturn_w5 a b n := by kernel_rfl
theorem rturn_k5 (a b n : Int) : cleanOf Tryz.prog.globals.size (rturn_e5 a b n) = true := by kernel_rfl
theorem rturn_q5 (a b n : Int) : rturn_e5 a b n = evFS Tryz.prog x_rturn 1000 74 #[.agg #[.int .i64 a, .int .i64 b], .int .i64 n] (noTabs 9) ⟨[1, 1, 1, 1, 1, 1, 0], True⟩ := by
  delta rturn_e5
  exact Eq.refl _
theorem rturn_p5 (a b n : Int) (h : rturn_r5 a b n) (w : World) : Calls Tryz.prog 74 #[.agg #[.int .i64 a, .int .i64 b], .int .i64 n] w fun en w' => en = .returned (rturn_w5 a b n) ∧ Below w.heap.size w w' := by
  have hv := rturn_v5 a b n
  have hc := rturn_k5 a b n
  have he := rturn_q5 a b n
  have ho := rturn_o5 a b n
  generalize rturn_e5 a b n = r at *
  exact calls_way he gfol rturn_X hv rfl (rturn_args a b n) hc ho h (bl w)
def rturn_w6 (a b n : Int) : Value := .agg #[.int .i64 (Pl.mul (a , b) ((1 : Int) , (1 : Int))).1, .int .i64 (Pl.mul (a , b) ((1 : Int) , (1 : Int))).2]
def rturn_r6 (a b n : Int) : Prop := (((((True ∧ ((false = false))) ∧ (rturn_c0 a b n = false)) ∧ (rturn_c1 a b n = true)) ∧ (rturn_b5 a b n)) ∧ (rturn_c8 a b n = false))
theorem rturn_o6 (a b n : Int) : obOf (rturn_e6 a b n) = rturn_r6 a b n := by kernel_rfl
theorem rturn_v6 (a b n : Int) : resOf (rturn_e6 a b n) = rturn_w6 a b n := by kernel_rfl
theorem rturn_k6 (a b n : Int) : cleanOf Tryz.prog.globals.size (rturn_e6 a b n) = true := by kernel_rfl
theorem rturn_q6 (a b n : Int) : rturn_e6 a b n = evFS Tryz.prog x_rturn 1000 74 #[.agg #[.int .i64 a, .int .i64 b], .int .i64 n] (noTabs 9) ⟨[0, 1, 0], True⟩ := by
  delta rturn_e6
  exact Eq.refl _
theorem rturn_p6 (a b n : Int) (h : rturn_r6 a b n) (w : World) : Calls Tryz.prog 74 #[.agg #[.int .i64 a, .int .i64 b], .int .i64 n] w fun en w' => en = .returned (rturn_w6 a b n) ∧ Below w.heap.size w w' := by
  have hv := rturn_v6 a b n
  have hc := rturn_k6 a b n
  have he := rturn_q6 a b n
  have ho := rturn_o6 a b n
  generalize rturn_e6 a b n = r at *
  exact calls_way he gfol rturn_X hv rfl (rturn_args a b n) hc ho h (bl w)
def rturn_w7 (a b n : Int) : Value := .agg #[.int .i64 (Pl.mul ((Pl.mul (a , b) ((1 : Int) , (1 : Int))).1 , (Pl.mul (a , b) ((1 : Int) , (1 : Int))).2) ((1 : Int) , (1 : Int))).1, .int .i64 (Pl.mul ((Pl.mul (a , b) ((1 : Int) , (1 : Int))).1 , (Pl.mul (a , b) ((1 : Int) , (1 : Int))).2) ((1 : Int) , (1 : Int))).2]
def rturn_r7 (a b n : Int) : Prop := (((((((True ∧ ((false = false))) ∧ (rturn_c0 a b n = false)) ∧ (rturn_c1 a b n = true)) ∧ (rturn_b5 a b n)) ∧ (rturn_c8 a b n = true)) ∧ (rturn_b8 a b n)) ∧ (rturn_c9 a b n = false))
theorem rturn_o7 (a b n : Int) : obOf (rturn_e7 a b n) = rturn_r7 a b n := by kernel_rfl
theorem rturn_v7 (a b n : Int) : resOf (rturn_e7 a b n) = rturn_w7 a b n := by kernel_rfl
theorem rturn_k7 (a b n : Int) : cleanOf Tryz.prog.globals.size (rturn_e7 a b n) = true := by kernel_rfl
theorem rturn_q7 (a b n : Int) : rturn_e7 a b n = evFS Tryz.prog x_rturn 1000 74 #[.agg #[.int .i64 a, .int .i64 b], .int .i64 n] (noTabs 9) ⟨[0, 1, 1, 0], True⟩ := by
  delta rturn_e7
  exact Eq.refl _
theorem rturn_p7 (a b n : Int) (h : rturn_r7 a b n) (w : World) : Calls Tryz.prog 74 #[.agg #[.int .i64 a, .int .i64 b], .int .i64 n] w fun en w' => en = .returned (rturn_w7 a b n) ∧ Below w.heap.size w w' := by
  have hv := rturn_v7 a b n
  have hc := rturn_k7 a b n
  have he := rturn_q7 a b n
  have ho := rturn_o7 a b n
  generalize rturn_e7 a b n = r at *
  exact calls_way he gfol rturn_X hv rfl (rturn_args a b n) hc ho h (bl w)
def rturn_w8 (a b n : Int) : Value := .agg #[.int .i64 (Pl.mul ((Pl.mul ((Pl.mul (a , b) ((1 : Int) , (1 : Int))).1 , (Pl.mul (a , b) ((1 : Int) , (1 : Int))).2) ((1 : Int) , (1 : Int))).1 , (Pl.mul ((Pl.mul (a , b) ((1 : Int) , (1 : Int))).1 , (Pl.mul (a , b) ((1 : Int) , (1 : Int))).2) ((1 : Int) , (1 : Int))).2) ((1 : Int) , (1 : Int))).1, .int .i64 (Pl.mul ((Pl.mul ((Pl.mul (a , b) ((1 : Int) , (1 : Int))).1 , (Pl.mul (a , b) ((1 : Int) , (1 : Int))).2) ((1 : Int) , (1 : Int))).1 , (Pl.mul ((Pl.mul (a , b) ((1 : Int) , (1 : Int))).1 , (Pl.mul (a , b) ((1 : Int) , (1 : Int))).2) ((1 : Int) , (1 : Int))).2) ((1 : Int) , (1 : Int))).2]
def rturn_r8 (a b n : Int) : Prop := (((((((((True ∧ ((false = false))) ∧ (rturn_c0 a b n = false)) ∧ (rturn_c1 a b n = true)) ∧ (rturn_b5 a b n)) ∧ (rturn_c8 a b n = true)) ∧ (rturn_b8 a b n)) ∧ (rturn_c9 a b n = true)) ∧ (rturn_b11 a b n)) ∧ (rturn_c10 a b n = false))
theorem rturn_o8 (a b n : Int) : obOf (rturn_e8 a b n) = rturn_r8 a b n := by kernel_rfl
theorem rturn_v8 (a b n : Int) : resOf (rturn_e8 a b n) = rturn_w8 a b n := by kernel_rfl
theorem rturn_k8 (a b n : Int) : cleanOf Tryz.prog.globals.size (rturn_e8 a b n) = true := by kernel_rfl
theorem rturn_q8 (a b n : Int) : rturn_e8 a b n = evFS Tryz.prog x_rturn 1000 74 #[.agg #[.int .i64 a, .int .i64 b], .int .i64 n] (noTabs 9) ⟨[0, 1, 1, 1, 0], True⟩ := by
  delta rturn_e8
  exact Eq.refl _
theorem rturn_p8 (a b n : Int) (h : rturn_r8 a b n) (w : World) : Calls Tryz.prog 74 #[.agg #[.int .i64 a, .int .i64 b], .int .i64 n] w fun en w' => en = .returned (rturn_w8 a b n) ∧ Below w.heap.size w w' := by
  have hv := rturn_v8 a b n
  have hc := rturn_k8 a b n
  have he := rturn_q8 a b n
  have ho := rturn_o8 a b n
  generalize rturn_e8 a b n = r at *
  exact calls_way he gfol rturn_X hv rfl (rturn_args a b n) hc ho h (bl w)
def rturn_w9 (a b n : Int) : Value := .agg #[.int .i64 (Pl.mul ((Pl.mul ((Pl.mul ((Pl.mul (a , b) ((1 : Int) , (1 : Int))).1 , (Pl.mul (a , b) ((1 : Int) , (1 : Int))).2) ((1 : Int) , (1 : Int))).1 , (Pl.mul ((Pl.mul (a , b) ((1 : Int) , (1 : Int))).1 , (Pl.mul (a , b) ((1 : Int) , (1 : Int))).2) ((1 : Int) , (1 : Int))).2) ((1 : Int) , (1 : Int))).1 , (Pl.mul ((Pl.mul ((Pl.mul (a , b) ((1 : Int) , (1 : Int))).1 , (Pl.mul (a , b) ((1 : Int) , (1 : Int))).2) ((1 : Int) , (1 : Int))).1 , (Pl.mul ((Pl.mul (a , b) ((1 : Int) , (1 : Int))).1 , (Pl.mul (a , b) ((1 : Int) , (1 : Int))).2) ((1 : Int) , (1 : Int))).2) ((1 : Int) , (1 : Int))).2) ((1 : Int) , (1 : Int))).1, .int .i64 (Pl.mul ((Pl.mul ((Pl.mul ((Pl.mul (a , b) ((1 : Int) , (1 : Int))).1 , (Pl.mul (a , b) ((1 : Int) , (1 : Int))).2) ((1 : Int) , (1 : Int))).1 , (Pl.mul ((Pl.mul (a , b) ((1 : Int) , (1 : Int))).1 , (Pl.mul (a , b) ((1 : Int) , (1 : Int))).2) ((1 : Int) , (1 : Int))).2) ((1 : Int) , (1 : Int))).1 , (Pl.mul ((Pl.mul ((Pl.mul (a , b) ((1 : Int) , (1 : Int))).1 , (Pl.mul (a , b) ((1 : Int) , (1 : Int))).2) ((1 : Int) , (1 : Int))).1 , (Pl.mul ((Pl.mul (a , b) ((1 : Int) , (1 : Int))).1 , (Pl.mul (a , b) ((1 : Int) , (1 : Int))).2) ((1 : Int) , (1 : Int))).2) ((1 : Int) , (1 : Int))).2) ((1 : Int) , (1 : Int))).2]
def rturn_r9 (a b n : Int) : Prop := (((((((((((True ∧ ((false = false))) ∧ (rturn_c0 a b n = false)) ∧ (rturn_c1 a b n = true)) ∧ (rturn_b5 a b n)) ∧ (rturn_c8 a b n = true)) ∧ (rturn_b8 a b n)) ∧ (rturn_c9 a b n = true)) ∧ (rturn_b11 a b n)) ∧ (rturn_c10 a b n = true)) ∧ (rturn_b14 a b n)) ∧ (rturn_c11 a b n = false))
theorem rturn_o9 (a b n : Int) : obOf (rturn_e9 a b n) = rturn_r9 a b n := by kernel_rfl
theorem rturn_v9 (a b n : Int) : resOf (rturn_e9 a b n) = rturn_w9 a b n := by kernel_rfl
theorem rturn_k9 (a b n : Int) : cleanOf Tryz.prog.globals.size (rturn_e9 a b n) = true := by kernel_rfl
theorem rturn_q9 (a b n : Int) : rturn_e9 a b n = evFS Tryz.prog x_rturn 1000 74 #[.agg #[.int .i64 a, .int .i64 b], .int .i64 n] (noTabs 9) ⟨[0, 1, 1, 1, 1, 0], True⟩ := by
  delta rturn_e9
  exact Eq.refl _
theorem rturn_p9 (a b n : Int) (h : rturn_r9 a b n) (w : World) : Calls Tryz.prog 74 #[.agg #[.int .i64 a, .int .i64 b], .int .i64 n] w fun en w' => en = .returned (rturn_w9 a b n) ∧ Below w.heap.size w w' := by
  have hv := rturn_v9 a b n
  have hc := rturn_k9 a b n
  have he := rturn_q9 a b n
  have ho := rturn_o9 a b n
  generalize rturn_e9 a b n = r at *
  exact calls_way he gfol rturn_X hv rfl (rturn_args a b n) hc ho h (bl w)
def rturn_w10 (a b n : Int) : Value := .agg #[.int .i64 (Pl.mul ((Pl.mul ((Pl.mul ((Pl.mul ((Pl.mul (a , b) ((1 : Int) , (1 : Int))).1 , (Pl.mul (a , b) ((1 : Int) , (1 : Int))).2) ((1 : Int) , (1 : Int))).1 , (Pl.mul ((Pl.mul (a , b) ((1 : Int) , (1 : Int))).1 , (Pl.mul (a , b) ((1 : Int) , (1 : Int))).2) ((1 : Int) , (1 : Int))).2) ((1 : Int) , (1 : Int))).1 , (Pl.mul ((Pl.mul ((Pl.mul (a , b) ((1 : Int) , (1 : Int))).1 , (Pl.mul (a , b) ((1 : Int) , (1 : Int))).2) ((1 : Int) , (1 : Int))).1 , (Pl.mul ((Pl.mul (a , b) ((1 : Int) , (1 : Int))).1 , (Pl.mul (a , b) ((1 : Int) , (1 : Int))).2) ((1 : Int) , (1 : Int))).2) ((1 : Int) , (1 : Int))).2) ((1 : Int) , (1 : Int))).1 , (Pl.mul ((Pl.mul ((Pl.mul ((Pl.mul (a , b) ((1 : Int) , (1 : Int))).1 , (Pl.mul (a , b) ((1 : Int) , (1 : Int))).2) ((1 : Int) , (1 : Int))).1 , (Pl.mul ((Pl.mul (a , b) ((1 : Int) , (1 : Int))).1 , (Pl.mul (a , b) ((1 : Int) , (1 : Int))).2) ((1 : Int) , (1 : Int))).2) ((1 : Int) , (1 : Int))).1 , (Pl.mul ((Pl.mul ((Pl.mul (a , b) ((1 : Int) , (1 : Int))).1 , (Pl.mul (a , b) ((1 : Int) , (1 : Int))).2) ((1 : Int) , (1 : Int))).1 , (Pl.mul ((Pl.mul (a , b) ((1 : Int) , (1 : Int))).1 , (Pl.mul (a , b) ((1 : Int) , (1 : Int))).2) ((1 : Int) , (1 : Int))).2) ((1 : Int) , (1 : Int))).2) ((1 : Int) , (1 : Int))).2) ((1 : Int) , (1 : Int))).1, .int .i64 (Pl.mul ((Pl.mul ((Pl.mul ((Pl.mul ((Pl.mul (a , b) ((1 : Int) , (1 : Int))).1 , (Pl.mul (a , b) ((1 : Int) , (1 : Int))).2) ((1 : Int) , (1 : Int))).1 , (Pl.mul ((Pl.mul (a , b) ((1 : Int) , (1 : Int))).1 , (Pl.mul (a , b) ((1 : Int) , (1 : Int))).2) ((1 : Int) , (1 : Int))).2) ((1 : Int) , (1 : Int))).1 , (Pl.mul ((Pl.mul ((Pl.mul (a , b) ((1 : Int) , (1 : Int))).1 , (Pl.mul (a , b) ((1 : Int) , (1 : Int))).2) ((1 : Int) , (1 : Int))).1 , (Pl.mul ((Pl.mul (a , b) ((1 : Int) , (1 : Int))).1 , (Pl.mul (a , b) ((1 : Int) , (1 : Int))).2) ((1 : Int) , (1 : Int))).2) ((1 : Int) , (1 : Int))).2) ((1 : Int) , (1 : Int))).1 , (Pl.mul ((Pl.mul ((Pl.mul ((Pl.mul (a , b) ((1 : Int) , (1 : Int))).1 , (Pl.mul (a , b) ((1 : Int) , (1 : Int))).2) ((1 : Int) , (1 : Int))).1 , (Pl.mul ((Pl.mul (a , b) ((1 : Int) , (1 : Int))).1 , (Pl.mul (a , b) ((1 : Int) , (1 : Int))).2) ((1 : Int) , (1 : Int))).2) ((1 : Int) , (1 : Int))).1 , (Pl.mul ((Pl.mul ((Pl.mul (a , b) ((1 : Int) , (1 : Int))).1 , (Pl.mul (a , b) ((1 : Int) , (1 : Int))).2) ((1 : Int) , (1 : Int))).1 , (Pl.mul ((Pl.mul (a , b) ((1 : Int) , (1 : Int))).1 , (Pl.mul (a , b) ((1 : Int) , (1 : Int))).2) ((1 : Int) , (1 : Int))).2) ((1 : Int) , (1 : Int))).2) ((1 : Int) , (1 : Int))).2) ((1 : Int) , (1 : Int))).2]
def rturn_r10 (a b n : Int) : Prop := (((((((((((((True ∧ ((false = false))) ∧ (rturn_c0 a b n = false)) ∧ (rturn_c1 a b n = true)) ∧ (rturn_b5 a b n)) ∧ (rturn_c8 a b n = true)) ∧ (rturn_b8 a b n)) ∧ (rturn_c9 a b n = true)) ∧ (rturn_b11 a b n)) ∧ (rturn_c10 a b n = true)) ∧ (rturn_b14 a b n)) ∧ (rturn_c11 a b n = true)) ∧ (rturn_b17 a b n)) ∧ (rturn_c12 a b n = false))
theorem rturn_o10 (a b n : Int) : obOf (rturn_e10 a b n) = rturn_r10 a b n := by kernel_rfl
theorem rturn_v10 (a b n : Int) : resOf (rturn_e10 a b n) = rturn_w10 a b n := by kernel_rfl
theorem rturn_k10 (a b n : Int) : cleanOf Tryz.prog.globals.size (rturn_e10 a b n) = true := by kernel_rfl
theorem rturn_q10 (a b n : Int) : rturn_e10 a b n = evFS Tryz.prog x_rturn 1000 74 #[.agg #[.int .i64 a, .int .i64 b], .int .i64 n] (noTabs 9) ⟨[0, 1, 1, 1, 1, 1, 0], True⟩ := by
  delta rturn_e10
  exact Eq.refl _
theorem rturn_p10 (a b n : Int) (h : rturn_r10 a b n) (w : World) : Calls Tryz.prog 74 #[.agg #[.int .i64 a, .int .i64 b], .int .i64 n] w fun en w' => en = .returned (rturn_w10 a b n) ∧ Below w.heap.size w w' := by
  have hv := rturn_v10 a b n
  have hc := rturn_k10 a b n
  have he := rturn_q10 a b n
  have ho := rturn_o10 a b n
  generalize rturn_e10 a b n = r at *
  exact calls_way he gfol rturn_X hv rfl (rturn_args a b n) hc ho h (bl w)
theorem rturn_any (a b n : Int) (hpre : Bg 1048576 a b ∧ (-9223372036854775808 ≤ n ∧ n ≤ 9223372036854775807)) (w : World) : Calls Tryz.prog 74 #[.agg #[.int .i64 a, .int .i64 b], .int .i64 n] w fun en w' => en = .returned (rturn_val a b n) ∧ Below w.heap.size w w' := by
  have t6 := tm6 n
  rcases Bool.eq_false_or_eq_true (rturn_c0 a b n) with h0 | h0
  ·
    unfold rturn_c0 at h0
    have h1 : (rturn_c2 a b n = true) := by
      unfold rturn_c2
      first | rfl | trivial | decide | (simp only [Bg] at hpre; (try simp only [Bg, Pl.mul, Int.mul_one, decide_eq_true_eq, decide_eq_false_iff_not] at *); (try simp (disch := omega) only [wi, rem6, decide_eq_true_eq, decide_eq_false_iff_not] at *) <;> omega)
    unfold rturn_c2 at h1
    have h2 : (rturn_b5 a b n) := by
      unfold rturn_b5
      first | rfl | trivial | decide | (simp only [Bg] at hpre; (try simp only [Bg, Pl.mul, Int.mul_one, decide_eq_true_eq, decide_eq_false_iff_not] at *); (try simp (disch := omega) only [wi, rem6, decide_eq_true_eq, decide_eq_false_iff_not] at *) <;> omega)
    unfold rturn_b5 at h2
    rcases Bool.eq_false_or_eq_true (rturn_c3 a b n) with h3 | h3
    ·
      unfold rturn_c3 at h3
      have h4 : (rturn_b8 a b n) := by
        unfold rturn_b8
        first | rfl | trivial | decide | (simp only [Bg] at hpre; (try simp only [Bg, Pl.mul, Int.mul_one, decide_eq_true_eq, decide_eq_false_iff_not] at *); (try simp (disch := omega) only [wi, rem6, decide_eq_true_eq, decide_eq_false_iff_not] at *) <;> omega)
      unfold rturn_b8 at h4
      rcases Bool.eq_false_or_eq_true (rturn_c4 a b n) with h5 | h5
      ·
        unfold rturn_c4 at h5
        have h6 : (rturn_b11 a b n) := by
          unfold rturn_b11
          first | rfl | trivial | decide | (simp only [Bg] at hpre; (try simp only [Bg, Pl.mul, Int.mul_one, decide_eq_true_eq, decide_eq_false_iff_not] at *); (try simp (disch := omega) only [wi, rem6, decide_eq_true_eq, decide_eq_false_iff_not] at *) <;> omega)
        unfold rturn_b11 at h6
        rcases Bool.eq_false_or_eq_true (rturn_c5 a b n) with h7 | h7
        ·
          unfold rturn_c5 at h7
          have h8 : (rturn_b14 a b n) := by
            unfold rturn_b14
            first | rfl | trivial | decide | (simp only [Bg] at hpre; (try simp only [Bg, Pl.mul, Int.mul_one, decide_eq_true_eq, decide_eq_false_iff_not] at *); (try simp (disch := omega) only [wi, rem6, decide_eq_true_eq, decide_eq_false_iff_not] at *) <;> omega)
          unfold rturn_b14 at h8
          rcases Bool.eq_false_or_eq_true (rturn_c6 a b n) with h9 | h9
          ·
            unfold rturn_c6 at h9
            have h10 : (rturn_b17 a b n) := by
              unfold rturn_b17
              first | rfl | trivial | decide | (simp only [Bg] at hpre; (try simp only [Bg, Pl.mul, Int.mul_one, decide_eq_true_eq, decide_eq_false_iff_not] at *); (try simp (disch := omega) only [wi, rem6, decide_eq_true_eq, decide_eq_false_iff_not] at *) <;> omega)
            unfold rturn_b17 at h10
            have h11 : (rturn_c7 a b n = false) := by
              unfold rturn_c7
              first | rfl | trivial | decide | (simp only [Bg] at hpre; (try simp only [Bg, Pl.mul, Int.mul_one, decide_eq_true_eq, decide_eq_false_iff_not] at *); (try simp (disch := omega) only [wi, rem6, decide_eq_true_eq, decide_eq_false_iff_not] at *) <;> omega)
            unfold rturn_c7 at h11
            have hp := rturn_p5 a b n ⟨⟨⟨⟨⟨⟨⟨⟨⟨⟨⟨⟨⟨trivial, rturn_g0⟩, h0⟩, h1⟩, h2⟩, h3⟩, h4⟩, h5⟩, h6⟩, h7⟩, h8⟩, h9⟩, h10⟩, h11⟩ w
            have hv : rturn_w5 a b n = (rturn_val a b n) := by
              clear hp
              unfold rturn_w5 rturn_val
              unfold Bg at hpre
              (try simp only [Pl.mul, Int.mul_one, decide_eq_true_eq, decide_eq_false_iff_not] at *)
              (try simp (disch := omega) only [wi] at *)
              rcases turn_cases (a, b) n with ⟨g, e⟩ | ⟨g, e⟩ | ⟨g, e⟩ | ⟨g, e⟩ | ⟨g, e⟩ | ⟨g, e⟩ <;> first | (exfalso; omega) | (rw [e]; done) | (rw [e]; first | rfl | (simp only; congr 2; simp only [Value.int.injEq, true_and, List.cons.injEq, and_true] <;> omega))
            exact hv ▸ hp
          ·
            unfold rturn_c6 at h9
            have hp := rturn_p4 a b n ⟨⟨⟨⟨⟨⟨⟨⟨⟨⟨⟨trivial, rturn_g0⟩, h0⟩, h1⟩, h2⟩, h3⟩, h4⟩, h5⟩, h6⟩, h7⟩, h8⟩, h9⟩ w
            have hv : rturn_w4 a b n = (rturn_val a b n) := by
              clear hp
              unfold rturn_w4 rturn_val
              unfold Bg at hpre
              (try simp only [Pl.mul, Int.mul_one, decide_eq_true_eq, decide_eq_false_iff_not] at *)
              (try simp (disch := omega) only [wi] at *)
              rcases turn_cases (a, b) n with ⟨g, e⟩ | ⟨g, e⟩ | ⟨g, e⟩ | ⟨g, e⟩ | ⟨g, e⟩ | ⟨g, e⟩ <;> first | (exfalso; omega) | (rw [e]; done) | (rw [e]; first | rfl | (simp only; congr 2; simp only [Value.int.injEq, true_and, List.cons.injEq, and_true] <;> omega))
            exact hv ▸ hp
        ·
          unfold rturn_c5 at h7
          have hp := rturn_p3 a b n ⟨⟨⟨⟨⟨⟨⟨⟨⟨trivial, rturn_g0⟩, h0⟩, h1⟩, h2⟩, h3⟩, h4⟩, h5⟩, h6⟩, h7⟩ w
          have hv : rturn_w3 a b n = (rturn_val a b n) := by
            clear hp
            unfold rturn_w3 rturn_val
            unfold Bg at hpre
            (try simp only [Pl.mul, Int.mul_one, decide_eq_true_eq, decide_eq_false_iff_not] at *)
            (try simp (disch := omega) only [wi] at *)
            rcases turn_cases (a, b) n with ⟨g, e⟩ | ⟨g, e⟩ | ⟨g, e⟩ | ⟨g, e⟩ | ⟨g, e⟩ | ⟨g, e⟩ <;> first | (exfalso; omega) | (rw [e]; done) | (rw [e]; first | rfl | (simp only; congr 2; simp only [Value.int.injEq, true_and, List.cons.injEq, and_true] <;> omega))
          exact hv ▸ hp
      ·
        unfold rturn_c4 at h5
        have hp := rturn_p2 a b n ⟨⟨⟨⟨⟨⟨⟨trivial, rturn_g0⟩, h0⟩, h1⟩, h2⟩, h3⟩, h4⟩, h5⟩ w
        have hv : rturn_w2 a b n = (rturn_val a b n) := by
          clear hp
          unfold rturn_w2 rturn_val
          unfold Bg at hpre
          (try simp only [Pl.mul, Int.mul_one, decide_eq_true_eq, decide_eq_false_iff_not] at *)
          (try simp (disch := omega) only [wi] at *)
          rcases turn_cases (a, b) n with ⟨g, e⟩ | ⟨g, e⟩ | ⟨g, e⟩ | ⟨g, e⟩ | ⟨g, e⟩ | ⟨g, e⟩ <;> first | (exfalso; omega) | (rw [e]; done) | (rw [e]; first | rfl | (simp only; congr 2; simp only [Value.int.injEq, true_and, List.cons.injEq, and_true] <;> omega))
        exact hv ▸ hp
    ·
      unfold rturn_c3 at h3
      have hp := rturn_p1 a b n ⟨⟨⟨⟨⟨trivial, rturn_g0⟩, h0⟩, h1⟩, h2⟩, h3⟩ w
      have hv : rturn_w1 a b n = (rturn_val a b n) := by
        clear hp
        unfold rturn_w1 rturn_val
        unfold Bg at hpre
        (try simp only [Pl.mul, Int.mul_one, decide_eq_true_eq, decide_eq_false_iff_not] at *)
        (try simp (disch := omega) only [wi] at *)
        rcases turn_cases (a, b) n with ⟨g, e⟩ | ⟨g, e⟩ | ⟨g, e⟩ | ⟨g, e⟩ | ⟨g, e⟩ | ⟨g, e⟩ <;> first | (exfalso; omega) | (rw [e]; done) | (rw [e]; first | rfl | (simp only; congr 2; simp only [Value.int.injEq, true_and, List.cons.injEq, and_true] <;> omega))
      exact hv ▸ hp
  ·
    unfold rturn_c0 at h0
    rcases Bool.eq_false_or_eq_true (rturn_c1 a b n) with h12 | h12
    ·
      unfold rturn_c1 at h12
      have h13 : (rturn_b5 a b n) := by
        unfold rturn_b5
        first | rfl | trivial | decide | (simp only [Bg] at hpre; (try simp only [Bg, Pl.mul, Int.mul_one, decide_eq_true_eq, decide_eq_false_iff_not] at *); (try simp (disch := omega) only [wi, rem6, decide_eq_true_eq, decide_eq_false_iff_not] at *) <;> omega)
      unfold rturn_b5 at h13
      rcases Bool.eq_false_or_eq_true (rturn_c8 a b n) with h14 | h14
      ·
        unfold rturn_c8 at h14
        have h15 : (rturn_b8 a b n) := by
          unfold rturn_b8
          first | rfl | trivial | decide | (simp only [Bg] at hpre; (try simp only [Bg, Pl.mul, Int.mul_one, decide_eq_true_eq, decide_eq_false_iff_not] at *); (try simp (disch := omega) only [wi, rem6, decide_eq_true_eq, decide_eq_false_iff_not] at *) <;> omega)
        unfold rturn_b8 at h15
        rcases Bool.eq_false_or_eq_true (rturn_c9 a b n) with h16 | h16
        ·
          unfold rturn_c9 at h16
          have h17 : (rturn_b11 a b n) := by
            unfold rturn_b11
            first | rfl | trivial | decide | (simp only [Bg] at hpre; (try simp only [Bg, Pl.mul, Int.mul_one, decide_eq_true_eq, decide_eq_false_iff_not] at *); (try simp (disch := omega) only [wi, rem6, decide_eq_true_eq, decide_eq_false_iff_not] at *) <;> omega)
          unfold rturn_b11 at h17
          rcases Bool.eq_false_or_eq_true (rturn_c10 a b n) with h18 | h18
          ·
            unfold rturn_c10 at h18
            have h19 : (rturn_b14 a b n) := by
              unfold rturn_b14
              first | rfl | trivial | decide | (simp only [Bg] at hpre; (try simp only [Bg, Pl.mul, Int.mul_one, decide_eq_true_eq, decide_eq_false_iff_not] at *); (try simp (disch := omega) only [wi, rem6, decide_eq_true_eq, decide_eq_false_iff_not] at *) <;> omega)
            unfold rturn_b14 at h19
            rcases Bool.eq_false_or_eq_true (rturn_c11 a b n) with h20 | h20
            ·
              unfold rturn_c11 at h20
              have h21 : (rturn_b17 a b n) := by
                unfold rturn_b17
                first | rfl | trivial | decide | (simp only [Bg] at hpre; (try simp only [Bg, Pl.mul, Int.mul_one, decide_eq_true_eq, decide_eq_false_iff_not] at *); (try simp (disch := omega) only [wi, rem6, decide_eq_true_eq, decide_eq_false_iff_not] at *) <;> omega)
              unfold rturn_b17 at h21
              have h22 : (rturn_c12 a b n = false) := by
                unfold rturn_c12
                first | rfl | trivial | decide | (simp only [Bg] at hpre; (try simp only [Bg, Pl.mul, Int.mul_one, decide_eq_true_eq, decide_eq_false_iff_not] at *); (try simp (disch := omega) only [wi, rem6, decide_eq_true_eq, decide_eq_false_iff_not] at *) <;> omega)
              unfold rturn_c12 at h22
              have hp := rturn_p10 a b n ⟨⟨⟨⟨⟨⟨⟨⟨⟨⟨⟨⟨⟨trivial, rturn_g0⟩, h0⟩, h12⟩, h13⟩, h14⟩, h15⟩, h16⟩, h17⟩, h18⟩, h19⟩, h20⟩, h21⟩, h22⟩ w
              have hv : rturn_w10 a b n = (rturn_val a b n) := by
                clear hp
                unfold rturn_w10 rturn_val
                unfold Bg at hpre
                (try simp only [Pl.mul, Int.mul_one, decide_eq_true_eq, decide_eq_false_iff_not] at *)
                (try simp (disch := omega) only [wi] at *)
                rcases turn_cases (a, b) n with ⟨g, e⟩ | ⟨g, e⟩ | ⟨g, e⟩ | ⟨g, e⟩ | ⟨g, e⟩ | ⟨g, e⟩ <;> first | (exfalso; omega) | (rw [e]; done) | (rw [e]; first | rfl | (simp only; congr 2; simp only [Value.int.injEq, true_and, List.cons.injEq, and_true] <;> omega))
              exact hv ▸ hp
            ·
              unfold rturn_c11 at h20
              have hp := rturn_p9 a b n ⟨⟨⟨⟨⟨⟨⟨⟨⟨⟨⟨trivial, rturn_g0⟩, h0⟩, h12⟩, h13⟩, h14⟩, h15⟩, h16⟩, h17⟩, h18⟩, h19⟩, h20⟩ w
              have hv : rturn_w9 a b n = (rturn_val a b n) := by
                clear hp
                unfold rturn_w9 rturn_val
                unfold Bg at hpre
                (try simp only [Pl.mul, Int.mul_one, decide_eq_true_eq, decide_eq_false_iff_not] at *)
                (try simp (disch := omega) only [wi] at *)
                rcases turn_cases (a, b) n with ⟨g, e⟩ | ⟨g, e⟩ | ⟨g, e⟩ | ⟨g, e⟩ | ⟨g, e⟩ | ⟨g, e⟩ <;> first | (exfalso; omega) | (rw [e]; done) | (rw [e]; first | rfl | (simp only; congr 2; simp only [Value.int.injEq, true_and, List.cons.injEq, and_true] <;> omega))
              exact hv ▸ hp
          ·
            unfold rturn_c10 at h18
            have hp := rturn_p8 a b n ⟨⟨⟨⟨⟨⟨⟨⟨⟨trivial, rturn_g0⟩, h0⟩, h12⟩, h13⟩, h14⟩, h15⟩, h16⟩, h17⟩, h18⟩ w
            have hv : rturn_w8 a b n = (rturn_val a b n) := by
              clear hp
              unfold rturn_w8 rturn_val
              unfold Bg at hpre
              (try simp only [Pl.mul, Int.mul_one, decide_eq_true_eq, decide_eq_false_iff_not] at *)
              (try simp (disch := omega) only [wi] at *)
              rcases turn_cases (a, b) n with ⟨g, e⟩ | ⟨g, e⟩ | ⟨g, e⟩ | ⟨g, e⟩ | ⟨g, e⟩ | ⟨g, e⟩ <;> first | (exfalso; omega) | (rw [e]; done) | (rw [e]; first | rfl | (simp only; congr 2; simp only [Value.int.injEq, true_and, List.cons.injEq, and_true] <;> omega))
            exact hv ▸ hp
        ·
          unfold rturn_c9 at h16
          have hp := rturn_p7 a b n ⟨⟨⟨⟨⟨⟨⟨trivial, rturn_g0⟩, h0⟩, h12⟩, h13⟩, h14⟩, h15⟩, h16⟩ w
          have hv : rturn_w7 a b n = (rturn_val a b n) := by
            clear hp
            unfold rturn_w7 rturn_val
            unfold Bg at hpre
            (try simp only [Pl.mul, Int.mul_one, decide_eq_true_eq, decide_eq_false_iff_not] at *)
            (try simp (disch := omega) only [wi] at *)
            rcases turn_cases (a, b) n with ⟨g, e⟩ | ⟨g, e⟩ | ⟨g, e⟩ | ⟨g, e⟩ | ⟨g, e⟩ | ⟨g, e⟩ <;> first | (exfalso; omega) | (rw [e]; done) | (rw [e]; first | rfl | (simp only; congr 2; simp only [Value.int.injEq, true_and, List.cons.injEq, and_true] <;> omega))
          exact hv ▸ hp
      ·
        unfold rturn_c8 at h14
        have hp := rturn_p6 a b n ⟨⟨⟨⟨⟨trivial, rturn_g0⟩, h0⟩, h12⟩, h13⟩, h14⟩ w
        have hv : rturn_w6 a b n = (rturn_val a b n) := by
          clear hp
          unfold rturn_w6 rturn_val
          unfold Bg at hpre
          (try simp only [Pl.mul, Int.mul_one, decide_eq_true_eq, decide_eq_false_iff_not] at *)
          (try simp (disch := omega) only [wi] at *)
          rcases turn_cases (a, b) n with ⟨g, e⟩ | ⟨g, e⟩ | ⟨g, e⟩ | ⟨g, e⟩ | ⟨g, e⟩ | ⟨g, e⟩ <;> first | (exfalso; omega) | (rw [e]; done) | (rw [e]; first | rfl | (simp only; congr 2; simp only [Value.int.injEq, true_and, List.cons.injEq, and_true] <;> omega))
        exact hv ▸ hp
    ·
      unfold rturn_c1 at h12
      have hp := rturn_p0 a b n ⟨⟨⟨trivial, rturn_g0⟩, h0⟩, h12⟩ w
      have hv : rturn_w0 a b n = (rturn_val a b n) := by
        clear hp
        unfold rturn_w0 rturn_val
        unfold Bg at hpre
        (try simp only [Pl.mul, Int.mul_one, decide_eq_true_eq, decide_eq_false_iff_not] at *)
        (try simp (disch := omega) only [wi] at *)
        rcases turn_cases (a, b) n with ⟨g, e⟩ | ⟨g, e⟩ | ⟨g, e⟩ | ⟨g, e⟩ | ⟨g, e⟩ | ⟨g, e⟩ <;> first | (exfalso; omega) | (rw [e]; done) | (rw [e]; first | rfl | (simp only; congr 2; simp only [Value.int.injEq, true_and, List.cons.injEq, and_true] <;> omega))
      exact hv ▸ hp
theorem k_rturn : ConOk Tryz.prog c_rturn := fun ns hl => by
  have hl0 : ns.length = 3 := hl
  clear hl
  obtain ⟨a, ns0, rfl, hl1⟩ := len_cons hl0
  obtain ⟨b, ns1, rfl, hl2⟩ := len_cons hl1
  obtain ⟨n, ns2, rfl, hl3⟩ := len_cons hl2
  obtain rfl := len_nil hl3
  exact ⟨rfl, fun h w => rturn_any a b n h w⟩
end Go.Proofs.YtffllmdjpeigbaaGreatDoor
end
section
set_option linter.all false
set_option maxRecDepth 1000000
set_option maxHeartbeats 2000000
open Go.RowKit
namespace Go.Proofs.YtffllmdjpeigbaaGreatDoor
open Mini

def rrange_val (n lo hi : Int) : Value := .int .i64 (Pl.cr n lo hi)
theorem rrange_X : FOkS Tryz.prog x_rrange := noXS_ok
theorem rrange_args (n lo hi : Int) : (#[.int .i64 n, .int .i64 lo, .int .i64 hi] : Array Value).toList.all (ground 8) = true := by kernel_rfl
def rrange_c0 (n lo hi : Int) : Bool := (decide (n < lo))
theorem rrange_g1 : (true = true) := by first | rfl | trivial | decide | omega
def rrange_c1 (n lo hi : Int) : Bool := (decide (n > hi))
def rrange_w0 (n lo hi : Int) : Value := .int .i64 (3 : Int)
def rrange_r0 (n lo hi : Int) : Prop := (((((True ∧ (rrange_c0 n lo hi = true)) ∧ (rrange_c0 n lo hi = true)) ∧ (rrange_c0 n lo hi = true)) ∧ (rrange_c0 n lo hi = true)) ∧ ((true = true)))
theorem rrange_o0 (n lo hi : Int) : obOf (rrange_e0 n lo hi) = rrange_r0 n lo hi := by kernel_rfl
theorem rrange_v0 (n lo hi : Int) : resOf (rrange_e0 n lo hi) = rrange_w0 n lo hi := by kernel_rfl
theorem rrange_k0 (n lo hi : Int) : cleanOf Tryz.prog.globals.size (rrange_e0 n lo hi) = true := by kernel_rfl
theorem rrange_q0 (n lo hi : Int) : rrange_e0 n lo hi = evFS Tryz.prog x_rrange 1000 13 #[.int .i64 n, .int .i64 lo, .int .i64 hi] (noTabs 9) ⟨[0, 0, 0, 1, 1], True⟩ := by
  delta rrange_e0
  exact Eq.refl _
theorem rrange_p0 (n lo hi : Int) (h : rrange_r0 n lo hi) (w : World) : Calls Tryz.prog 13 #[.int .i64 n, .int .i64 lo, .int .i64 hi] w fun en w' => en = .returned (rrange_w0 n lo hi) ∧ Below w.heap.size w w' := by
  have hv := rrange_v0 n lo hi
  have hc := rrange_k0 n lo hi
  have he := rrange_q0 n lo hi
  have ho := rrange_o0 n lo hi
  generalize rrange_e0 n lo hi = r at *
  exact calls_way he gfol rrange_X hv rfl (rrange_args n lo hi) hc ho h (bl w)
def rrange_w1 (n lo hi : Int) : Value := .int .i64 (3 : Int)
def rrange_r1 (n lo hi : Int) : Prop := (((((True ∧ (rrange_c0 n lo hi = false)) ∧ (rrange_c0 n lo hi = false)) ∧ (rrange_c0 n lo hi = false)) ∧ (rrange_c0 n lo hi = false)) ∧ (rrange_c1 n lo hi = true))
theorem rrange_o1 (n lo hi : Int) : obOf (rrange_e1 n lo hi) = rrange_r1 n lo hi := by kernel_rfl
theorem rrange_v1 (n lo hi : Int) : resOf (rrange_e1 n lo hi) = rrange_w1 n lo hi := by kernel_rfl
theorem rrange_k1 (n lo hi : Int) : cleanOf Tryz.prog.globals.size (rrange_e1 n lo hi) = true := by kernel_rfl
theorem rrange_q1 (n lo hi : Int) : rrange_e1 n lo hi = evFS Tryz.prog x_rrange 1000 13 #[.int .i64 n, .int .i64 lo, .int .i64 hi] (noTabs 9) ⟨[1, 1, 1, 0, 1], True⟩ := by
  delta rrange_e1
  exact Eq.refl _
theorem rrange_p1 (n lo hi : Int) (h : rrange_r1 n lo hi) (w : World) : Calls Tryz.prog 13 #[.int .i64 n, .int .i64 lo, .int .i64 hi] w fun en w' => en = .returned (rrange_w1 n lo hi) ∧ Below w.heap.size w w' := by
  have hv := rrange_v1 n lo hi
  have hc := rrange_k1 n lo hi
  have he := rrange_q1 n lo hi
  have ho := rrange_o1 n lo hi
  generalize rrange_e1 n lo hi = r at *
  exact calls_way he gfol rrange_X hv rfl (rrange_args n lo hi) hc ho h (bl w)
def rrange_w2 (n lo hi : Int) : Value := .int .i64 (0 : Int)
def rrange_r2 (n lo hi : Int) : Prop := (((((True ∧ (rrange_c0 n lo hi = false)) ∧ (rrange_c0 n lo hi = false)) ∧ (rrange_c0 n lo hi = false)) ∧ (rrange_c0 n lo hi = false)) ∧ (rrange_c1 n lo hi = false))
theorem rrange_o2 (n lo hi : Int) : obOf (rrange_e2 n lo hi) = rrange_r2 n lo hi := by kernel_rfl
theorem rrange_v2 (n lo hi : Int) : resOf (rrange_e2 n lo hi) = rrange_w2 n lo hi := by kernel_rfl
theorem rrange_k2 (n lo hi : Int) : cleanOf Tryz.prog.globals.size (rrange_e2 n lo hi) = true := by kernel_rfl
theorem rrange_q2 (n lo hi : Int) : rrange_e2 n lo hi = evFS Tryz.prog x_rrange 1000 13 #[.int .i64 n, .int .i64 lo, .int .i64 hi] (noTabs 9) ⟨[1, 1, 1, 0, 0], True⟩ := by
  delta rrange_e2
  exact Eq.refl _
theorem rrange_p2 (n lo hi : Int) (h : rrange_r2 n lo hi) (w : World) : Calls Tryz.prog 13 #[.int .i64 n, .int .i64 lo, .int .i64 hi] w fun en w' => en = .returned (rrange_w2 n lo hi) ∧ Below w.heap.size w w' := by
  have hv := rrange_v2 n lo hi
  have hc := rrange_k2 n lo hi
  have he := rrange_q2 n lo hi
  have ho := rrange_o2 n lo hi
  generalize rrange_e2 n lo hi = r at *
  exact calls_way he gfol rrange_X hv rfl (rrange_args n lo hi) hc ho h (bl w)
theorem rrange_any (n lo hi : Int) (hpre : True) (w : World) : Calls Tryz.prog 13 #[.int .i64 n, .int .i64 lo, .int .i64 hi] w fun en w' => en = .returned (rrange_val n lo hi) ∧ Below w.heap.size w w' := by
  rcases Bool.eq_false_or_eq_true (rrange_c0 n lo hi) with h0 | h0
  ·
    unfold rrange_c0 at h0
    have hp := rrange_p0 n lo hi ⟨⟨⟨⟨⟨trivial, h0⟩, h0⟩, h0⟩, h0⟩, rrange_g1⟩ w
    have hv : rrange_w0 n lo hi = (rrange_val n lo hi) := by
      clear hp
      unfold rrange_w0 rrange_val
      first | rfl | ((try simp only [bne_iff_ne, ne_eq, decide_eq_true_eq, decide_eq_false_iff_not, Bool.not_eq_true', Bool.not_eq_false', beq_iff_eq, beq_eq_false_iff_ne, bne_eq_false_iff_eq, Bool.and_eq_true, Bool.not_eq_true, Bool.not_eq_false, Pl.cr, parts_eq, w20, w16, wT, w20', w16', wT', Pl.lim, Pl.inB, first_two, two, oneB, Bg] at *); grind)
    exact hv ▸ hp
  ·
    unfold rrange_c0 at h0
    rcases Bool.eq_false_or_eq_true (rrange_c1 n lo hi) with h1 | h1
    ·
      unfold rrange_c1 at h1
      have hp := rrange_p1 n lo hi ⟨⟨⟨⟨⟨trivial, h0⟩, h0⟩, h0⟩, h0⟩, h1⟩ w
      have hv : rrange_w1 n lo hi = (rrange_val n lo hi) := by
        clear hp
        unfold rrange_w1 rrange_val
        first | rfl | ((try simp only [bne_iff_ne, ne_eq, decide_eq_true_eq, decide_eq_false_iff_not, Bool.not_eq_true', Bool.not_eq_false', beq_iff_eq, beq_eq_false_iff_ne, bne_eq_false_iff_eq, Bool.and_eq_true, Bool.not_eq_true, Bool.not_eq_false, Pl.cr, parts_eq, w20, w16, wT, w20', w16', wT', Pl.lim, Pl.inB, first_two, two, oneB, Bg] at *); grind)
      exact hv ▸ hp
    ·
      unfold rrange_c1 at h1
      have hp := rrange_p2 n lo hi ⟨⟨⟨⟨⟨trivial, h0⟩, h0⟩, h0⟩, h0⟩, h1⟩ w
      have hv : rrange_w2 n lo hi = (rrange_val n lo hi) := by
        clear hp
        unfold rrange_w2 rrange_val
        first | rfl | ((try simp only [bne_iff_ne, ne_eq, decide_eq_true_eq, decide_eq_false_iff_not, Bool.not_eq_true', Bool.not_eq_false', beq_iff_eq, beq_eq_false_iff_ne, bne_eq_false_iff_eq, Bool.and_eq_true, Bool.not_eq_true, Bool.not_eq_false, Pl.cr, parts_eq, w20, w16, wT, w20', w16', wT', Pl.lim, Pl.inB, first_two, two, oneB, Bg] at *); grind)
      exact hv ▸ hp
theorem k_rrange : ConOk Tryz.prog c_rrange := fun ns hl => by
  have hl0 : ns.length = 3 := hl
  clear hl
  obtain ⟨n, ns0, rfl, hl1⟩ := len_cons hl0
  obtain ⟨lo, ns1, rfl, hl2⟩ := len_cons hl1
  obtain ⟨hi, ns2, rfl, hl3⟩ := len_cons hl2
  obtain rfl := len_nil hl3
  exact ⟨rfl, fun h w => rrange_any n lo hi h w⟩
end Go.Proofs.YtffllmdjpeigbaaGreatDoor
end
section
set_option linter.all false
set_option maxRecDepth 1000000
set_option maxHeartbeats 2000000
open Go.RowKit
namespace Go.Proofs.YtffllmdjpeigbaaGreatDoor
open Mini

def rcheckEisen_val (a b : Int) : Value := .int .i64 (Pl.parts a b 1048576)
theorem rcheckEisen_X : FOkS Tryz.prog x_rcheckEisen := kAll_ok _ ⟨k_rrange, trivial⟩
theorem rcheckEisen_args (a b : Int) : (#[.agg #[.int .i64 a, .int .i64 b]] : Array Value).toList.all (ground 8) = true := by kernel_rfl
theorem rcheckEisen_g0 : True := by first | rfl | trivial | decide | omega
theorem rcheckEisen_g1 : (true = true) := by first | rfl | trivial | decide | omega
theorem rcheckEisen_g2 : ((0 : Int) = (0 : Int)) := by first | rfl | trivial | decide | omega
def rcheckEisen_c0 (a b : Int) : Bool := ((Pl.cr a (-1048576 : Int) (1048576 : Int)) != (0 : Int))
theorem rcheckEisen_g4 : ((1 : Int) = (1 : Int)) := by first | rfl | trivial | decide | omega
def rcheckEisen_c1 (a b : Int) : Bool := ((Pl.cr b (-1048576 : Int) (1048576 : Int)) != (0 : Int))
theorem rcheckEisen_g6 : (false = false) := by first | rfl | trivial | decide | omega
def rcheckEisen_w0 (a b : Int) : Value := .int .i64 (0 : Int)
def rcheckEisen_r0 (a b : Int) : Prop := (((((((((True ∧ (True)) ∧ (True)) ∧ ((true = true))) ∧ (((0 : Int) = (0 : Int)))) ∧ (rcheckEisen_c0 a b = false)) ∧ ((true = true))) ∧ (((1 : Int) = (1 : Int)))) ∧ (rcheckEisen_c1 a b = false)) ∧ ((false = false)))
theorem rcheckEisen_o0 (a b : Int) : obOf (rcheckEisen_e0 a b) = rcheckEisen_r0 a b := by kernel_rfl
theorem rcheckEisen_v0 (a b : Int) : resOf (rcheckEisen_e0 a b) = rcheckEisen_w0 a b := by kernel_rfl
theorem rcheckEisen_k0 (a b : Int) : cleanOf Tryz.prog.globals.size (rcheckEisen_e0 a b) = true := by kernel_rfl
theorem rcheckEisen_q0 (a b : Int) : rcheckEisen_e0 a b = evFS Tryz.prog x_rcheckEisen 1000 71 #[.agg #[.int .i64 a, .int .i64 b]] (noTabs 9) ⟨[1, 0, 0, 1, 1, 0, 0], True⟩ := by
  delta rcheckEisen_e0
  exact Eq.refl _
theorem rcheckEisen_p0 (a b : Int) (h : rcheckEisen_r0 a b) (w : World) : Calls Tryz.prog 71 #[.agg #[.int .i64 a, .int .i64 b]] w fun en w' => en = .returned (rcheckEisen_w0 a b) ∧ Below w.heap.size w w' := by
  have hv := rcheckEisen_v0 a b
  have hc := rcheckEisen_k0 a b
  have he := rcheckEisen_q0 a b
  have ho := rcheckEisen_o0 a b
  generalize rcheckEisen_e0 a b = r at *
  exact calls_way he gfol rcheckEisen_X hv rfl (rcheckEisen_args a b) hc ho h (bl w)
def rcheckEisen_w1 (a b : Int) : Value := .int .i64 (Pl.cr b (-1048576 : Int) (1048576 : Int))
def rcheckEisen_r1 (a b : Int) : Prop := (((((((((True ∧ (True)) ∧ (True)) ∧ ((true = true))) ∧ (((0 : Int) = (0 : Int)))) ∧ (rcheckEisen_c0 a b = false)) ∧ ((true = true))) ∧ (((1 : Int) = (1 : Int)))) ∧ (rcheckEisen_c1 a b = true)) ∧ (((1 : Int) = (1 : Int))))
theorem rcheckEisen_o1 (a b : Int) : obOf (rcheckEisen_e1 a b) = rcheckEisen_r1 a b := by kernel_rfl
theorem rcheckEisen_v1 (a b : Int) : resOf (rcheckEisen_e1 a b) = rcheckEisen_w1 a b := by kernel_rfl
theorem rcheckEisen_k1 (a b : Int) : cleanOf Tryz.prog.globals.size (rcheckEisen_e1 a b) = true := by kernel_rfl
theorem rcheckEisen_q1 (a b : Int) : rcheckEisen_e1 a b = evFS Tryz.prog x_rcheckEisen 1000 71 #[.agg #[.int .i64 a, .int .i64 b]] (noTabs 9) ⟨[1, 0, 0, 1, 1, 1, 1], True⟩ := by
  delta rcheckEisen_e1
  exact Eq.refl _
theorem rcheckEisen_p1 (a b : Int) (h : rcheckEisen_r1 a b) (w : World) : Calls Tryz.prog 71 #[.agg #[.int .i64 a, .int .i64 b]] w fun en w' => en = .returned (rcheckEisen_w1 a b) ∧ Below w.heap.size w w' := by
  have hv := rcheckEisen_v1 a b
  have hc := rcheckEisen_k1 a b
  have he := rcheckEisen_q1 a b
  have ho := rcheckEisen_o1 a b
  generalize rcheckEisen_e1 a b = r at *
  exact calls_way he gfol rcheckEisen_X hv rfl (rcheckEisen_args a b) hc ho h (bl w)
def rcheckEisen_w2 (a b : Int) : Value := .int .i64 (Pl.cr a (-1048576 : Int) (1048576 : Int))
def rcheckEisen_r2 (a b : Int) : Prop := ((((((True ∧ (True)) ∧ (True)) ∧ ((true = true))) ∧ (((0 : Int) = (0 : Int)))) ∧ (rcheckEisen_c0 a b = true)) ∧ (((0 : Int) = (0 : Int))))
theorem rcheckEisen_o2 (a b : Int) : obOf (rcheckEisen_e2 a b) = rcheckEisen_r2 a b := by kernel_rfl
theorem rcheckEisen_v2 (a b : Int) : resOf (rcheckEisen_e2 a b) = rcheckEisen_w2 a b := by kernel_rfl
theorem rcheckEisen_k2 (a b : Int) : cleanOf Tryz.prog.globals.size (rcheckEisen_e2 a b) = true := by kernel_rfl
theorem rcheckEisen_q2 (a b : Int) : rcheckEisen_e2 a b = evFS Tryz.prog x_rcheckEisen 1000 71 #[.agg #[.int .i64 a, .int .i64 b]] (noTabs 9) ⟨[1, 0, 1, 0], True⟩ := by
  delta rcheckEisen_e2
  exact Eq.refl _
theorem rcheckEisen_p2 (a b : Int) (h : rcheckEisen_r2 a b) (w : World) : Calls Tryz.prog 71 #[.agg #[.int .i64 a, .int .i64 b]] w fun en w' => en = .returned (rcheckEisen_w2 a b) ∧ Below w.heap.size w w' := by
  have hv := rcheckEisen_v2 a b
  have hc := rcheckEisen_k2 a b
  have he := rcheckEisen_q2 a b
  have ho := rcheckEisen_o2 a b
  generalize rcheckEisen_e2 a b = r at *
  exact calls_way he gfol rcheckEisen_X hv rfl (rcheckEisen_args a b) hc ho h (bl w)
theorem rcheckEisen_any (a b : Int) (hpre : True) (w : World) : Calls Tryz.prog 71 #[.agg #[.int .i64 a, .int .i64 b]] w fun en w' => en = .returned (rcheckEisen_val a b) ∧ Below w.heap.size w w' := by
  rcases Bool.eq_false_or_eq_true (rcheckEisen_c0 a b) with h0 | h0
  ·
    unfold rcheckEisen_c0 at h0
    have hp := rcheckEisen_p2 a b ⟨⟨⟨⟨⟨⟨trivial, rcheckEisen_g0⟩, rcheckEisen_g0⟩, rcheckEisen_g1⟩, rcheckEisen_g2⟩, h0⟩, rcheckEisen_g2⟩ w
    have hv : rcheckEisen_w2 a b = (rcheckEisen_val a b) := by
      clear hp
      unfold rcheckEisen_w2 rcheckEisen_val
      first | rfl | ((try simp only [bne_iff_ne, ne_eq, decide_eq_true_eq, decide_eq_false_iff_not, Bool.not_eq_true', Bool.not_eq_false', beq_iff_eq, beq_eq_false_iff_ne, bne_eq_false_iff_eq, Bool.and_eq_true, Bool.not_eq_true, Bool.not_eq_false, Pl.cr, parts_eq, w20, w16, wT, w20', w16', wT', Pl.lim, Pl.inB, first_two, two, oneB, Bg] at *); grind)
    exact hv ▸ hp
  ·
    unfold rcheckEisen_c0 at h0
    rcases Bool.eq_false_or_eq_true (rcheckEisen_c1 a b) with h1 | h1
    ·
      unfold rcheckEisen_c1 at h1
      have hp := rcheckEisen_p1 a b ⟨⟨⟨⟨⟨⟨⟨⟨⟨trivial, rcheckEisen_g0⟩, rcheckEisen_g0⟩, rcheckEisen_g1⟩, rcheckEisen_g2⟩, h0⟩, rcheckEisen_g1⟩, rcheckEisen_g4⟩, h1⟩, rcheckEisen_g4⟩ w
      have hv : rcheckEisen_w1 a b = (rcheckEisen_val a b) := by
        clear hp
        unfold rcheckEisen_w1 rcheckEisen_val
        first | rfl | ((try simp only [bne_iff_ne, ne_eq, decide_eq_true_eq, decide_eq_false_iff_not, Bool.not_eq_true', Bool.not_eq_false', beq_iff_eq, beq_eq_false_iff_ne, bne_eq_false_iff_eq, Bool.and_eq_true, Bool.not_eq_true, Bool.not_eq_false, Pl.cr, parts_eq, w20, w16, wT, w20', w16', wT', Pl.lim, Pl.inB, first_two, two, oneB, Bg] at *); grind)
      exact hv ▸ hp
    ·
      unfold rcheckEisen_c1 at h1
      have hp := rcheckEisen_p0 a b ⟨⟨⟨⟨⟨⟨⟨⟨⟨trivial, rcheckEisen_g0⟩, rcheckEisen_g0⟩, rcheckEisen_g1⟩, rcheckEisen_g2⟩, h0⟩, rcheckEisen_g1⟩, rcheckEisen_g4⟩, h1⟩, rcheckEisen_g6⟩ w
      have hv : rcheckEisen_w0 a b = (rcheckEisen_val a b) := by
        clear hp
        unfold rcheckEisen_w0 rcheckEisen_val
        first | rfl | ((try simp only [bne_iff_ne, ne_eq, decide_eq_true_eq, decide_eq_false_iff_not, Bool.not_eq_true', Bool.not_eq_false', beq_iff_eq, beq_eq_false_iff_ne, bne_eq_false_iff_eq, Bool.and_eq_true, Bool.not_eq_true, Bool.not_eq_false, Pl.cr, parts_eq, w20, w16, wT, w20', w16', wT', Pl.lim, Pl.inB, first_two, two, oneB, Bg] at *); grind)
      exact hv ▸ hp
theorem k_rcheckEisen : ConOk Tryz.prog c_rcheckEisen := fun ns hl => by
  have hl0 : ns.length = 2 := hl
  clear hl
  obtain ⟨a, ns0, rfl, hl1⟩ := len_cons hl0
  obtain ⟨b, ns1, rfl, hl2⟩ := len_cons hl1
  obtain rfl := len_nil hl2
  exact ⟨rfl, fun h w => rcheckEisen_any a b h w⟩
end Go.Proofs.YtffllmdjpeigbaaGreatDoor
end
section
set_option linter.all false
set_option maxRecDepth 1000000
set_option maxHeartbeats 2000000
open Go.RowKit
namespace Go.Proofs.YtffllmdjpeigbaaGreatDoor
open Mini

def fits_val (a b : Int) : Value := .tuple #[.agg #[.int .i64 (Pl.lim (a, b)).1.1, .int .i64 (Pl.lim (a, b)).1.2], .int .i64 (Pl.lim (a, b)).2]
theorem fits_X : FOkS Tryz.prog x_fits := kAll_ok _ ⟨k_rcheckEisen, trivial⟩
theorem fits_args (a b : Int) : (#[.agg #[.int .i64 a, .int .i64 b]] : Array Value).toList.all (ground 8) = true := by kernel_rfl
theorem fits_g0 : True := by first | rfl | trivial | decide | omega
def fits_c0 (a b : Int) : Bool := ((Pl.parts a b (1048576 : Int)) != (0 : Int))
def fits_w0 (a b : Int) : Value := .tuple #[.agg #[.int .i64 a, .int .i64 b], .int .i64 (0 : Int)]
def fits_r0 (a b : Int) : Prop := ((True ∧ (True)) ∧ (fits_c0 a b = false))
theorem fits_o0 (a b : Int) : obOf (fits_e0 a b) = fits_r0 a b := by kernel_rfl
theorem fits_v0 (a b : Int) : resOf (fits_e0 a b) = fits_w0 a b := by kernel_rfl
theorem fits_k0 (a b : Int) : cleanOf Tryz.prog.globals.size (fits_e0 a b) = true := by kernel_rfl
theorem fits_q0 (a b : Int) : fits_e0 a b = evFS Tryz.prog x_fits 1000 73 #[.agg #[.int .i64 a, .int .i64 b]] (noTabs 9) ⟨[0], True⟩ := by
  delta fits_e0
  exact Eq.refl _
theorem fits_p0 (a b : Int) (h : fits_r0 a b) (w : World) : Calls Tryz.prog 73 #[.agg #[.int .i64 a, .int .i64 b]] w fun en w' => en = .returned (fits_w0 a b) ∧ Below w.heap.size w w' := by
  have hv := fits_v0 a b
  have hc := fits_k0 a b
  have he := fits_q0 a b
  have ho := fits_o0 a b
  generalize fits_e0 a b = r at *
  exact calls_way he gfol fits_X hv rfl (fits_args a b) hc ho h (bl w)
def fits_w1 (a b : Int) : Value := .tuple #[.agg #[.int .i64 (0 : Int), .int .i64 (0 : Int)], .int .i64 (4 : Int)]
def fits_r1 (a b : Int) : Prop := ((True ∧ (True)) ∧ (fits_c0 a b = true))
theorem fits_o1 (a b : Int) : obOf (fits_e1 a b) = fits_r1 a b := by kernel_rfl
theorem fits_v1 (a b : Int) : resOf (fits_e1 a b) = fits_w1 a b := by kernel_rfl
theorem fits_k1 (a b : Int) : cleanOf Tryz.prog.globals.size (fits_e1 a b) = true := by kernel_rfl
theorem fits_q1 (a b : Int) : fits_e1 a b = evFS Tryz.prog x_fits 1000 73 #[.agg #[.int .i64 a, .int .i64 b]] (noTabs 9) ⟨[1], True⟩ := by
  delta fits_e1
  exact Eq.refl _
theorem fits_p1 (a b : Int) (h : fits_r1 a b) (w : World) : Calls Tryz.prog 73 #[.agg #[.int .i64 a, .int .i64 b]] w fun en w' => en = .returned (fits_w1 a b) ∧ Below w.heap.size w w' := by
  have hv := fits_v1 a b
  have hc := fits_k1 a b
  have he := fits_q1 a b
  have ho := fits_o1 a b
  generalize fits_e1 a b = r at *
  exact calls_way he gfol fits_X hv rfl (fits_args a b) hc ho h (bl w)
theorem fits_any (a b : Int) (hpre : True) (w : World) : Calls Tryz.prog 73 #[.agg #[.int .i64 a, .int .i64 b]] w fun en w' => en = .returned (fits_val a b) ∧ Below w.heap.size w w' := by
  rcases Bool.eq_false_or_eq_true (fits_c0 a b) with h0 | h0
  ·
    unfold fits_c0 at h0
    have hp := fits_p1 a b ⟨⟨trivial, fits_g0⟩, h0⟩ w
    have hv : fits_w1 a b = (fits_val a b) := by
      clear hp
      unfold fits_w1 fits_val
      first | rfl | ((try simp only [bne_iff_ne, ne_eq, decide_eq_true_eq, decide_eq_false_iff_not, Bool.not_eq_true', Bool.not_eq_false', beq_iff_eq, beq_eq_false_iff_ne, bne_eq_false_iff_eq, Bool.and_eq_true, Bool.not_eq_true, Bool.not_eq_false, Pl.cr, parts_eq, w20, w16, wT, w20', w16', wT', Pl.lim, Pl.inB, first_two, two, oneB, Bg] at *); grind)
    exact hv ▸ hp
  ·
    unfold fits_c0 at h0
    have hp := fits_p0 a b ⟨⟨trivial, fits_g0⟩, h0⟩ w
    have hv : fits_w0 a b = (fits_val a b) := by
      clear hp
      unfold fits_w0 fits_val
      first | rfl | ((try simp only [bne_iff_ne, ne_eq, decide_eq_true_eq, decide_eq_false_iff_not, Bool.not_eq_true', Bool.not_eq_false', beq_iff_eq, beq_eq_false_iff_ne, bne_eq_false_iff_eq, Bool.and_eq_true, Bool.not_eq_true, Bool.not_eq_false, Pl.cr, parts_eq, w20, w16, wT, w20', w16', wT', Pl.lim, Pl.inB, first_two, two, oneB, Bg] at *); grind)
    exact hv ▸ hp
theorem k_fits : ConOk Tryz.prog c_fits := fun ns hl => by
  have hl0 : ns.length = 2 := hl
  clear hl
  obtain ⟨a, ns0, rfl, hl1⟩ := len_cons hl0
  obtain ⟨b, ns1, rfl, hl2⟩ := len_cons hl1
  obtain rfl := len_nil hl2
  exact ⟨rfl, fun h w => fits_any a b h w⟩
end Go.Proofs.YtffllmdjpeigbaaGreatDoor
end
section
set_option linter.all false
set_option maxRecDepth 1000000
open Go.RowKit
namespace Go.Proofs.YtffllmdjpeigbaaGreatDoor
open Mini
noncomputable def rgX : Code := loopOf Tryz.prog 14
noncomputable def rgK : CallS := kAll [c_rturn, c_fits]
def rgArgs (n c : Nat) (s : Int) : Array Value := #[.slice (some ⟨9, 0, none⟩) n c, .int .i64 s]
def rgQ (s : Int) (i : Nat) : Int := IntKind.i64.wrap (0 - IntKind.i64.wrap (s * (i : Int)))
def rgT (g : Nat → Nat → Int) (s : Int) (i : Nat) : (Int × Int) × Int := Pl.lim ((Pl.turn (g i 0, g i 1) (rgQ s i)).1, (Pl.turn (g i 0, g i 1) (rgQ s i)).2)
def rgW (g : Nat → Nat → Int) (s : Int) (i : Nat) : List Value := [.int .i64 (rgT g s i).1.1, .int .i64 (rgT g s i).1.2]
def rgO (g : Nat → Nat → Int) (s : Int) (i : Nat) : MObj := .rows i 2 (fillG [] (rgW g s) i) 40 true 2 false
def rgA0 (n c : Nat) (s : Int) : MA := MA.ofL 37 [.slice (some ⟨9, 0, none⟩) n c, .int .i64 s, .chan none, .chan none, .chan none, .chan none, .slice none 0 0, .int .i64 ((0 : Nat) : Int), .chan none, .chan none, .chan none, .chan none, .chan none, .chan none, .chan none, .chan none, .chan none, .chan none, .chan none, .chan none, .chan none, .chan none, .chan none, .chan none, .chan none, .chan none, .chan none, .chan none, .chan none, .chan none, .chan none, .chan none, .chan none, .chan none, .chan none, .chan none, .chan none] []
def rgA1 (n c : Nat) (s : Int) (i : Nat) : MA := MA.ofL 37 [.slice (some ⟨9, 0, none⟩) n c, .int .i64 s, .chan none, .chan none, .chan none, .chan none, .slice (some ⟨10, 0, none⟩) (i + 1) (i + 1), .int .i64 ((i + 1 : Nat) : Int), .chan none, .chan none, .chan none, .chan none, .chan none, .chan none, .chan none, .chan none, .chan none, .chan none, .chan none, .chan none, .chan none, .chan none, .chan none, .chan none, .chan none, .chan none, .chan none, .chan none, .chan none, .chan none, .chan none, .chan none, .chan none, .chan none, .chan none, .chan none, .chan none] []
def rgB (r : Int) : MA := MA.ofL 37 [.chan none, .chan none, .chan none, .chan none, .slice none 0 0, .int .i64 r, .chan none, .chan none, .chan none, .chan none, .chan none, .chan none, .chan none, .chan none, .chan none, .chan none, .chan none, .chan none, .chan none, .chan none, .chan none, .chan none, .chan none, .chan none, .chan none, .chan none, .chan none, .chan none, .chan none, .chan none, .chan none, .chan none, .chan none, .chan none, .chan none, .chan none, .chan none] []
def rgE0 : MA := MA.ofL 37 [.chan none, .chan none, .chan none, .chan none, .chan none, .chan none, .slice none 0 0, .chan none, .chan none, .chan none, .chan none, .chan none, .chan none, .chan none, .chan none, .chan none, .chan none, .chan none, .chan none, .chan none, .chan none, .chan none, .chan none, .chan none, .chan none, .chan none, .chan none, .chan none, .chan none, .chan none, .chan none, .chan none, .chan none, .chan none, .chan none, .chan none, .chan none] []
def rgE1 (i : Nat) : MA := MA.ofL 37 [.chan none, .chan none, .chan none, .chan none, .chan none, .chan none, .slice (some ⟨10, 0, none⟩) (i + 1) (i + 1), .chan none, .chan none, .chan none, .chan none, .chan none, .chan none, .chan none, .chan none, .chan none, .chan none, .chan none, .chan none, .chan none, .chan none, .chan none, .chan none, .chan none, .chan none, .chan none, .chan none, .chan none, .chan none, .chan none, .chan none, .chan none, .chan none, .chan none, .chan none, .chan none, .chan none] []
noncomputable def rgR0 (n c : Nat) (g : Nat → Nat → Int) (e : TypeId) (opn : Bool) (sz : Nat) (ro : Bool) (s : Int) : Option OutCS := evCRS Tryz.prog rgK 1000 none false rgX (rgA0 n c s) (wS 9 [rowI 2 n g e opn sz ro]) ⟨[1, .row 0 0, .row 0 0, 0, .azz (.slice (some ⟨12, 0, none⟩) 1 1), .azz (.int .i64 ((0 + 1 : Nat) : Int))], True⟩
noncomputable def rgR1 (n c : Nat) (g : Nat → Nat → Int) (e : TypeId) (opn : Bool) (sz : Nat) (ro : Bool) (s : Int) (i : Nat) : Option OutCS := evCRS Tryz.prog rgK 1000 none false rgX (rgA1 n c s i) (wS 9 [rowI 2 n g e opn sz ro, rgO g s (i + 1)]) ⟨[1, .row (i + 1) 0, .row (i + 1) 0, 0, .row 0 0, .azz (.int .i64 ((i + 1 + 1 : Nat) : Int))], True⟩
noncomputable def rgB0 (n c : Nat) (g : Nat → Nat → Int) (e : TypeId) (opn : Bool) (sz : Nat) (ro : Bool) (s : Int) : Option OutCS := evCRS Tryz.prog rgK 1000 none false rgX (rgA0 n c s) (wS 9 [rowI 2 n g e opn sz ro]) ⟨[1, .row 0 0, .row 0 0, 1], True⟩
noncomputable def rgB1 (n c : Nat) (g : Nat → Nat → Int) (e : TypeId) (opn : Bool) (sz : Nat) (ro : Bool) (s : Int) (i : Nat) : Option OutCS := evCRS Tryz.prog rgK 1000 none false rgX (rgA1 n c s i) (wS 9 [rowI 2 n g e opn sz ro, rgO g s (i + 1)]) ⟨[1, .row (i + 1) 0, .row (i + 1) 0, 1], True⟩
noncomputable def rgN0 (n c : Nat) (g : Nat → Nat → Int) (e : TypeId) (opn : Bool) (sz : Nat) (ro : Bool) (s : Int) : Option OutCS := evCRS Tryz.prog rgK 1000 none false rgX (rgA0 n c s) (wS 9 [rowI 2 n g e opn sz ro]) ⟨[0], True⟩
noncomputable def rgN1 (n c : Nat) (g : Nat → Nat → Int) (e : TypeId) (opn : Bool) (sz : Nat) (ro : Bool) (s : Int) (i : Nat) : Option OutCS := evCRS Tryz.prog rgK 1000 none false rgX (rgA1 n c s i) (wS 9 [rowI 2 n g e opn sz ro, rgO g s (i + 1)]) ⟨[0], True⟩
noncomputable def rgF_ret (n c : Nat) (g : Nat → Nat → Int) (e : TypeId) (opn : Bool) (sz : Nat) (ro : Bool) (s r : Int) : Option OutS := evFS Tryz.prog rgK 1000 14 (rgArgs n c s) (wS 9 [rowI 2 n g e opn sz ro]) ⟨[.lp 195 (rgA0 n c s) 9 [rowI 2 n g e opn sz ro] .ret (rgB r) [rowI 2 n g e opn sz ro] 512 0], True⟩
noncomputable def rgF_e0 (n c : Nat) (g : Nat → Nat → Int) (e : TypeId) (opn : Bool) (sz : Nat) (ro : Bool) (s : Int) : Option OutS := evFS Tryz.prog rgK 1000 14 (rgArgs n c s) (wS 9 [rowI 2 n g e opn sz ro]) ⟨[.lp 195 (rgA0 n c s) 9 [rowI 2 n g e opn sz ro] (.exit 0) rgE0 [rowI 2 n g e opn sz ro] 512 0], True⟩
noncomputable def rgF_e1 (n c : Nat) (g : Nat → Nat → Int) (e : TypeId) (opn : Bool) (sz : Nat) (ro : Bool) (s : Int) (i : Nat) : Option OutS := evFS Tryz.prog rgK 1000 14 (rgArgs n c s) (wS 9 [rowI 2 n g e opn sz ro]) ⟨[.lp 195 (rgA0 n c s) 9 [rowI 2 n g e opn sz ro] (.exit 0) (rgE1 i) [rowI 2 n g e opn sz ro, rgO g s (i + 1)] 512 0], True⟩
theorem rgK_ok : FOkS Tryz.prog rgK := kAll_ok _ ⟨k_rturn, k_fits, trivial⟩
def rgA (n c : Nat) (s : Int) : Nat → MA
  | 0 => rgA0 n c s
  | i + 1 => rgA1 n c s i
def rgE : Nat → MA
  | 0 => rgE0
  | i + 1 => rgE1 i
section
variable (n c : Nat) (g : Nat → Nat → Int) (e : TypeId) (opn : Bool) (sz : Nat) (ro : Bool) (s : Int) (i : Nat)
theorem rgR0_eq : seenG0 10 12 195 (rgR0 n c g e opn sz ro s) = some (.normal, rgA1 n c s 0, .cells (rgW g s 0) 40 true 2 false, 3584, 1024, ⟨[], ((((((((True ∧ ((decide ((((0 : Nat)) : Int) < (((n : Nat)) : Int))) = true)) ∧ (((((0 : Nat)) : Int) = (Int.ofNat (0 : Nat))) ∧ ((0 : Nat) < n))) ∧ ((0 = 0) ∧ ((0 : Nat) < n))) ∧ ((Bg (1048576 : Int) (g 0 0) (g 0 1)) ∧ (((- (9223372036854775808 : Int)) ≤ (IntKind.i64.wrap ((0 : Int) - (IntKind.i64.wrap (s * (((0 : Nat)) : Int)))))) ∧ ((IntKind.i64.wrap ((0 : Int) - (IntKind.i64.wrap (s * (((0 : Nat)) : Int))))) ≤ (9223372036854775807 : Int))))) ∧ True) ∧ ((((Pl.lim (((Pl.turn ((g 0 0), (g 0 1)) (IntKind.i64.wrap ((0 : Int) - (IntKind.i64.wrap (s * (((0 : Nat)) : Int))))))).1, ((Pl.turn ((g 0 0), (g 0 1)) (IntKind.i64.wrap ((0 : Int) - (IntKind.i64.wrap (s * (((0 : Nat)) : Int))))))).2))).2 != (0 : Int)) = false)) ∧ (((.slice (some ⟨12, 0, none⟩) 1 1) : Value) = (.slice (some ⟨12, 0, none⟩) (1 : Nat) (1 : Nat)))) ∧ (((.int .i64 (IntKind.i64.wrap ((((0 : Nat)) : Int) + (1 : Int)))) : Value) = (.int .i64 (((1 : Nat)) : Int))))⟩) := by kernel_rfl
theorem rgR1_eq : seenG 10 13 195 (rgR1 n c g e opn sz ro s i) = some (.normal, rgA1 n c s (i + 1), .rows (i + 1 + 1) 2 (pushRow (i + 1) 2 (fillG [] (rgW g s) (i + 1)) (rgW g s (i + 1))) 40 true 2 false, .hole, 6656, 3072, ⟨[], ((((((((True ∧ ((decide (((((i + 1) : Nat)) : Int) < (((n : Nat)) : Int))) = true)) ∧ ((((((i + 1) : Nat)) : Int) = (Int.ofNat (i + 1))) ∧ ((i + 1) < n))) ∧ (((0 + ((i + 1) * 2)) = (((i + 1) * 2) + 0)) ∧ ((i + 1) < n))) ∧ ((Bg (1048576 : Int) (g (i + 1) 0) (g (i + 1) 1)) ∧ (((- (9223372036854775808 : Int)) ≤ (IntKind.i64.wrap ((0 : Int) - (IntKind.i64.wrap (s * ((((i + 1) : Nat)) : Int)))))) ∧ ((IntKind.i64.wrap ((0 : Int) - (IntKind.i64.wrap (s * ((((i + 1) : Nat)) : Int))))) ≤ (9223372036854775807 : Int))))) ∧ True) ∧ ((((Pl.lim (((Pl.turn ((g (i + 1) 0), (g (i + 1) 1)) (IntKind.i64.wrap ((0 : Int) - (IntKind.i64.wrap (s * ((((i + 1) : Nat)) : Int))))))).1, ((Pl.turn ((g (i + 1) 0), (g (i + 1) 1)) (IntKind.i64.wrap ((0 : Int) - (IntKind.i64.wrap (s * ((((i + 1) : Nat)) : Int))))))).2))).2 != (0 : Int)) = false)) ∧ (((i + 1) = (i + 1)) ∧ (((i + 1) = (i + 1)) ∧ ((((i + 1) + 1) * 16) ≤ (140737488355328 : Nat))))) ∧ (((.int .i64 (IntKind.i64.wrap (((((i + 1) : Nat)) : Int) + (1 : Int)))) : Value) = (.int .i64 (((((i + 1) + 1) : Nat)) : Int))))⟩) := by kernel_rfl
theorem rgB0_eq : seenH 10 0 48 (rgB0 n c g e opn sz ro s) = some (.ret, rgB (rgT g s 0).2, 512, 1024, ⟨[], ((((((True ∧ ((decide ((((0 : Nat)) : Int) < (((n : Nat)) : Int))) = true)) ∧ (((((0 : Nat)) : Int) = (Int.ofNat (0 : Nat))) ∧ ((0 : Nat) < n))) ∧ ((0 = 0) ∧ ((0 : Nat) < n))) ∧ ((Bg (1048576 : Int) (g 0 0) (g 0 1)) ∧ (((- (9223372036854775808 : Int)) ≤ (IntKind.i64.wrap ((0 : Int) - (IntKind.i64.wrap (s * (((0 : Nat)) : Int)))))) ∧ ((IntKind.i64.wrap ((0 : Int) - (IntKind.i64.wrap (s * (((0 : Nat)) : Int))))) ≤ (9223372036854775807 : Int))))) ∧ True) ∧ ((((Pl.lim (((Pl.turn ((g 0 0), (g 0 1)) (IntKind.i64.wrap ((0 : Int) - (IntKind.i64.wrap (s * (((0 : Nat)) : Int))))))).1, ((Pl.turn ((g 0 0), (g 0 1)) (IntKind.i64.wrap ((0 : Int) - (IntKind.i64.wrap (s * (((0 : Nat)) : Int))))))).2))).2 != (0 : Int)) = true))⟩) := by kernel_rfl
theorem rgB1_eq : seenH 10 0 48 (rgB1 n c g e opn sz ro s i) = some (.ret, rgB (rgT g s (i + 1)).2, 512, 2048, ⟨[], ((((((True ∧ ((decide (((((i + 1) : Nat)) : Int) < (((n : Nat)) : Int))) = true)) ∧ ((((((i + 1) : Nat)) : Int) = (Int.ofNat (i + 1))) ∧ ((i + 1) < n))) ∧ (((0 + ((i + 1) * 2)) = (((i + 1) * 2) + 0)) ∧ ((i + 1) < n))) ∧ ((Bg (1048576 : Int) (g (i + 1) 0) (g (i + 1) 1)) ∧ (((- (9223372036854775808 : Int)) ≤ (IntKind.i64.wrap ((0 : Int) - (IntKind.i64.wrap (s * ((((i + 1) : Nat)) : Int)))))) ∧ ((IntKind.i64.wrap ((0 : Int) - (IntKind.i64.wrap (s * ((((i + 1) : Nat)) : Int))))) ≤ (9223372036854775807 : Int))))) ∧ True) ∧ ((((Pl.lim (((Pl.turn ((g (i + 1) 0), (g (i + 1) 1)) (IntKind.i64.wrap ((0 : Int) - (IntKind.i64.wrap (s * ((((i + 1) : Nat)) : Int))))))).1, ((Pl.turn ((g (i + 1) 0), (g (i + 1) 1)) (IntKind.i64.wrap ((0 : Int) - (IntKind.i64.wrap (s * ((((i + 1) : Nat)) : Int))))))).2))).2 != (0 : Int)) = true))⟩) := by kernel_rfl
theorem rgN0_eq : seenH 10 0 64 (rgN0 n c g e opn sz ro s) = some (.exit 0, rgE0, 0, 0, ⟨[], (True ∧ ((decide ((((0 : Nat)) : Int) < (((n : Nat)) : Int))) = false))⟩) := by kernel_rfl
theorem rgN1_eq : seenH 10 10 64 (rgN1 n c g e opn sz ro s i) = some (.exit 0, rgE1 i, 0, 0, ⟨[], (True ∧ ((decide (((((i + 1) : Nat)) : Int) < (((n : Nat)) : Int))) = false))⟩) := by kernel_rfl
theorem rgA_ok : okA 10 10 (rgA0 n c s) 37 = true := by kernel_rfl
end
theorem rgO_keep (B : Nat) (g : Nat → Nat → Int) (s : Int) (i : Nat) : keepO (below B) (rgO g s i) := fill_keep rfl (fun a => rfl)
theorem rgQ_in (s : Int) (i : Nat) : -9223372036854775808 ≤ rgQ s i ∧ rgQ s i ≤ 9223372036854775807 := by
  unfold rgQ
  generalize 0 - IntKind.i64.wrap (s * (i : Int)) = x
  rw [IntKind.wrap_i64]; omega
section
variable {n : Nat} (c : Nat) (g : Nat → Nat → Int) (e : TypeId) (opn : Bool) (sz : Nat) (ro : Bool) (s : Int)
theorem rg_grow (hn : n ≤ 256) {i : Nat} (hi : i < n) (hg : Bg 1048576 (g i 0) (g i 1)) (h0 : (rgT g s i).2 = 0) : Grow Tryz.prog 9 [rowI 2 n g e opn sz ro] rgX (rgO g s) (rgA n c s) 512 i := by
  cases i with
  | zero =>
    refine grow_way0 (r := 12) (m := 195) (l := [rowI 2 n g e opn sz ro]) smx rgK_ok rfl rfl rfl (rgR0_eq n c g e opn sz ro s) ?_ (by show 10 ≤ 12; decide) (fun f => ?_) (by exact (by decide : ∀ b, b < 10 → Nat.testBit 1024 b = false ∧ (Nat.testBit 3584 b = true → Nat.testBit 512 b = true)))
    · repeat' apply And.intro
      all_goals first | trivial | rfl | exact decide_eq_true (by omega) | omega | exact hg | exact hg.1 | exact hg.2.1 | exact hg.2.2.1 | exact hg.2.2.2 | exact bne_eq_false_iff_eq.2 h0 | exact wnextV hi (by omega) | exact (rgQ_in s 0).1 | exact (rgQ_in s 0).2
    · exact wo_rows (congrArg (fun l => MObj.cells l _ _ _ _) (show rgW g s 0 = rowsL 1 2 (fillG [] (rgW g s) 1) from rfl)) (fun i j hi hj => by
        have : i = 0 := by omega
        subst this
        match j, hj with
        | 0, _ => rfl
        | 1, _ => rfl)
  | succ i =>
    have h := rgR1_eq n c g e opn sz ro s i
    rw [fill_push (w := rgW g s) (k := 2) (i := i + 1) rfl (by decide)] at h
    refine grow_way (r := 13) (m := 195) (l := [rowI 2 n g e opn sz ro]) smx rgK_ok rfl rfl rfl h ?_ (by show 10 + 1 ≤ 13; decide) (fun f => keep_wo (N := fun _ => false) (fun b hb => by cases hb) (fill_keep rfl (fun a => rfl))) (by exact (by decide : ∀ b, b < 10 → Nat.testBit 3072 b = false ∧ (Nat.testBit 6656 b = true → Nat.testBit 512 b = true))) (fun _ => ⟨by show Nat.testBit 3072 10 = true; decide, rfl⟩)
    repeat' apply And.intro
    all_goals first | trivial | rfl | exact decide_eq_true (by omega) | omega | exact hg | exact hg.1 | exact hg.2.1 | exact hg.2.2.1 | exact hg.2.2.2 | exact bne_eq_false_iff_eq.2 h0 | exact wnextV hi (by omega) | exact (rgQ_in s (i + 1)).1 | exact (rgQ_in s (i + 1)).2
theorem rg_bad (hn : n ≤ 256) {i : Nat} (hi : i < n) (hg : Bg 1048576 (g i 0) (g i 1)) (h0 : (rgT g s i).2 ≠ 0) : Last Tryz.prog 9 [rowI 2 n g e opn sz ro] rgX (rgO g s) (rgA n c s) 512 i .ret (rgB (rgT g s i).2) false := by
  cases i with
  | zero =>
    refine last_way (k := 0) (m := 48) (l := [rowI 2 n g e opn sz ro]) smx rgK_ok rfl rfl (rgB0_eq n c g e opn sz ro s) ?_ (by exact (by decide : ∀ b, b < 10 → Nat.testBit 1024 b = false ∧ (Nat.testBit 512 b = true → Nat.testBit 512 b = true))) (fun h => absurd h (by decide)) (.inl (by show 0 < 10; decide))
    repeat' apply And.intro
    all_goals first | trivial | rfl | exact decide_eq_true (by omega) | omega | exact hg | exact hg.1 | exact hg.2.1 | exact hg.2.2.1 | exact hg.2.2.2 | exact bne_iff_ne.2 h0 | exact (rgQ_in s 0).1 | exact (rgQ_in s 0).2
  | succ i =>
    refine last_way (k := 0) (m := 48) (l := [rowI 2 n g e opn sz ro]) smx rgK_ok rfl rfl (rgB1_eq n c g e opn sz ro s i) ?_ (by exact (by decide : ∀ b, b < 10 → Nat.testBit 2048 b = false ∧ (Nat.testBit 512 b = true → Nat.testBit 512 b = true))) (fun _ => by show Nat.testBit 2048 10 = false; decide) (.inl (by show 0 < 10; decide))
    repeat' apply And.intro
    all_goals first | trivial | rfl | exact decide_eq_true (by omega) | omega | exact hg | exact hg.1 | exact hg.2.1 | exact hg.2.2.1 | exact hg.2.2.2 | exact bne_iff_ne.2 h0 | exact (rgQ_in s (i + 1)).1 | exact (rgQ_in s (i + 1)).2
theorem rg_end : Last Tryz.prog 9 [rowI 2 n g e opn sz ro] rgX (rgO g s) (rgA n c s) 512 n (.exit 0) (rgE n) true := by
  cases n with
  | zero => exact last_way (k := 0) (m := 64) (l := [rowI 2 0 g e opn sz ro]) smx rgK_ok rfl rfl (rgN0_eq 0 c g e opn sz ro s) ⟨trivial, decide_eq_false (by omega)⟩ (by exact (by decide : ∀ b, b < 10 → Nat.testBit 0 b = false ∧ (Nat.testBit 0 b = true → Nat.testBit 512 b = true))) (fun _ => by simp) (.inl (by show 0 < 10; decide))
  | succ i => exact last_way (k := 10) (m := 64) (l := [rowI 2 (i + 1) g e opn sz ro]) smx rgK_ok rfl rfl (rgN1_eq (i + 1) c g e opn sz ro s i) ⟨trivial, decide_eq_false (by omega)⟩ (by exact (by decide : ∀ b, b < 10 → Nat.testBit 0 b = false ∧ (Nat.testBit 0 b = true → Nat.testBit 512 b = true))) (fun _ => by simp) (.inr ⟨rfl, by omega, rfl⟩)
theorem rg_loops (hn : n ≤ 256) (hg : ∀ i, i < n → Bg 1048576 (g i 0) (g i 1)) :
    (feN (fun i => (rgT g s i).2) n 0 = 0 ∧ SndC Tryz.prog none (.loop rgX) (rgA0 n c s).act (wS 9 [rowI 2 n g e opn sz ro]) (.exit 0) (rgE n).act (wS 9 ([rowI 2 n g e opn sz ro] ++ cur (rgO g s) n)) 512 0) ∨
    (∃ j, feN (fun i => (rgT g s i).2) n 0 = (rgT g s j).2 ∧ (rgT g s j).2 ≠ 0 ∧ SndC Tryz.prog none (.loop rgX) (rgA0 n c s).act (wS 9 [rowI 2 n g e opn sz ro]) .ret (rgB (rgT g s j).2).act (wS 9 [rowI 2 n g e opn sz ro]) 512 0) := by
  rcases grow_loop (c := rgX) (l := [rowI 2 n g e opn sz ro]) (A := rgA n c s) (A1 := fun i => rgB (rgT g s i).2) (X := rgO g s) (good := fun i => (rgT g s i).2 = 0) (fun i => Decidable.em _) sng rowI_keep1 (fun i hi => ⟨rgO_keep _ g s i, fun h => (by cases h), rfl⟩) rfl (rgA_ok n c s) (fun i hi h0 => rg_grow c g e opn sz ro s hn hi (hg i hi) h0) (fun i hi h0 => rg_bad c g e opn sz ro s hn hi (hg i hi) h0) (rg_end c g e opn sz ro s) (by simp) (by simp) with ⟨h1, h2⟩ | ⟨j, hj, h1, h3, h2⟩
  · exact .inl ⟨feN_all fun k _ hk => h1 k (by omega), h2⟩
  · exact .inr ⟨j, feN_first (Nat.zero_le j) (by omega) (fun k _ hk => h1 k hk) h3, h3, h2⟩
end
section
variable (n c : Nat) (g : Nat → Nat → Int) (e : TypeId) (opn : Bool) (sz : Nat) (ro : Bool) (s r : Int) (i : Nat)
theorem rgF_reteq : rgF_ret n c g e opn sz ro s r = some ((.tuple #[(.slice none (0 : Nat) (0 : Nat)), (.int .i64 r)]), (wS 9 [rowI 2 n g e opn sz ro]), 512, 0, ⟨[], (True ∧ ((((rgA0 n c s) = (rgA0 n c s)) ∧ ((10 = (9 + 1)) ∧ ((HAppend.hAppend (List.replicate (9 : Nat) MObj.hole) ((rowI (2 : Nat) n g e opn sz ro) :: [])) = (HAppend.hAppend (List.replicate (9 : Nat) MObj.hole) ((rowI (2 : Nat) n g e opn sz ro) :: []))))) ∧ SndC Tryz.prog none (.loop rgX) (rgA0 n c s).act (wS 9 [rowI 2 n g e opn sz ro]) .ret (rgB r).act (wS 9 [rowI 2 n g e opn sz ro]) 512 0))⟩) := by kernel_rfl
theorem rgF_e1eq : rgF_e1 n c g e opn sz ro s i = some ((.tuple #[(.slice (some ⟨10, 0, none⟩) (i + 1) (i + 1)), (.int .i64 (0 : Int))]), wS 9 [rowI 2 n g e opn sz ro, rgO g s (i + 1)], 512, 0, ⟨[], (True ∧ ((((rgA0 n c s) = (rgA0 n c s)) ∧ ((10 = (9 + 1)) ∧ ((HAppend.hAppend (List.replicate (9 : Nat) MObj.hole) ((rowI (2 : Nat) n g e opn sz ro) :: [])) = (HAppend.hAppend (List.replicate (9 : Nat) MObj.hole) ((rowI (2 : Nat) n g e opn sz ro) :: []))))) ∧ SndC Tryz.prog none (.loop rgX) (rgA0 n c s).act (wS 9 [rowI 2 n g e opn sz ro]) (.exit 0) (rgE1 i).act (wS 9 [rowI 2 n g e opn sz ro, rgO g s (i + 1)]) 512 0))⟩) := by kernel_rfl
end
/-- The error of the reference's Framed. -/
def rgErr (n : Nat) (g : Nat → Nat → Int) (s : Int) : Int := feN (fun i => (rgT g s i).2) n 0
def rgI (g : Nat → Nat → Int) (s : Int) (i j : Nat) : Int := match j with
  | 0 => (rgT g s i).1.1
  | _ => (rgT g s i).1.2
theorem rg_err {n : Nat} (c : Nat) (g : Nat → Nat → Int) (e : TypeId) (opn : Bool) (sz : Nat) (ro : Bool) (s : Int) (hn : n ≤ 256) (hg : ∀ i, i < n → Bg 1048576 (g i 0) (g i 1)) (hE : rgErr n g s ≠ 0) : SndF Tryz.prog 14 (rgArgs n c s) (wS 9 [rowI 2 n g e opn sz ro]) (.tuple #[.slice none 0 0, .int .i64 (rgErr n g s)]) (wS 9 [rowI 2 n g e opn sz ro]) 512 0 := by
  rcases rg_loops c g e opn sz ro s hn hg with ⟨h1, h2⟩ | ⟨j, h1, h3, h2⟩
  · exact absurd h1 hE
  · rw [show rgErr n g s = (rgT g s j).2 from h1]
    exact (evFS_ok smx rgK_ok 1000 _ _ _ _ _ _ _ _ _ (show evFS _ _ _ _ _ _ _ = _ from rgF_reteq n c g e opn sz ro s (rgT g s j).2)).2 ⟨trivial, ⟨rfl, rfl, rfl⟩, h2⟩
theorem rg_yes {n : Nat} (c : Nat) (g : Nat → Nat → Int) (e : TypeId) (opn : Bool) (sz : Nat) (ro : Bool) (s : Int) (h0 : 0 < n) (hn : n ≤ 256) (hg : ∀ i, i < n → Bg 1048576 (g i 0) (g i 1)) (hE : rgErr n g s = 0) : SndF Tryz.prog 14 (rgArgs n c s) (wS 9 [rowI 2 n g e opn sz ro]) (.tuple #[.slice (some ⟨10, 0, none⟩) n n, .int .i64 0]) (wS 9 [rowI 2 n g e opn sz ro, rgO g s n]) 512 0 := by
  rcases rg_loops c g e opn sz ro s hn hg with ⟨h1, h2⟩ | ⟨j, h1, h3, h2⟩
  · obtain ⟨i, rfl⟩ : ∃ i, n = i + 1 := ⟨n - 1, by omega⟩
    exact (evFS_ok smx rgK_ok 1000 _ _ _ _ _ _ _ _ _ (show evFS _ _ _ _ _ _ _ = _ from rgF_e1eq (i + 1) c g e opn sz ro s i)).2 ⟨trivial, ⟨rfl, rfl, rfl⟩, h2⟩
  · exact absurd (h1.symm.trans hE) h3
/-! ### Known to the reckoner -/
def kRFrm : CallS := fun f xs s q => match decide (f = 14) with
  | true => match xs.toList with
    | [.slice (some ⟨b, 0, none⟩) n c, .int .i64 k] => match Nat.ble 9 b, rowK 2 .i64 s b n, q.rest with
      | true, some (g, _, _, _, _, p), .n d :: rest => match (d == 1) with
        | true => some (.tuple #[.slice (some ⟨s.next, 0, none⟩) n n, .int .i64 0], s.push (rowI 2 n (rgI g k) 40 true 2 false), 2 ^ b, 0, ⟨rest, q.ob ∧ (p ∧ 0 < n ∧ n ≤ 256 ∧ (∀ i, i < n → Bg 1048576 (g i 0) (g i 1)) ∧ rgErr n g k = 0)⟩)
        | false => some (.tuple #[.slice none 0 0, .int .i64 (rgErr n g k)], s, 2 ^ b, 0, ⟨rest, q.ob ∧ (p ∧ n ≤ 256 ∧ (∀ i, i < n → Bg 1048576 (g i 0) (g i 1)) ∧ rgErr n g k ≠ 0)⟩)
      | _, _, _ => none
    | _ => none
  | false => none
theorem kRFrm_ok : FOkS Tryz.prog kRFrm := fun f xs s q u s1 R W q1 he => by
  unfold kRFrm at he
  split at he
  · rename_i hf
    have hf := of_decide_eq_true hf
    subst hf
    split at he
    · rename_i b n c k hx
      have hxs : xs = #[.slice (some ⟨b, 0, none⟩) n c, .int .i64 k] := by apply Array.ext'; exact hx
      subst hxs
      split at he
      · rename_i g e opn sz ro p d rest hb hr hq0
        have hb := Nat.le_of_ble_eq_true hb
        split at he
        · cases he
          refine ⟨fun hq => hq.1, fun hq => ?_⟩
          obtain ⟨hp, h0, hn, hg, hE⟩ := hq.2
          obtain ⟨l1, w1⟩ := rowK_wo hr hp
          refine SndF.rowsNew (N := 9) (bs := [b]) (s0 := wS 9 [rowI 2 n g e opn sz ro]) (o1 := rgO g k n) sng (rg_yes c g e opn sz ro k h0 hn hg hE) rfl (fun x hx => ?_) (by simp) (by omega) (fun x hx _ => ?_) (fun x hx => ?_) (fun f j hj => ?_) (fun f _ hf => wvs_two (slice_wv (hf 0 (by simp))) (ground_wv (n := 8) rfl)) (fun f _ hf hn => ⟨wv_tuple (wvs_two (slice_wv hn) (ground_wv (n := 8) rfl)), wo_rows (congrArg (fun l => MObj.cells l _ _ _ _) (rowsL_congr fun i j hi hj => by
            unfold fillG
            rw [if_pos hi]
            match j, hj with
            | 0, _ => rfl
            | 1, _ => rfl)) fun i j _ _ => rfl⟩)
          · simp at hx; subst hx; omega
          · rcases Nat.lt_or_ge x 9 with k | k
            · have hz := (by decide : ∀ b, b < 9 → Nat.testBit 512 b = false) x k
              rw [hz] at hx; cases hx
            · exact k
          · simp at hx; subst hx; exact bit_self _
          · match j, hj with
            | 0, _ => exact w1 f
        · cases he
          refine ⟨fun hq => hq.1, fun hq => ?_⟩
          obtain ⟨hp, hn, hg, hE⟩ := hq.2
          obtain ⟨l1, w1⟩ := rowK_wo hr hp
          exact SndF.row (N := 9) sng (rg_err c g e opn sz ro k hn hg hE) rfl hb l1 w1 (fun f _ hf => wvs_two (slice_wv hf) (ground_wv (n := 8) rfl))
      · cases he
    · cases he
  · cases he
end Go.Proofs.YtffllmdjpeigbaaGreatDoor
end
section
set_option linter.all false
set_option maxRecDepth 1000000
open Go.RowKit
namespace Go.Proofs.YtffllmdjpeigbaaGreatDoor
open Mini
def rfC (v : Int → Int → Int) : Con := ⟨71, [.agg [.i64, .i64]], fun ns => match ns with | [a, b] => .int .i64 (v a b) | _ => .bool true, fun _ => True⟩
noncomputable def rfX : Code := loopOf Tryz.prog 12
def rfA (n c i : Nat) (r : Int) : MA := MA.ofL 22 [.slice (some ⟨9, 0, none⟩) n c, .chan none, .int .i64 r, .int .i64 (i : Int), .chan none, .chan none, .chan none, .chan none, .chan none, .chan none, .chan none, .chan none, .chan none, .chan none, .chan none, .chan none, .chan none, .chan none, .chan none, .chan none, .chan none, .chan none] []
def rfArgs (n c : Nat) : Array Value := #[.slice (some ⟨9, 0, none⟩) n c]
noncomputable def rfR (v : Int → Int → Int) (n c : Nat) (g : Nat → Nat → Int) (e : TypeId) (opn : Bool) (sz : Nat) (ro : Bool) (i : Nat) : Option OutCS := evCRS Tryz.prog (kOf (rfC v)) 1000 none false rfX (rfA n c i 0) (wS 9 [rowI 2 n g e opn sz ro]) ⟨[1, .row i 0, .row i 0, 0, .azz (.int .i64 ((i + 1 : Nat) : Int))], True⟩
noncomputable def rfB (v : Int → Int → Int) (n c : Nat) (g : Nat → Nat → Int) (e : TypeId) (opn : Bool) (sz : Nat) (ro : Bool) (i : Nat) : Option OutCS := evCRS Tryz.prog (kOf (rfC v)) 1000 none false rfX (rfA n c i 0) (wS 9 [rowI 2 n g e opn sz ro]) ⟨[1, .row i 0, .row i 0, 1], True⟩
noncomputable def rfE (v : Int → Int → Int) (n c : Nat) (g : Nat → Nat → Int) (e : TypeId) (opn : Bool) (sz : Nat) (ro : Bool) (i : Nat) : Option OutCS := evCRS Tryz.prog (kOf (rfC v)) 1000 none false rfX (rfA n c i 0) (wS 9 [rowI 2 n g e opn sz ro]) ⟨[0], True⟩
noncomputable def rfF_many (v : Int → Int → Int) (n c : Nat) (g : Nat → Nat → Int) (e : TypeId) (opn : Bool) (sz : Nat) (ro : Bool) : Option OutS := evFS Tryz.prog (kOf (rfC v)) 1000 12 (rfArgs n c) (wS 9 [rowI 2 n g e opn sz ro]) ⟨[1], True⟩
noncomputable def rfF_ret (v : Int → Int → Int) (n c : Nat) (g : Nat → Nat → Int) (e : TypeId) (opn : Bool) (sz : Nat) (ro : Bool) (i : Nat) (r : Int) : Option OutS := evFS Tryz.prog (kOf (rfC v)) 1000 12 (rfArgs n c) (wS 9 [rowI 2 n g e opn sz ro]) ⟨[0, .lp 13 (rfA n c 0 0) 9 [rowI 2 n g e opn sz ro] .ret (rfA n c i r) [rowI 2 n g e opn sz ro] 512 0], True⟩
noncomputable def rfF_end (v : Int → Int → Int) (n c : Nat) (g : Nat → Nat → Int) (e : TypeId) (opn : Bool) (sz : Nat) (ro : Bool) (i : Nat) (r : Int) : Option OutS := evFS Tryz.prog (kOf (rfC v)) 1000 12 (rfArgs n c) (wS 9 [rowI 2 n g e opn sz ro]) ⟨[0, .lp 13 (rfA n c 0 0) 9 [rowI 2 n g e opn sz ro] (.exit 0) (rfA n c i r) [rowI 2 n g e opn sz ro] 512 0], True⟩
section
variable (v : Int → Int → Int) (n c : Nat) (g : Nat → Nat → Int) (e : TypeId) (opn : Bool) (sz : Nat) (ro : Bool) (i : Nat) (r : Int)
theorem rfR_eq : seenF 9 1 13 (rfR v n c g e opn sz ro i) = some (.normal, rfA n c (i + 1) 0, [rowI 2 n g e opn sz ro], 512, 0, ⟨[], ((((((True ∧ ((decide ((((i : Nat)) : Int) < (((n : Nat)) : Int))) = true)) ∧ (((((i : Nat)) : Int) = (Int.ofNat i)) ∧ (i < n))) ∧ (((0 + (i * 2)) = ((i * 2) + 0)) ∧ (i < n))) ∧ True) ∧ (((v (g i 0) (g i 1)) != (0 : Int)) = false)) ∧ (((.int .i64 (IntKind.i64.wrap ((((i : Nat)) : Int) + (1 : Int)))) : Value) = (.int .i64 ((((i + 1) : Nat)) : Int))))⟩) := by kernel_rfl
theorem rfB_eq : seenF 9 1 13 (rfB v n c g e opn sz ro i) = some (.ret, rfA n c i (v (g i 0) (g i 1)), [rowI 2 n g e opn sz ro], 512, 0, ⟨[], (((((True ∧ ((decide ((((i : Nat)) : Int) < (((n : Nat)) : Int))) = true)) ∧ (((((i : Nat)) : Int) = (Int.ofNat i)) ∧ (i < n))) ∧ (((0 + (i * 2)) = ((i * 2) + 0)) ∧ (i < n))) ∧ True) ∧ (((v (g i 0) (g i 1)) != (0 : Int)) = true))⟩) := by kernel_rfl
theorem rfE_eq : seenF 9 1 13 (rfE v n c g e opn sz ro i) = some ((.exit (0 : Nat)), rfA n c i 0, [rowI 2 n g e opn sz ro], 0, 0, ⟨[], (True ∧ ((decide ((((i : Nat)) : Int) < (((n : Nat)) : Int))) = false))⟩) := by kernel_rfl
theorem rfA_keep : allKeep (9 + 1) (rfA n c i r) 22 = true := by kernel_rfl
theorem rfF_manyeq : rfF_many v n c g e opn sz ro = some ((.int .i64 (5 : Int)), (wS 9 [rowI 2 n g e opn sz ro]), 0, 0, ⟨[], (True ∧ ((decide ((((n : Nat)) : Int) > (256 : Int))) = true))⟩) := by kernel_rfl
theorem rfF_reteq : rfF_ret v n c g e opn sz ro i r = some ((.int .i64 r), (wS 9 [rowI 2 n g e opn sz ro]), 512, 0, ⟨[], ((True ∧ ((decide ((((n : Nat)) : Int) > (256 : Int))) = false)) ∧ ((((rfA n c (0 : Nat) (0 : Int)) = (rfA n c (0 : Nat) (0 : Int))) ∧ ((10 = (9 + 1)) ∧ ((HAppend.hAppend (List.replicate (9 : Nat) MObj.hole) ((rowI (2 : Nat) n g e opn sz ro) :: [])) = (HAppend.hAppend (List.replicate (9 : Nat) MObj.hole) ((rowI (2 : Nat) n g e opn sz ro) :: []))))) ∧ SndC Tryz.prog none (.loop rfX) (rfA n c 0 0).act (wS 9 [rowI 2 n g e opn sz ro]) .ret (rfA n c i r).act (wS 9 [rowI 2 n g e opn sz ro]) 512 0))⟩) := by kernel_rfl
theorem rfF_endeq : rfF_end v n c g e opn sz ro i r = some ((.int .i64 (0 : Int)), (wS 9 [rowI 2 n g e opn sz ro]), 512, 0, ⟨[], ((True ∧ ((decide ((((n : Nat)) : Int) > (256 : Int))) = false)) ∧ ((((rfA n c (0 : Nat) (0 : Int)) = (rfA n c (0 : Nat) (0 : Int))) ∧ ((10 = (9 + 1)) ∧ ((HAppend.hAppend (List.replicate (9 : Nat) MObj.hole) ((rowI (2 : Nat) n g e opn sz ro) :: [])) = (HAppend.hAppend (List.replicate (9 : Nat) MObj.hole) ((rowI (2 : Nat) n g e opn sz ro) :: []))))) ∧ SndC Tryz.prog none (.loop rfX) (rfA n c 0 0).act (wS 9 [rowI 2 n g e opn sz ro]) (.exit 0) (rfA n c i r).act (wS 9 [rowI 2 n g e opn sz ro]) 512 0))⟩) := by kernel_rfl
variable {v n i} (hc : ConOk Tryz.prog (rfC v))
include hc
theorem rf_go (hn : (n : Int) ≤ 9223372036854775807) (hi : i < n) (h0 : v (g i 0) (g i 1) = 0) : SndC Tryz.prog none rfX (rfA n c i 0).act (wS 9 [rowI 2 n g e opn sz ro]) .normal (rfA n c (i + 1) 0).act (wS 9 [rowI 2 n g e opn sz ro]) 512 0 :=
  wayF_ok0 smx (kOf_ok hc) sng (rfR_eq v n c g e opn sz ro i) ⟨⟨⟨⟨⟨⟨trivial, decide_eq_true (by omega)⟩, rfl, hi⟩, (by omega), hi⟩, trivial⟩, (by rw [h0]; rfl)⟩, wnextV hi hn⟩ rfl (rfA_keep n c i 0) rowI_keep1 rowI_keep1 (by exact (by decide : ∀ b, b < 10 → Nat.testBit 0 b = false)) (by exact (by decide : ∀ b, b < 10 → Nat.testBit 512 b = true → Nat.testBit 512 b = true))
theorem rf_bad (hi : i < n) (h0 : v (g i 0) (g i 1) ≠ 0) : SndC Tryz.prog none rfX (rfA n c i 0).act (wS 9 [rowI 2 n g e opn sz ro]) .ret (rfA n c i (v (g i 0) (g i 1))).act (wS 9 [rowI 2 n g e opn sz ro]) 512 0 :=
  wayF_ok0 smx (kOf_ok hc) sng (rfB_eq v n c g e opn sz ro i) ⟨⟨⟨⟨⟨trivial, decide_eq_true (by omega)⟩, rfl, hi⟩, (by omega), hi⟩, trivial⟩, (by simpa using h0)⟩ rfl (rfA_keep n c i 0) rowI_keep1 rowI_keep1 (by exact (by decide : ∀ b, b < 10 → Nat.testBit 0 b = false)) (by exact (by decide : ∀ b, b < 10 → Nat.testBit 512 b = true → Nat.testBit 512 b = true))
theorem rf_end (hi : ¬ i < n) : SndC Tryz.prog none rfX (rfA n c i 0).act (wS 9 [rowI 2 n g e opn sz ro]) (.exit 0) (rfA n c i 0).act (wS 9 [rowI 2 n g e opn sz ro]) 512 0 :=
  wayF_ok0 smx (kOf_ok hc) sng (rfE_eq v n c g e opn sz ro i) ⟨trivial, decide_eq_false (by omega)⟩ rfl (rfA_keep n c i 0) rowI_keep1 rowI_keep1 (by exact (by decide : ∀ b, b < 10 → Nat.testBit 0 b = false)) (by exact (by decide : ∀ b, b < 10 → Nat.testBit 0 b = true → Nat.testBit 512 b = true))
end
theorem rf_sndF {v : Int → Int → Int} {n : Nat} (c : Nat) (g : Nat → Nat → Int) (e : TypeId) (opn : Bool) (sz : Nat) (ro : Bool) (hc : ConOk Tryz.prog (rfC v)) (hn : (n : Int) ≤ 9223372036854775807) :
    SndF Tryz.prog 12 (rfArgs n c) (wS 9 [rowI 2 n g e opn sz ro]) (.int .i64 (if 256 < n then 5 else feN (fun i => v (g i 0) (g i 1)) n 0)) (wS 9 [rowI 2 n g e opn sz ro]) 512 0 := by
  by_cases hm : 256 < n
  · rw [if_pos hm]
    exact ((evFS_ok smx (kOf_ok hc) 1000 _ _ _ _ _ _ _ _ _ (show evFS _ _ _ _ _ _ _ = _ from rfF_manyeq v n c g e opn sz ro)).2 ⟨trivial, decide_eq_true (by omega)⟩).mask (fun b _ hb => by simp at hb) (fun b _ => rfl)
  rw [if_neg hm]
  rcases loop_split (A := fun i => (rfA n c i 0).act) (S := fun _ => (wS 9 [rowI 2 n g e opn sz ro])) (A1 := fun i => (rfA n c i (v (g i 0) (g i 1))).act) (S1 := fun _ => (wS 9 [rowI 2 n g e opn sz ro])) (good := fun i => v (g i 0) (g i 1) = 0) (fun i => Decidable.em _) n
    (fun i hi h0 => rf_go c g e opn sz ro hc hn hi h0) (fun i hi h0 => rf_bad c g e opn sz ro hc hi h0) (rf_end c g e opn sz ro hc (Nat.lt_irrefl n)) (by simp) (by simp) with ⟨h1, h2⟩ | ⟨j, hj, h1, h3, h2⟩
  · rw [feN_all fun k _ hk => h1 k (by omega)]
    exact (evFS_ok smx (kOf_ok hc) 1000 _ _ _ _ _ _ _ _ _ (show evFS _ _ _ _ _ _ _ = _ from rfF_endeq v n c g e opn sz ro n 0)).2 ⟨⟨trivial, decide_eq_false (by omega)⟩, ⟨rfl, rfl, rfl⟩, h2⟩
  · rw [feN_first (Nat.zero_le j) (by omega) (fun k _ hk => h1 k hk) h3]
    exact (evFS_ok smx (kOf_ok hc) 1000 _ _ _ _ _ _ _ _ _ (show evFS _ _ _ _ _ _ _ = _ from rfF_reteq v n c g e opn sz ro j (v (g j 0) (g j 1)))).2 ⟨⟨trivial, decide_eq_false (by omega)⟩, ⟨rfl, rfl, rfl⟩, h2⟩
/-! ### Known to the reckoner -/
def kChkF (v : Int → Int → Int) : CallS := fun f xs s q => match decide (f = 12) with
  | true => match xs.toList with
    | [.slice (some ⟨b, 0, none⟩) n c] => match Nat.ble 9 b, rowK 2 .i64 s b n with
      | true, some (g, _, _, _, _, p) => some (.int .i64 (if 256 < n then 5 else feN (fun i => v (g i 0) (g i 1)) n 0), s, 2 ^ b, 0, ⟨q.rest, q.ob ∧ (p ∧ (n : Int) ≤ 9223372036854775807)⟩)
      | _, _ => none
    | _ => none
  | false => none
theorem kChkF_ok {v : Int → Int → Int} (hc : ConOk Tryz.prog (rfC v)) : FOkS Tryz.prog (kChkF v) := fun f xs s q u s1 R W q1 he => by
  unfold kChkF at he
  split at he
  · rename_i hf
    have hf := of_decide_eq_true hf
    subst hf
    split at he
    · rename_i b n c hx
      split at he
      · rename_i g e opn sz ro p hb hr
        have hb := Nat.le_of_ble_eq_true hb
        have hxs : xs = #[.slice (some ⟨b, 0, none⟩) n c] := by apply Array.ext'; exact hx
        subst hxs
        cases he
        refine ⟨fun hq => hq.1, fun hq => ?_⟩
        obtain ⟨hp, hn⟩ := hq.2
        obtain ⟨l1, w1⟩ := rowK_wo hr hp
        exact SndF.row (N := 9) sng (rf_sndF c g e opn sz ro hc hn) rfl hb l1 w1 (fun f _ hf => wvs_one (slice_wv hf))
      · cases he
    · cases he
  · cases he
end Go.Proofs.YtffllmdjpeigbaaGreatDoor
end
section
set_option linter.all false
set_option maxRecDepth 1000000
open Go.RowKit
namespace Go.Proofs.YtffllmdjpeigbaaGreatDoor
open Mini
noncomputable def seX : Code := loopOf Tryz.prog 15
def seA (n m c d i : Nat) : MA := MA.ofL 26 [.slice (some ⟨9, 0, none⟩) n c, .slice (some ⟨10, 0, none⟩) m d, .chan none, .chan none, .bool false, .int .i64 (i : Int), .chan none, .chan none, .chan none, .chan none, .chan none, .chan none, .chan none, .chan none, .chan none, .chan none, .chan none, .chan none, .chan none, .chan none, .chan none, .chan none, .chan none, .chan none, .chan none, .chan none] []
def seArgs (n m c d : Nat) : Array Value := #[.slice (some ⟨9, 0, none⟩) n c, .slice (some ⟨10, 0, none⟩) m d]
noncomputable def seR (n m c d : Nat) (g h : Nat → Nat → Int) (e e2 : TypeId) (o o2 : Bool) (z z2 : Nat) (r r2 : Bool) (i : Nat) : Option OutCS := evCRS Tryz.prog noXS 1000 none false seX (seA n m c d i) (wS 9 [rowI 2 n g e o z r, rowI 2 m h e2 o2 z2 r2]) ⟨[1, .row i 0, .row i 0, .row i 0, .row i 0, 0, .azz (.int .i64 ((i + 1 : Nat) : Int))], True⟩
noncomputable def seW (n m c d : Nat) (g h : Nat → Nat → Int) (e e2 : TypeId) (o o2 : Bool) (z z2 : Nat) (r r2 : Bool) (i : Nat) : Option OutCS := evCRS Tryz.prog noXS 1000 none false seX (seA n m c d i) (wS 9 [rowI 2 n g e o z r, rowI 2 m h e2 o2 z2 r2]) ⟨[1, .row i 0, .row i 0, .row i 0, .row i 0, 1], True⟩
noncomputable def seE (n m c d : Nat) (g h : Nat → Nat → Int) (e e2 : TypeId) (o o2 : Bool) (z z2 : Nat) (r r2 : Bool) (i : Nat) : Option OutCS := evCRS Tryz.prog noXS 1000 none false seX (seA n m c d i) (wS 9 [rowI 2 n g e o z r, rowI 2 m h e2 o2 z2 r2]) ⟨[0], True⟩
noncomputable def seF_ne (n m c d : Nat) (g h : Nat → Nat → Int) (e e2 : TypeId) (o o2 : Bool) (z z2 : Nat) (r r2 : Bool) : Option OutS := evFS Tryz.prog noXS 1000 15 (seArgs n m c d) (wS 9 [rowI 2 n g e o z r, rowI 2 m h e2 o2 z2 r2]) ⟨[1], True⟩
noncomputable def seF_ret (n m c d : Nat) (g h : Nat → Nat → Int) (e e2 : TypeId) (o o2 : Bool) (z z2 : Nat) (r r2 : Bool) (i : Nat) : Option OutS := evFS Tryz.prog noXS 1000 15 (seArgs n m c d) (wS 9 [rowI 2 n g e o z r, rowI 2 m h e2 o2 z2 r2]) ⟨[0, .lp 51 (seA n m c d 0) 9 [rowI 2 n g e o z r, rowI 2 m h e2 o2 z2 r2] .ret (seA n m c d i) [rowI 2 n g e o z r, rowI 2 m h e2 o2 z2 r2] 1536 0], True⟩
noncomputable def seF_end (n m c d : Nat) (g h : Nat → Nat → Int) (e e2 : TypeId) (o o2 : Bool) (z z2 : Nat) (r r2 : Bool) (i : Nat) : Option OutS := evFS Tryz.prog noXS 1000 15 (seArgs n m c d) (wS 9 [rowI 2 n g e o z r, rowI 2 m h e2 o2 z2 r2]) ⟨[0, .lp 51 (seA n m c d 0) 9 [rowI 2 n g e o z r, rowI 2 m h e2 o2 z2 r2] (.exit 0) (seA n m c d i) [rowI 2 n g e o z r, rowI 2 m h e2 o2 z2 r2] 1536 0], True⟩
section
variable (n m c d : Nat) (g h : Nat → Nat → Int) (e e2 : TypeId) (o o2 : Bool) (z z2 : Nat) (r r2 : Bool) (i : Nat)
theorem seR_eq : seenF 9 2 51 (seR n m c d g h e e2 o o2 z z2 r r2 i) = some (.normal, seA n m c d (i + 1), [rowI 2 n g e o z r, rowI 2 m h e2 o2 z2 r2], 1536, 0, ⟨[], (((((((True ∧ ((decide ((((i : Nat)) : Int) < (((n : Nat)) : Int))) = true)) ∧ (((((i : Nat)) : Int) = (Int.ofNat i)) ∧ (i < n))) ∧ (((0 + (i * 2)) = ((i * 2) + 0)) ∧ (i < n))) ∧ (((((i : Nat)) : Int) = (Int.ofNat i)) ∧ (i < m))) ∧ (((0 + (i * 2)) = ((i * 2) + 0)) ∧ (i < m))) ∧ ((Bool.not (Bool.and ((g i 0) == (h i 0)) (Bool.and ((g i 1) == (h i 1)) true))) = false)) ∧ (((.int .i64 (IntKind.i64.wrap ((((i : Nat)) : Int) + (1 : Int)))) : Value) = (.int .i64 ((((i + 1) : Nat)) : Int))))⟩) := by kernel_rfl
theorem seW_eq : seenF 9 2 51 (seW n m c d g h e e2 o o2 z z2 r r2 i) = some (.ret, seA n m c d i, [rowI 2 n g e o z r, rowI 2 m h e2 o2 z2 r2], 1536, 0, ⟨[], ((((((True ∧ ((decide ((((i : Nat)) : Int) < (((n : Nat)) : Int))) = true)) ∧ (((((i : Nat)) : Int) = (Int.ofNat i)) ∧ (i < n))) ∧ (((0 + (i * 2)) = ((i * 2) + 0)) ∧ (i < n))) ∧ (((((i : Nat)) : Int) = (Int.ofNat i)) ∧ (i < m))) ∧ (((0 + (i * 2)) = ((i * 2) + 0)) ∧ (i < m))) ∧ ((Bool.not (Bool.and ((g i 0) == (h i 0)) (Bool.and ((g i 1) == (h i 1)) true))) = true))⟩) := by kernel_rfl
theorem seE_eq : seenF 9 2 51 (seE n m c d g h e e2 o o2 z z2 r r2 i) = some ((.exit (0 : Nat)), seA n m c d i, [rowI 2 n g e o z r, rowI 2 m h e2 o2 z2 r2], 0, 0, ⟨[], (True ∧ ((decide ((((i : Nat)) : Int) < (((n : Nat)) : Int))) = false))⟩) := by kernel_rfl
theorem seA_keep : allKeep (9 + 2) (seA n m c d i) 26 = true := by kernel_rfl
theorem seF_neeq : seF_ne n m c d g h e e2 o o2 z z2 r r2 = some ((.bool false), wS 9 [rowI 2 n g e o z r, rowI 2 m h e2 o2 z2 r2], 0, 0, ⟨[], (True ∧ (((((n : Nat)) : Int) != (((m : Nat)) : Int)) = true))⟩) := by kernel_rfl
theorem seF_reteq : seF_ret n m c d g h e e2 o o2 z z2 r r2 i = some ((.bool false), wS 9 [rowI 2 n g e o z r, rowI 2 m h e2 o2 z2 r2], 1536, 0, ⟨[], ((True ∧ (((((n : Nat)) : Int) != (((m : Nat)) : Int)) = false)) ∧ ((((seA n m c d (0 : Nat)) = (seA n m c d (0 : Nat))) ∧ ((11 = (9 + 2)) ∧ ((HAppend.hAppend (List.replicate (9 : Nat) MObj.hole) ((rowI (2 : Nat) n g e o z r) :: ((rowI (2 : Nat) m h e2 o2 z2 r2) :: []))) = (HAppend.hAppend (List.replicate (9 : Nat) MObj.hole) ((rowI (2 : Nat) n g e o z r) :: ((rowI (2 : Nat) m h e2 o2 z2 r2) :: [])))))) ∧ SndC Tryz.prog none (.loop seX) (seA n m c d 0).act (wS 9 [rowI 2 n g e o z r, rowI 2 m h e2 o2 z2 r2]) .ret (seA n m c d i).act (wS 9 [rowI 2 n g e o z r, rowI 2 m h e2 o2 z2 r2]) 1536 0))⟩) := by kernel_rfl
theorem seF_endeq : seF_end n m c d g h e e2 o o2 z z2 r r2 i = some ((.bool true), wS 9 [rowI 2 n g e o z r, rowI 2 m h e2 o2 z2 r2], 1536, 0, ⟨[], ((True ∧ (((((n : Nat)) : Int) != (((m : Nat)) : Int)) = false)) ∧ ((((seA n m c d (0 : Nat)) = (seA n m c d (0 : Nat))) ∧ ((11 = (9 + 2)) ∧ ((HAppend.hAppend (List.replicate (9 : Nat) MObj.hole) ((rowI (2 : Nat) n g e o z r) :: ((rowI (2 : Nat) m h e2 o2 z2 r2) :: []))) = (HAppend.hAppend (List.replicate (9 : Nat) MObj.hole) ((rowI (2 : Nat) n g e o z r) :: ((rowI (2 : Nat) m h e2 o2 z2 r2) :: [])))))) ∧ SndC Tryz.prog none (.loop seX) (seA n m c d 0).act (wS 9 [rowI 2 n g e o z r, rowI 2 m h e2 o2 z2 r2]) (.exit 0) (seA n m c d i).act (wS 9 [rowI 2 n g e o z r, rowI 2 m h e2 o2 z2 r2]) 1536 0))⟩) := by kernel_rfl
variable {n c d g h e e2 o o2 z z2 r r2 i}
theorem se_go (hn : (n : Int) ≤ 9223372036854775807) (hi : i < n) (h0 : g i 0 = h i 0 ∧ g i 1 = h i 1) : SndC Tryz.prog none seX (seA n n c d i).act (wS 9 [rowI 2 n g e o z r, rowI 2 n h e2 o2 z2 r2]) .normal (seA n n c d (i + 1)).act (wS 9 [rowI 2 n g e o z r, rowI 2 n h e2 o2 z2 r2]) 1536 0 :=
  wayF_ok0 smx noXS_ok sng (seR_eq n n c d g h e e2 o o2 z z2 r r2 i) ⟨⟨⟨⟨⟨⟨⟨trivial, decide_eq_true (by omega)⟩, rfl, hi⟩, (by omega), hi⟩, rfl, hi⟩, (by omega), hi⟩, (by simp [h0.1, h0.2])⟩, wnextV hi hn⟩ rfl (seA_keep n n c d i) rowI_keep2 rowI_keep2 (by exact (by decide : ∀ b, b < 11 → Nat.testBit 0 b = false)) (by exact (by decide : ∀ b, b < 11 → Nat.testBit 1536 b = true → Nat.testBit 1536 b = true))
theorem se_bad (hi : i < n) (h0 : ¬ (g i 0 = h i 0 ∧ g i 1 = h i 1)) : SndC Tryz.prog none seX (seA n n c d i).act (wS 9 [rowI 2 n g e o z r, rowI 2 n h e2 o2 z2 r2]) .ret (seA n n c d i).act (wS 9 [rowI 2 n g e o z r, rowI 2 n h e2 o2 z2 r2]) 1536 0 :=
  wayF_ok0 smx noXS_ok sng (seW_eq n n c d g h e e2 o o2 z z2 r r2 i) ⟨⟨⟨⟨⟨⟨trivial, decide_eq_true (by omega)⟩, rfl, hi⟩, (by omega), hi⟩, rfl, hi⟩, (by omega), hi⟩, (by simp; exact Decidable.not_and_iff_or_not.1 h0)⟩ rfl (seA_keep n n c d i) rowI_keep2 rowI_keep2 (by exact (by decide : ∀ b, b < 11 → Nat.testBit 0 b = false)) (by exact (by decide : ∀ b, b < 11 → Nat.testBit 1536 b = true → Nat.testBit 1536 b = true))
theorem se_end (hi : ¬ i < n) : SndC Tryz.prog none seX (seA n n c d i).act (wS 9 [rowI 2 n g e o z r, rowI 2 n h e2 o2 z2 r2]) (.exit 0) (seA n n c d i).act (wS 9 [rowI 2 n g e o z r, rowI 2 n h e2 o2 z2 r2]) 1536 0 :=
  wayF_ok0 smx noXS_ok sng (seE_eq n n c d g h e e2 o o2 z z2 r r2 i) ⟨trivial, decide_eq_false (by omega)⟩ rfl (seA_keep n n c d i) rowI_keep2 rowI_keep2 (by exact (by decide : ∀ b, b < 11 → Nat.testBit 0 b = false)) (by exact (by decide : ∀ b, b < 11 → Nat.testBit 0 b = true → Nat.testBit 1536 b = true))
end
def sameE (g h : Nat → Nat → Int) (n : Nat) : Prop := ∀ i, i < n → g i 0 = h i 0 ∧ g i 1 = h i 1
instance (g h : Nat → Nat → Int) (n : Nat) : Decidable (sameE g h n) := inferInstanceAs (Decidable (∀ i, i < n → _))
theorem se_sndF {n m : Nat} (c d : Nat) (g h : Nat → Nat → Int) (e e2 : TypeId) (o o2 : Bool) (z z2 : Nat) (r r2 : Bool) (hn : (n : Int) ≤ 9223372036854775807) :
    SndF Tryz.prog 15 (seArgs n m c d) (wS 9 [rowI 2 n g e o z r, rowI 2 m h e2 o2 z2 r2]) (.bool (decide (n = m ∧ sameE g h n))) (wS 9 [rowI 2 n g e o z r, rowI 2 m h e2 o2 z2 r2]) 1536 0 := by
  by_cases hm : n = m
  · subst hm
    rcases loop_split (A := fun i => (seA n n c d i).act) (S := fun _ => wS 9 [rowI 2 n g e o z r, rowI 2 n h e2 o2 z2 r2]) (A1 := fun i => (seA n n c d i).act) (S1 := fun _ => wS 9 [rowI 2 n g e o z r, rowI 2 n h e2 o2 z2 r2]) (good := fun i => g i 0 = h i 0 ∧ g i 1 = h i 1) (fun i => Decidable.em _) n
      (fun i hi h0 => se_go hn hi h0) (fun i hi h0 => se_bad hi h0) (se_end (Nat.lt_irrefl n)) (by simp) (by simp) with ⟨h1, h2⟩ | ⟨j, hj, h1, h3, h2⟩
    · rw [decide_eq_true ⟨rfl, h1⟩]
      exact (evFS_ok smx noXS_ok 1000 _ _ _ _ _ _ _ _ _ (show evFS _ _ _ _ _ _ _ = _ from seF_endeq n n c d g h e e2 o o2 z z2 r r2 n)).2 ⟨⟨trivial, by simp⟩, ⟨rfl, rfl, rfl⟩, h2⟩
    · rw [decide_eq_false (fun q => h3 (q.2 j hj))]
      exact (evFS_ok smx noXS_ok 1000 _ _ _ _ _ _ _ _ _ (show evFS _ _ _ _ _ _ _ = _ from seF_reteq n n c d g h e e2 o o2 z z2 r r2 j)).2 ⟨⟨trivial, by simp⟩, ⟨rfl, rfl, rfl⟩, h2⟩
  · rw [decide_eq_false (fun q => hm q.1)]
    exact ((evFS_ok smx noXS_ok 1000 _ _ _ _ _ _ _ _ _ (show evFS _ _ _ _ _ _ _ = _ from seF_neeq n m c d g h e e2 o o2 z z2 r r2)).2 ⟨trivial, by simp; omega⟩).mask (fun b _ hb => by simp at hb) (fun b _ => rfl)

/-! ### Known to the reckoner -/
def kSameE : CallS := fun f xs s q => match decide (f = 15) with
  | true => match xs.toList with
    | [.slice (some ⟨b, 0, none⟩) n c, .slice (some ⟨b2, 0, none⟩) m d] => match Nat.ble 9 b, Nat.ble 9 b2, Nat.beq b b2, rowK 2 .i64 s b n, rowK 2 .i64 s b2 m with
      | true, true, false, some (g, _, _, _, _, p), some (h, _, _, _, _, p2) => some (.bool (decide (n = m ∧ sameE g h n)), s, 2 ^ b ||| 2 ^ b2, 0, ⟨q.rest, q.ob ∧ (p ∧ p2 ∧ (n : Int) ≤ 9223372036854775807)⟩)
      | _, _, _, _, _ => none
    | _ => none
  | false => none
theorem kSameE_ok : FOkS Tryz.prog kSameE := fun f xs s q u s1 R W q1 he => by
  unfold kSameE at he
  split at he
  · rename_i hf
    have hf := of_decide_eq_true hf
    subst hf
    split at he
    · rename_i b n c b2 m d hx
      have hxs : xs = #[.slice (some ⟨b, 0, none⟩) n c, .slice (some ⟨b2, 0, none⟩) m d] := by apply Array.ext'; exact hx
      subst hxs
      split at he
      · rename_i g e o z r p h e2 o2 z2 r2 p2 h1 h2 h3 h4 h5
        cases he
        refine ⟨fun hq => hq.1, fun hq => ?_⟩
        obtain ⟨k1, k2, hn⟩ := hq.2
        obtain ⟨l1, w1⟩ := rowK_wo h4 k1
        obtain ⟨l2, w2⟩ := rowK_wo h5 k2
        have b1 := Nat.le_of_ble_eq_true h1
        have b3 := Nat.le_of_ble_eq_true h2
        have hne : b ≠ b2 := fun e => by rw [e, Nat.beq_refl] at h3; cases h3
        refine SndF.rows (N := 9) (bs := [b, b2]) (s0 := wS 9 [rowI 2 n g e o z r, rowI 2 m h e2 o2 z2 r2]) sng (se_sndF c d g h e e2 o o2 z z2 r r2 hn) rfl rfl (fun x hx => ?_) (by simp [hne]) (by omega) (fun x hx _ => ?_) (fun x hx => ?_) (fun f j hj => ?_) (fun f _ hf => ?_)
        · simp at hx
          rcases hx with rfl | rfl <;> omega
        · rcases Nat.lt_or_ge x 9 with k | k
          · have hz := (by decide : ∀ b, b < 9 → Nat.testBit 1536 b = false) x k
            rw [hz] at hx; cases hx
          · exact k
        · simp at hx
          rcases hx with rfl | rfl <;> simp [or_bit, bit_self]
        · match j, hj with
          | 0, _ => exact w1 f
          | 1, _ => exact w2 f
        · exact wvs_two (slice_wv (hf 0 (by simp))) (slice_wv (hf 1 (by simp)))
      · cases he
    · cases he
  · cases he
end Go.Proofs.YtffllmdjpeigbaaGreatDoor
end
section
set_option linter.all false
set_option maxRecDepth 1000000
namespace Go.Proofs.YtffllmdjpeigbaaGreatDoor
open Mini
noncomputable def awB : Code := bodyOf Tryz.prog 8
noncomputable def awA0 : MA := ⟨255, .leaf, []⟩
noncomputable def awH0 : Tri := (.node (.node (.node .leaf (.node .leaf (.one (.cells [.int .i64 (1), .int .i64 (0), .int .i64 (0), .int .i64 (-1), .int .i64 (-1), .int .i64 (0), .int .i64 (0), .int .i64 (1)] 276 true 0 true)))) (.node (.node .leaf (.one (.cells [.int .u64 (1), .int .u64 (10), .int .u64 (100), .int .u64 (1000), .int .u64 (10000), .int .u64 (100000), .int .u64 (1000000), .int .u64 (10000000), .int .u64 (100000000), .int .u64 (1000000000), .int .u64 (10000000000), .int .u64 (100000000000), .int .u64 (1000000000000), .int .u64 (10000000000000), .int .u64 (100000000000000), .int .u64 (1000000000000000), .int .u64 (10000000000000000), .int .u64 (100000000000000000), .int .u64 (1000000000000000000), .int .u64 (10000000000000000000)] 416 true 0 true))) .leaf)) .leaf)
noncomputable def awH1 : Tri := (.node (.node (.node (.node (.node (.node (.node (.node (.node (.node (.node (.node (.node (.node (.node (.node (.node (.node awH0 .leaf) .leaf) .leaf) .leaf) .leaf) .leaf) .leaf) .leaf) .leaf) .leaf) .leaf) .leaf) .leaf) .leaf) .leaf) .leaf) .leaf) .leaf)
noncomputable def awS0 : St := ⟨9, awH1, []⟩
noncomputable def awH2 : TV := (.node (.node (.node (.one (.bool false)) .leaf) .leaf) .leaf)
noncomputable def awA1 : MA := ⟨255, (.node (.node (.node (.node (.node awH2 .leaf) .leaf) .leaf) .leaf) .leaf), []⟩
noncomputable def awS1 : St := ⟨9, awH1, []⟩
noncomputable def awH3 : TV := (.node (.one (.bool false)) (.one (.pointer (some ⟨27, 0, none⟩))))
noncomputable def awH4 : TV := (.one (.tuple #[.agg #[.int .i64 (5), .int .i64 (7)], .int .i64 (0)]))
noncomputable def awH5 : TV := (.node (.node awH4 (.one (.agg #[.int .i64 (1), .int .i64 (2)]))) (.node (.one (.agg #[.int .i64 (3), .int .i64 (-1)])) awH4))
noncomputable def awH6 : TV := (.one (.agg #[.int .i64 (5), .int .i64 (7)]))
noncomputable def awA2 : MA := ⟨255, (.node (.node (.node (.node (.node (.node (.node awH3 (.node (.one (.int .i64 (0))) .leaf)) .leaf) .leaf) .leaf) (.node (.node (.node awH5 (.node (.node awH6 (.one (.int .i64 (0)))) .leaf)) .leaf) .leaf)) .leaf) .leaf), []⟩
noncomputable def awH7 : Tri := (.node awH0 (.node .leaf (.node (.node .leaf (.node .leaf (.one (.cells [.int .i64 (5), .int .i64 (7)] 40 false 0 false)))) .leaf)))
noncomputable def awH8 : Tri := (.node (.node (.node (.node (.node (.node (.node (.node (.node (.node (.node (.node (.node (.node (.node (.node (.node awH7 .leaf) .leaf) .leaf) .leaf) .leaf) .leaf) .leaf) .leaf) .leaf) .leaf) .leaf) .leaf) .leaf) .leaf) .leaf) .leaf) .leaf)
noncomputable def awS2 : St := ⟨28, awH8, []⟩
noncomputable def awH9 : TV := (.node (.one (.int .i64 (0))) (.one (.int .i64 (39))))
noncomputable def awH10 : TV := (.node (.node (.one (.int .i64 (0))) .leaf) .leaf)
noncomputable def awH11 : TV := (.one (.tuple #[.int .i64 (39), .int .i64 (0)]))
noncomputable def awH12 : TV := (.node awH5 (.node (.node awH6 (.one (.int .i64 (0)))) (.node awH11 awH6)))
noncomputable def awA3 : MA := ⟨255, (.node (.node (.node (.node (.node (.node (.node awH3 awH9) awH10) .leaf) .leaf) (.node (.node awH12 (.node (.node (.node awH11 (.one (.int .i64 (39)))) (.node (.one (.int .i64 (0))) .leaf)) .leaf)) .leaf)) .leaf) .leaf), []⟩
noncomputable def awS3 : St := ⟨34, awH8, []⟩
noncomputable def awH13 : TV := (.node (.one (.int .i64 (0))) (.one (.pointer (some ⟨46, 0, none⟩))))
noncomputable def awH14 : TV := (.one (.tuple #[.agg #[.int .i64 (-1), .int .i64 (2)], .int .i64 (0)]))
noncomputable def awH15 : TV := (.one (.agg #[.int .i64 (3), .int .i64 (1)]))
noncomputable def awH16 : TV := (.one (.agg #[.int .i64 (-1), .int .i64 (2)]))
noncomputable def awH17 : TV := (.node awH12 (.node (.node (.node awH11 (.one (.int .i64 (39)))) (.node (.one (.int .i64 (0))) awH14)) (.node (.node awH15 awH14) (.node awH16 (.one (.int .i64 (0)))))))
noncomputable def awA4 : MA := ⟨255, (.node (.node (.node (.node (.node (.node (.node awH3 awH9) (.node awH13 (.node (.one (.int .i64 (0))) .leaf))) .leaf) .leaf) (.node awH17 .leaf)) .leaf) .leaf), []⟩
noncomputable def awH18 : Tri := (.node .leaf (.node .leaf (.node .leaf (.node (.one (.cells [.int .i64 (-1), .int .i64 (2)] 40 false 0 false)) .leaf))))
noncomputable def awS4 : St := ⟨47, (.node (.node (.node (.node (.node (.node (.node (.node (.node (.node (.node (.node (.node (.node (.node (.node (.node awH7 (.node awH18 .leaf)) .leaf) .leaf) .leaf) .leaf) .leaf) .leaf) .leaf) .leaf) .leaf) .leaf) .leaf) .leaf) .leaf) .leaf) .leaf) .leaf), []⟩
noncomputable def awH19 : TV := (.node awH13 (.node (.one (.int .i64 (0))) (.one (.pointer (some ⟨59, 0, none⟩)))))
noncomputable def awH20 : TV := (.one (.tuple #[.agg #[.int .i64 (1), .int .i64 (-2)], .int .i64 (0)]))
noncomputable def awH21 : TV := (.one (.agg #[.int .i64 (1), .int .i64 (-2)]))
noncomputable def awH22 : TV := (.node (.node awH20 awH15) (.node awH20 awH21))
noncomputable def awA5 : MA := ⟨255, (.node (.node (.node (.node (.node (.node (.node awH3 awH9) awH19) (.node awH10 .leaf)) .leaf) (.node awH17 (.node (.node awH22 awH10) .leaf))) .leaf) .leaf), []⟩
noncomputable def awH23 : Tri := (.node (.node awH7 (.node awH18 (.node .leaf (.node (.node .leaf (.node .leaf (.one (.cells [.int .i64 (1), .int .i64 (-2)] 40 false 0 false)))) .leaf)))) .leaf)
noncomputable def awS5 : St := ⟨60, (.node (.node (.node (.node (.node (.node (.node (.node (.node (.node (.node (.node (.node (.node (.node awH23 .leaf) .leaf) .leaf) .leaf) .leaf) .leaf) .leaf) .leaf) .leaf) .leaf) .leaf) .leaf) .leaf) .leaf) .leaf), []⟩
noncomputable def awH24 : TV := (.node (.one (.int .i64 (0))) (.one (.pointer (some ⟨146, 0, none⟩))))
noncomputable def awH25 : TV := (.one (.tuple #[.agg #[.int .i64 (0), .int .i64 (0), .int .i64 (12), .int .i64 (0), .int .i64 (0), .int .i64 (0)], .int .i64 (0)]))
noncomputable def awH26 : TV := (.one (.agg #[.int .i64 (4), .int .i64 (0), .int .i64 (-4), .int .i64 (-4), .int .i64 (0), .int .i64 (4)]))
noncomputable def awH27 : TV := (.node awH22 (.node (.node (.one (.int .i64 (0))) awH25) (.node awH26 awH25)))
noncomputable def awH28 : TV := (.one (.agg #[.int .i64 (0), .int .i64 (0), .int .i64 (12), .int .i64 (0), .int .i64 (0), .int .i64 (0)]))
noncomputable def awA6 : MA := ⟨255, (.node (.node (.node (.node (.node (.node (.node awH3 awH9) awH19) (.node (.node awH24 (.node (.one (.int .i64 (0))) .leaf)) .leaf)) .leaf) (.node awH17 (.node awH27 (.node (.node (.node awH28 (.one (.int .i64 (0)))) .leaf) .leaf)))) .leaf) .leaf), []⟩
noncomputable def awH29 : Tri := (.node awH23 (.node (.node (.node .leaf (.node (.node (.node .leaf (.node (.one (.cells [.int .i64 (0), .int .i64 (0), .int .i64 (12), .int .i64 (0), .int .i64 (0), .int .i64 (0)] 110 false 0 false)) .leaf)) .leaf) .leaf)) .leaf) .leaf))
noncomputable def awS6 : St := ⟨147, (.node (.node (.node (.node (.node (.node (.node (.node (.node (.node (.node (.node (.node (.node awH29 .leaf) .leaf) .leaf) .leaf) .leaf) .leaf) .leaf) .leaf) .leaf) .leaf) .leaf) .leaf) .leaf) .leaf), []⟩
noncomputable def awH30 : TV := (.node awH24 (.node (.one (.int .i64 (0))) (.one (.pointer (some ⟨312, 0, none⟩)))))
noncomputable def awH31 : TV := (.one (.tuple #[.agg #[.int .i64 (0), .int .i64 (0), .int .i64 (0), .int .i64 (0), .int .i64 (0), .int .i64 (0)], .int .i64 (1)]))
noncomputable def awH32 : TV := (.one (.agg #[.int .i64 (1), .int .i64 (0)]))
noncomputable def awH33 : TV := (.node awH17 (.node awH27 (.node (.node (.node awH28 (.one (.int .i64 (0)))) (.node awH31 awH32)) (.node (.node (.one (.agg #[.int .i64 (1), .int .i64 (0), .int .i64 (0), .int .i64 (0), .int .i64 (0), .int .i64 (0)])) awH31) (.node (.one (.agg #[.int .i64 (0), .int .i64 (0), .int .i64 (0), .int .i64 (0), .int .i64 (0), .int .i64 (0)])) (.one (.int .i64 (1))))))))
noncomputable def awA7 : MA := ⟨255, (.node (.node (.node (.node (.node (.node (.node awH3 awH9) awH19) (.node awH30 (.node (.node (.one (.int .i64 (1))) .leaf) .leaf))) .leaf) awH33) .leaf) .leaf), []⟩
noncomputable def awH34 : Tri := (.node (.node .leaf (.node .leaf (.node .leaf (.node (.node (.node (.one (.cells [.int .i64 (0), .int .i64 (0), .int .i64 (0), .int .i64 (0), .int .i64 (0), .int .i64 (0)] 113 false 0 false)) .leaf) .leaf) .leaf)))) .leaf)
noncomputable def awH35 : Tri := (.node (.node (.node (.node (.node (.node (.node (.node (.node (.node (.node (.node (.node (.node awH29 (.node awH34 .leaf)) .leaf) .leaf) .leaf) .leaf) .leaf) .leaf) .leaf) .leaf) .leaf) .leaf) .leaf) .leaf) .leaf)
noncomputable def awS7 : St := ⟨313, awH35, []⟩
noncomputable def awH36 : TV := (.node (.one (.int .i64 (1))) (.one (.bool true)))
noncomputable def awH37 : TV := (.one (.tuple #[.bool true, .int .i64 (0)]))
noncomputable def awH38 : TV := (.node (.node awH37 awH26) (.node awH37 (.one (.bool true))))
noncomputable def awA8 : MA := ⟨255, (.node (.node (.node (.node (.node (.node (.node awH3 awH9) awH19) (.node awH30 (.node awH36 (.node (.one (.int .i64 (0))) .leaf)))) .leaf) awH33) (.node (.node (.node (.node awH38 awH10) .leaf) .leaf) .leaf)) .leaf), []⟩
noncomputable def awS8 : St := ⟨401, awH35, []⟩
noncomputable def awH39 : TV := (.node awH30 (.node awH36 (.node (.one (.int .i64 (0))) (.one (.pointer (some ⟨466, 0, none⟩))))))
noncomputable def awH40 : TV := (.node (.node (.node awH3 awH9) awH19) awH39)
noncomputable def awH41 : TV := (.node (.one (.int .i64 (-12))) (.one (.int .i64 (0))))
noncomputable def awH42 : TV := (.node (.node awH40 (.node (.node (.node awH41 .leaf) .leaf) .leaf)) awH33)
noncomputable def awH43 : TV := (.one (.tuple #[.agg #[.int .i64 (-12), .int .i64 (-12)], .int .i64 (-12), .int .i64 (0)]))
noncomputable def awH44 : TV := (.one (.agg #[.int .i64 (0), .int .i64 (1)]))
noncomputable def awH45 : TV := (.node awH38 (.node (.node (.one (.int .i64 (0))) awH43) (.node awH26 awH44)))
noncomputable def awH46 : TV := (.one (.agg #[.int .i64 (-1), .int .i64 (-1)]))
noncomputable def awH47 : TV := (.node (.node awH32 awH46) (.node (.one (.agg #[.int .i64 (0), .int .i64 (1), .int .i64 (1), .int .i64 (0), .int .i64 (-1), .int .i64 (-1)])) awH43))
noncomputable def awH48 : TV := (.one (.agg #[.int .i64 (-12), .int .i64 (-12)]))
noncomputable def awA9 : MA := ⟨255, (.node (.node awH42 (.node (.node (.node awH45 (.node awH47 (.node (.node awH48 (.one (.int .i64 (-12)))) (.node (.one (.int .i64 (0))) .leaf)))) .leaf) .leaf)) .leaf), []⟩
noncomputable def awH49 : Tri := (.node (.node .leaf (.node (.one (.cells [.int .i64 (-12), .int .i64 (-12)] 40 false 0 false)) .leaf)) .leaf)
noncomputable def awH50 : Tri := (.node (.node (.node (.node (.node (.node (.node (.node (.node (.node (.node (.node (.node (.node awH29 (.node awH34 (.node .leaf (.node (.node .leaf (.node awH49 .leaf)) .leaf)))) .leaf) .leaf) .leaf) .leaf) .leaf) .leaf) .leaf) .leaf) .leaf) .leaf) .leaf) .leaf) .leaf)
noncomputable def awS9 : St := ⟨467, awH50, []⟩
noncomputable def awH51 : TV := (.node (.one (.int .i64 (0))) (.one (.int .i64 (0))))
noncomputable def awH52 : TV := (.node (.one (.bool false)) (.one (.bool false)))
noncomputable def awH53 : TV := (.one (.agg #[.int .i64 (0), .int .i64 (0)]))
noncomputable def awH54 : TV := (.node (.node (.node awH45 (.node awH47 (.node (.node awH48 (.one (.int .i64 (-12)))) awH51))) (.node (.node (.node awH51 awH51) (.node awH51 awH51)) (.node (.node awH51 awH51) (.node awH52 (.node (.one (.int .i64 (1))) (.one (.bool false))))))) (.node (.node (.node (.node awH52 (.node awH6 awH6)) (.node awH52 (.node (.one (.bool false)) (.one (.int .i64 (39)))))) (.node (.node awH52 (.node (.one (.bool false)) awH16)) (.node (.node awH16 (.one (.bool false))) awH52))) (.node (.node (.node (.node awH21 awH21) awH52) (.node (.node (.one (.bool false)) awH28) (.node awH53 (.one (.agg #[.int .i64 (12), .int .i64 (0)]))))) (.node (.node (.node awH53 awH28) awH52) (.node (.node (.one (.bool false)) (.one (.bool true))) awH52)))))
noncomputable def awH55 : TV := (.node (.node (.node (.one (.bool false)) awH48) (.node awH48 (.one (.bool false)))) (.node awH52 (.node (.one (.int .i64 (-12))) (.one (.bool false)))))
noncomputable def awA10 : MA := ⟨255, (.node (.node awH42 awH54) (.node (.node (.node (.node awH55 awH2) .leaf) .leaf) .leaf)), []⟩
noncomputable def awS10 : St := ⟨474, awH50, []⟩
noncomputable def awH56 : TV := (.one (.slice (some ⟨491, 0, none⟩) 3 3))
noncomputable def awH57 : TV := (.node awH41 (.node awH56 (.one (.int .i64 (0)))))
noncomputable def awH58 : TV := (.one (.tuple #[.slice (some ⟨491, 0, none⟩) 3 3, .int .i64 (0)]))
noncomputable def awH59 : TV := (.node awH32 (.one (.agg #[.int .i64 (1), .int .i64 (1)])))
noncomputable def awH60 : TV := (.node awH55 (.node (.node (.node (.one (.bool false)) awH58) awH59) (.node (.node awH44 (.one (.slice (some ⟨477, 0, none⟩) 3 3))) (.node awH58 awH56))))
noncomputable def awA11 : MA := ⟨255, (.node (.node (.node (.node awH40 (.node (.node awH57 .leaf) .leaf)) awH33) awH54) (.node (.node (.node awH60 (.node (.node awH10 .leaf) .leaf)) .leaf) .leaf)), []⟩
noncomputable def awH61 : Tri := (.one (.cells [.int .i64 (0), .int .i64 (0)] 24 false 0 false))
noncomputable def awH62 : Tri := (.one (.cells [.int .i64 (1), .int .i64 (0), .int .i64 (1), .int .i64 (0), .int .i64 (1), .int .i64 (0)] 40 false 0 false))
noncomputable def awH63 : Tri := (.one (.cells [.int .i64 (1), .int .i64 (0)] 40 false 0 false))
noncomputable def awH64 : Tri := (.node awH29 (.node awH34 (.node .leaf (.node (.node .leaf (.node awH49 (.node .leaf (.node (.node .leaf (.one (.cells [.int .i64 (1), .int .i64 (0), .int .i64 (1), .int .i64 (1), .int .i64 (0), .int .i64 (1)] 40 false 0 false))) .leaf)))) (.node (.node .leaf (.node (.node .leaf (.node awH61 awH62)) (.node (.node awH63 .leaf) .leaf))) (.node (.node (.node .leaf (.node awH63 (.one (.cells [.int .i64 (1), .int .i64 (1)] 40 false 0 false)))) .leaf) (.node (.node (.node .leaf awH63) (.node (.one (.cells [.int .i64 (0), .int .i64 (1)] 40 false 0 false)) .leaf)) .leaf)))))))
noncomputable def awH65 : Tri := (.node (.node (.node (.node (.node (.node (.node (.node awH63 .leaf) .leaf) .leaf) .leaf) .leaf) .leaf) .leaf) .leaf)
noncomputable def awS11 : St := ⟨513, (.node (.node (.node (.node (.node (.node (.node (.node (.node (.node (.node (.node (.node awH64 (.node awH65 .leaf)) .leaf) .leaf) .leaf) .leaf) .leaf) .leaf) .leaf) .leaf) .leaf) .leaf) .leaf) .leaf), []⟩
noncomputable def awH66 : TV := (.node (.one (.pointer (some ⟨801, 0, none⟩))) (.one (.int .i64 (0))))
noncomputable def awH67 : TV := (.one (.tuple #[.agg #[.int .i64 (0), .int .i64 (0), .int .i64 (6), .int .i64 (0), .int .i64 (0), .int .i64 (0), .int .i64 (0), .int .i64 (0), .int .i64 (0), .int .i64 (0), .int .i64 (0), .int .i64 (0)], .int .i64 (0)]))
noncomputable def awH68 : TV := (.node (.node (.node (.one (.int .i64 (0))) awH67) awH59) (.node (.node awH44 (.one (.agg #[.int .i64 (-1), .int .i64 (0)]))) (.node awH46 (.one (.agg #[.int .i64 (0), .int .i64 (-1)])))))
noncomputable def awH69 : TV := (.one (.agg #[.int .i64 (0), .int .i64 (0), .int .i64 (6), .int .i64 (0), .int .i64 (0), .int .i64 (0), .int .i64 (0), .int .i64 (0), .int .i64 (0), .int .i64 (0), .int .i64 (0), .int .i64 (0)]))
noncomputable def awH70 : TV := (.node (.node (.one (.agg #[.int .i64 (1), .int .i64 (0), .int .i64 (1), .int .i64 (1), .int .i64 (0), .int .i64 (1), .int .i64 (-1), .int .i64 (0), .int .i64 (-1), .int .i64 (-1), .int .i64 (0), .int .i64 (-1)])) awH67) (.node awH69 (.one (.int .i64 (0)))))
noncomputable def awA12 : MA := ⟨255, (.node (.node (.node (.node awH40 (.node (.node awH57 (.node awH66 .leaf)) .leaf)) awH33) awH54) (.node (.node (.node awH60 (.node awH68 (.node awH70 .leaf))) .leaf) .leaf)), []⟩
noncomputable def awH71 : Tri := (.node (.node (.node (.node .leaf (.one (.cells [.int .i64 (0), .int .i64 (0), .int .i64 (6), .int .i64 (0), .int .i64 (0), .int .i64 (0), .int .i64 (0), .int .i64 (0), .int .i64 (0), .int .i64 (0), .int .i64 (0), .int .i64 (0)] 42 false 0 false))) .leaf) .leaf) .leaf)
noncomputable def awS12 : St := ⟨802, (.node (.node (.node (.node (.node (.node (.node (.node (.node (.node (.node (.node (.node awH64 (.node awH65 (.node (.node (.node .leaf (.node awH71 .leaf)) .leaf) .leaf))) .leaf) .leaf) .leaf) .leaf) .leaf) .leaf) .leaf) .leaf) .leaf) .leaf) .leaf) .leaf), []⟩
noncomputable def awH72 : TV := (.node awH57 (.node awH66 (.node (.one (.pointer (some ⟨829, 0, none⟩))) (.one (.int .i64 (0))))))
noncomputable def awH73 : TV := (.node (.node (.node awH40 (.node awH72 .leaf)) awH33) awH54)
noncomputable def awH74 : TV := (.one (.tuple #[.agg #[.complex .f32 1092616192 0, .complex .f32 3221225472 1073741824, .complex .f32 3221225472 0, .complex .f32 3221225472 3221225472], .int .i64 (0)]))
noncomputable def awH75 : TV := (.one (.agg #[.complex .f32 1092616192 0, .complex .f32 3221225472 1073741824, .complex .f32 3221225472 0, .complex .f32 3221225472 3221225472]))
noncomputable def awH76 : TV := (.node awH60 (.node awH68 (.node awH70 (.node (.node awH74 (.one (.agg #[.float .f32 1065353216, .float .f32 1073741824, .float .f32 1077936128, .float .f32 1082130432]))) (.node awH74 awH75)))))
noncomputable def awA13 : MA := ⟨255, (.node awH73 (.node (.node awH76 (.node (.node (.node awH10 .leaf) .leaf) .leaf)) .leaf)), []⟩
noncomputable def awH77 : Tri := (.node .leaf (.node awH71 (.node .leaf (.node .leaf (.node (.node .leaf (.one (.cells [.complex .f32 1092616192 0, .complex .f32 3221225472 1073741824, .complex .f32 3221225472 0, .complex .f32 3221225472 3221225472] 121 false 0 false))) .leaf)))))
noncomputable def awS13 : St := ⟨830, (.node (.node (.node (.node (.node (.node (.node (.node (.node (.node (.node (.node (.node awH64 (.node awH65 (.node (.node awH77 .leaf) .leaf))) .leaf) .leaf) .leaf) .leaf) .leaf) .leaf) .leaf) .leaf) .leaf) .leaf) .leaf) .leaf), []⟩
noncomputable def awH78 : TV := (.node (.node (.node awH51 awH51) (.node awH51 awH52)) (.node (.node (.node awH56 awH32) (.node awH32 awH32)) (.node (.node (.one (.slice (some ⟨833, 0, none⟩) 3 3)) (.one (.bool true))) awH52)))
noncomputable def awH79 : TV := (.node (.node (.node (.one (.bool false)) awH69) (.node awH53 (.one (.agg #[.int .i64 (6), .int .i64 (0)])))) (.node (.node awH69 (.one (.bool false))) awH52))
noncomputable def awA14 : MA := ⟨255, (.node awH73 (.node (.node awH76 (.node awH78 (.node awH79 (.node (.node (.node awH75 awH75) awH52) .leaf)))) .leaf)), []⟩
noncomputable def awH80 : Tri := (.node (.node (.node (.node (.node .leaf awH62) .leaf) .leaf) .leaf) .leaf)
noncomputable def awS14 : St := ⟨836, (.node (.node (.node (.node (.node (.node (.node (.node (.node (.node (.node (.node (.node awH64 (.node awH65 (.node (.node awH77 (.node awH80 .leaf)) .leaf))) .leaf) .leaf) .leaf) .leaf) .leaf) .leaf) .leaf) .leaf) .leaf) .leaf) .leaf) .leaf), []⟩
noncomputable def awH81 : TV := (.node (.one (.pointer (some ⟨869, 0, none⟩))) (.one (.int .i64 (0))))
noncomputable def awH82 : TV := (.one (.tuple #[.agg #[.int .u8 (177), .int .u8 (1), .int .u8 (0), .int .u8 (2), .int .u8 (0), .int .u8 (3), .int .u8 (255), .int .u8 (255), .int .u8 (0), .int .u8 (0), .int .u8 (0), .int .u8 (0), .int .u8 (0), .int .u8 (210), .int .u8 (13), .int .u8 (225)], .int .i64 (0)]))
noncomputable def awH83 : TV := (.one (.agg #[.int .i64 (3), .int .i64 (-1), .int .i64 (0), .int .i64 (0)]))
noncomputable def awH84 : TV := (.one (.agg #[.int .i64 (1), .int .i64 (2), .int .i64 (3), .int .i64 (-1), .int .i64 (0), .int .i64 (0)]))
noncomputable def awH85 : TV := (.node awH76 (.node awH78 (.node awH79 (.node (.node (.node awH75 awH75) awH52) (.node (.node awH82 awH83) (.node awH84 awH82))))))
noncomputable def awH86 : TV := (.node (.one (.agg #[.int .u8 (177), .int .u8 (1), .int .u8 (0), .int .u8 (2), .int .u8 (0), .int .u8 (3), .int .u8 (255), .int .u8 (255), .int .u8 (0), .int .u8 (0), .int .u8 (0), .int .u8 (0), .int .u8 (0), .int .u8 (210), .int .u8 (13), .int .u8 (225)])) (.one (.int .i64 (0))))
noncomputable def awA15 : MA := ⟨255, (.node (.node (.node (.node awH40 (.node awH72 (.node (.node awH81 .leaf) .leaf))) awH33) awH54) (.node awH85 (.node (.node (.node (.node (.node awH86 .leaf) .leaf) .leaf) .leaf) .leaf))), []⟩
noncomputable def awH87 : Tri := (.node .leaf (.one (.cells [.int .u8 (177), .int .u8 (1), .int .u8 (0), .int .u8 (2), .int .u8 (0), .int .u8 (3), .int .u8 (255), .int .u8 (255), .int .u8 (0), .int .u8 (0), .int .u8 (0), .int .u8 (0), .int .u8 (0), .int .u8 (210), .int .u8 (13), .int .u8 (225)] 126 false 0 false)))
noncomputable def awS15 : St := ⟨870, (.node (.node (.node (.node (.node (.node (.node (.node (.node (.node (.node (.node (.node awH64 (.node awH65 (.node (.node awH77 (.node awH80 (.node (.node (.node .leaf (.node awH87 .leaf)) .leaf) .leaf))) .leaf))) .leaf) .leaf) .leaf) .leaf) .leaf) .leaf) .leaf) .leaf) .leaf) .leaf) .leaf) .leaf), []⟩
noncomputable def awH88 : TV := (.one (.slice (some ⟨887, 0, none⟩) 2 2))
noncomputable def awH89 : TV := (.node awH81 (.node awH88 (.one (.int .i64 (0)))))
noncomputable def awH90 : TV := (.one (.tuple #[.slice (some ⟨887, 0, none⟩) 2 2, .int .i64 (0)]))
noncomputable def awH91 : TV := (.node (.node awH86 (.node awH90 (.one (.agg #[.int .i64 (0), .int .i64 (65534), .int .i64 (0), .int .i64 (0), .int .i64 (0), .int .i64 (0)])))) (.node (.node (.one (.agg #[.int .i64 (7), .int .i64 (0), .int .i64 (0), .int .i64 (0), .int .i64 (0), .int .i64 (0)])) (.one (.agg #[.int .i64 (0), .int .i64 (1), .int .i64 (0), .int .i64 (0), .int .i64 (0), .int .i64 (0)]))) (.node (.one (.slice (some ⟨870, 0, none⟩) 3 3)) awH90)))
noncomputable def awA16 : MA := ⟨255, (.node (.node (.node (.node awH40 (.node awH72 (.node awH89 .leaf))) awH33) awH54) (.node awH85 (.node (.node (.node awH91 (.node (.node (.node awH88 (.one (.int .i64 (0)))) .leaf) .leaf)) .leaf) .leaf))), []⟩
noncomputable def awH92 : Tri := (.node (.node .leaf (.node awH87 (.node (.one (.cells [.int .i64 (0), .int .i64 (65534), .int .i64 (0), .int .i64 (0), .int .i64 (0), .int .i64 (0), .int .i64 (7), .int .i64 (0), .int .i64 (0), .int .i64 (0), .int .i64 (0), .int .i64 (0), .int .i64 (0), .int .i64 (1), .int .i64 (0), .int .i64 (0), .int .i64 (0), .int .i64 (0)] 131 false 0 false)) .leaf))) .leaf)
noncomputable def awH93 : Tri := (.node (.node (.node awH61 (.one (.cells [.int .i64 (0), .int .i64 (65534), .int .i64 (0), .int .i64 (0), .int .i64 (0), .int .i64 (0)] 131 false 0 false))) (.node (.one (.cells [.int .i64 (7), .int .i64 (0), .int .i64 (0), .int .i64 (0), .int .i64 (0), .int .i64 (0)] 131 false 0 false)) (.one (.cells [.int .i64 (0), .int .i64 (1), .int .i64 (0), .int .i64 (0), .int .i64 (0), .int .i64 (0)] 131 false 0 false)))) (.node (.node (.one (.cells [.int .i64 (65535)] 3 false 0 false)) (.one (.hole))) (.node (.one (.cells [.int .i64 (0)] 3 false 0 false)) (.one (.cells [.int .i64 (65535), .int .i64 (0)] 3 true 1 false)))))
noncomputable def awS16 : St := ⟨888, (.node (.node (.node (.node (.node (.node (.node (.node (.node (.node (.node (.node (.node awH64 (.node awH65 (.node (.node awH77 (.node awH80 (.node awH92 (.node awH93 .leaf)))) .leaf))) .leaf) .leaf) .leaf) .leaf) .leaf) .leaf) .leaf) .leaf) .leaf) .leaf) .leaf) .leaf), []⟩
noncomputable def awH94 : TV := (.one (.slice (some ⟨925, 0, none⟩) 20 20))
noncomputable def awH95 : TV := (.one (.tuple #[.slice (some ⟨925, 0, none⟩) 20 20, .int .i64 (0)]))
noncomputable def awH96 : TV := (.node awH91 (.node (.node (.node awH88 (.one (.int .i64 (0)))) (.node awH95 (.one (.slice (some ⟨888, 0, none⟩) 2 2)))) (.node (.node (.one (.agg #[.string ⟨#[114]⟩, .slice (some ⟨888, 0, none⟩) 2 2])) awH95) (.node awH94 (.one (.int .i64 (0)))))))
noncomputable def awA17 : MA := ⟨255, (.node (.node (.node (.node awH40 (.node awH72 (.node awH89 (.node (.node awH94 (.one (.int .i64 (0)))) .leaf)))) awH33) awH54) (.node awH85 (.node (.node awH96 .leaf) .leaf))), []⟩
noncomputable def awH97 : Tri := (.node awH77 (.node awH80 (.node awH92 (.node awH93 (.node (.node (.node (.one (.cells [.float .f32 1065353216, .float .f32 3204448256] 124 false 0 false)) (.one (.cells [.string ⟨#[114]⟩, .slice (some ⟨888, 0, none⟩) 2 2] 139 false 0 false))) .leaf) (.node .leaf (.node (.one (.cells [.int .u8 (82), .int .u8 (69), .int .u8 (67), .int .u8 (79)] 5 false 0 false)) (.one (.cells [.int .u8 (1)] 5 false 0 false)))))))))
noncomputable def awH98 : Tri := (.node (.one (.cells [.int .u8 (0)] 5 false 0 false)) (.one (.hole)))
noncomputable def awH99 : Tri := (.node (.node (.node (.node (.one (.hole)) (.one (.hole))) awH98) (.node (.node (.one (.cells [.int .u8 (2)] 5 false 0 false)) (.one (.hole))) (.node (.one (.cells [.int .u8 (63)] 5 false 0 false)) (.one (.hole))))) (.node (.node (.node (.one (.cells [.int .u8 (128)] 5 false 0 false)) (.one (.hole))) awH98) (.node awH98 (.node (.one (.cells [.int .u8 (191)] 5 false 0 false)) (.one (.hole))))))
noncomputable def awH100 : Tri := (.node (.node awH98 awH98) (.node awH98 awH98))
noncomputable def awH101 : Tri := (.node (.node (.one (.cells [.int .u8 (9)] 5 false 0 false)) (.one (.hole))) (.node (.one (.cells [.int .u8 (104)] 5 false 0 false)) (.one (.hole))))
noncomputable def awH102 : Tri := (.node (.one (.cells [.int .u8 (79)] 5 false 0 false)) (.one (.cells [.int .u8 (82), .int .u8 (69), .int .u8 (67), .int .u8 (79), .int .u8 (1), .int .u8 (114), .int .u8 (0), .int .u8 (2), .int .u8 (63), .int .u8 (128), .int .u8 (0), .int .u8 (0), .int .u8 (191), .int .u8 (0), .int .u8 (0), .int .u8 (0), .int .u8 (0), .int .u8 (9), .int .u8 (104), .int .u8 (79)] 5 true 1 false)))
noncomputable def awS17 : St := ⟨926, (.node (.node (.node (.node (.node (.node (.node (.node (.node (.node (.node (.node (.node awH64 (.node awH65 (.node awH97 (.node (.node (.node awH99 (.node awH100 (.node awH101 (.node awH102 .leaf)))) .leaf) .leaf)))) .leaf) .leaf) .leaf) .leaf) .leaf) .leaf) .leaf) .leaf) .leaf) .leaf) .leaf) .leaf), []⟩
noncomputable def awH103 : TV := (.one (.string ⟨#[116, 101, 108, 101, 103, 114, 97, 109, 32, 49, 32, 50, 32, 51, 32, 45, 49, 32, 48, 32, 48, 10]⟩))
noncomputable def awH104 : TV := (.node awH72 (.node awH89 (.node (.node awH94 (.one (.int .i64 (0)))) (.node awH103 (.one (.int .i64 (0)))))))
noncomputable def awH105 : TV := (.one (.tuple #[.string ⟨#[116, 101, 108, 101, 103, 114, 97, 109, 32, 49, 32, 50, 32, 51, 32, 45, 49, 32, 48, 32, 48, 10]⟩, .int .i64 (0)]))
noncomputable def awH106 : TV := (.node (.node awH105 awH83) (.node awH84 (.one (.slice (some ⟨926, 0, none⟩) 1 1))))
noncomputable def awA18 : MA := ⟨255, (.node (.node (.node (.node awH40 awH104) awH33) awH54) (.node awH85 (.node (.node awH96 (.node (.node awH106 (.node (.node awH105 awH103) (.node (.one (.int .i64 (0))) .leaf))) .leaf)) .leaf))), []⟩
noncomputable def awH107 : Tri := (.node awH99 (.node awH100 (.node awH101 (.node awH102 (.node (.one (.cells [.int .i64 (1), .int .i64 (2), .int .i64 (3), .int .i64 (-1), .int .i64 (0), .int .i64 (0)] 131 false 0 false)) .leaf)))))
noncomputable def awS18 : St := ⟨940, (.node (.node (.node (.node (.node (.node (.node (.node (.node (.node (.node (.node (.node awH64 (.node awH65 (.node awH97 (.node (.node awH107 .leaf) .leaf)))) .leaf) .leaf) .leaf) .leaf) .leaf) .leaf) .leaf) .leaf) .leaf) .leaf) .leaf) .leaf), []⟩
noncomputable def awH108 : TV := (.node (.one (.bool true)) (.one (.bool true)))
noncomputable def awH109 : TV := (.one (.agg #[.int .u8 (177), .int .u8 (1), .int .u8 (0), .int .u8 (2), .int .u8 (0), .int .u8 (3), .int .u8 (255), .int .u8 (255), .int .u8 (0), .int .u8 (0), .int .u8 (0), .int .u8 (0)]))
noncomputable def awH110 : TV := (.node (.node (.node (.node (.node (.node (.node (.node (.one (.bool true)) (.one (.pointer (some ⟨27, 0, none⟩)))) awH9) awH19) awH39) awH104) awH33) awH54) (.node awH85 (.node (.node awH96 (.node (.node awH106 (.node (.node awH105 awH103) awH51)) (.node (.node awH51 awH51) (.node awH51 awH108)))) (.node (.node (.node (.node (.node (.one (.slice (some ⟨869, 0, none⟩) 12 16)) (.one (.pointer (some ⟨869, 0, none⟩)))) (.node awH109 awH109)) (.node awH108 (.node (.one (.bool true)) awH88))) (.node (.node (.node (.one (.slice (some ⟨940, 0, none⟩) 2 2)) (.one (.bool true))) awH108) (.node (.node awH94 (.one (.int .i64 (20)))) awH108))) (.node (.node (.node (.node (.one (.bool true)) awH94) (.node (.one (.slice (some ⟨925, 0, none⟩) 16 20)) (.one (.string ⟨#[82, 69, 67, 79, 1, 114, 0, 2, 63, 128, 0, 0, 191, 0, 0, 0]⟩)))) (.node awH108 (.node (.one (.bool true)) awH103))) (.node (.node awH108 (.node (.one (.bool true)) (.one (.slice (some ⟨941, 0, none⟩) 2 2)))) (.node (.node (.one (.int .i64 (69434))) (.one (.bool true))) (.node (.one (.bool true)) .leaf))))))))
noncomputable def awA19 : MA := ⟨255, awH110, []⟩
noncomputable def awH111 : Tri := (.node (.node (.node (.node (.node (.node (.node (.node (.node (.node (.node (.node (.node awH64 (.node awH65 (.node awH97 (.node (.node awH107 (.node (.node .leaf (.node .leaf (.node (.node (.one (.cells [.int .i64 (65535), .int .i64 (0)] 3 false 0 false)) (.one (.cells [.int .u8 (1), .int .u8 (2)] 5 false 0 false))) .leaf))) .leaf)) .leaf)))) .leaf) .leaf) .leaf) .leaf) .leaf) .leaf) .leaf) .leaf) .leaf) .leaf) .leaf) .leaf)
noncomputable def awS19 : St := ⟨942, awH111, []⟩
noncomputable def awA20 : MA := ⟨255, awH110, []⟩
noncomputable def awS20 : St := ⟨942, awH111, []⟩
def awR0 : Nat := 0
def awW0 : Nat := 0
def awRR0 : Nat := 27882608103750094666793525453270064193737011744975687239117920539826940614187149536252320050238824641790661426413110895413763563216627079806007906572846004216605015842981632978679123789751482148159202775229236611465550601181905172098923586398142895880018075045446474394953632519815208
def awWW0 : Nat := 94541989220348291478620508313451095892447564707327766114065433359922221306809470177288143435776736950496272394217914792216753203120149457468930287595388801958835331683936228682771733868279267329805303533383370233611966063501369994026040087320574341637718512247947567857594793984
def awR1 : Nat := 0
def awW1 : Nat := 134217728
def awRR1 : Nat := 27882608103750094666793525453270064193737011744975687239117920539826940614187149536252320050238824641790661426413110895413763563216627079806007906572846004216605015842981632978679123789751482148159202775229236611465550601181905172098923586398142895880018075045446474394953632519815208
def awWW1 : Nat := 94541989220348291478620508313451095892447564707327766114065433359922221306809470177288143435776736950496272394217914792216753203120149457468930287595388801958835331683936228682771733868279267329805303533383370233611966063501369994026040087320574341637718512247947567857594793984
def awR2 : Nat := 0
def awW2 : Nat := 0
def awRR2 : Nat := 27882608103750094666793525453270064193737011744975687239117920539826940614187149536252320050238824641790661426413110895413763563216627079806007906572846004216605015842981632978679123789751482148159202775229236611465550601181905172098923586398142895880018075045446474394953632519815208
def awWW2 : Nat := 94541989220348291478620508313451095892447564707327766114065433359922221306809470177288143435776736950496272394217914792216753203120149457468930287595388801958835331683936228682771733868279267329805303533383370233611966063501369994026040087320574341637718512247947567857460576256
def awR3 : Nat := 0
def awW3 : Nat := 70368744177664
def awRR3 : Nat := 27882608103750094666793525453270064193737011744975687239117920539826940614187149536252320050238824641790661426413110895413763563216627079806007906572846004216605015842981632978679123789751482148159202775229236611465550601181905172098923586398142895880018075045446474394953632519815208
def awWW3 : Nat := 94541989220348291478620508313451095892447564707327766114065433359922221306809470177288143435776736950496272394217914792216753203120149457468930287595388801958835331683936228682771733868279267329805303533383370233611966063501369994026040087320574341637718512247947567857460576256
def awR4 : Nat := 0
def awW4 : Nat := 576460752303423488
def awRR4 : Nat := 27882608103750094666793525453270064193737011744975687239117920539826940614187149536252320050238824641790661426413110895413763563216627079806007906572846004216605015842981632978679123789751482148159202775229236611465550601181905172098923586398142895880018075045446474394953632519815208
def awWW4 : Nat := 94541989220348291478620508313451095892447564707327766114065433359922221306809470177288143435776736950496272394217914792216753203120149457468930287595388801958835331683936228682771733868279267329805303533383370233611966063501369994026040087320574341637718512247947497488716398592
def awR5 : Nat := 0
def awW5 : Nat := 89202980794122492566142873090593446023921664
def awRR5 : Nat := 27882608103750094666793525453270064193737011744975687239117920539826940614187149536252320050238824641790661426413110895413763563216627079806007906572846004216605015842981632978679123789751482148159202775229236611465550601181905172098923586398142895880018075045446474394953632519815208
def awWW5 : Nat := 94541989220348291478620508313451095892447564707327766114065433359922221306809470177288143435776736950496272394217914792216753203120149457468930287595388801958835331683936228682771733868279267329805303533383370233611966063501369994026040087320574341637718512247371036736412975104
def awR6 : Nat := 0
def awW6 : Nat := 8343699359066055009355553539724812947666814540455674882605631280555545803830627148527195652096
def awRR6 : Nat := 27882608103750094666793525453270064193737011744975687239117920539826940614187149536252320050238824641790661426413110895413763563216627079806007906572846004216605015842981632978679123789751482148159202775229236611465550601181905172098923586398142895880018075045446474394953632519815208
def awWW6 : Nat := 94541989220348291478620508313451095892447564707327766114065433359922221306809470177288143435776736950496272394217914792216753203120149457468930287595388801958835331683936228682771733868279267329805303533383370233611966063501369994025950884339780219145152369374280443290389053440
def awR7 : Nat := 0
def awW7 : Nat := 0
def awRR7 : Nat := 27882608103750094666793525453270064193737011744975687239117920539826940614187149536252320050238824641790661426413110895413763563216627079806007906572846004216605015842981632978679123789751482148159202775229236611465550601181905172098923586398142895880018075045446474394953632519815208
def awWW7 : Nat := 94541989220348291478620508313451095892447564707327766114065433359922221306809470177288143435776736950496272394217914792216753203120149457468930287595388801958835331683936228682771733859935567970739248524027816693887153115834555453570276001734148938589606565543653294763193401344
def awR8 : Nat := 0
def awW8 : Nat := 190536410541747572716161940294993060653600960856016305594430966774009505543198585212421026798308836130360530463953040948208494609331560382464
def awRR8 : Nat := 27882608103750094666793525453270064193737011744975687239117920539826940614187149536252320050238824641790661426413110895413763563216627079806007906572846004216605015842981632978679123789751482148159202775229236611465550601181905172098923586398142895880018075045446474394953632519815208
def awWW8 : Nat := 94541989220348291478620508313451095892447564707327766114065433359922221306809470177288143435776736950496272394217914792216753203120149457468930287595388801958835331683936228682771733859935567970739248524027816693887153115834555453570276001734148938589606565543653294763193401344
def awR9 : Nat := 190536410541747572716161940294993060653600960856016305594430966774009505543198585212421026798308925333341324586445607091082161733898766123008
def awW9 : Nat := 0
def awRR9 : Nat := 27882608103750094666793525453270064193737011744975687239117920539826940614187149536252320050238824641790661426413110895413763563216627079806007906572846004216605015842981632978679123789751482148159202775229236611465550601181905172098923586398142895880018075045446474394953632519815208
def awWW9 : Nat := 94541989220348291478620508313451095892447564707327766114065433359922221306809470177288143435776736950496272394217914792216753203120149457278393877053641229242673391388943168029170773003919262376308281750018311150688567903413528655261439871373618474636565617335158685431633018880
def awR10 : Nat := 13724524454999345012167524804074432540191957159588125108591483676326092876732173464539276398081720602856208979584693195715980704938327456640274987919343616
def awW10 : Nat := 13724527651279641966954070709907296194670108457934048429688820762245424913159662548626800698760131876989050950852492297646186722015123555271568105897197568
def awRR10 : Nat := 27882608103750094666793525453270064193737011744975687239117920539826940614187149536252320050238824641790661426413110895413763563216627079806007716036435462469032299681041337985618470188790626131853608344262462601960007402596692751072125277472809554555431629438355392233219733753692200
def awWW10 : Nat := 94541989220348291478620508313451095892447564707327766114065433359922221306809470177288143435776736950496272394217914792216753203120149457278393877053641229242673391388943168029170773003919262376308281750018311150688567903413528655261439871373618474636565617335158685431633018880
def awR11 : Nat := 0
def awW11 : Nat := 13336028865759708548159703581442515594289516644631816320792515623528074475635264143042864401743108581485859821186866480891777603308238730160726712104661660092190315159028029116926156571823628049457930032271773203963381496074952922582327754752
def awRR11 : Nat := 27882608103750094666793525453270064193737011744975687239117920539826940614187149536252320050238824641790661426413110895413763563202902555351008371024267937664957867140849380826030345080199142455527515467530289137420731004514972148215916297888116358839450924500027935592944745834348584
def awWW11 : Nat := 94541989220348291478620508313451095892447564707327766114065433359922221306809470177288143435776736950496272394217914792216739478592498177636426922982931321946478721280485233980741084183157016951395122087469684349989807771536539604310587379075972287914550493779887117325735821312
def awR12 : Nat := 8
def awW12 : Nat := 3579862989809370150552347991709354811340217396521331566180181212788883000669113019918160533228078546928669938652374965009299607594634172087555628255195572452564109288497401512783350157684872347030630001028968155934491319200842197951919848388309286912
def awRR12 : Nat := 27882608103750094666793525453270064193737011744975687239117920539826940614187149536252320050238824641790661426413110895413763563202902555351008371024267937664957867140849380826030345080199142455527515467530289137420731004514972148215916297888116358839450924500027935592944745834348584
def awWW12 : Nat := 94541989220348291478620508313451095879111535841568057565905729778479705712519953532656327114984221326968197918582650649173875076849389596150567101796064841054701117972246503820014372078495356859204806928441655233063651199712911554852657346804199083951168997704934194743408066560
def awR13 : Nat := 60857670840095321425149624407218735374226211335152153269694896938203526634902995814243993207920199699536890879607281378434829321127174933390857539495229304715211071449958902197447861787575373370418369623885714238094766394067576315448772753490867912704
def awW13 : Nat := 0
def awRR13 : Nat := 27882608103750094666793525453270064193737011744975687239117920539826940614187149536252320050238824641790661426413110895413763563202902555351008371024267937664957867140849380826030345080199142455527515467530289137420731004514972148215916297888116358839450924500027935592944745834348576
def awWW13 : Nat := 94541989220348291478620508309871232889302165691015709574196374967139488315998621966476145902195338326299084898664490115945796529920719657498192136786765233460066945884690875564818799625931247570707405415658305075378778852682281553823689190869707764750326799753014346355098779648
def awR14 : Nat := 0
def awW14 : Nat := 3936100983140358674171118325863157261303419813782882110237782515784158576702511753696331798193284779002326689610310857585686054524054270515222392815820422596546908348791339130466666204306680269934417552562141332061201544797059608540225005885713074181150932467712
def awRR14 : Nat := 27882608103750094666793525453270003336066171649654262089493513321091566387975814384099050355341886438264026523417296651420555643003203018460128763742889502835636739965915989968490849850894427244456065508628091689558943429141601729846292412173878264073056856923712486820191254966435872
def awWW14 : Nat := 94541989220348291478620508309871232889302165691015709574196374967139488315998621966476145902195338326299084898664490115945796529920719657498192136786765233460066945884690875564818799625931247570707405415658305075378778852682281553823689190869707764750326799753014346355098779648
def awR15 : Nat := 765815679481754464364081123716587603073715965809225109132083441835997461000394091822665707320081873172250685383961301073586250140309046979982699191031653061229359582157540523901855510042316326678980147861595341848491494958805511556803257595136107138833087722782982144
def awW15 : Nat := 370812201419686909976312715242916319272872573816857757841281015246994011193990227292224026044192972460251192774808165271432311824602104716698071182392810371975491141722934476803003689775323734869981608791774210610821675132241391601357517354481257292457867045918212096
def awRR15 : Nat := 27882608103750094666793525453270003336066171649654262089493513321091566387975814384099050355341886438264026523417296651420555643003203018460128763742889502835636739965915989968490849850894427244456065508628091689558943429141601729846292412173878264073056856923712486820191254966435872
def awWW15 : Nat := 94541989220348287542519525169512558718183839827858448270776561184257378078216106182317569199683584629967286705379711113619106919609862071812137612732494718237674130064268279017910450834592117104041201108978035140961226290540949492622144393810099224525320914039940165204166311936
def awR16 : Nat := 190191891454190695374249874592786592890862428299322377255066239273194700116259870316061766408537662668787283517608343343739029770287509977288109464302566346113873529912925916717504099890158546431263337137605748114546560162542516352423983747310344393237534677161140713029036408832
def awW16 : Nat := 94541989219977475341099838259536246002940923508585575696959703426416097062969112171123578972391360603923093732919459920844298754338429759987535508015796647055281319692292787876187516357789113414265877374108053532169452079930127817489903002208741707170839656747482298158248099840
def awRR16 : Nat := 27882608103750093900977845971515538971985047933066659015777547511866457255892372548101589354947794615598319203335423479169870259041901944873878623433842522852937548934262928739131267693353903342600555466311765010578795567546259881354797453368366707269799261787605347987103532183453728
def awWW16 : Nat := 94541989219977475341099838259536246002940923508585575696959703426416097062969112171123578972391360603923093732919459920844298754338429759987535508015796647055281319692292787876187516357789113414265877374108053532169452079930127817489903002208741707170839656747482298158248099840
def awR17 : Nat := 567251933470833993071770667324028228809837418235547813055332893110634100784456014078204465673887768016738404766156377048665842149942362101665813667717893457711399398974403333260607303556174368618102720559063506014277553065062667880308951927318061097340410272771508755807405604896
def awW17 : Nat := 0
def awRR17 : Nat := 27882417911858639710282471721640946185392157070638359693400292445627184061192256288231273293181386077935650416051905870826526520012131657363901335324378220286591435060733015813214550189254013184054124202974627404830681020986097338838445029384619396925406024252928186846390503147044896
def awWW17 : Nat := 0
def awR18 : Nat := 27881850659925168876289399950973622157163347233220124145587237112734073427091471832217195088715712190167633677647139714449477854169981715001799669510710502393133723661334041409881289581950457009685506100254068341324666743433032276170564720432692078864308683842655415337634695741440000
def awW18 : Nat := 0
def awRR18 : Nat := 27881850659925168876289399950973622157163347233220124145587237112734073427091471832217195088715712190167633677647139714449477854169981715001799669510710502393133723661334041409881289581950457009685506100254068341324666743433032276170564720432692078864308683842655415337634695741440000
def awWW18 : Nat := 0
def awR19 : Nat := 0
def awW19 : Nat := 0
end Go.Proofs.YtffllmdjpeigbaaGreatDoor
end
