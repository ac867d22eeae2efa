/-
  The contract of bipole.bipoleref01.Mul.
  The contract of bipole.bipoleref01.Add.
  The contract of bipole.bipoleref01.Fits.
  The contract of bipole.bipoleref01.CheckEisen.
  The contract of bipole.bipoleref01.CheckRange.
  The contract of bipole.phasor.Norm.
  The contract of bipole.eisen.Norm.
  The contract of bipole.phasor.Turned.
  The contract of bipole.phasor.turn.
  The contract of bipole.phasor.checkTurn.
  The contract of bipole.phasor.Mul.
  The contract of bipole.eisen.Product.
  The contract of bipole.phasor.Add.
  The contract of bipole.phasor.limited.
  The contract of bipole.eisen.Sum.
  The contract of bipole.phasor.CheckEisen.
  The contract of bipole.check.Range.
-/
import Derived.Test.YtledgemlflbfdaaGreatDoorGN2
section
set_option linter.all false
set_option maxRecDepth 1000000
set_option maxHeartbeats 2000000
open Go.RowKit
namespace Go.Proofs.YtledgemlflbfdaaGreatDoor
open Mini

theorem range_X : FOkS Tryz.prog x_range := noXS_ok
theorem range_args (n lo hi : Int) : (#[.int .i64 n, .int .i64 lo, .int .i64 hi] : Array Value).toList.all (ground 8) = true := by kernel_rfl
def range_r0 (n lo hi : Int) : Prop := (((((True ∧ ((decide (n < lo)) = Bool.true)) ∧ ((decide (n < lo)) = Bool.true)) ∧ ((decide (n < lo)) = Bool.true)) ∧ ((decide (n < lo)) = Bool.true)) ∧ (Bool.true = Bool.true))
theorem range_o0 (n lo hi : Int) : obOf (range_e0 n lo hi) = range_r0 n lo hi := by kernel_rfl
theorem range_v0 (n lo hi : Int) : resOf (range_e0 n lo hi) = .int Go.IntKind.i64 (3 : Int) := by kernel_rfl
theorem range_c0 (n lo hi : Int) : cleanOf Tryz.prog.globals.size (range_e0 n lo hi) = true := by kernel_rfl
theorem range_q0 (n lo hi : Int) : range_e0 n lo hi = evFS Tryz.prog x_range 1000 79 #[.int .i64 n, .int .i64 lo, .int .i64 hi] (noTabs 6) ⟨[0, 0, 0, 1, 1], True⟩ := by
  delta range_e0
  exact Eq.refl _
theorem range_p0 (n lo hi : Int) (h : range_r0 n lo hi) (w : World) : Calls Tryz.prog 79 #[.int .i64 n, .int .i64 lo, .int .i64 hi] w fun en w' => en = .returned (.int Go.IntKind.i64 (3 : Int)) ∧ Below w.heap.size w w' := by
  have hv := range_v0 n lo hi
  have hc := range_c0 n lo hi
  have he := range_q0 n lo hi
  have ho := range_o0 n lo hi
  generalize range_e0 n lo hi = r at *
  exact calls_way he gfol range_X hv rfl (range_args n lo hi) hc ho h (bl w)
def range_r1 (n lo hi : Int) : Prop := (((((True ∧ ((decide (n < lo)) = Bool.false)) ∧ ((decide (n < lo)) = Bool.false)) ∧ ((decide (n < lo)) = Bool.false)) ∧ ((decide (n < lo)) = Bool.false)) ∧ ((decide (n > hi)) = Bool.true))
theorem range_o1 (n lo hi : Int) : obOf (range_e1 n lo hi) = range_r1 n lo hi := by kernel_rfl
theorem range_v1 (n lo hi : Int) : resOf (range_e1 n lo hi) = .int Go.IntKind.i64 (3 : Int) := by kernel_rfl
theorem range_c1 (n lo hi : Int) : cleanOf Tryz.prog.globals.size (range_e1 n lo hi) = true := by kernel_rfl
theorem range_q1 (n lo hi : Int) : range_e1 n lo hi = evFS Tryz.prog x_range 1000 79 #[.int .i64 n, .int .i64 lo, .int .i64 hi] (noTabs 6) ⟨[1, 1, 1, 0, 1], True⟩ := by
  delta range_e1
  exact Eq.refl _
theorem range_p1 (n lo hi : Int) (h : range_r1 n lo hi) (w : World) : Calls Tryz.prog 79 #[.int .i64 n, .int .i64 lo, .int .i64 hi] w fun en w' => en = .returned (.int Go.IntKind.i64 (3 : Int)) ∧ Below w.heap.size w w' := by
  have hv := range_v1 n lo hi
  have hc := range_c1 n lo hi
  have he := range_q1 n lo hi
  have ho := range_o1 n lo hi
  generalize range_e1 n lo hi = r at *
  exact calls_way he gfol range_X hv rfl (range_args n lo hi) hc ho h (bl w)
def range_r2 (n lo hi : Int) : Prop := (((((True ∧ ((decide (n < lo)) = Bool.false)) ∧ ((decide (n < lo)) = Bool.false)) ∧ ((decide (n < lo)) = Bool.false)) ∧ ((decide (n < lo)) = Bool.false)) ∧ ((decide (n > hi)) = Bool.false))
theorem range_o2 (n lo hi : Int) : obOf (range_e2 n lo hi) = range_r2 n lo hi := by kernel_rfl
theorem range_v2 (n lo hi : Int) : resOf (range_e2 n lo hi) = .int Go.IntKind.i64 (0 : Int) := by kernel_rfl
theorem range_c2 (n lo hi : Int) : cleanOf Tryz.prog.globals.size (range_e2 n lo hi) = true := by kernel_rfl
theorem range_q2 (n lo hi : Int) : range_e2 n lo hi = evFS Tryz.prog x_range 1000 79 #[.int .i64 n, .int .i64 lo, .int .i64 hi] (noTabs 6) ⟨[1, 1, 1, 0, 0], True⟩ := by
  delta range_e2
  exact Eq.refl _
theorem range_p2 (n lo hi : Int) (h : range_r2 n lo hi) (w : World) : Calls Tryz.prog 79 #[.int .i64 n, .int .i64 lo, .int .i64 hi] w fun en w' => en = .returned (.int Go.IntKind.i64 (0 : Int)) ∧ Below w.heap.size w w' := by
  have hv := range_v2 n lo hi
  have hc := range_c2 n lo hi
  have he := range_q2 n lo hi
  have ho := range_o2 n lo hi
  generalize range_e2 n lo hi = r at *
  exact calls_way he gfol range_X hv rfl (range_args n lo hi) hc ho h (bl w)
theorem range_any (n lo hi : Int) (hpre : True) (w : World) : Calls Tryz.prog 79 #[.int .i64 n, .int .i64 lo, .int .i64 hi] w fun en w' => en = .returned (.int .i64 (Pl.cr n lo hi)) ∧ Below w.heap.size w w' := by
  rcases Bool.eq_false_or_eq_true (decide (n < lo)) with h0 | h0
  ·
    have h1 : (Bool.true = Bool.true) := by
      first | rfl | trivial | decide | assumption | ((try simp only [bne_iff_ne, ne_eq, decide_eq_true_eq, decide_eq_false_iff_not, Bool.not_eq_true', Bool.not_eq_false', beq_iff_eq, beq_eq_false_iff_ne, bne_eq_false_iff_eq, Bool.and_eq_true, Bool.not_eq_true, Bool.not_eq_false, Pl.cr, parts_eq, w20, w16, wT, w20', w16', wT', Pl.lim, Pl.inB, first_two, two, oneB, Bg] at *); first | omega | grind)
    have hp := range_p0 n lo hi ⟨⟨⟨⟨⟨trivial, h0⟩, h0⟩, h0⟩, h0⟩, h1⟩ w
    have hv : (.int Go.IntKind.i64 (3 : Int) : Value) = .int .i64 (Pl.cr n lo hi) := by
      clear hp
      first | rfl | ((try simp only [bne_iff_ne, ne_eq, decide_eq_true_eq, decide_eq_false_iff_not, Bool.not_eq_true', Bool.not_eq_false', beq_iff_eq, beq_eq_false_iff_ne, bne_eq_false_iff_eq, Bool.and_eq_true, Bool.not_eq_true, Bool.not_eq_false, Pl.cr, parts_eq, w20, w16, wT, w20', w16', wT', Pl.lim, Pl.inB, first_two, two, oneB, Bg] at *); grind)
    exact hv ▸ hp
  ·
    rcases Bool.eq_false_or_eq_true (decide (n > hi)) with h2 | h2
    ·
      have hp := range_p1 n lo hi ⟨⟨⟨⟨⟨trivial, h0⟩, h0⟩, h0⟩, h0⟩, h2⟩ w
      have hv : (.int Go.IntKind.i64 (3 : Int) : Value) = .int .i64 (Pl.cr n lo hi) := by
        clear hp
        first | rfl | ((try simp only [bne_iff_ne, ne_eq, decide_eq_true_eq, decide_eq_false_iff_not, Bool.not_eq_true', Bool.not_eq_false', beq_iff_eq, beq_eq_false_iff_ne, bne_eq_false_iff_eq, Bool.and_eq_true, Bool.not_eq_true, Bool.not_eq_false, Pl.cr, parts_eq, w20, w16, wT, w20', w16', wT', Pl.lim, Pl.inB, first_two, two, oneB, Bg] at *); grind)
      exact hv ▸ hp
    ·
      have hp := range_p2 n lo hi ⟨⟨⟨⟨⟨trivial, h0⟩, h0⟩, h0⟩, h0⟩, h2⟩ w
      have hv : (.int Go.IntKind.i64 (0 : Int) : Value) = .int .i64 (Pl.cr n lo hi) := by
        clear hp
        first | rfl | ((try simp only [bne_iff_ne, ne_eq, decide_eq_true_eq, decide_eq_false_iff_not, Bool.not_eq_true', Bool.not_eq_false', beq_iff_eq, beq_eq_false_iff_ne, bne_eq_false_iff_eq, Bool.and_eq_true, Bool.not_eq_true, Bool.not_eq_false, Pl.cr, parts_eq, w20, w16, wT, w20', w16', wT', Pl.lim, Pl.inB, first_two, two, oneB, Bg] at *); grind)
      exact hv ▸ hp
theorem k_range : ConOk Tryz.prog c_range := fun ns hl => by
  have hl0 : ns.length = 3 := hl
  clear hl
  obtain ⟨n, ns0, rfl, hl1⟩ := len_cons hl0
  obtain ⟨lo, ns1, rfl, hl2⟩ := len_cons hl1
  obtain ⟨hi, ns2, rfl, hl3⟩ := len_cons hl2
  obtain rfl := len_nil hl3
  exact ⟨rfl, fun h w => range_any n lo hi h w⟩
end Go.Proofs.YtledgemlflbfdaaGreatDoor
end
section
set_option linter.all false
set_option maxRecDepth 1000000
set_option maxHeartbeats 2000000
open Go.RowKit
namespace Go.Proofs.YtledgemlflbfdaaGreatDoor
open Mini

theorem checkEisen_X : FOkS Tryz.prog x_checkEisen := kAll_ok _ ⟨k_range, trivial⟩
theorem checkEisen_args (a b : Int) : (#[.agg #[.int .i64 a, .int .i64 b]] : Array Value).toList.all (ground 8) = true := by kernel_rfl
def checkEisen_r0 (a b : Int) : Prop := (((((((((True ∧ True) ∧ True) ∧ ((decide ((0 : Int) < ((((2 : Nat) : Nat)) : Int))) = Bool.true)) ∧ ((0 : Int) = (Int.ofNat (0 : Nat)))) ∧ (((Go.Proofs.YtledgemlflbfdaaGreatDoor.Pl.cr a (Go.IntKind.wrap Go.IntKind.i64 ((0 : Int) - (1048576 : Int))) (1048576 : Int)) != (0 : Int)) = Bool.false)) ∧ ((decide ((Go.IntKind.wrap Go.IntKind.i64 ((0 : Int) + (1 : Int))) < ((((2 : Nat) : Nat)) : Int))) = Bool.true)) ∧ ((Go.IntKind.wrap Go.IntKind.i64 ((0 : Int) + (1 : Int))) = (Int.ofNat (1 : Nat)))) ∧ (((Go.Proofs.YtledgemlflbfdaaGreatDoor.Pl.cr b (Go.IntKind.wrap Go.IntKind.i64 ((0 : Int) - (1048576 : Int))) (1048576 : Int)) != (0 : Int)) = Bool.false)) ∧ ((decide ((Go.IntKind.wrap Go.IntKind.i64 ((Go.IntKind.wrap Go.IntKind.i64 ((0 : Int) + (1 : Int))) + (1 : Int))) < ((((2 : Nat) : Nat)) : Int))) = Bool.false))
theorem checkEisen_o0 (a b : Int) : obOf (checkEisen_e0 a b) = checkEisen_r0 a b := by kernel_rfl
theorem checkEisen_v0 (a b : Int) : resOf (checkEisen_e0 a b) = .int Go.IntKind.i64 (0 : Int) := by kernel_rfl
theorem checkEisen_c0 (a b : Int) : cleanOf Tryz.prog.globals.size (checkEisen_e0 a b) = true := by kernel_rfl
theorem checkEisen_q0 (a b : Int) : checkEisen_e0 a b = evFS Tryz.prog x_checkEisen 1000 21 #[.agg #[.int .i64 a, .int .i64 b]] (noTabs 6) ⟨[1, 0, 0, 1, 1, 0, 0], True⟩ := by
  delta checkEisen_e0
  exact Eq.refl _
theorem checkEisen_p0 (a b : Int) (h : checkEisen_r0 a b) (w : World) : Calls Tryz.prog 21 #[.agg #[.int .i64 a, .int .i64 b]] w fun en w' => en = .returned (.int Go.IntKind.i64 (0 : Int)) ∧ Below w.heap.size w w' := by
  have hv := checkEisen_v0 a b
  have hc := checkEisen_c0 a b
  have he := checkEisen_q0 a b
  have ho := checkEisen_o0 a b
  generalize checkEisen_e0 a b = r at *
  exact calls_way he gfol checkEisen_X hv rfl (checkEisen_args a b) hc ho h (bl w)
def checkEisen_r1 (a b : Int) : Prop := ((((((((True ∧ True) ∧ True) ∧ ((decide ((0 : Int) < ((((2 : Nat) : Nat)) : Int))) = Bool.true)) ∧ ((0 : Int) = (Int.ofNat (0 : Nat)))) ∧ (((Go.Proofs.YtledgemlflbfdaaGreatDoor.Pl.cr a (Go.IntKind.wrap Go.IntKind.i64 ((0 : Int) - (1048576 : Int))) (1048576 : Int)) != (0 : Int)) = Bool.false)) ∧ ((decide ((Go.IntKind.wrap Go.IntKind.i64 ((0 : Int) + (1 : Int))) < ((((2 : Nat) : Nat)) : Int))) = Bool.true)) ∧ ((Go.IntKind.wrap Go.IntKind.i64 ((0 : Int) + (1 : Int))) = (Int.ofNat (1 : Nat)))) ∧ (((Go.Proofs.YtledgemlflbfdaaGreatDoor.Pl.cr b (Go.IntKind.wrap Go.IntKind.i64 ((0 : Int) - (1048576 : Int))) (1048576 : Int)) != (0 : Int)) = Bool.true))
theorem checkEisen_o1 (a b : Int) : obOf (checkEisen_e1 a b) = checkEisen_r1 a b := by kernel_rfl
theorem checkEisen_v1 (a b : Int) : resOf (checkEisen_e1 a b) = .int Go.IntKind.i64 (Go.Proofs.YtledgemlflbfdaaGreatDoor.Pl.cr b (Go.IntKind.wrap Go.IntKind.i64 ((0 : Int) - (1048576 : Int))) (1048576 : Int)) := by kernel_rfl
theorem checkEisen_c1 (a b : Int) : cleanOf Tryz.prog.globals.size (checkEisen_e1 a b) = true := by kernel_rfl
theorem checkEisen_q1 (a b : Int) : checkEisen_e1 a b = evFS Tryz.prog x_checkEisen 1000 21 #[.agg #[.int .i64 a, .int .i64 b]] (noTabs 6) ⟨[1, 0, 0, 1, 1, 1], True⟩ := by
  delta checkEisen_e1
  exact Eq.refl _
theorem checkEisen_p1 (a b : Int) (h : checkEisen_r1 a b) (w : World) : Calls Tryz.prog 21 #[.agg #[.int .i64 a, .int .i64 b]] w fun en w' => en = .returned (.int Go.IntKind.i64 (Go.Proofs.YtledgemlflbfdaaGreatDoor.Pl.cr b (Go.IntKind.wrap Go.IntKind.i64 ((0 : Int) - (1048576 : Int))) (1048576 : Int))) ∧ Below w.heap.size w w' := by
  have hv := checkEisen_v1 a b
  have hc := checkEisen_c1 a b
  have he := checkEisen_q1 a b
  have ho := checkEisen_o1 a b
  generalize checkEisen_e1 a b = r at *
  exact calls_way he gfol checkEisen_X hv rfl (checkEisen_args a b) hc ho h (bl w)
def checkEisen_r2 (a b : Int) : Prop := (((((True ∧ True) ∧ True) ∧ ((decide ((0 : Int) < ((((2 : Nat) : Nat)) : Int))) = Bool.true)) ∧ ((0 : Int) = (Int.ofNat (0 : Nat)))) ∧ (((Go.Proofs.YtledgemlflbfdaaGreatDoor.Pl.cr a (Go.IntKind.wrap Go.IntKind.i64 ((0 : Int) - (1048576 : Int))) (1048576 : Int)) != (0 : Int)) = Bool.true))
theorem checkEisen_o2 (a b : Int) : obOf (checkEisen_e2 a b) = checkEisen_r2 a b := by kernel_rfl
theorem checkEisen_v2 (a b : Int) : resOf (checkEisen_e2 a b) = .int Go.IntKind.i64 (Go.Proofs.YtledgemlflbfdaaGreatDoor.Pl.cr a (Go.IntKind.wrap Go.IntKind.i64 ((0 : Int) - (1048576 : Int))) (1048576 : Int)) := by kernel_rfl
theorem checkEisen_c2 (a b : Int) : cleanOf Tryz.prog.globals.size (checkEisen_e2 a b) = true := by kernel_rfl
theorem checkEisen_q2 (a b : Int) : checkEisen_e2 a b = evFS Tryz.prog x_checkEisen 1000 21 #[.agg #[.int .i64 a, .int .i64 b]] (noTabs 6) ⟨[1, 0, 1], True⟩ := by
  delta checkEisen_e2
  exact Eq.refl _
theorem checkEisen_p2 (a b : Int) (h : checkEisen_r2 a b) (w : World) : Calls Tryz.prog 21 #[.agg #[.int .i64 a, .int .i64 b]] w fun en w' => en = .returned (.int Go.IntKind.i64 (Go.Proofs.YtledgemlflbfdaaGreatDoor.Pl.cr a (Go.IntKind.wrap Go.IntKind.i64 ((0 : Int) - (1048576 : Int))) (1048576 : Int))) ∧ Below w.heap.size w w' := by
  have hv := checkEisen_v2 a b
  have hc := checkEisen_c2 a b
  have he := checkEisen_q2 a b
  have ho := checkEisen_o2 a b
  generalize checkEisen_e2 a b = r at *
  exact calls_way he gfol checkEisen_X hv rfl (checkEisen_args a b) hc ho h (bl w)
theorem checkEisen_any (a b : Int) (hpre : True) (w : World) : Calls Tryz.prog 21 #[.agg #[.int .i64 a, .int .i64 b]] w fun en w' => en = .returned (.int .i64 (Pl.parts a b 1048576)) ∧ Below w.heap.size w w' := by
  have h0 : True := by
    first | rfl | trivial | decide | assumption | ((try simp only [bne_iff_ne, ne_eq, decide_eq_true_eq, decide_eq_false_iff_not, Bool.not_eq_true', Bool.not_eq_false', beq_iff_eq, beq_eq_false_iff_ne, bne_eq_false_iff_eq, Bool.and_eq_true, Bool.not_eq_true, Bool.not_eq_false, Pl.cr, parts_eq, w20, w16, wT, w20', w16', wT', Pl.lim, Pl.inB, first_two, two, oneB, Bg] at *); first | omega | grind)
  have h1 : ((decide ((0 : Int) < ((((2 : Nat) : Nat)) : Int))) = Bool.true) := by
    first | rfl | trivial | decide | assumption | ((try simp only [bne_iff_ne, ne_eq, decide_eq_true_eq, decide_eq_false_iff_not, Bool.not_eq_true', Bool.not_eq_false', beq_iff_eq, beq_eq_false_iff_ne, bne_eq_false_iff_eq, Bool.and_eq_true, Bool.not_eq_true, Bool.not_eq_false, Pl.cr, parts_eq, w20, w16, wT, w20', w16', wT', Pl.lim, Pl.inB, first_two, two, oneB, Bg] at *); first | omega | grind)
  have h2 : ((0 : Int) = (Int.ofNat (0 : Nat))) := by
    first | rfl | trivial | decide | assumption | ((try simp only [bne_iff_ne, ne_eq, decide_eq_true_eq, decide_eq_false_iff_not, Bool.not_eq_true', Bool.not_eq_false', beq_iff_eq, beq_eq_false_iff_ne, bne_eq_false_iff_eq, Bool.and_eq_true, Bool.not_eq_true, Bool.not_eq_false, Pl.cr, parts_eq, w20, w16, wT, w20', w16', wT', Pl.lim, Pl.inB, first_two, two, oneB, Bg] at *); first | omega | grind)
  rcases Bool.eq_false_or_eq_true ((Go.Proofs.YtledgemlflbfdaaGreatDoor.Pl.cr a (Go.IntKind.wrap Go.IntKind.i64 ((0 : Int) - (1048576 : Int))) (1048576 : Int)) != (0 : Int)) with h3 | h3
  ·
    have hp := checkEisen_p2 a b ⟨⟨⟨⟨⟨trivial, h0⟩, h0⟩, h1⟩, h2⟩, h3⟩ w
    have hv : (.int Go.IntKind.i64 (Go.Proofs.YtledgemlflbfdaaGreatDoor.Pl.cr a (Go.IntKind.wrap Go.IntKind.i64 ((0 : Int) - (1048576 : Int))) (1048576 : Int)) : Value) = .int .i64 (Pl.parts a b 1048576) := by
      clear hp
      first | rfl | ((try simp only [bne_iff_ne, ne_eq, decide_eq_true_eq, decide_eq_false_iff_not, Bool.not_eq_true', Bool.not_eq_false', beq_iff_eq, beq_eq_false_iff_ne, bne_eq_false_iff_eq, Bool.and_eq_true, Bool.not_eq_true, Bool.not_eq_false, Pl.cr, parts_eq, w20, w16, wT, w20', w16', wT', Pl.lim, Pl.inB, first_two, two, oneB, Bg] at *); grind)
    exact hv ▸ hp
  ·
    have h4 : ((decide ((Go.IntKind.wrap Go.IntKind.i64 ((0 : Int) + (1 : Int))) < ((((2 : Nat) : Nat)) : Int))) = Bool.true) := by
      first | rfl | trivial | decide | assumption | ((try simp only [bne_iff_ne, ne_eq, decide_eq_true_eq, decide_eq_false_iff_not, Bool.not_eq_true', Bool.not_eq_false', beq_iff_eq, beq_eq_false_iff_ne, bne_eq_false_iff_eq, Bool.and_eq_true, Bool.not_eq_true, Bool.not_eq_false, Pl.cr, parts_eq, w20, w16, wT, w20', w16', wT', Pl.lim, Pl.inB, first_two, two, oneB, Bg] at *); first | omega | grind)
    have h5 : ((Go.IntKind.wrap Go.IntKind.i64 ((0 : Int) + (1 : Int))) = (Int.ofNat (1 : Nat))) := by
      first | rfl | trivial | decide | assumption | ((try simp only [bne_iff_ne, ne_eq, decide_eq_true_eq, decide_eq_false_iff_not, Bool.not_eq_true', Bool.not_eq_false', beq_iff_eq, beq_eq_false_iff_ne, bne_eq_false_iff_eq, Bool.and_eq_true, Bool.not_eq_true, Bool.not_eq_false, Pl.cr, parts_eq, w20, w16, wT, w20', w16', wT', Pl.lim, Pl.inB, first_two, two, oneB, Bg] at *); first | omega | grind)
    rcases Bool.eq_false_or_eq_true ((Go.Proofs.YtledgemlflbfdaaGreatDoor.Pl.cr b (Go.IntKind.wrap Go.IntKind.i64 ((0 : Int) - (1048576 : Int))) (1048576 : Int)) != (0 : Int)) with h6 | h6
    ·
      have hp := checkEisen_p1 a b ⟨⟨⟨⟨⟨⟨⟨⟨trivial, h0⟩, h0⟩, h1⟩, h2⟩, h3⟩, h4⟩, h5⟩, h6⟩ w
      have hv : (.int Go.IntKind.i64 (Go.Proofs.YtledgemlflbfdaaGreatDoor.Pl.cr b (Go.IntKind.wrap Go.IntKind.i64 ((0 : Int) - (1048576 : Int))) (1048576 : Int)) : Value) = .int .i64 (Pl.parts a b 1048576) := by
        clear hp
        first | rfl | ((try simp only [bne_iff_ne, ne_eq, decide_eq_true_eq, decide_eq_false_iff_not, Bool.not_eq_true', Bool.not_eq_false', beq_iff_eq, beq_eq_false_iff_ne, bne_eq_false_iff_eq, Bool.and_eq_true, Bool.not_eq_true, Bool.not_eq_false, Pl.cr, parts_eq, w20, w16, wT, w20', w16', wT', Pl.lim, Pl.inB, first_two, two, oneB, Bg] at *); grind)
      exact hv ▸ hp
    ·
      have h7 : ((decide ((Go.IntKind.wrap Go.IntKind.i64 ((Go.IntKind.wrap Go.IntKind.i64 ((0 : Int) + (1 : Int))) + (1 : Int))) < ((((2 : Nat) : Nat)) : Int))) = Bool.false) := by
        first | rfl | trivial | decide | assumption | ((try simp only [bne_iff_ne, ne_eq, decide_eq_true_eq, decide_eq_false_iff_not, Bool.not_eq_true', Bool.not_eq_false', beq_iff_eq, beq_eq_false_iff_ne, bne_eq_false_iff_eq, Bool.and_eq_true, Bool.not_eq_true, Bool.not_eq_false, Pl.cr, parts_eq, w20, w16, wT, w20', w16', wT', Pl.lim, Pl.inB, first_two, two, oneB, Bg] at *); first | omega | grind)
      have hp := checkEisen_p0 a b ⟨⟨⟨⟨⟨⟨⟨⟨⟨trivial, h0⟩, h0⟩, h1⟩, h2⟩, h3⟩, h4⟩, h5⟩, h6⟩, h7⟩ w
      have hv : (.int Go.IntKind.i64 (0 : Int) : Value) = .int .i64 (Pl.parts a b 1048576) := by
        clear hp
        first | rfl | ((try simp only [bne_iff_ne, ne_eq, decide_eq_true_eq, decide_eq_false_iff_not, Bool.not_eq_true', Bool.not_eq_false', beq_iff_eq, beq_eq_false_iff_ne, bne_eq_false_iff_eq, Bool.and_eq_true, Bool.not_eq_true, Bool.not_eq_false, Pl.cr, parts_eq, w20, w16, wT, w20', w16', wT', Pl.lim, Pl.inB, first_two, two, oneB, Bg] at *); grind)
      exact hv ▸ hp
theorem k_checkEisen : ConOk Tryz.prog c_checkEisen := fun ns hl => by
  have hl0 : ns.length = 2 := hl
  clear hl
  obtain ⟨a, ns0, rfl, hl1⟩ := len_cons hl0
  obtain ⟨b, ns1, rfl, hl2⟩ := len_cons hl1
  obtain rfl := len_nil hl2
  exact ⟨rfl, fun h w => checkEisen_any a b h w⟩
end Go.Proofs.YtledgemlflbfdaaGreatDoor
end
section
set_option linter.all false
set_option maxRecDepth 1000000
set_option maxHeartbeats 2000000
open Go.RowKit
namespace Go.Proofs.YtledgemlflbfdaaGreatDoor
open Mini

theorem sum_X : FOkS Tryz.prog x_sum := noXS_ok
theorem sum_args (a b c d : Int) : (#[.agg #[.int .i64 a, .int .i64 b], .agg #[.int .i64 c, .int .i64 d]] : Array Value).toList.all (ground 8) = true := by kernel_rfl
def sum_r0 (a b c d : Int) : Prop := True
theorem sum_o0 (a b c d : Int) : obOf (sum_e0 a b c d) = sum_r0 a b c d := by kernel_rfl
theorem sum_v0 (a b c d : Int) : resOf (sum_e0 a b c d) = .agg #[.int Go.IntKind.i64 (Go.IntKind.wrap Go.IntKind.i64 (a + c)), .int Go.IntKind.i64 (Go.IntKind.wrap Go.IntKind.i64 (b + d))] := by kernel_rfl
theorem sum_c0 (a b c d : Int) : cleanOf Tryz.prog.globals.size (sum_e0 a b c d) = true := by kernel_rfl
theorem sum_q0 (a b c d : Int) : sum_e0 a b c d = evFS Tryz.prog x_sum 1000 49 #[.agg #[.int .i64 a, .int .i64 b], .agg #[.int .i64 c, .int .i64 d]] (noTabs 6) ⟨[], True⟩ := by
  delta sum_e0
  exact Eq.refl _
theorem sum_p0 (a b c d : Int) (h : sum_r0 a b c d) (w : World) : Calls Tryz.prog 49 #[.agg #[.int .i64 a, .int .i64 b], .agg #[.int .i64 c, .int .i64 d]] w fun en w' => en = .returned (.agg #[.int Go.IntKind.i64 (Go.IntKind.wrap Go.IntKind.i64 (a + c)), .int Go.IntKind.i64 (Go.IntKind.wrap Go.IntKind.i64 (b + d))]) ∧ Below w.heap.size w w' := by
  have hv := sum_v0 a b c d
  have hc := sum_c0 a b c d
  have he := sum_q0 a b c d
  have ho := sum_o0 a b c d
  generalize sum_e0 a b c d = r at *
  exact calls_way he gfol sum_X hv rfl (sum_args a b c d) hc ho h (bl w)
theorem sum_any (a b c d : Int) (hpre : Bg 1099511627776 a b ∧ Bg 1099511627776 c d) (w : World) : Calls Tryz.prog 49 #[.agg #[.int .i64 a, .int .i64 b], .agg #[.int .i64 c, .int .i64 d]] w fun en w' => en = .returned (.agg #[.int .i64 (Pl.add (a, b) (c, d)).1, .int .i64 (Pl.add (a, b) (c, d)).2]) ∧ Below w.heap.size w w' := by
  have hp := sum_p0 a b c d trivial w
  have hv : (.agg #[.int Go.IntKind.i64 (Go.IntKind.wrap Go.IntKind.i64 (a + c)), .int Go.IntKind.i64 (Go.IntKind.wrap Go.IntKind.i64 (b + d))] : Value) = .agg #[.int .i64 (Pl.add (a, b) (c, d)).1, .int .i64 (Pl.add (a, b) (c, d)).2] := by
    clear hp
    unfold Bg at hpre; (try simp (disch := omega) only [wi]); rfl
  exact hv ▸ hp
theorem k_sum : ConOk Tryz.prog c_sum := fun ns hl => by
  have hl0 : ns.length = 4 := hl
  clear hl
  obtain ⟨a, ns0, rfl, hl1⟩ := len_cons hl0
  obtain ⟨b, ns1, rfl, hl2⟩ := len_cons hl1
  obtain ⟨c, ns2, rfl, hl3⟩ := len_cons hl2
  obtain ⟨d, ns3, rfl, hl4⟩ := len_cons hl3
  obtain rfl := len_nil hl4
  exact ⟨rfl, fun h w => sum_any a b c d h w⟩
end Go.Proofs.YtledgemlflbfdaaGreatDoor
end
section
set_option linter.all false
set_option maxRecDepth 1000000
set_option maxHeartbeats 2000000
open Go.RowKit
namespace Go.Proofs.YtledgemlflbfdaaGreatDoor
open Mini

theorem limited_X : FOkS Tryz.prog x_limited := noXS_ok
theorem limited_args (a b : Int) : (#[.agg #[.int .i64 a, .int .i64 b]] : Array Value).toList.all (ground 8) = true := by kernel_rfl
def limited_r0 (a b : Int) : Prop := (True ∧ ((Bool.not (Bool.and ((if ((1048576 : Int) < (if ((Go.IntKind.wrap Go.IntKind.i64 ((0 : Int) - (1048576 : Int))) > a) then (Go.IntKind.wrap Go.IntKind.i64 ((0 : Int) - (1048576 : Int))) else a)) then (1048576 : Int) else (if ((Go.IntKind.wrap Go.IntKind.i64 ((0 : Int) - (1048576 : Int))) > a) then (Go.IntKind.wrap Go.IntKind.i64 ((0 : Int) - (1048576 : Int))) else a)) == a) (Bool.and ((if ((1048576 : Int) < (if ((Go.IntKind.wrap Go.IntKind.i64 ((0 : Int) - (1048576 : Int))) > b) then (Go.IntKind.wrap Go.IntKind.i64 ((0 : Int) - (1048576 : Int))) else b)) then (1048576 : Int) else (if ((Go.IntKind.wrap Go.IntKind.i64 ((0 : Int) - (1048576 : Int))) > b) then (Go.IntKind.wrap Go.IntKind.i64 ((0 : Int) - (1048576 : Int))) else b)) == b) Bool.true))) = Bool.false))
theorem limited_o0 (a b : Int) : obOf (limited_e0 a b) = limited_r0 a b := by kernel_rfl
theorem limited_v0 (a b : Int) : resOf (limited_e0 a b) = .tuple #[.agg #[.int Go.IntKind.i64 a, .int Go.IntKind.i64 b], .int Go.IntKind.i64 (0 : Int)] := by kernel_rfl
theorem limited_c0 (a b : Int) : cleanOf Tryz.prog.globals.size (limited_e0 a b) = true := by kernel_rfl
theorem limited_q0 (a b : Int) : limited_e0 a b = evFS Tryz.prog x_limited 1000 48 #[.agg #[.int .i64 a, .int .i64 b]] (noTabs 6) ⟨[0], True⟩ := by
  delta limited_e0
  exact Eq.refl _
theorem limited_p0 (a b : Int) (h : limited_r0 a b) (w : World) : Calls Tryz.prog 48 #[.agg #[.int .i64 a, .int .i64 b]] w fun en w' => en = .returned (.tuple #[.agg #[.int Go.IntKind.i64 a, .int Go.IntKind.i64 b], .int Go.IntKind.i64 (0 : Int)]) ∧ Below w.heap.size w w' := by
  have hv := limited_v0 a b
  have hc := limited_c0 a b
  have he := limited_q0 a b
  have ho := limited_o0 a b
  generalize limited_e0 a b = r at *
  exact calls_way he gfol limited_X hv rfl (limited_args a b) hc ho h (bl w)
def limited_r1 (a b : Int) : Prop := (True ∧ ((Bool.not (Bool.and ((if ((1048576 : Int) < (if ((Go.IntKind.wrap Go.IntKind.i64 ((0 : Int) - (1048576 : Int))) > a) then (Go.IntKind.wrap Go.IntKind.i64 ((0 : Int) - (1048576 : Int))) else a)) then (1048576 : Int) else (if ((Go.IntKind.wrap Go.IntKind.i64 ((0 : Int) - (1048576 : Int))) > a) then (Go.IntKind.wrap Go.IntKind.i64 ((0 : Int) - (1048576 : Int))) else a)) == a) (Bool.and ((if ((1048576 : Int) < (if ((Go.IntKind.wrap Go.IntKind.i64 ((0 : Int) - (1048576 : Int))) > b) then (Go.IntKind.wrap Go.IntKind.i64 ((0 : Int) - (1048576 : Int))) else b)) then (1048576 : Int) else (if ((Go.IntKind.wrap Go.IntKind.i64 ((0 : Int) - (1048576 : Int))) > b) then (Go.IntKind.wrap Go.IntKind.i64 ((0 : Int) - (1048576 : Int))) else b)) == b) Bool.true))) = Bool.true))
theorem limited_o1 (a b : Int) : obOf (limited_e1 a b) = limited_r1 a b := by kernel_rfl
theorem limited_v1 (a b : Int) : resOf (limited_e1 a b) = .tuple #[.agg #[.int Go.IntKind.i64 (0 : Int), .int Go.IntKind.i64 (0 : Int)], .int Go.IntKind.i64 (4 : Int)] := by kernel_rfl
theorem limited_c1 (a b : Int) : cleanOf Tryz.prog.globals.size (limited_e1 a b) = true := by kernel_rfl
theorem limited_q1 (a b : Int) : limited_e1 a b = evFS Tryz.prog x_limited 1000 48 #[.agg #[.int .i64 a, .int .i64 b]] (noTabs 6) ⟨[1], True⟩ := by
  delta limited_e1
  exact Eq.refl _
theorem limited_p1 (a b : Int) (h : limited_r1 a b) (w : World) : Calls Tryz.prog 48 #[.agg #[.int .i64 a, .int .i64 b]] w fun en w' => en = .returned (.tuple #[.agg #[.int Go.IntKind.i64 (0 : Int), .int Go.IntKind.i64 (0 : Int)], .int Go.IntKind.i64 (4 : Int)]) ∧ Below w.heap.size w w' := by
  have hv := limited_v1 a b
  have hc := limited_c1 a b
  have he := limited_q1 a b
  have ho := limited_o1 a b
  generalize limited_e1 a b = r at *
  exact calls_way he gfol limited_X hv rfl (limited_args a b) hc ho h (bl w)
theorem limited_any (a b : Int) (hpre : True) (w : World) : Calls Tryz.prog 48 #[.agg #[.int .i64 a, .int .i64 b]] w fun en w' => en = .returned (.tuple #[.agg #[.int .i64 (Pl.lim (a, b)).1.1, .int .i64 (Pl.lim (a, b)).1.2], .int .i64 (Pl.lim (a, b)).2]) ∧ Below w.heap.size w w' := by
  rcases Bool.eq_false_or_eq_true (Bool.not (Bool.and ((if ((1048576 : Int) < (if ((Go.IntKind.wrap Go.IntKind.i64 ((0 : Int) - (1048576 : Int))) > a) then (Go.IntKind.wrap Go.IntKind.i64 ((0 : Int) - (1048576 : Int))) else a)) then (1048576 : Int) else (if ((Go.IntKind.wrap Go.IntKind.i64 ((0 : Int) - (1048576 : Int))) > a) then (Go.IntKind.wrap Go.IntKind.i64 ((0 : Int) - (1048576 : Int))) else a)) == a) (Bool.and ((if ((1048576 : Int) < (if ((Go.IntKind.wrap Go.IntKind.i64 ((0 : Int) - (1048576 : Int))) > b) then (Go.IntKind.wrap Go.IntKind.i64 ((0 : Int) - (1048576 : Int))) else b)) then (1048576 : Int) else (if ((Go.IntKind.wrap Go.IntKind.i64 ((0 : Int) - (1048576 : Int))) > b) then (Go.IntKind.wrap Go.IntKind.i64 ((0 : Int) - (1048576 : Int))) else b)) == b) Bool.true))) with h0 | h0
  ·
    have hp := limited_p1 a b ⟨trivial, h0⟩ w
    have hv : (.tuple #[.agg #[.int Go.IntKind.i64 (0 : Int), .int Go.IntKind.i64 (0 : Int)], .int Go.IntKind.i64 (4 : Int)] : Value) = .tuple #[.agg #[.int .i64 (Pl.lim (a, b)).1.1, .int .i64 (Pl.lim (a, b)).1.2], .int .i64 (Pl.lim (a, b)).2] := by
      clear hp
      first | rfl | ((try simp only [bne_iff_ne, ne_eq, decide_eq_true_eq, decide_eq_false_iff_not, Bool.not_eq_true', Bool.not_eq_false', beq_iff_eq, beq_eq_false_iff_ne, bne_eq_false_iff_eq, Bool.and_eq_true, Bool.not_eq_true, Bool.not_eq_false, Pl.cr, parts_eq, w20, w16, wT, w20', w16', wT', Pl.lim, Pl.inB, first_two, two, oneB, Bg] at *); grind)
    exact hv ▸ hp
  ·
    have hp := limited_p0 a b ⟨trivial, h0⟩ w
    have hv : (.tuple #[.agg #[.int Go.IntKind.i64 a, .int Go.IntKind.i64 b], .int Go.IntKind.i64 (0 : Int)] : Value) = .tuple #[.agg #[.int .i64 (Pl.lim (a, b)).1.1, .int .i64 (Pl.lim (a, b)).1.2], .int .i64 (Pl.lim (a, b)).2] := by
      clear hp
      first | rfl | ((try simp only [bne_iff_ne, ne_eq, decide_eq_true_eq, decide_eq_false_iff_not, Bool.not_eq_true', Bool.not_eq_false', beq_iff_eq, beq_eq_false_iff_ne, bne_eq_false_iff_eq, Bool.and_eq_true, Bool.not_eq_true, Bool.not_eq_false, Pl.cr, parts_eq, w20, w16, wT, w20', w16', wT', Pl.lim, Pl.inB, first_two, two, oneB, Bg] at *); grind)
    exact hv ▸ hp
theorem k_limited : ConOk Tryz.prog c_limited := fun ns hl => by
  have hl0 : ns.length = 2 := hl
  clear hl
  obtain ⟨a, ns0, rfl, hl1⟩ := len_cons hl0
  obtain ⟨b, ns1, rfl, hl2⟩ := len_cons hl1
  obtain rfl := len_nil hl2
  exact ⟨rfl, fun h w => limited_any a b h w⟩
end Go.Proofs.YtledgemlflbfdaaGreatDoor
end
section
set_option linter.all false
set_option maxRecDepth 1000000
set_option maxHeartbeats 2000000
open Go.RowKit
namespace Go.Proofs.YtledgemlflbfdaaGreatDoor
open Mini

theorem add_X : FOkS Tryz.prog x_add := kAll_ok _ ⟨k_checkEisen, k_sum, k_limited, trivial⟩
theorem add_args (a b c d : Int) : (#[.agg #[.int .i64 a, .int .i64 b], .agg #[.int .i64 c, .int .i64 d]] : Array Value).toList.all (ground 8) = true := by kernel_rfl
def add_r0 (a b c d : Int) : Prop := ((((((((((((True ∧ True) ∧ True) ∧ ((decide ((0 : Int) < ((((2 : Nat) : Nat)) : Int))) = Bool.true)) ∧ ((0 : Int) = (Int.ofNat (0 : Nat)))) ∧ (((Go.Proofs.YtledgemlflbfdaaGreatDoor.Pl.parts a b (1048576 : Int)) != (0 : Int)) = Bool.false)) ∧ ((decide ((Go.IntKind.wrap Go.IntKind.i64 ((0 : Int) + (1 : Int))) < ((((2 : Nat) : Nat)) : Int))) = Bool.true)) ∧ ((Go.IntKind.wrap Go.IntKind.i64 ((0 : Int) + (1 : Int))) = (Int.ofNat (1 : Nat)))) ∧ (((Go.Proofs.YtledgemlflbfdaaGreatDoor.Pl.parts c d (1048576 : Int)) != (0 : Int)) = Bool.false)) ∧ ((decide ((Go.IntKind.wrap Go.IntKind.i64 ((Go.IntKind.wrap Go.IntKind.i64 ((0 : Int) + (1 : Int))) + (1 : Int))) < ((((2 : Nat) : Nat)) : Int))) = Bool.false)) ∧ (((0 : Int) != (0 : Int)) = Bool.false)) ∧ ((Go.Proofs.YtledgemlflbfdaaGreatDoor.Bg (1099511627776 : Int) a b) ∧ (Go.Proofs.YtledgemlflbfdaaGreatDoor.Bg (1099511627776 : Int) c d))) ∧ True)
theorem add_o0 (a b c d : Int) : obOf (add_e0 a b c d) = add_r0 a b c d := by kernel_rfl
theorem add_v0 (a b c d : Int) : resOf (add_e0 a b c d) = .tuple #[.agg #[.int Go.IntKind.i64 (((Go.Proofs.YtledgemlflbfdaaGreatDoor.Pl.lim (((Go.Proofs.YtledgemlflbfdaaGreatDoor.Pl.add (a, b) (c, d))).1, ((Go.Proofs.YtledgemlflbfdaaGreatDoor.Pl.add (a, b) (c, d))).2))).1).1, .int Go.IntKind.i64 (((Go.Proofs.YtledgemlflbfdaaGreatDoor.Pl.lim (((Go.Proofs.YtledgemlflbfdaaGreatDoor.Pl.add (a, b) (c, d))).1, ((Go.Proofs.YtledgemlflbfdaaGreatDoor.Pl.add (a, b) (c, d))).2))).1).2], .int Go.IntKind.i64 ((Go.Proofs.YtledgemlflbfdaaGreatDoor.Pl.lim (((Go.Proofs.YtledgemlflbfdaaGreatDoor.Pl.add (a, b) (c, d))).1, ((Go.Proofs.YtledgemlflbfdaaGreatDoor.Pl.add (a, b) (c, d))).2))).2] := by kernel_rfl
theorem add_c0 (a b c d : Int) : cleanOf Tryz.prog.globals.size (add_e0 a b c d) = true := by kernel_rfl
theorem add_q0 (a b c d : Int) : add_e0 a b c d = evFS Tryz.prog x_add 1000 9 #[.agg #[.int .i64 a, .int .i64 b], .agg #[.int .i64 c, .int .i64 d]] (noTabs 6) ⟨[1, 0, 0, 1, 1, 0, 0, 0], True⟩ := by
  delta add_e0
  exact Eq.refl _
theorem add_p0 (a b c d : Int) (h : add_r0 a b c d) (w : World) : Calls Tryz.prog 9 #[.agg #[.int .i64 a, .int .i64 b], .agg #[.int .i64 c, .int .i64 d]] w fun en w' => en = .returned (.tuple #[.agg #[.int Go.IntKind.i64 (((Go.Proofs.YtledgemlflbfdaaGreatDoor.Pl.lim (((Go.Proofs.YtledgemlflbfdaaGreatDoor.Pl.add (a, b) (c, d))).1, ((Go.Proofs.YtledgemlflbfdaaGreatDoor.Pl.add (a, b) (c, d))).2))).1).1, .int Go.IntKind.i64 (((Go.Proofs.YtledgemlflbfdaaGreatDoor.Pl.lim (((Go.Proofs.YtledgemlflbfdaaGreatDoor.Pl.add (a, b) (c, d))).1, ((Go.Proofs.YtledgemlflbfdaaGreatDoor.Pl.add (a, b) (c, d))).2))).1).2], .int Go.IntKind.i64 ((Go.Proofs.YtledgemlflbfdaaGreatDoor.Pl.lim (((Go.Proofs.YtledgemlflbfdaaGreatDoor.Pl.add (a, b) (c, d))).1, ((Go.Proofs.YtledgemlflbfdaaGreatDoor.Pl.add (a, b) (c, d))).2))).2]) ∧ Below w.heap.size w w' := by
  have hv := add_v0 a b c d
  have hc := add_c0 a b c d
  have he := add_q0 a b c d
  have ho := add_o0 a b c d
  generalize add_e0 a b c d = r at *
  exact calls_way he gfol add_X hv rfl (add_args a b c d) hc ho h (bl w)
def add_r1 (a b c d : Int) : Prop := (((((((((True ∧ True) ∧ True) ∧ ((decide ((0 : Int) < ((((2 : Nat) : Nat)) : Int))) = Bool.true)) ∧ ((0 : Int) = (Int.ofNat (0 : Nat)))) ∧ (((Go.Proofs.YtledgemlflbfdaaGreatDoor.Pl.parts a b (1048576 : Int)) != (0 : Int)) = Bool.false)) ∧ ((decide ((Go.IntKind.wrap Go.IntKind.i64 ((0 : Int) + (1 : Int))) < ((((2 : Nat) : Nat)) : Int))) = Bool.true)) ∧ ((Go.IntKind.wrap Go.IntKind.i64 ((0 : Int) + (1 : Int))) = (Int.ofNat (1 : Nat)))) ∧ (((Go.Proofs.YtledgemlflbfdaaGreatDoor.Pl.parts c d (1048576 : Int)) != (0 : Int)) = Bool.true)) ∧ (((Go.Proofs.YtledgemlflbfdaaGreatDoor.Pl.parts c d (1048576 : Int)) != (0 : Int)) = Bool.true))
theorem add_o1 (a b c d : Int) : obOf (add_e1 a b c d) = add_r1 a b c d := by kernel_rfl
theorem add_v1 (a b c d : Int) : resOf (add_e1 a b c d) = .tuple #[.agg #[.int Go.IntKind.i64 (0 : Int), .int Go.IntKind.i64 (0 : Int)], .int Go.IntKind.i64 (Go.Proofs.YtledgemlflbfdaaGreatDoor.Pl.parts c d (1048576 : Int))] := by kernel_rfl
theorem add_c1 (a b c d : Int) : cleanOf Tryz.prog.globals.size (add_e1 a b c d) = true := by kernel_rfl
theorem add_q1 (a b c d : Int) : add_e1 a b c d = evFS Tryz.prog x_add 1000 9 #[.agg #[.int .i64 a, .int .i64 b], .agg #[.int .i64 c, .int .i64 d]] (noTabs 6) ⟨[1, 0, 0, 1, 1, 1, 1], True⟩ := by
  delta add_e1
  exact Eq.refl _
theorem add_p1 (a b c d : Int) (h : add_r1 a b c d) (w : World) : Calls Tryz.prog 9 #[.agg #[.int .i64 a, .int .i64 b], .agg #[.int .i64 c, .int .i64 d]] w fun en w' => en = .returned (.tuple #[.agg #[.int Go.IntKind.i64 (0 : Int), .int Go.IntKind.i64 (0 : Int)], .int Go.IntKind.i64 (Go.Proofs.YtledgemlflbfdaaGreatDoor.Pl.parts c d (1048576 : Int))]) ∧ Below w.heap.size w w' := by
  have hv := add_v1 a b c d
  have hc := add_c1 a b c d
  have he := add_q1 a b c d
  have ho := add_o1 a b c d
  generalize add_e1 a b c d = r at *
  exact calls_way he gfol add_X hv rfl (add_args a b c d) hc ho h (bl w)
def add_r2 (a b c d : Int) : Prop := ((((((True ∧ True) ∧ True) ∧ ((decide ((0 : Int) < ((((2 : Nat) : Nat)) : Int))) = Bool.true)) ∧ ((0 : Int) = (Int.ofNat (0 : Nat)))) ∧ (((Go.Proofs.YtledgemlflbfdaaGreatDoor.Pl.parts a b (1048576 : Int)) != (0 : Int)) = Bool.true)) ∧ (((Go.Proofs.YtledgemlflbfdaaGreatDoor.Pl.parts a b (1048576 : Int)) != (0 : Int)) = Bool.true))
theorem add_o2 (a b c d : Int) : obOf (add_e2 a b c d) = add_r2 a b c d := by kernel_rfl
theorem add_v2 (a b c d : Int) : resOf (add_e2 a b c d) = .tuple #[.agg #[.int Go.IntKind.i64 (0 : Int), .int Go.IntKind.i64 (0 : Int)], .int Go.IntKind.i64 (Go.Proofs.YtledgemlflbfdaaGreatDoor.Pl.parts a b (1048576 : Int))] := by kernel_rfl
theorem add_c2 (a b c d : Int) : cleanOf Tryz.prog.globals.size (add_e2 a b c d) = true := by kernel_rfl
theorem add_q2 (a b c d : Int) : add_e2 a b c d = evFS Tryz.prog x_add 1000 9 #[.agg #[.int .i64 a, .int .i64 b], .agg #[.int .i64 c, .int .i64 d]] (noTabs 6) ⟨[1, 0, 1, 1], True⟩ := by
  delta add_e2
  exact Eq.refl _
theorem add_p2 (a b c d : Int) (h : add_r2 a b c d) (w : World) : Calls Tryz.prog 9 #[.agg #[.int .i64 a, .int .i64 b], .agg #[.int .i64 c, .int .i64 d]] w fun en w' => en = .returned (.tuple #[.agg #[.int Go.IntKind.i64 (0 : Int), .int Go.IntKind.i64 (0 : Int)], .int Go.IntKind.i64 (Go.Proofs.YtledgemlflbfdaaGreatDoor.Pl.parts a b (1048576 : Int))]) ∧ Below w.heap.size w w' := by
  have hv := add_v2 a b c d
  have hc := add_c2 a b c d
  have he := add_q2 a b c d
  have ho := add_o2 a b c d
  generalize add_e2 a b c d = r at *
  exact calls_way he gfol add_X hv rfl (add_args a b c d) hc ho h (bl w)
theorem add_any (a b c d : Int) (hpre : True) (w : World) : Calls Tryz.prog 9 #[.agg #[.int .i64 a, .int .i64 b], .agg #[.int .i64 c, .int .i64 d]] w fun en w' => en = .returned (.tuple #[.agg #[.int .i64 (two (Pl.parts a b 1048576) (Pl.parts c d 1048576) (Pl.lim (Pl.add (a, b) (c, d)))).1.1, .int .i64 (two (Pl.parts a b 1048576) (Pl.parts c d 1048576) (Pl.lim (Pl.add (a, b) (c, d)))).1.2], .int .i64 (two (Pl.parts a b 1048576) (Pl.parts c d 1048576) (Pl.lim (Pl.add (a, b) (c, d)))).2]) ∧ Below w.heap.size w w' := by
  have h0 : True := by
    first | rfl | trivial | (simp only [bne_eq_false_iff_eq] at *; exact ⟨bg_of (by assumption) (by decide), bg_of (by assumption) (by decide)⟩)
  have h1 : ((decide ((0 : Int) < ((((2 : Nat) : Nat)) : Int))) = Bool.true) := by
    first | rfl | trivial | (simp only [bne_eq_false_iff_eq] at *; exact ⟨bg_of (by assumption) (by decide), bg_of (by assumption) (by decide)⟩)
  have h2 : ((0 : Int) = (Int.ofNat (0 : Nat))) := by
    first | rfl | trivial | (simp only [bne_eq_false_iff_eq] at *; exact ⟨bg_of (by assumption) (by decide), bg_of (by assumption) (by decide)⟩)
  rcases Bool.eq_false_or_eq_true ((Go.Proofs.YtledgemlflbfdaaGreatDoor.Pl.parts a b (1048576 : Int)) != (0 : Int)) with h3 | h3
  ·
    have hp := add_p2 a b c d ⟨⟨⟨⟨⟨⟨trivial, h0⟩, h0⟩, h1⟩, h2⟩, h3⟩, h3⟩ w
    have hv : (.tuple #[.agg #[.int Go.IntKind.i64 (0 : Int), .int Go.IntKind.i64 (0 : Int)], .int Go.IntKind.i64 (Go.Proofs.YtledgemlflbfdaaGreatDoor.Pl.parts a b (1048576 : Int))] : Value) = .tuple #[.agg #[.int .i64 (two (Pl.parts a b 1048576) (Pl.parts c d 1048576) (Pl.lim (Pl.add (a, b) (c, d)))).1.1, .int .i64 (two (Pl.parts a b 1048576) (Pl.parts c d 1048576) (Pl.lim (Pl.add (a, b) (c, d)))).1.2], .int .i64 (two (Pl.parts a b 1048576) (Pl.parts c d 1048576) (Pl.lim (Pl.add (a, b) (c, d)))).2] := by
      clear hp
      first | rfl | ((try simp only [bne_iff_ne, ne_eq, decide_eq_true_eq, decide_eq_false_iff_not, Bool.not_eq_true', Bool.not_eq_false', beq_iff_eq, beq_eq_false_iff_ne, bne_eq_false_iff_eq, Bool.and_eq_true, Bool.not_eq_true, Bool.not_eq_false, two] at *); grind)
    exact hv ▸ hp
  ·
    have h4 : ((decide ((Go.IntKind.wrap Go.IntKind.i64 ((0 : Int) + (1 : Int))) < ((((2 : Nat) : Nat)) : Int))) = Bool.true) := by
      first | rfl | trivial | (simp only [bne_eq_false_iff_eq] at *; exact ⟨bg_of (by assumption) (by decide), bg_of (by assumption) (by decide)⟩)
    have h5 : ((Go.IntKind.wrap Go.IntKind.i64 ((0 : Int) + (1 : Int))) = (Int.ofNat (1 : Nat))) := by
      first | rfl | trivial | (simp only [bne_eq_false_iff_eq] at *; exact ⟨bg_of (by assumption) (by decide), bg_of (by assumption) (by decide)⟩)
    rcases Bool.eq_false_or_eq_true ((Go.Proofs.YtledgemlflbfdaaGreatDoor.Pl.parts c d (1048576 : Int)) != (0 : Int)) with h6 | h6
    ·
      have hp := add_p1 a b c d ⟨⟨⟨⟨⟨⟨⟨⟨⟨trivial, h0⟩, h0⟩, h1⟩, h2⟩, h3⟩, h4⟩, h5⟩, h6⟩, h6⟩ w
      have hv : (.tuple #[.agg #[.int Go.IntKind.i64 (0 : Int), .int Go.IntKind.i64 (0 : Int)], .int Go.IntKind.i64 (Go.Proofs.YtledgemlflbfdaaGreatDoor.Pl.parts c d (1048576 : Int))] : Value) = .tuple #[.agg #[.int .i64 (two (Pl.parts a b 1048576) (Pl.parts c d 1048576) (Pl.lim (Pl.add (a, b) (c, d)))).1.1, .int .i64 (two (Pl.parts a b 1048576) (Pl.parts c d 1048576) (Pl.lim (Pl.add (a, b) (c, d)))).1.2], .int .i64 (two (Pl.parts a b 1048576) (Pl.parts c d 1048576) (Pl.lim (Pl.add (a, b) (c, d)))).2] := by
        clear hp
        first | rfl | ((try simp only [bne_iff_ne, ne_eq, decide_eq_true_eq, decide_eq_false_iff_not, Bool.not_eq_true', Bool.not_eq_false', beq_iff_eq, beq_eq_false_iff_ne, bne_eq_false_iff_eq, Bool.and_eq_true, Bool.not_eq_true, Bool.not_eq_false, two] at *); grind)
      exact hv ▸ hp
    ·
      have h7 : ((decide ((Go.IntKind.wrap Go.IntKind.i64 ((Go.IntKind.wrap Go.IntKind.i64 ((0 : Int) + (1 : Int))) + (1 : Int))) < ((((2 : Nat) : Nat)) : Int))) = Bool.false) := by
        first | rfl | trivial | (simp only [bne_eq_false_iff_eq] at *; exact ⟨bg_of (by assumption) (by decide), bg_of (by assumption) (by decide)⟩)
      have h8 : (((0 : Int) != (0 : Int)) = Bool.false) := by
        first | rfl | trivial | (simp only [bne_eq_false_iff_eq] at *; exact ⟨bg_of (by assumption) (by decide), bg_of (by assumption) (by decide)⟩)
      have h9 : ((Go.Proofs.YtledgemlflbfdaaGreatDoor.Bg (1099511627776 : Int) a b) ∧ (Go.Proofs.YtledgemlflbfdaaGreatDoor.Bg (1099511627776 : Int) c d)) := by
        first | rfl | trivial | (simp only [bne_eq_false_iff_eq] at *; exact ⟨bg_of (by assumption) (by decide), bg_of (by assumption) (by decide)⟩)
      have hp := add_p0 a b c d ⟨⟨⟨⟨⟨⟨⟨⟨⟨⟨⟨⟨trivial, h0⟩, h0⟩, h1⟩, h2⟩, h3⟩, h4⟩, h5⟩, h6⟩, h7⟩, h8⟩, h9⟩, h0⟩ w
      have hv : (.tuple #[.agg #[.int Go.IntKind.i64 (((Go.Proofs.YtledgemlflbfdaaGreatDoor.Pl.lim (((Go.Proofs.YtledgemlflbfdaaGreatDoor.Pl.add (a, b) (c, d))).1, ((Go.Proofs.YtledgemlflbfdaaGreatDoor.Pl.add (a, b) (c, d))).2))).1).1, .int Go.IntKind.i64 (((Go.Proofs.YtledgemlflbfdaaGreatDoor.Pl.lim (((Go.Proofs.YtledgemlflbfdaaGreatDoor.Pl.add (a, b) (c, d))).1, ((Go.Proofs.YtledgemlflbfdaaGreatDoor.Pl.add (a, b) (c, d))).2))).1).2], .int Go.IntKind.i64 ((Go.Proofs.YtledgemlflbfdaaGreatDoor.Pl.lim (((Go.Proofs.YtledgemlflbfdaaGreatDoor.Pl.add (a, b) (c, d))).1, ((Go.Proofs.YtledgemlflbfdaaGreatDoor.Pl.add (a, b) (c, d))).2))).2] : Value) = .tuple #[.agg #[.int .i64 (two (Pl.parts a b 1048576) (Pl.parts c d 1048576) (Pl.lim (Pl.add (a, b) (c, d)))).1.1, .int .i64 (two (Pl.parts a b 1048576) (Pl.parts c d 1048576) (Pl.lim (Pl.add (a, b) (c, d)))).1.2], .int .i64 (two (Pl.parts a b 1048576) (Pl.parts c d 1048576) (Pl.lim (Pl.add (a, b) (c, d)))).2] := by
        clear hp
        first | rfl | ((try simp only [bne_iff_ne, ne_eq, decide_eq_true_eq, decide_eq_false_iff_not, Bool.not_eq_true', Bool.not_eq_false', beq_iff_eq, beq_eq_false_iff_ne, bne_eq_false_iff_eq, Bool.and_eq_true, Bool.not_eq_true, Bool.not_eq_false, two] at *); grind)
      exact hv ▸ hp
theorem k_add : ConOk Tryz.prog c_add := fun ns hl => by
  have hl0 : ns.length = 4 := hl
  clear hl
  obtain ⟨a, ns0, rfl, hl1⟩ := len_cons hl0
  obtain ⟨b, ns1, rfl, hl2⟩ := len_cons hl1
  obtain ⟨c, ns2, rfl, hl3⟩ := len_cons hl2
  obtain ⟨d, ns3, rfl, hl4⟩ := len_cons hl3
  obtain rfl := len_nil hl4
  exact ⟨rfl, fun h w => add_any a b c d h w⟩
end Go.Proofs.YtledgemlflbfdaaGreatDoor
end
section
set_option linter.all false
set_option maxRecDepth 1000000
set_option maxHeartbeats 2000000
open Go.RowKit
namespace Go.Proofs.YtledgemlflbfdaaGreatDoor
open Mini

theorem prod_X : FOkS Tryz.prog x_prod := noXS_ok
theorem prod_args (a b c d : Int) : (#[.agg #[.int .i64 a, .int .i64 b], .agg #[.int .i64 c, .int .i64 d]] : Array Value).toList.all (ground 8) = true := by kernel_rfl
def prod_r0 (a b c d : Int) : Prop := True
theorem prod_o0 (a b c d : Int) : obOf (prod_e0 a b c d) = prod_r0 a b c d := by kernel_rfl
theorem prod_v0 (a b c d : Int) : resOf (prod_e0 a b c d) = .agg #[.int Go.IntKind.i64 (Go.IntKind.wrap Go.IntKind.i64 ((Go.IntKind.wrap Go.IntKind.i64 (a * c)) - (Go.IntKind.wrap Go.IntKind.i64 (b * d)))), .int Go.IntKind.i64 (Go.IntKind.wrap Go.IntKind.i64 ((Go.IntKind.wrap Go.IntKind.i64 ((Go.IntKind.wrap Go.IntKind.i64 (a * d)) + (Go.IntKind.wrap Go.IntKind.i64 (b * c)))) - (Go.IntKind.wrap Go.IntKind.i64 (b * d))))] := by kernel_rfl
theorem prod_c0 (a b c d : Int) : cleanOf Tryz.prog.globals.size (prod_e0 a b c d) = true := by kernel_rfl
theorem prod_q0 (a b c d : Int) : prod_e0 a b c d = evFS Tryz.prog x_prod 1000 50 #[.agg #[.int .i64 a, .int .i64 b], .agg #[.int .i64 c, .int .i64 d]] (noTabs 6) ⟨[], True⟩ := by
  delta prod_e0
  exact Eq.refl _
theorem prod_p0 (a b c d : Int) (h : prod_r0 a b c d) (w : World) : Calls Tryz.prog 50 #[.agg #[.int .i64 a, .int .i64 b], .agg #[.int .i64 c, .int .i64 d]] w fun en w' => en = .returned (.agg #[.int Go.IntKind.i64 (Go.IntKind.wrap Go.IntKind.i64 ((Go.IntKind.wrap Go.IntKind.i64 (a * c)) - (Go.IntKind.wrap Go.IntKind.i64 (b * d)))), .int Go.IntKind.i64 (Go.IntKind.wrap Go.IntKind.i64 ((Go.IntKind.wrap Go.IntKind.i64 ((Go.IntKind.wrap Go.IntKind.i64 (a * d)) + (Go.IntKind.wrap Go.IntKind.i64 (b * c)))) - (Go.IntKind.wrap Go.IntKind.i64 (b * d))))]) ∧ Below w.heap.size w w' := by
  have hv := prod_v0 a b c d
  have hc := prod_c0 a b c d
  have he := prod_q0 a b c d
  have ho := prod_o0 a b c d
  generalize prod_e0 a b c d = r at *
  exact calls_way he gfol prod_X hv rfl (prod_args a b c d) hc ho h (bl w)
theorem prod_any (a b c d : Int) (hpre : Bg 268435456 a b ∧ Bg 268435456 c d) (w : World) : Calls Tryz.prog 50 #[.agg #[.int .i64 a, .int .i64 b], .agg #[.int .i64 c, .int .i64 d]] w fun en w' => en = .returned (.agg #[.int .i64 (Pl.mul (a, b) (c, d)).1, .int .i64 (Pl.mul (a, b) (c, d)).2]) ∧ Below w.heap.size w w' := by
  obtain ⟨⟨p1, p2, p3, p4⟩, q1, q2, q3, q4⟩ := hpre
  have b1 := bd 268435456 268435456 a c (by omega) (by omega) ⟨p1, p2⟩ ⟨q1, q2⟩
  have b2 := bd 268435456 268435456 b d (by omega) (by omega) ⟨p3, p4⟩ ⟨q3, q4⟩
  have b3 := bd 268435456 268435456 a d (by omega) (by omega) ⟨p1, p2⟩ ⟨q3, q4⟩
  have b4 := bd 268435456 268435456 b c (by omega) (by omega) ⟨p3, p4⟩ ⟨q1, q2⟩
  have hp := prod_p0 a b c d trivial w
  have hv : (.agg #[.int Go.IntKind.i64 (Go.IntKind.wrap Go.IntKind.i64 ((Go.IntKind.wrap Go.IntKind.i64 (a * c)) - (Go.IntKind.wrap Go.IntKind.i64 (b * d)))), .int Go.IntKind.i64 (Go.IntKind.wrap Go.IntKind.i64 ((Go.IntKind.wrap Go.IntKind.i64 ((Go.IntKind.wrap Go.IntKind.i64 (a * d)) + (Go.IntKind.wrap Go.IntKind.i64 (b * c)))) - (Go.IntKind.wrap Go.IntKind.i64 (b * d))))] : Value) = .agg #[.int .i64 (Pl.mul (a, b) (c, d)).1, .int .i64 (Pl.mul (a, b) (c, d)).2] := by
    clear hp
    (try simp (disch := omega) only [wi]); rfl
  exact hv ▸ hp
theorem k_prod : ConOk Tryz.prog c_prod := fun ns hl => by
  have hl0 : ns.length = 4 := hl
  clear hl
  obtain ⟨a, ns0, rfl, hl1⟩ := len_cons hl0
  obtain ⟨b, ns1, rfl, hl2⟩ := len_cons hl1
  obtain ⟨c, ns2, rfl, hl3⟩ := len_cons hl2
  obtain ⟨d, ns3, rfl, hl4⟩ := len_cons hl3
  obtain rfl := len_nil hl4
  exact ⟨rfl, fun h w => prod_any a b c d h w⟩
end Go.Proofs.YtledgemlflbfdaaGreatDoor
end
section
set_option linter.all false
set_option maxRecDepth 1000000
set_option maxHeartbeats 2000000
open Go.RowKit
namespace Go.Proofs.YtledgemlflbfdaaGreatDoor
open Mini

theorem mul_X : FOkS Tryz.prog x_mul := kAll_ok _ ⟨k_checkEisen, k_prod, k_limited, trivial⟩
theorem mul_args (a b c d : Int) : (#[.agg #[.int .i64 a, .int .i64 b], .agg #[.int .i64 c, .int .i64 d]] : Array Value).toList.all (ground 8) = true := by kernel_rfl
def mul_r0 (a b c d : Int) : Prop := ((((((((((((True ∧ True) ∧ True) ∧ ((decide ((0 : Int) < ((((2 : Nat) : Nat)) : Int))) = Bool.true)) ∧ ((0 : Int) = (Int.ofNat (0 : Nat)))) ∧ (((Go.Proofs.YtledgemlflbfdaaGreatDoor.Pl.parts a b (1048576 : Int)) != (0 : Int)) = Bool.false)) ∧ ((decide ((Go.IntKind.wrap Go.IntKind.i64 ((0 : Int) + (1 : Int))) < ((((2 : Nat) : Nat)) : Int))) = Bool.true)) ∧ ((Go.IntKind.wrap Go.IntKind.i64 ((0 : Int) + (1 : Int))) = (Int.ofNat (1 : Nat)))) ∧ (((Go.Proofs.YtledgemlflbfdaaGreatDoor.Pl.parts c d (1048576 : Int)) != (0 : Int)) = Bool.false)) ∧ ((decide ((Go.IntKind.wrap Go.IntKind.i64 ((Go.IntKind.wrap Go.IntKind.i64 ((0 : Int) + (1 : Int))) + (1 : Int))) < ((((2 : Nat) : Nat)) : Int))) = Bool.false)) ∧ (((0 : Int) != (0 : Int)) = Bool.false)) ∧ ((Go.Proofs.YtledgemlflbfdaaGreatDoor.Bg (268435456 : Int) a b) ∧ (Go.Proofs.YtledgemlflbfdaaGreatDoor.Bg (268435456 : Int) c d))) ∧ True)
theorem mul_o0 (a b c d : Int) : obOf (mul_e0 a b c d) = mul_r0 a b c d := by kernel_rfl
theorem mul_v0 (a b c d : Int) : resOf (mul_e0 a b c d) = .tuple #[.agg #[.int Go.IntKind.i64 (((Go.Proofs.YtledgemlflbfdaaGreatDoor.Pl.lim (((Go.Proofs.YtledgemlflbfdaaGreatDoor.Pl.mul (a, b) (c, d))).1, ((Go.Proofs.YtledgemlflbfdaaGreatDoor.Pl.mul (a, b) (c, d))).2))).1).1, .int Go.IntKind.i64 (((Go.Proofs.YtledgemlflbfdaaGreatDoor.Pl.lim (((Go.Proofs.YtledgemlflbfdaaGreatDoor.Pl.mul (a, b) (c, d))).1, ((Go.Proofs.YtledgemlflbfdaaGreatDoor.Pl.mul (a, b) (c, d))).2))).1).2], .int Go.IntKind.i64 ((Go.Proofs.YtledgemlflbfdaaGreatDoor.Pl.lim (((Go.Proofs.YtledgemlflbfdaaGreatDoor.Pl.mul (a, b) (c, d))).1, ((Go.Proofs.YtledgemlflbfdaaGreatDoor.Pl.mul (a, b) (c, d))).2))).2] := by kernel_rfl
theorem mul_c0 (a b c d : Int) : cleanOf Tryz.prog.globals.size (mul_e0 a b c d) = true := by kernel_rfl
theorem mul_q0 (a b c d : Int) : mul_e0 a b c d = evFS Tryz.prog x_mul 1000 10 #[.agg #[.int .i64 a, .int .i64 b], .agg #[.int .i64 c, .int .i64 d]] (noTabs 6) ⟨[1, 0, 0, 1, 1, 0, 0, 0], True⟩ := by
  delta mul_e0
  exact Eq.refl _
theorem mul_p0 (a b c d : Int) (h : mul_r0 a b c d) (w : World) : Calls Tryz.prog 10 #[.agg #[.int .i64 a, .int .i64 b], .agg #[.int .i64 c, .int .i64 d]] w fun en w' => en = .returned (.tuple #[.agg #[.int Go.IntKind.i64 (((Go.Proofs.YtledgemlflbfdaaGreatDoor.Pl.lim (((Go.Proofs.YtledgemlflbfdaaGreatDoor.Pl.mul (a, b) (c, d))).1, ((Go.Proofs.YtledgemlflbfdaaGreatDoor.Pl.mul (a, b) (c, d))).2))).1).1, .int Go.IntKind.i64 (((Go.Proofs.YtledgemlflbfdaaGreatDoor.Pl.lim (((Go.Proofs.YtledgemlflbfdaaGreatDoor.Pl.mul (a, b) (c, d))).1, ((Go.Proofs.YtledgemlflbfdaaGreatDoor.Pl.mul (a, b) (c, d))).2))).1).2], .int Go.IntKind.i64 ((Go.Proofs.YtledgemlflbfdaaGreatDoor.Pl.lim (((Go.Proofs.YtledgemlflbfdaaGreatDoor.Pl.mul (a, b) (c, d))).1, ((Go.Proofs.YtledgemlflbfdaaGreatDoor.Pl.mul (a, b) (c, d))).2))).2]) ∧ Below w.heap.size w w' := by
  have hv := mul_v0 a b c d
  have hc := mul_c0 a b c d
  have he := mul_q0 a b c d
  have ho := mul_o0 a b c d
  generalize mul_e0 a b c d = r at *
  exact calls_way he gfol mul_X hv rfl (mul_args a b c d) hc ho h (bl w)
def mul_r1 (a b c d : Int) : Prop := ((((((True ∧ True) ∧ True) ∧ ((decide ((0 : Int) < ((((2 : Nat) : Nat)) : Int))) = Bool.true)) ∧ ((0 : Int) = (Int.ofNat (0 : Nat)))) ∧ (((Go.Proofs.YtledgemlflbfdaaGreatDoor.Pl.parts a b (1048576 : Int)) != (0 : Int)) = Bool.true)) ∧ (((Go.Proofs.YtledgemlflbfdaaGreatDoor.Pl.parts a b (1048576 : Int)) != (0 : Int)) = Bool.true))
theorem mul_o1 (a b c d : Int) : obOf (mul_e1 a b c d) = mul_r1 a b c d := by kernel_rfl
theorem mul_v1 (a b c d : Int) : resOf (mul_e1 a b c d) = .tuple #[.agg #[.int Go.IntKind.i64 (0 : Int), .int Go.IntKind.i64 (0 : Int)], .int Go.IntKind.i64 (Go.Proofs.YtledgemlflbfdaaGreatDoor.Pl.parts a b (1048576 : Int))] := by kernel_rfl
theorem mul_c1 (a b c d : Int) : cleanOf Tryz.prog.globals.size (mul_e1 a b c d) = true := by kernel_rfl
theorem mul_q1 (a b c d : Int) : mul_e1 a b c d = evFS Tryz.prog x_mul 1000 10 #[.agg #[.int .i64 a, .int .i64 b], .agg #[.int .i64 c, .int .i64 d]] (noTabs 6) ⟨[1, 0, 1, 1], True⟩ := by
  delta mul_e1
  exact Eq.refl _
theorem mul_p1 (a b c d : Int) (h : mul_r1 a b c d) (w : World) : Calls Tryz.prog 10 #[.agg #[.int .i64 a, .int .i64 b], .agg #[.int .i64 c, .int .i64 d]] w fun en w' => en = .returned (.tuple #[.agg #[.int Go.IntKind.i64 (0 : Int), .int Go.IntKind.i64 (0 : Int)], .int Go.IntKind.i64 (Go.Proofs.YtledgemlflbfdaaGreatDoor.Pl.parts a b (1048576 : Int))]) ∧ Below w.heap.size w w' := by
  have hv := mul_v1 a b c d
  have hc := mul_c1 a b c d
  have he := mul_q1 a b c d
  have ho := mul_o1 a b c d
  generalize mul_e1 a b c d = r at *
  exact calls_way he gfol mul_X hv rfl (mul_args a b c d) hc ho h (bl w)
def mul_r2 (a b c d : Int) : Prop := (((((((((True ∧ True) ∧ True) ∧ ((decide ((0 : Int) < ((((2 : Nat) : Nat)) : Int))) = Bool.true)) ∧ ((0 : Int) = (Int.ofNat (0 : Nat)))) ∧ (((Go.Proofs.YtledgemlflbfdaaGreatDoor.Pl.parts a b (1048576 : Int)) != (0 : Int)) = Bool.false)) ∧ ((decide ((Go.IntKind.wrap Go.IntKind.i64 ((0 : Int) + (1 : Int))) < ((((2 : Nat) : Nat)) : Int))) = Bool.true)) ∧ ((Go.IntKind.wrap Go.IntKind.i64 ((0 : Int) + (1 : Int))) = (Int.ofNat (1 : Nat)))) ∧ (((Go.Proofs.YtledgemlflbfdaaGreatDoor.Pl.parts c d (1048576 : Int)) != (0 : Int)) = Bool.true)) ∧ (((Go.Proofs.YtledgemlflbfdaaGreatDoor.Pl.parts c d (1048576 : Int)) != (0 : Int)) = Bool.true))
theorem mul_o2 (a b c d : Int) : obOf (mul_e2 a b c d) = mul_r2 a b c d := by kernel_rfl
theorem mul_v2 (a b c d : Int) : resOf (mul_e2 a b c d) = .tuple #[.agg #[.int Go.IntKind.i64 (0 : Int), .int Go.IntKind.i64 (0 : Int)], .int Go.IntKind.i64 (Go.Proofs.YtledgemlflbfdaaGreatDoor.Pl.parts c d (1048576 : Int))] := by kernel_rfl
theorem mul_c2 (a b c d : Int) : cleanOf Tryz.prog.globals.size (mul_e2 a b c d) = true := by kernel_rfl
theorem mul_q2 (a b c d : Int) : mul_e2 a b c d = evFS Tryz.prog x_mul 1000 10 #[.agg #[.int .i64 a, .int .i64 b], .agg #[.int .i64 c, .int .i64 d]] (noTabs 6) ⟨[1, 0, 0, 1, 1, 1, 1], True⟩ := by
  delta mul_e2
  exact Eq.refl _
theorem mul_p2 (a b c d : Int) (h : mul_r2 a b c d) (w : World) : Calls Tryz.prog 10 #[.agg #[.int .i64 a, .int .i64 b], .agg #[.int .i64 c, .int .i64 d]] w fun en w' => en = .returned (.tuple #[.agg #[.int Go.IntKind.i64 (0 : Int), .int Go.IntKind.i64 (0 : Int)], .int Go.IntKind.i64 (Go.Proofs.YtledgemlflbfdaaGreatDoor.Pl.parts c d (1048576 : Int))]) ∧ Below w.heap.size w w' := by
  have hv := mul_v2 a b c d
  have hc := mul_c2 a b c d
  have he := mul_q2 a b c d
  have ho := mul_o2 a b c d
  generalize mul_e2 a b c d = r at *
  exact calls_way he gfol mul_X hv rfl (mul_args a b c d) hc ho h (bl w)
theorem mul_any (a b c d : Int) (hpre : True) (w : World) : Calls Tryz.prog 10 #[.agg #[.int .i64 a, .int .i64 b], .agg #[.int .i64 c, .int .i64 d]] w fun en w' => en = .returned (.tuple #[.agg #[.int .i64 (two (Pl.parts a b 1048576) (Pl.parts c d 1048576) (Pl.lim (Pl.mul (a, b) (c, d)))).1.1, .int .i64 (two (Pl.parts a b 1048576) (Pl.parts c d 1048576) (Pl.lim (Pl.mul (a, b) (c, d)))).1.2], .int .i64 (two (Pl.parts a b 1048576) (Pl.parts c d 1048576) (Pl.lim (Pl.mul (a, b) (c, d)))).2]) ∧ Below w.heap.size w w' := by
  have h0 : True := by
    first | rfl | trivial | (simp only [bne_eq_false_iff_eq] at *; exact ⟨bg_of (by assumption) (by decide), bg_of (by assumption) (by decide)⟩)
  have h1 : ((decide ((0 : Int) < ((((2 : Nat) : Nat)) : Int))) = Bool.true) := by
    first | rfl | trivial | (simp only [bne_eq_false_iff_eq] at *; exact ⟨bg_of (by assumption) (by decide), bg_of (by assumption) (by decide)⟩)
  have h2 : ((0 : Int) = (Int.ofNat (0 : Nat))) := by
    first | rfl | trivial | (simp only [bne_eq_false_iff_eq] at *; exact ⟨bg_of (by assumption) (by decide), bg_of (by assumption) (by decide)⟩)
  rcases Bool.eq_false_or_eq_true ((Go.Proofs.YtledgemlflbfdaaGreatDoor.Pl.parts a b (1048576 : Int)) != (0 : Int)) with h3 | h3
  ·
    have hp := mul_p1 a b c d ⟨⟨⟨⟨⟨⟨trivial, h0⟩, h0⟩, h1⟩, h2⟩, h3⟩, h3⟩ w
    have hv : (.tuple #[.agg #[.int Go.IntKind.i64 (0 : Int), .int Go.IntKind.i64 (0 : Int)], .int Go.IntKind.i64 (Go.Proofs.YtledgemlflbfdaaGreatDoor.Pl.parts a b (1048576 : Int))] : Value) = .tuple #[.agg #[.int .i64 (two (Pl.parts a b 1048576) (Pl.parts c d 1048576) (Pl.lim (Pl.mul (a, b) (c, d)))).1.1, .int .i64 (two (Pl.parts a b 1048576) (Pl.parts c d 1048576) (Pl.lim (Pl.mul (a, b) (c, d)))).1.2], .int .i64 (two (Pl.parts a b 1048576) (Pl.parts c d 1048576) (Pl.lim (Pl.mul (a, b) (c, d)))).2] := by
      clear hp
      first | rfl | ((try simp only [bne_iff_ne, ne_eq, decide_eq_true_eq, decide_eq_false_iff_not, Bool.not_eq_true', Bool.not_eq_false', beq_iff_eq, beq_eq_false_iff_ne, bne_eq_false_iff_eq, Bool.and_eq_true, Bool.not_eq_true, Bool.not_eq_false, two] at *); grind)
    exact hv ▸ hp
  ·
    have h4 : ((decide ((Go.IntKind.wrap Go.IntKind.i64 ((0 : Int) + (1 : Int))) < ((((2 : Nat) : Nat)) : Int))) = Bool.true) := by
      first | rfl | trivial | (simp only [bne_eq_false_iff_eq] at *; exact ⟨bg_of (by assumption) (by decide), bg_of (by assumption) (by decide)⟩)
    have h5 : ((Go.IntKind.wrap Go.IntKind.i64 ((0 : Int) + (1 : Int))) = (Int.ofNat (1 : Nat))) := by
      first | rfl | trivial | (simp only [bne_eq_false_iff_eq] at *; exact ⟨bg_of (by assumption) (by decide), bg_of (by assumption) (by decide)⟩)
    rcases Bool.eq_false_or_eq_true ((Go.Proofs.YtledgemlflbfdaaGreatDoor.Pl.parts c d (1048576 : Int)) != (0 : Int)) with h6 | h6
    ·
      have hp := mul_p2 a b c d ⟨⟨⟨⟨⟨⟨⟨⟨⟨trivial, h0⟩, h0⟩, h1⟩, h2⟩, h3⟩, h4⟩, h5⟩, h6⟩, h6⟩ w
      have hv : (.tuple #[.agg #[.int Go.IntKind.i64 (0 : Int), .int Go.IntKind.i64 (0 : Int)], .int Go.IntKind.i64 (Go.Proofs.YtledgemlflbfdaaGreatDoor.Pl.parts c d (1048576 : Int))] : Value) = .tuple #[.agg #[.int .i64 (two (Pl.parts a b 1048576) (Pl.parts c d 1048576) (Pl.lim (Pl.mul (a, b) (c, d)))).1.1, .int .i64 (two (Pl.parts a b 1048576) (Pl.parts c d 1048576) (Pl.lim (Pl.mul (a, b) (c, d)))).1.2], .int .i64 (two (Pl.parts a b 1048576) (Pl.parts c d 1048576) (Pl.lim (Pl.mul (a, b) (c, d)))).2] := by
        clear hp
        first | rfl | ((try simp only [bne_iff_ne, ne_eq, decide_eq_true_eq, decide_eq_false_iff_not, Bool.not_eq_true', Bool.not_eq_false', beq_iff_eq, beq_eq_false_iff_ne, bne_eq_false_iff_eq, Bool.and_eq_true, Bool.not_eq_true, Bool.not_eq_false, two] at *); grind)
      exact hv ▸ hp
    ·
      have h7 : ((decide ((Go.IntKind.wrap Go.IntKind.i64 ((Go.IntKind.wrap Go.IntKind.i64 ((0 : Int) + (1 : Int))) + (1 : Int))) < ((((2 : Nat) : Nat)) : Int))) = Bool.false) := by
        first | rfl | trivial | (simp only [bne_eq_false_iff_eq] at *; exact ⟨bg_of (by assumption) (by decide), bg_of (by assumption) (by decide)⟩)
      have h8 : (((0 : Int) != (0 : Int)) = Bool.false) := by
        first | rfl | trivial | (simp only [bne_eq_false_iff_eq] at *; exact ⟨bg_of (by assumption) (by decide), bg_of (by assumption) (by decide)⟩)
      have h9 : ((Go.Proofs.YtledgemlflbfdaaGreatDoor.Bg (268435456 : Int) a b) ∧ (Go.Proofs.YtledgemlflbfdaaGreatDoor.Bg (268435456 : Int) c d)) := by
        first | rfl | trivial | (simp only [bne_eq_false_iff_eq] at *; exact ⟨bg_of (by assumption) (by decide), bg_of (by assumption) (by decide)⟩)
      have hp := mul_p0 a b c d ⟨⟨⟨⟨⟨⟨⟨⟨⟨⟨⟨⟨trivial, h0⟩, h0⟩, h1⟩, h2⟩, h3⟩, h4⟩, h5⟩, h6⟩, h7⟩, h8⟩, h9⟩, h0⟩ w
      have hv : (.tuple #[.agg #[.int Go.IntKind.i64 (((Go.Proofs.YtledgemlflbfdaaGreatDoor.Pl.lim (((Go.Proofs.YtledgemlflbfdaaGreatDoor.Pl.mul (a, b) (c, d))).1, ((Go.Proofs.YtledgemlflbfdaaGreatDoor.Pl.mul (a, b) (c, d))).2))).1).1, .int Go.IntKind.i64 (((Go.Proofs.YtledgemlflbfdaaGreatDoor.Pl.lim (((Go.Proofs.YtledgemlflbfdaaGreatDoor.Pl.mul (a, b) (c, d))).1, ((Go.Proofs.YtledgemlflbfdaaGreatDoor.Pl.mul (a, b) (c, d))).2))).1).2], .int Go.IntKind.i64 ((Go.Proofs.YtledgemlflbfdaaGreatDoor.Pl.lim (((Go.Proofs.YtledgemlflbfdaaGreatDoor.Pl.mul (a, b) (c, d))).1, ((Go.Proofs.YtledgemlflbfdaaGreatDoor.Pl.mul (a, b) (c, d))).2))).2] : Value) = .tuple #[.agg #[.int .i64 (two (Pl.parts a b 1048576) (Pl.parts c d 1048576) (Pl.lim (Pl.mul (a, b) (c, d)))).1.1, .int .i64 (two (Pl.parts a b 1048576) (Pl.parts c d 1048576) (Pl.lim (Pl.mul (a, b) (c, d)))).1.2], .int .i64 (two (Pl.parts a b 1048576) (Pl.parts c d 1048576) (Pl.lim (Pl.mul (a, b) (c, d)))).2] := by
        clear hp
        first | rfl | ((try simp only [bne_iff_ne, ne_eq, decide_eq_true_eq, decide_eq_false_iff_not, Bool.not_eq_true', Bool.not_eq_false', beq_iff_eq, beq_eq_false_iff_ne, bne_eq_false_iff_eq, Bool.and_eq_true, Bool.not_eq_true, Bool.not_eq_false, two] at *); grind)
      exact hv ▸ hp
theorem k_mul : ConOk Tryz.prog c_mul := fun ns hl => by
  have hl0 : ns.length = 4 := hl
  clear hl
  obtain ⟨a, ns0, rfl, hl1⟩ := len_cons hl0
  obtain ⟨b, ns1, rfl, hl2⟩ := len_cons hl1
  obtain ⟨c, ns2, rfl, hl3⟩ := len_cons hl2
  obtain ⟨d, ns3, rfl, hl4⟩ := len_cons hl3
  obtain rfl := len_nil hl4
  exact ⟨rfl, fun h w => mul_any a b c d h w⟩
end Go.Proofs.YtledgemlflbfdaaGreatDoor
end
section
set_option linter.all false
set_option maxRecDepth 1000000
set_option maxHeartbeats 2000000
open Go.RowKit
namespace Go.Proofs.YtledgemlflbfdaaGreatDoor
open Mini

theorem checkTurn_X : FOkS Tryz.prog x_checkTurn := kAll_ok _ ⟨k_range, trivial⟩
theorem checkTurn_args (n : Int) : (#[.int .i64 n] : Array Value).toList.all (ground 8) = true := by kernel_rfl
def checkTurn_r0 (n : Int) : Prop := (True ∧ True)
theorem checkTurn_o0 (n : Int) : obOf (checkTurn_e0 n) = checkTurn_r0 n := by kernel_rfl
theorem checkTurn_v0 (n : Int) : resOf (checkTurn_e0 n) = .int Go.IntKind.i64 (Go.Proofs.YtledgemlflbfdaaGreatDoor.Pl.cr n (- (1000000 : Int)) (1000000 : Int)) := by kernel_rfl
theorem checkTurn_c0 (n : Int) : cleanOf Tryz.prog.globals.size (checkTurn_e0 n) = true := by kernel_rfl
theorem checkTurn_q0 (n : Int) : checkTurn_e0 n = evFS Tryz.prog x_checkTurn 1000 51 #[.int .i64 n] (noTabs 6) ⟨[], True⟩ := by
  delta checkTurn_e0
  exact Eq.refl _
theorem checkTurn_p0 (n : Int) (h : checkTurn_r0 n) (w : World) : Calls Tryz.prog 51 #[.int .i64 n] w fun en w' => en = .returned (.int Go.IntKind.i64 (Go.Proofs.YtledgemlflbfdaaGreatDoor.Pl.cr n (- (1000000 : Int)) (1000000 : Int))) ∧ Below w.heap.size w w' := by
  have hv := checkTurn_v0 n
  have hc := checkTurn_c0 n
  have he := checkTurn_q0 n
  have ho := checkTurn_o0 n
  generalize checkTurn_e0 n = r at *
  exact calls_way he gfol checkTurn_X hv rfl (checkTurn_args n) hc ho h (bl w)
theorem checkTurn_any (n : Int) (hpre : True) (w : World) : Calls Tryz.prog 51 #[.int .i64 n] w fun en w' => en = .returned (.int .i64 (Pl.cr n (-1000000) 1000000)) ∧ Below w.heap.size w w' := by
  have h0 : True := by
    first | rfl | trivial | decide | assumption | ((try simp only [bne_iff_ne, ne_eq, decide_eq_true_eq, decide_eq_false_iff_not, Bool.not_eq_true', Bool.not_eq_false', beq_iff_eq, beq_eq_false_iff_ne, bne_eq_false_iff_eq, Bool.and_eq_true, Bool.not_eq_true, Bool.not_eq_false, Pl.cr, parts_eq, w20, w16, wT, w20', w16', wT', Pl.lim, Pl.inB, first_two, two, oneB, Bg] at *); first | omega | grind)
  have hp := checkTurn_p0 n ⟨trivial, h0⟩ w
  have hv : (.int Go.IntKind.i64 (Go.Proofs.YtledgemlflbfdaaGreatDoor.Pl.cr n (- (1000000 : Int)) (1000000 : Int)) : Value) = .int .i64 (Pl.cr n (-1000000) 1000000) := by
    clear hp
    first | rfl | ((try simp only [bne_iff_ne, ne_eq, decide_eq_true_eq, decide_eq_false_iff_not, Bool.not_eq_true', Bool.not_eq_false', beq_iff_eq, beq_eq_false_iff_ne, bne_eq_false_iff_eq, Bool.and_eq_true, Bool.not_eq_true, Bool.not_eq_false, Pl.cr, parts_eq, w20, w16, wT, w20', w16', wT', Pl.lim, Pl.inB, first_two, two, oneB, Bg] at *); grind)
  exact hv ▸ hp
theorem k_checkTurn : ConOk Tryz.prog c_checkTurn := fun ns hl => by
  have hl0 : ns.length = 1 := hl
  clear hl
  obtain ⟨n, ns0, rfl, hl1⟩ := len_cons hl0
  obtain rfl := len_nil hl1
  exact ⟨rfl, fun h w => checkTurn_any n h w⟩
end Go.Proofs.YtledgemlflbfdaaGreatDoor
end
section
set_option linter.all false
set_option maxRecDepth 1000000
set_option maxHeartbeats 2000000
open Go.RowKit
namespace Go.Proofs.YtledgemlflbfdaaGreatDoor
open Mini

theorem turn_X : FOkS Tryz.prog x_turn := noXS_ok
theorem turn_args (a b n : Int) : (#[.agg #[.int .i64 a, .int .i64 b], .int .i64 n] : Array Value).toList.all (ground 8) = true := by kernel_rfl
def turn_r0 (a b n : Int) : Prop := (True ∧ ((decide ((0 : Int) < (Int.tmod (Go.IntKind.wrap Go.IntKind.i64 ((Int.tmod n (6 : Int)) + (6 : Int))) (6 : Int)))) = Bool.false))
theorem turn_o0 (a b n : Int) : obOf (turn_e0 a b n) = turn_r0 a b n := by kernel_rfl
theorem turn_v0 (a b n : Int) : resOf (turn_e0 a b n) = .agg #[.int Go.IntKind.i64 a, .int Go.IntKind.i64 b] := by kernel_rfl
theorem turn_c0 (a b n : Int) : cleanOf Tryz.prog.globals.size (turn_e0 a b n) = true := by kernel_rfl
theorem turn_q0 (a b n : Int) : turn_e0 a b n = evFS Tryz.prog x_turn 1000 52 #[.agg #[.int .i64 a, .int .i64 b], .int .i64 n] (noTabs 6) ⟨[0], True⟩ := by
  delta turn_e0
  exact Eq.refl _
theorem turn_p0 (a b n : Int) (h : turn_r0 a b n) (w : World) : Calls Tryz.prog 52 #[.agg #[.int .i64 a, .int .i64 b], .int .i64 n] w fun en w' => en = .returned (.agg #[.int Go.IntKind.i64 a, .int Go.IntKind.i64 b]) ∧ Below w.heap.size w w' := by
  have hv := turn_v0 a b n
  have hc := turn_c0 a b n
  have he := turn_q0 a b n
  have ho := turn_o0 a b n
  generalize turn_e0 a b n = r at *
  exact calls_way he gfol turn_X hv rfl (turn_args a b n) hc ho h (bl w)
def turn_r1 (a b n : Int) : Prop := ((True ∧ ((decide ((0 : Int) < (Int.tmod (Go.IntKind.wrap Go.IntKind.i64 ((Int.tmod n (6 : Int)) + (6 : Int))) (6 : Int)))) = Bool.true)) ∧ ((decide ((Go.IntKind.wrap Go.IntKind.i64 ((0 : Int) + (1 : Int))) < (Int.tmod (Go.IntKind.wrap Go.IntKind.i64 ((Int.tmod n (6 : Int)) + (6 : Int))) (6 : Int)))) = Bool.false))
theorem turn_o1 (a b n : Int) : obOf (turn_e1 a b n) = turn_r1 a b n := by kernel_rfl
theorem turn_v1 (a b n : Int) : resOf (turn_e1 a b n) = .agg #[.int Go.IntKind.i64 (Go.IntKind.wrap Go.IntKind.i64 (a - b)), .int Go.IntKind.i64 a] := by kernel_rfl
theorem turn_c1 (a b n : Int) : cleanOf Tryz.prog.globals.size (turn_e1 a b n) = true := by kernel_rfl
theorem turn_q1 (a b n : Int) : turn_e1 a b n = evFS Tryz.prog x_turn 1000 52 #[.agg #[.int .i64 a, .int .i64 b], .int .i64 n] (noTabs 6) ⟨[1, 0], True⟩ := by
  delta turn_e1
  exact Eq.refl _
theorem turn_p1 (a b n : Int) (h : turn_r1 a b n) (w : World) : Calls Tryz.prog 52 #[.agg #[.int .i64 a, .int .i64 b], .int .i64 n] w fun en w' => en = .returned (.agg #[.int Go.IntKind.i64 (Go.IntKind.wrap Go.IntKind.i64 (a - b)), .int Go.IntKind.i64 a]) ∧ Below w.heap.size w w' := by
  have hv := turn_v1 a b n
  have hc := turn_c1 a b n
  have he := turn_q1 a b n
  have ho := turn_o1 a b n
  generalize turn_e1 a b n = r at *
  exact calls_way he gfol turn_X hv rfl (turn_args a b n) hc ho h (bl w)
def turn_r2 (a b n : Int) : Prop := (((True ∧ ((decide ((0 : Int) < (Int.tmod (Go.IntKind.wrap Go.IntKind.i64 ((Int.tmod n (6 : Int)) + (6 : Int))) (6 : Int)))) = Bool.true)) ∧ ((decide ((Go.IntKind.wrap Go.IntKind.i64 ((0 : Int) + (1 : Int))) < (Int.tmod (Go.IntKind.wrap Go.IntKind.i64 ((Int.tmod n (6 : Int)) + (6 : Int))) (6 : Int)))) = Bool.true)) ∧ ((decide ((Go.IntKind.wrap Go.IntKind.i64 ((Go.IntKind.wrap Go.IntKind.i64 ((0 : Int) + (1 : Int))) + (1 : Int))) < (Int.tmod (Go.IntKind.wrap Go.IntKind.i64 ((Int.tmod n (6 : Int)) + (6 : Int))) (6 : Int)))) = Bool.false))
theorem turn_o2 (a b n : Int) : obOf (turn_e2 a b n) = turn_r2 a b n := by kernel_rfl
theorem turn_v2 (a b n : Int) : resOf (turn_e2 a b n) = .agg #[.int Go.IntKind.i64 (Go.IntKind.wrap Go.IntKind.i64 ((Go.IntKind.wrap Go.IntKind.i64 (a - b)) - a)), .int Go.IntKind.i64 (Go.IntKind.wrap Go.IntKind.i64 (a - b))] := by kernel_rfl
theorem turn_c2 (a b n : Int) : cleanOf Tryz.prog.globals.size (turn_e2 a b n) = true := by kernel_rfl
theorem turn_q2 (a b n : Int) : turn_e2 a b n = evFS Tryz.prog x_turn 1000 52 #[.agg #[.int .i64 a, .int .i64 b], .int .i64 n] (noTabs 6) ⟨[1, 1, 0], True⟩ := by
  delta turn_e2
  exact Eq.refl _
theorem turn_p2 (a b n : Int) (h : turn_r2 a b n) (w : World) : Calls Tryz.prog 52 #[.agg #[.int .i64 a, .int .i64 b], .int .i64 n] w fun en w' => en = .returned (.agg #[.int Go.IntKind.i64 (Go.IntKind.wrap Go.IntKind.i64 ((Go.IntKind.wrap Go.IntKind.i64 (a - b)) - a)), .int Go.IntKind.i64 (Go.IntKind.wrap Go.IntKind.i64 (a - b))]) ∧ Below w.heap.size w w' := by
  have hv := turn_v2 a b n
  have hc := turn_c2 a b n
  have he := turn_q2 a b n
  have ho := turn_o2 a b n
  generalize turn_e2 a b n = r at *
  exact calls_way he gfol turn_X hv rfl (turn_args a b n) hc ho h (bl w)
def turn_r3 (a b n : Int) : Prop := ((((True ∧ ((decide ((0 : Int) < (Int.tmod (Go.IntKind.wrap Go.IntKind.i64 ((Int.tmod n (6 : Int)) + (6 : Int))) (6 : Int)))) = Bool.true)) ∧ ((decide ((Go.IntKind.wrap Go.IntKind.i64 ((0 : Int) + (1 : Int))) < (Int.tmod (Go.IntKind.wrap Go.IntKind.i64 ((Int.tmod n (6 : Int)) + (6 : Int))) (6 : Int)))) = Bool.true)) ∧ ((decide ((Go.IntKind.wrap Go.IntKind.i64 ((Go.IntKind.wrap Go.IntKind.i64 ((0 : Int) + (1 : Int))) + (1 : Int))) < (Int.tmod (Go.IntKind.wrap Go.IntKind.i64 ((Int.tmod n (6 : Int)) + (6 : Int))) (6 : Int)))) = Bool.true)) ∧ ((decide ((Go.IntKind.wrap Go.IntKind.i64 ((Go.IntKind.wrap Go.IntKind.i64 ((Go.IntKind.wrap Go.IntKind.i64 ((0 : Int) + (1 : Int))) + (1 : Int))) + (1 : Int))) < (Int.tmod (Go.IntKind.wrap Go.IntKind.i64 ((Int.tmod n (6 : Int)) + (6 : Int))) (6 : Int)))) = Bool.false))
theorem turn_o3 (a b n : Int) : obOf (turn_e3 a b n) = turn_r3 a b n := by kernel_rfl
theorem turn_v3 (a b n : Int) : resOf (turn_e3 a b n) = .agg #[.int Go.IntKind.i64 (Go.IntKind.wrap Go.IntKind.i64 ((Go.IntKind.wrap Go.IntKind.i64 ((Go.IntKind.wrap Go.IntKind.i64 (a - b)) - a)) - (Go.IntKind.wrap Go.IntKind.i64 (a - b)))), .int Go.IntKind.i64 (Go.IntKind.wrap Go.IntKind.i64 ((Go.IntKind.wrap Go.IntKind.i64 (a - b)) - a))] := by kernel_rfl
theorem turn_c3 (a b n : Int) : cleanOf Tryz.prog.globals.size (turn_e3 a b n) = true := by kernel_rfl
theorem turn_q3 (a b n : Int) : turn_e3 a b n = evFS Tryz.prog x_turn 1000 52 #[.agg #[.int .i64 a, .int .i64 b], .int .i64 n] (noTabs 6) ⟨[1, 1, 1, 0], True⟩ := by
  delta turn_e3
  exact Eq.refl _
theorem turn_p3 (a b n : Int) (h : turn_r3 a b n) (w : World) : Calls Tryz.prog 52 #[.agg #[.int .i64 a, .int .i64 b], .int .i64 n] w fun en w' => en = .returned (.agg #[.int Go.IntKind.i64 (Go.IntKind.wrap Go.IntKind.i64 ((Go.IntKind.wrap Go.IntKind.i64 ((Go.IntKind.wrap Go.IntKind.i64 (a - b)) - a)) - (Go.IntKind.wrap Go.IntKind.i64 (a - b)))), .int Go.IntKind.i64 (Go.IntKind.wrap Go.IntKind.i64 ((Go.IntKind.wrap Go.IntKind.i64 (a - b)) - a))]) ∧ Below w.heap.size w w' := by
  have hv := turn_v3 a b n
  have hc := turn_c3 a b n
  have he := turn_q3 a b n
  have ho := turn_o3 a b n
  generalize turn_e3 a b n = r at *
  exact calls_way he gfol turn_X hv rfl (turn_args a b n) hc ho h (bl w)
def turn_r4 (a b n : Int) : Prop := (((((True ∧ ((decide ((0 : Int) < (Int.tmod (Go.IntKind.wrap Go.IntKind.i64 ((Int.tmod n (6 : Int)) + (6 : Int))) (6 : Int)))) = Bool.true)) ∧ ((decide ((Go.IntKind.wrap Go.IntKind.i64 ((0 : Int) + (1 : Int))) < (Int.tmod (Go.IntKind.wrap Go.IntKind.i64 ((Int.tmod n (6 : Int)) + (6 : Int))) (6 : Int)))) = Bool.true)) ∧ ((decide ((Go.IntKind.wrap Go.IntKind.i64 ((Go.IntKind.wrap Go.IntKind.i64 ((0 : Int) + (1 : Int))) + (1 : Int))) < (Int.tmod (Go.IntKind.wrap Go.IntKind.i64 ((Int.tmod n (6 : Int)) + (6 : Int))) (6 : Int)))) = Bool.true)) ∧ ((decide ((Go.IntKind.wrap Go.IntKind.i64 ((Go.IntKind.wrap Go.IntKind.i64 ((Go.IntKind.wrap Go.IntKind.i64 ((0 : Int) + (1 : Int))) + (1 : Int))) + (1 : Int))) < (Int.tmod (Go.IntKind.wrap Go.IntKind.i64 ((Int.tmod n (6 : Int)) + (6 : Int))) (6 : Int)))) = Bool.true)) ∧ ((decide ((Go.IntKind.wrap Go.IntKind.i64 ((Go.IntKind.wrap Go.IntKind.i64 ((Go.IntKind.wrap Go.IntKind.i64 ((Go.IntKind.wrap Go.IntKind.i64 ((0 : Int) + (1 : Int))) + (1 : Int))) + (1 : Int))) + (1 : Int))) < (Int.tmod (Go.IntKind.wrap Go.IntKind.i64 ((Int.tmod n (6 : Int)) + (6 : Int))) (6 : Int)))) = Bool.false))
theorem turn_o4 (a b n : Int) : obOf (turn_e4 a b n) = turn_r4 a b n := by kernel_rfl
theorem turn_v4 (a b n : Int) : resOf (turn_e4 a b n) = .agg #[.int Go.IntKind.i64 (Go.IntKind.wrap Go.IntKind.i64 ((Go.IntKind.wrap Go.IntKind.i64 ((Go.IntKind.wrap Go.IntKind.i64 ((Go.IntKind.wrap Go.IntKind.i64 (a - b)) - a)) - (Go.IntKind.wrap Go.IntKind.i64 (a - b)))) - (Go.IntKind.wrap Go.IntKind.i64 ((Go.IntKind.wrap Go.IntKind.i64 (a - b)) - a)))), .int Go.IntKind.i64 (Go.IntKind.wrap Go.IntKind.i64 ((Go.IntKind.wrap Go.IntKind.i64 ((Go.IntKind.wrap Go.IntKind.i64 (a - b)) - a)) - (Go.IntKind.wrap Go.IntKind.i64 (a - b))))] := by kernel_rfl
theorem turn_c4 (a b n : Int) : cleanOf Tryz.prog.globals.size (turn_e4 a b n) = true := by kernel_rfl
theorem turn_q4 (a b n : Int) : turn_e4 a b n = evFS Tryz.prog x_turn 1000 52 #[.agg #[.int .i64 a, .int .i64 b], .int .i64 n] (noTabs 6) ⟨[1, 1, 1, 1, 0], True⟩ := by
  delta turn_e4
  exact Eq.refl _
theorem turn_p4 (a b n : Int) (h : turn_r4 a b n) (w : World) : Calls Tryz.prog 52 #[.agg #[.int .i64 a, .int .i64 b], .int .i64 n] w fun en w' => en = .returned (.agg #[.int Go.IntKind.i64 (Go.IntKind.wrap Go.IntKind.i64 ((Go.IntKind.wrap Go.IntKind.i64 ((Go.IntKind.wrap Go.IntKind.i64 ((Go.IntKind.wrap Go.IntKind.i64 (a - b)) - a)) - (Go.IntKind.wrap Go.IntKind.i64 (a - b)))) - (Go.IntKind.wrap Go.IntKind.i64 ((Go.IntKind.wrap Go.IntKind.i64 (a - b)) - a)))), .int Go.IntKind.i64 (Go.IntKind.wrap Go.IntKind.i64 ((Go.IntKind.wrap Go.IntKind.i64 ((Go.IntKind.wrap Go.IntKind.i64 (a - b)) - a)) - (Go.IntKind.wrap Go.IntKind.i64 (a - b))))]) ∧ Below w.heap.size w w' := by
  have hv := turn_v4 a b n
  have hc := turn_c4 a b n
  have he := turn_q4 a b n
  have ho := turn_o4 a b n
  generalize turn_e4 a b n = r at *
  exact calls_way he gfol turn_X hv rfl (turn_args a b n) hc ho h (bl w)
def turn_r5 (a b n : Int) : Prop := ((((((True ∧ ((decide ((0 : Int) < (Int.tmod (Go.IntKind.wrap Go.IntKind.i64 ((Int.tmod n (6 : Int)) + (6 : Int))) (6 : Int)))) = Bool.true)) ∧ ((decide ((Go.IntKind.wrap Go.IntKind.i64 ((0 : Int) + (1 : Int))) < (Int.tmod (Go.IntKind.wrap Go.IntKind.i64 ((Int.tmod n (6 : Int)) + (6 : Int))) (6 : Int)))) = Bool.true)) ∧ ((decide ((Go.IntKind.wrap Go.IntKind.i64 ((Go.IntKind.wrap Go.IntKind.i64 ((0 : Int) + (1 : Int))) + (1 : Int))) < (Int.tmod (Go.IntKind.wrap Go.IntKind.i64 ((Int.tmod n (6 : Int)) + (6 : Int))) (6 : Int)))) = Bool.true)) ∧ ((decide ((Go.IntKind.wrap Go.IntKind.i64 ((Go.IntKind.wrap Go.IntKind.i64 ((Go.IntKind.wrap Go.IntKind.i64 ((0 : Int) + (1 : Int))) + (1 : Int))) + (1 : Int))) < (Int.tmod (Go.IntKind.wrap Go.IntKind.i64 ((Int.tmod n (6 : Int)) + (6 : Int))) (6 : Int)))) = Bool.true)) ∧ ((decide ((Go.IntKind.wrap Go.IntKind.i64 ((Go.IntKind.wrap Go.IntKind.i64 ((Go.IntKind.wrap Go.IntKind.i64 ((Go.IntKind.wrap Go.IntKind.i64 ((0 : Int) + (1 : Int))) + (1 : Int))) + (1 : Int))) + (1 : Int))) < (Int.tmod (Go.IntKind.wrap Go.IntKind.i64 ((Int.tmod n (6 : Int)) + (6 : Int))) (6 : Int)))) = Bool.true)) ∧ ((decide ((Go.IntKind.wrap Go.IntKind.i64 ((Go.IntKind.wrap Go.IntKind.i64 ((Go.IntKind.wrap Go.IntKind.i64 ((Go.IntKind.wrap Go.IntKind.i64 ((Go.IntKind.wrap Go.IntKind.i64 ((0 : Int) + (1 : Int))) + (1 : Int))) + (1 : Int))) + (1 : Int))) + (1 : Int))) < (Int.tmod (Go.IntKind.wrap Go.IntKind.i64 ((Int.tmod n (6 : Int)) + (6 : Int))) (6 : Int)))) = Bool.false))
theorem turn_o5 (a b n : Int) : obOf (turn_e5 a b n) = turn_r5 a b n := by kernel_rfl
theorem turn_v5 (a b n : Int) : resOf (turn_e5 a b n) = .agg #[.int Go.IntKind.i64 (Go.IntKind.wrap Go.IntKind.i64 ((Go.IntKind.wrap Go.IntKind.i64 ((Go.IntKind.wrap Go.IntKind.i64 ((Go.IntKind.wrap Go.IntKind.i64 ((Go.IntKind.wrap Go.IntKind.i64 (a - b)) - a)) - (Go.IntKind.wrap Go.IntKind.i64 (a - b)))) - (Go.IntKind.wrap Go.IntKind.i64 ((Go.IntKind.wrap Go.IntKind.i64 (a - b)) - a)))) - (Go.IntKind.wrap Go.IntKind.i64 ((Go.IntKind.wrap Go.IntKind.i64 ((Go.IntKind.wrap Go.IntKind.i64 (a - b)) - a)) - (Go.IntKind.wrap Go.IntKind.i64 (a - b)))))), .int Go.IntKind.i64 (Go.IntKind.wrap Go.IntKind.i64 ((Go.IntKind.wrap Go.IntKind.i64 ((Go.IntKind.wrap Go.IntKind.i64 ((Go.IntKind.wrap Go.IntKind.i64 (a - b)) - a)) - (Go.IntKind.wrap Go.IntKind.i64 (a - b)))) - (Go.IntKind.wrap Go.IntKind.i64 ((Go.IntKind.wrap Go.IntKind.i64 (a - b)) - a))))] := by kernel_rfl
theorem turn_c5 (a b n : Int) : cleanOf Tryz.prog.globals.size (turn_e5 a b n) = true := by kernel_rfl
theorem turn_q5 (a b n : Int) : turn_e5 a b n = evFS Tryz.prog x_turn 1000 52 #[.agg #[.int .i64 a, .int .i64 b], .int .i64 n] (noTabs 6) ⟨[1, 1, 1, 1, 1, 0], True⟩ := by
  delta turn_e5
  exact Eq.refl _
theorem turn_p5 (a b n : Int) (h : turn_r5 a b n) (w : World) : Calls Tryz.prog 52 #[.agg #[.int .i64 a, .int .i64 b], .int .i64 n] w fun en w' => en = .returned (.agg #[.int Go.IntKind.i64 (Go.IntKind.wrap Go.IntKind.i64 ((Go.IntKind.wrap Go.IntKind.i64 ((Go.IntKind.wrap Go.IntKind.i64 ((Go.IntKind.wrap Go.IntKind.i64 ((Go.IntKind.wrap Go.IntKind.i64 (a - b)) - a)) - (Go.IntKind.wrap Go.IntKind.i64 (a - b)))) - (Go.IntKind.wrap Go.IntKind.i64 ((Go.IntKind.wrap Go.IntKind.i64 (a - b)) - a)))) - (Go.IntKind.wrap Go.IntKind.i64 ((Go.IntKind.wrap Go.IntKind.i64 ((Go.IntKind.wrap Go.IntKind.i64 (a - b)) - a)) - (Go.IntKind.wrap Go.IntKind.i64 (a - b)))))), .int Go.IntKind.i64 (Go.IntKind.wrap Go.IntKind.i64 ((Go.IntKind.wrap Go.IntKind.i64 ((Go.IntKind.wrap Go.IntKind.i64 ((Go.IntKind.wrap Go.IntKind.i64 (a - b)) - a)) - (Go.IntKind.wrap Go.IntKind.i64 (a - b)))) - (Go.IntKind.wrap Go.IntKind.i64 ((Go.IntKind.wrap Go.IntKind.i64 (a - b)) - a))))]) ∧ Below w.heap.size w w' := by
  have hv := turn_v5 a b n
  have hc := turn_c5 a b n
  have he := turn_q5 a b n
  have ho := turn_o5 a b n
  generalize turn_e5 a b n = r at *
  exact calls_way he gfol turn_X hv rfl (turn_args a b n) hc ho h (bl w)
theorem turn_any (a b n : Int) (hpre : Bg 1099511627776 a b) (w : World) : Calls Tryz.prog 52 #[.agg #[.int .i64 a, .int .i64 b], .int .i64 n] w fun en w' => en = .returned (.agg #[.int .i64 (Pl.turn (a, b) n).1, .int .i64 (Pl.turn (a, b) n).2]) ∧ Below w.heap.size w w' := by
  have t6 := tm6 n
  rcases Bool.eq_false_or_eq_true (decide ((0 : Int) < (Int.tmod (Go.IntKind.wrap Go.IntKind.i64 ((Int.tmod n (6 : Int)) + (6 : Int))) (6 : Int)))) with h0 | h0
  ·
    rcases Bool.eq_false_or_eq_true (decide ((Go.IntKind.wrap Go.IntKind.i64 ((0 : Int) + (1 : Int))) < (Int.tmod (Go.IntKind.wrap Go.IntKind.i64 ((Int.tmod n (6 : Int)) + (6 : Int))) (6 : Int)))) with h1 | h1
    ·
      rcases Bool.eq_false_or_eq_true (decide ((Go.IntKind.wrap Go.IntKind.i64 ((Go.IntKind.wrap Go.IntKind.i64 ((0 : Int) + (1 : Int))) + (1 : Int))) < (Int.tmod (Go.IntKind.wrap Go.IntKind.i64 ((Int.tmod n (6 : Int)) + (6 : Int))) (6 : Int)))) with h2 | h2
      ·
        rcases Bool.eq_false_or_eq_true (decide ((Go.IntKind.wrap Go.IntKind.i64 ((Go.IntKind.wrap Go.IntKind.i64 ((Go.IntKind.wrap Go.IntKind.i64 ((0 : Int) + (1 : Int))) + (1 : Int))) + (1 : Int))) < (Int.tmod (Go.IntKind.wrap Go.IntKind.i64 ((Int.tmod n (6 : Int)) + (6 : Int))) (6 : Int)))) with h3 | h3
        ·
          rcases Bool.eq_false_or_eq_true (decide ((Go.IntKind.wrap Go.IntKind.i64 ((Go.IntKind.wrap Go.IntKind.i64 ((Go.IntKind.wrap Go.IntKind.i64 ((Go.IntKind.wrap Go.IntKind.i64 ((0 : Int) + (1 : Int))) + (1 : Int))) + (1 : Int))) + (1 : Int))) < (Int.tmod (Go.IntKind.wrap Go.IntKind.i64 ((Int.tmod n (6 : Int)) + (6 : Int))) (6 : Int)))) with h4 | h4
          ·
            have h5 : ((decide ((Go.IntKind.wrap Go.IntKind.i64 ((Go.IntKind.wrap Go.IntKind.i64 ((Go.IntKind.wrap Go.IntKind.i64 ((Go.IntKind.wrap Go.IntKind.i64 ((Go.IntKind.wrap Go.IntKind.i64 ((0 : Int) + (1 : Int))) + (1 : Int))) + (1 : Int))) + (1 : Int))) + (1 : Int))) < (Int.tmod (Go.IntKind.wrap Go.IntKind.i64 ((Int.tmod n (6 : Int)) + (6 : Int))) (6 : Int)))) = Bool.false) := by
              first | rfl | trivial | decide | ((try simp (disch := omega) only [wi, rem6, decide_eq_true_eq, decide_eq_false_iff_not] at *) <;> omega)
            have hp := turn_p5 a b n ⟨⟨⟨⟨⟨⟨trivial, h0⟩, h1⟩, h2⟩, h3⟩, h4⟩, h5⟩ w
            have hv : (.agg #[.int Go.IntKind.i64 (Go.IntKind.wrap Go.IntKind.i64 ((Go.IntKind.wrap Go.IntKind.i64 ((Go.IntKind.wrap Go.IntKind.i64 ((Go.IntKind.wrap Go.IntKind.i64 ((Go.IntKind.wrap Go.IntKind.i64 (a - b)) - a)) - (Go.IntKind.wrap Go.IntKind.i64 (a - b)))) - (Go.IntKind.wrap Go.IntKind.i64 ((Go.IntKind.wrap Go.IntKind.i64 (a - b)) - a)))) - (Go.IntKind.wrap Go.IntKind.i64 ((Go.IntKind.wrap Go.IntKind.i64 ((Go.IntKind.wrap Go.IntKind.i64 (a - b)) - a)) - (Go.IntKind.wrap Go.IntKind.i64 (a - b)))))), .int Go.IntKind.i64 (Go.IntKind.wrap Go.IntKind.i64 ((Go.IntKind.wrap Go.IntKind.i64 ((Go.IntKind.wrap Go.IntKind.i64 ((Go.IntKind.wrap Go.IntKind.i64 (a - b)) - a)) - (Go.IntKind.wrap Go.IntKind.i64 (a - b)))) - (Go.IntKind.wrap Go.IntKind.i64 ((Go.IntKind.wrap Go.IntKind.i64 (a - b)) - a))))] : Value) = .agg #[.int .i64 (Pl.turn (a, b) n).1, .int .i64 (Pl.turn (a, b) n).2] := by
              clear hp
              unfold Bg at hpre
              (try simp (disch := omega) only [wi, rem6, decide_eq_true_eq, decide_eq_false_iff_not] at *)
              rcases turn_cases (a, b) n with ⟨g, e⟩ | ⟨g, e⟩ | ⟨g, e⟩ | ⟨g, e⟩ | ⟨g, e⟩ | ⟨g, e⟩ <;> first | (exfalso; omega) | (rw [e]; done) | (rw [e]; first | rfl | (simp only; congr 2; simp only [Value.int.injEq, true_and, List.cons.injEq, and_true] <;> omega))
            exact hv ▸ hp
          ·
            have hp := turn_p4 a b n ⟨⟨⟨⟨⟨trivial, h0⟩, h1⟩, h2⟩, h3⟩, h4⟩ w
            have hv : (.agg #[.int Go.IntKind.i64 (Go.IntKind.wrap Go.IntKind.i64 ((Go.IntKind.wrap Go.IntKind.i64 ((Go.IntKind.wrap Go.IntKind.i64 ((Go.IntKind.wrap Go.IntKind.i64 (a - b)) - a)) - (Go.IntKind.wrap Go.IntKind.i64 (a - b)))) - (Go.IntKind.wrap Go.IntKind.i64 ((Go.IntKind.wrap Go.IntKind.i64 (a - b)) - a)))), .int Go.IntKind.i64 (Go.IntKind.wrap Go.IntKind.i64 ((Go.IntKind.wrap Go.IntKind.i64 ((Go.IntKind.wrap Go.IntKind.i64 (a - b)) - a)) - (Go.IntKind.wrap Go.IntKind.i64 (a - b))))] : Value) = .agg #[.int .i64 (Pl.turn (a, b) n).1, .int .i64 (Pl.turn (a, b) n).2] := by
              clear hp
              unfold Bg at hpre
              (try simp (disch := omega) only [wi, rem6, decide_eq_true_eq, decide_eq_false_iff_not] at *)
              rcases turn_cases (a, b) n with ⟨g, e⟩ | ⟨g, e⟩ | ⟨g, e⟩ | ⟨g, e⟩ | ⟨g, e⟩ | ⟨g, e⟩ <;> first | (exfalso; omega) | (rw [e]; done) | (rw [e]; first | rfl | (simp only; congr 2; simp only [Value.int.injEq, true_and, List.cons.injEq, and_true] <;> omega))
            exact hv ▸ hp
        ·
          have hp := turn_p3 a b n ⟨⟨⟨⟨trivial, h0⟩, h1⟩, h2⟩, h3⟩ w
          have hv : (.agg #[.int Go.IntKind.i64 (Go.IntKind.wrap Go.IntKind.i64 ((Go.IntKind.wrap Go.IntKind.i64 ((Go.IntKind.wrap Go.IntKind.i64 (a - b)) - a)) - (Go.IntKind.wrap Go.IntKind.i64 (a - b)))), .int Go.IntKind.i64 (Go.IntKind.wrap Go.IntKind.i64 ((Go.IntKind.wrap Go.IntKind.i64 (a - b)) - a))] : Value) = .agg #[.int .i64 (Pl.turn (a, b) n).1, .int .i64 (Pl.turn (a, b) n).2] := by
            clear hp
            unfold Bg at hpre
            (try simp (disch := omega) only [wi, rem6, decide_eq_true_eq, decide_eq_false_iff_not] at *)
            rcases turn_cases (a, b) n with ⟨g, e⟩ | ⟨g, e⟩ | ⟨g, e⟩ | ⟨g, e⟩ | ⟨g, e⟩ | ⟨g, e⟩ <;> first | (exfalso; omega) | (rw [e]; done) | (rw [e]; first | rfl | (simp only; congr 2; simp only [Value.int.injEq, true_and, List.cons.injEq, and_true] <;> omega))
          exact hv ▸ hp
      ·
        have hp := turn_p2 a b n ⟨⟨⟨trivial, h0⟩, h1⟩, h2⟩ w
        have hv : (.agg #[.int Go.IntKind.i64 (Go.IntKind.wrap Go.IntKind.i64 ((Go.IntKind.wrap Go.IntKind.i64 (a - b)) - a)), .int Go.IntKind.i64 (Go.IntKind.wrap Go.IntKind.i64 (a - b))] : Value) = .agg #[.int .i64 (Pl.turn (a, b) n).1, .int .i64 (Pl.turn (a, b) n).2] := by
          clear hp
          unfold Bg at hpre
          (try simp (disch := omega) only [wi, rem6, decide_eq_true_eq, decide_eq_false_iff_not] at *)
          rcases turn_cases (a, b) n with ⟨g, e⟩ | ⟨g, e⟩ | ⟨g, e⟩ | ⟨g, e⟩ | ⟨g, e⟩ | ⟨g, e⟩ <;> first | (exfalso; omega) | (rw [e]; done) | (rw [e]; first | rfl | (simp only; congr 2; simp only [Value.int.injEq, true_and, List.cons.injEq, and_true] <;> omega))
        exact hv ▸ hp
    ·
      have hp := turn_p1 a b n ⟨⟨trivial, h0⟩, h1⟩ w
      have hv : (.agg #[.int Go.IntKind.i64 (Go.IntKind.wrap Go.IntKind.i64 (a - b)), .int Go.IntKind.i64 a] : Value) = .agg #[.int .i64 (Pl.turn (a, b) n).1, .int .i64 (Pl.turn (a, b) n).2] := by
        clear hp
        unfold Bg at hpre
        (try simp (disch := omega) only [wi, rem6, decide_eq_true_eq, decide_eq_false_iff_not] at *)
        rcases turn_cases (a, b) n with ⟨g, e⟩ | ⟨g, e⟩ | ⟨g, e⟩ | ⟨g, e⟩ | ⟨g, e⟩ | ⟨g, e⟩ <;> first | (exfalso; omega) | (rw [e]; done) | (rw [e]; first | rfl | (simp only; congr 2; simp only [Value.int.injEq, true_and, List.cons.injEq, and_true] <;> omega))
      exact hv ▸ hp
  ·
    have hp := turn_p0 a b n ⟨trivial, h0⟩ w
    have hv : (.agg #[.int Go.IntKind.i64 a, .int Go.IntKind.i64 b] : Value) = .agg #[.int .i64 (Pl.turn (a, b) n).1, .int .i64 (Pl.turn (a, b) n).2] := by
      clear hp
      unfold Bg at hpre
      (try simp (disch := omega) only [wi, rem6, decide_eq_true_eq, decide_eq_false_iff_not] at *)
      rcases turn_cases (a, b) n with ⟨g, e⟩ | ⟨g, e⟩ | ⟨g, e⟩ | ⟨g, e⟩ | ⟨g, e⟩ | ⟨g, e⟩ <;> first | (exfalso; omega) | (rw [e]; done) | (rw [e]; first | rfl | (simp only; congr 2; simp only [Value.int.injEq, true_and, List.cons.injEq, and_true] <;> omega))
    exact hv ▸ hp
theorem k_turn : ConOk Tryz.prog c_turn := fun ns hl => by
  have hl0 : ns.length = 3 := hl
  clear hl
  obtain ⟨a, ns0, rfl, hl1⟩ := len_cons hl0
  obtain ⟨b, ns1, rfl, hl2⟩ := len_cons hl1
  obtain ⟨n, ns2, rfl, hl3⟩ := len_cons hl2
  obtain rfl := len_nil hl3
  exact ⟨rfl, fun h w => turn_any a b n h w⟩
end Go.Proofs.YtledgemlflbfdaaGreatDoor
end
section
set_option linter.all false
set_option maxRecDepth 1000000
set_option maxHeartbeats 2000000
open Go.RowKit
namespace Go.Proofs.YtledgemlflbfdaaGreatDoor
open Mini

theorem turned_X : FOkS Tryz.prog x_turned := kAll_ok _ ⟨k_checkEisen, k_checkTurn, k_turn, k_limited, trivial⟩
theorem turned_args (a b n : Int) : (#[.agg #[.int .i64 a, .int .i64 b], .int .i64 n] : Array Value).toList.all (ground 8) = true := by kernel_rfl
def turned_r0 (a b n : Int) : Prop := (((((((((True ∧ True) ∧ True) ∧ ((decide ((0 : Int) < ((((2 : Nat) : Nat)) : Int))) = Bool.true)) ∧ ((0 : Int) = (Int.ofNat (0 : Nat)))) ∧ (((Go.Proofs.YtledgemlflbfdaaGreatDoor.Pl.parts a b (1048576 : Int)) != (0 : Int)) = Bool.false)) ∧ ((decide ((Go.IntKind.wrap Go.IntKind.i64 ((0 : Int) + (1 : Int))) < ((((2 : Nat) : Nat)) : Int))) = Bool.true)) ∧ ((Go.IntKind.wrap Go.IntKind.i64 ((0 : Int) + (1 : Int))) = (Int.ofNat (1 : Nat)))) ∧ (((Go.Proofs.YtledgemlflbfdaaGreatDoor.Pl.cr n (- (1000000 : Int)) (1000000 : Int)) != (0 : Int)) = Bool.true)) ∧ (((Go.Proofs.YtledgemlflbfdaaGreatDoor.Pl.cr n (- (1000000 : Int)) (1000000 : Int)) != (0 : Int)) = Bool.true))
theorem turned_o0 (a b n : Int) : obOf (turned_e0 a b n) = turned_r0 a b n := by kernel_rfl
theorem turned_v0 (a b n : Int) : resOf (turned_e0 a b n) = .tuple #[.agg #[.int Go.IntKind.i64 (0 : Int), .int Go.IntKind.i64 (0 : Int)], .int Go.IntKind.i64 (Go.Proofs.YtledgemlflbfdaaGreatDoor.Pl.cr n (- (1000000 : Int)) (1000000 : Int))] := by kernel_rfl
theorem turned_c0 (a b n : Int) : cleanOf Tryz.prog.globals.size (turned_e0 a b n) = true := by kernel_rfl
theorem turned_q0 (a b n : Int) : turned_e0 a b n = evFS Tryz.prog x_turned 1000 11 #[.agg #[.int .i64 a, .int .i64 b], .int .i64 n] (noTabs 6) ⟨[1, 0, 0, 1, 1, 1, 1], True⟩ := by
  delta turned_e0
  exact Eq.refl _
theorem turned_p0 (a b n : Int) (h : turned_r0 a b n) (w : World) : Calls Tryz.prog 11 #[.agg #[.int .i64 a, .int .i64 b], .int .i64 n] w fun en w' => en = .returned (.tuple #[.agg #[.int Go.IntKind.i64 (0 : Int), .int Go.IntKind.i64 (0 : Int)], .int Go.IntKind.i64 (Go.Proofs.YtledgemlflbfdaaGreatDoor.Pl.cr n (- (1000000 : Int)) (1000000 : Int))]) ∧ Below w.heap.size w w' := by
  have hv := turned_v0 a b n
  have hc := turned_c0 a b n
  have he := turned_q0 a b n
  have ho := turned_o0 a b n
  generalize turned_e0 a b n = r at *
  exact calls_way he gfol turned_X hv rfl (turned_args a b n) hc ho h (bl w)
def turned_r1 (a b n : Int) : Prop := ((((((((((((True ∧ True) ∧ True) ∧ ((decide ((0 : Int) < ((((2 : Nat) : Nat)) : Int))) = Bool.true)) ∧ ((0 : Int) = (Int.ofNat (0 : Nat)))) ∧ (((Go.Proofs.YtledgemlflbfdaaGreatDoor.Pl.parts a b (1048576 : Int)) != (0 : Int)) = Bool.false)) ∧ ((decide ((Go.IntKind.wrap Go.IntKind.i64 ((0 : Int) + (1 : Int))) < ((((2 : Nat) : Nat)) : Int))) = Bool.true)) ∧ ((Go.IntKind.wrap Go.IntKind.i64 ((0 : Int) + (1 : Int))) = (Int.ofNat (1 : Nat)))) ∧ (((Go.Proofs.YtledgemlflbfdaaGreatDoor.Pl.cr n (- (1000000 : Int)) (1000000 : Int)) != (0 : Int)) = Bool.false)) ∧ ((decide ((Go.IntKind.wrap Go.IntKind.i64 ((Go.IntKind.wrap Go.IntKind.i64 ((0 : Int) + (1 : Int))) + (1 : Int))) < ((((2 : Nat) : Nat)) : Int))) = Bool.false)) ∧ (((0 : Int) != (0 : Int)) = Bool.false)) ∧ (((- (1099511627776 : Int)) ≤ a) ∧ ((a ≤ (1099511627776 : Int)) ∧ (((- (1099511627776 : Int)) ≤ b) ∧ (b ≤ (1099511627776 : Int)))))) ∧ True)
theorem turned_o1 (a b n : Int) : obOf (turned_e1 a b n) = turned_r1 a b n := by kernel_rfl
theorem turned_v1 (a b n : Int) : resOf (turned_e1 a b n) = .tuple #[.agg #[.int Go.IntKind.i64 (((Go.Proofs.YtledgemlflbfdaaGreatDoor.Pl.lim (((Go.Proofs.YtledgemlflbfdaaGreatDoor.Pl.turn (a, b) n)).1, ((Go.Proofs.YtledgemlflbfdaaGreatDoor.Pl.turn (a, b) n)).2))).1).1, .int Go.IntKind.i64 (((Go.Proofs.YtledgemlflbfdaaGreatDoor.Pl.lim (((Go.Proofs.YtledgemlflbfdaaGreatDoor.Pl.turn (a, b) n)).1, ((Go.Proofs.YtledgemlflbfdaaGreatDoor.Pl.turn (a, b) n)).2))).1).2], .int Go.IntKind.i64 ((Go.Proofs.YtledgemlflbfdaaGreatDoor.Pl.lim (((Go.Proofs.YtledgemlflbfdaaGreatDoor.Pl.turn (a, b) n)).1, ((Go.Proofs.YtledgemlflbfdaaGreatDoor.Pl.turn (a, b) n)).2))).2] := by kernel_rfl
theorem turned_c1 (a b n : Int) : cleanOf Tryz.prog.globals.size (turned_e1 a b n) = true := by kernel_rfl
theorem turned_q1 (a b n : Int) : turned_e1 a b n = evFS Tryz.prog x_turned 1000 11 #[.agg #[.int .i64 a, .int .i64 b], .int .i64 n] (noTabs 6) ⟨[1, 0, 0, 1, 1, 0, 0, 0], True⟩ := by
  delta turned_e1
  exact Eq.refl _
theorem turned_p1 (a b n : Int) (h : turned_r1 a b n) (w : World) : Calls Tryz.prog 11 #[.agg #[.int .i64 a, .int .i64 b], .int .i64 n] w fun en w' => en = .returned (.tuple #[.agg #[.int Go.IntKind.i64 (((Go.Proofs.YtledgemlflbfdaaGreatDoor.Pl.lim (((Go.Proofs.YtledgemlflbfdaaGreatDoor.Pl.turn (a, b) n)).1, ((Go.Proofs.YtledgemlflbfdaaGreatDoor.Pl.turn (a, b) n)).2))).1).1, .int Go.IntKind.i64 (((Go.Proofs.YtledgemlflbfdaaGreatDoor.Pl.lim (((Go.Proofs.YtledgemlflbfdaaGreatDoor.Pl.turn (a, b) n)).1, ((Go.Proofs.YtledgemlflbfdaaGreatDoor.Pl.turn (a, b) n)).2))).1).2], .int Go.IntKind.i64 ((Go.Proofs.YtledgemlflbfdaaGreatDoor.Pl.lim (((Go.Proofs.YtledgemlflbfdaaGreatDoor.Pl.turn (a, b) n)).1, ((Go.Proofs.YtledgemlflbfdaaGreatDoor.Pl.turn (a, b) n)).2))).2]) ∧ Below w.heap.size w w' := by
  have hv := turned_v1 a b n
  have hc := turned_c1 a b n
  have he := turned_q1 a b n
  have ho := turned_o1 a b n
  generalize turned_e1 a b n = r at *
  exact calls_way he gfol turned_X hv rfl (turned_args a b n) hc ho h (bl w)
def turned_r2 (a b n : Int) : Prop := ((((((True ∧ True) ∧ True) ∧ ((decide ((0 : Int) < ((((2 : Nat) : Nat)) : Int))) = Bool.true)) ∧ ((0 : Int) = (Int.ofNat (0 : Nat)))) ∧ (((Go.Proofs.YtledgemlflbfdaaGreatDoor.Pl.parts a b (1048576 : Int)) != (0 : Int)) = Bool.true)) ∧ (((Go.Proofs.YtledgemlflbfdaaGreatDoor.Pl.parts a b (1048576 : Int)) != (0 : Int)) = Bool.true))
theorem turned_o2 (a b n : Int) : obOf (turned_e2 a b n) = turned_r2 a b n := by kernel_rfl
theorem turned_v2 (a b n : Int) : resOf (turned_e2 a b n) = .tuple #[.agg #[.int Go.IntKind.i64 (0 : Int), .int Go.IntKind.i64 (0 : Int)], .int Go.IntKind.i64 (Go.Proofs.YtledgemlflbfdaaGreatDoor.Pl.parts a b (1048576 : Int))] := by kernel_rfl
theorem turned_c2 (a b n : Int) : cleanOf Tryz.prog.globals.size (turned_e2 a b n) = true := by kernel_rfl
theorem turned_q2 (a b n : Int) : turned_e2 a b n = evFS Tryz.prog x_turned 1000 11 #[.agg #[.int .i64 a, .int .i64 b], .int .i64 n] (noTabs 6) ⟨[1, 0, 1, 1], True⟩ := by
  delta turned_e2
  exact Eq.refl _
theorem turned_p2 (a b n : Int) (h : turned_r2 a b n) (w : World) : Calls Tryz.prog 11 #[.agg #[.int .i64 a, .int .i64 b], .int .i64 n] w fun en w' => en = .returned (.tuple #[.agg #[.int Go.IntKind.i64 (0 : Int), .int Go.IntKind.i64 (0 : Int)], .int Go.IntKind.i64 (Go.Proofs.YtledgemlflbfdaaGreatDoor.Pl.parts a b (1048576 : Int))]) ∧ Below w.heap.size w w' := by
  have hv := turned_v2 a b n
  have hc := turned_c2 a b n
  have he := turned_q2 a b n
  have ho := turned_o2 a b n
  generalize turned_e2 a b n = r at *
  exact calls_way he gfol turned_X hv rfl (turned_args a b n) hc ho h (bl w)
theorem turned_any (a b n : Int) (hpre : True) (w : World) : Calls Tryz.prog 11 #[.agg #[.int .i64 a, .int .i64 b], .int .i64 n] w fun en w' => en = .returned (.tuple #[.agg #[.int .i64 (two (Pl.parts a b 1048576) (Pl.cr n (-1000000) 1000000) (Pl.lim (Pl.turn (a, b) n))).1.1, .int .i64 (two (Pl.parts a b 1048576) (Pl.cr n (-1000000) 1000000) (Pl.lim (Pl.turn (a, b) n))).1.2], .int .i64 (two (Pl.parts a b 1048576) (Pl.cr n (-1000000) 1000000) (Pl.lim (Pl.turn (a, b) n))).2]) ∧ Below w.heap.size w w' := by
  have h0 : True := by
    first | rfl | trivial | (simp only [bne_eq_false_iff_eq] at *; exact bg_of (by assumption) (by decide))
  have h1 : ((decide ((0 : Int) < ((((2 : Nat) : Nat)) : Int))) = Bool.true) := by
    first | rfl | trivial | (simp only [bne_eq_false_iff_eq] at *; exact bg_of (by assumption) (by decide))
  have h2 : ((0 : Int) = (Int.ofNat (0 : Nat))) := by
    first | rfl | trivial | (simp only [bne_eq_false_iff_eq] at *; exact bg_of (by assumption) (by decide))
  rcases Bool.eq_false_or_eq_true ((Go.Proofs.YtledgemlflbfdaaGreatDoor.Pl.parts a b (1048576 : Int)) != (0 : Int)) with h3 | h3
  ·
    have hp := turned_p2 a b n ⟨⟨⟨⟨⟨⟨trivial, h0⟩, h0⟩, h1⟩, h2⟩, h3⟩, h3⟩ w
    have hv : (.tuple #[.agg #[.int Go.IntKind.i64 (0 : Int), .int Go.IntKind.i64 (0 : Int)], .int Go.IntKind.i64 (Go.Proofs.YtledgemlflbfdaaGreatDoor.Pl.parts a b (1048576 : Int))] : Value) = .tuple #[.agg #[.int .i64 (two (Pl.parts a b 1048576) (Pl.cr n (-1000000) 1000000) (Pl.lim (Pl.turn (a, b) n))).1.1, .int .i64 (two (Pl.parts a b 1048576) (Pl.cr n (-1000000) 1000000) (Pl.lim (Pl.turn (a, b) n))).1.2], .int .i64 (two (Pl.parts a b 1048576) (Pl.cr n (-1000000) 1000000) (Pl.lim (Pl.turn (a, b) n))).2] := by
      clear hp
      first | rfl | ((try simp only [bne_iff_ne, ne_eq, decide_eq_true_eq, decide_eq_false_iff_not, Bool.not_eq_true', Bool.not_eq_false', beq_iff_eq, beq_eq_false_iff_ne, bne_eq_false_iff_eq, Bool.and_eq_true, Bool.not_eq_true, Bool.not_eq_false, two] at *); grind)
    exact hv ▸ hp
  ·
    have h4 : ((decide ((Go.IntKind.wrap Go.IntKind.i64 ((0 : Int) + (1 : Int))) < ((((2 : Nat) : Nat)) : Int))) = Bool.true) := by
      first | rfl | trivial | (simp only [bne_eq_false_iff_eq] at *; exact bg_of (by assumption) (by decide))
    have h5 : ((Go.IntKind.wrap Go.IntKind.i64 ((0 : Int) + (1 : Int))) = (Int.ofNat (1 : Nat))) := by
      first | rfl | trivial | (simp only [bne_eq_false_iff_eq] at *; exact bg_of (by assumption) (by decide))
    rcases Bool.eq_false_or_eq_true ((Go.Proofs.YtledgemlflbfdaaGreatDoor.Pl.cr n (- (1000000 : Int)) (1000000 : Int)) != (0 : Int)) with h6 | h6
    ·
      have hp := turned_p0 a b n ⟨⟨⟨⟨⟨⟨⟨⟨⟨trivial, h0⟩, h0⟩, h1⟩, h2⟩, h3⟩, h4⟩, h5⟩, h6⟩, h6⟩ w
      have hv : (.tuple #[.agg #[.int Go.IntKind.i64 (0 : Int), .int Go.IntKind.i64 (0 : Int)], .int Go.IntKind.i64 (Go.Proofs.YtledgemlflbfdaaGreatDoor.Pl.cr n (- (1000000 : Int)) (1000000 : Int))] : Value) = .tuple #[.agg #[.int .i64 (two (Pl.parts a b 1048576) (Pl.cr n (-1000000) 1000000) (Pl.lim (Pl.turn (a, b) n))).1.1, .int .i64 (two (Pl.parts a b 1048576) (Pl.cr n (-1000000) 1000000) (Pl.lim (Pl.turn (a, b) n))).1.2], .int .i64 (two (Pl.parts a b 1048576) (Pl.cr n (-1000000) 1000000) (Pl.lim (Pl.turn (a, b) n))).2] := by
        clear hp
        first | rfl | ((try simp only [bne_iff_ne, ne_eq, decide_eq_true_eq, decide_eq_false_iff_not, Bool.not_eq_true', Bool.not_eq_false', beq_iff_eq, beq_eq_false_iff_ne, bne_eq_false_iff_eq, Bool.and_eq_true, Bool.not_eq_true, Bool.not_eq_false, two] at *); grind)
      exact hv ▸ hp
    ·
      have h7 : ((decide ((Go.IntKind.wrap Go.IntKind.i64 ((Go.IntKind.wrap Go.IntKind.i64 ((0 : Int) + (1 : Int))) + (1 : Int))) < ((((2 : Nat) : Nat)) : Int))) = Bool.false) := by
        first | rfl | trivial | (simp only [bne_eq_false_iff_eq] at *; exact bg_of (by assumption) (by decide))
      have h8 : (((0 : Int) != (0 : Int)) = Bool.false) := by
        first | rfl | trivial | (simp only [bne_eq_false_iff_eq] at *; exact bg_of (by assumption) (by decide))
      have h9 : (((- (1099511627776 : Int)) ≤ a) ∧ ((a ≤ (1099511627776 : Int)) ∧ (((- (1099511627776 : Int)) ≤ b) ∧ (b ≤ (1099511627776 : Int))))) := by
        first | rfl | trivial | (simp only [bne_eq_false_iff_eq] at *; exact bg_of (by assumption) (by decide))
      have hp := turned_p1 a b n ⟨⟨⟨⟨⟨⟨⟨⟨⟨⟨⟨⟨trivial, h0⟩, h0⟩, h1⟩, h2⟩, h3⟩, h4⟩, h5⟩, h6⟩, h7⟩, h8⟩, h9⟩, h0⟩ w
      have hv : (.tuple #[.agg #[.int Go.IntKind.i64 (((Go.Proofs.YtledgemlflbfdaaGreatDoor.Pl.lim (((Go.Proofs.YtledgemlflbfdaaGreatDoor.Pl.turn (a, b) n)).1, ((Go.Proofs.YtledgemlflbfdaaGreatDoor.Pl.turn (a, b) n)).2))).1).1, .int Go.IntKind.i64 (((Go.Proofs.YtledgemlflbfdaaGreatDoor.Pl.lim (((Go.Proofs.YtledgemlflbfdaaGreatDoor.Pl.turn (a, b) n)).1, ((Go.Proofs.YtledgemlflbfdaaGreatDoor.Pl.turn (a, b) n)).2))).1).2], .int Go.IntKind.i64 ((Go.Proofs.YtledgemlflbfdaaGreatDoor.Pl.lim (((Go.Proofs.YtledgemlflbfdaaGreatDoor.Pl.turn (a, b) n)).1, ((Go.Proofs.YtledgemlflbfdaaGreatDoor.Pl.turn (a, b) n)).2))).2] : Value) = .tuple #[.agg #[.int .i64 (two (Pl.parts a b 1048576) (Pl.cr n (-1000000) 1000000) (Pl.lim (Pl.turn (a, b) n))).1.1, .int .i64 (two (Pl.parts a b 1048576) (Pl.cr n (-1000000) 1000000) (Pl.lim (Pl.turn (a, b) n))).1.2], .int .i64 (two (Pl.parts a b 1048576) (Pl.cr n (-1000000) 1000000) (Pl.lim (Pl.turn (a, b) n))).2] := by
        clear hp
        first | rfl | ((try simp only [bne_iff_ne, ne_eq, decide_eq_true_eq, decide_eq_false_iff_not, Bool.not_eq_true', Bool.not_eq_false', beq_iff_eq, beq_eq_false_iff_ne, bne_eq_false_iff_eq, Bool.and_eq_true, Bool.not_eq_true, Bool.not_eq_false, two] at *); grind)
      exact hv ▸ hp
theorem k_turned : ConOk Tryz.prog c_turned := fun ns hl => by
  have hl0 : ns.length = 3 := hl
  clear hl
  obtain ⟨a, ns0, rfl, hl1⟩ := len_cons hl0
  obtain ⟨b, ns1, rfl, hl2⟩ := len_cons hl1
  obtain ⟨n, ns2, rfl, hl3⟩ := len_cons hl2
  obtain rfl := len_nil hl3
  exact ⟨rfl, fun h w => turned_any a b n h w⟩
end Go.Proofs.YtledgemlflbfdaaGreatDoor
end
section
set_option linter.all false
set_option maxRecDepth 1000000
set_option maxHeartbeats 2000000
open Go.RowKit
namespace Go.Proofs.YtledgemlflbfdaaGreatDoor
open Mini

theorem enorm_X : FOkS Tryz.prog x_enorm := noXS_ok
theorem enorm_args (a b : Int) : (#[.agg #[.int .i64 a, .int .i64 b]] : Array Value).toList.all (ground 8) = true := by kernel_rfl
def enorm_r0 (a b : Int) : Prop := True
theorem enorm_o0 (a b : Int) : obOf (enorm_e0 a b) = enorm_r0 a b := by kernel_rfl
theorem enorm_v0 (a b : Int) : resOf (enorm_e0 a b) = .int Go.IntKind.i64 (Go.IntKind.wrap Go.IntKind.i64 ((Go.IntKind.wrap Go.IntKind.i64 ((Go.IntKind.wrap Go.IntKind.i64 (a * a)) - (Go.IntKind.wrap Go.IntKind.i64 (a * b)))) + (Go.IntKind.wrap Go.IntKind.i64 (b * b)))) := by kernel_rfl
theorem enorm_c0 (a b : Int) : cleanOf Tryz.prog.globals.size (enorm_e0 a b) = true := by kernel_rfl
theorem enorm_q0 (a b : Int) : enorm_e0 a b = evFS Tryz.prog x_enorm 1000 53 #[.agg #[.int .i64 a, .int .i64 b]] (noTabs 6) ⟨[], True⟩ := by
  delta enorm_e0
  exact Eq.refl _
theorem enorm_p0 (a b : Int) (h : enorm_r0 a b) (w : World) : Calls Tryz.prog 53 #[.agg #[.int .i64 a, .int .i64 b]] w fun en w' => en = .returned (.int Go.IntKind.i64 (Go.IntKind.wrap Go.IntKind.i64 ((Go.IntKind.wrap Go.IntKind.i64 ((Go.IntKind.wrap Go.IntKind.i64 (a * a)) - (Go.IntKind.wrap Go.IntKind.i64 (a * b)))) + (Go.IntKind.wrap Go.IntKind.i64 (b * b))))) ∧ Below w.heap.size w w' := by
  have hv := enorm_v0 a b
  have hc := enorm_c0 a b
  have he := enorm_q0 a b
  have ho := enorm_o0 a b
  generalize enorm_e0 a b = r at *
  exact calls_way he gfol enorm_X hv rfl (enorm_args a b) hc ho h (bl w)
theorem enorm_any (a b : Int) (hpre : Bg 268435456 a b) (w : World) : Calls Tryz.prog 53 #[.agg #[.int .i64 a, .int .i64 b]] w fun en w' => en = .returned (.int .i64 (Pl.norm (a, b))) ∧ Below w.heap.size w w' := by
  obtain ⟨p1, p2, p3, p4⟩ := hpre
  have b1 := bd 268435456 268435456 a a (by omega) (by omega) ⟨p1, p2⟩ ⟨p1, p2⟩
  have b2 := bd 268435456 268435456 b b (by omega) (by omega) ⟨p3, p4⟩ ⟨p3, p4⟩
  have b3 := bd 268435456 268435456 a b (by omega) (by omega) ⟨p1, p2⟩ ⟨p3, p4⟩
  have hp := enorm_p0 a b trivial w
  have hv : (.int Go.IntKind.i64 (Go.IntKind.wrap Go.IntKind.i64 ((Go.IntKind.wrap Go.IntKind.i64 ((Go.IntKind.wrap Go.IntKind.i64 (a * a)) - (Go.IntKind.wrap Go.IntKind.i64 (a * b)))) + (Go.IntKind.wrap Go.IntKind.i64 (b * b)))) : Value) = .int .i64 (Pl.norm (a, b)) := by
    clear hp
    (try simp (disch := omega) only [wi]); rfl
  exact hv ▸ hp
theorem k_enorm : ConOk Tryz.prog c_enorm := fun ns hl => by
  have hl0 : ns.length = 2 := hl
  clear hl
  obtain ⟨a, ns0, rfl, hl1⟩ := len_cons hl0
  obtain ⟨b, ns1, rfl, hl2⟩ := len_cons hl1
  obtain rfl := len_nil hl2
  exact ⟨rfl, fun h w => enorm_any a b h w⟩
end Go.Proofs.YtledgemlflbfdaaGreatDoor
end
section
set_option linter.all false
set_option maxRecDepth 1000000
set_option maxHeartbeats 2000000
open Go.RowKit
namespace Go.Proofs.YtledgemlflbfdaaGreatDoor
open Mini

theorem norm_X : FOkS Tryz.prog x_norm := kAll_ok _ ⟨k_checkEisen, k_enorm, trivial⟩
theorem norm_args (a b : Int) : (#[.agg #[.int .i64 a, .int .i64 b]] : Array Value).toList.all (ground 8) = true := by kernel_rfl
def norm_r0 (a b : Int) : Prop := (((True ∧ True) ∧ (((Go.Proofs.YtledgemlflbfdaaGreatDoor.Pl.parts a b (1048576 : Int)) != (0 : Int)) = Bool.false)) ∧ (((- (268435456 : Int)) ≤ a) ∧ ((a ≤ (268435456 : Int)) ∧ (((- (268435456 : Int)) ≤ b) ∧ (b ≤ (268435456 : Int))))))
theorem norm_o0 (a b : Int) : obOf (norm_e0 a b) = norm_r0 a b := by kernel_rfl
theorem norm_v0 (a b : Int) : resOf (norm_e0 a b) = .tuple #[.int Go.IntKind.i64 (Go.Proofs.YtledgemlflbfdaaGreatDoor.Pl.norm (a, b)), .int Go.IntKind.i64 (0 : Int)] := by kernel_rfl
theorem norm_c0 (a b : Int) : cleanOf Tryz.prog.globals.size (norm_e0 a b) = true := by kernel_rfl
theorem norm_q0 (a b : Int) : norm_e0 a b = evFS Tryz.prog x_norm 1000 12 #[.agg #[.int .i64 a, .int .i64 b]] (noTabs 6) ⟨[0], True⟩ := by
  delta norm_e0
  exact Eq.refl _
theorem norm_p0 (a b : Int) (h : norm_r0 a b) (w : World) : Calls Tryz.prog 12 #[.agg #[.int .i64 a, .int .i64 b]] w fun en w' => en = .returned (.tuple #[.int Go.IntKind.i64 (Go.Proofs.YtledgemlflbfdaaGreatDoor.Pl.norm (a, b)), .int Go.IntKind.i64 (0 : Int)]) ∧ Below w.heap.size w w' := by
  have hv := norm_v0 a b
  have hc := norm_c0 a b
  have he := norm_q0 a b
  have ho := norm_o0 a b
  generalize norm_e0 a b = r at *
  exact calls_way he gfol norm_X hv rfl (norm_args a b) hc ho h (bl w)
def norm_r1 (a b : Int) : Prop := ((True ∧ True) ∧ (((Go.Proofs.YtledgemlflbfdaaGreatDoor.Pl.parts a b (1048576 : Int)) != (0 : Int)) = Bool.true))
theorem norm_o1 (a b : Int) : obOf (norm_e1 a b) = norm_r1 a b := by kernel_rfl
theorem norm_v1 (a b : Int) : resOf (norm_e1 a b) = .tuple #[.int Go.IntKind.i64 (0 : Int), .int Go.IntKind.i64 (Go.Proofs.YtledgemlflbfdaaGreatDoor.Pl.parts a b (1048576 : Int))] := by kernel_rfl
theorem norm_c1 (a b : Int) : cleanOf Tryz.prog.globals.size (norm_e1 a b) = true := by kernel_rfl
theorem norm_q1 (a b : Int) : norm_e1 a b = evFS Tryz.prog x_norm 1000 12 #[.agg #[.int .i64 a, .int .i64 b]] (noTabs 6) ⟨[1], True⟩ := by
  delta norm_e1
  exact Eq.refl _
theorem norm_p1 (a b : Int) (h : norm_r1 a b) (w : World) : Calls Tryz.prog 12 #[.agg #[.int .i64 a, .int .i64 b]] w fun en w' => en = .returned (.tuple #[.int Go.IntKind.i64 (0 : Int), .int Go.IntKind.i64 (Go.Proofs.YtledgemlflbfdaaGreatDoor.Pl.parts a b (1048576 : Int))]) ∧ Below w.heap.size w w' := by
  have hv := norm_v1 a b
  have hc := norm_c1 a b
  have he := norm_q1 a b
  have ho := norm_o1 a b
  generalize norm_e1 a b = r at *
  exact calls_way he gfol norm_X hv rfl (norm_args a b) hc ho h (bl w)
theorem norm_any (a b : Int) (hpre : True) (w : World) : Calls Tryz.prog 12 #[.agg #[.int .i64 a, .int .i64 b]] w fun en w' => en = .returned (.tuple #[.int .i64 (if Pl.parts a b 1048576 = 0 then Pl.norm (a, b) else 0), .int .i64 (Pl.parts a b 1048576)]) ∧ Below w.heap.size w w' := by
  have h0 : True := by
    first | rfl | trivial | (simp only [bne_eq_false_iff_eq] at *; exact bg_of (by assumption) (by decide))
  rcases Bool.eq_false_or_eq_true ((Go.Proofs.YtledgemlflbfdaaGreatDoor.Pl.parts a b (1048576 : Int)) != (0 : Int)) with h1 | h1
  ·
    have hp := norm_p1 a b ⟨⟨trivial, h0⟩, h1⟩ w
    have hv : (.tuple #[.int Go.IntKind.i64 (0 : Int), .int Go.IntKind.i64 (Go.Proofs.YtledgemlflbfdaaGreatDoor.Pl.parts a b (1048576 : Int))] : Value) = .tuple #[.int .i64 (if Pl.parts a b 1048576 = 0 then Pl.norm (a, b) else 0), .int .i64 (Pl.parts a b 1048576)] := by
      clear hp
      first | rfl | ((try simp only [bne_iff_ne, ne_eq, decide_eq_true_eq, decide_eq_false_iff_not, Bool.not_eq_true', Bool.not_eq_false', beq_iff_eq, beq_eq_false_iff_ne, bne_eq_false_iff_eq, Bool.and_eq_true, Bool.not_eq_true, Bool.not_eq_false, two] at *); grind)
    exact hv ▸ hp
  ·
    have h2 : (((- (268435456 : Int)) ≤ a) ∧ ((a ≤ (268435456 : Int)) ∧ (((- (268435456 : Int)) ≤ b) ∧ (b ≤ (268435456 : Int))))) := by
      first | rfl | trivial | (simp only [bne_eq_false_iff_eq] at *; exact bg_of (by assumption) (by decide))
    have hp := norm_p0 a b ⟨⟨⟨trivial, h0⟩, h1⟩, h2⟩ w
    have hv : (.tuple #[.int Go.IntKind.i64 (Go.Proofs.YtledgemlflbfdaaGreatDoor.Pl.norm (a, b)), .int Go.IntKind.i64 (0 : Int)] : Value) = .tuple #[.int .i64 (if Pl.parts a b 1048576 = 0 then Pl.norm (a, b) else 0), .int .i64 (Pl.parts a b 1048576)] := by
      clear hp
      first | rfl | ((try simp only [bne_iff_ne, ne_eq, decide_eq_true_eq, decide_eq_false_iff_not, Bool.not_eq_true', Bool.not_eq_false', beq_iff_eq, beq_eq_false_iff_ne, bne_eq_false_iff_eq, Bool.and_eq_true, Bool.not_eq_true, Bool.not_eq_false, two] at *); grind)
    exact hv ▸ hp
theorem k_norm : ConOk Tryz.prog c_norm := fun ns hl => by
  have hl0 : ns.length = 2 := hl
  clear hl
  obtain ⟨a, ns0, rfl, hl1⟩ := len_cons hl0
  obtain ⟨b, ns1, rfl, hl2⟩ := len_cons hl1
  obtain rfl := len_nil hl2
  exact ⟨rfl, fun h w => norm_any a b h w⟩
end Go.Proofs.YtledgemlflbfdaaGreatDoor
end
section
set_option linter.all false
set_option maxRecDepth 1000000
set_option maxHeartbeats 2000000
open Go.RowKit
namespace Go.Proofs.YtledgemlflbfdaaGreatDoor
open Mini

theorem rrange_X : FOkS Tryz.prog x_rrange := noXS_ok
theorem rrange_args (n lo hi : Int) : (#[.int .i64 n, .int .i64 lo, .int .i64 hi] : Array Value).toList.all (ground 8) = true := by kernel_rfl
def rrange_r0 (n lo hi : Int) : Prop := (((((True ∧ ((decide (n < lo)) = Bool.true)) ∧ ((decide (n < lo)) = Bool.true)) ∧ ((decide (n < lo)) = Bool.true)) ∧ ((decide (n < lo)) = Bool.true)) ∧ (Bool.true = Bool.true))
theorem rrange_o0 (n lo hi : Int) : obOf (rrange_e0 n lo hi) = rrange_r0 n lo hi := by kernel_rfl
theorem rrange_v0 (n lo hi : Int) : resOf (rrange_e0 n lo hi) = .int Go.IntKind.i64 (3 : Int) := by kernel_rfl
theorem rrange_c0 (n lo hi : Int) : cleanOf Tryz.prog.globals.size (rrange_e0 n lo hi) = true := by kernel_rfl
theorem rrange_q0 (n lo hi : Int) : rrange_e0 n lo hi = evFS Tryz.prog x_rrange 1000 15 #[.int .i64 n, .int .i64 lo, .int .i64 hi] (noTabs 6) ⟨[0, 0, 0, 1, 1], True⟩ := by
  delta rrange_e0
  exact Eq.refl _
theorem rrange_p0 (n lo hi : Int) (h : rrange_r0 n lo hi) (w : World) : Calls Tryz.prog 15 #[.int .i64 n, .int .i64 lo, .int .i64 hi] w fun en w' => en = .returned (.int Go.IntKind.i64 (3 : Int)) ∧ Below w.heap.size w w' := by
  have hv := rrange_v0 n lo hi
  have hc := rrange_c0 n lo hi
  have he := rrange_q0 n lo hi
  have ho := rrange_o0 n lo hi
  generalize rrange_e0 n lo hi = r at *
  exact calls_way he gfol rrange_X hv rfl (rrange_args n lo hi) hc ho h (bl w)
def rrange_r1 (n lo hi : Int) : Prop := (((((True ∧ ((decide (n < lo)) = Bool.false)) ∧ ((decide (n < lo)) = Bool.false)) ∧ ((decide (n < lo)) = Bool.false)) ∧ ((decide (n < lo)) = Bool.false)) ∧ ((decide (n > hi)) = Bool.true))
theorem rrange_o1 (n lo hi : Int) : obOf (rrange_e1 n lo hi) = rrange_r1 n lo hi := by kernel_rfl
theorem rrange_v1 (n lo hi : Int) : resOf (rrange_e1 n lo hi) = .int Go.IntKind.i64 (3 : Int) := by kernel_rfl
theorem rrange_c1 (n lo hi : Int) : cleanOf Tryz.prog.globals.size (rrange_e1 n lo hi) = true := by kernel_rfl
theorem rrange_q1 (n lo hi : Int) : rrange_e1 n lo hi = evFS Tryz.prog x_rrange 1000 15 #[.int .i64 n, .int .i64 lo, .int .i64 hi] (noTabs 6) ⟨[1, 1, 1, 0, 1], True⟩ := by
  delta rrange_e1
  exact Eq.refl _
theorem rrange_p1 (n lo hi : Int) (h : rrange_r1 n lo hi) (w : World) : Calls Tryz.prog 15 #[.int .i64 n, .int .i64 lo, .int .i64 hi] w fun en w' => en = .returned (.int Go.IntKind.i64 (3 : Int)) ∧ Below w.heap.size w w' := by
  have hv := rrange_v1 n lo hi
  have hc := rrange_c1 n lo hi
  have he := rrange_q1 n lo hi
  have ho := rrange_o1 n lo hi
  generalize rrange_e1 n lo hi = r at *
  exact calls_way he gfol rrange_X hv rfl (rrange_args n lo hi) hc ho h (bl w)
def rrange_r2 (n lo hi : Int) : Prop := (((((True ∧ ((decide (n < lo)) = Bool.false)) ∧ ((decide (n < lo)) = Bool.false)) ∧ ((decide (n < lo)) = Bool.false)) ∧ ((decide (n < lo)) = Bool.false)) ∧ ((decide (n > hi)) = Bool.false))
theorem rrange_o2 (n lo hi : Int) : obOf (rrange_e2 n lo hi) = rrange_r2 n lo hi := by kernel_rfl
theorem rrange_v2 (n lo hi : Int) : resOf (rrange_e2 n lo hi) = .int Go.IntKind.i64 (0 : Int) := by kernel_rfl
theorem rrange_c2 (n lo hi : Int) : cleanOf Tryz.prog.globals.size (rrange_e2 n lo hi) = true := by kernel_rfl
theorem rrange_q2 (n lo hi : Int) : rrange_e2 n lo hi = evFS Tryz.prog x_rrange 1000 15 #[.int .i64 n, .int .i64 lo, .int .i64 hi] (noTabs 6) ⟨[1, 1, 1, 0, 0], True⟩ := by
  delta rrange_e2
  exact Eq.refl _
theorem rrange_p2 (n lo hi : Int) (h : rrange_r2 n lo hi) (w : World) : Calls Tryz.prog 15 #[.int .i64 n, .int .i64 lo, .int .i64 hi] w fun en w' => en = .returned (.int Go.IntKind.i64 (0 : Int)) ∧ Below w.heap.size w w' := by
  have hv := rrange_v2 n lo hi
  have hc := rrange_c2 n lo hi
  have he := rrange_q2 n lo hi
  have ho := rrange_o2 n lo hi
  generalize rrange_e2 n lo hi = r at *
  exact calls_way he gfol rrange_X hv rfl (rrange_args n lo hi) hc ho h (bl w)
theorem rrange_any (n lo hi : Int) (hpre : True) (w : World) : Calls Tryz.prog 15 #[.int .i64 n, .int .i64 lo, .int .i64 hi] w fun en w' => en = .returned (.int .i64 (Pl.cr n lo hi)) ∧ Below w.heap.size w w' := by
  rcases Bool.eq_false_or_eq_true (decide (n < lo)) with h0 | h0
  ·
    have h1 : (Bool.true = Bool.true) := by
      first | rfl | trivial | decide | assumption | ((try simp only [bne_iff_ne, ne_eq, decide_eq_true_eq, decide_eq_false_iff_not, Bool.not_eq_true', Bool.not_eq_false', beq_iff_eq, beq_eq_false_iff_ne, bne_eq_false_iff_eq, Bool.and_eq_true, Bool.not_eq_true, Bool.not_eq_false, Pl.cr, parts_eq, w20, w16, wT, w20', w16', wT', Pl.lim, Pl.inB, first_two, two, oneB, Bg] at *); first | omega | grind)
    have hp := rrange_p0 n lo hi ⟨⟨⟨⟨⟨trivial, h0⟩, h0⟩, h0⟩, h0⟩, h1⟩ w
    have hv : (.int Go.IntKind.i64 (3 : Int) : Value) = .int .i64 (Pl.cr n lo hi) := by
      clear hp
      first | rfl | ((try simp only [bne_iff_ne, ne_eq, decide_eq_true_eq, decide_eq_false_iff_not, Bool.not_eq_true', Bool.not_eq_false', beq_iff_eq, beq_eq_false_iff_ne, bne_eq_false_iff_eq, Bool.and_eq_true, Bool.not_eq_true, Bool.not_eq_false, Pl.cr, parts_eq, w20, w16, wT, w20', w16', wT', Pl.lim, Pl.inB, first_two, two, oneB, Bg] at *); grind)
    exact hv ▸ hp
  ·
    rcases Bool.eq_false_or_eq_true (decide (n > hi)) with h2 | h2
    ·
      have hp := rrange_p1 n lo hi ⟨⟨⟨⟨⟨trivial, h0⟩, h0⟩, h0⟩, h0⟩, h2⟩ w
      have hv : (.int Go.IntKind.i64 (3 : Int) : Value) = .int .i64 (Pl.cr n lo hi) := by
        clear hp
        first | rfl | ((try simp only [bne_iff_ne, ne_eq, decide_eq_true_eq, decide_eq_false_iff_not, Bool.not_eq_true', Bool.not_eq_false', beq_iff_eq, beq_eq_false_iff_ne, bne_eq_false_iff_eq, Bool.and_eq_true, Bool.not_eq_true, Bool.not_eq_false, Pl.cr, parts_eq, w20, w16, wT, w20', w16', wT', Pl.lim, Pl.inB, first_two, two, oneB, Bg] at *); grind)
      exact hv ▸ hp
    ·
      have hp := rrange_p2 n lo hi ⟨⟨⟨⟨⟨trivial, h0⟩, h0⟩, h0⟩, h0⟩, h2⟩ w
      have hv : (.int Go.IntKind.i64 (0 : Int) : Value) = .int .i64 (Pl.cr n lo hi) := by
        clear hp
        first | rfl | ((try simp only [bne_iff_ne, ne_eq, decide_eq_true_eq, decide_eq_false_iff_not, Bool.not_eq_true', Bool.not_eq_false', beq_iff_eq, beq_eq_false_iff_ne, bne_eq_false_iff_eq, Bool.and_eq_true, Bool.not_eq_true, Bool.not_eq_false, Pl.cr, parts_eq, w20, w16, wT, w20', w16', wT', Pl.lim, Pl.inB, first_two, two, oneB, Bg] at *); grind)
      exact hv ▸ hp
theorem k_rrange : ConOk Tryz.prog c_rrange := fun ns hl => by
  have hl0 : ns.length = 3 := hl
  clear hl
  obtain ⟨n, ns0, rfl, hl1⟩ := len_cons hl0
  obtain ⟨lo, ns1, rfl, hl2⟩ := len_cons hl1
  obtain ⟨hi, ns2, rfl, hl3⟩ := len_cons hl2
  obtain rfl := len_nil hl3
  exact ⟨rfl, fun h w => rrange_any n lo hi h w⟩
end Go.Proofs.YtledgemlflbfdaaGreatDoor
end
section
set_option linter.all false
set_option maxRecDepth 1000000
set_option maxHeartbeats 2000000
open Go.RowKit
namespace Go.Proofs.YtledgemlflbfdaaGreatDoor
open Mini

theorem rcheckEisen_X : FOkS Tryz.prog x_rcheckEisen := kAll_ok _ ⟨k_rrange, trivial⟩
theorem rcheckEisen_args (a b : Int) : (#[.agg #[.int .i64 a, .int .i64 b]] : Array Value).toList.all (ground 8) = true := by kernel_rfl
def rcheckEisen_r0 (a b : Int) : Prop := (((((((((True ∧ True) ∧ True) ∧ ((decide ((0 : Int) < ((((2 : Nat) : Nat)) : Int))) = Bool.true)) ∧ ((0 : Int) = (Int.ofNat (0 : Nat)))) ∧ (((Go.Proofs.YtledgemlflbfdaaGreatDoor.Pl.cr a (Go.IntKind.wrap Go.IntKind.i64 ((0 : Int) - (1048576 : Int))) (1048576 : Int)) != (0 : Int)) = Bool.false)) ∧ ((decide ((Go.IntKind.wrap Go.IntKind.i64 ((0 : Int) + (1 : Int))) < ((((2 : Nat) : Nat)) : Int))) = Bool.true)) ∧ ((Go.IntKind.wrap Go.IntKind.i64 ((0 : Int) + (1 : Int))) = (Int.ofNat (1 : Nat)))) ∧ (((Go.Proofs.YtledgemlflbfdaaGreatDoor.Pl.cr b (Go.IntKind.wrap Go.IntKind.i64 ((0 : Int) - (1048576 : Int))) (1048576 : Int)) != (0 : Int)) = Bool.false)) ∧ ((decide ((Go.IntKind.wrap Go.IntKind.i64 ((Go.IntKind.wrap Go.IntKind.i64 ((0 : Int) + (1 : Int))) + (1 : Int))) < ((((2 : Nat) : Nat)) : Int))) = Bool.false))
theorem rcheckEisen_o0 (a b : Int) : obOf (rcheckEisen_e0 a b) = rcheckEisen_r0 a b := by kernel_rfl
theorem rcheckEisen_v0 (a b : Int) : resOf (rcheckEisen_e0 a b) = .int Go.IntKind.i64 (0 : Int) := by kernel_rfl
theorem rcheckEisen_c0 (a b : Int) : cleanOf Tryz.prog.globals.size (rcheckEisen_e0 a b) = true := by kernel_rfl
theorem rcheckEisen_q0 (a b : Int) : rcheckEisen_e0 a b = evFS Tryz.prog x_rcheckEisen 1000 13 #[.agg #[.int .i64 a, .int .i64 b]] (noTabs 6) ⟨[1, 0, 0, 1, 1, 0, 0], True⟩ := by
  delta rcheckEisen_e0
  exact Eq.refl _
theorem rcheckEisen_p0 (a b : Int) (h : rcheckEisen_r0 a b) (w : World) : Calls Tryz.prog 13 #[.agg #[.int .i64 a, .int .i64 b]] w fun en w' => en = .returned (.int Go.IntKind.i64 (0 : Int)) ∧ Below w.heap.size w w' := by
  have hv := rcheckEisen_v0 a b
  have hc := rcheckEisen_c0 a b
  have he := rcheckEisen_q0 a b
  have ho := rcheckEisen_o0 a b
  generalize rcheckEisen_e0 a b = r at *
  exact calls_way he gfol rcheckEisen_X hv rfl (rcheckEisen_args a b) hc ho h (bl w)
def rcheckEisen_r1 (a b : Int) : Prop := (((((((((True ∧ True) ∧ True) ∧ ((decide ((0 : Int) < ((((2 : Nat) : Nat)) : Int))) = Bool.true)) ∧ ((0 : Int) = (Int.ofNat (0 : Nat)))) ∧ (((Go.Proofs.YtledgemlflbfdaaGreatDoor.Pl.cr a (Go.IntKind.wrap Go.IntKind.i64 ((0 : Int) - (1048576 : Int))) (1048576 : Int)) != (0 : Int)) = Bool.false)) ∧ ((decide ((Go.IntKind.wrap Go.IntKind.i64 ((0 : Int) + (1 : Int))) < ((((2 : Nat) : Nat)) : Int))) = Bool.true)) ∧ ((Go.IntKind.wrap Go.IntKind.i64 ((0 : Int) + (1 : Int))) = (Int.ofNat (1 : Nat)))) ∧ (((Go.Proofs.YtledgemlflbfdaaGreatDoor.Pl.cr b (Go.IntKind.wrap Go.IntKind.i64 ((0 : Int) - (1048576 : Int))) (1048576 : Int)) != (0 : Int)) = Bool.true)) ∧ ((Go.IntKind.wrap Go.IntKind.i64 ((0 : Int) + (1 : Int))) = (Int.ofNat (1 : Nat))))
theorem rcheckEisen_o1 (a b : Int) : obOf (rcheckEisen_e1 a b) = rcheckEisen_r1 a b := by kernel_rfl
theorem rcheckEisen_v1 (a b : Int) : resOf (rcheckEisen_e1 a b) = .int Go.IntKind.i64 (Go.Proofs.YtledgemlflbfdaaGreatDoor.Pl.cr b (Go.IntKind.wrap Go.IntKind.i64 ((0 : Int) - (1048576 : Int))) (1048576 : Int)) := by kernel_rfl
theorem rcheckEisen_c1 (a b : Int) : cleanOf Tryz.prog.globals.size (rcheckEisen_e1 a b) = true := by kernel_rfl
theorem rcheckEisen_q1 (a b : Int) : rcheckEisen_e1 a b = evFS Tryz.prog x_rcheckEisen 1000 13 #[.agg #[.int .i64 a, .int .i64 b]] (noTabs 6) ⟨[1, 0, 0, 1, 1, 1, 1], True⟩ := by
  delta rcheckEisen_e1
  exact Eq.refl _
theorem rcheckEisen_p1 (a b : Int) (h : rcheckEisen_r1 a b) (w : World) : Calls Tryz.prog 13 #[.agg #[.int .i64 a, .int .i64 b]] w fun en w' => en = .returned (.int Go.IntKind.i64 (Go.Proofs.YtledgemlflbfdaaGreatDoor.Pl.cr b (Go.IntKind.wrap Go.IntKind.i64 ((0 : Int) - (1048576 : Int))) (1048576 : Int))) ∧ Below w.heap.size w w' := by
  have hv := rcheckEisen_v1 a b
  have hc := rcheckEisen_c1 a b
  have he := rcheckEisen_q1 a b
  have ho := rcheckEisen_o1 a b
  generalize rcheckEisen_e1 a b = r at *
  exact calls_way he gfol rcheckEisen_X hv rfl (rcheckEisen_args a b) hc ho h (bl w)
def rcheckEisen_r2 (a b : Int) : Prop := ((((((True ∧ True) ∧ True) ∧ ((decide ((0 : Int) < ((((2 : Nat) : Nat)) : Int))) = Bool.true)) ∧ ((0 : Int) = (Int.ofNat (0 : Nat)))) ∧ (((Go.Proofs.YtledgemlflbfdaaGreatDoor.Pl.cr a (Go.IntKind.wrap Go.IntKind.i64 ((0 : Int) - (1048576 : Int))) (1048576 : Int)) != (0 : Int)) = Bool.true)) ∧ ((0 : Int) = (Int.ofNat (0 : Nat))))
theorem rcheckEisen_o2 (a b : Int) : obOf (rcheckEisen_e2 a b) = rcheckEisen_r2 a b := by kernel_rfl
theorem rcheckEisen_v2 (a b : Int) : resOf (rcheckEisen_e2 a b) = .int Go.IntKind.i64 (Go.Proofs.YtledgemlflbfdaaGreatDoor.Pl.cr a (Go.IntKind.wrap Go.IntKind.i64 ((0 : Int) - (1048576 : Int))) (1048576 : Int)) := by kernel_rfl
theorem rcheckEisen_c2 (a b : Int) : cleanOf Tryz.prog.globals.size (rcheckEisen_e2 a b) = true := by kernel_rfl
theorem rcheckEisen_q2 (a b : Int) : rcheckEisen_e2 a b = evFS Tryz.prog x_rcheckEisen 1000 13 #[.agg #[.int .i64 a, .int .i64 b]] (noTabs 6) ⟨[1, 0, 1, 0], True⟩ := by
  delta rcheckEisen_e2
  exact Eq.refl _
theorem rcheckEisen_p2 (a b : Int) (h : rcheckEisen_r2 a b) (w : World) : Calls Tryz.prog 13 #[.agg #[.int .i64 a, .int .i64 b]] w fun en w' => en = .returned (.int Go.IntKind.i64 (Go.Proofs.YtledgemlflbfdaaGreatDoor.Pl.cr a (Go.IntKind.wrap Go.IntKind.i64 ((0 : Int) - (1048576 : Int))) (1048576 : Int))) ∧ Below w.heap.size w w' := by
  have hv := rcheckEisen_v2 a b
  have hc := rcheckEisen_c2 a b
  have he := rcheckEisen_q2 a b
  have ho := rcheckEisen_o2 a b
  generalize rcheckEisen_e2 a b = r at *
  exact calls_way he gfol rcheckEisen_X hv rfl (rcheckEisen_args a b) hc ho h (bl w)
theorem rcheckEisen_any (a b : Int) (hpre : True) (w : World) : Calls Tryz.prog 13 #[.agg #[.int .i64 a, .int .i64 b]] w fun en w' => en = .returned (.int .i64 (Pl.parts a b 1048576)) ∧ Below w.heap.size w w' := by
  have h0 : True := by
    first | rfl | trivial | decide | assumption | ((try simp only [bne_iff_ne, ne_eq, decide_eq_true_eq, decide_eq_false_iff_not, Bool.not_eq_true', Bool.not_eq_false', beq_iff_eq, beq_eq_false_iff_ne, bne_eq_false_iff_eq, Bool.and_eq_true, Bool.not_eq_true, Bool.not_eq_false, Pl.cr, parts_eq, w20, w16, wT, w20', w16', wT', Pl.lim, Pl.inB, first_two, two, oneB, Bg] at *); first | omega | grind)
  have h1 : ((decide ((0 : Int) < ((((2 : Nat) : Nat)) : Int))) = Bool.true) := by
    first | rfl | trivial | decide | assumption | ((try simp only [bne_iff_ne, ne_eq, decide_eq_true_eq, decide_eq_false_iff_not, Bool.not_eq_true', Bool.not_eq_false', beq_iff_eq, beq_eq_false_iff_ne, bne_eq_false_iff_eq, Bool.and_eq_true, Bool.not_eq_true, Bool.not_eq_false, Pl.cr, parts_eq, w20, w16, wT, w20', w16', wT', Pl.lim, Pl.inB, first_two, two, oneB, Bg] at *); first | omega | grind)
  have h2 : ((0 : Int) = (Int.ofNat (0 : Nat))) := by
    first | rfl | trivial | decide | assumption | ((try simp only [bne_iff_ne, ne_eq, decide_eq_true_eq, decide_eq_false_iff_not, Bool.not_eq_true', Bool.not_eq_false', beq_iff_eq, beq_eq_false_iff_ne, bne_eq_false_iff_eq, Bool.and_eq_true, Bool.not_eq_true, Bool.not_eq_false, Pl.cr, parts_eq, w20, w16, wT, w20', w16', wT', Pl.lim, Pl.inB, first_two, two, oneB, Bg] at *); first | omega | grind)
  rcases Bool.eq_false_or_eq_true ((Go.Proofs.YtledgemlflbfdaaGreatDoor.Pl.cr a (Go.IntKind.wrap Go.IntKind.i64 ((0 : Int) - (1048576 : Int))) (1048576 : Int)) != (0 : Int)) with h3 | h3
  ·
    have hp := rcheckEisen_p2 a b ⟨⟨⟨⟨⟨⟨trivial, h0⟩, h0⟩, h1⟩, h2⟩, h3⟩, h2⟩ w
    have hv : (.int Go.IntKind.i64 (Go.Proofs.YtledgemlflbfdaaGreatDoor.Pl.cr a (Go.IntKind.wrap Go.IntKind.i64 ((0 : Int) - (1048576 : Int))) (1048576 : Int)) : Value) = .int .i64 (Pl.parts a b 1048576) := by
      clear hp
      first | rfl | ((try simp only [bne_iff_ne, ne_eq, decide_eq_true_eq, decide_eq_false_iff_not, Bool.not_eq_true', Bool.not_eq_false', beq_iff_eq, beq_eq_false_iff_ne, bne_eq_false_iff_eq, Bool.and_eq_true, Bool.not_eq_true, Bool.not_eq_false, Pl.cr, parts_eq, w20, w16, wT, w20', w16', wT', Pl.lim, Pl.inB, first_two, two, oneB, Bg] at *); grind)
    exact hv ▸ hp
  ·
    have h4 : ((decide ((Go.IntKind.wrap Go.IntKind.i64 ((0 : Int) + (1 : Int))) < ((((2 : Nat) : Nat)) : Int))) = Bool.true) := by
      first | rfl | trivial | decide | assumption | ((try simp only [bne_iff_ne, ne_eq, decide_eq_true_eq, decide_eq_false_iff_not, Bool.not_eq_true', Bool.not_eq_false', beq_iff_eq, beq_eq_false_iff_ne, bne_eq_false_iff_eq, Bool.and_eq_true, Bool.not_eq_true, Bool.not_eq_false, Pl.cr, parts_eq, w20, w16, wT, w20', w16', wT', Pl.lim, Pl.inB, first_two, two, oneB, Bg] at *); first | omega | grind)
    have h5 : ((Go.IntKind.wrap Go.IntKind.i64 ((0 : Int) + (1 : Int))) = (Int.ofNat (1 : Nat))) := by
      first | rfl | trivial | decide | assumption | ((try simp only [bne_iff_ne, ne_eq, decide_eq_true_eq, decide_eq_false_iff_not, Bool.not_eq_true', Bool.not_eq_false', beq_iff_eq, beq_eq_false_iff_ne, bne_eq_false_iff_eq, Bool.and_eq_true, Bool.not_eq_true, Bool.not_eq_false, Pl.cr, parts_eq, w20, w16, wT, w20', w16', wT', Pl.lim, Pl.inB, first_two, two, oneB, Bg] at *); first | omega | grind)
    rcases Bool.eq_false_or_eq_true ((Go.Proofs.YtledgemlflbfdaaGreatDoor.Pl.cr b (Go.IntKind.wrap Go.IntKind.i64 ((0 : Int) - (1048576 : Int))) (1048576 : Int)) != (0 : Int)) with h6 | h6
    ·
      have hp := rcheckEisen_p1 a b ⟨⟨⟨⟨⟨⟨⟨⟨⟨trivial, h0⟩, h0⟩, h1⟩, h2⟩, h3⟩, h4⟩, h5⟩, h6⟩, h5⟩ w
      have hv : (.int Go.IntKind.i64 (Go.Proofs.YtledgemlflbfdaaGreatDoor.Pl.cr b (Go.IntKind.wrap Go.IntKind.i64 ((0 : Int) - (1048576 : Int))) (1048576 : Int)) : Value) = .int .i64 (Pl.parts a b 1048576) := by
        clear hp
        first | rfl | ((try simp only [bne_iff_ne, ne_eq, decide_eq_true_eq, decide_eq_false_iff_not, Bool.not_eq_true', Bool.not_eq_false', beq_iff_eq, beq_eq_false_iff_ne, bne_eq_false_iff_eq, Bool.and_eq_true, Bool.not_eq_true, Bool.not_eq_false, Pl.cr, parts_eq, w20, w16, wT, w20', w16', wT', Pl.lim, Pl.inB, first_two, two, oneB, Bg] at *); grind)
      exact hv ▸ hp
    ·
      have h7 : ((decide ((Go.IntKind.wrap Go.IntKind.i64 ((Go.IntKind.wrap Go.IntKind.i64 ((0 : Int) + (1 : Int))) + (1 : Int))) < ((((2 : Nat) : Nat)) : Int))) = Bool.false) := by
        first | rfl | trivial | decide | assumption | ((try simp only [bne_iff_ne, ne_eq, decide_eq_true_eq, decide_eq_false_iff_not, Bool.not_eq_true', Bool.not_eq_false', beq_iff_eq, beq_eq_false_iff_ne, bne_eq_false_iff_eq, Bool.and_eq_true, Bool.not_eq_true, Bool.not_eq_false, Pl.cr, parts_eq, w20, w16, wT, w20', w16', wT', Pl.lim, Pl.inB, first_two, two, oneB, Bg] at *); first | omega | grind)
      have hp := rcheckEisen_p0 a b ⟨⟨⟨⟨⟨⟨⟨⟨⟨trivial, h0⟩, h0⟩, h1⟩, h2⟩, h3⟩, h4⟩, h5⟩, h6⟩, h7⟩ w
      have hv : (.int Go.IntKind.i64 (0 : Int) : Value) = .int .i64 (Pl.parts a b 1048576) := by
        clear hp
        first | rfl | ((try simp only [bne_iff_ne, ne_eq, decide_eq_true_eq, decide_eq_false_iff_not, Bool.not_eq_true', Bool.not_eq_false', beq_iff_eq, beq_eq_false_iff_ne, bne_eq_false_iff_eq, Bool.and_eq_true, Bool.not_eq_true, Bool.not_eq_false, Pl.cr, parts_eq, w20, w16, wT, w20', w16', wT', Pl.lim, Pl.inB, first_two, two, oneB, Bg] at *); grind)
      exact hv ▸ hp
theorem k_rcheckEisen : ConOk Tryz.prog c_rcheckEisen := fun ns hl => by
  have hl0 : ns.length = 2 := hl
  clear hl
  obtain ⟨a, ns0, rfl, hl1⟩ := len_cons hl0
  obtain ⟨b, ns1, rfl, hl2⟩ := len_cons hl1
  obtain rfl := len_nil hl2
  exact ⟨rfl, fun h w => rcheckEisen_any a b h w⟩
end Go.Proofs.YtledgemlflbfdaaGreatDoor
end
section
set_option linter.all false
set_option maxRecDepth 1000000
set_option maxHeartbeats 2000000
open Go.RowKit
namespace Go.Proofs.YtledgemlflbfdaaGreatDoor
open Mini

theorem fits_X : FOkS Tryz.prog x_fits := kAll_ok _ ⟨k_rcheckEisen, trivial⟩
theorem fits_args (a b : Int) : (#[.agg #[.int .i64 a, .int .i64 b]] : Array Value).toList.all (ground 8) = true := by kernel_rfl
def fits_r0 (a b : Int) : Prop := ((True ∧ True) ∧ (((Go.Proofs.YtledgemlflbfdaaGreatDoor.Pl.parts a b (1048576 : Int)) != (0 : Int)) = Bool.false))
theorem fits_o0 (a b : Int) : obOf (fits_e0 a b) = fits_r0 a b := by kernel_rfl
theorem fits_v0 (a b : Int) : resOf (fits_e0 a b) = .tuple #[.agg #[.int Go.IntKind.i64 a, .int Go.IntKind.i64 b], .int Go.IntKind.i64 (0 : Int)] := by kernel_rfl
theorem fits_c0 (a b : Int) : cleanOf Tryz.prog.globals.size (fits_e0 a b) = true := by kernel_rfl
theorem fits_q0 (a b : Int) : fits_e0 a b = evFS Tryz.prog x_fits 1000 16 #[.agg #[.int .i64 a, .int .i64 b]] (noTabs 6) ⟨[0], True⟩ := by
  delta fits_e0
  exact Eq.refl _
theorem fits_p0 (a b : Int) (h : fits_r0 a b) (w : World) : Calls Tryz.prog 16 #[.agg #[.int .i64 a, .int .i64 b]] w fun en w' => en = .returned (.tuple #[.agg #[.int Go.IntKind.i64 a, .int Go.IntKind.i64 b], .int Go.IntKind.i64 (0 : Int)]) ∧ Below w.heap.size w w' := by
  have hv := fits_v0 a b
  have hc := fits_c0 a b
  have he := fits_q0 a b
  have ho := fits_o0 a b
  generalize fits_e0 a b = r at *
  exact calls_way he gfol fits_X hv rfl (fits_args a b) hc ho h (bl w)
def fits_r1 (a b : Int) : Prop := ((True ∧ True) ∧ (((Go.Proofs.YtledgemlflbfdaaGreatDoor.Pl.parts a b (1048576 : Int)) != (0 : Int)) = Bool.true))
theorem fits_o1 (a b : Int) : obOf (fits_e1 a b) = fits_r1 a b := by kernel_rfl
theorem fits_v1 (a b : Int) : resOf (fits_e1 a b) = .tuple #[.agg #[.int Go.IntKind.i64 (0 : Int), .int Go.IntKind.i64 (0 : Int)], .int Go.IntKind.i64 (4 : Int)] := by kernel_rfl
theorem fits_c1 (a b : Int) : cleanOf Tryz.prog.globals.size (fits_e1 a b) = true := by kernel_rfl
theorem fits_q1 (a b : Int) : fits_e1 a b = evFS Tryz.prog x_fits 1000 16 #[.agg #[.int .i64 a, .int .i64 b]] (noTabs 6) ⟨[1], True⟩ := by
  delta fits_e1
  exact Eq.refl _
theorem fits_p1 (a b : Int) (h : fits_r1 a b) (w : World) : Calls Tryz.prog 16 #[.agg #[.int .i64 a, .int .i64 b]] w fun en w' => en = .returned (.tuple #[.agg #[.int Go.IntKind.i64 (0 : Int), .int Go.IntKind.i64 (0 : Int)], .int Go.IntKind.i64 (4 : Int)]) ∧ Below w.heap.size w w' := by
  have hv := fits_v1 a b
  have hc := fits_c1 a b
  have he := fits_q1 a b
  have ho := fits_o1 a b
  generalize fits_e1 a b = r at *
  exact calls_way he gfol fits_X hv rfl (fits_args a b) hc ho h (bl w)
theorem fits_any (a b : Int) (hpre : True) (w : World) : Calls Tryz.prog 16 #[.agg #[.int .i64 a, .int .i64 b]] w fun en w' => en = .returned (.tuple #[.agg #[.int .i64 (Pl.lim (a, b)).1.1, .int .i64 (Pl.lim (a, b)).1.2], .int .i64 (Pl.lim (a, b)).2]) ∧ Below w.heap.size w w' := by
  have h0 : True := by
    first | rfl | trivial | decide | assumption | ((try simp only [bne_iff_ne, ne_eq, decide_eq_true_eq, decide_eq_false_iff_not, Bool.not_eq_true', Bool.not_eq_false', beq_iff_eq, beq_eq_false_iff_ne, bne_eq_false_iff_eq, Bool.and_eq_true, Bool.not_eq_true, Bool.not_eq_false, Pl.cr, parts_eq, w20, w16, wT, w20', w16', wT', Pl.lim, Pl.inB, first_two, two, oneB, Bg] at *); first | omega | grind)
  rcases Bool.eq_false_or_eq_true ((Go.Proofs.YtledgemlflbfdaaGreatDoor.Pl.parts a b (1048576 : Int)) != (0 : Int)) with h1 | h1
  ·
    have hp := fits_p1 a b ⟨⟨trivial, h0⟩, h1⟩ w
    have hv : (.tuple #[.agg #[.int Go.IntKind.i64 (0 : Int), .int Go.IntKind.i64 (0 : Int)], .int Go.IntKind.i64 (4 : Int)] : Value) = .tuple #[.agg #[.int .i64 (Pl.lim (a, b)).1.1, .int .i64 (Pl.lim (a, b)).1.2], .int .i64 (Pl.lim (a, b)).2] := by
      clear hp
      first | rfl | ((try simp only [bne_iff_ne, ne_eq, decide_eq_true_eq, decide_eq_false_iff_not, Bool.not_eq_true', Bool.not_eq_false', beq_iff_eq, beq_eq_false_iff_ne, bne_eq_false_iff_eq, Bool.and_eq_true, Bool.not_eq_true, Bool.not_eq_false, Pl.cr, parts_eq, w20, w16, wT, w20', w16', wT', Pl.lim, Pl.inB, first_two, two, oneB, Bg] at *); grind)
    exact hv ▸ hp
  ·
    have hp := fits_p0 a b ⟨⟨trivial, h0⟩, h1⟩ w
    have hv : (.tuple #[.agg #[.int Go.IntKind.i64 a, .int Go.IntKind.i64 b], .int Go.IntKind.i64 (0 : Int)] : Value) = .tuple #[.agg #[.int .i64 (Pl.lim (a, b)).1.1, .int .i64 (Pl.lim (a, b)).1.2], .int .i64 (Pl.lim (a, b)).2] := by
      clear hp
      first | rfl | ((try simp only [bne_iff_ne, ne_eq, decide_eq_true_eq, decide_eq_false_iff_not, Bool.not_eq_true', Bool.not_eq_false', beq_iff_eq, beq_eq_false_iff_ne, bne_eq_false_iff_eq, Bool.and_eq_true, Bool.not_eq_true, Bool.not_eq_false, Pl.cr, parts_eq, w20, w16, wT, w20', w16', wT', Pl.lim, Pl.inB, first_two, two, oneB, Bg] at *); grind)
    exact hv ▸ hp
theorem k_fits : ConOk Tryz.prog c_fits := fun ns hl => by
  have hl0 : ns.length = 2 := hl
  clear hl
  obtain ⟨a, ns0, rfl, hl1⟩ := len_cons hl0
  obtain ⟨b, ns1, rfl, hl2⟩ := len_cons hl1
  obtain rfl := len_nil hl2
  exact ⟨rfl, fun h w => fits_any a b h w⟩
end Go.Proofs.YtledgemlflbfdaaGreatDoor
end
section
set_option linter.all false
set_option maxRecDepth 1000000
set_option maxHeartbeats 2000000
open Go.RowKit
namespace Go.Proofs.YtledgemlflbfdaaGreatDoor
open Mini

theorem rsum_X : FOkS Tryz.prog x_rsum := noXS_ok
theorem rsum_args (a b c d : Int) : (#[.agg #[.int .i64 a, .int .i64 b], .agg #[.int .i64 c, .int .i64 d]] : Array Value).toList.all (ground 8) = true := by kernel_rfl
def rsum_r0 (a b c d : Int) : Prop := True
theorem rsum_o0 (a b c d : Int) : obOf (rsum_e0 a b c d) = rsum_r0 a b c d := by kernel_rfl
theorem rsum_v0 (a b c d : Int) : resOf (rsum_e0 a b c d) = .agg #[.int Go.IntKind.i64 (Go.IntKind.wrap Go.IntKind.i64 (a + c)), .int Go.IntKind.i64 (Go.IntKind.wrap Go.IntKind.i64 (b + d))] := by kernel_rfl
theorem rsum_c0 (a b c d : Int) : cleanOf Tryz.prog.globals.size (rsum_e0 a b c d) = true := by kernel_rfl
theorem rsum_q0 (a b c d : Int) : rsum_e0 a b c d = evFS Tryz.prog x_rsum 1000 17 #[.agg #[.int .i64 a, .int .i64 b], .agg #[.int .i64 c, .int .i64 d]] (noTabs 6) ⟨[], True⟩ := by
  delta rsum_e0
  exact Eq.refl _
theorem rsum_p0 (a b c d : Int) (h : rsum_r0 a b c d) (w : World) : Calls Tryz.prog 17 #[.agg #[.int .i64 a, .int .i64 b], .agg #[.int .i64 c, .int .i64 d]] w fun en w' => en = .returned (.agg #[.int Go.IntKind.i64 (Go.IntKind.wrap Go.IntKind.i64 (a + c)), .int Go.IntKind.i64 (Go.IntKind.wrap Go.IntKind.i64 (b + d))]) ∧ Below w.heap.size w w' := by
  have hv := rsum_v0 a b c d
  have hc := rsum_c0 a b c d
  have he := rsum_q0 a b c d
  have ho := rsum_o0 a b c d
  generalize rsum_e0 a b c d = r at *
  exact calls_way he gfol rsum_X hv rfl (rsum_args a b c d) hc ho h (bl w)
theorem rsum_any (a b c d : Int) (hpre : Bg 1099511627776 a b ∧ Bg 1099511627776 c d) (w : World) : Calls Tryz.prog 17 #[.agg #[.int .i64 a, .int .i64 b], .agg #[.int .i64 c, .int .i64 d]] w fun en w' => en = .returned (.agg #[.int .i64 (Pl.add (a, b) (c, d)).1, .int .i64 (Pl.add (a, b) (c, d)).2]) ∧ Below w.heap.size w w' := by
  have hp := rsum_p0 a b c d trivial w
  have hv : (.agg #[.int Go.IntKind.i64 (Go.IntKind.wrap Go.IntKind.i64 (a + c)), .int Go.IntKind.i64 (Go.IntKind.wrap Go.IntKind.i64 (b + d))] : Value) = .agg #[.int .i64 (Pl.add (a, b) (c, d)).1, .int .i64 (Pl.add (a, b) (c, d)).2] := by
    clear hp
    unfold Bg at hpre; (try simp (disch := omega) only [wi]); rfl
  exact hv ▸ hp
theorem k_rsum : ConOk Tryz.prog c_rsum := fun ns hl => by
  have hl0 : ns.length = 4 := hl
  clear hl
  obtain ⟨a, ns0, rfl, hl1⟩ := len_cons hl0
  obtain ⟨b, ns1, rfl, hl2⟩ := len_cons hl1
  obtain ⟨c, ns2, rfl, hl3⟩ := len_cons hl2
  obtain ⟨d, ns3, rfl, hl4⟩ := len_cons hl3
  obtain rfl := len_nil hl4
  exact ⟨rfl, fun h w => rsum_any a b c d h w⟩
end Go.Proofs.YtledgemlflbfdaaGreatDoor
end
section
set_option linter.all false
set_option maxRecDepth 1000000
set_option maxHeartbeats 2000000
open Go.RowKit
namespace Go.Proofs.YtledgemlflbfdaaGreatDoor
open Mini

theorem rprod_X : FOkS Tryz.prog x_rprod := noXS_ok
theorem rprod_args (a b c d : Int) : (#[.agg #[.int .i64 a, .int .i64 b], .agg #[.int .i64 c, .int .i64 d]] : Array Value).toList.all (ground 8) = true := by kernel_rfl
def rprod_r0 (a b c d : Int) : Prop := True
theorem rprod_o0 (a b c d : Int) : obOf (rprod_e0 a b c d) = rprod_r0 a b c d := by kernel_rfl
theorem rprod_v0 (a b c d : Int) : resOf (rprod_e0 a b c d) = .agg #[.int Go.IntKind.i64 (Go.IntKind.wrap Go.IntKind.i64 ((Go.IntKind.wrap Go.IntKind.i64 (a * c)) - (Go.IntKind.wrap Go.IntKind.i64 (b * d)))), .int Go.IntKind.i64 (Go.IntKind.wrap Go.IntKind.i64 ((Go.IntKind.wrap Go.IntKind.i64 ((Go.IntKind.wrap Go.IntKind.i64 (a * d)) + (Go.IntKind.wrap Go.IntKind.i64 (b * c)))) - (Go.IntKind.wrap Go.IntKind.i64 (b * d))))] := by kernel_rfl
theorem rprod_c0 (a b c d : Int) : cleanOf Tryz.prog.globals.size (rprod_e0 a b c d) = true := by kernel_rfl
theorem rprod_q0 (a b c d : Int) : rprod_e0 a b c d = evFS Tryz.prog x_rprod 1000 18 #[.agg #[.int .i64 a, .int .i64 b], .agg #[.int .i64 c, .int .i64 d]] (noTabs 6) ⟨[], True⟩ := by
  delta rprod_e0
  exact Eq.refl _
theorem rprod_p0 (a b c d : Int) (h : rprod_r0 a b c d) (w : World) : Calls Tryz.prog 18 #[.agg #[.int .i64 a, .int .i64 b], .agg #[.int .i64 c, .int .i64 d]] w fun en w' => en = .returned (.agg #[.int Go.IntKind.i64 (Go.IntKind.wrap Go.IntKind.i64 ((Go.IntKind.wrap Go.IntKind.i64 (a * c)) - (Go.IntKind.wrap Go.IntKind.i64 (b * d)))), .int Go.IntKind.i64 (Go.IntKind.wrap Go.IntKind.i64 ((Go.IntKind.wrap Go.IntKind.i64 ((Go.IntKind.wrap Go.IntKind.i64 (a * d)) + (Go.IntKind.wrap Go.IntKind.i64 (b * c)))) - (Go.IntKind.wrap Go.IntKind.i64 (b * d))))]) ∧ Below w.heap.size w w' := by
  have hv := rprod_v0 a b c d
  have hc := rprod_c0 a b c d
  have he := rprod_q0 a b c d
  have ho := rprod_o0 a b c d
  generalize rprod_e0 a b c d = r at *
  exact calls_way he gfol rprod_X hv rfl (rprod_args a b c d) hc ho h (bl w)
theorem rprod_any (a b c d : Int) (hpre : Bg 268435456 a b ∧ Bg 268435456 c d) (w : World) : Calls Tryz.prog 18 #[.agg #[.int .i64 a, .int .i64 b], .agg #[.int .i64 c, .int .i64 d]] w fun en w' => en = .returned (.agg #[.int .i64 (Pl.mul (a, b) (c, d)).1, .int .i64 (Pl.mul (a, b) (c, d)).2]) ∧ Below w.heap.size w w' := by
  obtain ⟨⟨p1, p2, p3, p4⟩, q1, q2, q3, q4⟩ := hpre
  have b1 := bd 268435456 268435456 a c (by omega) (by omega) ⟨p1, p2⟩ ⟨q1, q2⟩
  have b2 := bd 268435456 268435456 b d (by omega) (by omega) ⟨p3, p4⟩ ⟨q3, q4⟩
  have b3 := bd 268435456 268435456 a d (by omega) (by omega) ⟨p1, p2⟩ ⟨q3, q4⟩
  have b4 := bd 268435456 268435456 b c (by omega) (by omega) ⟨p3, p4⟩ ⟨q1, q2⟩
  have hp := rprod_p0 a b c d trivial w
  have hv : (.agg #[.int Go.IntKind.i64 (Go.IntKind.wrap Go.IntKind.i64 ((Go.IntKind.wrap Go.IntKind.i64 (a * c)) - (Go.IntKind.wrap Go.IntKind.i64 (b * d)))), .int Go.IntKind.i64 (Go.IntKind.wrap Go.IntKind.i64 ((Go.IntKind.wrap Go.IntKind.i64 ((Go.IntKind.wrap Go.IntKind.i64 (a * d)) + (Go.IntKind.wrap Go.IntKind.i64 (b * c)))) - (Go.IntKind.wrap Go.IntKind.i64 (b * d))))] : Value) = .agg #[.int .i64 (Pl.mul (a, b) (c, d)).1, .int .i64 (Pl.mul (a, b) (c, d)).2] := by
    clear hp
    (try simp (disch := omega) only [wi]); rfl
  exact hv ▸ hp
theorem k_rprod : ConOk Tryz.prog c_rprod := fun ns hl => by
  have hl0 : ns.length = 4 := hl
  clear hl
  obtain ⟨a, ns0, rfl, hl1⟩ := len_cons hl0
  obtain ⟨b, ns1, rfl, hl2⟩ := len_cons hl1
  obtain ⟨c, ns2, rfl, hl3⟩ := len_cons hl2
  obtain ⟨d, ns3, rfl, hl4⟩ := len_cons hl3
  obtain rfl := len_nil hl4
  exact ⟨rfl, fun h w => rprod_any a b c d h w⟩
end Go.Proofs.YtledgemlflbfdaaGreatDoor
end
