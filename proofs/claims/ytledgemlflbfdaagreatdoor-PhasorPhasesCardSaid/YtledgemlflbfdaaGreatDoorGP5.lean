/-
  The contract of bipole.bipoleref01.Real.
  The contract of bipole.bipoleref01.Power.
  The contract of bipole.bipoleref01.Bar.
  The contract of bipole.bipoleref01.Restored.
  The contract of bipole.bipoleref01.Balanced.
  The contract of bipole.bipoleref01.Components.
  The contract of bipole.bipoleref01.Add.
  The contract of bipole.bipoleref01.Mul.
  The contract of bipole.bipoleref01.CheckThree.
  The contract of bipole.bipoleref01.CheckEisen.
  The contract of bipole.bipoleref01.CheckPhases.
  The contract of bipole.bipoleref01.part.
-/
import Derived.Test.YtledgemlflbfdaaGreatDoorGP3
import Derived.Test.YtledgemlflbfdaaGreatDoorGP4
import Derived.Test.YtledgemlflbfdaaGreatDoorGP2
section
set_option linter.all false
set_option maxRecDepth 1000000
set_option maxHeartbeats 2000000
open Go.RowKit
namespace Go.Proofs.YtledgemlflbfdaaGreatDoor
open Mini

def rpart16_val (a b m : Int) : Value := .int .i64 (Pl.parts a b m)
theorem rpart16_X : FOkS Tryz.prog x_rpart16 := kAll_ok _ ⟨k_rrange, trivial⟩
theorem rpart16_args (a b m : Int) : (#[.agg #[.int .i64 a, .int .i64 b], .int .i64 m] : Array Value).toList.all (ground 8) = true := by kernel_rfl
theorem rpart16_g0 : True := by first | rfl | trivial | decide | omega
theorem rpart16_g1 : ((decide ((0 : Int) < ((2 : Nat) : Int))) = Bool.true) := by first | rfl | trivial | decide | omega
theorem rpart16_g2 : ((0 : Int) = (Int.ofNat 0)) := by first | rfl | trivial | decide | omega
def rpart16_c0 (a b m : Int) : Bool := ((Pl.cr a (IntKind.i64.wrap ((0 : Int) - m)) m) != (0 : Int))
theorem rpart16_g4 : ((decide ((IntKind.i64.wrap ((0 : Int) + (1 : Int))) < ((2 : Nat) : Int))) = Bool.true) := by first | rfl | trivial | decide | omega
theorem rpart16_g5 : ((IntKind.i64.wrap ((0 : Int) + (1 : Int))) = (Int.ofNat 1)) := by first | rfl | trivial | decide | omega
def rpart16_c1 (a b m : Int) : Bool := ((Pl.cr b (IntKind.i64.wrap ((0 : Int) - m)) m) != (0 : Int))
theorem rpart16_g7 : ((decide ((IntKind.i64.wrap ((IntKind.i64.wrap ((0 : Int) + (1 : Int))) + (1 : Int))) < ((2 : Nat) : Int))) = Bool.false) := by first | rfl | trivial | decide | omega
def rpart16_w0 (a b m : Int) : Value := .int .i64 (0 : Int)
def rpart16_r0 (a b m : Int) : Prop := (((((((((True ∧ (True)) ∧ (True)) ∧ (((decide ((0 : Int) < ((2 : Nat) : Int))) = Bool.true))) ∧ (((0 : Int) = (Int.ofNat 0)))) ∧ (rpart16_c0 a b m = false)) ∧ (((decide ((IntKind.i64.wrap ((0 : Int) + (1 : Int))) < ((2 : Nat) : Int))) = Bool.true))) ∧ (((IntKind.i64.wrap ((0 : Int) + (1 : Int))) = (Int.ofNat 1)))) ∧ (rpart16_c1 a b m = false)) ∧ (((decide ((IntKind.i64.wrap ((IntKind.i64.wrap ((0 : Int) + (1 : Int))) + (1 : Int))) < ((2 : Nat) : Int))) = Bool.false)))
theorem rpart16_o0 (a b m : Int) : obOf (rpart16_e0 a b m) = rpart16_r0 a b m := by kernel_rfl
theorem rpart16_v0 (a b m : Int) : resOf (rpart16_e0 a b m) = rpart16_w0 a b m := by kernel_rfl
theorem rpart16_k0 (a b m : Int) : cleanOf Tryz.prog.globals.size (rpart16_e0 a b m) = true := by kernel_rfl
theorem rpart16_q0 (a b m : Int) : rpart16_e0 a b m = evFS Tryz.prog x_rpart16 1000 54 #[.agg #[.int .i64 a, .int .i64 b], .int .i64 m] (noTabs 6) ⟨[1, 0, 0, 1, 1, 0, 0], True⟩ := by
  delta rpart16_e0
  exact Eq.refl _
theorem rpart16_p0 (a b m : Int) (h : rpart16_r0 a b m) (w : World) : Calls Tryz.prog 54 #[.agg #[.int .i64 a, .int .i64 b], .int .i64 m] w fun en w' => en = .returned (rpart16_w0 a b m) ∧ Below w.heap.size w w' := by
  have hv := rpart16_v0 a b m
  have hc := rpart16_k0 a b m
  have he := rpart16_q0 a b m
  have ho := rpart16_o0 a b m
  generalize rpart16_e0 a b m = r at *
  exact calls_way he gfol rpart16_X hv rfl (rpart16_args a b m) hc ho h (bl w)
def rpart16_w1 (a b m : Int) : Value := .int .i64 (Pl.cr b (IntKind.i64.wrap ((0 : Int) - m)) m)
def rpart16_r1 (a b m : Int) : Prop := (((((((((True ∧ (True)) ∧ (True)) ∧ (((decide ((0 : Int) < ((2 : Nat) : Int))) = Bool.true))) ∧ (((0 : Int) = (Int.ofNat 0)))) ∧ (rpart16_c0 a b m = false)) ∧ (((decide ((IntKind.i64.wrap ((0 : Int) + (1 : Int))) < ((2 : Nat) : Int))) = Bool.true))) ∧ (((IntKind.i64.wrap ((0 : Int) + (1 : Int))) = (Int.ofNat 1)))) ∧ (rpart16_c1 a b m = true)) ∧ (((IntKind.i64.wrap ((0 : Int) + (1 : Int))) = (Int.ofNat 1))))
theorem rpart16_o1 (a b m : Int) : obOf (rpart16_e1 a b m) = rpart16_r1 a b m := by kernel_rfl
theorem rpart16_v1 (a b m : Int) : resOf (rpart16_e1 a b m) = rpart16_w1 a b m := by kernel_rfl
theorem rpart16_k1 (a b m : Int) : cleanOf Tryz.prog.globals.size (rpart16_e1 a b m) = true := by kernel_rfl
theorem rpart16_q1 (a b m : Int) : rpart16_e1 a b m = evFS Tryz.prog x_rpart16 1000 54 #[.agg #[.int .i64 a, .int .i64 b], .int .i64 m] (noTabs 6) ⟨[1, 0, 0, 1, 1, 1, 1], True⟩ := by
  delta rpart16_e1
  exact Eq.refl _
theorem rpart16_p1 (a b m : Int) (h : rpart16_r1 a b m) (w : World) : Calls Tryz.prog 54 #[.agg #[.int .i64 a, .int .i64 b], .int .i64 m] w fun en w' => en = .returned (rpart16_w1 a b m) ∧ Below w.heap.size w w' := by
  have hv := rpart16_v1 a b m
  have hc := rpart16_k1 a b m
  have he := rpart16_q1 a b m
  have ho := rpart16_o1 a b m
  generalize rpart16_e1 a b m = r at *
  exact calls_way he gfol rpart16_X hv rfl (rpart16_args a b m) hc ho h (bl w)
def rpart16_w2 (a b m : Int) : Value := .int .i64 (Pl.cr a (IntKind.i64.wrap ((0 : Int) - m)) m)
def rpart16_r2 (a b m : Int) : Prop := ((((((True ∧ (True)) ∧ (True)) ∧ (((decide ((0 : Int) < ((2 : Nat) : Int))) = Bool.true))) ∧ (((0 : Int) = (Int.ofNat 0)))) ∧ (rpart16_c0 a b m = true)) ∧ (((0 : Int) = (Int.ofNat 0))))
theorem rpart16_o2 (a b m : Int) : obOf (rpart16_e2 a b m) = rpart16_r2 a b m := by kernel_rfl
theorem rpart16_v2 (a b m : Int) : resOf (rpart16_e2 a b m) = rpart16_w2 a b m := by kernel_rfl
theorem rpart16_k2 (a b m : Int) : cleanOf Tryz.prog.globals.size (rpart16_e2 a b m) = true := by kernel_rfl
theorem rpart16_q2 (a b m : Int) : rpart16_e2 a b m = evFS Tryz.prog x_rpart16 1000 54 #[.agg #[.int .i64 a, .int .i64 b], .int .i64 m] (noTabs 6) ⟨[1, 0, 1, 0], True⟩ := by
  delta rpart16_e2
  exact Eq.refl _
theorem rpart16_p2 (a b m : Int) (h : rpart16_r2 a b m) (w : World) : Calls Tryz.prog 54 #[.agg #[.int .i64 a, .int .i64 b], .int .i64 m] w fun en w' => en = .returned (rpart16_w2 a b m) ∧ Below w.heap.size w w' := by
  have hv := rpart16_v2 a b m
  have hc := rpart16_k2 a b m
  have he := rpart16_q2 a b m
  have ho := rpart16_o2 a b m
  generalize rpart16_e2 a b m = r at *
  exact calls_way he gfol rpart16_X hv rfl (rpart16_args a b m) hc ho h (bl w)
theorem rpart16_any (a b m : Int) (hpre : m = 65536 ∨ m = 1048576) (w : World) : Calls Tryz.prog 54 #[.agg #[.int .i64 a, .int .i64 b], .int .i64 m] w fun en w' => en = .returned (rpart16_val a b m) ∧ Below w.heap.size w w' := by
  have wm : IntKind.i64.wrap (0 - m) = -m := by rcases hpre with rfl | rfl <;> decide
  rcases Bool.eq_false_or_eq_true (rpart16_c0 a b m) with h0 | h0
  ·
    unfold rpart16_c0 at h0
    have hp := rpart16_p2 a b m ⟨⟨⟨⟨⟨⟨trivial, rpart16_g0⟩, rpart16_g0⟩, rpart16_g1⟩, rpart16_g2⟩, h0⟩, rpart16_g2⟩ w
    have hv : rpart16_w2 a b m = rpart16_val a b m := by
      clear hp
      unfold rpart16_w2 rpart16_val
      first | rfl | ((try simp only [bne_iff_ne, ne_eq, decide_eq_true_eq, decide_eq_false_iff_not, Bool.not_eq_true', Bool.not_eq_false', beq_iff_eq, beq_eq_false_iff_ne, bne_eq_false_iff_eq, Bool.and_eq_true, Bool.not_eq_true, Bool.not_eq_false, wm, Pl.cr, parts_eq] at *); grind)
    exact hv ▸ hp
  ·
    unfold rpart16_c0 at h0
    rcases Bool.eq_false_or_eq_true (rpart16_c1 a b m) with h1 | h1
    ·
      unfold rpart16_c1 at h1
      have hp := rpart16_p1 a b m ⟨⟨⟨⟨⟨⟨⟨⟨⟨trivial, rpart16_g0⟩, rpart16_g0⟩, rpart16_g1⟩, rpart16_g2⟩, h0⟩, rpart16_g4⟩, rpart16_g5⟩, h1⟩, rpart16_g5⟩ w
      have hv : rpart16_w1 a b m = rpart16_val a b m := by
        clear hp
        unfold rpart16_w1 rpart16_val
        first | rfl | ((try simp only [bne_iff_ne, ne_eq, decide_eq_true_eq, decide_eq_false_iff_not, Bool.not_eq_true', Bool.not_eq_false', beq_iff_eq, beq_eq_false_iff_ne, bne_eq_false_iff_eq, Bool.and_eq_true, Bool.not_eq_true, Bool.not_eq_false, wm, Pl.cr, parts_eq] at *); grind)
      exact hv ▸ hp
    ·
      unfold rpart16_c1 at h1
      have hp := rpart16_p0 a b m ⟨⟨⟨⟨⟨⟨⟨⟨⟨trivial, rpart16_g0⟩, rpart16_g0⟩, rpart16_g1⟩, rpart16_g2⟩, h0⟩, rpart16_g4⟩, rpart16_g5⟩, h1⟩, rpart16_g7⟩ w
      have hv : rpart16_w0 a b m = rpart16_val a b m := by
        clear hp
        unfold rpart16_w0 rpart16_val
        first | rfl | ((try simp only [bne_iff_ne, ne_eq, decide_eq_true_eq, decide_eq_false_iff_not, Bool.not_eq_true', Bool.not_eq_false', beq_iff_eq, beq_eq_false_iff_ne, bne_eq_false_iff_eq, Bool.and_eq_true, Bool.not_eq_true, Bool.not_eq_false, wm, Pl.cr, parts_eq] at *); grind)
      exact hv ▸ hp
theorem k_rpart16 : ConOk Tryz.prog c_rpart16 := fun ns hl => by
  have hl0 : ns.length = 3 := hl
  clear hl
  obtain ⟨a, ns0, rfl, hl1⟩ := len_cons hl0
  obtain ⟨b, ns1, rfl, hl2⟩ := len_cons hl1
  obtain ⟨m, ns2, rfl, hl3⟩ := len_cons hl2
  obtain rfl := len_nil hl3
  exact ⟨rfl, fun h w => rpart16_any a b m h w⟩
end Go.Proofs.YtledgemlflbfdaaGreatDoor
end
section
set_option linter.all false
set_option maxRecDepth 1000000
set_option maxHeartbeats 2000000
open Go.RowKit
namespace Go.Proofs.YtledgemlflbfdaaGreatDoor
open Mini

def rcheckPhases_val (a1 a2 b1 b2 c1 c2 : Int) : Value := .int .i64 (th (Pl.parts a1 a2 65536) (Pl.parts b1 b2 65536) (Pl.parts c1 c2 65536))
theorem rcheckPhases_X : FOkS Tryz.prog x_rcheckPhases := kAll_ok _ ⟨k_rpart16, trivial⟩
theorem rcheckPhases_args (a1 a2 b1 b2 c1 c2 : Int) : (#[.agg #[.int .i64 a1, .int .i64 a2, .int .i64 b1, .int .i64 b2, .int .i64 c1, .int .i64 c2]] : Array Value).toList.all (ground 8) = true := by kernel_rfl
theorem rcheckPhases_g0 : ((0 : Int) = (Int.ofNat 0)) := by first | rfl | trivial | decide | omega
theorem rcheckPhases_g1 : (((65536 : Int) = (65536 : Int)) ∨ ((65536 : Int) = (1048576 : Int))) := by first | rfl | trivial | decide | omega
theorem rcheckPhases_g2 : ((1 : Int) = (Int.ofNat 1)) := by first | rfl | trivial | decide | omega
theorem rcheckPhases_g3 : ((2 : Int) = (Int.ofNat 2)) := by first | rfl | trivial | decide | omega
theorem rcheckPhases_g4 : ((decide ((0 : Int) < ((3 : Nat) : Int))) = Bool.true) := by first | rfl | trivial | decide | omega
def rcheckPhases_c0 (a1 a2 b1 b2 c1 c2 : Int) : Bool := ((Pl.parts a1 a2 (65536 : Int)) != (0 : Int))
theorem rcheckPhases_g7 : ((decide ((IntKind.i64.wrap ((0 : Int) + (1 : Int))) < ((3 : Nat) : Int))) = Bool.true) := by first | rfl | trivial | decide | omega
theorem rcheckPhases_g8 : ((IntKind.i64.wrap ((0 : Int) + (1 : Int))) = (Int.ofNat 1)) := by first | rfl | trivial | decide | omega
def rcheckPhases_c1 (a1 a2 b1 b2 c1 c2 : Int) : Bool := ((Pl.parts b1 b2 (65536 : Int)) != (0 : Int))
theorem rcheckPhases_g10 : ((decide ((IntKind.i64.wrap ((IntKind.i64.wrap ((0 : Int) + (1 : Int))) + (1 : Int))) < ((3 : Nat) : Int))) = Bool.true) := by first | rfl | trivial | decide | omega
theorem rcheckPhases_g11 : ((IntKind.i64.wrap ((IntKind.i64.wrap ((0 : Int) + (1 : Int))) + (1 : Int))) = (Int.ofNat 2)) := by first | rfl | trivial | decide | omega
def rcheckPhases_c2 (a1 a2 b1 b2 c1 c2 : Int) : Bool := ((Pl.parts c1 c2 (65536 : Int)) != (0 : Int))
theorem rcheckPhases_g13 : ((decide ((IntKind.i64.wrap ((IntKind.i64.wrap ((IntKind.i64.wrap ((0 : Int) + (1 : Int))) + (1 : Int))) + (1 : Int))) < ((3 : Nat) : Int))) = Bool.false) := by first | rfl | trivial | decide | omega
def rcheckPhases_w0 (a1 a2 b1 b2 c1 c2 : Int) : Value := .int .i64 (Pl.parts a1 a2 (65536 : Int))
def rcheckPhases_r0 (a1 a2 b1 b2 c1 c2 : Int) : Prop := ((((((((((True ∧ (((0 : Int) = (Int.ofNat 0)))) ∧ ((((65536 : Int) = (65536 : Int)) ∨ ((65536 : Int) = (1048576 : Int))))) ∧ (((1 : Int) = (Int.ofNat 1)))) ∧ ((((65536 : Int) = (65536 : Int)) ∨ ((65536 : Int) = (1048576 : Int))))) ∧ (((2 : Int) = (Int.ofNat 2)))) ∧ ((((65536 : Int) = (65536 : Int)) ∨ ((65536 : Int) = (1048576 : Int))))) ∧ (((decide ((0 : Int) < ((3 : Nat) : Int))) = Bool.true))) ∧ (((0 : Int) = (Int.ofNat 0)))) ∧ (rcheckPhases_c0 a1 a2 b1 b2 c1 c2 = true)) ∧ (((0 : Int) = (Int.ofNat 0))))
theorem rcheckPhases_o0 (a1 a2 b1 b2 c1 c2 : Int) : obOf (rcheckPhases_e0 a1 a2 b1 b2 c1 c2) = rcheckPhases_r0 a1 a2 b1 b2 c1 c2 := by kernel_rfl
theorem rcheckPhases_v0 (a1 a2 b1 b2 c1 c2 : Int) : resOf (rcheckPhases_e0 a1 a2 b1 b2 c1 c2) = rcheckPhases_w0 a1 a2 b1 b2 c1 c2 := by kernel_rfl
theorem rcheckPhases_k0 (a1 a2 b1 b2 c1 c2 : Int) : cleanOf Tryz.prog.globals.size (rcheckPhases_e0 a1 a2 b1 b2 c1 c2) = true := by kernel_rfl
theorem rcheckPhases_q0 (a1 a2 b1 b2 c1 c2 : Int) : rcheckPhases_e0 a1 a2 b1 b2 c1 c2 = evFS Tryz.prog x_rcheckPhases 1000 33 #[.agg #[.int .i64 a1, .int .i64 a2, .int .i64 b1, .int .i64 b2, .int .i64 c1, .int .i64 c2]] (noTabs 6) ⟨[0, 1, 2, 1, 0, 1, 0], True⟩ := by
  delta rcheckPhases_e0
  exact Eq.refl _
theorem rcheckPhases_p0 (a1 a2 b1 b2 c1 c2 : Int) (h : rcheckPhases_r0 a1 a2 b1 b2 c1 c2) (w : World) : Calls Tryz.prog 33 #[.agg #[.int .i64 a1, .int .i64 a2, .int .i64 b1, .int .i64 b2, .int .i64 c1, .int .i64 c2]] w fun en w' => en = .returned (rcheckPhases_w0 a1 a2 b1 b2 c1 c2) ∧ Below w.heap.size w w' := by
  have hv := rcheckPhases_v0 a1 a2 b1 b2 c1 c2
  have hc := rcheckPhases_k0 a1 a2 b1 b2 c1 c2
  have he := rcheckPhases_q0 a1 a2 b1 b2 c1 c2
  have ho := rcheckPhases_o0 a1 a2 b1 b2 c1 c2
  generalize rcheckPhases_e0 a1 a2 b1 b2 c1 c2 = r at *
  exact calls_way he gfol rcheckPhases_X hv rfl (rcheckPhases_args a1 a2 b1 b2 c1 c2) hc ho h (bl w)
def rcheckPhases_w1 (a1 a2 b1 b2 c1 c2 : Int) : Value := .int .i64 (0 : Int)
def rcheckPhases_r1 (a1 a2 b1 b2 c1 c2 : Int) : Prop := ((((((((((((((((True ∧ (((0 : Int) = (Int.ofNat 0)))) ∧ ((((65536 : Int) = (65536 : Int)) ∨ ((65536 : Int) = (1048576 : Int))))) ∧ (((1 : Int) = (Int.ofNat 1)))) ∧ ((((65536 : Int) = (65536 : Int)) ∨ ((65536 : Int) = (1048576 : Int))))) ∧ (((2 : Int) = (Int.ofNat 2)))) ∧ ((((65536 : Int) = (65536 : Int)) ∨ ((65536 : Int) = (1048576 : Int))))) ∧ (((decide ((0 : Int) < ((3 : Nat) : Int))) = Bool.true))) ∧ (((0 : Int) = (Int.ofNat 0)))) ∧ (rcheckPhases_c0 a1 a2 b1 b2 c1 c2 = false)) ∧ (((decide ((IntKind.i64.wrap ((0 : Int) + (1 : Int))) < ((3 : Nat) : Int))) = Bool.true))) ∧ (((IntKind.i64.wrap ((0 : Int) + (1 : Int))) = (Int.ofNat 1)))) ∧ (rcheckPhases_c1 a1 a2 b1 b2 c1 c2 = false)) ∧ (((decide ((IntKind.i64.wrap ((IntKind.i64.wrap ((0 : Int) + (1 : Int))) + (1 : Int))) < ((3 : Nat) : Int))) = Bool.true))) ∧ (((IntKind.i64.wrap ((IntKind.i64.wrap ((0 : Int) + (1 : Int))) + (1 : Int))) = (Int.ofNat 2)))) ∧ (rcheckPhases_c2 a1 a2 b1 b2 c1 c2 = false)) ∧ (((decide ((IntKind.i64.wrap ((IntKind.i64.wrap ((IntKind.i64.wrap ((0 : Int) + (1 : Int))) + (1 : Int))) + (1 : Int))) < ((3 : Nat) : Int))) = Bool.false)))
theorem rcheckPhases_o1 (a1 a2 b1 b2 c1 c2 : Int) : obOf (rcheckPhases_e1 a1 a2 b1 b2 c1 c2) = rcheckPhases_r1 a1 a2 b1 b2 c1 c2 := by kernel_rfl
theorem rcheckPhases_v1 (a1 a2 b1 b2 c1 c2 : Int) : resOf (rcheckPhases_e1 a1 a2 b1 b2 c1 c2) = rcheckPhases_w1 a1 a2 b1 b2 c1 c2 := by kernel_rfl
theorem rcheckPhases_k1 (a1 a2 b1 b2 c1 c2 : Int) : cleanOf Tryz.prog.globals.size (rcheckPhases_e1 a1 a2 b1 b2 c1 c2) = true := by kernel_rfl
theorem rcheckPhases_q1 (a1 a2 b1 b2 c1 c2 : Int) : rcheckPhases_e1 a1 a2 b1 b2 c1 c2 = evFS Tryz.prog x_rcheckPhases 1000 33 #[.agg #[.int .i64 a1, .int .i64 a2, .int .i64 b1, .int .i64 b2, .int .i64 c1, .int .i64 c2]] (noTabs 6) ⟨[0, 1, 2, 1, 0, 0, 1, 1, 0, 1, 2, 0, 0], True⟩ := by
  delta rcheckPhases_e1
  exact Eq.refl _
theorem rcheckPhases_p1 (a1 a2 b1 b2 c1 c2 : Int) (h : rcheckPhases_r1 a1 a2 b1 b2 c1 c2) (w : World) : Calls Tryz.prog 33 #[.agg #[.int .i64 a1, .int .i64 a2, .int .i64 b1, .int .i64 b2, .int .i64 c1, .int .i64 c2]] w fun en w' => en = .returned (rcheckPhases_w1 a1 a2 b1 b2 c1 c2) ∧ Below w.heap.size w w' := by
  have hv := rcheckPhases_v1 a1 a2 b1 b2 c1 c2
  have hc := rcheckPhases_k1 a1 a2 b1 b2 c1 c2
  have he := rcheckPhases_q1 a1 a2 b1 b2 c1 c2
  have ho := rcheckPhases_o1 a1 a2 b1 b2 c1 c2
  generalize rcheckPhases_e1 a1 a2 b1 b2 c1 c2 = r at *
  exact calls_way he gfol rcheckPhases_X hv rfl (rcheckPhases_args a1 a2 b1 b2 c1 c2) hc ho h (bl w)
def rcheckPhases_w2 (a1 a2 b1 b2 c1 c2 : Int) : Value := .int .i64 (Pl.parts c1 c2 (65536 : Int))
def rcheckPhases_r2 (a1 a2 b1 b2 c1 c2 : Int) : Prop := ((((((((((((((((True ∧ (((0 : Int) = (Int.ofNat 0)))) ∧ ((((65536 : Int) = (65536 : Int)) ∨ ((65536 : Int) = (1048576 : Int))))) ∧ (((1 : Int) = (Int.ofNat 1)))) ∧ ((((65536 : Int) = (65536 : Int)) ∨ ((65536 : Int) = (1048576 : Int))))) ∧ (((2 : Int) = (Int.ofNat 2)))) ∧ ((((65536 : Int) = (65536 : Int)) ∨ ((65536 : Int) = (1048576 : Int))))) ∧ (((decide ((0 : Int) < ((3 : Nat) : Int))) = Bool.true))) ∧ (((0 : Int) = (Int.ofNat 0)))) ∧ (rcheckPhases_c0 a1 a2 b1 b2 c1 c2 = false)) ∧ (((decide ((IntKind.i64.wrap ((0 : Int) + (1 : Int))) < ((3 : Nat) : Int))) = Bool.true))) ∧ (((IntKind.i64.wrap ((0 : Int) + (1 : Int))) = (Int.ofNat 1)))) ∧ (rcheckPhases_c1 a1 a2 b1 b2 c1 c2 = false)) ∧ (((decide ((IntKind.i64.wrap ((IntKind.i64.wrap ((0 : Int) + (1 : Int))) + (1 : Int))) < ((3 : Nat) : Int))) = Bool.true))) ∧ (((IntKind.i64.wrap ((IntKind.i64.wrap ((0 : Int) + (1 : Int))) + (1 : Int))) = (Int.ofNat 2)))) ∧ (rcheckPhases_c2 a1 a2 b1 b2 c1 c2 = true)) ∧ (((IntKind.i64.wrap ((IntKind.i64.wrap ((0 : Int) + (1 : Int))) + (1 : Int))) = (Int.ofNat 2))))
theorem rcheckPhases_o2 (a1 a2 b1 b2 c1 c2 : Int) : obOf (rcheckPhases_e2 a1 a2 b1 b2 c1 c2) = rcheckPhases_r2 a1 a2 b1 b2 c1 c2 := by kernel_rfl
theorem rcheckPhases_v2 (a1 a2 b1 b2 c1 c2 : Int) : resOf (rcheckPhases_e2 a1 a2 b1 b2 c1 c2) = rcheckPhases_w2 a1 a2 b1 b2 c1 c2 := by kernel_rfl
theorem rcheckPhases_k2 (a1 a2 b1 b2 c1 c2 : Int) : cleanOf Tryz.prog.globals.size (rcheckPhases_e2 a1 a2 b1 b2 c1 c2) = true := by kernel_rfl
theorem rcheckPhases_q2 (a1 a2 b1 b2 c1 c2 : Int) : rcheckPhases_e2 a1 a2 b1 b2 c1 c2 = evFS Tryz.prog x_rcheckPhases 1000 33 #[.agg #[.int .i64 a1, .int .i64 a2, .int .i64 b1, .int .i64 b2, .int .i64 c1, .int .i64 c2]] (noTabs 6) ⟨[0, 1, 2, 1, 0, 0, 1, 1, 0, 1, 2, 1, 2], True⟩ := by
  delta rcheckPhases_e2
  exact Eq.refl _
theorem rcheckPhases_p2 (a1 a2 b1 b2 c1 c2 : Int) (h : rcheckPhases_r2 a1 a2 b1 b2 c1 c2) (w : World) : Calls Tryz.prog 33 #[.agg #[.int .i64 a1, .int .i64 a2, .int .i64 b1, .int .i64 b2, .int .i64 c1, .int .i64 c2]] w fun en w' => en = .returned (rcheckPhases_w2 a1 a2 b1 b2 c1 c2) ∧ Below w.heap.size w w' := by
  have hv := rcheckPhases_v2 a1 a2 b1 b2 c1 c2
  have hc := rcheckPhases_k2 a1 a2 b1 b2 c1 c2
  have he := rcheckPhases_q2 a1 a2 b1 b2 c1 c2
  have ho := rcheckPhases_o2 a1 a2 b1 b2 c1 c2
  generalize rcheckPhases_e2 a1 a2 b1 b2 c1 c2 = r at *
  exact calls_way he gfol rcheckPhases_X hv rfl (rcheckPhases_args a1 a2 b1 b2 c1 c2) hc ho h (bl w)
def rcheckPhases_w3 (a1 a2 b1 b2 c1 c2 : Int) : Value := .int .i64 (Pl.parts b1 b2 (65536 : Int))
def rcheckPhases_r3 (a1 a2 b1 b2 c1 c2 : Int) : Prop := (((((((((((((True ∧ (((0 : Int) = (Int.ofNat 0)))) ∧ ((((65536 : Int) = (65536 : Int)) ∨ ((65536 : Int) = (1048576 : Int))))) ∧ (((1 : Int) = (Int.ofNat 1)))) ∧ ((((65536 : Int) = (65536 : Int)) ∨ ((65536 : Int) = (1048576 : Int))))) ∧ (((2 : Int) = (Int.ofNat 2)))) ∧ ((((65536 : Int) = (65536 : Int)) ∨ ((65536 : Int) = (1048576 : Int))))) ∧ (((decide ((0 : Int) < ((3 : Nat) : Int))) = Bool.true))) ∧ (((0 : Int) = (Int.ofNat 0)))) ∧ (rcheckPhases_c0 a1 a2 b1 b2 c1 c2 = false)) ∧ (((decide ((IntKind.i64.wrap ((0 : Int) + (1 : Int))) < ((3 : Nat) : Int))) = Bool.true))) ∧ (((IntKind.i64.wrap ((0 : Int) + (1 : Int))) = (Int.ofNat 1)))) ∧ (rcheckPhases_c1 a1 a2 b1 b2 c1 c2 = true)) ∧ (((IntKind.i64.wrap ((0 : Int) + (1 : Int))) = (Int.ofNat 1))))
theorem rcheckPhases_o3 (a1 a2 b1 b2 c1 c2 : Int) : obOf (rcheckPhases_e3 a1 a2 b1 b2 c1 c2) = rcheckPhases_r3 a1 a2 b1 b2 c1 c2 := by kernel_rfl
theorem rcheckPhases_v3 (a1 a2 b1 b2 c1 c2 : Int) : resOf (rcheckPhases_e3 a1 a2 b1 b2 c1 c2) = rcheckPhases_w3 a1 a2 b1 b2 c1 c2 := by kernel_rfl
theorem rcheckPhases_k3 (a1 a2 b1 b2 c1 c2 : Int) : cleanOf Tryz.prog.globals.size (rcheckPhases_e3 a1 a2 b1 b2 c1 c2) = true := by kernel_rfl
theorem rcheckPhases_q3 (a1 a2 b1 b2 c1 c2 : Int) : rcheckPhases_e3 a1 a2 b1 b2 c1 c2 = evFS Tryz.prog x_rcheckPhases 1000 33 #[.agg #[.int .i64 a1, .int .i64 a2, .int .i64 b1, .int .i64 b2, .int .i64 c1, .int .i64 c2]] (noTabs 6) ⟨[0, 1, 2, 1, 0, 0, 1, 1, 1, 1], True⟩ := by
  delta rcheckPhases_e3
  exact Eq.refl _
theorem rcheckPhases_p3 (a1 a2 b1 b2 c1 c2 : Int) (h : rcheckPhases_r3 a1 a2 b1 b2 c1 c2) (w : World) : Calls Tryz.prog 33 #[.agg #[.int .i64 a1, .int .i64 a2, .int .i64 b1, .int .i64 b2, .int .i64 c1, .int .i64 c2]] w fun en w' => en = .returned (rcheckPhases_w3 a1 a2 b1 b2 c1 c2) ∧ Below w.heap.size w w' := by
  have hv := rcheckPhases_v3 a1 a2 b1 b2 c1 c2
  have hc := rcheckPhases_k3 a1 a2 b1 b2 c1 c2
  have he := rcheckPhases_q3 a1 a2 b1 b2 c1 c2
  have ho := rcheckPhases_o3 a1 a2 b1 b2 c1 c2
  generalize rcheckPhases_e3 a1 a2 b1 b2 c1 c2 = r at *
  exact calls_way he gfol rcheckPhases_X hv rfl (rcheckPhases_args a1 a2 b1 b2 c1 c2) hc ho h (bl w)
theorem rcheckPhases_any (a1 a2 b1 b2 c1 c2 : Int) (hpre : True) (w : World) : Calls Tryz.prog 33 #[.agg #[.int .i64 a1, .int .i64 a2, .int .i64 b1, .int .i64 b2, .int .i64 c1, .int .i64 c2]] w fun en w' => en = .returned (rcheckPhases_val a1 a2 b1 b2 c1 c2) ∧ Below w.heap.size w w' := by
  rcases Bool.eq_false_or_eq_true (rcheckPhases_c0 a1 a2 b1 b2 c1 c2) with h0 | h0
  ·
    unfold rcheckPhases_c0 at h0
    have hp := rcheckPhases_p0 a1 a2 b1 b2 c1 c2 ⟨⟨⟨⟨⟨⟨⟨⟨⟨⟨trivial, rcheckPhases_g0⟩, rcheckPhases_g1⟩, rcheckPhases_g2⟩, rcheckPhases_g1⟩, rcheckPhases_g3⟩, rcheckPhases_g1⟩, rcheckPhases_g4⟩, rcheckPhases_g0⟩, h0⟩, rcheckPhases_g0⟩ w
    have hv : rcheckPhases_w0 a1 a2 b1 b2 c1 c2 = rcheckPhases_val a1 a2 b1 b2 c1 c2 := by
      clear hp
      unfold rcheckPhases_w0 rcheckPhases_val
      first | rfl | ((try simp only [bne_eq_false_iff_eq, bne_iff_ne, ne_eq, beq_iff_eq, beq_eq_false_iff_ne] at *); (try simp only [th, cz, *, ↓reduceIte]); done)
    exact hv ▸ hp
  ·
    unfold rcheckPhases_c0 at h0
    rcases Bool.eq_false_or_eq_true (rcheckPhases_c1 a1 a2 b1 b2 c1 c2) with h1 | h1
    ·
      unfold rcheckPhases_c1 at h1
      have hp := rcheckPhases_p3 a1 a2 b1 b2 c1 c2 ⟨⟨⟨⟨⟨⟨⟨⟨⟨⟨⟨⟨⟨trivial, rcheckPhases_g0⟩, rcheckPhases_g1⟩, rcheckPhases_g2⟩, rcheckPhases_g1⟩, rcheckPhases_g3⟩, rcheckPhases_g1⟩, rcheckPhases_g4⟩, rcheckPhases_g0⟩, h0⟩, rcheckPhases_g7⟩, rcheckPhases_g8⟩, h1⟩, rcheckPhases_g8⟩ w
      have hv : rcheckPhases_w3 a1 a2 b1 b2 c1 c2 = rcheckPhases_val a1 a2 b1 b2 c1 c2 := by
        clear hp
        unfold rcheckPhases_w3 rcheckPhases_val
        first | rfl | ((try simp only [bne_eq_false_iff_eq, bne_iff_ne, ne_eq, beq_iff_eq, beq_eq_false_iff_ne] at *); (try simp only [th, cz, *, ↓reduceIte]); done)
      exact hv ▸ hp
    ·
      unfold rcheckPhases_c1 at h1
      rcases Bool.eq_false_or_eq_true (rcheckPhases_c2 a1 a2 b1 b2 c1 c2) with h2 | h2
      ·
        unfold rcheckPhases_c2 at h2
        have hp := rcheckPhases_p2 a1 a2 b1 b2 c1 c2 ⟨⟨⟨⟨⟨⟨⟨⟨⟨⟨⟨⟨⟨⟨⟨⟨trivial, rcheckPhases_g0⟩, rcheckPhases_g1⟩, rcheckPhases_g2⟩, rcheckPhases_g1⟩, rcheckPhases_g3⟩, rcheckPhases_g1⟩, rcheckPhases_g4⟩, rcheckPhases_g0⟩, h0⟩, rcheckPhases_g7⟩, rcheckPhases_g8⟩, h1⟩, rcheckPhases_g10⟩, rcheckPhases_g11⟩, h2⟩, rcheckPhases_g11⟩ w
        have hv : rcheckPhases_w2 a1 a2 b1 b2 c1 c2 = rcheckPhases_val a1 a2 b1 b2 c1 c2 := by
          clear hp
          unfold rcheckPhases_w2 rcheckPhases_val
          first | rfl | ((try simp only [bne_eq_false_iff_eq, bne_iff_ne, ne_eq, beq_iff_eq, beq_eq_false_iff_ne] at *); (try simp only [th, cz, *, ↓reduceIte]); done)
        exact hv ▸ hp
      ·
        unfold rcheckPhases_c2 at h2
        have hp := rcheckPhases_p1 a1 a2 b1 b2 c1 c2 ⟨⟨⟨⟨⟨⟨⟨⟨⟨⟨⟨⟨⟨⟨⟨⟨trivial, rcheckPhases_g0⟩, rcheckPhases_g1⟩, rcheckPhases_g2⟩, rcheckPhases_g1⟩, rcheckPhases_g3⟩, rcheckPhases_g1⟩, rcheckPhases_g4⟩, rcheckPhases_g0⟩, h0⟩, rcheckPhases_g7⟩, rcheckPhases_g8⟩, h1⟩, rcheckPhases_g10⟩, rcheckPhases_g11⟩, h2⟩, rcheckPhases_g13⟩ w
        have hv : rcheckPhases_w1 a1 a2 b1 b2 c1 c2 = rcheckPhases_val a1 a2 b1 b2 c1 c2 := by
          clear hp
          unfold rcheckPhases_w1 rcheckPhases_val
          first | rfl | ((try simp only [bne_eq_false_iff_eq, bne_iff_ne, ne_eq, beq_iff_eq, beq_eq_false_iff_ne] at *); (try simp only [th, cz, *, ↓reduceIte]); done)
        exact hv ▸ hp
theorem k_rcheckPhases : ConOk Tryz.prog c_rcheckPhases := fun ns hl => by
  have hl0 : ns.length = 6 := hl
  clear hl
  obtain ⟨a1, ns0, rfl, hl1⟩ := len_cons hl0
  obtain ⟨a2, ns1, rfl, hl2⟩ := len_cons hl1
  obtain ⟨b1, ns2, rfl, hl3⟩ := len_cons hl2
  obtain ⟨b2, ns3, rfl, hl4⟩ := len_cons hl3
  obtain ⟨c1, ns4, rfl, hl5⟩ := len_cons hl4
  obtain ⟨c2, ns5, rfl, hl6⟩ := len_cons hl5
  obtain rfl := len_nil hl6
  exact ⟨rfl, fun h w => rcheckPhases_any a1 a2 b1 b2 c1 c2 h w⟩
end Go.Proofs.YtledgemlflbfdaaGreatDoor
end
section
set_option linter.all false
set_option maxRecDepth 1000000
set_option maxHeartbeats 2000000
open Go.RowKit
namespace Go.Proofs.YtledgemlflbfdaaGreatDoor
open Mini

def rcheckEisen_val (a b : Int) : Value := .int .i64 (Pl.parts a b 1048576)
theorem rcheckEisen_X : FOkS Tryz.prog x_rcheckEisen := kAll_ok _ ⟨k_rrange, trivial⟩
theorem rcheckEisen_args (a b : Int) : (#[.agg #[.int .i64 a, .int .i64 b]] : Array Value).toList.all (ground 8) = true := by kernel_rfl
theorem rcheckEisen_g0 : True := by first | rfl | trivial | decide | omega
theorem rcheckEisen_g1 : ((decide ((0 : Int) < ((2 : Nat) : Int))) = Bool.true) := by first | rfl | trivial | decide | omega
theorem rcheckEisen_g2 : ((0 : Int) = (Int.ofNat 0)) := by first | rfl | trivial | decide | omega
def rcheckEisen_c0 (a b : Int) : Bool := ((Pl.cr a (IntKind.i64.wrap ((0 : Int) - (1048576 : Int))) (1048576 : Int)) != (0 : Int))
theorem rcheckEisen_g4 : ((decide ((IntKind.i64.wrap ((0 : Int) + (1 : Int))) < ((2 : Nat) : Int))) = Bool.true) := by first | rfl | trivial | decide | omega
theorem rcheckEisen_g5 : ((IntKind.i64.wrap ((0 : Int) + (1 : Int))) = (Int.ofNat 1)) := by first | rfl | trivial | decide | omega
def rcheckEisen_c1 (a b : Int) : Bool := ((Pl.cr b (IntKind.i64.wrap ((0 : Int) - (1048576 : Int))) (1048576 : Int)) != (0 : Int))
theorem rcheckEisen_g7 : ((decide ((IntKind.i64.wrap ((IntKind.i64.wrap ((0 : Int) + (1 : Int))) + (1 : Int))) < ((2 : Nat) : Int))) = Bool.false) := by first | rfl | trivial | decide | omega
def rcheckEisen_w0 (a b : Int) : Value := .int .i64 (0 : Int)
def rcheckEisen_r0 (a b : Int) : Prop := (((((((((True ∧ (True)) ∧ (True)) ∧ (((decide ((0 : Int) < ((2 : Nat) : Int))) = Bool.true))) ∧ (((0 : Int) = (Int.ofNat 0)))) ∧ (rcheckEisen_c0 a b = false)) ∧ (((decide ((IntKind.i64.wrap ((0 : Int) + (1 : Int))) < ((2 : Nat) : Int))) = Bool.true))) ∧ (((IntKind.i64.wrap ((0 : Int) + (1 : Int))) = (Int.ofNat 1)))) ∧ (rcheckEisen_c1 a b = false)) ∧ (((decide ((IntKind.i64.wrap ((IntKind.i64.wrap ((0 : Int) + (1 : Int))) + (1 : Int))) < ((2 : Nat) : Int))) = Bool.false)))
theorem rcheckEisen_o0 (a b : Int) : obOf (rcheckEisen_e0 a b) = rcheckEisen_r0 a b := by kernel_rfl
theorem rcheckEisen_v0 (a b : Int) : resOf (rcheckEisen_e0 a b) = rcheckEisen_w0 a b := by kernel_rfl
theorem rcheckEisen_k0 (a b : Int) : cleanOf Tryz.prog.globals.size (rcheckEisen_e0 a b) = true := by kernel_rfl
theorem rcheckEisen_q0 (a b : Int) : rcheckEisen_e0 a b = evFS Tryz.prog x_rcheckEisen 1000 13 #[.agg #[.int .i64 a, .int .i64 b]] (noTabs 6) ⟨[1, 0, 0, 1, 1, 0, 0], True⟩ := by
  delta rcheckEisen_e0
  exact Eq.refl _
theorem rcheckEisen_p0 (a b : Int) (h : rcheckEisen_r0 a b) (w : World) : Calls Tryz.prog 13 #[.agg #[.int .i64 a, .int .i64 b]] w fun en w' => en = .returned (rcheckEisen_w0 a b) ∧ Below w.heap.size w w' := by
  have hv := rcheckEisen_v0 a b
  have hc := rcheckEisen_k0 a b
  have he := rcheckEisen_q0 a b
  have ho := rcheckEisen_o0 a b
  generalize rcheckEisen_e0 a b = r at *
  exact calls_way he gfol rcheckEisen_X hv rfl (rcheckEisen_args a b) hc ho h (bl w)
def rcheckEisen_w1 (a b : Int) : Value := .int .i64 (Pl.cr b (IntKind.i64.wrap ((0 : Int) - (1048576 : Int))) (1048576 : Int))
def rcheckEisen_r1 (a b : Int) : Prop := (((((((((True ∧ (True)) ∧ (True)) ∧ (((decide ((0 : Int) < ((2 : Nat) : Int))) = Bool.true))) ∧ (((0 : Int) = (Int.ofNat 0)))) ∧ (rcheckEisen_c0 a b = false)) ∧ (((decide ((IntKind.i64.wrap ((0 : Int) + (1 : Int))) < ((2 : Nat) : Int))) = Bool.true))) ∧ (((IntKind.i64.wrap ((0 : Int) + (1 : Int))) = (Int.ofNat 1)))) ∧ (rcheckEisen_c1 a b = true)) ∧ (((IntKind.i64.wrap ((0 : Int) + (1 : Int))) = (Int.ofNat 1))))
theorem rcheckEisen_o1 (a b : Int) : obOf (rcheckEisen_e1 a b) = rcheckEisen_r1 a b := by kernel_rfl
theorem rcheckEisen_v1 (a b : Int) : resOf (rcheckEisen_e1 a b) = rcheckEisen_w1 a b := by kernel_rfl
theorem rcheckEisen_k1 (a b : Int) : cleanOf Tryz.prog.globals.size (rcheckEisen_e1 a b) = true := by kernel_rfl
theorem rcheckEisen_q1 (a b : Int) : rcheckEisen_e1 a b = evFS Tryz.prog x_rcheckEisen 1000 13 #[.agg #[.int .i64 a, .int .i64 b]] (noTabs 6) ⟨[1, 0, 0, 1, 1, 1, 1], True⟩ := by
  delta rcheckEisen_e1
  exact Eq.refl _
theorem rcheckEisen_p1 (a b : Int) (h : rcheckEisen_r1 a b) (w : World) : Calls Tryz.prog 13 #[.agg #[.int .i64 a, .int .i64 b]] w fun en w' => en = .returned (rcheckEisen_w1 a b) ∧ Below w.heap.size w w' := by
  have hv := rcheckEisen_v1 a b
  have hc := rcheckEisen_k1 a b
  have he := rcheckEisen_q1 a b
  have ho := rcheckEisen_o1 a b
  generalize rcheckEisen_e1 a b = r at *
  exact calls_way he gfol rcheckEisen_X hv rfl (rcheckEisen_args a b) hc ho h (bl w)
def rcheckEisen_w2 (a b : Int) : Value := .int .i64 (Pl.cr a (IntKind.i64.wrap ((0 : Int) - (1048576 : Int))) (1048576 : Int))
def rcheckEisen_r2 (a b : Int) : Prop := ((((((True ∧ (True)) ∧ (True)) ∧ (((decide ((0 : Int) < ((2 : Nat) : Int))) = Bool.true))) ∧ (((0 : Int) = (Int.ofNat 0)))) ∧ (rcheckEisen_c0 a b = true)) ∧ (((0 : Int) = (Int.ofNat 0))))
theorem rcheckEisen_o2 (a b : Int) : obOf (rcheckEisen_e2 a b) = rcheckEisen_r2 a b := by kernel_rfl
theorem rcheckEisen_v2 (a b : Int) : resOf (rcheckEisen_e2 a b) = rcheckEisen_w2 a b := by kernel_rfl
theorem rcheckEisen_k2 (a b : Int) : cleanOf Tryz.prog.globals.size (rcheckEisen_e2 a b) = true := by kernel_rfl
theorem rcheckEisen_q2 (a b : Int) : rcheckEisen_e2 a b = evFS Tryz.prog x_rcheckEisen 1000 13 #[.agg #[.int .i64 a, .int .i64 b]] (noTabs 6) ⟨[1, 0, 1, 0], True⟩ := by
  delta rcheckEisen_e2
  exact Eq.refl _
theorem rcheckEisen_p2 (a b : Int) (h : rcheckEisen_r2 a b) (w : World) : Calls Tryz.prog 13 #[.agg #[.int .i64 a, .int .i64 b]] w fun en w' => en = .returned (rcheckEisen_w2 a b) ∧ Below w.heap.size w w' := by
  have hv := rcheckEisen_v2 a b
  have hc := rcheckEisen_k2 a b
  have he := rcheckEisen_q2 a b
  have ho := rcheckEisen_o2 a b
  generalize rcheckEisen_e2 a b = r at *
  exact calls_way he gfol rcheckEisen_X hv rfl (rcheckEisen_args a b) hc ho h (bl w)
theorem rcheckEisen_any (a b : Int) (hpre : True) (w : World) : Calls Tryz.prog 13 #[.agg #[.int .i64 a, .int .i64 b]] w fun en w' => en = .returned (rcheckEisen_val a b) ∧ Below w.heap.size w w' := by
  rcases Bool.eq_false_or_eq_true (rcheckEisen_c0 a b) with h0 | h0
  ·
    unfold rcheckEisen_c0 at h0
    have hp := rcheckEisen_p2 a b ⟨⟨⟨⟨⟨⟨trivial, rcheckEisen_g0⟩, rcheckEisen_g0⟩, rcheckEisen_g1⟩, rcheckEisen_g2⟩, h0⟩, rcheckEisen_g2⟩ w
    have hv : rcheckEisen_w2 a b = rcheckEisen_val a b := by
      clear hp
      unfold rcheckEisen_w2 rcheckEisen_val
      first | rfl | ((try simp only [bne_iff_ne, ne_eq, decide_eq_true_eq, decide_eq_false_iff_not, Bool.not_eq_true', Bool.not_eq_false', beq_iff_eq, beq_eq_false_iff_ne, bne_eq_false_iff_eq, Bool.and_eq_true, Bool.not_eq_true, Bool.not_eq_false, Pl.cr, parts_eq, w20, w16, wT, w20', w16', wT', Pl.lim, Pl.inB, first_two, two, oneB, Bg] at *); grind)
    exact hv ▸ hp
  ·
    unfold rcheckEisen_c0 at h0
    rcases Bool.eq_false_or_eq_true (rcheckEisen_c1 a b) with h1 | h1
    ·
      unfold rcheckEisen_c1 at h1
      have hp := rcheckEisen_p1 a b ⟨⟨⟨⟨⟨⟨⟨⟨⟨trivial, rcheckEisen_g0⟩, rcheckEisen_g0⟩, rcheckEisen_g1⟩, rcheckEisen_g2⟩, h0⟩, rcheckEisen_g4⟩, rcheckEisen_g5⟩, h1⟩, rcheckEisen_g5⟩ w
      have hv : rcheckEisen_w1 a b = rcheckEisen_val a b := by
        clear hp
        unfold rcheckEisen_w1 rcheckEisen_val
        first | rfl | ((try simp only [bne_iff_ne, ne_eq, decide_eq_true_eq, decide_eq_false_iff_not, Bool.not_eq_true', Bool.not_eq_false', beq_iff_eq, beq_eq_false_iff_ne, bne_eq_false_iff_eq, Bool.and_eq_true, Bool.not_eq_true, Bool.not_eq_false, Pl.cr, parts_eq, w20, w16, wT, w20', w16', wT', Pl.lim, Pl.inB, first_two, two, oneB, Bg] at *); grind)
      exact hv ▸ hp
    ·
      unfold rcheckEisen_c1 at h1
      have hp := rcheckEisen_p0 a b ⟨⟨⟨⟨⟨⟨⟨⟨⟨trivial, rcheckEisen_g0⟩, rcheckEisen_g0⟩, rcheckEisen_g1⟩, rcheckEisen_g2⟩, h0⟩, rcheckEisen_g4⟩, rcheckEisen_g5⟩, h1⟩, rcheckEisen_g7⟩ w
      have hv : rcheckEisen_w0 a b = rcheckEisen_val a b := by
        clear hp
        unfold rcheckEisen_w0 rcheckEisen_val
        first | rfl | ((try simp only [bne_iff_ne, ne_eq, decide_eq_true_eq, decide_eq_false_iff_not, Bool.not_eq_true', Bool.not_eq_false', beq_iff_eq, beq_eq_false_iff_ne, bne_eq_false_iff_eq, Bool.and_eq_true, Bool.not_eq_true, Bool.not_eq_false, Pl.cr, parts_eq, w20, w16, wT, w20', w16', wT', Pl.lim, Pl.inB, first_two, two, oneB, Bg] at *); grind)
      exact hv ▸ hp
theorem k_rcheckEisen : ConOk Tryz.prog c_rcheckEisen := fun ns hl => by
  have hl0 : ns.length = 2 := hl
  clear hl
  obtain ⟨a, ns0, rfl, hl1⟩ := len_cons hl0
  obtain ⟨b, ns1, rfl, hl2⟩ := len_cons hl1
  obtain rfl := len_nil hl2
  exact ⟨rfl, fun h w => rcheckEisen_any a b h w⟩
end Go.Proofs.YtledgemlflbfdaaGreatDoor
end
section
set_option linter.all false
set_option maxRecDepth 1000000
set_option maxHeartbeats 2000000
open Go.RowKit
namespace Go.Proofs.YtledgemlflbfdaaGreatDoor
open Mini

def rcheckThree_val (a1 a2 b1 b2 c1 c2 : Int) : Value := .int .i64 (th (Pl.parts a1 a2 1048576) (Pl.parts b1 b2 1048576) (Pl.parts c1 c2 1048576))
theorem rcheckThree_X : FOkS Tryz.prog x_rcheckThree := kAll_ok _ ⟨k_rcheckEisen, trivial⟩
theorem rcheckThree_args (a1 a2 b1 b2 c1 c2 : Int) : (#[.agg #[.int .i64 a1, .int .i64 a2, .int .i64 b1, .int .i64 b2, .int .i64 c1, .int .i64 c2]] : Array Value).toList.all (ground 8) = true := by kernel_rfl
theorem rcheckThree_g0 : ((0 : Int) = (Int.ofNat 0)) := by first | rfl | trivial | decide | omega
theorem rcheckThree_g1 : True := by first | rfl | trivial | decide | omega
theorem rcheckThree_g2 : ((1 : Int) = (Int.ofNat 1)) := by first | rfl | trivial | decide | omega
theorem rcheckThree_g3 : ((2 : Int) = (Int.ofNat 2)) := by first | rfl | trivial | decide | omega
theorem rcheckThree_g4 : ((decide ((0 : Int) < ((3 : Nat) : Int))) = Bool.true) := by first | rfl | trivial | decide | omega
def rcheckThree_c0 (a1 a2 b1 b2 c1 c2 : Int) : Bool := ((Pl.parts a1 a2 (1048576 : Int)) != (0 : Int))
theorem rcheckThree_g7 : ((decide ((IntKind.i64.wrap ((0 : Int) + (1 : Int))) < ((3 : Nat) : Int))) = Bool.true) := by first | rfl | trivial | decide | omega
theorem rcheckThree_g8 : ((IntKind.i64.wrap ((0 : Int) + (1 : Int))) = (Int.ofNat 1)) := by first | rfl | trivial | decide | omega
def rcheckThree_c1 (a1 a2 b1 b2 c1 c2 : Int) : Bool := ((Pl.parts b1 b2 (1048576 : Int)) != (0 : Int))
theorem rcheckThree_g10 : ((decide ((IntKind.i64.wrap ((IntKind.i64.wrap ((0 : Int) + (1 : Int))) + (1 : Int))) < ((3 : Nat) : Int))) = Bool.true) := by first | rfl | trivial | decide | omega
theorem rcheckThree_g11 : ((IntKind.i64.wrap ((IntKind.i64.wrap ((0 : Int) + (1 : Int))) + (1 : Int))) = (Int.ofNat 2)) := by first | rfl | trivial | decide | omega
def rcheckThree_c2 (a1 a2 b1 b2 c1 c2 : Int) : Bool := ((Pl.parts c1 c2 (1048576 : Int)) != (0 : Int))
theorem rcheckThree_g13 : ((decide ((IntKind.i64.wrap ((IntKind.i64.wrap ((IntKind.i64.wrap ((0 : Int) + (1 : Int))) + (1 : Int))) + (1 : Int))) < ((3 : Nat) : Int))) = Bool.false) := by first | rfl | trivial | decide | omega
def rcheckThree_w0 (a1 a2 b1 b2 c1 c2 : Int) : Value := .int .i64 (Pl.parts a1 a2 (1048576 : Int))
def rcheckThree_r0 (a1 a2 b1 b2 c1 c2 : Int) : Prop := ((((((((((True ∧ (((0 : Int) = (Int.ofNat 0)))) ∧ (True)) ∧ (((1 : Int) = (Int.ofNat 1)))) ∧ (True)) ∧ (((2 : Int) = (Int.ofNat 2)))) ∧ (True)) ∧ (((decide ((0 : Int) < ((3 : Nat) : Int))) = Bool.true))) ∧ (((0 : Int) = (Int.ofNat 0)))) ∧ (rcheckThree_c0 a1 a2 b1 b2 c1 c2 = true)) ∧ (((0 : Int) = (Int.ofNat 0))))
theorem rcheckThree_o0 (a1 a2 b1 b2 c1 c2 : Int) : obOf (rcheckThree_e0 a1 a2 b1 b2 c1 c2) = rcheckThree_r0 a1 a2 b1 b2 c1 c2 := by kernel_rfl
theorem rcheckThree_v0 (a1 a2 b1 b2 c1 c2 : Int) : resOf (rcheckThree_e0 a1 a2 b1 b2 c1 c2) = rcheckThree_w0 a1 a2 b1 b2 c1 c2 := by kernel_rfl
theorem rcheckThree_k0 (a1 a2 b1 b2 c1 c2 : Int) : cleanOf Tryz.prog.globals.size (rcheckThree_e0 a1 a2 b1 b2 c1 c2) = true := by kernel_rfl
theorem rcheckThree_q0 (a1 a2 b1 b2 c1 c2 : Int) : rcheckThree_e0 a1 a2 b1 b2 c1 c2 = evFS Tryz.prog x_rcheckThree 1000 34 #[.agg #[.int .i64 a1, .int .i64 a2, .int .i64 b1, .int .i64 b2, .int .i64 c1, .int .i64 c2]] (noTabs 6) ⟨[0, 1, 2, 1, 0, 1, 0], True⟩ := by
  delta rcheckThree_e0
  exact Eq.refl _
theorem rcheckThree_p0 (a1 a2 b1 b2 c1 c2 : Int) (h : rcheckThree_r0 a1 a2 b1 b2 c1 c2) (w : World) : Calls Tryz.prog 34 #[.agg #[.int .i64 a1, .int .i64 a2, .int .i64 b1, .int .i64 b2, .int .i64 c1, .int .i64 c2]] w fun en w' => en = .returned (rcheckThree_w0 a1 a2 b1 b2 c1 c2) ∧ Below w.heap.size w w' := by
  have hv := rcheckThree_v0 a1 a2 b1 b2 c1 c2
  have hc := rcheckThree_k0 a1 a2 b1 b2 c1 c2
  have he := rcheckThree_q0 a1 a2 b1 b2 c1 c2
  have ho := rcheckThree_o0 a1 a2 b1 b2 c1 c2
  generalize rcheckThree_e0 a1 a2 b1 b2 c1 c2 = r at *
  exact calls_way he gfol rcheckThree_X hv rfl (rcheckThree_args a1 a2 b1 b2 c1 c2) hc ho h (bl w)
def rcheckThree_w1 (a1 a2 b1 b2 c1 c2 : Int) : Value := .int .i64 (0 : Int)
def rcheckThree_r1 (a1 a2 b1 b2 c1 c2 : Int) : Prop := ((((((((((((((((True ∧ (((0 : Int) = (Int.ofNat 0)))) ∧ (True)) ∧ (((1 : Int) = (Int.ofNat 1)))) ∧ (True)) ∧ (((2 : Int) = (Int.ofNat 2)))) ∧ (True)) ∧ (((decide ((0 : Int) < ((3 : Nat) : Int))) = Bool.true))) ∧ (((0 : Int) = (Int.ofNat 0)))) ∧ (rcheckThree_c0 a1 a2 b1 b2 c1 c2 = false)) ∧ (((decide ((IntKind.i64.wrap ((0 : Int) + (1 : Int))) < ((3 : Nat) : Int))) = Bool.true))) ∧ (((IntKind.i64.wrap ((0 : Int) + (1 : Int))) = (Int.ofNat 1)))) ∧ (rcheckThree_c1 a1 a2 b1 b2 c1 c2 = false)) ∧ (((decide ((IntKind.i64.wrap ((IntKind.i64.wrap ((0 : Int) + (1 : Int))) + (1 : Int))) < ((3 : Nat) : Int))) = Bool.true))) ∧ (((IntKind.i64.wrap ((IntKind.i64.wrap ((0 : Int) + (1 : Int))) + (1 : Int))) = (Int.ofNat 2)))) ∧ (rcheckThree_c2 a1 a2 b1 b2 c1 c2 = false)) ∧ (((decide ((IntKind.i64.wrap ((IntKind.i64.wrap ((IntKind.i64.wrap ((0 : Int) + (1 : Int))) + (1 : Int))) + (1 : Int))) < ((3 : Nat) : Int))) = Bool.false)))
theorem rcheckThree_o1 (a1 a2 b1 b2 c1 c2 : Int) : obOf (rcheckThree_e1 a1 a2 b1 b2 c1 c2) = rcheckThree_r1 a1 a2 b1 b2 c1 c2 := by kernel_rfl
theorem rcheckThree_v1 (a1 a2 b1 b2 c1 c2 : Int) : resOf (rcheckThree_e1 a1 a2 b1 b2 c1 c2) = rcheckThree_w1 a1 a2 b1 b2 c1 c2 := by kernel_rfl
theorem rcheckThree_k1 (a1 a2 b1 b2 c1 c2 : Int) : cleanOf Tryz.prog.globals.size (rcheckThree_e1 a1 a2 b1 b2 c1 c2) = true := by kernel_rfl
theorem rcheckThree_q1 (a1 a2 b1 b2 c1 c2 : Int) : rcheckThree_e1 a1 a2 b1 b2 c1 c2 = evFS Tryz.prog x_rcheckThree 1000 34 #[.agg #[.int .i64 a1, .int .i64 a2, .int .i64 b1, .int .i64 b2, .int .i64 c1, .int .i64 c2]] (noTabs 6) ⟨[0, 1, 2, 1, 0, 0, 1, 1, 0, 1, 2, 0, 0], True⟩ := by
  delta rcheckThree_e1
  exact Eq.refl _
theorem rcheckThree_p1 (a1 a2 b1 b2 c1 c2 : Int) (h : rcheckThree_r1 a1 a2 b1 b2 c1 c2) (w : World) : Calls Tryz.prog 34 #[.agg #[.int .i64 a1, .int .i64 a2, .int .i64 b1, .int .i64 b2, .int .i64 c1, .int .i64 c2]] w fun en w' => en = .returned (rcheckThree_w1 a1 a2 b1 b2 c1 c2) ∧ Below w.heap.size w w' := by
  have hv := rcheckThree_v1 a1 a2 b1 b2 c1 c2
  have hc := rcheckThree_k1 a1 a2 b1 b2 c1 c2
  have he := rcheckThree_q1 a1 a2 b1 b2 c1 c2
  have ho := rcheckThree_o1 a1 a2 b1 b2 c1 c2
  generalize rcheckThree_e1 a1 a2 b1 b2 c1 c2 = r at *
  exact calls_way he gfol rcheckThree_X hv rfl (rcheckThree_args a1 a2 b1 b2 c1 c2) hc ho h (bl w)
def rcheckThree_w2 (a1 a2 b1 b2 c1 c2 : Int) : Value := .int .i64 (Pl.parts b1 b2 (1048576 : Int))
def rcheckThree_r2 (a1 a2 b1 b2 c1 c2 : Int) : Prop := (((((((((((((True ∧ (((0 : Int) = (Int.ofNat 0)))) ∧ (True)) ∧ (((1 : Int) = (Int.ofNat 1)))) ∧ (True)) ∧ (((2 : Int) = (Int.ofNat 2)))) ∧ (True)) ∧ (((decide ((0 : Int) < ((3 : Nat) : Int))) = Bool.true))) ∧ (((0 : Int) = (Int.ofNat 0)))) ∧ (rcheckThree_c0 a1 a2 b1 b2 c1 c2 = false)) ∧ (((decide ((IntKind.i64.wrap ((0 : Int) + (1 : Int))) < ((3 : Nat) : Int))) = Bool.true))) ∧ (((IntKind.i64.wrap ((0 : Int) + (1 : Int))) = (Int.ofNat 1)))) ∧ (rcheckThree_c1 a1 a2 b1 b2 c1 c2 = true)) ∧ (((IntKind.i64.wrap ((0 : Int) + (1 : Int))) = (Int.ofNat 1))))
theorem rcheckThree_o2 (a1 a2 b1 b2 c1 c2 : Int) : obOf (rcheckThree_e2 a1 a2 b1 b2 c1 c2) = rcheckThree_r2 a1 a2 b1 b2 c1 c2 := by kernel_rfl
theorem rcheckThree_v2 (a1 a2 b1 b2 c1 c2 : Int) : resOf (rcheckThree_e2 a1 a2 b1 b2 c1 c2) = rcheckThree_w2 a1 a2 b1 b2 c1 c2 := by kernel_rfl
theorem rcheckThree_k2 (a1 a2 b1 b2 c1 c2 : Int) : cleanOf Tryz.prog.globals.size (rcheckThree_e2 a1 a2 b1 b2 c1 c2) = true := by kernel_rfl
theorem rcheckThree_q2 (a1 a2 b1 b2 c1 c2 : Int) : rcheckThree_e2 a1 a2 b1 b2 c1 c2 = evFS Tryz.prog x_rcheckThree 1000 34 #[.agg #[.int .i64 a1, .int .i64 a2, .int .i64 b1, .int .i64 b2, .int .i64 c1, .int .i64 c2]] (noTabs 6) ⟨[0, 1, 2, 1, 0, 0, 1, 1, 1, 1], True⟩ := by
  delta rcheckThree_e2
  exact Eq.refl _
theorem rcheckThree_p2 (a1 a2 b1 b2 c1 c2 : Int) (h : rcheckThree_r2 a1 a2 b1 b2 c1 c2) (w : World) : Calls Tryz.prog 34 #[.agg #[.int .i64 a1, .int .i64 a2, .int .i64 b1, .int .i64 b2, .int .i64 c1, .int .i64 c2]] w fun en w' => en = .returned (rcheckThree_w2 a1 a2 b1 b2 c1 c2) ∧ Below w.heap.size w w' := by
  have hv := rcheckThree_v2 a1 a2 b1 b2 c1 c2
  have hc := rcheckThree_k2 a1 a2 b1 b2 c1 c2
  have he := rcheckThree_q2 a1 a2 b1 b2 c1 c2
  have ho := rcheckThree_o2 a1 a2 b1 b2 c1 c2
  generalize rcheckThree_e2 a1 a2 b1 b2 c1 c2 = r at *
  exact calls_way he gfol rcheckThree_X hv rfl (rcheckThree_args a1 a2 b1 b2 c1 c2) hc ho h (bl w)
def rcheckThree_w3 (a1 a2 b1 b2 c1 c2 : Int) : Value := .int .i64 (Pl.parts c1 c2 (1048576 : Int))
def rcheckThree_r3 (a1 a2 b1 b2 c1 c2 : Int) : Prop := ((((((((((((((((True ∧ (((0 : Int) = (Int.ofNat 0)))) ∧ (True)) ∧ (((1 : Int) = (Int.ofNat 1)))) ∧ (True)) ∧ (((2 : Int) = (Int.ofNat 2)))) ∧ (True)) ∧ (((decide ((0 : Int) < ((3 : Nat) : Int))) = Bool.true))) ∧ (((0 : Int) = (Int.ofNat 0)))) ∧ (rcheckThree_c0 a1 a2 b1 b2 c1 c2 = false)) ∧ (((decide ((IntKind.i64.wrap ((0 : Int) + (1 : Int))) < ((3 : Nat) : Int))) = Bool.true))) ∧ (((IntKind.i64.wrap ((0 : Int) + (1 : Int))) = (Int.ofNat 1)))) ∧ (rcheckThree_c1 a1 a2 b1 b2 c1 c2 = false)) ∧ (((decide ((IntKind.i64.wrap ((IntKind.i64.wrap ((0 : Int) + (1 : Int))) + (1 : Int))) < ((3 : Nat) : Int))) = Bool.true))) ∧ (((IntKind.i64.wrap ((IntKind.i64.wrap ((0 : Int) + (1 : Int))) + (1 : Int))) = (Int.ofNat 2)))) ∧ (rcheckThree_c2 a1 a2 b1 b2 c1 c2 = true)) ∧ (((IntKind.i64.wrap ((IntKind.i64.wrap ((0 : Int) + (1 : Int))) + (1 : Int))) = (Int.ofNat 2))))
theorem rcheckThree_o3 (a1 a2 b1 b2 c1 c2 : Int) : obOf (rcheckThree_e3 a1 a2 b1 b2 c1 c2) = rcheckThree_r3 a1 a2 b1 b2 c1 c2 := by kernel_rfl
theorem rcheckThree_v3 (a1 a2 b1 b2 c1 c2 : Int) : resOf (rcheckThree_e3 a1 a2 b1 b2 c1 c2) = rcheckThree_w3 a1 a2 b1 b2 c1 c2 := by kernel_rfl
theorem rcheckThree_k3 (a1 a2 b1 b2 c1 c2 : Int) : cleanOf Tryz.prog.globals.size (rcheckThree_e3 a1 a2 b1 b2 c1 c2) = true := by kernel_rfl
theorem rcheckThree_q3 (a1 a2 b1 b2 c1 c2 : Int) : rcheckThree_e3 a1 a2 b1 b2 c1 c2 = evFS Tryz.prog x_rcheckThree 1000 34 #[.agg #[.int .i64 a1, .int .i64 a2, .int .i64 b1, .int .i64 b2, .int .i64 c1, .int .i64 c2]] (noTabs 6) ⟨[0, 1, 2, 1, 0, 0, 1, 1, 0, 1, 2, 1, 2], True⟩ := by
  delta rcheckThree_e3
  exact Eq.refl _
theorem rcheckThree_p3 (a1 a2 b1 b2 c1 c2 : Int) (h : rcheckThree_r3 a1 a2 b1 b2 c1 c2) (w : World) : Calls Tryz.prog 34 #[.agg #[.int .i64 a1, .int .i64 a2, .int .i64 b1, .int .i64 b2, .int .i64 c1, .int .i64 c2]] w fun en w' => en = .returned (rcheckThree_w3 a1 a2 b1 b2 c1 c2) ∧ Below w.heap.size w w' := by
  have hv := rcheckThree_v3 a1 a2 b1 b2 c1 c2
  have hc := rcheckThree_k3 a1 a2 b1 b2 c1 c2
  have he := rcheckThree_q3 a1 a2 b1 b2 c1 c2
  have ho := rcheckThree_o3 a1 a2 b1 b2 c1 c2
  generalize rcheckThree_e3 a1 a2 b1 b2 c1 c2 = r at *
  exact calls_way he gfol rcheckThree_X hv rfl (rcheckThree_args a1 a2 b1 b2 c1 c2) hc ho h (bl w)
theorem rcheckThree_any (a1 a2 b1 b2 c1 c2 : Int) (hpre : True) (w : World) : Calls Tryz.prog 34 #[.agg #[.int .i64 a1, .int .i64 a2, .int .i64 b1, .int .i64 b2, .int .i64 c1, .int .i64 c2]] w fun en w' => en = .returned (rcheckThree_val a1 a2 b1 b2 c1 c2) ∧ Below w.heap.size w w' := by
  rcases Bool.eq_false_or_eq_true (rcheckThree_c0 a1 a2 b1 b2 c1 c2) with h0 | h0
  ·
    unfold rcheckThree_c0 at h0
    have hp := rcheckThree_p0 a1 a2 b1 b2 c1 c2 ⟨⟨⟨⟨⟨⟨⟨⟨⟨⟨trivial, rcheckThree_g0⟩, rcheckThree_g1⟩, rcheckThree_g2⟩, rcheckThree_g1⟩, rcheckThree_g3⟩, rcheckThree_g1⟩, rcheckThree_g4⟩, rcheckThree_g0⟩, h0⟩, rcheckThree_g0⟩ w
    have hv : rcheckThree_w0 a1 a2 b1 b2 c1 c2 = rcheckThree_val a1 a2 b1 b2 c1 c2 := by
      clear hp
      unfold rcheckThree_w0 rcheckThree_val
      first | rfl | ((try simp only [bne_eq_false_iff_eq, bne_iff_ne, ne_eq, beq_iff_eq, beq_eq_false_iff_ne] at *); (try simp only [th, cz, *, ↓reduceIte]); done)
    exact hv ▸ hp
  ·
    unfold rcheckThree_c0 at h0
    rcases Bool.eq_false_or_eq_true (rcheckThree_c1 a1 a2 b1 b2 c1 c2) with h1 | h1
    ·
      unfold rcheckThree_c1 at h1
      have hp := rcheckThree_p2 a1 a2 b1 b2 c1 c2 ⟨⟨⟨⟨⟨⟨⟨⟨⟨⟨⟨⟨⟨trivial, rcheckThree_g0⟩, rcheckThree_g1⟩, rcheckThree_g2⟩, rcheckThree_g1⟩, rcheckThree_g3⟩, rcheckThree_g1⟩, rcheckThree_g4⟩, rcheckThree_g0⟩, h0⟩, rcheckThree_g7⟩, rcheckThree_g8⟩, h1⟩, rcheckThree_g8⟩ w
      have hv : rcheckThree_w2 a1 a2 b1 b2 c1 c2 = rcheckThree_val a1 a2 b1 b2 c1 c2 := by
        clear hp
        unfold rcheckThree_w2 rcheckThree_val
        first | rfl | ((try simp only [bne_eq_false_iff_eq, bne_iff_ne, ne_eq, beq_iff_eq, beq_eq_false_iff_ne] at *); (try simp only [th, cz, *, ↓reduceIte]); done)
      exact hv ▸ hp
    ·
      unfold rcheckThree_c1 at h1
      rcases Bool.eq_false_or_eq_true (rcheckThree_c2 a1 a2 b1 b2 c1 c2) with h2 | h2
      ·
        unfold rcheckThree_c2 at h2
        have hp := rcheckThree_p3 a1 a2 b1 b2 c1 c2 ⟨⟨⟨⟨⟨⟨⟨⟨⟨⟨⟨⟨⟨⟨⟨⟨trivial, rcheckThree_g0⟩, rcheckThree_g1⟩, rcheckThree_g2⟩, rcheckThree_g1⟩, rcheckThree_g3⟩, rcheckThree_g1⟩, rcheckThree_g4⟩, rcheckThree_g0⟩, h0⟩, rcheckThree_g7⟩, rcheckThree_g8⟩, h1⟩, rcheckThree_g10⟩, rcheckThree_g11⟩, h2⟩, rcheckThree_g11⟩ w
        have hv : rcheckThree_w3 a1 a2 b1 b2 c1 c2 = rcheckThree_val a1 a2 b1 b2 c1 c2 := by
          clear hp
          unfold rcheckThree_w3 rcheckThree_val
          first | rfl | ((try simp only [bne_eq_false_iff_eq, bne_iff_ne, ne_eq, beq_iff_eq, beq_eq_false_iff_ne] at *); (try simp only [th, cz, *, ↓reduceIte]); done)
        exact hv ▸ hp
      ·
        unfold rcheckThree_c2 at h2
        have hp := rcheckThree_p1 a1 a2 b1 b2 c1 c2 ⟨⟨⟨⟨⟨⟨⟨⟨⟨⟨⟨⟨⟨⟨⟨⟨trivial, rcheckThree_g0⟩, rcheckThree_g1⟩, rcheckThree_g2⟩, rcheckThree_g1⟩, rcheckThree_g3⟩, rcheckThree_g1⟩, rcheckThree_g4⟩, rcheckThree_g0⟩, h0⟩, rcheckThree_g7⟩, rcheckThree_g8⟩, h1⟩, rcheckThree_g10⟩, rcheckThree_g11⟩, h2⟩, rcheckThree_g13⟩ w
        have hv : rcheckThree_w1 a1 a2 b1 b2 c1 c2 = rcheckThree_val a1 a2 b1 b2 c1 c2 := by
          clear hp
          unfold rcheckThree_w1 rcheckThree_val
          first | rfl | ((try simp only [bne_eq_false_iff_eq, bne_iff_ne, ne_eq, beq_iff_eq, beq_eq_false_iff_ne] at *); (try simp only [th, cz, *, ↓reduceIte]); done)
        exact hv ▸ hp
theorem k_rcheckThree : ConOk Tryz.prog c_rcheckThree := fun ns hl => by
  have hl0 : ns.length = 6 := hl
  clear hl
  obtain ⟨a1, ns0, rfl, hl1⟩ := len_cons hl0
  obtain ⟨a2, ns1, rfl, hl2⟩ := len_cons hl1
  obtain ⟨b1, ns2, rfl, hl3⟩ := len_cons hl2
  obtain ⟨b2, ns3, rfl, hl4⟩ := len_cons hl3
  obtain ⟨c1, ns4, rfl, hl5⟩ := len_cons hl4
  obtain ⟨c2, ns5, rfl, hl6⟩ := len_cons hl5
  obtain rfl := len_nil hl6
  exact ⟨rfl, fun h w => rcheckThree_any a1 a2 b1 b2 c1 c2 h w⟩
end Go.Proofs.YtledgemlflbfdaaGreatDoor
end
section
set_option linter.all false
set_option maxRecDepth 1000000
set_option maxHeartbeats 2000000
open Go.RowKit
namespace Go.Proofs.YtledgemlflbfdaaGreatDoor
open Mini

def rprod_val (a b c d : Int) : Value := .agg #[.int .i64 (Pl.mul (a, b) (c, d)).1, .int .i64 (Pl.mul (a, b) (c, d)).2]
theorem rprod_X : FOkS Tryz.prog x_rprod := noXS_ok
theorem rprod_args (a b c d : Int) : (#[.agg #[.int .i64 a, .int .i64 b], .agg #[.int .i64 c, .int .i64 d]] : Array Value).toList.all (ground 8) = true := by kernel_rfl
def rprod_w0 (a b c d : Int) : Value := .agg #[.int .i64 (IntKind.i64.wrap ((IntKind.i64.wrap (a * c)) - (IntKind.i64.wrap (b * d)))), .int .i64 (IntKind.i64.wrap ((IntKind.i64.wrap ((IntKind.i64.wrap (a * d)) + (IntKind.i64.wrap (b * c)))) - (IntKind.i64.wrap (b * d))))]
def rprod_r0 (a b c d : Int) : Prop := True
theorem rprod_o0 (a b c d : Int) : obOf (rprod_e0 a b c d) = rprod_r0 a b c d := by kernel_rfl
theorem rprod_v0 (a b c d : Int) : resOf (rprod_e0 a b c d) = rprod_w0 a b c d := by kernel_rfl
theorem rprod_k0 (a b c d : Int) : cleanOf Tryz.prog.globals.size (rprod_e0 a b c d) = true := by kernel_rfl
theorem rprod_q0 (a b c d : Int) : rprod_e0 a b c d = evFS Tryz.prog x_rprod 1000 18 #[.agg #[.int .i64 a, .int .i64 b], .agg #[.int .i64 c, .int .i64 d]] (noTabs 6) ⟨[], True⟩ := by
  delta rprod_e0
  exact Eq.refl _
theorem rprod_p0 (a b c d : Int) (h : rprod_r0 a b c d) (w : World) : Calls Tryz.prog 18 #[.agg #[.int .i64 a, .int .i64 b], .agg #[.int .i64 c, .int .i64 d]] w fun en w' => en = .returned (rprod_w0 a b c d) ∧ Below w.heap.size w w' := by
  have hv := rprod_v0 a b c d
  have hc := rprod_k0 a b c d
  have he := rprod_q0 a b c d
  have ho := rprod_o0 a b c d
  generalize rprod_e0 a b c d = r at *
  exact calls_way he gfol rprod_X hv rfl (rprod_args a b c d) hc ho h (bl w)
theorem rprod_any (a b c d : Int) (hpre : Bg 268435456 a b ∧ Bg 268435456 c d) (w : World) : Calls Tryz.prog 18 #[.agg #[.int .i64 a, .int .i64 b], .agg #[.int .i64 c, .int .i64 d]] w fun en w' => en = .returned (rprod_val a b c d) ∧ Below w.heap.size w w' := by
  obtain ⟨⟨p1, p2, p3, p4⟩, q1, q2, q3, q4⟩ := hpre
  have b1 := bd 268435456 268435456 a c (by omega) (by omega) ⟨p1, p2⟩ ⟨q1, q2⟩
  have b2 := bd 268435456 268435456 b d (by omega) (by omega) ⟨p3, p4⟩ ⟨q3, q4⟩
  have b3 := bd 268435456 268435456 a d (by omega) (by omega) ⟨p1, p2⟩ ⟨q3, q4⟩
  have b4 := bd 268435456 268435456 b c (by omega) (by omega) ⟨p3, p4⟩ ⟨q1, q2⟩
  have hp := rprod_p0 a b c d trivial w
  have hv : rprod_w0 a b c d = rprod_val a b c d := by
    clear hp
    unfold rprod_w0 rprod_val
    (try simp (disch := omega) only [wi]); rfl
  exact hv ▸ hp
theorem k_rprod : ConOk Tryz.prog c_rprod := fun ns hl => by
  have hl0 : ns.length = 4 := hl
  clear hl
  obtain ⟨a, ns0, rfl, hl1⟩ := len_cons hl0
  obtain ⟨b, ns1, rfl, hl2⟩ := len_cons hl1
  obtain ⟨c, ns2, rfl, hl3⟩ := len_cons hl2
  obtain ⟨d, ns3, rfl, hl4⟩ := len_cons hl3
  obtain rfl := len_nil hl4
  exact ⟨rfl, fun h w => rprod_any a b c d h w⟩
end Go.Proofs.YtledgemlflbfdaaGreatDoor
end
section
set_option linter.all false
set_option maxRecDepth 1000000
set_option maxHeartbeats 2000000
open Go.RowKit
namespace Go.Proofs.YtledgemlflbfdaaGreatDoor
open Mini

def rsum_val (a b c d : Int) : Value := .agg #[.int .i64 (Pl.add (a, b) (c, d)).1, .int .i64 (Pl.add (a, b) (c, d)).2]
theorem rsum_X : FOkS Tryz.prog x_rsum := noXS_ok
theorem rsum_args (a b c d : Int) : (#[.agg #[.int .i64 a, .int .i64 b], .agg #[.int .i64 c, .int .i64 d]] : Array Value).toList.all (ground 8) = true := by kernel_rfl
def rsum_w0 (a b c d : Int) : Value := .agg #[.int .i64 (IntKind.i64.wrap (a + c)), .int .i64 (IntKind.i64.wrap (b + d))]
def rsum_r0 (a b c d : Int) : Prop := True
theorem rsum_o0 (a b c d : Int) : obOf (rsum_e0 a b c d) = rsum_r0 a b c d := by kernel_rfl
theorem rsum_v0 (a b c d : Int) : resOf (rsum_e0 a b c d) = rsum_w0 a b c d := by kernel_rfl
theorem rsum_k0 (a b c d : Int) : cleanOf Tryz.prog.globals.size (rsum_e0 a b c d) = true := by kernel_rfl
theorem rsum_q0 (a b c d : Int) : rsum_e0 a b c d = evFS Tryz.prog x_rsum 1000 17 #[.agg #[.int .i64 a, .int .i64 b], .agg #[.int .i64 c, .int .i64 d]] (noTabs 6) ⟨[], True⟩ := by
  delta rsum_e0
  exact Eq.refl _
theorem rsum_p0 (a b c d : Int) (h : rsum_r0 a b c d) (w : World) : Calls Tryz.prog 17 #[.agg #[.int .i64 a, .int .i64 b], .agg #[.int .i64 c, .int .i64 d]] w fun en w' => en = .returned (rsum_w0 a b c d) ∧ Below w.heap.size w w' := by
  have hv := rsum_v0 a b c d
  have hc := rsum_k0 a b c d
  have he := rsum_q0 a b c d
  have ho := rsum_o0 a b c d
  generalize rsum_e0 a b c d = r at *
  exact calls_way he gfol rsum_X hv rfl (rsum_args a b c d) hc ho h (bl w)
theorem rsum_any (a b c d : Int) (hpre : Bg 1099511627776 a b ∧ Bg 1099511627776 c d) (w : World) : Calls Tryz.prog 17 #[.agg #[.int .i64 a, .int .i64 b], .agg #[.int .i64 c, .int .i64 d]] w fun en w' => en = .returned (rsum_val a b c d) ∧ Below w.heap.size w w' := by
  have hp := rsum_p0 a b c d trivial w
  have hv : rsum_w0 a b c d = rsum_val a b c d := by
    clear hp
    unfold rsum_w0 rsum_val
    unfold Bg at hpre; (try simp (disch := omega) only [wi]); rfl
  exact hv ▸ hp
theorem k_rsum : ConOk Tryz.prog c_rsum := fun ns hl => by
  have hl0 : ns.length = 4 := hl
  clear hl
  obtain ⟨a, ns0, rfl, hl1⟩ := len_cons hl0
  obtain ⟨b, ns1, rfl, hl2⟩ := len_cons hl1
  obtain ⟨c, ns2, rfl, hl3⟩ := len_cons hl2
  obtain ⟨d, ns3, rfl, hl4⟩ := len_cons hl3
  obtain rfl := len_nil hl4
  exact ⟨rfl, fun h w => rsum_any a b c d h w⟩
end Go.Proofs.YtledgemlflbfdaaGreatDoor
end
section
set_option linter.all false
set_option maxRecDepth 1000000
set_option maxHeartbeats 2000000
open Go.RowKit
namespace Go.Proofs.YtledgemlflbfdaaGreatDoor
open Mini

def rmixed1_val (a1 a2 b1 b2 c1 c2 : Int) : Value := .agg #[.int .i64 (a1 + b1 + c1), .int .i64 (a2 + b2 + c2), .int .i64 (a1 - b2 + (c2 - c1)), .int .i64 (a2 + (b1 - b2) - c1), .int .i64 (a1 + (b2 - b1) - c2), .int .i64 (a2 - b1 + (c1 - c2))]
theorem rmixed1_X : FOkS Tryz.prog x_rmixed1 := kAll_ok _ ⟨k_rprod, k_rsum, trivial⟩
theorem rmixed1_args (a1 a2 b1 b2 c1 c2 : Int) : (#[.agg #[.int .i64 a1, .int .i64 a2, .int .i64 b1, .int .i64 b2, .int .i64 c1, .int .i64 c2]] : Array Value).toList.all (ground 8) = true := by kernel_rfl
theorem rmixed1_g0 : ((Bg (268435456 : Int) (0 : Int) (1 : Int)) ∧ (Bg (268435456 : Int) (0 : Int) (1 : Int))) := by first | rfl | trivial | decide | omega
theorem rmixed1_g1 : ((0 : Int) = (Int.ofNat 0)) := by first | rfl | trivial | decide | omega
theorem rmixed1_g2 : ((1 : Int) = (Int.ofNat 1)) := by first | rfl | trivial | decide | omega
theorem rmixed1_g3 : ((2 : Int) = (Int.ofNat 2)) := by first | rfl | trivial | decide | omega
def rmixed1_b4 (a1 a2 b1 b2 c1 c2 : Int) : Prop := ((Bg (268435456 : Int) (1 : Int) (0 : Int)) ∧ (Bg (268435456 : Int) b1 b2))
def rmixed1_b5 (a1 a2 b1 b2 c1 c2 : Int) : Prop := ((Bg (268435456 : Int) (1 : Int) (0 : Int)) ∧ (Bg (268435456 : Int) c1 c2))
def rmixed1_b6 (a1 a2 b1 b2 c1 c2 : Int) : Prop := ((Bg (1099511627776 : Int) ((Pl.mul ((1 : Int), (0 : Int)) (b1, b2))).1 ((Pl.mul ((1 : Int), (0 : Int)) (b1, b2))).2) ∧ (Bg (1099511627776 : Int) ((Pl.mul ((1 : Int), (0 : Int)) (c1, c2))).1 ((Pl.mul ((1 : Int), (0 : Int)) (c1, c2))).2))
def rmixed1_b7 (a1 a2 b1 b2 c1 c2 : Int) : Prop := ((Bg (1099511627776 : Int) a1 a2) ∧ (Bg (1099511627776 : Int) ((Pl.add (((Pl.mul ((1 : Int), (0 : Int)) (b1, b2))).1, ((Pl.mul ((1 : Int), (0 : Int)) (b1, b2))).2) (((Pl.mul ((1 : Int), (0 : Int)) (c1, c2))).1, ((Pl.mul ((1 : Int), (0 : Int)) (c1, c2))).2))).1 ((Pl.add (((Pl.mul ((1 : Int), (0 : Int)) (b1, b2))).1, ((Pl.mul ((1 : Int), (0 : Int)) (b1, b2))).2) (((Pl.mul ((1 : Int), (0 : Int)) (c1, c2))).1, ((Pl.mul ((1 : Int), (0 : Int)) (c1, c2))).2))).2))
def rmixed1_b8 (a1 a2 b1 b2 c1 c2 : Int) : Prop := ((Bg (268435456 : Int) (0 : Int) (1 : Int)) ∧ (Bg (268435456 : Int) b1 b2))
def rmixed1_b9 (a1 a2 b1 b2 c1 c2 : Int) : Prop := ((Bg (268435456 : Int) ((Pl.mul ((0 : Int), (1 : Int)) ((0 : Int), (1 : Int)))).1 ((Pl.mul ((0 : Int), (1 : Int)) ((0 : Int), (1 : Int)))).2) ∧ (Bg (268435456 : Int) c1 c2))
def rmixed1_b10 (a1 a2 b1 b2 c1 c2 : Int) : Prop := ((Bg (1099511627776 : Int) ((Pl.mul ((0 : Int), (1 : Int)) (b1, b2))).1 ((Pl.mul ((0 : Int), (1 : Int)) (b1, b2))).2) ∧ (Bg (1099511627776 : Int) ((Pl.mul (((Pl.mul ((0 : Int), (1 : Int)) ((0 : Int), (1 : Int)))).1, ((Pl.mul ((0 : Int), (1 : Int)) ((0 : Int), (1 : Int)))).2) (c1, c2))).1 ((Pl.mul (((Pl.mul ((0 : Int), (1 : Int)) ((0 : Int), (1 : Int)))).1, ((Pl.mul ((0 : Int), (1 : Int)) ((0 : Int), (1 : Int)))).2) (c1, c2))).2))
def rmixed1_b11 (a1 a2 b1 b2 c1 c2 : Int) : Prop := ((Bg (1099511627776 : Int) a1 a2) ∧ (Bg (1099511627776 : Int) ((Pl.add (((Pl.mul ((0 : Int), (1 : Int)) (b1, b2))).1, ((Pl.mul ((0 : Int), (1 : Int)) (b1, b2))).2) (((Pl.mul (((Pl.mul ((0 : Int), (1 : Int)) ((0 : Int), (1 : Int)))).1, ((Pl.mul ((0 : Int), (1 : Int)) ((0 : Int), (1 : Int)))).2) (c1, c2))).1, ((Pl.mul (((Pl.mul ((0 : Int), (1 : Int)) ((0 : Int), (1 : Int)))).1, ((Pl.mul ((0 : Int), (1 : Int)) ((0 : Int), (1 : Int)))).2) (c1, c2))).2))).1 ((Pl.add (((Pl.mul ((0 : Int), (1 : Int)) (b1, b2))).1, ((Pl.mul ((0 : Int), (1 : Int)) (b1, b2))).2) (((Pl.mul (((Pl.mul ((0 : Int), (1 : Int)) ((0 : Int), (1 : Int)))).1, ((Pl.mul ((0 : Int), (1 : Int)) ((0 : Int), (1 : Int)))).2) (c1, c2))).1, ((Pl.mul (((Pl.mul ((0 : Int), (1 : Int)) ((0 : Int), (1 : Int)))).1, ((Pl.mul ((0 : Int), (1 : Int)) ((0 : Int), (1 : Int)))).2) (c1, c2))).2))).2))
def rmixed1_b12 (a1 a2 b1 b2 c1 c2 : Int) : Prop := ((Bg (268435456 : Int) ((Pl.mul ((0 : Int), (1 : Int)) ((0 : Int), (1 : Int)))).1 ((Pl.mul ((0 : Int), (1 : Int)) ((0 : Int), (1 : Int)))).2) ∧ (Bg (268435456 : Int) b1 b2))
def rmixed1_b13 (a1 a2 b1 b2 c1 c2 : Int) : Prop := ((Bg (268435456 : Int) (0 : Int) (1 : Int)) ∧ (Bg (268435456 : Int) c1 c2))
def rmixed1_b14 (a1 a2 b1 b2 c1 c2 : Int) : Prop := ((Bg (1099511627776 : Int) ((Pl.mul (((Pl.mul ((0 : Int), (1 : Int)) ((0 : Int), (1 : Int)))).1, ((Pl.mul ((0 : Int), (1 : Int)) ((0 : Int), (1 : Int)))).2) (b1, b2))).1 ((Pl.mul (((Pl.mul ((0 : Int), (1 : Int)) ((0 : Int), (1 : Int)))).1, ((Pl.mul ((0 : Int), (1 : Int)) ((0 : Int), (1 : Int)))).2) (b1, b2))).2) ∧ (Bg (1099511627776 : Int) ((Pl.mul ((0 : Int), (1 : Int)) (c1, c2))).1 ((Pl.mul ((0 : Int), (1 : Int)) (c1, c2))).2))
def rmixed1_b15 (a1 a2 b1 b2 c1 c2 : Int) : Prop := ((Bg (1099511627776 : Int) a1 a2) ∧ (Bg (1099511627776 : Int) ((Pl.add (((Pl.mul (((Pl.mul ((0 : Int), (1 : Int)) ((0 : Int), (1 : Int)))).1, ((Pl.mul ((0 : Int), (1 : Int)) ((0 : Int), (1 : Int)))).2) (b1, b2))).1, ((Pl.mul (((Pl.mul ((0 : Int), (1 : Int)) ((0 : Int), (1 : Int)))).1, ((Pl.mul ((0 : Int), (1 : Int)) ((0 : Int), (1 : Int)))).2) (b1, b2))).2) (((Pl.mul ((0 : Int), (1 : Int)) (c1, c2))).1, ((Pl.mul ((0 : Int), (1 : Int)) (c1, c2))).2))).1 ((Pl.add (((Pl.mul (((Pl.mul ((0 : Int), (1 : Int)) ((0 : Int), (1 : Int)))).1, ((Pl.mul ((0 : Int), (1 : Int)) ((0 : Int), (1 : Int)))).2) (b1, b2))).1, ((Pl.mul (((Pl.mul ((0 : Int), (1 : Int)) ((0 : Int), (1 : Int)))).1, ((Pl.mul ((0 : Int), (1 : Int)) ((0 : Int), (1 : Int)))).2) (b1, b2))).2) (((Pl.mul ((0 : Int), (1 : Int)) (c1, c2))).1, ((Pl.mul ((0 : Int), (1 : Int)) (c1, c2))).2))).2))
def rmixed1_w0 (a1 a2 b1 b2 c1 c2 : Int) : Value := .agg #[.int .i64 ((Pl.add (a1, a2) (((Pl.add (((Pl.mul ((1 : Int), (0 : Int)) (b1, b2))).1, ((Pl.mul ((1 : Int), (0 : Int)) (b1, b2))).2) (((Pl.mul ((1 : Int), (0 : Int)) (c1, c2))).1, ((Pl.mul ((1 : Int), (0 : Int)) (c1, c2))).2))).1, ((Pl.add (((Pl.mul ((1 : Int), (0 : Int)) (b1, b2))).1, ((Pl.mul ((1 : Int), (0 : Int)) (b1, b2))).2) (((Pl.mul ((1 : Int), (0 : Int)) (c1, c2))).1, ((Pl.mul ((1 : Int), (0 : Int)) (c1, c2))).2))).2))).1, .int .i64 ((Pl.add (a1, a2) (((Pl.add (((Pl.mul ((1 : Int), (0 : Int)) (b1, b2))).1, ((Pl.mul ((1 : Int), (0 : Int)) (b1, b2))).2) (((Pl.mul ((1 : Int), (0 : Int)) (c1, c2))).1, ((Pl.mul ((1 : Int), (0 : Int)) (c1, c2))).2))).1, ((Pl.add (((Pl.mul ((1 : Int), (0 : Int)) (b1, b2))).1, ((Pl.mul ((1 : Int), (0 : Int)) (b1, b2))).2) (((Pl.mul ((1 : Int), (0 : Int)) (c1, c2))).1, ((Pl.mul ((1 : Int), (0 : Int)) (c1, c2))).2))).2))).2, .int .i64 ((Pl.add (a1, a2) (((Pl.add (((Pl.mul ((0 : Int), (1 : Int)) (b1, b2))).1, ((Pl.mul ((0 : Int), (1 : Int)) (b1, b2))).2) (((Pl.mul (((Pl.mul ((0 : Int), (1 : Int)) ((0 : Int), (1 : Int)))).1, ((Pl.mul ((0 : Int), (1 : Int)) ((0 : Int), (1 : Int)))).2) (c1, c2))).1, ((Pl.mul (((Pl.mul ((0 : Int), (1 : Int)) ((0 : Int), (1 : Int)))).1, ((Pl.mul ((0 : Int), (1 : Int)) ((0 : Int), (1 : Int)))).2) (c1, c2))).2))).1, ((Pl.add (((Pl.mul ((0 : Int), (1 : Int)) (b1, b2))).1, ((Pl.mul ((0 : Int), (1 : Int)) (b1, b2))).2) (((Pl.mul (((Pl.mul ((0 : Int), (1 : Int)) ((0 : Int), (1 : Int)))).1, ((Pl.mul ((0 : Int), (1 : Int)) ((0 : Int), (1 : Int)))).2) (c1, c2))).1, ((Pl.mul (((Pl.mul ((0 : Int), (1 : Int)) ((0 : Int), (1 : Int)))).1, ((Pl.mul ((0 : Int), (1 : Int)) ((0 : Int), (1 : Int)))).2) (c1, c2))).2))).2))).1, .int .i64 ((Pl.add (a1, a2) (((Pl.add (((Pl.mul ((0 : Int), (1 : Int)) (b1, b2))).1, ((Pl.mul ((0 : Int), (1 : Int)) (b1, b2))).2) (((Pl.mul (((Pl.mul ((0 : Int), (1 : Int)) ((0 : Int), (1 : Int)))).1, ((Pl.mul ((0 : Int), (1 : Int)) ((0 : Int), (1 : Int)))).2) (c1, c2))).1, ((Pl.mul (((Pl.mul ((0 : Int), (1 : Int)) ((0 : Int), (1 : Int)))).1, ((Pl.mul ((0 : Int), (1 : Int)) ((0 : Int), (1 : Int)))).2) (c1, c2))).2))).1, ((Pl.add (((Pl.mul ((0 : Int), (1 : Int)) (b1, b2))).1, ((Pl.mul ((0 : Int), (1 : Int)) (b1, b2))).2) (((Pl.mul (((Pl.mul ((0 : Int), (1 : Int)) ((0 : Int), (1 : Int)))).1, ((Pl.mul ((0 : Int), (1 : Int)) ((0 : Int), (1 : Int)))).2) (c1, c2))).1, ((Pl.mul (((Pl.mul ((0 : Int), (1 : Int)) ((0 : Int), (1 : Int)))).1, ((Pl.mul ((0 : Int), (1 : Int)) ((0 : Int), (1 : Int)))).2) (c1, c2))).2))).2))).2, .int .i64 ((Pl.add (a1, a2) (((Pl.add (((Pl.mul (((Pl.mul ((0 : Int), (1 : Int)) ((0 : Int), (1 : Int)))).1, ((Pl.mul ((0 : Int), (1 : Int)) ((0 : Int), (1 : Int)))).2) (b1, b2))).1, ((Pl.mul (((Pl.mul ((0 : Int), (1 : Int)) ((0 : Int), (1 : Int)))).1, ((Pl.mul ((0 : Int), (1 : Int)) ((0 : Int), (1 : Int)))).2) (b1, b2))).2) (((Pl.mul ((0 : Int), (1 : Int)) (c1, c2))).1, ((Pl.mul ((0 : Int), (1 : Int)) (c1, c2))).2))).1, ((Pl.add (((Pl.mul (((Pl.mul ((0 : Int), (1 : Int)) ((0 : Int), (1 : Int)))).1, ((Pl.mul ((0 : Int), (1 : Int)) ((0 : Int), (1 : Int)))).2) (b1, b2))).1, ((Pl.mul (((Pl.mul ((0 : Int), (1 : Int)) ((0 : Int), (1 : Int)))).1, ((Pl.mul ((0 : Int), (1 : Int)) ((0 : Int), (1 : Int)))).2) (b1, b2))).2) (((Pl.mul ((0 : Int), (1 : Int)) (c1, c2))).1, ((Pl.mul ((0 : Int), (1 : Int)) (c1, c2))).2))).2))).1, .int .i64 ((Pl.add (a1, a2) (((Pl.add (((Pl.mul (((Pl.mul ((0 : Int), (1 : Int)) ((0 : Int), (1 : Int)))).1, ((Pl.mul ((0 : Int), (1 : Int)) ((0 : Int), (1 : Int)))).2) (b1, b2))).1, ((Pl.mul (((Pl.mul ((0 : Int), (1 : Int)) ((0 : Int), (1 : Int)))).1, ((Pl.mul ((0 : Int), (1 : Int)) ((0 : Int), (1 : Int)))).2) (b1, b2))).2) (((Pl.mul ((0 : Int), (1 : Int)) (c1, c2))).1, ((Pl.mul ((0 : Int), (1 : Int)) (c1, c2))).2))).1, ((Pl.add (((Pl.mul (((Pl.mul ((0 : Int), (1 : Int)) ((0 : Int), (1 : Int)))).1, ((Pl.mul ((0 : Int), (1 : Int)) ((0 : Int), (1 : Int)))).2) (b1, b2))).1, ((Pl.mul (((Pl.mul ((0 : Int), (1 : Int)) ((0 : Int), (1 : Int)))).1, ((Pl.mul ((0 : Int), (1 : Int)) ((0 : Int), (1 : Int)))).2) (b1, b2))).2) (((Pl.mul ((0 : Int), (1 : Int)) (c1, c2))).1, ((Pl.mul ((0 : Int), (1 : Int)) (c1, c2))).2))).2))).2]
def rmixed1_r0 (a1 a2 b1 b2 c1 c2 : Int) : Prop := ((((((((((((((((((((((True ∧ (((Bg (268435456 : Int) (0 : Int) (1 : Int)) ∧ (Bg (268435456 : Int) (0 : Int) (1 : Int))))) ∧ (((0 : Int) = (Int.ofNat 0)))) ∧ (((1 : Int) = (Int.ofNat 1)))) ∧ (((2 : Int) = (Int.ofNat 2)))) ∧ (rmixed1_b4 a1 a2 b1 b2 c1 c2)) ∧ (rmixed1_b5 a1 a2 b1 b2 c1 c2)) ∧ (rmixed1_b6 a1 a2 b1 b2 c1 c2)) ∧ (rmixed1_b7 a1 a2 b1 b2 c1 c2)) ∧ (((0 : Int) = (Int.ofNat 0)))) ∧ (((1 : Int) = (Int.ofNat 1)))) ∧ (((2 : Int) = (Int.ofNat 2)))) ∧ (rmixed1_b8 a1 a2 b1 b2 c1 c2)) ∧ (rmixed1_b9 a1 a2 b1 b2 c1 c2)) ∧ (rmixed1_b10 a1 a2 b1 b2 c1 c2)) ∧ (rmixed1_b11 a1 a2 b1 b2 c1 c2)) ∧ (((0 : Int) = (Int.ofNat 0)))) ∧ (((1 : Int) = (Int.ofNat 1)))) ∧ (((2 : Int) = (Int.ofNat 2)))) ∧ (rmixed1_b12 a1 a2 b1 b2 c1 c2)) ∧ (rmixed1_b13 a1 a2 b1 b2 c1 c2)) ∧ (rmixed1_b14 a1 a2 b1 b2 c1 c2)) ∧ (rmixed1_b15 a1 a2 b1 b2 c1 c2))
theorem rmixed1_o0 (a1 a2 b1 b2 c1 c2 : Int) : obOf (rmixed1_e0 a1 a2 b1 b2 c1 c2) = rmixed1_r0 a1 a2 b1 b2 c1 c2 := by kernel_rfl
theorem rmixed1_v0 (a1 a2 b1 b2 c1 c2 : Int) : resOf (rmixed1_e0 a1 a2 b1 b2 c1 c2) = rmixed1_w0 a1 a2 b1 b2 c1 c2 := by kernel_rfl
theorem rmixed1_k0 (a1 a2 b1 b2 c1 c2 : Int) : cleanOf Tryz.prog.globals.size (rmixed1_e0 a1 a2 b1 b2 c1 c2) = true := by kernel_rfl
theorem rmixed1_q0 (a1 a2 b1 b2 c1 c2 : Int) : rmixed1_e0 a1 a2 b1 b2 c1 c2 = evFS Tryz.prog x_rmixed1 1000 35 #[.agg #[.int .i64 a1, .int .i64 a2, .int .i64 b1, .int .i64 b2, .int .i64 c1, .int .i64 c2]] (noTabs 6) ⟨[0, 1, 2, 0, 1, 2, 0, 1, 2], True⟩ := by
  delta rmixed1_e0
  exact Eq.refl _
theorem rmixed1_p0 (a1 a2 b1 b2 c1 c2 : Int) (h : rmixed1_r0 a1 a2 b1 b2 c1 c2) (w : World) : Calls Tryz.prog 35 #[.agg #[.int .i64 a1, .int .i64 a2, .int .i64 b1, .int .i64 b2, .int .i64 c1, .int .i64 c2]] w fun en w' => en = .returned (rmixed1_w0 a1 a2 b1 b2 c1 c2) ∧ Below w.heap.size w w' := by
  have hv := rmixed1_v0 a1 a2 b1 b2 c1 c2
  have hc := rmixed1_k0 a1 a2 b1 b2 c1 c2
  have he := rmixed1_q0 a1 a2 b1 b2 c1 c2
  have ho := rmixed1_o0 a1 a2 b1 b2 c1 c2
  generalize rmixed1_e0 a1 a2 b1 b2 c1 c2 = r at *
  exact calls_way he gfol rmixed1_X hv rfl (rmixed1_args a1 a2 b1 b2 c1 c2) hc ho h (bl w)
theorem rmixed1_any (a1 a2 b1 b2 c1 c2 : Int) (hpre : Bg 1048576 a1 a2 ∧ Bg 1048576 b1 b2 ∧ Bg 1048576 c1 c2) (w : World) : Calls Tryz.prog 35 #[.agg #[.int .i64 a1, .int .i64 a2, .int .i64 b1, .int .i64 b2, .int .i64 c1, .int .i64 c2]] w fun en w' => en = .returned (rmixed1_val a1 a2 b1 b2 c1 c2) ∧ Below w.heap.size w w' := by
  have h0 : (rmixed1_b4 a1 a2 b1 b2 c1 c2) := by
    unfold rmixed1_b4
    first | rfl | trivial | decide | (obtain ⟨g1, g2, g3⟩ := hpre; (try simp only [Bg, Pl.add, Pl.mul] at *); first | decide | omega)
  unfold rmixed1_b4 at h0
  have h1 : (rmixed1_b5 a1 a2 b1 b2 c1 c2) := by
    unfold rmixed1_b5
    first | rfl | trivial | decide | (obtain ⟨g1, g2, g3⟩ := hpre; (try simp only [Bg, Pl.add, Pl.mul] at *); first | decide | omega)
  unfold rmixed1_b5 at h1
  have h2 : (rmixed1_b6 a1 a2 b1 b2 c1 c2) := by
    unfold rmixed1_b6
    first | rfl | trivial | decide | (obtain ⟨g1, g2, g3⟩ := hpre; (try simp only [Bg, Pl.add, Pl.mul] at *); first | decide | omega)
  unfold rmixed1_b6 at h2
  have h3 : (rmixed1_b7 a1 a2 b1 b2 c1 c2) := by
    unfold rmixed1_b7
    first | rfl | trivial | decide | (obtain ⟨g1, g2, g3⟩ := hpre; (try simp only [Bg, Pl.add, Pl.mul] at *); first | decide | omega)
  unfold rmixed1_b7 at h3
  have h4 : (rmixed1_b8 a1 a2 b1 b2 c1 c2) := by
    unfold rmixed1_b8
    first | rfl | trivial | decide | (obtain ⟨g1, g2, g3⟩ := hpre; (try simp only [Bg, Pl.add, Pl.mul] at *); first | decide | omega)
  unfold rmixed1_b8 at h4
  have h5 : (rmixed1_b9 a1 a2 b1 b2 c1 c2) := by
    unfold rmixed1_b9
    first | rfl | trivial | decide | (obtain ⟨g1, g2, g3⟩ := hpre; (try simp only [Bg, Pl.add, Pl.mul] at *); first | decide | omega)
  unfold rmixed1_b9 at h5
  have h6 : (rmixed1_b10 a1 a2 b1 b2 c1 c2) := by
    unfold rmixed1_b10
    first | rfl | trivial | decide | (obtain ⟨g1, g2, g3⟩ := hpre; (try simp only [Bg, Pl.add, Pl.mul] at *); first | decide | omega)
  unfold rmixed1_b10 at h6
  have h7 : (rmixed1_b11 a1 a2 b1 b2 c1 c2) := by
    unfold rmixed1_b11
    first | rfl | trivial | decide | (obtain ⟨g1, g2, g3⟩ := hpre; (try simp only [Bg, Pl.add, Pl.mul] at *); first | decide | omega)
  unfold rmixed1_b11 at h7
  have h8 : (rmixed1_b12 a1 a2 b1 b2 c1 c2) := by
    unfold rmixed1_b12
    first | rfl | trivial | decide | (obtain ⟨g1, g2, g3⟩ := hpre; (try simp only [Bg, Pl.add, Pl.mul] at *); first | decide | omega)
  unfold rmixed1_b12 at h8
  have h9 : (rmixed1_b13 a1 a2 b1 b2 c1 c2) := by
    unfold rmixed1_b13
    first | rfl | trivial | decide | (obtain ⟨g1, g2, g3⟩ := hpre; (try simp only [Bg, Pl.add, Pl.mul] at *); first | decide | omega)
  unfold rmixed1_b13 at h9
  have h10 : (rmixed1_b14 a1 a2 b1 b2 c1 c2) := by
    unfold rmixed1_b14
    first | rfl | trivial | decide | (obtain ⟨g1, g2, g3⟩ := hpre; (try simp only [Bg, Pl.add, Pl.mul] at *); first | decide | omega)
  unfold rmixed1_b14 at h10
  have h11 : (rmixed1_b15 a1 a2 b1 b2 c1 c2) := by
    unfold rmixed1_b15
    first | rfl | trivial | decide | (obtain ⟨g1, g2, g3⟩ := hpre; (try simp only [Bg, Pl.add, Pl.mul] at *); first | decide | omega)
  unfold rmixed1_b15 at h11
  have hp := rmixed1_p0 a1 a2 b1 b2 c1 c2 ⟨⟨⟨⟨⟨⟨⟨⟨⟨⟨⟨⟨⟨⟨⟨⟨⟨⟨⟨⟨⟨⟨trivial, rmixed1_g0⟩, rmixed1_g1⟩, rmixed1_g2⟩, rmixed1_g3⟩, h0⟩, h1⟩, h2⟩, h3⟩, rmixed1_g1⟩, rmixed1_g2⟩, rmixed1_g3⟩, h4⟩, h5⟩, h6⟩, h7⟩, rmixed1_g1⟩, rmixed1_g2⟩, rmixed1_g3⟩, h8⟩, h9⟩, h10⟩, h11⟩ w
  have hv : rmixed1_w0 a1 a2 b1 b2 c1 c2 = rmixed1_val a1 a2 b1 b2 c1 c2 := by
    clear hp
    unfold rmixed1_w0 rmixed1_val
    (try simp only [Pl.add, Pl.mul])
    (repeat' (first | apply int_eq | apply bool_eq | apply cons_eq | apply agg_eq | apply tup_eq | rfl)) <;> omega
  exact hv ▸ hp
theorem k_rmixed1 : ConOk Tryz.prog c_rmixed1 := fun ns hl => by
  have hl0 : ns.length = 6 := hl
  clear hl
  obtain ⟨a1, ns0, rfl, hl1⟩ := len_cons hl0
  obtain ⟨a2, ns1, rfl, hl2⟩ := len_cons hl1
  obtain ⟨b1, ns2, rfl, hl3⟩ := len_cons hl2
  obtain ⟨b2, ns3, rfl, hl4⟩ := len_cons hl3
  obtain ⟨c1, ns4, rfl, hl5⟩ := len_cons hl4
  obtain ⟨c2, ns5, rfl, hl6⟩ := len_cons hl5
  obtain rfl := len_nil hl6
  exact ⟨rfl, fun h w => rmixed1_any a1 a2 b1 b2 c1 c2 h w⟩
end Go.Proofs.YtledgemlflbfdaaGreatDoor
end
section
set_option linter.all false
set_option maxRecDepth 1000000
set_option maxHeartbeats 2000000
open Go.RowKit
namespace Go.Proofs.YtledgemlflbfdaaGreatDoor
open Mini

def rbalanced_val (a1 a2 b1 b2 c1 c2 : Int) : Value := .bool (balB 0 (a1 + b1 + c1) (a2 + b2 + c2) (a1 + (b2 - b1) - c2) (a2 - b1 + (c1 - c2)))
theorem rbalanced_X : FOkS Tryz.prog x_rbalanced := kAll_ok _ ⟨k_rmixed1, trivial⟩
theorem rbalanced_args (a1 a2 b1 b2 c1 c2 : Int) : (#[.agg #[.int .i64 a1, .int .i64 a2, .int .i64 b1, .int .i64 b2, .int .i64 c1, .int .i64 c2]] : Array Value).toList.all (ground 8) = true := by kernel_rfl
def rbalanced_b0 (a1 a2 b1 b2 c1 c2 : Int) : Prop := ((Bg (1048576 : Int) a1 a2) ∧ ((Bg (1048576 : Int) b1 b2) ∧ (Bg (1048576 : Int) c1 c2)))
theorem rbalanced_g1 : ((0 : Int) = (Int.ofNat 0)) := by first | rfl | trivial | decide | omega
def rbalanced_c0 (a1 a2 b1 b2 c1 c2 : Int) : Bool := (Bool.and (((a1 + b1) + c1) == (0 : Int)) (Bool.and (((a2 + b2) + c2) == (0 : Int)) Bool.true))
theorem rbalanced_g4 : ((2 : Int) = (Int.ofNat 2)) := by first | rfl | trivial | decide | omega
def rbalanced_w0 (a1 a2 b1 b2 c1 c2 : Int) : Value := .bool Bool.false
def rbalanced_r0 (a1 a2 b1 b2 c1 c2 : Int) : Prop := (((((((True ∧ (rbalanced_b0 a1 a2 b1 b2 c1 c2)) ∧ (((0 : Int) = (Int.ofNat 0)))) ∧ (rbalanced_c0 a1 a2 b1 b2 c1 c2 = false)) ∧ (rbalanced_c0 a1 a2 b1 b2 c1 c2 = false)) ∧ (rbalanced_c0 a1 a2 b1 b2 c1 c2 = false)) ∧ (rbalanced_c0 a1 a2 b1 b2 c1 c2 = false)) ∧ (rbalanced_c0 a1 a2 b1 b2 c1 c2 = false))
theorem rbalanced_o0 (a1 a2 b1 b2 c1 c2 : Int) : obOf (rbalanced_e0 a1 a2 b1 b2 c1 c2) = rbalanced_r0 a1 a2 b1 b2 c1 c2 := by kernel_rfl
theorem rbalanced_v0 (a1 a2 b1 b2 c1 c2 : Int) : resOf (rbalanced_e0 a1 a2 b1 b2 c1 c2) = rbalanced_w0 a1 a2 b1 b2 c1 c2 := by kernel_rfl
theorem rbalanced_k0 (a1 a2 b1 b2 c1 c2 : Int) : cleanOf Tryz.prog.globals.size (rbalanced_e0 a1 a2 b1 b2 c1 c2) = true := by kernel_rfl
theorem rbalanced_q0 (a1 a2 b1 b2 c1 c2 : Int) : rbalanced_e0 a1 a2 b1 b2 c1 c2 = evFS Tryz.prog x_rbalanced 1000 36 #[.agg #[.int .i64 a1, .int .i64 a2, .int .i64 b1, .int .i64 b2, .int .i64 c1, .int .i64 c2]] (noTabs 6) ⟨[0, 0, 0, 0, 0, 0], True⟩ := by
  delta rbalanced_e0
  exact Eq.refl _
theorem rbalanced_p0 (a1 a2 b1 b2 c1 c2 : Int) (h : rbalanced_r0 a1 a2 b1 b2 c1 c2) (w : World) : Calls Tryz.prog 36 #[.agg #[.int .i64 a1, .int .i64 a2, .int .i64 b1, .int .i64 b2, .int .i64 c1, .int .i64 c2]] w fun en w' => en = .returned (rbalanced_w0 a1 a2 b1 b2 c1 c2) ∧ Below w.heap.size w w' := by
  have hv := rbalanced_v0 a1 a2 b1 b2 c1 c2
  have hc := rbalanced_k0 a1 a2 b1 b2 c1 c2
  have he := rbalanced_q0 a1 a2 b1 b2 c1 c2
  have ho := rbalanced_o0 a1 a2 b1 b2 c1 c2
  generalize rbalanced_e0 a1 a2 b1 b2 c1 c2 = r at *
  exact calls_way he gfol rbalanced_X hv rfl (rbalanced_args a1 a2 b1 b2 c1 c2) hc ho h (bl w)
def rbalanced_w1 (a1 a2 b1 b2 c1 c2 : Int) : Value := .bool (Bool.and (((a1 + (b2 - b1)) - c2) == (0 : Int)) (Bool.and (((a2 - b1) + (c1 - c2)) == (0 : Int)) Bool.true))
def rbalanced_r1 (a1 a2 b1 b2 c1 c2 : Int) : Prop := ((((((((True ∧ (rbalanced_b0 a1 a2 b1 b2 c1 c2)) ∧ (((0 : Int) = (Int.ofNat 0)))) ∧ (rbalanced_c0 a1 a2 b1 b2 c1 c2 = true)) ∧ (((2 : Int) = (Int.ofNat 2)))) ∧ (rbalanced_c0 a1 a2 b1 b2 c1 c2 = true)) ∧ (rbalanced_c0 a1 a2 b1 b2 c1 c2 = true)) ∧ (rbalanced_c0 a1 a2 b1 b2 c1 c2 = true)) ∧ (rbalanced_c0 a1 a2 b1 b2 c1 c2 = true))
theorem rbalanced_o1 (a1 a2 b1 b2 c1 c2 : Int) : obOf (rbalanced_e1 a1 a2 b1 b2 c1 c2) = rbalanced_r1 a1 a2 b1 b2 c1 c2 := by kernel_rfl
theorem rbalanced_v1 (a1 a2 b1 b2 c1 c2 : Int) : resOf (rbalanced_e1 a1 a2 b1 b2 c1 c2) = rbalanced_w1 a1 a2 b1 b2 c1 c2 := by kernel_rfl
theorem rbalanced_k1 (a1 a2 b1 b2 c1 c2 : Int) : cleanOf Tryz.prog.globals.size (rbalanced_e1 a1 a2 b1 b2 c1 c2) = true := by kernel_rfl
theorem rbalanced_q1 (a1 a2 b1 b2 c1 c2 : Int) : rbalanced_e1 a1 a2 b1 b2 c1 c2 = evFS Tryz.prog x_rbalanced 1000 36 #[.agg #[.int .i64 a1, .int .i64 a2, .int .i64 b1, .int .i64 b2, .int .i64 c1, .int .i64 c2]] (noTabs 6) ⟨[0, 1, 2, 1, 1, 1, 1], True⟩ := by
  delta rbalanced_e1
  exact Eq.refl _
theorem rbalanced_p1 (a1 a2 b1 b2 c1 c2 : Int) (h : rbalanced_r1 a1 a2 b1 b2 c1 c2) (w : World) : Calls Tryz.prog 36 #[.agg #[.int .i64 a1, .int .i64 a2, .int .i64 b1, .int .i64 b2, .int .i64 c1, .int .i64 c2]] w fun en w' => en = .returned (rbalanced_w1 a1 a2 b1 b2 c1 c2) ∧ Below w.heap.size w w' := by
  have hv := rbalanced_v1 a1 a2 b1 b2 c1 c2
  have hc := rbalanced_k1 a1 a2 b1 b2 c1 c2
  have he := rbalanced_q1 a1 a2 b1 b2 c1 c2
  have ho := rbalanced_o1 a1 a2 b1 b2 c1 c2
  generalize rbalanced_e1 a1 a2 b1 b2 c1 c2 = r at *
  exact calls_way he gfol rbalanced_X hv rfl (rbalanced_args a1 a2 b1 b2 c1 c2) hc ho h (bl w)
theorem rbalanced_any (a1 a2 b1 b2 c1 c2 : Int) (hpre : Bg 1048576 a1 a2 ∧ Bg 1048576 b1 b2 ∧ Bg 1048576 c1 c2) (w : World) : Calls Tryz.prog 36 #[.agg #[.int .i64 a1, .int .i64 a2, .int .i64 b1, .int .i64 b2, .int .i64 c1, .int .i64 c2]] w fun en w' => en = .returned (rbalanced_val a1 a2 b1 b2 c1 c2) ∧ Below w.heap.size w w' := by
  have h0 : (rbalanced_b0 a1 a2 b1 b2 c1 c2) := by
    unfold rbalanced_b0
    first | rfl | trivial | decide | assumption | ((try simp only [bne_iff_ne, ne_eq, decide_eq_true_eq, decide_eq_false_iff_not, Bool.not_eq_true', Bool.not_eq_false', beq_iff_eq, beq_eq_false_iff_ne, bne_eq_false_iff_eq, Bool.and_eq_true, Bool.not_eq_true, Bool.not_eq_false, ] at *); first | omega | grind)
  unfold rbalanced_b0 at h0
  rcases Bool.eq_false_or_eq_true (rbalanced_c0 a1 a2 b1 b2 c1 c2) with h1 | h1
  ·
    unfold rbalanced_c0 at h1
    have hp := rbalanced_p1 a1 a2 b1 b2 c1 c2 ⟨⟨⟨⟨⟨⟨⟨⟨trivial, h0⟩, rbalanced_g1⟩, h1⟩, rbalanced_g4⟩, h1⟩, h1⟩, h1⟩, h1⟩ w
    have hv : rbalanced_w1 a1 a2 b1 b2 c1 c2 = rbalanced_val a1 a2 b1 b2 c1 c2 := by
      clear hp
      unfold rbalanced_w1 rbalanced_val
      (try simp only [bne_eq_false_iff_eq, bne_iff_ne, ne_eq, beq_iff_eq, beq_eq_false_iff_ne] at *)
      (try simp only [balB])
      (repeat' (first | apply int_eq | apply bool_eq | apply cons_eq | apply agg_eq | apply tup_eq | rfl)) <;> first | omega | (rw [Bool.eq_iff_iff]; simp_all; try omega)
    exact hv ▸ hp
  ·
    unfold rbalanced_c0 at h1
    have hp := rbalanced_p0 a1 a2 b1 b2 c1 c2 ⟨⟨⟨⟨⟨⟨⟨trivial, h0⟩, rbalanced_g1⟩, h1⟩, h1⟩, h1⟩, h1⟩, h1⟩ w
    have hv : rbalanced_w0 a1 a2 b1 b2 c1 c2 = rbalanced_val a1 a2 b1 b2 c1 c2 := by
      clear hp
      unfold rbalanced_w0 rbalanced_val
      (try simp only [bne_eq_false_iff_eq, bne_iff_ne, ne_eq, beq_iff_eq, beq_eq_false_iff_ne] at *)
      (try simp only [balB])
      (repeat' (first | apply int_eq | apply bool_eq | apply cons_eq | apply agg_eq | apply tup_eq | rfl)) <;> first | omega | (rw [Bool.eq_iff_iff]; simp_all; try omega)
    exact hv ▸ hp
theorem k_rbalanced : ConOk Tryz.prog c_rbalanced := fun ns hl => by
  have hl0 : ns.length = 6 := hl
  clear hl
  obtain ⟨a1, ns0, rfl, hl1⟩ := len_cons hl0
  obtain ⟨a2, ns1, rfl, hl2⟩ := len_cons hl1
  obtain ⟨b1, ns2, rfl, hl3⟩ := len_cons hl2
  obtain ⟨b2, ns3, rfl, hl4⟩ := len_cons hl3
  obtain ⟨c1, ns4, rfl, hl5⟩ := len_cons hl4
  obtain ⟨c2, ns5, rfl, hl6⟩ := len_cons hl5
  obtain rfl := len_nil hl6
  exact ⟨rfl, fun h w => rbalanced_any a1 a2 b1 b2 c1 c2 h w⟩
end Go.Proofs.YtledgemlflbfdaaGreatDoor
end
section
set_option linter.all false
set_option maxRecDepth 1000000
set_option maxHeartbeats 2000000
open Go.RowKit
namespace Go.Proofs.YtledgemlflbfdaaGreatDoor
open Mini

def rrestored_val (a1 a2 b1 b2 c1 c2 : Int) : Value := .tuple #[.agg #[.int .i64 (cz 0 (bif (okB (a1 + b1 + c1) (a2 + b2 + c2) (a1 + (b2 - b1) + -c2) (a2 + -b1 + (c1 - c2)) (a1 + -b2 + (c2 - c1)) (a2 + (b1 - b2) + -c1)) then (a1 + b1 + c1).tdiv 3 else 0)), .int .i64 (cz 0 (bif (okB (a1 + b1 + c1) (a2 + b2 + c2) (a1 + (b2 - b1) + -c2) (a2 + -b1 + (c1 - c2)) (a1 + -b2 + (c2 - c1)) (a2 + (b1 - b2) + -c1)) then (a2 + b2 + c2).tdiv 3 else 0)), .int .i64 (cz 0 (bif (okB (a1 + b1 + c1) (a2 + b2 + c2) (a1 + (b2 - b1) + -c2) (a2 + -b1 + (c1 - c2)) (a1 + -b2 + (c2 - c1)) (a2 + (b1 - b2) + -c1)) then (a1 + (b2 - b1) + -c2).tdiv 3 else 0)), .int .i64 (cz 0 (bif (okB (a1 + b1 + c1) (a2 + b2 + c2) (a1 + (b2 - b1) + -c2) (a2 + -b1 + (c1 - c2)) (a1 + -b2 + (c2 - c1)) (a2 + (b1 - b2) + -c1)) then (a2 + -b1 + (c1 - c2)).tdiv 3 else 0)), .int .i64 (cz 0 (bif (okB (a1 + b1 + c1) (a2 + b2 + c2) (a1 + (b2 - b1) + -c2) (a2 + -b1 + (c1 - c2)) (a1 + -b2 + (c2 - c1)) (a2 + (b1 - b2) + -c1)) then (a1 + -b2 + (c2 - c1)).tdiv 3 else 0)), .int .i64 (cz 0 (bif (okB (a1 + b1 + c1) (a2 + b2 + c2) (a1 + (b2 - b1) + -c2) (a2 + -b1 + (c1 - c2)) (a1 + -b2 + (c2 - c1)) (a2 + (b1 - b2) + -c1)) then (a2 + (b1 - b2) + -c1).tdiv 3 else 0))], .int .i64 (if 0 = 0 then (bif (okB (a1 + b1 + c1) (a2 + b2 + c2) (a1 + (b2 - b1) + -c2) (a2 + -b1 + (c1 - c2)) (a1 + -b2 + (c2 - c1)) (a2 + (b1 - b2) + -c1)) then 0 else 1) else 0)]
theorem rrestored_X : FOkS Tryz.prog x_rrestored := kAll_ok _ ⟨k_rprod, k_rsum, k_rcheckPhases, trivial⟩
theorem rrestored_args (a1 a2 b1 b2 c1 c2 : Int) : (#[.agg #[.int .i64 a1, .int .i64 a2, .int .i64 b1, .int .i64 b2, .int .i64 c1, .int .i64 c2]] : Array Value).toList.all (ground 8) = true := by kernel_rfl
theorem rrestored_g0 : ((Bg (268435456 : Int) (0 : Int) (1 : Int)) ∧ (Bg (268435456 : Int) (0 : Int) (1 : Int))) := by first | rfl | trivial | decide | omega
theorem rrestored_g1 : ((0 : Int) = (Int.ofNat 0)) := by first | rfl | trivial | decide | omega
theorem rrestored_g2 : ((1 : Int) = (Int.ofNat 1)) := by first | rfl | trivial | decide | omega
theorem rrestored_g3 : ((2 : Int) = (Int.ofNat 2)) := by first | rfl | trivial | decide | omega
def rrestored_b4 (a1 a2 b1 b2 c1 c2 : Int) : Prop := ((Bg (268435456 : Int) (1 : Int) (0 : Int)) ∧ (Bg (268435456 : Int) b1 b2))
def rrestored_b5 (a1 a2 b1 b2 c1 c2 : Int) : Prop := ((Bg (268435456 : Int) (1 : Int) (0 : Int)) ∧ (Bg (268435456 : Int) c1 c2))
def rrestored_b6 (a1 a2 b1 b2 c1 c2 : Int) : Prop := ((Bg (1099511627776 : Int) ((Pl.mul ((1 : Int), (0 : Int)) (b1, b2))).1 ((Pl.mul ((1 : Int), (0 : Int)) (b1, b2))).2) ∧ (Bg (1099511627776 : Int) ((Pl.mul ((1 : Int), (0 : Int)) (c1, c2))).1 ((Pl.mul ((1 : Int), (0 : Int)) (c1, c2))).2))
def rrestored_b7 (a1 a2 b1 b2 c1 c2 : Int) : Prop := ((Bg (1099511627776 : Int) a1 a2) ∧ (Bg (1099511627776 : Int) ((Pl.add (((Pl.mul ((1 : Int), (0 : Int)) (b1, b2))).1, ((Pl.mul ((1 : Int), (0 : Int)) (b1, b2))).2) (((Pl.mul ((1 : Int), (0 : Int)) (c1, c2))).1, ((Pl.mul ((1 : Int), (0 : Int)) (c1, c2))).2))).1 ((Pl.add (((Pl.mul ((1 : Int), (0 : Int)) (b1, b2))).1, ((Pl.mul ((1 : Int), (0 : Int)) (b1, b2))).2) (((Pl.mul ((1 : Int), (0 : Int)) (c1, c2))).1, ((Pl.mul ((1 : Int), (0 : Int)) (c1, c2))).2))).2))
def rrestored_b8 (a1 a2 b1 b2 c1 c2 : Int) : Prop := ((Bg (268435456 : Int) ((Pl.mul ((0 : Int), (1 : Int)) ((0 : Int), (1 : Int)))).1 ((Pl.mul ((0 : Int), (1 : Int)) ((0 : Int), (1 : Int)))).2) ∧ (Bg (268435456 : Int) b1 b2))
def rrestored_b9 (a1 a2 b1 b2 c1 c2 : Int) : Prop := ((Bg (268435456 : Int) (0 : Int) (1 : Int)) ∧ (Bg (268435456 : Int) c1 c2))
def rrestored_b10 (a1 a2 b1 b2 c1 c2 : Int) : Prop := ((Bg (1099511627776 : Int) ((Pl.mul (((Pl.mul ((0 : Int), (1 : Int)) ((0 : Int), (1 : Int)))).1, ((Pl.mul ((0 : Int), (1 : Int)) ((0 : Int), (1 : Int)))).2) (b1, b2))).1 ((Pl.mul (((Pl.mul ((0 : Int), (1 : Int)) ((0 : Int), (1 : Int)))).1, ((Pl.mul ((0 : Int), (1 : Int)) ((0 : Int), (1 : Int)))).2) (b1, b2))).2) ∧ (Bg (1099511627776 : Int) ((Pl.mul ((0 : Int), (1 : Int)) (c1, c2))).1 ((Pl.mul ((0 : Int), (1 : Int)) (c1, c2))).2))
def rrestored_b11 (a1 a2 b1 b2 c1 c2 : Int) : Prop := ((Bg (1099511627776 : Int) a1 a2) ∧ (Bg (1099511627776 : Int) ((Pl.add (((Pl.mul (((Pl.mul ((0 : Int), (1 : Int)) ((0 : Int), (1 : Int)))).1, ((Pl.mul ((0 : Int), (1 : Int)) ((0 : Int), (1 : Int)))).2) (b1, b2))).1, ((Pl.mul (((Pl.mul ((0 : Int), (1 : Int)) ((0 : Int), (1 : Int)))).1, ((Pl.mul ((0 : Int), (1 : Int)) ((0 : Int), (1 : Int)))).2) (b1, b2))).2) (((Pl.mul ((0 : Int), (1 : Int)) (c1, c2))).1, ((Pl.mul ((0 : Int), (1 : Int)) (c1, c2))).2))).1 ((Pl.add (((Pl.mul (((Pl.mul ((0 : Int), (1 : Int)) ((0 : Int), (1 : Int)))).1, ((Pl.mul ((0 : Int), (1 : Int)) ((0 : Int), (1 : Int)))).2) (b1, b2))).1, ((Pl.mul (((Pl.mul ((0 : Int), (1 : Int)) ((0 : Int), (1 : Int)))).1, ((Pl.mul ((0 : Int), (1 : Int)) ((0 : Int), (1 : Int)))).2) (b1, b2))).2) (((Pl.mul ((0 : Int), (1 : Int)) (c1, c2))).1, ((Pl.mul ((0 : Int), (1 : Int)) (c1, c2))).2))).2))
def rrestored_b12 (a1 a2 b1 b2 c1 c2 : Int) : Prop := ((Bg (268435456 : Int) (0 : Int) (1 : Int)) ∧ (Bg (268435456 : Int) b1 b2))
def rrestored_b13 (a1 a2 b1 b2 c1 c2 : Int) : Prop := ((Bg (268435456 : Int) ((Pl.mul ((0 : Int), (1 : Int)) ((0 : Int), (1 : Int)))).1 ((Pl.mul ((0 : Int), (1 : Int)) ((0 : Int), (1 : Int)))).2) ∧ (Bg (268435456 : Int) c1 c2))
def rrestored_b14 (a1 a2 b1 b2 c1 c2 : Int) : Prop := ((Bg (1099511627776 : Int) ((Pl.mul ((0 : Int), (1 : Int)) (b1, b2))).1 ((Pl.mul ((0 : Int), (1 : Int)) (b1, b2))).2) ∧ (Bg (1099511627776 : Int) ((Pl.mul (((Pl.mul ((0 : Int), (1 : Int)) ((0 : Int), (1 : Int)))).1, ((Pl.mul ((0 : Int), (1 : Int)) ((0 : Int), (1 : Int)))).2) (c1, c2))).1 ((Pl.mul (((Pl.mul ((0 : Int), (1 : Int)) ((0 : Int), (1 : Int)))).1, ((Pl.mul ((0 : Int), (1 : Int)) ((0 : Int), (1 : Int)))).2) (c1, c2))).2))
def rrestored_b15 (a1 a2 b1 b2 c1 c2 : Int) : Prop := ((Bg (1099511627776 : Int) a1 a2) ∧ (Bg (1099511627776 : Int) ((Pl.add (((Pl.mul ((0 : Int), (1 : Int)) (b1, b2))).1, ((Pl.mul ((0 : Int), (1 : Int)) (b1, b2))).2) (((Pl.mul (((Pl.mul ((0 : Int), (1 : Int)) ((0 : Int), (1 : Int)))).1, ((Pl.mul ((0 : Int), (1 : Int)) ((0 : Int), (1 : Int)))).2) (c1, c2))).1, ((Pl.mul (((Pl.mul ((0 : Int), (1 : Int)) ((0 : Int), (1 : Int)))).1, ((Pl.mul ((0 : Int), (1 : Int)) ((0 : Int), (1 : Int)))).2) (c1, c2))).2))).1 ((Pl.add (((Pl.mul ((0 : Int), (1 : Int)) (b1, b2))).1, ((Pl.mul ((0 : Int), (1 : Int)) (b1, b2))).2) (((Pl.mul (((Pl.mul ((0 : Int), (1 : Int)) ((0 : Int), (1 : Int)))).1, ((Pl.mul ((0 : Int), (1 : Int)) ((0 : Int), (1 : Int)))).2) (c1, c2))).1, ((Pl.mul (((Pl.mul ((0 : Int), (1 : Int)) ((0 : Int), (1 : Int)))).1, ((Pl.mul ((0 : Int), (1 : Int)) ((0 : Int), (1 : Int)))).2) (c1, c2))).2))).2))
theorem rrestored_g16 : ((decide ((0 : Int) < (3 : Int))) = Bool.true) := by first | rfl | trivial | decide | omega
def rrestored_c0 (a1 a2 b1 b2 c1 c2 : Int) : Bool := ((Int.tmod ((Pl.add (a1, a2) (((Pl.add (((Pl.mul ((1 : Int), (0 : Int)) (b1, b2))).1, ((Pl.mul ((1 : Int), (0 : Int)) (b1, b2))).2) (((Pl.mul ((1 : Int), (0 : Int)) (c1, c2))).1, ((Pl.mul ((1 : Int), (0 : Int)) (c1, c2))).2))).1, ((Pl.add (((Pl.mul ((1 : Int), (0 : Int)) (b1, b2))).1, ((Pl.mul ((1 : Int), (0 : Int)) (b1, b2))).2) (((Pl.mul ((1 : Int), (0 : Int)) (c1, c2))).1, ((Pl.mul ((1 : Int), (0 : Int)) (c1, c2))).2))).2))).1 (3 : Int)) != (0 : Int))
theorem rrestored_g18 : (Bool.true = Bool.true) := by first | rfl | trivial | decide | omega
def rrestored_c1 (a1 a2 b1 b2 c1 c2 : Int) : Bool := ((Int.tmod ((Pl.add (a1, a2) (((Pl.add (((Pl.mul ((1 : Int), (0 : Int)) (b1, b2))).1, ((Pl.mul ((1 : Int), (0 : Int)) (b1, b2))).2) (((Pl.mul ((1 : Int), (0 : Int)) (c1, c2))).1, ((Pl.mul ((1 : Int), (0 : Int)) (c1, c2))).2))).1, ((Pl.add (((Pl.mul ((1 : Int), (0 : Int)) (b1, b2))).1, ((Pl.mul ((1 : Int), (0 : Int)) (b1, b2))).2) (((Pl.mul ((1 : Int), (0 : Int)) (c1, c2))).1, ((Pl.mul ((1 : Int), (0 : Int)) (c1, c2))).2))).2))).2 (3 : Int)) != (0 : Int))
theorem rrestored_g22 : ((decide ((IntKind.i64.wrap ((0 : Int) + (1 : Int))) < (3 : Int))) = Bool.true) := by first | rfl | trivial | decide | omega
theorem rrestored_g23 : ((IntKind.i64.wrap ((0 : Int) + (1 : Int))) = (Int.ofNat 1)) := by first | rfl | trivial | decide | omega
def rrestored_c2 (a1 a2 b1 b2 c1 c2 : Int) : Bool := ((Int.tmod ((Pl.add (a1, a2) (((Pl.add (((Pl.mul (((Pl.mul ((0 : Int), (1 : Int)) ((0 : Int), (1 : Int)))).1, ((Pl.mul ((0 : Int), (1 : Int)) ((0 : Int), (1 : Int)))).2) (b1, b2))).1, ((Pl.mul (((Pl.mul ((0 : Int), (1 : Int)) ((0 : Int), (1 : Int)))).1, ((Pl.mul ((0 : Int), (1 : Int)) ((0 : Int), (1 : Int)))).2) (b1, b2))).2) (((Pl.mul ((0 : Int), (1 : Int)) (c1, c2))).1, ((Pl.mul ((0 : Int), (1 : Int)) (c1, c2))).2))).1, ((Pl.add (((Pl.mul (((Pl.mul ((0 : Int), (1 : Int)) ((0 : Int), (1 : Int)))).1, ((Pl.mul ((0 : Int), (1 : Int)) ((0 : Int), (1 : Int)))).2) (b1, b2))).1, ((Pl.mul (((Pl.mul ((0 : Int), (1 : Int)) ((0 : Int), (1 : Int)))).1, ((Pl.mul ((0 : Int), (1 : Int)) ((0 : Int), (1 : Int)))).2) (b1, b2))).2) (((Pl.mul ((0 : Int), (1 : Int)) (c1, c2))).1, ((Pl.mul ((0 : Int), (1 : Int)) (c1, c2))).2))).2))).1 (3 : Int)) != (0 : Int))
def rrestored_c3 (a1 a2 b1 b2 c1 c2 : Int) : Bool := ((Int.tmod ((Pl.add (a1, a2) (((Pl.add (((Pl.mul (((Pl.mul ((0 : Int), (1 : Int)) ((0 : Int), (1 : Int)))).1, ((Pl.mul ((0 : Int), (1 : Int)) ((0 : Int), (1 : Int)))).2) (b1, b2))).1, ((Pl.mul (((Pl.mul ((0 : Int), (1 : Int)) ((0 : Int), (1 : Int)))).1, ((Pl.mul ((0 : Int), (1 : Int)) ((0 : Int), (1 : Int)))).2) (b1, b2))).2) (((Pl.mul ((0 : Int), (1 : Int)) (c1, c2))).1, ((Pl.mul ((0 : Int), (1 : Int)) (c1, c2))).2))).1, ((Pl.add (((Pl.mul (((Pl.mul ((0 : Int), (1 : Int)) ((0 : Int), (1 : Int)))).1, ((Pl.mul ((0 : Int), (1 : Int)) ((0 : Int), (1 : Int)))).2) (b1, b2))).1, ((Pl.mul (((Pl.mul ((0 : Int), (1 : Int)) ((0 : Int), (1 : Int)))).1, ((Pl.mul ((0 : Int), (1 : Int)) ((0 : Int), (1 : Int)))).2) (b1, b2))).2) (((Pl.mul ((0 : Int), (1 : Int)) (c1, c2))).1, ((Pl.mul ((0 : Int), (1 : Int)) (c1, c2))).2))).2))).2 (3 : Int)) != (0 : Int))
theorem rrestored_g26 : ((decide ((IntKind.i64.wrap ((IntKind.i64.wrap ((0 : Int) + (1 : Int))) + (1 : Int))) < (3 : Int))) = Bool.true) := by first | rfl | trivial | decide | omega
theorem rrestored_g27 : ((IntKind.i64.wrap ((IntKind.i64.wrap ((0 : Int) + (1 : Int))) + (1 : Int))) = (Int.ofNat 2)) := by first | rfl | trivial | decide | omega
def rrestored_c4 (a1 a2 b1 b2 c1 c2 : Int) : Bool := ((Int.tmod ((Pl.add (a1, a2) (((Pl.add (((Pl.mul ((0 : Int), (1 : Int)) (b1, b2))).1, ((Pl.mul ((0 : Int), (1 : Int)) (b1, b2))).2) (((Pl.mul (((Pl.mul ((0 : Int), (1 : Int)) ((0 : Int), (1 : Int)))).1, ((Pl.mul ((0 : Int), (1 : Int)) ((0 : Int), (1 : Int)))).2) (c1, c2))).1, ((Pl.mul (((Pl.mul ((0 : Int), (1 : Int)) ((0 : Int), (1 : Int)))).1, ((Pl.mul ((0 : Int), (1 : Int)) ((0 : Int), (1 : Int)))).2) (c1, c2))).2))).1, ((Pl.add (((Pl.mul ((0 : Int), (1 : Int)) (b1, b2))).1, ((Pl.mul ((0 : Int), (1 : Int)) (b1, b2))).2) (((Pl.mul (((Pl.mul ((0 : Int), (1 : Int)) ((0 : Int), (1 : Int)))).1, ((Pl.mul ((0 : Int), (1 : Int)) ((0 : Int), (1 : Int)))).2) (c1, c2))).1, ((Pl.mul (((Pl.mul ((0 : Int), (1 : Int)) ((0 : Int), (1 : Int)))).1, ((Pl.mul ((0 : Int), (1 : Int)) ((0 : Int), (1 : Int)))).2) (c1, c2))).2))).2))).1 (3 : Int)) != (0 : Int))
def rrestored_c5 (a1 a2 b1 b2 c1 c2 : Int) : Bool := ((Int.tmod ((Pl.add (a1, a2) (((Pl.add (((Pl.mul ((0 : Int), (1 : Int)) (b1, b2))).1, ((Pl.mul ((0 : Int), (1 : Int)) (b1, b2))).2) (((Pl.mul (((Pl.mul ((0 : Int), (1 : Int)) ((0 : Int), (1 : Int)))).1, ((Pl.mul ((0 : Int), (1 : Int)) ((0 : Int), (1 : Int)))).2) (c1, c2))).1, ((Pl.mul (((Pl.mul ((0 : Int), (1 : Int)) ((0 : Int), (1 : Int)))).1, ((Pl.mul ((0 : Int), (1 : Int)) ((0 : Int), (1 : Int)))).2) (c1, c2))).2))).1, ((Pl.add (((Pl.mul ((0 : Int), (1 : Int)) (b1, b2))).1, ((Pl.mul ((0 : Int), (1 : Int)) (b1, b2))).2) (((Pl.mul (((Pl.mul ((0 : Int), (1 : Int)) ((0 : Int), (1 : Int)))).1, ((Pl.mul ((0 : Int), (1 : Int)) ((0 : Int), (1 : Int)))).2) (c1, c2))).1, ((Pl.mul (((Pl.mul ((0 : Int), (1 : Int)) ((0 : Int), (1 : Int)))).1, ((Pl.mul ((0 : Int), (1 : Int)) ((0 : Int), (1 : Int)))).2) (c1, c2))).2))).2))).2 (3 : Int)) != (0 : Int))
theorem rrestored_g30 : ((decide ((IntKind.i64.wrap ((IntKind.i64.wrap ((IntKind.i64.wrap ((0 : Int) + (1 : Int))) + (1 : Int))) + (1 : Int))) < (3 : Int))) = Bool.false) := by first | rfl | trivial | decide | omega
theorem rrestored_g31 : True := by first | rfl | trivial | decide | omega
def rrestored_c6 (a1 a2 b1 b2 c1 c2 : Int) : Bool := ((th (Pl.parts (IntKind.i64.wrap (Int.tdiv ((Pl.add (a1, a2) (((Pl.add (((Pl.mul ((1 : Int), (0 : Int)) (b1, b2))).1, ((Pl.mul ((1 : Int), (0 : Int)) (b1, b2))).2) (((Pl.mul ((1 : Int), (0 : Int)) (c1, c2))).1, ((Pl.mul ((1 : Int), (0 : Int)) (c1, c2))).2))).1, ((Pl.add (((Pl.mul ((1 : Int), (0 : Int)) (b1, b2))).1, ((Pl.mul ((1 : Int), (0 : Int)) (b1, b2))).2) (((Pl.mul ((1 : Int), (0 : Int)) (c1, c2))).1, ((Pl.mul ((1 : Int), (0 : Int)) (c1, c2))).2))).2))).1 (3 : Int))) (IntKind.i64.wrap (Int.tdiv ((Pl.add (a1, a2) (((Pl.add (((Pl.mul ((1 : Int), (0 : Int)) (b1, b2))).1, ((Pl.mul ((1 : Int), (0 : Int)) (b1, b2))).2) (((Pl.mul ((1 : Int), (0 : Int)) (c1, c2))).1, ((Pl.mul ((1 : Int), (0 : Int)) (c1, c2))).2))).1, ((Pl.add (((Pl.mul ((1 : Int), (0 : Int)) (b1, b2))).1, ((Pl.mul ((1 : Int), (0 : Int)) (b1, b2))).2) (((Pl.mul ((1 : Int), (0 : Int)) (c1, c2))).1, ((Pl.mul ((1 : Int), (0 : Int)) (c1, c2))).2))).2))).2 (3 : Int))) (65536 : Int)) (Pl.parts (IntKind.i64.wrap (Int.tdiv ((Pl.add (a1, a2) (((Pl.add (((Pl.mul (((Pl.mul ((0 : Int), (1 : Int)) ((0 : Int), (1 : Int)))).1, ((Pl.mul ((0 : Int), (1 : Int)) ((0 : Int), (1 : Int)))).2) (b1, b2))).1, ((Pl.mul (((Pl.mul ((0 : Int), (1 : Int)) ((0 : Int), (1 : Int)))).1, ((Pl.mul ((0 : Int), (1 : Int)) ((0 : Int), (1 : Int)))).2) (b1, b2))).2) (((Pl.mul ((0 : Int), (1 : Int)) (c1, c2))).1, ((Pl.mul ((0 : Int), (1 : Int)) (c1, c2))).2))).1, ((Pl.add (((Pl.mul (((Pl.mul ((0 : Int), (1 : Int)) ((0 : Int), (1 : Int)))).1, ((Pl.mul ((0 : Int), (1 : Int)) ((0 : Int), (1 : Int)))).2) (b1, b2))).1, ((Pl.mul (((Pl.mul ((0 : Int), (1 : Int)) ((0 : Int), (1 : Int)))).1, ((Pl.mul ((0 : Int), (1 : Int)) ((0 : Int), (1 : Int)))).2) (b1, b2))).2) (((Pl.mul ((0 : Int), (1 : Int)) (c1, c2))).1, ((Pl.mul ((0 : Int), (1 : Int)) (c1, c2))).2))).2))).1 (3 : Int))) (IntKind.i64.wrap (Int.tdiv ((Pl.add (a1, a2) (((Pl.add (((Pl.mul (((Pl.mul ((0 : Int), (1 : Int)) ((0 : Int), (1 : Int)))).1, ((Pl.mul ((0 : Int), (1 : Int)) ((0 : Int), (1 : Int)))).2) (b1, b2))).1, ((Pl.mul (((Pl.mul ((0 : Int), (1 : Int)) ((0 : Int), (1 : Int)))).1, ((Pl.mul ((0 : Int), (1 : Int)) ((0 : Int), (1 : Int)))).2) (b1, b2))).2) (((Pl.mul ((0 : Int), (1 : Int)) (c1, c2))).1, ((Pl.mul ((0 : Int), (1 : Int)) (c1, c2))).2))).1, ((Pl.add (((Pl.mul (((Pl.mul ((0 : Int), (1 : Int)) ((0 : Int), (1 : Int)))).1, ((Pl.mul ((0 : Int), (1 : Int)) ((0 : Int), (1 : Int)))).2) (b1, b2))).1, ((Pl.mul (((Pl.mul ((0 : Int), (1 : Int)) ((0 : Int), (1 : Int)))).1, ((Pl.mul ((0 : Int), (1 : Int)) ((0 : Int), (1 : Int)))).2) (b1, b2))).2) (((Pl.mul ((0 : Int), (1 : Int)) (c1, c2))).1, ((Pl.mul ((0 : Int), (1 : Int)) (c1, c2))).2))).2))).2 (3 : Int))) (65536 : Int)) (Pl.parts (IntKind.i64.wrap (Int.tdiv ((Pl.add (a1, a2) (((Pl.add (((Pl.mul ((0 : Int), (1 : Int)) (b1, b2))).1, ((Pl.mul ((0 : Int), (1 : Int)) (b1, b2))).2) (((Pl.mul (((Pl.mul ((0 : Int), (1 : Int)) ((0 : Int), (1 : Int)))).1, ((Pl.mul ((0 : Int), (1 : Int)) ((0 : Int), (1 : Int)))).2) (c1, c2))).1, ((Pl.mul (((Pl.mul ((0 : Int), (1 : Int)) ((0 : Int), (1 : Int)))).1, ((Pl.mul ((0 : Int), (1 : Int)) ((0 : Int), (1 : Int)))).2) (c1, c2))).2))).1, ((Pl.add (((Pl.mul ((0 : Int), (1 : Int)) (b1, b2))).1, ((Pl.mul ((0 : Int), (1 : Int)) (b1, b2))).2) (((Pl.mul (((Pl.mul ((0 : Int), (1 : Int)) ((0 : Int), (1 : Int)))).1, ((Pl.mul ((0 : Int), (1 : Int)) ((0 : Int), (1 : Int)))).2) (c1, c2))).1, ((Pl.mul (((Pl.mul ((0 : Int), (1 : Int)) ((0 : Int), (1 : Int)))).1, ((Pl.mul ((0 : Int), (1 : Int)) ((0 : Int), (1 : Int)))).2) (c1, c2))).2))).2))).1 (3 : Int))) (IntKind.i64.wrap (Int.tdiv ((Pl.add (a1, a2) (((Pl.add (((Pl.mul ((0 : Int), (1 : Int)) (b1, b2))).1, ((Pl.mul ((0 : Int), (1 : Int)) (b1, b2))).2) (((Pl.mul (((Pl.mul ((0 : Int), (1 : Int)) ((0 : Int), (1 : Int)))).1, ((Pl.mul ((0 : Int), (1 : Int)) ((0 : Int), (1 : Int)))).2) (c1, c2))).1, ((Pl.mul (((Pl.mul ((0 : Int), (1 : Int)) ((0 : Int), (1 : Int)))).1, ((Pl.mul ((0 : Int), (1 : Int)) ((0 : Int), (1 : Int)))).2) (c1, c2))).2))).1, ((Pl.add (((Pl.mul ((0 : Int), (1 : Int)) (b1, b2))).1, ((Pl.mul ((0 : Int), (1 : Int)) (b1, b2))).2) (((Pl.mul (((Pl.mul ((0 : Int), (1 : Int)) ((0 : Int), (1 : Int)))).1, ((Pl.mul ((0 : Int), (1 : Int)) ((0 : Int), (1 : Int)))).2) (c1, c2))).1, ((Pl.mul (((Pl.mul ((0 : Int), (1 : Int)) ((0 : Int), (1 : Int)))).1, ((Pl.mul ((0 : Int), (1 : Int)) ((0 : Int), (1 : Int)))).2) (c1, c2))).2))).2))).2 (3 : Int))) (65536 : Int))) != (0 : Int))
def rrestored_w0 (a1 a2 b1 b2 c1 c2 : Int) : Value := .tuple #[.agg #[.int .i64 (0 : Int), .int .i64 (0 : Int), .int .i64 (0 : Int), .int .i64 (0 : Int), .int .i64 (0 : Int), .int .i64 (0 : Int)], .int .i64 (1 : Int)]
def rrestored_r0 (a1 a2 b1 b2 c1 c2 : Int) : Prop := ((((((((((((((((((((((((((((((((True ∧ (((Bg (268435456 : Int) (0 : Int) (1 : Int)) ∧ (Bg (268435456 : Int) (0 : Int) (1 : Int))))) ∧ (((0 : Int) = (Int.ofNat 0)))) ∧ (((1 : Int) = (Int.ofNat 1)))) ∧ (((2 : Int) = (Int.ofNat 2)))) ∧ (rrestored_b4 a1 a2 b1 b2 c1 c2)) ∧ (rrestored_b5 a1 a2 b1 b2 c1 c2)) ∧ (rrestored_b6 a1 a2 b1 b2 c1 c2)) ∧ (rrestored_b7 a1 a2 b1 b2 c1 c2)) ∧ (((0 : Int) = (Int.ofNat 0)))) ∧ (((1 : Int) = (Int.ofNat 1)))) ∧ (((2 : Int) = (Int.ofNat 2)))) ∧ (rrestored_b8 a1 a2 b1 b2 c1 c2)) ∧ (rrestored_b9 a1 a2 b1 b2 c1 c2)) ∧ (rrestored_b10 a1 a2 b1 b2 c1 c2)) ∧ (rrestored_b11 a1 a2 b1 b2 c1 c2)) ∧ (((0 : Int) = (Int.ofNat 0)))) ∧ (((1 : Int) = (Int.ofNat 1)))) ∧ (((2 : Int) = (Int.ofNat 2)))) ∧ (rrestored_b12 a1 a2 b1 b2 c1 c2)) ∧ (rrestored_b13 a1 a2 b1 b2 c1 c2)) ∧ (rrestored_b14 a1 a2 b1 b2 c1 c2)) ∧ (rrestored_b15 a1 a2 b1 b2 c1 c2)) ∧ (((decide ((0 : Int) < (3 : Int))) = Bool.true))) ∧ (((0 : Int) = (Int.ofNat 0)))) ∧ (rrestored_c0 a1 a2 b1 b2 c1 c2 = true)) ∧ (rrestored_c0 a1 a2 b1 b2 c1 c2 = true)) ∧ (rrestored_c0 a1 a2 b1 b2 c1 c2 = true)) ∧ (rrestored_c0 a1 a2 b1 b2 c1 c2 = true)) ∧ (rrestored_c0 a1 a2 b1 b2 c1 c2 = true)) ∧ (rrestored_c0 a1 a2 b1 b2 c1 c2 = true)) ∧ (rrestored_c0 a1 a2 b1 b2 c1 c2 = true)) ∧ ((Bool.true = Bool.true)))
theorem rrestored_o0 (a1 a2 b1 b2 c1 c2 : Int) : obOf (rrestored_e0 a1 a2 b1 b2 c1 c2) = rrestored_r0 a1 a2 b1 b2 c1 c2 := by kernel_rfl
theorem rrestored_v0 (a1 a2 b1 b2 c1 c2 : Int) : resOf (rrestored_e0 a1 a2 b1 b2 c1 c2) = rrestored_w0 a1 a2 b1 b2 c1 c2 := by kernel_rfl
theorem rrestored_k0 (a1 a2 b1 b2 c1 c2 : Int) : cleanOf Tryz.prog.globals.size (rrestored_e0 a1 a2 b1 b2 c1 c2) = true := by kernel_rfl
theorem rrestored_q0 (a1 a2 b1 b2 c1 c2 : Int) : rrestored_e0 a1 a2 b1 b2 c1 c2 = evFS Tryz.prog x_rrestored 1000 37 #[.agg #[.int .i64 a1, .int .i64 a2, .int .i64 b1, .int .i64 b2, .int .i64 c1, .int .i64 c2]] (noTabs 6) ⟨[0, 1, 2, 0, 1, 2, 0, 1, 2, 1, 0, 0, 0, 0, 0, 0, 0, 1, 1], True⟩ := by
  delta rrestored_e0
  exact Eq.refl _
theorem rrestored_p0 (a1 a2 b1 b2 c1 c2 : Int) (h : rrestored_r0 a1 a2 b1 b2 c1 c2) (w : World) : Calls Tryz.prog 37 #[.agg #[.int .i64 a1, .int .i64 a2, .int .i64 b1, .int .i64 b2, .int .i64 c1, .int .i64 c2]] w fun en w' => en = .returned (rrestored_w0 a1 a2 b1 b2 c1 c2) ∧ Below w.heap.size w w' := by
  have hv := rrestored_v0 a1 a2 b1 b2 c1 c2
  have hc := rrestored_k0 a1 a2 b1 b2 c1 c2
  have he := rrestored_q0 a1 a2 b1 b2 c1 c2
  have ho := rrestored_o0 a1 a2 b1 b2 c1 c2
  generalize rrestored_e0 a1 a2 b1 b2 c1 c2 = r at *
  exact calls_way he gfol rrestored_X hv rfl (rrestored_args a1 a2 b1 b2 c1 c2) hc ho h (bl w)
def rrestored_w1 (a1 a2 b1 b2 c1 c2 : Int) : Value := .tuple #[.agg #[.int .i64 (0 : Int), .int .i64 (0 : Int), .int .i64 (0 : Int), .int .i64 (0 : Int), .int .i64 (0 : Int), .int .i64 (0 : Int)], .int .i64 (1 : Int)]
def rrestored_r1 (a1 a2 b1 b2 c1 c2 : Int) : Prop := (((((((((((((((((((((((((((((((((True ∧ (((Bg (268435456 : Int) (0 : Int) (1 : Int)) ∧ (Bg (268435456 : Int) (0 : Int) (1 : Int))))) ∧ (((0 : Int) = (Int.ofNat 0)))) ∧ (((1 : Int) = (Int.ofNat 1)))) ∧ (((2 : Int) = (Int.ofNat 2)))) ∧ (rrestored_b4 a1 a2 b1 b2 c1 c2)) ∧ (rrestored_b5 a1 a2 b1 b2 c1 c2)) ∧ (rrestored_b6 a1 a2 b1 b2 c1 c2)) ∧ (rrestored_b7 a1 a2 b1 b2 c1 c2)) ∧ (((0 : Int) = (Int.ofNat 0)))) ∧ (((1 : Int) = (Int.ofNat 1)))) ∧ (((2 : Int) = (Int.ofNat 2)))) ∧ (rrestored_b8 a1 a2 b1 b2 c1 c2)) ∧ (rrestored_b9 a1 a2 b1 b2 c1 c2)) ∧ (rrestored_b10 a1 a2 b1 b2 c1 c2)) ∧ (rrestored_b11 a1 a2 b1 b2 c1 c2)) ∧ (((0 : Int) = (Int.ofNat 0)))) ∧ (((1 : Int) = (Int.ofNat 1)))) ∧ (((2 : Int) = (Int.ofNat 2)))) ∧ (rrestored_b12 a1 a2 b1 b2 c1 c2)) ∧ (rrestored_b13 a1 a2 b1 b2 c1 c2)) ∧ (rrestored_b14 a1 a2 b1 b2 c1 c2)) ∧ (rrestored_b15 a1 a2 b1 b2 c1 c2)) ∧ (((decide ((0 : Int) < (3 : Int))) = Bool.true))) ∧ (((0 : Int) = (Int.ofNat 0)))) ∧ (rrestored_c0 a1 a2 b1 b2 c1 c2 = false)) ∧ (rrestored_c0 a1 a2 b1 b2 c1 c2 = false)) ∧ (((0 : Int) = (Int.ofNat 0)))) ∧ (rrestored_c0 a1 a2 b1 b2 c1 c2 = false)) ∧ (rrestored_c0 a1 a2 b1 b2 c1 c2 = false)) ∧ (rrestored_c0 a1 a2 b1 b2 c1 c2 = false)) ∧ (rrestored_c0 a1 a2 b1 b2 c1 c2 = false)) ∧ (rrestored_c0 a1 a2 b1 b2 c1 c2 = false)) ∧ (rrestored_c1 a1 a2 b1 b2 c1 c2 = true))
theorem rrestored_o1 (a1 a2 b1 b2 c1 c2 : Int) : obOf (rrestored_e1 a1 a2 b1 b2 c1 c2) = rrestored_r1 a1 a2 b1 b2 c1 c2 := by kernel_rfl
theorem rrestored_v1 (a1 a2 b1 b2 c1 c2 : Int) : resOf (rrestored_e1 a1 a2 b1 b2 c1 c2) = rrestored_w1 a1 a2 b1 b2 c1 c2 := by kernel_rfl
theorem rrestored_k1 (a1 a2 b1 b2 c1 c2 : Int) : cleanOf Tryz.prog.globals.size (rrestored_e1 a1 a2 b1 b2 c1 c2) = true := by kernel_rfl
theorem rrestored_q1 (a1 a2 b1 b2 c1 c2 : Int) : rrestored_e1 a1 a2 b1 b2 c1 c2 = evFS Tryz.prog x_rrestored 1000 37 #[.agg #[.int .i64 a1, .int .i64 a2, .int .i64 b1, .int .i64 b2, .int .i64 c1, .int .i64 c2]] (noTabs 6) ⟨[0, 1, 2, 0, 1, 2, 0, 1, 2, 1, 0, 1, 1, 0, 1, 1, 1, 1, 0, 1], True⟩ := by
  delta rrestored_e1
  exact Eq.refl _
theorem rrestored_p1 (a1 a2 b1 b2 c1 c2 : Int) (h : rrestored_r1 a1 a2 b1 b2 c1 c2) (w : World) : Calls Tryz.prog 37 #[.agg #[.int .i64 a1, .int .i64 a2, .int .i64 b1, .int .i64 b2, .int .i64 c1, .int .i64 c2]] w fun en w' => en = .returned (rrestored_w1 a1 a2 b1 b2 c1 c2) ∧ Below w.heap.size w w' := by
  have hv := rrestored_v1 a1 a2 b1 b2 c1 c2
  have hc := rrestored_k1 a1 a2 b1 b2 c1 c2
  have he := rrestored_q1 a1 a2 b1 b2 c1 c2
  have ho := rrestored_o1 a1 a2 b1 b2 c1 c2
  generalize rrestored_e1 a1 a2 b1 b2 c1 c2 = r at *
  exact calls_way he gfol rrestored_X hv rfl (rrestored_args a1 a2 b1 b2 c1 c2) hc ho h (bl w)
def rrestored_w2 (a1 a2 b1 b2 c1 c2 : Int) : Value := .tuple #[.agg #[.int .i64 (IntKind.i64.wrap (Int.tdiv ((Pl.add (a1, a2) (((Pl.add (((Pl.mul ((1 : Int), (0 : Int)) (b1, b2))).1, ((Pl.mul ((1 : Int), (0 : Int)) (b1, b2))).2) (((Pl.mul ((1 : Int), (0 : Int)) (c1, c2))).1, ((Pl.mul ((1 : Int), (0 : Int)) (c1, c2))).2))).1, ((Pl.add (((Pl.mul ((1 : Int), (0 : Int)) (b1, b2))).1, ((Pl.mul ((1 : Int), (0 : Int)) (b1, b2))).2) (((Pl.mul ((1 : Int), (0 : Int)) (c1, c2))).1, ((Pl.mul ((1 : Int), (0 : Int)) (c1, c2))).2))).2))).1 (3 : Int))), .int .i64 (IntKind.i64.wrap (Int.tdiv ((Pl.add (a1, a2) (((Pl.add (((Pl.mul ((1 : Int), (0 : Int)) (b1, b2))).1, ((Pl.mul ((1 : Int), (0 : Int)) (b1, b2))).2) (((Pl.mul ((1 : Int), (0 : Int)) (c1, c2))).1, ((Pl.mul ((1 : Int), (0 : Int)) (c1, c2))).2))).1, ((Pl.add (((Pl.mul ((1 : Int), (0 : Int)) (b1, b2))).1, ((Pl.mul ((1 : Int), (0 : Int)) (b1, b2))).2) (((Pl.mul ((1 : Int), (0 : Int)) (c1, c2))).1, ((Pl.mul ((1 : Int), (0 : Int)) (c1, c2))).2))).2))).2 (3 : Int))), .int .i64 (IntKind.i64.wrap (Int.tdiv ((Pl.add (a1, a2) (((Pl.add (((Pl.mul (((Pl.mul ((0 : Int), (1 : Int)) ((0 : Int), (1 : Int)))).1, ((Pl.mul ((0 : Int), (1 : Int)) ((0 : Int), (1 : Int)))).2) (b1, b2))).1, ((Pl.mul (((Pl.mul ((0 : Int), (1 : Int)) ((0 : Int), (1 : Int)))).1, ((Pl.mul ((0 : Int), (1 : Int)) ((0 : Int), (1 : Int)))).2) (b1, b2))).2) (((Pl.mul ((0 : Int), (1 : Int)) (c1, c2))).1, ((Pl.mul ((0 : Int), (1 : Int)) (c1, c2))).2))).1, ((Pl.add (((Pl.mul (((Pl.mul ((0 : Int), (1 : Int)) ((0 : Int), (1 : Int)))).1, ((Pl.mul ((0 : Int), (1 : Int)) ((0 : Int), (1 : Int)))).2) (b1, b2))).1, ((Pl.mul (((Pl.mul ((0 : Int), (1 : Int)) ((0 : Int), (1 : Int)))).1, ((Pl.mul ((0 : Int), (1 : Int)) ((0 : Int), (1 : Int)))).2) (b1, b2))).2) (((Pl.mul ((0 : Int), (1 : Int)) (c1, c2))).1, ((Pl.mul ((0 : Int), (1 : Int)) (c1, c2))).2))).2))).1 (3 : Int))), .int .i64 (IntKind.i64.wrap (Int.tdiv ((Pl.add (a1, a2) (((Pl.add (((Pl.mul (((Pl.mul ((0 : Int), (1 : Int)) ((0 : Int), (1 : Int)))).1, ((Pl.mul ((0 : Int), (1 : Int)) ((0 : Int), (1 : Int)))).2) (b1, b2))).1, ((Pl.mul (((Pl.mul ((0 : Int), (1 : Int)) ((0 : Int), (1 : Int)))).1, ((Pl.mul ((0 : Int), (1 : Int)) ((0 : Int), (1 : Int)))).2) (b1, b2))).2) (((Pl.mul ((0 : Int), (1 : Int)) (c1, c2))).1, ((Pl.mul ((0 : Int), (1 : Int)) (c1, c2))).2))).1, ((Pl.add (((Pl.mul (((Pl.mul ((0 : Int), (1 : Int)) ((0 : Int), (1 : Int)))).1, ((Pl.mul ((0 : Int), (1 : Int)) ((0 : Int), (1 : Int)))).2) (b1, b2))).1, ((Pl.mul (((Pl.mul ((0 : Int), (1 : Int)) ((0 : Int), (1 : Int)))).1, ((Pl.mul ((0 : Int), (1 : Int)) ((0 : Int), (1 : Int)))).2) (b1, b2))).2) (((Pl.mul ((0 : Int), (1 : Int)) (c1, c2))).1, ((Pl.mul ((0 : Int), (1 : Int)) (c1, c2))).2))).2))).2 (3 : Int))), .int .i64 (IntKind.i64.wrap (Int.tdiv ((Pl.add (a1, a2) (((Pl.add (((Pl.mul ((0 : Int), (1 : Int)) (b1, b2))).1, ((Pl.mul ((0 : Int), (1 : Int)) (b1, b2))).2) (((Pl.mul (((Pl.mul ((0 : Int), (1 : Int)) ((0 : Int), (1 : Int)))).1, ((Pl.mul ((0 : Int), (1 : Int)) ((0 : Int), (1 : Int)))).2) (c1, c2))).1, ((Pl.mul (((Pl.mul ((0 : Int), (1 : Int)) ((0 : Int), (1 : Int)))).1, ((Pl.mul ((0 : Int), (1 : Int)) ((0 : Int), (1 : Int)))).2) (c1, c2))).2))).1, ((Pl.add (((Pl.mul ((0 : Int), (1 : Int)) (b1, b2))).1, ((Pl.mul ((0 : Int), (1 : Int)) (b1, b2))).2) (((Pl.mul (((Pl.mul ((0 : Int), (1 : Int)) ((0 : Int), (1 : Int)))).1, ((Pl.mul ((0 : Int), (1 : Int)) ((0 : Int), (1 : Int)))).2) (c1, c2))).1, ((Pl.mul (((Pl.mul ((0 : Int), (1 : Int)) ((0 : Int), (1 : Int)))).1, ((Pl.mul ((0 : Int), (1 : Int)) ((0 : Int), (1 : Int)))).2) (c1, c2))).2))).2))).1 (3 : Int))), .int .i64 (IntKind.i64.wrap (Int.tdiv ((Pl.add (a1, a2) (((Pl.add (((Pl.mul ((0 : Int), (1 : Int)) (b1, b2))).1, ((Pl.mul ((0 : Int), (1 : Int)) (b1, b2))).2) (((Pl.mul (((Pl.mul ((0 : Int), (1 : Int)) ((0 : Int), (1 : Int)))).1, ((Pl.mul ((0 : Int), (1 : Int)) ((0 : Int), (1 : Int)))).2) (c1, c2))).1, ((Pl.mul (((Pl.mul ((0 : Int), (1 : Int)) ((0 : Int), (1 : Int)))).1, ((Pl.mul ((0 : Int), (1 : Int)) ((0 : Int), (1 : Int)))).2) (c1, c2))).2))).1, ((Pl.add (((Pl.mul ((0 : Int), (1 : Int)) (b1, b2))).1, ((Pl.mul ((0 : Int), (1 : Int)) (b1, b2))).2) (((Pl.mul (((Pl.mul ((0 : Int), (1 : Int)) ((0 : Int), (1 : Int)))).1, ((Pl.mul ((0 : Int), (1 : Int)) ((0 : Int), (1 : Int)))).2) (c1, c2))).1, ((Pl.mul (((Pl.mul ((0 : Int), (1 : Int)) ((0 : Int), (1 : Int)))).1, ((Pl.mul ((0 : Int), (1 : Int)) ((0 : Int), (1 : Int)))).2) (c1, c2))).2))).2))).2 (3 : Int)))], .int .i64 (0 : Int)]
def rrestored_r2 (a1 a2 b1 b2 c1 c2 : Int) : Prop := (((((((((((((((((((((((((((((((((((((((((((((((((((((((((((((((((((True ∧ (((Bg (268435456 : Int) (0 : Int) (1 : Int)) ∧ (Bg (268435456 : Int) (0 : Int) (1 : Int))))) ∧ (((0 : Int) = (Int.ofNat 0)))) ∧ (((1 : Int) = (Int.ofNat 1)))) ∧ (((2 : Int) = (Int.ofNat 2)))) ∧ (rrestored_b4 a1 a2 b1 b2 c1 c2)) ∧ (rrestored_b5 a1 a2 b1 b2 c1 c2)) ∧ (rrestored_b6 a1 a2 b1 b2 c1 c2)) ∧ (rrestored_b7 a1 a2 b1 b2 c1 c2)) ∧ (((0 : Int) = (Int.ofNat 0)))) ∧ (((1 : Int) = (Int.ofNat 1)))) ∧ (((2 : Int) = (Int.ofNat 2)))) ∧ (rrestored_b8 a1 a2 b1 b2 c1 c2)) ∧ (rrestored_b9 a1 a2 b1 b2 c1 c2)) ∧ (rrestored_b10 a1 a2 b1 b2 c1 c2)) ∧ (rrestored_b11 a1 a2 b1 b2 c1 c2)) ∧ (((0 : Int) = (Int.ofNat 0)))) ∧ (((1 : Int) = (Int.ofNat 1)))) ∧ (((2 : Int) = (Int.ofNat 2)))) ∧ (rrestored_b12 a1 a2 b1 b2 c1 c2)) ∧ (rrestored_b13 a1 a2 b1 b2 c1 c2)) ∧ (rrestored_b14 a1 a2 b1 b2 c1 c2)) ∧ (rrestored_b15 a1 a2 b1 b2 c1 c2)) ∧ (((decide ((0 : Int) < (3 : Int))) = Bool.true))) ∧ (((0 : Int) = (Int.ofNat 0)))) ∧ (rrestored_c0 a1 a2 b1 b2 c1 c2 = false)) ∧ (rrestored_c0 a1 a2 b1 b2 c1 c2 = false)) ∧ (((0 : Int) = (Int.ofNat 0)))) ∧ (rrestored_c0 a1 a2 b1 b2 c1 c2 = false)) ∧ (rrestored_c0 a1 a2 b1 b2 c1 c2 = false)) ∧ (rrestored_c0 a1 a2 b1 b2 c1 c2 = false)) ∧ (rrestored_c0 a1 a2 b1 b2 c1 c2 = false)) ∧ (rrestored_c0 a1 a2 b1 b2 c1 c2 = false)) ∧ (rrestored_c1 a1 a2 b1 b2 c1 c2 = false)) ∧ (((0 : Int) = (Int.ofNat 0)))) ∧ (((0 : Int) = (Int.ofNat 0)))) ∧ (((0 : Int) = (Int.ofNat 0)))) ∧ (((decide ((IntKind.i64.wrap ((0 : Int) + (1 : Int))) < (3 : Int))) = Bool.true))) ∧ (((IntKind.i64.wrap ((0 : Int) + (1 : Int))) = (Int.ofNat 1)))) ∧ (rrestored_c2 a1 a2 b1 b2 c1 c2 = false)) ∧ (rrestored_c2 a1 a2 b1 b2 c1 c2 = false)) ∧ (((IntKind.i64.wrap ((0 : Int) + (1 : Int))) = (Int.ofNat 1)))) ∧ (rrestored_c2 a1 a2 b1 b2 c1 c2 = false)) ∧ (rrestored_c2 a1 a2 b1 b2 c1 c2 = false)) ∧ (rrestored_c2 a1 a2 b1 b2 c1 c2 = false)) ∧ (rrestored_c2 a1 a2 b1 b2 c1 c2 = false)) ∧ (rrestored_c2 a1 a2 b1 b2 c1 c2 = false)) ∧ (rrestored_c3 a1 a2 b1 b2 c1 c2 = false)) ∧ (((IntKind.i64.wrap ((0 : Int) + (1 : Int))) = (Int.ofNat 1)))) ∧ (((IntKind.i64.wrap ((0 : Int) + (1 : Int))) = (Int.ofNat 1)))) ∧ (((IntKind.i64.wrap ((0 : Int) + (1 : Int))) = (Int.ofNat 1)))) ∧ (((decide ((IntKind.i64.wrap ((IntKind.i64.wrap ((0 : Int) + (1 : Int))) + (1 : Int))) < (3 : Int))) = Bool.true))) ∧ (((IntKind.i64.wrap ((IntKind.i64.wrap ((0 : Int) + (1 : Int))) + (1 : Int))) = (Int.ofNat 2)))) ∧ (rrestored_c4 a1 a2 b1 b2 c1 c2 = false)) ∧ (rrestored_c4 a1 a2 b1 b2 c1 c2 = false)) ∧ (((IntKind.i64.wrap ((IntKind.i64.wrap ((0 : Int) + (1 : Int))) + (1 : Int))) = (Int.ofNat 2)))) ∧ (rrestored_c4 a1 a2 b1 b2 c1 c2 = false)) ∧ (rrestored_c4 a1 a2 b1 b2 c1 c2 = false)) ∧ (rrestored_c4 a1 a2 b1 b2 c1 c2 = false)) ∧ (rrestored_c4 a1 a2 b1 b2 c1 c2 = false)) ∧ (rrestored_c4 a1 a2 b1 b2 c1 c2 = false)) ∧ (rrestored_c5 a1 a2 b1 b2 c1 c2 = false)) ∧ (((IntKind.i64.wrap ((IntKind.i64.wrap ((0 : Int) + (1 : Int))) + (1 : Int))) = (Int.ofNat 2)))) ∧ (((IntKind.i64.wrap ((IntKind.i64.wrap ((0 : Int) + (1 : Int))) + (1 : Int))) = (Int.ofNat 2)))) ∧ (((IntKind.i64.wrap ((IntKind.i64.wrap ((0 : Int) + (1 : Int))) + (1 : Int))) = (Int.ofNat 2)))) ∧ (((decide ((IntKind.i64.wrap ((IntKind.i64.wrap ((IntKind.i64.wrap ((0 : Int) + (1 : Int))) + (1 : Int))) + (1 : Int))) < (3 : Int))) = Bool.false))) ∧ (True)) ∧ (rrestored_c6 a1 a2 b1 b2 c1 c2 = false))
theorem rrestored_o2 (a1 a2 b1 b2 c1 c2 : Int) : obOf (rrestored_e2 a1 a2 b1 b2 c1 c2) = rrestored_r2 a1 a2 b1 b2 c1 c2 := by kernel_rfl
theorem rrestored_v2 (a1 a2 b1 b2 c1 c2 : Int) : resOf (rrestored_e2 a1 a2 b1 b2 c1 c2) = rrestored_w2 a1 a2 b1 b2 c1 c2 := by kernel_rfl
theorem rrestored_k2 (a1 a2 b1 b2 c1 c2 : Int) : cleanOf Tryz.prog.globals.size (rrestored_e2 a1 a2 b1 b2 c1 c2) = true := by kernel_rfl
theorem rrestored_q2 (a1 a2 b1 b2 c1 c2 : Int) : rrestored_e2 a1 a2 b1 b2 c1 c2 = evFS Tryz.prog x_rrestored 1000 37 #[.agg #[.int .i64 a1, .int .i64 a2, .int .i64 b1, .int .i64 b2, .int .i64 c1, .int .i64 c2]] (noTabs 6) ⟨[0, 1, 2, 0, 1, 2, 0, 1, 2, 1, 0, 1, 1, 0, 1, 1, 1, 1, 0, 0, 0, 0, 0, 1, 1, 1, 1, 1, 1, 1, 1, 1, 0, 0, 1, 1, 1, 1, 2, 1, 1, 2, 1, 1, 1, 1, 0, 0, 2, 2, 2, 0, 0], True⟩ := by
  delta rrestored_e2
  exact Eq.refl _
theorem rrestored_p2 (a1 a2 b1 b2 c1 c2 : Int) (h : rrestored_r2 a1 a2 b1 b2 c1 c2) (w : World) : Calls Tryz.prog 37 #[.agg #[.int .i64 a1, .int .i64 a2, .int .i64 b1, .int .i64 b2, .int .i64 c1, .int .i64 c2]] w fun en w' => en = .returned (rrestored_w2 a1 a2 b1 b2 c1 c2) ∧ Below w.heap.size w w' := by
  have hv := rrestored_v2 a1 a2 b1 b2 c1 c2
  have hc := rrestored_k2 a1 a2 b1 b2 c1 c2
  have he := rrestored_q2 a1 a2 b1 b2 c1 c2
  have ho := rrestored_o2 a1 a2 b1 b2 c1 c2
  generalize rrestored_e2 a1 a2 b1 b2 c1 c2 = r at *
  exact calls_way he gfol rrestored_X hv rfl (rrestored_args a1 a2 b1 b2 c1 c2) hc ho h (bl w)
def rrestored_w3 (a1 a2 b1 b2 c1 c2 : Int) : Value := .tuple #[.agg #[.int .i64 (0 : Int), .int .i64 (0 : Int), .int .i64 (0 : Int), .int .i64 (0 : Int), .int .i64 (0 : Int), .int .i64 (0 : Int)], .int .i64 (1 : Int)]
def rrestored_r3 (a1 a2 b1 b2 c1 c2 : Int) : Prop := ((((((((((((((((((((((((((((((((((((((((((((((True ∧ (((Bg (268435456 : Int) (0 : Int) (1 : Int)) ∧ (Bg (268435456 : Int) (0 : Int) (1 : Int))))) ∧ (((0 : Int) = (Int.ofNat 0)))) ∧ (((1 : Int) = (Int.ofNat 1)))) ∧ (((2 : Int) = (Int.ofNat 2)))) ∧ (rrestored_b4 a1 a2 b1 b2 c1 c2)) ∧ (rrestored_b5 a1 a2 b1 b2 c1 c2)) ∧ (rrestored_b6 a1 a2 b1 b2 c1 c2)) ∧ (rrestored_b7 a1 a2 b1 b2 c1 c2)) ∧ (((0 : Int) = (Int.ofNat 0)))) ∧ (((1 : Int) = (Int.ofNat 1)))) ∧ (((2 : Int) = (Int.ofNat 2)))) ∧ (rrestored_b8 a1 a2 b1 b2 c1 c2)) ∧ (rrestored_b9 a1 a2 b1 b2 c1 c2)) ∧ (rrestored_b10 a1 a2 b1 b2 c1 c2)) ∧ (rrestored_b11 a1 a2 b1 b2 c1 c2)) ∧ (((0 : Int) = (Int.ofNat 0)))) ∧ (((1 : Int) = (Int.ofNat 1)))) ∧ (((2 : Int) = (Int.ofNat 2)))) ∧ (rrestored_b12 a1 a2 b1 b2 c1 c2)) ∧ (rrestored_b13 a1 a2 b1 b2 c1 c2)) ∧ (rrestored_b14 a1 a2 b1 b2 c1 c2)) ∧ (rrestored_b15 a1 a2 b1 b2 c1 c2)) ∧ (((decide ((0 : Int) < (3 : Int))) = Bool.true))) ∧ (((0 : Int) = (Int.ofNat 0)))) ∧ (rrestored_c0 a1 a2 b1 b2 c1 c2 = false)) ∧ (rrestored_c0 a1 a2 b1 b2 c1 c2 = false)) ∧ (((0 : Int) = (Int.ofNat 0)))) ∧ (rrestored_c0 a1 a2 b1 b2 c1 c2 = false)) ∧ (rrestored_c0 a1 a2 b1 b2 c1 c2 = false)) ∧ (rrestored_c0 a1 a2 b1 b2 c1 c2 = false)) ∧ (rrestored_c0 a1 a2 b1 b2 c1 c2 = false)) ∧ (rrestored_c0 a1 a2 b1 b2 c1 c2 = false)) ∧ (rrestored_c1 a1 a2 b1 b2 c1 c2 = false)) ∧ (((0 : Int) = (Int.ofNat 0)))) ∧ (((0 : Int) = (Int.ofNat 0)))) ∧ (((0 : Int) = (Int.ofNat 0)))) ∧ (((decide ((IntKind.i64.wrap ((0 : Int) + (1 : Int))) < (3 : Int))) = Bool.true))) ∧ (((IntKind.i64.wrap ((0 : Int) + (1 : Int))) = (Int.ofNat 1)))) ∧ (rrestored_c2 a1 a2 b1 b2 c1 c2 = true)) ∧ (rrestored_c2 a1 a2 b1 b2 c1 c2 = true)) ∧ (rrestored_c2 a1 a2 b1 b2 c1 c2 = true)) ∧ (rrestored_c2 a1 a2 b1 b2 c1 c2 = true)) ∧ (rrestored_c2 a1 a2 b1 b2 c1 c2 = true)) ∧ (rrestored_c2 a1 a2 b1 b2 c1 c2 = true)) ∧ (rrestored_c2 a1 a2 b1 b2 c1 c2 = true)) ∧ ((Bool.true = Bool.true)))
theorem rrestored_o3 (a1 a2 b1 b2 c1 c2 : Int) : obOf (rrestored_e3 a1 a2 b1 b2 c1 c2) = rrestored_r3 a1 a2 b1 b2 c1 c2 := by kernel_rfl
theorem rrestored_v3 (a1 a2 b1 b2 c1 c2 : Int) : resOf (rrestored_e3 a1 a2 b1 b2 c1 c2) = rrestored_w3 a1 a2 b1 b2 c1 c2 := by kernel_rfl
theorem rrestored_k3 (a1 a2 b1 b2 c1 c2 : Int) : cleanOf Tryz.prog.globals.size (rrestored_e3 a1 a2 b1 b2 c1 c2) = true := by kernel_rfl
theorem rrestored_q3 (a1 a2 b1 b2 c1 c2 : Int) : rrestored_e3 a1 a2 b1 b2 c1 c2 = evFS Tryz.prog x_rrestored 1000 37 #[.agg #[.int .i64 a1, .int .i64 a2, .int .i64 b1, .int .i64 b2, .int .i64 c1, .int .i64 c2]] (noTabs 6) ⟨[0, 1, 2, 0, 1, 2, 0, 1, 2, 1, 0, 1, 1, 0, 1, 1, 1, 1, 0, 0, 0, 0, 0, 1, 1, 0, 0, 0, 0, 0, 0, 1, 1], True⟩ := by
  delta rrestored_e3
  exact Eq.refl _
theorem rrestored_p3 (a1 a2 b1 b2 c1 c2 : Int) (h : rrestored_r3 a1 a2 b1 b2 c1 c2) (w : World) : Calls Tryz.prog 37 #[.agg #[.int .i64 a1, .int .i64 a2, .int .i64 b1, .int .i64 b2, .int .i64 c1, .int .i64 c2]] w fun en w' => en = .returned (rrestored_w3 a1 a2 b1 b2 c1 c2) ∧ Below w.heap.size w w' := by
  have hv := rrestored_v3 a1 a2 b1 b2 c1 c2
  have hc := rrestored_k3 a1 a2 b1 b2 c1 c2
  have he := rrestored_q3 a1 a2 b1 b2 c1 c2
  have ho := rrestored_o3 a1 a2 b1 b2 c1 c2
  generalize rrestored_e3 a1 a2 b1 b2 c1 c2 = r at *
  exact calls_way he gfol rrestored_X hv rfl (rrestored_args a1 a2 b1 b2 c1 c2) hc ho h (bl w)
def rrestored_w4 (a1 a2 b1 b2 c1 c2 : Int) : Value := .tuple #[.agg #[.int .i64 (0 : Int), .int .i64 (0 : Int), .int .i64 (0 : Int), .int .i64 (0 : Int), .int .i64 (0 : Int), .int .i64 (0 : Int)], .int .i64 (1 : Int)]
def rrestored_r4 (a1 a2 b1 b2 c1 c2 : Int) : Prop := (((((((((((((((((((((((((((((((((((((((((((((((((((((((((((((((((((True ∧ (((Bg (268435456 : Int) (0 : Int) (1 : Int)) ∧ (Bg (268435456 : Int) (0 : Int) (1 : Int))))) ∧ (((0 : Int) = (Int.ofNat 0)))) ∧ (((1 : Int) = (Int.ofNat 1)))) ∧ (((2 : Int) = (Int.ofNat 2)))) ∧ (rrestored_b4 a1 a2 b1 b2 c1 c2)) ∧ (rrestored_b5 a1 a2 b1 b2 c1 c2)) ∧ (rrestored_b6 a1 a2 b1 b2 c1 c2)) ∧ (rrestored_b7 a1 a2 b1 b2 c1 c2)) ∧ (((0 : Int) = (Int.ofNat 0)))) ∧ (((1 : Int) = (Int.ofNat 1)))) ∧ (((2 : Int) = (Int.ofNat 2)))) ∧ (rrestored_b8 a1 a2 b1 b2 c1 c2)) ∧ (rrestored_b9 a1 a2 b1 b2 c1 c2)) ∧ (rrestored_b10 a1 a2 b1 b2 c1 c2)) ∧ (rrestored_b11 a1 a2 b1 b2 c1 c2)) ∧ (((0 : Int) = (Int.ofNat 0)))) ∧ (((1 : Int) = (Int.ofNat 1)))) ∧ (((2 : Int) = (Int.ofNat 2)))) ∧ (rrestored_b12 a1 a2 b1 b2 c1 c2)) ∧ (rrestored_b13 a1 a2 b1 b2 c1 c2)) ∧ (rrestored_b14 a1 a2 b1 b2 c1 c2)) ∧ (rrestored_b15 a1 a2 b1 b2 c1 c2)) ∧ (((decide ((0 : Int) < (3 : Int))) = Bool.true))) ∧ (((0 : Int) = (Int.ofNat 0)))) ∧ (rrestored_c0 a1 a2 b1 b2 c1 c2 = false)) ∧ (rrestored_c0 a1 a2 b1 b2 c1 c2 = false)) ∧ (((0 : Int) = (Int.ofNat 0)))) ∧ (rrestored_c0 a1 a2 b1 b2 c1 c2 = false)) ∧ (rrestored_c0 a1 a2 b1 b2 c1 c2 = false)) ∧ (rrestored_c0 a1 a2 b1 b2 c1 c2 = false)) ∧ (rrestored_c0 a1 a2 b1 b2 c1 c2 = false)) ∧ (rrestored_c0 a1 a2 b1 b2 c1 c2 = false)) ∧ (rrestored_c1 a1 a2 b1 b2 c1 c2 = false)) ∧ (((0 : Int) = (Int.ofNat 0)))) ∧ (((0 : Int) = (Int.ofNat 0)))) ∧ (((0 : Int) = (Int.ofNat 0)))) ∧ (((decide ((IntKind.i64.wrap ((0 : Int) + (1 : Int))) < (3 : Int))) = Bool.true))) ∧ (((IntKind.i64.wrap ((0 : Int) + (1 : Int))) = (Int.ofNat 1)))) ∧ (rrestored_c2 a1 a2 b1 b2 c1 c2 = false)) ∧ (rrestored_c2 a1 a2 b1 b2 c1 c2 = false)) ∧ (((IntKind.i64.wrap ((0 : Int) + (1 : Int))) = (Int.ofNat 1)))) ∧ (rrestored_c2 a1 a2 b1 b2 c1 c2 = false)) ∧ (rrestored_c2 a1 a2 b1 b2 c1 c2 = false)) ∧ (rrestored_c2 a1 a2 b1 b2 c1 c2 = false)) ∧ (rrestored_c2 a1 a2 b1 b2 c1 c2 = false)) ∧ (rrestored_c2 a1 a2 b1 b2 c1 c2 = false)) ∧ (rrestored_c3 a1 a2 b1 b2 c1 c2 = false)) ∧ (((IntKind.i64.wrap ((0 : Int) + (1 : Int))) = (Int.ofNat 1)))) ∧ (((IntKind.i64.wrap ((0 : Int) + (1 : Int))) = (Int.ofNat 1)))) ∧ (((IntKind.i64.wrap ((0 : Int) + (1 : Int))) = (Int.ofNat 1)))) ∧ (((decide ((IntKind.i64.wrap ((IntKind.i64.wrap ((0 : Int) + (1 : Int))) + (1 : Int))) < (3 : Int))) = Bool.true))) ∧ (((IntKind.i64.wrap ((IntKind.i64.wrap ((0 : Int) + (1 : Int))) + (1 : Int))) = (Int.ofNat 2)))) ∧ (rrestored_c4 a1 a2 b1 b2 c1 c2 = false)) ∧ (rrestored_c4 a1 a2 b1 b2 c1 c2 = false)) ∧ (((IntKind.i64.wrap ((IntKind.i64.wrap ((0 : Int) + (1 : Int))) + (1 : Int))) = (Int.ofNat 2)))) ∧ (rrestored_c4 a1 a2 b1 b2 c1 c2 = false)) ∧ (rrestored_c4 a1 a2 b1 b2 c1 c2 = false)) ∧ (rrestored_c4 a1 a2 b1 b2 c1 c2 = false)) ∧ (rrestored_c4 a1 a2 b1 b2 c1 c2 = false)) ∧ (rrestored_c4 a1 a2 b1 b2 c1 c2 = false)) ∧ (rrestored_c5 a1 a2 b1 b2 c1 c2 = false)) ∧ (((IntKind.i64.wrap ((IntKind.i64.wrap ((0 : Int) + (1 : Int))) + (1 : Int))) = (Int.ofNat 2)))) ∧ (((IntKind.i64.wrap ((IntKind.i64.wrap ((0 : Int) + (1 : Int))) + (1 : Int))) = (Int.ofNat 2)))) ∧ (((IntKind.i64.wrap ((IntKind.i64.wrap ((0 : Int) + (1 : Int))) + (1 : Int))) = (Int.ofNat 2)))) ∧ (((decide ((IntKind.i64.wrap ((IntKind.i64.wrap ((IntKind.i64.wrap ((0 : Int) + (1 : Int))) + (1 : Int))) + (1 : Int))) < (3 : Int))) = Bool.false))) ∧ (True)) ∧ (rrestored_c6 a1 a2 b1 b2 c1 c2 = true))
theorem rrestored_o4 (a1 a2 b1 b2 c1 c2 : Int) : obOf (rrestored_e4 a1 a2 b1 b2 c1 c2) = rrestored_r4 a1 a2 b1 b2 c1 c2 := by kernel_rfl
theorem rrestored_v4 (a1 a2 b1 b2 c1 c2 : Int) : resOf (rrestored_e4 a1 a2 b1 b2 c1 c2) = rrestored_w4 a1 a2 b1 b2 c1 c2 := by kernel_rfl
theorem rrestored_k4 (a1 a2 b1 b2 c1 c2 : Int) : cleanOf Tryz.prog.globals.size (rrestored_e4 a1 a2 b1 b2 c1 c2) = true := by kernel_rfl
theorem rrestored_q4 (a1 a2 b1 b2 c1 c2 : Int) : rrestored_e4 a1 a2 b1 b2 c1 c2 = evFS Tryz.prog x_rrestored 1000 37 #[.agg #[.int .i64 a1, .int .i64 a2, .int .i64 b1, .int .i64 b2, .int .i64 c1, .int .i64 c2]] (noTabs 6) ⟨[0, 1, 2, 0, 1, 2, 0, 1, 2, 1, 0, 1, 1, 0, 1, 1, 1, 1, 0, 0, 0, 0, 0, 1, 1, 1, 1, 1, 1, 1, 1, 1, 0, 0, 1, 1, 1, 1, 2, 1, 1, 2, 1, 1, 1, 1, 0, 0, 2, 2, 2, 0, 1], True⟩ := by
  delta rrestored_e4
  exact Eq.refl _
theorem rrestored_p4 (a1 a2 b1 b2 c1 c2 : Int) (h : rrestored_r4 a1 a2 b1 b2 c1 c2) (w : World) : Calls Tryz.prog 37 #[.agg #[.int .i64 a1, .int .i64 a2, .int .i64 b1, .int .i64 b2, .int .i64 c1, .int .i64 c2]] w fun en w' => en = .returned (rrestored_w4 a1 a2 b1 b2 c1 c2) ∧ Below w.heap.size w w' := by
  have hv := rrestored_v4 a1 a2 b1 b2 c1 c2
  have hc := rrestored_k4 a1 a2 b1 b2 c1 c2
  have he := rrestored_q4 a1 a2 b1 b2 c1 c2
  have ho := rrestored_o4 a1 a2 b1 b2 c1 c2
  generalize rrestored_e4 a1 a2 b1 b2 c1 c2 = r at *
  exact calls_way he gfol rrestored_X hv rfl (rrestored_args a1 a2 b1 b2 c1 c2) hc ho h (bl w)
theorem rrestored_any (a1 a2 b1 b2 c1 c2 : Int) (hpre : Bg 1048576 a1 a2 ∧ Bg 1048576 b1 b2 ∧ Bg 1048576 c1 c2) (w : World) : Calls Tryz.prog 37 #[.agg #[.int .i64 a1, .int .i64 a2, .int .i64 b1, .int .i64 b2, .int .i64 c1, .int .i64 c2]] w fun en w' => en = .returned (rrestored_val a1 a2 b1 b2 c1 c2) ∧ Below w.heap.size w w' := by
  have q0 := td3 (a1 + b1 + c1)
  have q1 := td3 (a2 + b2 + c2)
  have q2 := td3 (a1 + (b2 - b1) + -c2)
  have q3 := td3 (a2 + -b1 + (c1 - c2))
  have q4 := td3 (a1 + -b2 + (c2 - c1))
  have q5 := td3 (a2 + (b1 - b2) + -c1)
  obtain ⟨g1, g2, g3⟩ := hpre
  have h0 : (rrestored_b4 a1 a2 b1 b2 c1 c2) := by
    unfold rrestored_b4
    first | rfl | trivial | decide | ((try simp only [bne_eq_false_iff_eq, bne_iff_ne, ne_eq, beq_iff_eq, beq_eq_false_iff_ne, Pl.add, Pl.mul, tm3] at *); omega) | ((try simp only [Bg, Pl.add, Pl.mul, Int.mul_one, Int.mul_zero, Int.one_mul, Int.zero_mul] at *); first | decide | omega)
  unfold rrestored_b4 at h0
  have h1 : (rrestored_b5 a1 a2 b1 b2 c1 c2) := by
    unfold rrestored_b5
    first | rfl | trivial | decide | ((try simp only [bne_eq_false_iff_eq, bne_iff_ne, ne_eq, beq_iff_eq, beq_eq_false_iff_ne, Pl.add, Pl.mul, tm3] at *); omega) | ((try simp only [Bg, Pl.add, Pl.mul, Int.mul_one, Int.mul_zero, Int.one_mul, Int.zero_mul] at *); first | decide | omega)
  unfold rrestored_b5 at h1
  have h2 : (rrestored_b6 a1 a2 b1 b2 c1 c2) := by
    unfold rrestored_b6
    first | rfl | trivial | decide | ((try simp only [bne_eq_false_iff_eq, bne_iff_ne, ne_eq, beq_iff_eq, beq_eq_false_iff_ne, Pl.add, Pl.mul, tm3] at *); omega) | ((try simp only [Bg, Pl.add, Pl.mul, Int.mul_one, Int.mul_zero, Int.one_mul, Int.zero_mul] at *); first | decide | omega)
  unfold rrestored_b6 at h2
  have h3 : (rrestored_b7 a1 a2 b1 b2 c1 c2) := by
    unfold rrestored_b7
    first | rfl | trivial | decide | ((try simp only [bne_eq_false_iff_eq, bne_iff_ne, ne_eq, beq_iff_eq, beq_eq_false_iff_ne, Pl.add, Pl.mul, tm3] at *); omega) | ((try simp only [Bg, Pl.add, Pl.mul, Int.mul_one, Int.mul_zero, Int.one_mul, Int.zero_mul] at *); first | decide | omega)
  unfold rrestored_b7 at h3
  have h4 : (rrestored_b8 a1 a2 b1 b2 c1 c2) := by
    unfold rrestored_b8
    first | rfl | trivial | decide | ((try simp only [bne_eq_false_iff_eq, bne_iff_ne, ne_eq, beq_iff_eq, beq_eq_false_iff_ne, Pl.add, Pl.mul, tm3] at *); omega) | ((try simp only [Bg, Pl.add, Pl.mul, Int.mul_one, Int.mul_zero, Int.one_mul, Int.zero_mul] at *); first | decide | omega)
  unfold rrestored_b8 at h4
  have h5 : (rrestored_b9 a1 a2 b1 b2 c1 c2) := by
    unfold rrestored_b9
    first | rfl | trivial | decide | ((try simp only [bne_eq_false_iff_eq, bne_iff_ne, ne_eq, beq_iff_eq, beq_eq_false_iff_ne, Pl.add, Pl.mul, tm3] at *); omega) | ((try simp only [Bg, Pl.add, Pl.mul, Int.mul_one, Int.mul_zero, Int.one_mul, Int.zero_mul] at *); first | decide | omega)
  unfold rrestored_b9 at h5
  have h6 : (rrestored_b10 a1 a2 b1 b2 c1 c2) := by
    unfold rrestored_b10
    first | rfl | trivial | decide | ((try simp only [bne_eq_false_iff_eq, bne_iff_ne, ne_eq, beq_iff_eq, beq_eq_false_iff_ne, Pl.add, Pl.mul, tm3] at *); omega) | ((try simp only [Bg, Pl.add, Pl.mul, Int.mul_one, Int.mul_zero, Int.one_mul, Int.zero_mul] at *); first | decide | omega)
  unfold rrestored_b10 at h6
  have h7 : (rrestored_b11 a1 a2 b1 b2 c1 c2) := by
    unfold rrestored_b11
    first | rfl | trivial | decide | ((try simp only [bne_eq_false_iff_eq, bne_iff_ne, ne_eq, beq_iff_eq, beq_eq_false_iff_ne, Pl.add, Pl.mul, tm3] at *); omega) | ((try simp only [Bg, Pl.add, Pl.mul, Int.mul_one, Int.mul_zero, Int.one_mul, Int.zero_mul] at *); first | decide | omega)
  unfold rrestored_b11 at h7
  have h8 : (rrestored_b12 a1 a2 b1 b2 c1 c2) := by
    unfold rrestored_b12
    first | rfl | trivial | decide | ((try simp only [bne_eq_false_iff_eq, bne_iff_ne, ne_eq, beq_iff_eq, beq_eq_false_iff_ne, Pl.add, Pl.mul, tm3] at *); omega) | ((try simp only [Bg, Pl.add, Pl.mul, Int.mul_one, Int.mul_zero, Int.one_mul, Int.zero_mul] at *); first | decide | omega)
  unfold rrestored_b12 at h8
  have h9 : (rrestored_b13 a1 a2 b1 b2 c1 c2) := by
    unfold rrestored_b13
    first | rfl | trivial | decide | ((try simp only [bne_eq_false_iff_eq, bne_iff_ne, ne_eq, beq_iff_eq, beq_eq_false_iff_ne, Pl.add, Pl.mul, tm3] at *); omega) | ((try simp only [Bg, Pl.add, Pl.mul, Int.mul_one, Int.mul_zero, Int.one_mul, Int.zero_mul] at *); first | decide | omega)
  unfold rrestored_b13 at h9
  have h10 : (rrestored_b14 a1 a2 b1 b2 c1 c2) := by
    unfold rrestored_b14
    first | rfl | trivial | decide | ((try simp only [bne_eq_false_iff_eq, bne_iff_ne, ne_eq, beq_iff_eq, beq_eq_false_iff_ne, Pl.add, Pl.mul, tm3] at *); omega) | ((try simp only [Bg, Pl.add, Pl.mul, Int.mul_one, Int.mul_zero, Int.one_mul, Int.zero_mul] at *); first | decide | omega)
  unfold rrestored_b14 at h10
  have h11 : (rrestored_b15 a1 a2 b1 b2 c1 c2) := by
    unfold rrestored_b15
    first | rfl | trivial | decide | ((try simp only [bne_eq_false_iff_eq, bne_iff_ne, ne_eq, beq_iff_eq, beq_eq_false_iff_ne, Pl.add, Pl.mul, tm3] at *); omega) | ((try simp only [Bg, Pl.add, Pl.mul, Int.mul_one, Int.mul_zero, Int.one_mul, Int.zero_mul] at *); first | decide | omega)
  unfold rrestored_b15 at h11
  rcases Bool.eq_false_or_eq_true (rrestored_c0 a1 a2 b1 b2 c1 c2) with h12 | h12
  ·
    unfold rrestored_c0 at h12
    have hp := rrestored_p0 a1 a2 b1 b2 c1 c2 ⟨⟨⟨⟨⟨⟨⟨⟨⟨⟨⟨⟨⟨⟨⟨⟨⟨⟨⟨⟨⟨⟨⟨⟨⟨⟨⟨⟨⟨⟨⟨⟨trivial, rrestored_g0⟩, rrestored_g1⟩, rrestored_g2⟩, rrestored_g3⟩, h0⟩, h1⟩, h2⟩, h3⟩, rrestored_g1⟩, rrestored_g2⟩, rrestored_g3⟩, h4⟩, h5⟩, h6⟩, h7⟩, rrestored_g1⟩, rrestored_g2⟩, rrestored_g3⟩, h8⟩, h9⟩, h10⟩, h11⟩, rrestored_g16⟩, rrestored_g1⟩, h12⟩, h12⟩, h12⟩, h12⟩, h12⟩, h12⟩, h12⟩, rrestored_g18⟩ w
    have hv : rrestored_w0 a1 a2 b1 b2 c1 c2 = rrestored_val a1 a2 b1 b2 c1 c2 := by
      clear hp h0 h1 h2 h3 h4 h5 h6 h7 h8 h9 h10 h11
      unfold rrestored_w0 rrestored_val
      simp only [bne_eq_false_iff_eq, bne_iff_ne, ne_eq, beq_iff_eq, beq_eq_false_iff_ne, tm3] at *
      (try simp only [Pl.add, Pl.mul, Int.zero_mul, Int.one_mul, Int.mul_zero, Int.mul_one, Int.sub_zero, Int.zero_sub, Int.add_zero, Int.zero_add] at *)
      have u0 : a1 + (b1 + c1) = a1 + b1 + c1 := by omega
      have u1 : a2 + (b2 + c2) = a2 + b2 + c2 := by omega
      have u2 : a1 + (-1 * b1 - -1 * b2 + -c2) = a1 + (b2 - b1) + -c2 := by omega
      have u3 : a2 + (-1 * b2 + -1 * b1 - -1 * b2 + (c1 - c2)) = a2 + -b1 + (c1 - c2) := by omega
      have u4 : a1 + (-b2 + (-1 * c1 - -1 * c2)) = a1 + -b2 + (c2 - c1) := by omega
      have u5 : a2 + (b1 - b2 + (-1 * c2 + -1 * c1 - -1 * c2)) = a2 + (b1 - b2) + -c1 := by omega
      (try simp only [Bg] at g1 g2 g3)
      (try simp only [u0, u1, u2, u3, u4, u5] at *)
      (try simp (disch := omega) only [wi] at *)
      have ho : (okB (a1 + b1 + c1) (a2 + b2 + c2) (a1 + (b2 - b1) + -c2) (a2 + -b1 + (c1 - c2)) (a1 + -b2 + (c2 - c1)) (a2 + (b1 - b2) + -c1)) = false := by
        unfold okB
        rw [Bool.and_eq_false_iff]
        left
        rw [decide_eq_false_iff_not]
        omega
      (try simp only [cz, ho, ↓reduceIte, cond_true, cond_false])
      all_goals ((repeat' (first | apply int_eq | apply bool_eq | apply cons_eq | apply agg_eq | apply tup_eq | rfl)) <;> omega)
    exact hv ▸ hp
  ·
    unfold rrestored_c0 at h12
    rcases Bool.eq_false_or_eq_true (rrestored_c1 a1 a2 b1 b2 c1 c2) with h13 | h13
    ·
      unfold rrestored_c1 at h13
      have hp := rrestored_p1 a1 a2 b1 b2 c1 c2 ⟨⟨⟨⟨⟨⟨⟨⟨⟨⟨⟨⟨⟨⟨⟨⟨⟨⟨⟨⟨⟨⟨⟨⟨⟨⟨⟨⟨⟨⟨⟨⟨⟨trivial, rrestored_g0⟩, rrestored_g1⟩, rrestored_g2⟩, rrestored_g3⟩, h0⟩, h1⟩, h2⟩, h3⟩, rrestored_g1⟩, rrestored_g2⟩, rrestored_g3⟩, h4⟩, h5⟩, h6⟩, h7⟩, rrestored_g1⟩, rrestored_g2⟩, rrestored_g3⟩, h8⟩, h9⟩, h10⟩, h11⟩, rrestored_g16⟩, rrestored_g1⟩, h12⟩, h12⟩, rrestored_g1⟩, h12⟩, h12⟩, h12⟩, h12⟩, h12⟩, h13⟩ w
      have hv : rrestored_w1 a1 a2 b1 b2 c1 c2 = rrestored_val a1 a2 b1 b2 c1 c2 := by
        clear hp h0 h1 h2 h3 h4 h5 h6 h7 h8 h9 h10 h11
        unfold rrestored_w1 rrestored_val
        simp only [bne_eq_false_iff_eq, bne_iff_ne, ne_eq, beq_iff_eq, beq_eq_false_iff_ne, tm3] at *
        (try simp only [Pl.add, Pl.mul, Int.zero_mul, Int.one_mul, Int.mul_zero, Int.mul_one, Int.sub_zero, Int.zero_sub, Int.add_zero, Int.zero_add] at *)
        have u0 : a1 + (b1 + c1) = a1 + b1 + c1 := by omega
        have u1 : a2 + (b2 + c2) = a2 + b2 + c2 := by omega
        have u2 : a1 + (-1 * b1 - -1 * b2 + -c2) = a1 + (b2 - b1) + -c2 := by omega
        have u3 : a2 + (-1 * b2 + -1 * b1 - -1 * b2 + (c1 - c2)) = a2 + -b1 + (c1 - c2) := by omega
        have u4 : a1 + (-b2 + (-1 * c1 - -1 * c2)) = a1 + -b2 + (c2 - c1) := by omega
        have u5 : a2 + (b1 - b2 + (-1 * c2 + -1 * c1 - -1 * c2)) = a2 + (b1 - b2) + -c1 := by omega
        (try simp only [Bg] at g1 g2 g3)
        (try simp only [u0, u1, u2, u3, u4, u5] at *)
        (try simp (disch := omega) only [wi] at *)
        have ho : (okB (a1 + b1 + c1) (a2 + b2 + c2) (a1 + (b2 - b1) + -c2) (a2 + -b1 + (c1 - c2)) (a1 + -b2 + (c2 - c1)) (a2 + (b1 - b2) + -c1)) = false := by
          unfold okB
          rw [Bool.and_eq_false_iff]
          left
          rw [decide_eq_false_iff_not]
          omega
        (try simp only [cz, ho, ↓reduceIte, cond_true, cond_false])
        all_goals ((repeat' (first | apply int_eq | apply bool_eq | apply cons_eq | apply agg_eq | apply tup_eq | rfl)) <;> omega)
      exact hv ▸ hp
    ·
      unfold rrestored_c1 at h13
      rcases Bool.eq_false_or_eq_true (rrestored_c2 a1 a2 b1 b2 c1 c2) with h14 | h14
      ·
        unfold rrestored_c2 at h14
        have hp := rrestored_p3 a1 a2 b1 b2 c1 c2 ⟨⟨⟨⟨⟨⟨⟨⟨⟨⟨⟨⟨⟨⟨⟨⟨⟨⟨⟨⟨⟨⟨⟨⟨⟨⟨⟨⟨⟨⟨⟨⟨⟨⟨⟨⟨⟨⟨⟨⟨⟨⟨⟨⟨⟨⟨trivial, rrestored_g0⟩, rrestored_g1⟩, rrestored_g2⟩, rrestored_g3⟩, h0⟩, h1⟩, h2⟩, h3⟩, rrestored_g1⟩, rrestored_g2⟩, rrestored_g3⟩, h4⟩, h5⟩, h6⟩, h7⟩, rrestored_g1⟩, rrestored_g2⟩, rrestored_g3⟩, h8⟩, h9⟩, h10⟩, h11⟩, rrestored_g16⟩, rrestored_g1⟩, h12⟩, h12⟩, rrestored_g1⟩, h12⟩, h12⟩, h12⟩, h12⟩, h12⟩, h13⟩, rrestored_g1⟩, rrestored_g1⟩, rrestored_g1⟩, rrestored_g22⟩, rrestored_g23⟩, h14⟩, h14⟩, h14⟩, h14⟩, h14⟩, h14⟩, h14⟩, rrestored_g18⟩ w
        have hv : rrestored_w3 a1 a2 b1 b2 c1 c2 = rrestored_val a1 a2 b1 b2 c1 c2 := by
          clear hp h0 h1 h2 h3 h4 h5 h6 h7 h8 h9 h10 h11
          unfold rrestored_w3 rrestored_val
          simp only [bne_eq_false_iff_eq, bne_iff_ne, ne_eq, beq_iff_eq, beq_eq_false_iff_ne, tm3] at *
          (try simp only [Pl.add, Pl.mul, Int.zero_mul, Int.one_mul, Int.mul_zero, Int.mul_one, Int.sub_zero, Int.zero_sub, Int.add_zero, Int.zero_add] at *)
          have u0 : a1 + (b1 + c1) = a1 + b1 + c1 := by omega
          have u1 : a2 + (b2 + c2) = a2 + b2 + c2 := by omega
          have u2 : a1 + (-1 * b1 - -1 * b2 + -c2) = a1 + (b2 - b1) + -c2 := by omega
          have u3 : a2 + (-1 * b2 + -1 * b1 - -1 * b2 + (c1 - c2)) = a2 + -b1 + (c1 - c2) := by omega
          have u4 : a1 + (-b2 + (-1 * c1 - -1 * c2)) = a1 + -b2 + (c2 - c1) := by omega
          have u5 : a2 + (b1 - b2 + (-1 * c2 + -1 * c1 - -1 * c2)) = a2 + (b1 - b2) + -c1 := by omega
          (try simp only [Bg] at g1 g2 g3)
          (try simp only [u0, u1, u2, u3, u4, u5] at *)
          (try simp (disch := omega) only [wi] at *)
          have ho : (okB (a1 + b1 + c1) (a2 + b2 + c2) (a1 + (b2 - b1) + -c2) (a2 + -b1 + (c1 - c2)) (a1 + -b2 + (c2 - c1)) (a2 + (b1 - b2) + -c1)) = false := by
            unfold okB
            rw [Bool.and_eq_false_iff]
            left
            rw [decide_eq_false_iff_not]
            omega
          (try simp only [cz, ho, ↓reduceIte, cond_true, cond_false])
          all_goals ((repeat' (first | apply int_eq | apply bool_eq | apply cons_eq | apply agg_eq | apply tup_eq | rfl)) <;> omega)
        exact hv ▸ hp
      ·
        unfold rrestored_c2 at h14
        have h15 : (rrestored_c3 a1 a2 b1 b2 c1 c2 = false) := by
          unfold rrestored_c3
          first | rfl | trivial | decide | ((try simp only [bne_eq_false_iff_eq, bne_iff_ne, ne_eq, beq_iff_eq, beq_eq_false_iff_ne, Pl.add, Pl.mul, tm3] at *); omega) | ((try simp only [Bg, Pl.add, Pl.mul, Int.mul_one, Int.mul_zero, Int.one_mul, Int.zero_mul] at *); first | decide | omega)
        unfold rrestored_c3 at h15
        have h16 : (rrestored_c4 a1 a2 b1 b2 c1 c2 = false) := by
          unfold rrestored_c4
          first | rfl | trivial | decide | ((try simp only [bne_eq_false_iff_eq, bne_iff_ne, ne_eq, beq_iff_eq, beq_eq_false_iff_ne, Pl.add, Pl.mul, tm3] at *); omega) | ((try simp only [Bg, Pl.add, Pl.mul, Int.mul_one, Int.mul_zero, Int.one_mul, Int.zero_mul] at *); first | decide | omega)
        unfold rrestored_c4 at h16
        have h17 : (rrestored_c5 a1 a2 b1 b2 c1 c2 = false) := by
          unfold rrestored_c5
          first | rfl | trivial | decide | ((try simp only [bne_eq_false_iff_eq, bne_iff_ne, ne_eq, beq_iff_eq, beq_eq_false_iff_ne, Pl.add, Pl.mul, tm3] at *); omega) | ((try simp only [Bg, Pl.add, Pl.mul, Int.mul_one, Int.mul_zero, Int.one_mul, Int.zero_mul] at *); first | decide | omega)
        unfold rrestored_c5 at h17
        rcases Bool.eq_false_or_eq_true (rrestored_c6 a1 a2 b1 b2 c1 c2) with h18 | h18
        ·
          unfold rrestored_c6 at h18
          have hp := rrestored_p4 a1 a2 b1 b2 c1 c2 ⟨⟨⟨⟨⟨⟨⟨⟨⟨⟨⟨⟨⟨⟨⟨⟨⟨⟨⟨⟨⟨⟨⟨⟨⟨⟨⟨⟨⟨⟨⟨⟨⟨⟨⟨⟨⟨⟨⟨⟨⟨⟨⟨⟨⟨⟨⟨⟨⟨⟨⟨⟨⟨⟨⟨⟨⟨⟨⟨⟨⟨⟨⟨⟨⟨⟨⟨trivial, rrestored_g0⟩, rrestored_g1⟩, rrestored_g2⟩, rrestored_g3⟩, h0⟩, h1⟩, h2⟩, h3⟩, rrestored_g1⟩, rrestored_g2⟩, rrestored_g3⟩, h4⟩, h5⟩, h6⟩, h7⟩, rrestored_g1⟩, rrestored_g2⟩, rrestored_g3⟩, h8⟩, h9⟩, h10⟩, h11⟩, rrestored_g16⟩, rrestored_g1⟩, h12⟩, h12⟩, rrestored_g1⟩, h12⟩, h12⟩, h12⟩, h12⟩, h12⟩, h13⟩, rrestored_g1⟩, rrestored_g1⟩, rrestored_g1⟩, rrestored_g22⟩, rrestored_g23⟩, h14⟩, h14⟩, rrestored_g23⟩, h14⟩, h14⟩, h14⟩, h14⟩, h14⟩, h15⟩, rrestored_g23⟩, rrestored_g23⟩, rrestored_g23⟩, rrestored_g26⟩, rrestored_g27⟩, h16⟩, h16⟩, rrestored_g27⟩, h16⟩, h16⟩, h16⟩, h16⟩, h16⟩, h17⟩, rrestored_g27⟩, rrestored_g27⟩, rrestored_g27⟩, rrestored_g30⟩, rrestored_g31⟩, h18⟩ w
          have hv : rrestored_w4 a1 a2 b1 b2 c1 c2 = rrestored_val a1 a2 b1 b2 c1 c2 := by
            clear hp h0 h1 h2 h3 h4 h5 h6 h7 h8 h9 h10 h11 h15 h16 h17
            unfold rrestored_w4 rrestored_val
            simp only [bne_eq_false_iff_eq, bne_iff_ne, ne_eq, beq_iff_eq, beq_eq_false_iff_ne, tm3] at *
            (try simp only [Pl.add, Pl.mul, Int.zero_mul, Int.one_mul, Int.mul_zero, Int.mul_one, Int.sub_zero, Int.zero_sub, Int.add_zero, Int.zero_add] at *)
            have u0 : a1 + (b1 + c1) = a1 + b1 + c1 := by omega
            have u1 : a2 + (b2 + c2) = a2 + b2 + c2 := by omega
            have u2 : a1 + (-1 * b1 - -1 * b2 + -c2) = a1 + (b2 - b1) + -c2 := by omega
            have u3 : a2 + (-1 * b2 + -1 * b1 - -1 * b2 + (c1 - c2)) = a2 + -b1 + (c1 - c2) := by omega
            have u4 : a1 + (-b2 + (-1 * c1 - -1 * c2)) = a1 + -b2 + (c2 - c1) := by omega
            have u5 : a2 + (b1 - b2 + (-1 * c2 + -1 * c1 - -1 * c2)) = a2 + (b1 - b2) + -c1 := by omega
            (try simp only [Bg] at g1 g2 g3)
            (try simp only [u0, u1, u2, u3, u4, u5] at *)
            (try simp (disch := omega) only [wi] at *)
            have ho : (okB (a1 + b1 + c1) (a2 + b2 + c2) (a1 + (b2 - b1) + -c2) (a2 + -b1 + (c1 - c2)) (a1 + -b2 + (c2 - c1)) (a2 + (b1 - b2) + -c1)) = false := by
              unfold okB
              rw [Bool.and_eq_false_iff]
              right
              rw [decide_eq_false_iff_not]
              assumption
            (try simp only [cz, ho, ↓reduceIte, cond_true, cond_false])
            all_goals ((repeat' (first | apply int_eq | apply bool_eq | apply cons_eq | apply agg_eq | apply tup_eq | rfl)) <;> omega)
          exact hv ▸ hp
        ·
          unfold rrestored_c6 at h18
          have hp := rrestored_p2 a1 a2 b1 b2 c1 c2 ⟨⟨⟨⟨⟨⟨⟨⟨⟨⟨⟨⟨⟨⟨⟨⟨⟨⟨⟨⟨⟨⟨⟨⟨⟨⟨⟨⟨⟨⟨⟨⟨⟨⟨⟨⟨⟨⟨⟨⟨⟨⟨⟨⟨⟨⟨⟨⟨⟨⟨⟨⟨⟨⟨⟨⟨⟨⟨⟨⟨⟨⟨⟨⟨⟨⟨⟨trivial, rrestored_g0⟩, rrestored_g1⟩, rrestored_g2⟩, rrestored_g3⟩, h0⟩, h1⟩, h2⟩, h3⟩, rrestored_g1⟩, rrestored_g2⟩, rrestored_g3⟩, h4⟩, h5⟩, h6⟩, h7⟩, rrestored_g1⟩, rrestored_g2⟩, rrestored_g3⟩, h8⟩, h9⟩, h10⟩, h11⟩, rrestored_g16⟩, rrestored_g1⟩, h12⟩, h12⟩, rrestored_g1⟩, h12⟩, h12⟩, h12⟩, h12⟩, h12⟩, h13⟩, rrestored_g1⟩, rrestored_g1⟩, rrestored_g1⟩, rrestored_g22⟩, rrestored_g23⟩, h14⟩, h14⟩, rrestored_g23⟩, h14⟩, h14⟩, h14⟩, h14⟩, h14⟩, h15⟩, rrestored_g23⟩, rrestored_g23⟩, rrestored_g23⟩, rrestored_g26⟩, rrestored_g27⟩, h16⟩, h16⟩, rrestored_g27⟩, h16⟩, h16⟩, h16⟩, h16⟩, h16⟩, h17⟩, rrestored_g27⟩, rrestored_g27⟩, rrestored_g27⟩, rrestored_g30⟩, rrestored_g31⟩, h18⟩ w
          have hv : rrestored_w2 a1 a2 b1 b2 c1 c2 = rrestored_val a1 a2 b1 b2 c1 c2 := by
            clear hp h0 h1 h2 h3 h4 h5 h6 h7 h8 h9 h10 h11 h15 h16 h17
            unfold rrestored_w2 rrestored_val
            simp only [bne_eq_false_iff_eq, bne_iff_ne, ne_eq, beq_iff_eq, beq_eq_false_iff_ne, tm3] at *
            (try simp only [Pl.add, Pl.mul, Int.zero_mul, Int.one_mul, Int.mul_zero, Int.mul_one, Int.sub_zero, Int.zero_sub, Int.add_zero, Int.zero_add] at *)
            have u0 : a1 + (b1 + c1) = a1 + b1 + c1 := by omega
            have u1 : a2 + (b2 + c2) = a2 + b2 + c2 := by omega
            have u2 : a1 + (-1 * b1 - -1 * b2 + -c2) = a1 + (b2 - b1) + -c2 := by omega
            have u3 : a2 + (-1 * b2 + -1 * b1 - -1 * b2 + (c1 - c2)) = a2 + -b1 + (c1 - c2) := by omega
            have u4 : a1 + (-b2 + (-1 * c1 - -1 * c2)) = a1 + -b2 + (c2 - c1) := by omega
            have u5 : a2 + (b1 - b2 + (-1 * c2 + -1 * c1 - -1 * c2)) = a2 + (b1 - b2) + -c1 := by omega
            (try simp only [Bg] at g1 g2 g3)
            (try simp only [u0, u1, u2, u3, u4, u5] at *)
            (try simp (disch := omega) only [wi] at *)
            have ho : (okB (a1 + b1 + c1) (a2 + b2 + c2) (a1 + (b2 - b1) + -c2) (a2 + -b1 + (c1 - c2)) (a1 + -b2 + (c2 - c1)) (a2 + (b1 - b2) + -c1)) = true := by
              unfold okB
              rw [Bool.and_eq_true, decide_eq_true_eq, decide_eq_true_eq]
              refine ⟨?_, by assumption⟩
              omega
            (try simp only [cz, ho, ↓reduceIte, cond_true, cond_false])
            all_goals ((repeat' (first | apply int_eq | apply bool_eq | apply cons_eq | apply agg_eq | apply tup_eq | rfl)) <;> omega)
          exact hv ▸ hp
theorem k_rrestored : ConOk Tryz.prog c_rrestored := fun ns hl => by
  have hl0 : ns.length = 6 := hl
  clear hl
  obtain ⟨a1, ns0, rfl, hl1⟩ := len_cons hl0
  obtain ⟨a2, ns1, rfl, hl2⟩ := len_cons hl1
  obtain ⟨b1, ns2, rfl, hl3⟩ := len_cons hl2
  obtain ⟨b2, ns3, rfl, hl4⟩ := len_cons hl3
  obtain ⟨c1, ns4, rfl, hl5⟩ := len_cons hl4
  obtain ⟨c2, ns5, rfl, hl6⟩ := len_cons hl5
  obtain rfl := len_nil hl6
  exact ⟨rfl, fun h w => rrestored_any a1 a2 b1 b2 c1 c2 h w⟩
end Go.Proofs.YtledgemlflbfdaaGreatDoor
end
section
set_option linter.all false
set_option maxRecDepth 1000000
set_option maxHeartbeats 2000000
open Go.RowKit
namespace Go.Proofs.YtledgemlflbfdaaGreatDoor
open Mini

def rbar_val (a b : Int) : Value := .agg #[.int .i64 (a - b), .int .i64 (-b)]
theorem rbar_X : FOkS Tryz.prog x_rbar := noXS_ok
theorem rbar_args (a b : Int) : (#[.agg #[.int .i64 a, .int .i64 b]] : Array Value).toList.all (ground 8) = true := by kernel_rfl
def rbar_w0 (a b : Int) : Value := .agg #[.int .i64 (IntKind.i64.wrap (a - b)), .int .i64 (IntKind.i64.wrap ((0 : Int) - b))]
def rbar_r0 (a b : Int) : Prop := True
theorem rbar_o0 (a b : Int) : obOf (rbar_e0 a b) = rbar_r0 a b := by kernel_rfl
theorem rbar_v0 (a b : Int) : resOf (rbar_e0 a b) = rbar_w0 a b := by kernel_rfl
theorem rbar_k0 (a b : Int) : cleanOf Tryz.prog.globals.size (rbar_e0 a b) = true := by kernel_rfl
theorem rbar_q0 (a b : Int) : rbar_e0 a b = evFS Tryz.prog x_rbar 1000 75 #[.agg #[.int .i64 a, .int .i64 b]] (noTabs 6) ⟨[], True⟩ := by
  delta rbar_e0
  exact Eq.refl _
theorem rbar_p0 (a b : Int) (h : rbar_r0 a b) (w : World) : Calls Tryz.prog 75 #[.agg #[.int .i64 a, .int .i64 b]] w fun en w' => en = .returned (rbar_w0 a b) ∧ Below w.heap.size w w' := by
  have hv := rbar_v0 a b
  have hc := rbar_k0 a b
  have he := rbar_q0 a b
  have ho := rbar_o0 a b
  generalize rbar_e0 a b = r at *
  exact calls_way he gfol rbar_X hv rfl (rbar_args a b) hc ho h (bl w)
theorem rbar_any (a b : Int) (hpre : Bg 1099511627776 a b) (w : World) : Calls Tryz.prog 75 #[.agg #[.int .i64 a, .int .i64 b]] w fun en w' => en = .returned (rbar_val a b) ∧ Below w.heap.size w w' := by
  have hp := rbar_p0 a b trivial w
  have hv : rbar_w0 a b = rbar_val a b := by
    clear hp
    unfold rbar_w0 rbar_val
    unfold Bg at hpre; (try simp (disch := omega) only [wi]); first | rfl | (simp; done) | grind
  exact hv ▸ hp
theorem k_rbar : ConOk Tryz.prog c_rbar := fun ns hl => by
  have hl0 : ns.length = 2 := hl
  clear hl
  obtain ⟨a, ns0, rfl, hl1⟩ := len_cons hl0
  obtain ⟨b, ns1, rfl, hl2⟩ := len_cons hl1
  obtain rfl := len_nil hl2
  exact ⟨rfl, fun h w => rbar_any a b h w⟩
end Go.Proofs.YtledgemlflbfdaaGreatDoor
end
section
set_option linter.all false
set_option maxRecDepth 1000000
set_option maxHeartbeats 2000000
open Go.RowKit
namespace Go.Proofs.YtledgemlflbfdaaGreatDoor
open Mini

def rpower_val (a1 a2 b1 b2 c1 c2 d1 d2 e1 e2 f1 f2 : Int) : Value := .agg #[.int .i64 ((Pl.mul (a1, a2) (d1 - d2, -d2)).1 + (Pl.mul (b1, b2) (e1 - e2, -e2)).1 + (Pl.mul (c1, c2) (f1 - f2, -f2)).1), .int .i64 ((Pl.mul (a1, a2) (d1 - d2, -d2)).2 + (Pl.mul (b1, b2) (e1 - e2, -e2)).2 + (Pl.mul (c1, c2) (f1 - f2, -f2)).2)]
theorem rpower_X : FOkS Tryz.prog x_rpower := kAll_ok _ ⟨k_rsum, k_rprod, k_rbar, trivial⟩
theorem rpower_args (a1 a2 b1 b2 c1 c2 d1 d2 e1 e2 f1 f2 : Int) : (#[.agg #[.int .i64 a1, .int .i64 a2, .int .i64 b1, .int .i64 b2, .int .i64 c1, .int .i64 c2], .agg #[.int .i64 d1, .int .i64 d2, .int .i64 e1, .int .i64 e2, .int .i64 f1, .int .i64 f2]] : Array Value).toList.all (ground 8) = true := by kernel_rfl
theorem rpower_g0 : ((decide ((0 : Int) < (3 : Int))) = Bool.true) := by first | rfl | trivial | decide | omega
theorem rpower_g1 : ((0 : Int) = (Int.ofNat 0)) := by first | rfl | trivial | decide | omega
def rpower_b2 (a1 a2 b1 b2 c1 c2 d1 d2 e1 e2 f1 f2 : Int) : Prop := (((- (1099511627776 : Int)) ≤ d1) ∧ ((d1 ≤ (1099511627776 : Int)) ∧ (((- (1099511627776 : Int)) ≤ d2) ∧ (d2 ≤ (1099511627776 : Int)))))
def rpower_b3 (a1 a2 b1 b2 c1 c2 d1 d2 e1 e2 f1 f2 : Int) : Prop := ((Bg (268435456 : Int) a1 a2) ∧ (Bg (268435456 : Int) (d1 - d2) (- d2)))
def rpower_b4 (a1 a2 b1 b2 c1 c2 d1 d2 e1 e2 f1 f2 : Int) : Prop := ((Bg (1099511627776 : Int) (0 : Int) (0 : Int)) ∧ (Bg (1099511627776 : Int) ((Pl.mul (a1, a2) ((d1 - d2), (- d2)))).1 ((Pl.mul (a1, a2) ((d1 - d2), (- d2)))).2))
theorem rpower_g5 : ((decide ((IntKind.i64.wrap ((0 : Int) + (1 : Int))) < (3 : Int))) = Bool.true) := by first | rfl | trivial | decide | omega
theorem rpower_g6 : ((IntKind.i64.wrap ((0 : Int) + (1 : Int))) = (Int.ofNat 1)) := by first | rfl | trivial | decide | omega
def rpower_b7 (a1 a2 b1 b2 c1 c2 d1 d2 e1 e2 f1 f2 : Int) : Prop := (((- (1099511627776 : Int)) ≤ e1) ∧ ((e1 ≤ (1099511627776 : Int)) ∧ (((- (1099511627776 : Int)) ≤ e2) ∧ (e2 ≤ (1099511627776 : Int)))))
def rpower_b8 (a1 a2 b1 b2 c1 c2 d1 d2 e1 e2 f1 f2 : Int) : Prop := ((Bg (268435456 : Int) b1 b2) ∧ (Bg (268435456 : Int) (e1 - e2) (- e2)))
def rpower_b9 (a1 a2 b1 b2 c1 c2 d1 d2 e1 e2 f1 f2 : Int) : Prop := ((Bg (1099511627776 : Int) ((Pl.add ((0 : Int), (0 : Int)) (((Pl.mul (a1, a2) ((d1 - d2), (- d2)))).1, ((Pl.mul (a1, a2) ((d1 - d2), (- d2)))).2))).1 ((Pl.add ((0 : Int), (0 : Int)) (((Pl.mul (a1, a2) ((d1 - d2), (- d2)))).1, ((Pl.mul (a1, a2) ((d1 - d2), (- d2)))).2))).2) ∧ (Bg (1099511627776 : Int) ((Pl.mul (b1, b2) ((e1 - e2), (- e2)))).1 ((Pl.mul (b1, b2) ((e1 - e2), (- e2)))).2))
theorem rpower_g10 : ((decide ((IntKind.i64.wrap ((IntKind.i64.wrap ((0 : Int) + (1 : Int))) + (1 : Int))) < (3 : Int))) = Bool.true) := by first | rfl | trivial | decide | omega
theorem rpower_g11 : ((IntKind.i64.wrap ((IntKind.i64.wrap ((0 : Int) + (1 : Int))) + (1 : Int))) = (Int.ofNat 2)) := by first | rfl | trivial | decide | omega
def rpower_b12 (a1 a2 b1 b2 c1 c2 d1 d2 e1 e2 f1 f2 : Int) : Prop := (((- (1099511627776 : Int)) ≤ f1) ∧ ((f1 ≤ (1099511627776 : Int)) ∧ (((- (1099511627776 : Int)) ≤ f2) ∧ (f2 ≤ (1099511627776 : Int)))))
def rpower_b13 (a1 a2 b1 b2 c1 c2 d1 d2 e1 e2 f1 f2 : Int) : Prop := ((Bg (268435456 : Int) c1 c2) ∧ (Bg (268435456 : Int) (f1 - f2) (- f2)))
def rpower_b14 (a1 a2 b1 b2 c1 c2 d1 d2 e1 e2 f1 f2 : Int) : Prop := ((Bg (1099511627776 : Int) ((Pl.add (((Pl.add ((0 : Int), (0 : Int)) (((Pl.mul (a1, a2) ((d1 - d2), (- d2)))).1, ((Pl.mul (a1, a2) ((d1 - d2), (- d2)))).2))).1, ((Pl.add ((0 : Int), (0 : Int)) (((Pl.mul (a1, a2) ((d1 - d2), (- d2)))).1, ((Pl.mul (a1, a2) ((d1 - d2), (- d2)))).2))).2) (((Pl.mul (b1, b2) ((e1 - e2), (- e2)))).1, ((Pl.mul (b1, b2) ((e1 - e2), (- e2)))).2))).1 ((Pl.add (((Pl.add ((0 : Int), (0 : Int)) (((Pl.mul (a1, a2) ((d1 - d2), (- d2)))).1, ((Pl.mul (a1, a2) ((d1 - d2), (- d2)))).2))).1, ((Pl.add ((0 : Int), (0 : Int)) (((Pl.mul (a1, a2) ((d1 - d2), (- d2)))).1, ((Pl.mul (a1, a2) ((d1 - d2), (- d2)))).2))).2) (((Pl.mul (b1, b2) ((e1 - e2), (- e2)))).1, ((Pl.mul (b1, b2) ((e1 - e2), (- e2)))).2))).2) ∧ (Bg (1099511627776 : Int) ((Pl.mul (c1, c2) ((f1 - f2), (- f2)))).1 ((Pl.mul (c1, c2) ((f1 - f2), (- f2)))).2))
theorem rpower_g15 : ((decide ((IntKind.i64.wrap ((IntKind.i64.wrap ((IntKind.i64.wrap ((0 : Int) + (1 : Int))) + (1 : Int))) + (1 : Int))) < (3 : Int))) = Bool.false) := by first | rfl | trivial | decide | omega
def rpower_w0 (a1 a2 b1 b2 c1 c2 d1 d2 e1 e2 f1 f2 : Int) : Value := .agg #[.int .i64 ((Pl.add (((Pl.add (((Pl.add ((0 : Int), (0 : Int)) (((Pl.mul (a1, a2) ((d1 - d2), (- d2)))).1, ((Pl.mul (a1, a2) ((d1 - d2), (- d2)))).2))).1, ((Pl.add ((0 : Int), (0 : Int)) (((Pl.mul (a1, a2) ((d1 - d2), (- d2)))).1, ((Pl.mul (a1, a2) ((d1 - d2), (- d2)))).2))).2) (((Pl.mul (b1, b2) ((e1 - e2), (- e2)))).1, ((Pl.mul (b1, b2) ((e1 - e2), (- e2)))).2))).1, ((Pl.add (((Pl.add ((0 : Int), (0 : Int)) (((Pl.mul (a1, a2) ((d1 - d2), (- d2)))).1, ((Pl.mul (a1, a2) ((d1 - d2), (- d2)))).2))).1, ((Pl.add ((0 : Int), (0 : Int)) (((Pl.mul (a1, a2) ((d1 - d2), (- d2)))).1, ((Pl.mul (a1, a2) ((d1 - d2), (- d2)))).2))).2) (((Pl.mul (b1, b2) ((e1 - e2), (- e2)))).1, ((Pl.mul (b1, b2) ((e1 - e2), (- e2)))).2))).2) (((Pl.mul (c1, c2) ((f1 - f2), (- f2)))).1, ((Pl.mul (c1, c2) ((f1 - f2), (- f2)))).2))).1, .int .i64 ((Pl.add (((Pl.add (((Pl.add ((0 : Int), (0 : Int)) (((Pl.mul (a1, a2) ((d1 - d2), (- d2)))).1, ((Pl.mul (a1, a2) ((d1 - d2), (- d2)))).2))).1, ((Pl.add ((0 : Int), (0 : Int)) (((Pl.mul (a1, a2) ((d1 - d2), (- d2)))).1, ((Pl.mul (a1, a2) ((d1 - d2), (- d2)))).2))).2) (((Pl.mul (b1, b2) ((e1 - e2), (- e2)))).1, ((Pl.mul (b1, b2) ((e1 - e2), (- e2)))).2))).1, ((Pl.add (((Pl.add ((0 : Int), (0 : Int)) (((Pl.mul (a1, a2) ((d1 - d2), (- d2)))).1, ((Pl.mul (a1, a2) ((d1 - d2), (- d2)))).2))).1, ((Pl.add ((0 : Int), (0 : Int)) (((Pl.mul (a1, a2) ((d1 - d2), (- d2)))).1, ((Pl.mul (a1, a2) ((d1 - d2), (- d2)))).2))).2) (((Pl.mul (b1, b2) ((e1 - e2), (- e2)))).1, ((Pl.mul (b1, b2) ((e1 - e2), (- e2)))).2))).2) (((Pl.mul (c1, c2) ((f1 - f2), (- f2)))).1, ((Pl.mul (c1, c2) ((f1 - f2), (- f2)))).2))).2]
def rpower_r0 (a1 a2 b1 b2 c1 c2 d1 d2 e1 e2 f1 f2 : Int) : Prop := (((((((((((((((((((True ∧ (((decide ((0 : Int) < (3 : Int))) = Bool.true))) ∧ (((0 : Int) = (Int.ofNat 0)))) ∧ (((0 : Int) = (Int.ofNat 0)))) ∧ (rpower_b2 a1 a2 b1 b2 c1 c2 d1 d2 e1 e2 f1 f2)) ∧ (rpower_b3 a1 a2 b1 b2 c1 c2 d1 d2 e1 e2 f1 f2)) ∧ (rpower_b4 a1 a2 b1 b2 c1 c2 d1 d2 e1 e2 f1 f2)) ∧ (((decide ((IntKind.i64.wrap ((0 : Int) + (1 : Int))) < (3 : Int))) = Bool.true))) ∧ (((IntKind.i64.wrap ((0 : Int) + (1 : Int))) = (Int.ofNat 1)))) ∧ (((IntKind.i64.wrap ((0 : Int) + (1 : Int))) = (Int.ofNat 1)))) ∧ (rpower_b7 a1 a2 b1 b2 c1 c2 d1 d2 e1 e2 f1 f2)) ∧ (rpower_b8 a1 a2 b1 b2 c1 c2 d1 d2 e1 e2 f1 f2)) ∧ (rpower_b9 a1 a2 b1 b2 c1 c2 d1 d2 e1 e2 f1 f2)) ∧ (((decide ((IntKind.i64.wrap ((IntKind.i64.wrap ((0 : Int) + (1 : Int))) + (1 : Int))) < (3 : Int))) = Bool.true))) ∧ (((IntKind.i64.wrap ((IntKind.i64.wrap ((0 : Int) + (1 : Int))) + (1 : Int))) = (Int.ofNat 2)))) ∧ (((IntKind.i64.wrap ((IntKind.i64.wrap ((0 : Int) + (1 : Int))) + (1 : Int))) = (Int.ofNat 2)))) ∧ (rpower_b12 a1 a2 b1 b2 c1 c2 d1 d2 e1 e2 f1 f2)) ∧ (rpower_b13 a1 a2 b1 b2 c1 c2 d1 d2 e1 e2 f1 f2)) ∧ (rpower_b14 a1 a2 b1 b2 c1 c2 d1 d2 e1 e2 f1 f2)) ∧ (((decide ((IntKind.i64.wrap ((IntKind.i64.wrap ((IntKind.i64.wrap ((0 : Int) + (1 : Int))) + (1 : Int))) + (1 : Int))) < (3 : Int))) = Bool.false)))
theorem rpower_o0 (a1 a2 b1 b2 c1 c2 d1 d2 e1 e2 f1 f2 : Int) : obOf (rpower_e0 a1 a2 b1 b2 c1 c2 d1 d2 e1 e2 f1 f2) = rpower_r0 a1 a2 b1 b2 c1 c2 d1 d2 e1 e2 f1 f2 := by kernel_rfl
theorem rpower_v0 (a1 a2 b1 b2 c1 c2 d1 d2 e1 e2 f1 f2 : Int) : resOf (rpower_e0 a1 a2 b1 b2 c1 c2 d1 d2 e1 e2 f1 f2) = rpower_w0 a1 a2 b1 b2 c1 c2 d1 d2 e1 e2 f1 f2 := by kernel_rfl
theorem rpower_k0 (a1 a2 b1 b2 c1 c2 d1 d2 e1 e2 f1 f2 : Int) : cleanOf Tryz.prog.globals.size (rpower_e0 a1 a2 b1 b2 c1 c2 d1 d2 e1 e2 f1 f2) = true := by kernel_rfl
theorem rpower_q0 (a1 a2 b1 b2 c1 c2 d1 d2 e1 e2 f1 f2 : Int) : rpower_e0 a1 a2 b1 b2 c1 c2 d1 d2 e1 e2 f1 f2 = evFS Tryz.prog x_rpower 1000 38 #[.agg #[.int .i64 a1, .int .i64 a2, .int .i64 b1, .int .i64 b2, .int .i64 c1, .int .i64 c2], .agg #[.int .i64 d1, .int .i64 d2, .int .i64 e1, .int .i64 e2, .int .i64 f1, .int .i64 f2]] (noTabs 6) ⟨[1, 0, 0, 1, 1, 1, 1, 2, 2, 0], True⟩ := by
  delta rpower_e0
  exact Eq.refl _
theorem rpower_p0 (a1 a2 b1 b2 c1 c2 d1 d2 e1 e2 f1 f2 : Int) (h : rpower_r0 a1 a2 b1 b2 c1 c2 d1 d2 e1 e2 f1 f2) (w : World) : Calls Tryz.prog 38 #[.agg #[.int .i64 a1, .int .i64 a2, .int .i64 b1, .int .i64 b2, .int .i64 c1, .int .i64 c2], .agg #[.int .i64 d1, .int .i64 d2, .int .i64 e1, .int .i64 e2, .int .i64 f1, .int .i64 f2]] w fun en w' => en = .returned (rpower_w0 a1 a2 b1 b2 c1 c2 d1 d2 e1 e2 f1 f2) ∧ Below w.heap.size w w' := by
  have hv := rpower_v0 a1 a2 b1 b2 c1 c2 d1 d2 e1 e2 f1 f2
  have hc := rpower_k0 a1 a2 b1 b2 c1 c2 d1 d2 e1 e2 f1 f2
  have he := rpower_q0 a1 a2 b1 b2 c1 c2 d1 d2 e1 e2 f1 f2
  have ho := rpower_o0 a1 a2 b1 b2 c1 c2 d1 d2 e1 e2 f1 f2
  generalize rpower_e0 a1 a2 b1 b2 c1 c2 d1 d2 e1 e2 f1 f2 = r at *
  exact calls_way he gfol rpower_X hv rfl (rpower_args a1 a2 b1 b2 c1 c2 d1 d2 e1 e2 f1 f2) hc ho h (bl w)
theorem rpower_any (a1 a2 b1 b2 c1 c2 d1 d2 e1 e2 f1 f2 : Int) (hpre : Bg 65536 a1 a2 ∧ Bg 65536 b1 b2 ∧ Bg 65536 c1 c2 ∧ Bg 65536 d1 d2 ∧ Bg 65536 e1 e2 ∧ Bg 65536 f1 f2) (w : World) : Calls Tryz.prog 38 #[.agg #[.int .i64 a1, .int .i64 a2, .int .i64 b1, .int .i64 b2, .int .i64 c1, .int .i64 c2], .agg #[.int .i64 d1, .int .i64 d2, .int .i64 e1, .int .i64 e2, .int .i64 f1, .int .i64 f2]] w fun en w' => en = .returned (rpower_val a1 a2 b1 b2 c1 c2 d1 d2 e1 e2 f1 f2) ∧ Below w.heap.size w w' := by
  obtain ⟨g1, g2, g3, k1, k2, k3⟩ := hpre
  have m1 := mulBg g1 (barBg k1)
  have m2 := mulBg g2 (barBg k2)
  have m3 := mulBg g3 (barBg k3)
  have h0 : (rpower_b2 a1 a2 b1 b2 c1 c2 d1 d2 e1 e2 f1 f2) := by
    unfold rpower_b2
    first | rfl | trivial | decide | (simp only [Bg, Pl.add] at *; omega)
  unfold rpower_b2 at h0
  have h1 : (rpower_b3 a1 a2 b1 b2 c1 c2 d1 d2 e1 e2 f1 f2) := by
    unfold rpower_b3
    first | rfl | trivial | decide | (simp only [Bg, Pl.add] at *; omega)
  unfold rpower_b3 at h1
  have h2 : (rpower_b4 a1 a2 b1 b2 c1 c2 d1 d2 e1 e2 f1 f2) := by
    unfold rpower_b4
    first | rfl | trivial | decide | (simp only [Bg, Pl.add] at *; omega)
  unfold rpower_b4 at h2
  have h3 : (rpower_b7 a1 a2 b1 b2 c1 c2 d1 d2 e1 e2 f1 f2) := by
    unfold rpower_b7
    first | rfl | trivial | decide | (simp only [Bg, Pl.add] at *; omega)
  unfold rpower_b7 at h3
  have h4 : (rpower_b8 a1 a2 b1 b2 c1 c2 d1 d2 e1 e2 f1 f2) := by
    unfold rpower_b8
    first | rfl | trivial | decide | (simp only [Bg, Pl.add] at *; omega)
  unfold rpower_b8 at h4
  have h5 : (rpower_b9 a1 a2 b1 b2 c1 c2 d1 d2 e1 e2 f1 f2) := by
    unfold rpower_b9
    first | rfl | trivial | decide | (simp only [Bg, Pl.add] at *; omega)
  unfold rpower_b9 at h5
  have h6 : (rpower_b12 a1 a2 b1 b2 c1 c2 d1 d2 e1 e2 f1 f2) := by
    unfold rpower_b12
    first | rfl | trivial | decide | (simp only [Bg, Pl.add] at *; omega)
  unfold rpower_b12 at h6
  have h7 : (rpower_b13 a1 a2 b1 b2 c1 c2 d1 d2 e1 e2 f1 f2) := by
    unfold rpower_b13
    first | rfl | trivial | decide | (simp only [Bg, Pl.add] at *; omega)
  unfold rpower_b13 at h7
  have h8 : (rpower_b14 a1 a2 b1 b2 c1 c2 d1 d2 e1 e2 f1 f2) := by
    unfold rpower_b14
    first | rfl | trivial | decide | (simp only [Bg, Pl.add] at *; omega)
  unfold rpower_b14 at h8
  have hp := rpower_p0 a1 a2 b1 b2 c1 c2 d1 d2 e1 e2 f1 f2 ⟨⟨⟨⟨⟨⟨⟨⟨⟨⟨⟨⟨⟨⟨⟨⟨⟨⟨⟨trivial, rpower_g0⟩, rpower_g1⟩, rpower_g1⟩, h0⟩, h1⟩, h2⟩, rpower_g5⟩, rpower_g6⟩, rpower_g6⟩, h3⟩, h4⟩, h5⟩, rpower_g10⟩, rpower_g11⟩, rpower_g11⟩, h6⟩, h7⟩, h8⟩, rpower_g15⟩ w
  have hv : rpower_w0 a1 a2 b1 b2 c1 c2 d1 d2 e1 e2 f1 f2 = rpower_val a1 a2 b1 b2 c1 c2 d1 d2 e1 e2 f1 f2 := by
    clear hp
    unfold rpower_w0 rpower_val
    (try simp only [Pl.add])
    (repeat' (first | apply int_eq | apply bool_eq | apply cons_eq | apply agg_eq | apply tup_eq | rfl)) <;> omega
  exact hv ▸ hp
theorem k_rpower : ConOk Tryz.prog c_rpower := fun ns hl => by
  have hl0 : ns.length = 12 := hl
  clear hl
  obtain ⟨a1, ns0, rfl, hl1⟩ := len_cons hl0
  obtain ⟨a2, ns1, rfl, hl2⟩ := len_cons hl1
  obtain ⟨b1, ns2, rfl, hl3⟩ := len_cons hl2
  obtain ⟨b2, ns3, rfl, hl4⟩ := len_cons hl3
  obtain ⟨c1, ns4, rfl, hl5⟩ := len_cons hl4
  obtain ⟨c2, ns5, rfl, hl6⟩ := len_cons hl5
  obtain ⟨d1, ns6, rfl, hl7⟩ := len_cons hl6
  obtain ⟨d2, ns7, rfl, hl8⟩ := len_cons hl7
  obtain ⟨e1, ns8, rfl, hl9⟩ := len_cons hl8
  obtain ⟨e2, ns9, rfl, hl10⟩ := len_cons hl9
  obtain ⟨f1, ns10, rfl, hl11⟩ := len_cons hl10
  obtain ⟨f2, ns11, rfl, hl12⟩ := len_cons hl11
  obtain rfl := len_nil hl12
  exact ⟨rfl, fun h w => rpower_any a1 a2 b1 b2 c1 c2 d1 d2 e1 e2 f1 f2 h w⟩
end Go.Proofs.YtledgemlflbfdaaGreatDoor
end
section
set_option linter.all false
set_option maxRecDepth 1000000
set_option maxHeartbeats 2000000
open Go.RowKit
namespace Go.Proofs.YtledgemlflbfdaaGreatDoor
open Mini

def rreal_val (a b : Int) : Value := .int .i64 (2 * a - b)
theorem rreal_X : FOkS Tryz.prog x_rreal := noXS_ok
theorem rreal_args (a b : Int) : (#[.agg #[.int .i64 a, .int .i64 b]] : Array Value).toList.all (ground 8) = true := by kernel_rfl
def rreal_w0 (a b : Int) : Value := .int .i64 (IntKind.i64.wrap ((IntKind.i64.wrap ((2 : Int) * a)) - b))
def rreal_r0 (a b : Int) : Prop := True
theorem rreal_o0 (a b : Int) : obOf (rreal_e0 a b) = rreal_r0 a b := by kernel_rfl
theorem rreal_v0 (a b : Int) : resOf (rreal_e0 a b) = rreal_w0 a b := by kernel_rfl
theorem rreal_k0 (a b : Int) : cleanOf Tryz.prog.globals.size (rreal_e0 a b) = true := by kernel_rfl
theorem rreal_q0 (a b : Int) : rreal_e0 a b = evFS Tryz.prog x_rreal 1000 40 #[.agg #[.int .i64 a, .int .i64 b]] (noTabs 6) ⟨[], True⟩ := by
  delta rreal_e0
  exact Eq.refl _
theorem rreal_p0 (a b : Int) (h : rreal_r0 a b) (w : World) : Calls Tryz.prog 40 #[.agg #[.int .i64 a, .int .i64 b]] w fun en w' => en = .returned (rreal_w0 a b) ∧ Below w.heap.size w w' := by
  have hv := rreal_v0 a b
  have hc := rreal_k0 a b
  have he := rreal_q0 a b
  have ho := rreal_o0 a b
  generalize rreal_e0 a b = r at *
  exact calls_way he gfol rreal_X hv rfl (rreal_args a b) hc ho h (bl w)
theorem rreal_any (a b : Int) (hpre : Bg 1099511627776 a b) (w : World) : Calls Tryz.prog 40 #[.agg #[.int .i64 a, .int .i64 b]] w fun en w' => en = .returned (rreal_val a b) ∧ Below w.heap.size w w' := by
  have hp := rreal_p0 a b trivial w
  have hv : rreal_w0 a b = rreal_val a b := by
    clear hp
    unfold rreal_w0 rreal_val
    unfold Bg at hpre; (try simp (disch := omega) only [wi])
  exact hv ▸ hp
theorem k_rreal : ConOk Tryz.prog c_rreal := fun ns hl => by
  have hl0 : ns.length = 2 := hl
  clear hl
  obtain ⟨a, ns0, rfl, hl1⟩ := len_cons hl0
  obtain ⟨b, ns1, rfl, hl2⟩ := len_cons hl1
  obtain rfl := len_nil hl2
  exact ⟨rfl, fun h w => rreal_any a b h w⟩
end Go.Proofs.YtledgemlflbfdaaGreatDoor
end
