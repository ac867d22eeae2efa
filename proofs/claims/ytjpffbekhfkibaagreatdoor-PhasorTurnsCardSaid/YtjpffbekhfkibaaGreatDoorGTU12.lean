/-
  A way through the law PhasorTurns.
  A way through the law PhasorTurns.
  A way through the law PhasorTurns.
  A way through the law PhasorTurns.
  A way through the law PhasorTurns.
  A way through the law PhasorTurns.
  A way through the law PhasorTurns.
  A way through the law PhasorTurns.
  A way through the law PhasorTurns.
  A way through the law PhasorTurns.
  A way through the law PhasorTurns.
  A way through the law PhasorTurns.
  What the ways of the law PhasorTurns share.
  What the ways of the law PhasorTurns ask for.
  What the ways of the law PhasorTurns ask for.
-/
import Derived.Test.YtjpffbekhfkibaaGreatDoorGTU11
section
set_option linter.all false
set_option maxRecDepth 1000000
set_option maxHeartbeats 1000000
open Go.RowKit
namespace Go.Proofs.YtjpffbekhfkibaaGreatDoor
open Mini
def ltb71 (z0 : Int) (z1 : Int) (z2 : Int) (z3 : Int) (z4 : Int) (z5 : Int) (z6 : Int) (z7 : Int) (z8 : Int) (z9 : Int) (z10 : Int) (z11 : Int) : Prop := ((Bool.not (Bool.and (((((((((sm z10) - (sm z0)) + (sm z1)) - (sm z3)) + (sm z4)) - (sm z6)) + (sm z7)) - (sm z9)) == ((Pl.turn (((((((((sm z0) - (sm z2)) + (sm z3)) - (sm z5)) + (sm z6)) - (sm z8)) + (sm z9)) - (sm z11)), ((((((((sm z1) - (sm z2)) + (sm z4)) - (sm z5)) + (sm z7)) - (sm z8)) + (sm z10)) - (sm z11))) (IntKind.i64.wrap ((0 : Int) - (IntKind.i64.wrap ((IntKind.i64.wrap ((0 : Int) + (1 : Int))) + (1 : Int))))))).1) (Bool.and (((((((((sm z11) - (sm z0)) + (sm z2)) - (sm z3)) + (sm z5)) - (sm z6)) + (sm z8)) - (sm z9)) == ((Pl.turn (((((((((sm z0) - (sm z2)) + (sm z3)) - (sm z5)) + (sm z6)) - (sm z8)) + (sm z9)) - (sm z11)), ((((((((sm z1) - (sm z2)) + (sm z4)) - (sm z5)) + (sm z7)) - (sm z8)) + (sm z10)) - (sm z11))) (IntKind.i64.wrap ((0 : Int) - (IntKind.i64.wrap ((IntKind.i64.wrap ((0 : Int) + (1 : Int))) + (1 : Int))))))).2) true))) = false)
theorem ltb71_ok (z0 : Int) (z1 : Int) (z2 : Int) (z3 : Int) (z4 : Int) (z5 : Int) (z6 : Int) (z7 : Int) (z8 : Int) (z9 : Int) (z10 : Int) (z11 : Int) : ltb71 z0 z1 z2 z3 z4 z5 z6 z7 z8 z9 z10 z11 := by
  unfold ltb71
  have s0 := sm_bd z0
  have s1 := sm_bd z1
  have s2 := sm_bd z2
  have s3 := sm_bd z3
  have s4 := sm_bd z4
  have s5 := sm_bd z5
  have s6 := sm_bd z6
  have s7 := sm_bd z7
  have s8 := sm_bd z8
  have s9 := sm_bd z9
  have s10 := sm_bd z10
  have s11 := sm_bd z11
  first
    | rfl
    | decide
    | (simp; omega)
    | (first | omega | (and_intros <;> omega))
    | ((try simp (disch := omega) only [wi, Int.reduceAdd, Int.reduceSub, Int.reduceNeg, Int.reduceMul]); (try simp only [tw0, tw1, tw2, tw3, tw4, tw5, twm1, twm2, twm3, twm4, twm5]); (try simp only [Bool.not_eq_false', Bool.and_eq_true, beq_iff_eq, and_true]); (try simp (disch := omega) only [wi, Int.reduceAdd, Int.reduceSub, Int.reduceNeg, Int.reduceMul]); and_intros <;> omega)
def ltb72 (z0 : Int) (z1 : Int) : Prop := ((Bool.not (Bool.and (((((((((((frP (sm z0) (sm z1) (0 : Int) (0 : Nat))).1).1 - (((frP (sm z0) (sm z1) (0 : Int) 1)).1).1) + (((frP (sm z0) (sm z1) (0 : Int) 1)).1).2) - (((frP (sm z0) (sm z1) (0 : Int) 2)).1).2) + (((frP (sm z0) (sm z1) (0 : Int) 3)).1).1) - (((frP (sm z0) (sm z1) (0 : Int) 4)).1).1) + (((frP (sm z0) (sm z1) (0 : Int) 4)).1).2) - (((frP (sm z0) (sm z1) (0 : Int) 5)).1).2) == (0 : Int)) (Bool.and (((((((((((frP (sm z0) (sm z1) (0 : Int) (0 : Nat))).1).2 - (((frP (sm z0) (sm z1) (0 : Int) 1)).1).1) + (((frP (sm z0) (sm z1) (0 : Int) 2)).1).1) - (((frP (sm z0) (sm z1) (0 : Int) 2)).1).2) + (((frP (sm z0) (sm z1) (0 : Int) 3)).1).2) - (((frP (sm z0) (sm z1) (0 : Int) 4)).1).1) + (((frP (sm z0) (sm z1) (0 : Int) 5)).1).1) - (((frP (sm z0) (sm z1) (0 : Int) 5)).1).2) == (0 : Int)) true))) = false)
theorem ltb72_ok (z0 : Int) (z1 : Int) : ltb72 z0 z1 := by
  unfold ltb72
  have s0 := sm_bd z0
  have s1 := sm_bd z1
  first
    | rfl
    | decide
    | (simp; omega)
    | (first | omega | (and_intros <;> omega))
    | ((try simp (disch := omega) only [wi, Int.reduceAdd, Int.reduceSub, Int.reduceNeg, Int.reduceMul]); (try simp only [fq_1_0, fq_1_1, fq_1_2, fq_1_3, fq_1_4, fq_1_5, fq_0_0, fq_0_1, fq_0_2, fq_0_3, fq_0_4, fq_0_5, fq_m1_0, fq_m1_1, fq_m1_2, fq_m1_3, fq_m1_4, fq_m1_5, fq_m2_0, fq_m2_1, fq_m2_2, fq_m2_3, fq_m2_4, fq_m2_5, fq_m3_0, fq_m3_1, fq_m3_2, fq_m3_3, fq_m3_4, fq_m3_5, fq_m4_0, fq_m4_1, fq_m4_2, fq_m4_3, fq_m4_4, fq_m4_5, fq_m5_0, fq_m5_1, fq_m5_2, fq_m5_3, fq_m5_4, fq_m5_5]); (try simp only [tw0, tw1, tw2, tw3, tw4, tw5, twm1, twm2, twm3, twm4, twm5]); (try simp only [Bool.not_eq_false', Bool.and_eq_true, beq_iff_eq, and_true]); (try simp (disch := omega) only [wi, Int.reduceAdd, Int.reduceSub, Int.reduceNeg, Int.reduceMul]); and_intros <;> omega)
def ltb73 (z6 : Int) (z7 : Int) : Prop := (((- (1048576 : Int)) ≤ (sm z6)) ∧ (((sm z6) ≤ (1048576 : Int)) ∧ (((- (1048576 : Int)) ≤ (sm z7)) ∧ ((sm z7) ≤ (1048576 : Int)))))
theorem ltb73_ok (z6 : Int) (z7 : Int) : ltb73 z6 z7 := by
  unfold ltb73
  have s6 := sm_bd z6
  have s7 := sm_bd z7
  first
    | rfl
    | decide
    | (simp; omega)
    | (first | omega | (and_intros <;> omega))
    | ((try simp (disch := omega) only [wi, Int.reduceAdd, Int.reduceSub, Int.reduceNeg, Int.reduceMul]); (try simp only [Bool.not_eq_false', Bool.and_eq_true, beq_iff_eq, and_true]); (try simp (disch := omega) only [wi, Int.reduceAdd, Int.reduceSub, Int.reduceNeg, Int.reduceMul]); and_intros <;> omega)
def ltb74 (z0 : Int) (z1 : Int) (z2 : Int) (z3 : Int) (z4 : Int) (z5 : Int) (z6 : Int) (z7 : Int) (z8 : Int) (z9 : Int) (z10 : Int) (z11 : Int) : Prop := (((- (1048576 : Int)) ≤ ((((((sm z0) - (sm z2)) + (sm z4)) - (sm z6)) + (sm z8)) - (sm z10))) ∧ ((((((((sm z0) - (sm z2)) + (sm z4)) - (sm z6)) + (sm z8)) - (sm z10)) ≤ (1048576 : Int)) ∧ (((- (1048576 : Int)) ≤ ((((((sm z1) - (sm z3)) + (sm z5)) - (sm z7)) + (sm z9)) - (sm z11))) ∧ (((((((sm z1) - (sm z3)) + (sm z5)) - (sm z7)) + (sm z9)) - (sm z11)) ≤ (1048576 : Int)))))
theorem ltb74_ok (z0 : Int) (z1 : Int) (z2 : Int) (z3 : Int) (z4 : Int) (z5 : Int) (z6 : Int) (z7 : Int) (z8 : Int) (z9 : Int) (z10 : Int) (z11 : Int) : ltb74 z0 z1 z2 z3 z4 z5 z6 z7 z8 z9 z10 z11 := by
  unfold ltb74
  have s0 := sm_bd z0
  have s1 := sm_bd z1
  have s2 := sm_bd z2
  have s3 := sm_bd z3
  have s4 := sm_bd z4
  have s5 := sm_bd z5
  have s6 := sm_bd z6
  have s7 := sm_bd z7
  have s8 := sm_bd z8
  have s9 := sm_bd z9
  have s10 := sm_bd z10
  have s11 := sm_bd z11
  first
    | rfl
    | decide
    | (simp; omega)
    | (first | omega | (and_intros <;> omega))
    | ((try simp (disch := omega) only [wi, Int.reduceAdd, Int.reduceSub, Int.reduceNeg, Int.reduceMul]); (try simp only [Bool.not_eq_false', Bool.and_eq_true, beq_iff_eq, and_true]); (try simp (disch := omega) only [wi, Int.reduceAdd, Int.reduceSub, Int.reduceNeg, Int.reduceMul]); and_intros <;> omega)
def ltb75 (z0 : Int) (z1 : Int) (z2 : Int) (z3 : Int) (z4 : Int) (z5 : Int) (z6 : Int) (z7 : Int) (z8 : Int) (z9 : Int) (z10 : Int) (z11 : Int) : Prop := ((((- (524288 : Int)) ≤ ((((((sm z0) - (sm z2)) + (sm z4)) - (sm z6)) + (sm z8)) - (sm z10))) ∧ (((((((sm z0) - (sm z2)) + (sm z4)) - (sm z6)) + (sm z8)) - (sm z10)) ≤ (524288 : Int))) ∧ ((((- (524288 : Int)) ≤ ((((((sm z1) - (sm z3)) + (sm z5)) - (sm z7)) + (sm z9)) - (sm z11))) ∧ (((((((sm z1) - (sm z3)) + (sm z5)) - (sm z7)) + (sm z9)) - (sm z11)) ≤ (524288 : Int))) ∧ (((- (1000000 : Int)) ≤ (IntKind.i64.wrap ((0 : Int) - (IntKind.i64.wrap ((IntKind.i64.wrap ((IntKind.i64.wrap ((0 : Int) + (1 : Int))) + (1 : Int))) + (1 : Int)))))) ∧ ((IntKind.i64.wrap ((0 : Int) - (IntKind.i64.wrap ((IntKind.i64.wrap ((IntKind.i64.wrap ((0 : Int) + (1 : Int))) + (1 : Int))) + (1 : Int))))) ≤ (1000000 : Int)))))
theorem ltb75_ok (z0 : Int) (z1 : Int) (z2 : Int) (z3 : Int) (z4 : Int) (z5 : Int) (z6 : Int) (z7 : Int) (z8 : Int) (z9 : Int) (z10 : Int) (z11 : Int) : ltb75 z0 z1 z2 z3 z4 z5 z6 z7 z8 z9 z10 z11 := by
  unfold ltb75
  have s0 := sm_bd z0
  have s1 := sm_bd z1
  have s2 := sm_bd z2
  have s3 := sm_bd z3
  have s4 := sm_bd z4
  have s5 := sm_bd z5
  have s6 := sm_bd z6
  have s7 := sm_bd z7
  have s8 := sm_bd z8
  have s9 := sm_bd z9
  have s10 := sm_bd z10
  have s11 := sm_bd z11
  first
    | rfl
    | decide
    | (simp; omega)
    | (first | omega | (and_intros <;> omega))
    | ((try simp (disch := omega) only [wi, Int.reduceAdd, Int.reduceSub, Int.reduceNeg, Int.reduceMul]); (try simp only [Bool.not_eq_false', Bool.and_eq_true, beq_iff_eq, and_true]); (try simp (disch := omega) only [wi, Int.reduceAdd, Int.reduceSub, Int.reduceNeg, Int.reduceMul]); and_intros <;> omega)
def ltb76 : Prop := (((IntKind.i64.wrap ((IntKind.i64.wrap ((IntKind.i64.wrap ((0 : Int) + (1 : Int))) + (1 : Int))) + (1 : Int))) == (0 : Int)) = false)
theorem ltb76_ok : ltb76 := by
  unfold ltb76
  first
    | rfl
    | decide
    | (simp; omega)
    | (first | omega | (and_intros <;> omega))
    | ((try simp (disch := omega) only [wi, Int.reduceAdd, Int.reduceSub, Int.reduceNeg, Int.reduceMul]); (try simp only [Bool.not_eq_false', Bool.and_eq_true, beq_iff_eq, and_true]); (try simp (disch := omega) only [wi, Int.reduceAdd, Int.reduceSub, Int.reduceNeg, Int.reduceMul]); and_intros <;> omega)
def ltb77 (z0 : Int) (z1 : Int) (z2 : Int) (z3 : Int) (z4 : Int) (z5 : Int) (z6 : Int) (z7 : Int) (z8 : Int) (z9 : Int) (z10 : Int) (z11 : Int) : Prop := ((Bool.not (Bool.and (((((((((frP (sm z0) (sm z1) (1 : Int) (0 : Nat))).1).1 - (((frP (sm z2) (sm z3) (1 : Int) 1)).1).1) + (((frP (sm z4) (sm z5) (1 : Int) 2)).1).1) - (((frP (sm z6) (sm z7) (1 : Int) 3)).1).1) + (((frP (sm z8) (sm z9) (1 : Int) 4)).1).1) - (((frP (sm z10) (sm z11) (1 : Int) 5)).1).1) == ((((((((sm z0) - (sm z3)) - (sm z4)) + (sm z5)) + (sm z6)) - (sm z9)) - (sm z10)) + (sm z11))) (Bool.and (((((((((frP (sm z0) (sm z1) (1 : Int) (0 : Nat))).1).2 - (((frP (sm z2) (sm z3) (1 : Int) 1)).1).2) + (((frP (sm z4) (sm z5) (1 : Int) 2)).1).2) - (((frP (sm z6) (sm z7) (1 : Int) 3)).1).2) + (((frP (sm z8) (sm z9) (1 : Int) 4)).1).2) - (((frP (sm z10) (sm z11) (1 : Int) 5)).1).2) == ((((((((sm z1) + (sm z2)) - (sm z3)) - (sm z4)) + (sm z7)) + (sm z8)) - (sm z9)) - (sm z10))) true))) = false)
theorem ltb77_ok (z0 : Int) (z1 : Int) (z2 : Int) (z3 : Int) (z4 : Int) (z5 : Int) (z6 : Int) (z7 : Int) (z8 : Int) (z9 : Int) (z10 : Int) (z11 : Int) : ltb77 z0 z1 z2 z3 z4 z5 z6 z7 z8 z9 z10 z11 := by
  unfold ltb77
  have s0 := sm_bd z0
  have s1 := sm_bd z1
  have s2 := sm_bd z2
  have s3 := sm_bd z3
  have s4 := sm_bd z4
  have s5 := sm_bd z5
  have s6 := sm_bd z6
  have s7 := sm_bd z7
  have s8 := sm_bd z8
  have s9 := sm_bd z9
  have s10 := sm_bd z10
  have s11 := sm_bd z11
  first
    | rfl
    | decide
    | (simp; omega)
    | (first | omega | (and_intros <;> omega))
    | ((try simp (disch := omega) only [wi, Int.reduceAdd, Int.reduceSub, Int.reduceNeg, Int.reduceMul]); (try simp only [fq_1_0, fq_1_1, fq_1_2, fq_1_3, fq_1_4, fq_1_5, fq_0_0, fq_0_1, fq_0_2, fq_0_3, fq_0_4, fq_0_5, fq_m1_0, fq_m1_1, fq_m1_2, fq_m1_3, fq_m1_4, fq_m1_5, fq_m2_0, fq_m2_1, fq_m2_2, fq_m2_3, fq_m2_4, fq_m2_5, fq_m3_0, fq_m3_1, fq_m3_2, fq_m3_3, fq_m3_4, fq_m3_5, fq_m4_0, fq_m4_1, fq_m4_2, fq_m4_3, fq_m4_4, fq_m4_5, fq_m5_0, fq_m5_1, fq_m5_2, fq_m5_3, fq_m5_4, fq_m5_5]); (try simp only [tw0, tw1, tw2, tw3, tw4, tw5, twm1, twm2, twm3, twm4, twm5]); (try simp only [Bool.not_eq_false', Bool.and_eq_true, beq_iff_eq, and_true]); (try simp (disch := omega) only [wi, Int.reduceAdd, Int.reduceSub, Int.reduceNeg, Int.reduceMul]); and_intros <;> omega)
def ltb78 (z0 : Int) (z1 : Int) (z2 : Int) (z3 : Int) (z4 : Int) (z5 : Int) (z6 : Int) (z7 : Int) (z8 : Int) (z9 : Int) (z10 : Int) (z11 : Int) : Prop := ((Bool.not (Bool.and (((((((sm z10) - (sm z0)) + (sm z2)) - (sm z4)) + (sm z6)) - (sm z8)) == ((Pl.turn (((((((sm z0) - (sm z2)) + (sm z4)) - (sm z6)) + (sm z8)) - (sm z10)), ((((((sm z1) - (sm z3)) + (sm z5)) - (sm z7)) + (sm z9)) - (sm z11))) (IntKind.i64.wrap ((0 : Int) - (IntKind.i64.wrap ((IntKind.i64.wrap ((IntKind.i64.wrap ((0 : Int) + (1 : Int))) + (1 : Int))) + (1 : Int))))))).1) (Bool.and (((((((sm z11) - (sm z1)) + (sm z3)) - (sm z5)) + (sm z7)) - (sm z9)) == ((Pl.turn (((((((sm z0) - (sm z2)) + (sm z4)) - (sm z6)) + (sm z8)) - (sm z10)), ((((((sm z1) - (sm z3)) + (sm z5)) - (sm z7)) + (sm z9)) - (sm z11))) (IntKind.i64.wrap ((0 : Int) - (IntKind.i64.wrap ((IntKind.i64.wrap ((IntKind.i64.wrap ((0 : Int) + (1 : Int))) + (1 : Int))) + (1 : Int))))))).2) true))) = false)
theorem ltb78_ok (z0 : Int) (z1 : Int) (z2 : Int) (z3 : Int) (z4 : Int) (z5 : Int) (z6 : Int) (z7 : Int) (z8 : Int) (z9 : Int) (z10 : Int) (z11 : Int) : ltb78 z0 z1 z2 z3 z4 z5 z6 z7 z8 z9 z10 z11 := by
  unfold ltb78
  have s0 := sm_bd z0
  have s1 := sm_bd z1
  have s2 := sm_bd z2
  have s3 := sm_bd z3
  have s4 := sm_bd z4
  have s5 := sm_bd z5
  have s6 := sm_bd z6
  have s7 := sm_bd z7
  have s8 := sm_bd z8
  have s9 := sm_bd z9
  have s10 := sm_bd z10
  have s11 := sm_bd z11
  first
    | rfl
    | decide
    | (simp; omega)
    | (first | omega | (and_intros <;> omega))
    | ((try simp (disch := omega) only [wi, Int.reduceAdd, Int.reduceSub, Int.reduceNeg, Int.reduceMul]); (try simp only [tw0, tw1, tw2, tw3, tw4, tw5, twm1, twm2, twm3, twm4, twm5]); (try simp only [Bool.not_eq_false', Bool.and_eq_true, beq_iff_eq, and_true]); (try simp (disch := omega) only [wi, Int.reduceAdd, Int.reduceSub, Int.reduceNeg, Int.reduceMul]); and_intros <;> omega)
def ltb79 (z0 : Int) (z1 : Int) : Prop := ((Bool.not (Bool.and (((((((((frP (sm z0) (sm z1) (0 : Int) (0 : Nat))).1).1 - (((frP (sm z0) (sm z1) (0 : Int) 1)).1).1) + (((frP (sm z0) (sm z1) (0 : Int) 2)).1).1) - (((frP (sm z0) (sm z1) (0 : Int) 3)).1).1) + (((frP (sm z0) (sm z1) (0 : Int) 4)).1).1) - (((frP (sm z0) (sm z1) (0 : Int) 5)).1).1) == (0 : Int)) (Bool.and (((((((((frP (sm z0) (sm z1) (0 : Int) (0 : Nat))).1).2 - (((frP (sm z0) (sm z1) (0 : Int) 1)).1).2) + (((frP (sm z0) (sm z1) (0 : Int) 2)).1).2) - (((frP (sm z0) (sm z1) (0 : Int) 3)).1).2) + (((frP (sm z0) (sm z1) (0 : Int) 4)).1).2) - (((frP (sm z0) (sm z1) (0 : Int) 5)).1).2) == (0 : Int)) true))) = false)
theorem ltb79_ok (z0 : Int) (z1 : Int) : ltb79 z0 z1 := by
  unfold ltb79
  have s0 := sm_bd z0
  have s1 := sm_bd z1
  first
    | rfl
    | decide
    | (simp; omega)
    | (first | omega | (and_intros <;> omega))
    | ((try simp (disch := omega) only [wi, Int.reduceAdd, Int.reduceSub, Int.reduceNeg, Int.reduceMul]); (try simp only [fq_1_0, fq_1_1, fq_1_2, fq_1_3, fq_1_4, fq_1_5, fq_0_0, fq_0_1, fq_0_2, fq_0_3, fq_0_4, fq_0_5, fq_m1_0, fq_m1_1, fq_m1_2, fq_m1_3, fq_m1_4, fq_m1_5, fq_m2_0, fq_m2_1, fq_m2_2, fq_m2_3, fq_m2_4, fq_m2_5, fq_m3_0, fq_m3_1, fq_m3_2, fq_m3_3, fq_m3_4, fq_m3_5, fq_m4_0, fq_m4_1, fq_m4_2, fq_m4_3, fq_m4_4, fq_m4_5, fq_m5_0, fq_m5_1, fq_m5_2, fq_m5_3, fq_m5_4, fq_m5_5]); (try simp only [tw0, tw1, tw2, tw3, tw4, tw5, twm1, twm2, twm3, twm4, twm5]); (try simp only [Bool.not_eq_false', Bool.and_eq_true, beq_iff_eq, and_true]); (try simp (disch := omega) only [wi, Int.reduceAdd, Int.reduceSub, Int.reduceNeg, Int.reduceMul]); and_intros <;> omega)
def ltb80 (z8 : Int) (z9 : Int) : Prop := (((- (1048576 : Int)) ≤ (sm z8)) ∧ (((sm z8) ≤ (1048576 : Int)) ∧ (((- (1048576 : Int)) ≤ (sm z9)) ∧ ((sm z9) ≤ (1048576 : Int)))))
theorem ltb80_ok (z8 : Int) (z9 : Int) : ltb80 z8 z9 := by
  unfold ltb80
  have s8 := sm_bd z8
  have s9 := sm_bd z9
  first
    | rfl
    | decide
    | (simp; omega)
    | (first | omega | (and_intros <;> omega))
    | ((try simp (disch := omega) only [wi, Int.reduceAdd, Int.reduceSub, Int.reduceNeg, Int.reduceMul]); (try simp only [Bool.not_eq_false', Bool.and_eq_true, beq_iff_eq, and_true]); (try simp (disch := omega) only [wi, Int.reduceAdd, Int.reduceSub, Int.reduceNeg, Int.reduceMul]); and_intros <;> omega)
def ltb81 (z0 : Int) (z1 : Int) (z2 : Int) (z3 : Int) (z4 : Int) (z5 : Int) (z6 : Int) (z7 : Int) (z8 : Int) (z9 : Int) (z10 : Int) (z11 : Int) : Prop := (((- (1048576 : Int)) ≤ ((((((((sm z0) - (sm z3)) - (sm z4)) + (sm z5)) + (sm z6)) - (sm z9)) - (sm z10)) + (sm z11))) ∧ ((((((((((sm z0) - (sm z3)) - (sm z4)) + (sm z5)) + (sm z6)) - (sm z9)) - (sm z10)) + (sm z11)) ≤ (1048576 : Int)) ∧ (((- (1048576 : Int)) ≤ ((((((((sm z1) + (sm z2)) - (sm z3)) - (sm z4)) + (sm z7)) + (sm z8)) - (sm z9)) - (sm z10))) ∧ (((((((((sm z1) + (sm z2)) - (sm z3)) - (sm z4)) + (sm z7)) + (sm z8)) - (sm z9)) - (sm z10)) ≤ (1048576 : Int)))))
theorem ltb81_ok (z0 : Int) (z1 : Int) (z2 : Int) (z3 : Int) (z4 : Int) (z5 : Int) (z6 : Int) (z7 : Int) (z8 : Int) (z9 : Int) (z10 : Int) (z11 : Int) : ltb81 z0 z1 z2 z3 z4 z5 z6 z7 z8 z9 z10 z11 := by
  unfold ltb81
  have s0 := sm_bd z0
  have s1 := sm_bd z1
  have s2 := sm_bd z2
  have s3 := sm_bd z3
  have s4 := sm_bd z4
  have s5 := sm_bd z5
  have s6 := sm_bd z6
  have s7 := sm_bd z7
  have s8 := sm_bd z8
  have s9 := sm_bd z9
  have s10 := sm_bd z10
  have s11 := sm_bd z11
  first
    | rfl
    | decide
    | (simp; omega)
    | (first | omega | (and_intros <;> omega))
    | ((try simp (disch := omega) only [wi, Int.reduceAdd, Int.reduceSub, Int.reduceNeg, Int.reduceMul]); (try simp only [Bool.not_eq_false', Bool.and_eq_true, beq_iff_eq, and_true]); (try simp (disch := omega) only [wi, Int.reduceAdd, Int.reduceSub, Int.reduceNeg, Int.reduceMul]); and_intros <;> omega)
def ltb82 (z0 : Int) (z1 : Int) (z2 : Int) (z3 : Int) (z4 : Int) (z5 : Int) (z6 : Int) (z7 : Int) (z8 : Int) (z9 : Int) (z10 : Int) (z11 : Int) : Prop := ((((- (524288 : Int)) ≤ ((((((((sm z0) - (sm z3)) - (sm z4)) + (sm z5)) + (sm z6)) - (sm z9)) - (sm z10)) + (sm z11))) ∧ (((((((((sm z0) - (sm z3)) - (sm z4)) + (sm z5)) + (sm z6)) - (sm z9)) - (sm z10)) + (sm z11)) ≤ (524288 : Int))) ∧ ((((- (524288 : Int)) ≤ ((((((((sm z1) + (sm z2)) - (sm z3)) - (sm z4)) + (sm z7)) + (sm z8)) - (sm z9)) - (sm z10))) ∧ (((((((((sm z1) + (sm z2)) - (sm z3)) - (sm z4)) + (sm z7)) + (sm z8)) - (sm z9)) - (sm z10)) ≤ (524288 : Int))) ∧ (((- (1000000 : Int)) ≤ (IntKind.i64.wrap ((0 : Int) - (IntKind.i64.wrap ((IntKind.i64.wrap ((IntKind.i64.wrap ((IntKind.i64.wrap ((0 : Int) + (1 : Int))) + (1 : Int))) + (1 : Int))) + (1 : Int)))))) ∧ ((IntKind.i64.wrap ((0 : Int) - (IntKind.i64.wrap ((IntKind.i64.wrap ((IntKind.i64.wrap ((IntKind.i64.wrap ((0 : Int) + (1 : Int))) + (1 : Int))) + (1 : Int))) + (1 : Int))))) ≤ (1000000 : Int)))))
theorem ltb82_ok (z0 : Int) (z1 : Int) (z2 : Int) (z3 : Int) (z4 : Int) (z5 : Int) (z6 : Int) (z7 : Int) (z8 : Int) (z9 : Int) (z10 : Int) (z11 : Int) : ltb82 z0 z1 z2 z3 z4 z5 z6 z7 z8 z9 z10 z11 := by
  unfold ltb82
  have s0 := sm_bd z0
  have s1 := sm_bd z1
  have s2 := sm_bd z2
  have s3 := sm_bd z3
  have s4 := sm_bd z4
  have s5 := sm_bd z5
  have s6 := sm_bd z6
  have s7 := sm_bd z7
  have s8 := sm_bd z8
  have s9 := sm_bd z9
  have s10 := sm_bd z10
  have s11 := sm_bd z11
  first
    | rfl
    | decide
    | (simp; omega)
    | (first | omega | (and_intros <;> omega))
    | ((try simp (disch := omega) only [wi, Int.reduceAdd, Int.reduceSub, Int.reduceNeg, Int.reduceMul]); (try simp only [Bool.not_eq_false', Bool.and_eq_true, beq_iff_eq, and_true]); (try simp (disch := omega) only [wi, Int.reduceAdd, Int.reduceSub, Int.reduceNeg, Int.reduceMul]); and_intros <;> omega)
def ltb83 : Prop := (((IntKind.i64.wrap ((IntKind.i64.wrap ((IntKind.i64.wrap ((IntKind.i64.wrap ((0 : Int) + (1 : Int))) + (1 : Int))) + (1 : Int))) + (1 : Int))) == (0 : Int)) = false)
theorem ltb83_ok : ltb83 := by
  unfold ltb83
  first
    | rfl
    | decide
    | (simp; omega)
    | (first | omega | (and_intros <;> omega))
    | ((try simp (disch := omega) only [wi, Int.reduceAdd, Int.reduceSub, Int.reduceNeg, Int.reduceMul]); (try simp only [Bool.not_eq_false', Bool.and_eq_true, beq_iff_eq, and_true]); (try simp (disch := omega) only [wi, Int.reduceAdd, Int.reduceSub, Int.reduceNeg, Int.reduceMul]); and_intros <;> omega)
def ltb84 (z0 : Int) (z1 : Int) (z2 : Int) (z3 : Int) (z4 : Int) (z5 : Int) (z6 : Int) (z7 : Int) (z8 : Int) (z9 : Int) (z10 : Int) (z11 : Int) : Prop := ((Bool.not (Bool.and (((((((((((frP (sm z0) (sm z1) (1 : Int) (0 : Nat))).1).1 - (((frP (sm z2) (sm z3) (1 : Int) 1)).1).2) - (((frP (sm z4) (sm z5) (1 : Int) 2)).1).1) + (((frP (sm z4) (sm z5) (1 : Int) 2)).1).2) + (((frP (sm z6) (sm z7) (1 : Int) 3)).1).1) - (((frP (sm z8) (sm z9) (1 : Int) 4)).1).2) - (((frP (sm z10) (sm z11) (1 : Int) 5)).1).1) + (((frP (sm z10) (sm z11) (1 : Int) 5)).1).2) == ((((((((sm z0) + (sm z2)) - (sm z3)) - (sm z5)) - (sm z6)) - (sm z8)) + (sm z9)) + (sm z11))) (Bool.and (((((((((((frP (sm z0) (sm z1) (1 : Int) (0 : Nat))).1).2 + (((frP (sm z2) (sm z3) (1 : Int) 1)).1).1) - (((frP (sm z2) (sm z3) (1 : Int) 1)).1).2) - (((frP (sm z4) (sm z5) (1 : Int) 2)).1).1) + (((frP (sm z6) (sm z7) (1 : Int) 3)).1).2) + (((frP (sm z8) (sm z9) (1 : Int) 4)).1).1) - (((frP (sm z8) (sm z9) (1 : Int) 4)).1).2) - (((frP (sm z10) (sm z11) (1 : Int) 5)).1).1) == ((((((((sm z1) + (sm z2)) + (sm z4)) - (sm z5)) - (sm z7)) - (sm z8)) - (sm z10)) + (sm z11))) true))) = false)
theorem ltb84_ok (z0 : Int) (z1 : Int) (z2 : Int) (z3 : Int) (z4 : Int) (z5 : Int) (z6 : Int) (z7 : Int) (z8 : Int) (z9 : Int) (z10 : Int) (z11 : Int) : ltb84 z0 z1 z2 z3 z4 z5 z6 z7 z8 z9 z10 z11 := by
  unfold ltb84
  have s0 := sm_bd z0
  have s1 := sm_bd z1
  have s2 := sm_bd z2
  have s3 := sm_bd z3
  have s4 := sm_bd z4
  have s5 := sm_bd z5
  have s6 := sm_bd z6
  have s7 := sm_bd z7
  have s8 := sm_bd z8
  have s9 := sm_bd z9
  have s10 := sm_bd z10
  have s11 := sm_bd z11
  first
    | rfl
    | decide
    | (simp; omega)
    | (first | omega | (and_intros <;> omega))
    | ((try simp (disch := omega) only [wi, Int.reduceAdd, Int.reduceSub, Int.reduceNeg, Int.reduceMul]); (try simp only [fq_1_0, fq_1_1, fq_1_2, fq_1_3, fq_1_4, fq_1_5, fq_0_0, fq_0_1, fq_0_2, fq_0_3, fq_0_4, fq_0_5, fq_m1_0, fq_m1_1, fq_m1_2, fq_m1_3, fq_m1_4, fq_m1_5, fq_m2_0, fq_m2_1, fq_m2_2, fq_m2_3, fq_m2_4, fq_m2_5, fq_m3_0, fq_m3_1, fq_m3_2, fq_m3_3, fq_m3_4, fq_m3_5, fq_m4_0, fq_m4_1, fq_m4_2, fq_m4_3, fq_m4_4, fq_m4_5, fq_m5_0, fq_m5_1, fq_m5_2, fq_m5_3, fq_m5_4, fq_m5_5]); (try simp only [tw0, tw1, tw2, tw3, tw4, tw5, twm1, twm2, twm3, twm4, twm5]); (try simp only [Bool.not_eq_false', Bool.and_eq_true, beq_iff_eq, and_true]); (try simp (disch := omega) only [wi, Int.reduceAdd, Int.reduceSub, Int.reduceNeg, Int.reduceMul]); and_intros <;> omega)
def ltb85 (z0 : Int) (z1 : Int) (z2 : Int) (z3 : Int) (z4 : Int) (z5 : Int) (z6 : Int) (z7 : Int) (z8 : Int) (z9 : Int) (z10 : Int) (z11 : Int) : Prop := ((Bool.not (Bool.and (((((((((sm z10) - (sm z1)) - (sm z2)) + (sm z3)) + (sm z4)) - (sm z7)) - (sm z8)) + (sm z9)) == ((Pl.turn (((((((((sm z0) - (sm z3)) - (sm z4)) + (sm z5)) + (sm z6)) - (sm z9)) - (sm z10)) + (sm z11)), ((((((((sm z1) + (sm z2)) - (sm z3)) - (sm z4)) + (sm z7)) + (sm z8)) - (sm z9)) - (sm z10))) (IntKind.i64.wrap ((0 : Int) - (IntKind.i64.wrap ((IntKind.i64.wrap ((IntKind.i64.wrap ((IntKind.i64.wrap ((0 : Int) + (1 : Int))) + (1 : Int))) + (1 : Int))) + (1 : Int))))))).1) (Bool.and (((((((((sm z11) + (sm z0)) - (sm z1)) - (sm z2)) + (sm z5)) + (sm z6)) - (sm z7)) - (sm z8)) == ((Pl.turn (((((((((sm z0) - (sm z3)) - (sm z4)) + (sm z5)) + (sm z6)) - (sm z9)) - (sm z10)) + (sm z11)), ((((((((sm z1) + (sm z2)) - (sm z3)) - (sm z4)) + (sm z7)) + (sm z8)) - (sm z9)) - (sm z10))) (IntKind.i64.wrap ((0 : Int) - (IntKind.i64.wrap ((IntKind.i64.wrap ((IntKind.i64.wrap ((IntKind.i64.wrap ((0 : Int) + (1 : Int))) + (1 : Int))) + (1 : Int))) + (1 : Int))))))).2) true))) = false)
theorem ltb85_ok (z0 : Int) (z1 : Int) (z2 : Int) (z3 : Int) (z4 : Int) (z5 : Int) (z6 : Int) (z7 : Int) (z8 : Int) (z9 : Int) (z10 : Int) (z11 : Int) : ltb85 z0 z1 z2 z3 z4 z5 z6 z7 z8 z9 z10 z11 := by
  unfold ltb85
  have s0 := sm_bd z0
  have s1 := sm_bd z1
  have s2 := sm_bd z2
  have s3 := sm_bd z3
  have s4 := sm_bd z4
  have s5 := sm_bd z5
  have s6 := sm_bd z6
  have s7 := sm_bd z7
  have s8 := sm_bd z8
  have s9 := sm_bd z9
  have s10 := sm_bd z10
  have s11 := sm_bd z11
  first
    | rfl
    | decide
    | (simp; omega)
    | (first | omega | (and_intros <;> omega))
    | ((try simp (disch := omega) only [wi, Int.reduceAdd, Int.reduceSub, Int.reduceNeg, Int.reduceMul]); (try simp only [tw0, tw1, tw2, tw3, tw4, tw5, twm1, twm2, twm3, twm4, twm5]); (try simp only [Bool.not_eq_false', Bool.and_eq_true, beq_iff_eq, and_true]); (try simp (disch := omega) only [wi, Int.reduceAdd, Int.reduceSub, Int.reduceNeg, Int.reduceMul]); and_intros <;> omega)
def ltb86 (z0 : Int) (z1 : Int) : Prop := ((Bool.not (Bool.and (((((((((((frP (sm z0) (sm z1) (0 : Int) (0 : Nat))).1).1 - (((frP (sm z0) (sm z1) (0 : Int) 1)).1).2) - (((frP (sm z0) (sm z1) (0 : Int) 2)).1).1) + (((frP (sm z0) (sm z1) (0 : Int) 2)).1).2) + (((frP (sm z0) (sm z1) (0 : Int) 3)).1).1) - (((frP (sm z0) (sm z1) (0 : Int) 4)).1).2) - (((frP (sm z0) (sm z1) (0 : Int) 5)).1).1) + (((frP (sm z0) (sm z1) (0 : Int) 5)).1).2) == (0 : Int)) (Bool.and (((((((((((frP (sm z0) (sm z1) (0 : Int) (0 : Nat))).1).2 + (((frP (sm z0) (sm z1) (0 : Int) 1)).1).1) - (((frP (sm z0) (sm z1) (0 : Int) 1)).1).2) - (((frP (sm z0) (sm z1) (0 : Int) 2)).1).1) + (((frP (sm z0) (sm z1) (0 : Int) 3)).1).2) + (((frP (sm z0) (sm z1) (0 : Int) 4)).1).1) - (((frP (sm z0) (sm z1) (0 : Int) 4)).1).2) - (((frP (sm z0) (sm z1) (0 : Int) 5)).1).1) == (0 : Int)) true))) = false)
theorem ltb86_ok (z0 : Int) (z1 : Int) : ltb86 z0 z1 := by
  unfold ltb86
  have s0 := sm_bd z0
  have s1 := sm_bd z1
  first
    | rfl
    | decide
    | (simp; omega)
    | (first | omega | (and_intros <;> omega))
    | ((try simp (disch := omega) only [wi, Int.reduceAdd, Int.reduceSub, Int.reduceNeg, Int.reduceMul]); (try simp only [fq_1_0, fq_1_1, fq_1_2, fq_1_3, fq_1_4, fq_1_5, fq_0_0, fq_0_1, fq_0_2, fq_0_3, fq_0_4, fq_0_5, fq_m1_0, fq_m1_1, fq_m1_2, fq_m1_3, fq_m1_4, fq_m1_5, fq_m2_0, fq_m2_1, fq_m2_2, fq_m2_3, fq_m2_4, fq_m2_5, fq_m3_0, fq_m3_1, fq_m3_2, fq_m3_3, fq_m3_4, fq_m3_5, fq_m4_0, fq_m4_1, fq_m4_2, fq_m4_3, fq_m4_4, fq_m4_5, fq_m5_0, fq_m5_1, fq_m5_2, fq_m5_3, fq_m5_4, fq_m5_5]); (try simp only [tw0, tw1, tw2, tw3, tw4, tw5, twm1, twm2, twm3, twm4, twm5]); (try simp only [Bool.not_eq_false', Bool.and_eq_true, beq_iff_eq, and_true]); (try simp (disch := omega) only [wi, Int.reduceAdd, Int.reduceSub, Int.reduceNeg, Int.reduceMul]); and_intros <;> omega)
def ltb87 (z10 : Int) (z11 : Int) : Prop := (((- (1048576 : Int)) ≤ (sm z10)) ∧ (((sm z10) ≤ (1048576 : Int)) ∧ (((- (1048576 : Int)) ≤ (sm z11)) ∧ ((sm z11) ≤ (1048576 : Int)))))
theorem ltb87_ok (z10 : Int) (z11 : Int) : ltb87 z10 z11 := by
  unfold ltb87
  have s10 := sm_bd z10
  have s11 := sm_bd z11
  first
    | rfl
    | decide
    | (simp; omega)
    | (first | omega | (and_intros <;> omega))
    | ((try simp (disch := omega) only [wi, Int.reduceAdd, Int.reduceSub, Int.reduceNeg, Int.reduceMul]); (try simp only [Bool.not_eq_false', Bool.and_eq_true, beq_iff_eq, and_true]); (try simp (disch := omega) only [wi, Int.reduceAdd, Int.reduceSub, Int.reduceNeg, Int.reduceMul]); and_intros <;> omega)
def ltb88 (z0 : Int) (z1 : Int) (z2 : Int) (z3 : Int) (z4 : Int) (z5 : Int) (z6 : Int) (z7 : Int) (z8 : Int) (z9 : Int) (z10 : Int) (z11 : Int) : Prop := (((- (1048576 : Int)) ≤ ((((((((sm z0) + (sm z2)) - (sm z3)) - (sm z5)) - (sm z6)) - (sm z8)) + (sm z9)) + (sm z11))) ∧ ((((((((((sm z0) + (sm z2)) - (sm z3)) - (sm z5)) - (sm z6)) - (sm z8)) + (sm z9)) + (sm z11)) ≤ (1048576 : Int)) ∧ (((- (1048576 : Int)) ≤ ((((((((sm z1) + (sm z2)) + (sm z4)) - (sm z5)) - (sm z7)) - (sm z8)) - (sm z10)) + (sm z11))) ∧ (((((((((sm z1) + (sm z2)) + (sm z4)) - (sm z5)) - (sm z7)) - (sm z8)) - (sm z10)) + (sm z11)) ≤ (1048576 : Int)))))
theorem ltb88_ok (z0 : Int) (z1 : Int) (z2 : Int) (z3 : Int) (z4 : Int) (z5 : Int) (z6 : Int) (z7 : Int) (z8 : Int) (z9 : Int) (z10 : Int) (z11 : Int) : ltb88 z0 z1 z2 z3 z4 z5 z6 z7 z8 z9 z10 z11 := by
  unfold ltb88
  have s0 := sm_bd z0
  have s1 := sm_bd z1
  have s2 := sm_bd z2
  have s3 := sm_bd z3
  have s4 := sm_bd z4
  have s5 := sm_bd z5
  have s6 := sm_bd z6
  have s7 := sm_bd z7
  have s8 := sm_bd z8
  have s9 := sm_bd z9
  have s10 := sm_bd z10
  have s11 := sm_bd z11
  first
    | rfl
    | decide
    | (simp; omega)
    | (first | omega | (and_intros <;> omega))
    | ((try simp (disch := omega) only [wi, Int.reduceAdd, Int.reduceSub, Int.reduceNeg, Int.reduceMul]); (try simp only [Bool.not_eq_false', Bool.and_eq_true, beq_iff_eq, and_true]); (try simp (disch := omega) only [wi, Int.reduceAdd, Int.reduceSub, Int.reduceNeg, Int.reduceMul]); and_intros <;> omega)
def ltb89 (z0 : Int) (z1 : Int) (z2 : Int) (z3 : Int) (z4 : Int) (z5 : Int) (z6 : Int) (z7 : Int) (z8 : Int) (z9 : Int) (z10 : Int) (z11 : Int) : Prop := ((((- (524288 : Int)) ≤ ((((((((sm z0) + (sm z2)) - (sm z3)) - (sm z5)) - (sm z6)) - (sm z8)) + (sm z9)) + (sm z11))) ∧ (((((((((sm z0) + (sm z2)) - (sm z3)) - (sm z5)) - (sm z6)) - (sm z8)) + (sm z9)) + (sm z11)) ≤ (524288 : Int))) ∧ ((((- (524288 : Int)) ≤ ((((((((sm z1) + (sm z2)) + (sm z4)) - (sm z5)) - (sm z7)) - (sm z8)) - (sm z10)) + (sm z11))) ∧ (((((((((sm z1) + (sm z2)) + (sm z4)) - (sm z5)) - (sm z7)) - (sm z8)) - (sm z10)) + (sm z11)) ≤ (524288 : Int))) ∧ (((- (1000000 : Int)) ≤ (IntKind.i64.wrap ((0 : Int) - (IntKind.i64.wrap ((IntKind.i64.wrap ((IntKind.i64.wrap ((IntKind.i64.wrap ((IntKind.i64.wrap ((0 : Int) + (1 : Int))) + (1 : Int))) + (1 : Int))) + (1 : Int))) + (1 : Int)))))) ∧ ((IntKind.i64.wrap ((0 : Int) - (IntKind.i64.wrap ((IntKind.i64.wrap ((IntKind.i64.wrap ((IntKind.i64.wrap ((IntKind.i64.wrap ((0 : Int) + (1 : Int))) + (1 : Int))) + (1 : Int))) + (1 : Int))) + (1 : Int))))) ≤ (1000000 : Int)))))
theorem ltb89_ok (z0 : Int) (z1 : Int) (z2 : Int) (z3 : Int) (z4 : Int) (z5 : Int) (z6 : Int) (z7 : Int) (z8 : Int) (z9 : Int) (z10 : Int) (z11 : Int) : ltb89 z0 z1 z2 z3 z4 z5 z6 z7 z8 z9 z10 z11 := by
  unfold ltb89
  have s0 := sm_bd z0
  have s1 := sm_bd z1
  have s2 := sm_bd z2
  have s3 := sm_bd z3
  have s4 := sm_bd z4
  have s5 := sm_bd z5
  have s6 := sm_bd z6
  have s7 := sm_bd z7
  have s8 := sm_bd z8
  have s9 := sm_bd z9
  have s10 := sm_bd z10
  have s11 := sm_bd z11
  first
    | rfl
    | decide
    | (simp; omega)
    | (first | omega | (and_intros <;> omega))
    | ((try simp (disch := omega) only [wi, Int.reduceAdd, Int.reduceSub, Int.reduceNeg, Int.reduceMul]); (try simp only [Bool.not_eq_false', Bool.and_eq_true, beq_iff_eq, and_true]); (try simp (disch := omega) only [wi, Int.reduceAdd, Int.reduceSub, Int.reduceNeg, Int.reduceMul]); and_intros <;> omega)
def ltb90 : Prop := (((IntKind.i64.wrap ((IntKind.i64.wrap ((IntKind.i64.wrap ((IntKind.i64.wrap ((IntKind.i64.wrap ((0 : Int) + (1 : Int))) + (1 : Int))) + (1 : Int))) + (1 : Int))) + (1 : Int))) == (0 : Int)) = false)
theorem ltb90_ok : ltb90 := by
  unfold ltb90
  first
    | rfl
    | decide
    | (simp; omega)
    | (first | omega | (and_intros <;> omega))
    | ((try simp (disch := omega) only [wi, Int.reduceAdd, Int.reduceSub, Int.reduceNeg, Int.reduceMul]); (try simp only [Bool.not_eq_false', Bool.and_eq_true, beq_iff_eq, and_true]); (try simp (disch := omega) only [wi, Int.reduceAdd, Int.reduceSub, Int.reduceNeg, Int.reduceMul]); and_intros <;> omega)
def ltb91 (z0 : Int) (z1 : Int) (z2 : Int) (z3 : Int) (z4 : Int) (z5 : Int) (z6 : Int) (z7 : Int) (z8 : Int) (z9 : Int) (z10 : Int) (z11 : Int) : Prop := ((Bool.not (Bool.and (((((((((((frP (sm z0) (sm z1) (1 : Int) (0 : Nat))).1).1 + (((frP (sm z2) (sm z3) (1 : Int) 1)).1).1) - (((frP (sm z2) (sm z3) (1 : Int) 1)).1).2) - (((frP (sm z4) (sm z5) (1 : Int) 2)).1).2) - (((frP (sm z6) (sm z7) (1 : Int) 3)).1).1) - (((frP (sm z8) (sm z9) (1 : Int) 4)).1).1) + (((frP (sm z8) (sm z9) (1 : Int) 4)).1).2) + (((frP (sm z10) (sm z11) (1 : Int) 5)).1).2) == ((((((sm z0) + (sm z2)) + (sm z4)) + (sm z6)) + (sm z8)) + (sm z10))) (Bool.and (((((((((((frP (sm z0) (sm z1) (1 : Int) (0 : Nat))).1).2 + (((frP (sm z2) (sm z3) (1 : Int) 1)).1).1) + (((frP (sm z4) (sm z5) (1 : Int) 2)).1).1) - (((frP (sm z4) (sm z5) (1 : Int) 2)).1).2) - (((frP (sm z6) (sm z7) (1 : Int) 3)).1).2) - (((frP (sm z8) (sm z9) (1 : Int) 4)).1).1) - (((frP (sm z10) (sm z11) (1 : Int) 5)).1).1) + (((frP (sm z10) (sm z11) (1 : Int) 5)).1).2) == ((((((sm z1) + (sm z3)) + (sm z5)) + (sm z7)) + (sm z9)) + (sm z11))) true))) = false)
theorem ltb91_ok (z0 : Int) (z1 : Int) (z2 : Int) (z3 : Int) (z4 : Int) (z5 : Int) (z6 : Int) (z7 : Int) (z8 : Int) (z9 : Int) (z10 : Int) (z11 : Int) : ltb91 z0 z1 z2 z3 z4 z5 z6 z7 z8 z9 z10 z11 := by
  unfold ltb91
  have s0 := sm_bd z0
  have s1 := sm_bd z1
  have s2 := sm_bd z2
  have s3 := sm_bd z3
  have s4 := sm_bd z4
  have s5 := sm_bd z5
  have s6 := sm_bd z6
  have s7 := sm_bd z7
  have s8 := sm_bd z8
  have s9 := sm_bd z9
  have s10 := sm_bd z10
  have s11 := sm_bd z11
  first
    | rfl
    | decide
    | (simp; omega)
    | (first | omega | (and_intros <;> omega))
    | ((try simp (disch := omega) only [wi, Int.reduceAdd, Int.reduceSub, Int.reduceNeg, Int.reduceMul]); (try simp only [fq_1_0, fq_1_1, fq_1_2, fq_1_3, fq_1_4, fq_1_5, fq_0_0, fq_0_1, fq_0_2, fq_0_3, fq_0_4, fq_0_5, fq_m1_0, fq_m1_1, fq_m1_2, fq_m1_3, fq_m1_4, fq_m1_5, fq_m2_0, fq_m2_1, fq_m2_2, fq_m2_3, fq_m2_4, fq_m2_5, fq_m3_0, fq_m3_1, fq_m3_2, fq_m3_3, fq_m3_4, fq_m3_5, fq_m4_0, fq_m4_1, fq_m4_2, fq_m4_3, fq_m4_4, fq_m4_5, fq_m5_0, fq_m5_1, fq_m5_2, fq_m5_3, fq_m5_4, fq_m5_5]); (try simp only [tw0, tw1, tw2, tw3, tw4, tw5, twm1, twm2, twm3, twm4, twm5]); (try simp only [Bool.not_eq_false', Bool.and_eq_true, beq_iff_eq, and_true]); (try simp (disch := omega) only [wi, Int.reduceAdd, Int.reduceSub, Int.reduceNeg, Int.reduceMul]); and_intros <;> omega)
def ltb92 (z0 : Int) (z1 : Int) (z2 : Int) (z3 : Int) (z4 : Int) (z5 : Int) (z6 : Int) (z7 : Int) (z8 : Int) (z9 : Int) (z10 : Int) (z11 : Int) : Prop := ((Bool.not (Bool.and (((((((((sm z10) + (sm z0)) - (sm z1)) - (sm z3)) - (sm z4)) - (sm z6)) + (sm z7)) + (sm z9)) == ((Pl.turn (((((((((sm z0) + (sm z2)) - (sm z3)) - (sm z5)) - (sm z6)) - (sm z8)) + (sm z9)) + (sm z11)), ((((((((sm z1) + (sm z2)) + (sm z4)) - (sm z5)) - (sm z7)) - (sm z8)) - (sm z10)) + (sm z11))) (IntKind.i64.wrap ((0 : Int) - (IntKind.i64.wrap ((IntKind.i64.wrap ((IntKind.i64.wrap ((IntKind.i64.wrap ((IntKind.i64.wrap ((0 : Int) + (1 : Int))) + (1 : Int))) + (1 : Int))) + (1 : Int))) + (1 : Int))))))).1) (Bool.and (((((((((sm z11) + (sm z0)) + (sm z2)) - (sm z3)) - (sm z5)) - (sm z6)) - (sm z8)) + (sm z9)) == ((Pl.turn (((((((((sm z0) + (sm z2)) - (sm z3)) - (sm z5)) - (sm z6)) - (sm z8)) + (sm z9)) + (sm z11)), ((((((((sm z1) + (sm z2)) + (sm z4)) - (sm z5)) - (sm z7)) - (sm z8)) - (sm z10)) + (sm z11))) (IntKind.i64.wrap ((0 : Int) - (IntKind.i64.wrap ((IntKind.i64.wrap ((IntKind.i64.wrap ((IntKind.i64.wrap ((IntKind.i64.wrap ((0 : Int) + (1 : Int))) + (1 : Int))) + (1 : Int))) + (1 : Int))) + (1 : Int))))))).2) true))) = false)
theorem ltb92_ok (z0 : Int) (z1 : Int) (z2 : Int) (z3 : Int) (z4 : Int) (z5 : Int) (z6 : Int) (z7 : Int) (z8 : Int) (z9 : Int) (z10 : Int) (z11 : Int) : ltb92 z0 z1 z2 z3 z4 z5 z6 z7 z8 z9 z10 z11 := by
  unfold ltb92
  have s0 := sm_bd z0
  have s1 := sm_bd z1
  have s2 := sm_bd z2
  have s3 := sm_bd z3
  have s4 := sm_bd z4
  have s5 := sm_bd z5
  have s6 := sm_bd z6
  have s7 := sm_bd z7
  have s8 := sm_bd z8
  have s9 := sm_bd z9
  have s10 := sm_bd z10
  have s11 := sm_bd z11
  first
    | rfl
    | decide
    | (simp; omega)
    | (first | omega | (and_intros <;> omega))
    | ((try simp (disch := omega) only [wi, Int.reduceAdd, Int.reduceSub, Int.reduceNeg, Int.reduceMul]); (try simp only [tw0, tw1, tw2, tw3, tw4, tw5, twm1, twm2, twm3, twm4, twm5]); (try simp only [Bool.not_eq_false', Bool.and_eq_true, beq_iff_eq, and_true]); (try simp (disch := omega) only [wi, Int.reduceAdd, Int.reduceSub, Int.reduceNeg, Int.reduceMul]); and_intros <;> omega)
def ltb93 (z0 : Int) (z1 : Int) : Prop := ((Bool.not (Bool.and (((((((((((frP (sm z0) (sm z1) (0 : Int) (0 : Nat))).1).1 + (((frP (sm z0) (sm z1) (0 : Int) 1)).1).1) - (((frP (sm z0) (sm z1) (0 : Int) 1)).1).2) - (((frP (sm z0) (sm z1) (0 : Int) 2)).1).2) - (((frP (sm z0) (sm z1) (0 : Int) 3)).1).1) - (((frP (sm z0) (sm z1) (0 : Int) 4)).1).1) + (((frP (sm z0) (sm z1) (0 : Int) 4)).1).2) + (((frP (sm z0) (sm z1) (0 : Int) 5)).1).2) == (0 : Int)) (Bool.and (((((((((((frP (sm z0) (sm z1) (0 : Int) (0 : Nat))).1).2 + (((frP (sm z0) (sm z1) (0 : Int) 1)).1).1) + (((frP (sm z0) (sm z1) (0 : Int) 2)).1).1) - (((frP (sm z0) (sm z1) (0 : Int) 2)).1).2) - (((frP (sm z0) (sm z1) (0 : Int) 3)).1).2) - (((frP (sm z0) (sm z1) (0 : Int) 4)).1).1) - (((frP (sm z0) (sm z1) (0 : Int) 5)).1).1) + (((frP (sm z0) (sm z1) (0 : Int) 5)).1).2) == (0 : Int)) true))) = false)
theorem ltb93_ok (z0 : Int) (z1 : Int) : ltb93 z0 z1 := by
  unfold ltb93
  have s0 := sm_bd z0
  have s1 := sm_bd z1
  first
    | rfl
    | decide
    | (simp; omega)
    | (first | omega | (and_intros <;> omega))
    | ((try simp (disch := omega) only [wi, Int.reduceAdd, Int.reduceSub, Int.reduceNeg, Int.reduceMul]); (try simp only [fq_1_0, fq_1_1, fq_1_2, fq_1_3, fq_1_4, fq_1_5, fq_0_0, fq_0_1, fq_0_2, fq_0_3, fq_0_4, fq_0_5, fq_m1_0, fq_m1_1, fq_m1_2, fq_m1_3, fq_m1_4, fq_m1_5, fq_m2_0, fq_m2_1, fq_m2_2, fq_m2_3, fq_m2_4, fq_m2_5, fq_m3_0, fq_m3_1, fq_m3_2, fq_m3_3, fq_m3_4, fq_m3_5, fq_m4_0, fq_m4_1, fq_m4_2, fq_m4_3, fq_m4_4, fq_m4_5, fq_m5_0, fq_m5_1, fq_m5_2, fq_m5_3, fq_m5_4, fq_m5_5]); (try simp only [tw0, tw1, tw2, tw3, tw4, tw5, twm1, twm2, twm3, twm4, twm5]); (try simp only [Bool.not_eq_false', Bool.and_eq_true, beq_iff_eq, and_true]); (try simp (disch := omega) only [wi, Int.reduceAdd, Int.reduceSub, Int.reduceNeg, Int.reduceMul]); and_intros <;> omega)
def ltb94 (z0 : Int) (z1 : Int) (z2 : Int) (z3 : Int) (z4 : Int) (z5 : Int) (z6 : Int) (z7 : Int) (z8 : Int) (z9 : Int) (z10 : Int) (z11 : Int) : Prop := (((IntKind.i64.wrap ((IntKind.i64.wrap ((IntKind.i64.wrap ((IntKind.i64.wrap ((IntKind.i64.wrap ((IntKind.i64.wrap ((0 : Int) + (Pl.norm (((((((sm z0) + (sm z2)) + (sm z4)) + (sm z6)) + (sm z8)) + (sm z10)), ((((((sm z1) + (sm z3)) + (sm z5)) + (sm z7)) + (sm z9)) + (sm z11)))))) + (Pl.norm (((((((((sm z0) + (sm z3)) - (sm z4)) + (sm z5)) - (sm z6)) - (sm z9)) + (sm z10)) - (sm z11)), ((((((((sm z1) - (sm z2)) + (sm z3)) - (sm z4)) - (sm z7)) + (sm z8)) - (sm z9)) + (sm z10)))))) + (Pl.norm (((((((((sm z0) - (sm z2)) + (sm z3)) - (sm z5)) + (sm z6)) - (sm z8)) + (sm z9)) - (sm z11)), ((((((((sm z1) - (sm z2)) + (sm z4)) - (sm z5)) + (sm z7)) - (sm z8)) + (sm z10)) - (sm z11)))))) + (Pl.norm (((((((sm z0) - (sm z2)) + (sm z4)) - (sm z6)) + (sm z8)) - (sm z10)), ((((((sm z1) - (sm z3)) + (sm z5)) - (sm z7)) + (sm z9)) - (sm z11)))))) + (Pl.norm (((((((((sm z0) - (sm z3)) - (sm z4)) + (sm z5)) + (sm z6)) - (sm z9)) - (sm z10)) + (sm z11)), ((((((((sm z1) + (sm z2)) - (sm z3)) - (sm z4)) + (sm z7)) + (sm z8)) - (sm z9)) - (sm z10)))))) + (Pl.norm (((((((((sm z0) + (sm z2)) - (sm z3)) - (sm z5)) - (sm z6)) - (sm z8)) + (sm z9)) + (sm z11)), ((((((((sm z1) + (sm z2)) + (sm z4)) - (sm z5)) - (sm z7)) - (sm z8)) - (sm z10)) + (sm z11)))))) == (IntKind.i64.wrap ((6 : Int) * (IntKind.i64.wrap ((IntKind.i64.wrap ((IntKind.i64.wrap ((IntKind.i64.wrap ((IntKind.i64.wrap ((IntKind.i64.wrap ((0 : Int) + (Pl.norm ((sm z0), (sm z1))))) + (Pl.norm ((sm z2), (sm z3))))) + (Pl.norm ((sm z4), (sm z5))))) + (Pl.norm ((sm z6), (sm z7))))) + (Pl.norm ((sm z8), (sm z9))))) + (Pl.norm ((sm z10), (sm z11)))))))) = true)
theorem ltb94_ok (z0 : Int) (z1 : Int) (z2 : Int) (z3 : Int) (z4 : Int) (z5 : Int) (z6 : Int) (z7 : Int) (z8 : Int) (z9 : Int) (z10 : Int) (z11 : Int) : ltb94 z0 z1 z2 z3 z4 z5 z6 z7 z8 z9 z10 z11 := by
  unfold ltb94
  have s0 := sm_bd z0
  have s1 := sm_bd z1
  have s2 := sm_bd z2
  have s3 := sm_bd z3
  have s4 := sm_bd z4
  have s5 := sm_bd z5
  have s6 := sm_bd z6
  have s7 := sm_bd z7
  have s8 := sm_bd z8
  have s9 := sm_bd z9
  have s10 := sm_bd z10
  have s11 := sm_bd z11
  rw [beq_iff_eq]
  have n0 := nrm_bd (a := (sm z0) + (sm z2) + (sm z4) + (sm z6) + (sm z8) + (sm z10)) (b := (sm z1) + (sm z3) + (sm z5) + (sm z7) + (sm z9) + (sm z11)) ⟨by omega, by omega⟩ ⟨by omega, by omega⟩
  have n1 := nrm_bd (a := (sm z0) + (sm z3) - (sm z4) + (sm z5) - (sm z6) - (sm z9) + (sm z10) - (sm z11)) (b := (sm z1) - (sm z2) + (sm z3) - (sm z4) - (sm z7) + (sm z8) - (sm z9) + (sm z10)) ⟨by omega, by omega⟩ ⟨by omega, by omega⟩
  have n2 := nrm_bd (a := (sm z0) - (sm z2) + (sm z3) - (sm z5) + (sm z6) - (sm z8) + (sm z9) - (sm z11)) (b := (sm z1) - (sm z2) + (sm z4) - (sm z5) + (sm z7) - (sm z8) + (sm z10) - (sm z11)) ⟨by omega, by omega⟩ ⟨by omega, by omega⟩
  have n3 := nrm_bd (a := (sm z0) - (sm z2) + (sm z4) - (sm z6) + (sm z8) - (sm z10)) (b := (sm z1) - (sm z3) + (sm z5) - (sm z7) + (sm z9) - (sm z11)) ⟨by omega, by omega⟩ ⟨by omega, by omega⟩
  have n4 := nrm_bd (a := (sm z0) - (sm z3) - (sm z4) + (sm z5) + (sm z6) - (sm z9) - (sm z10) + (sm z11)) (b := (sm z1) + (sm z2) - (sm z3) - (sm z4) + (sm z7) + (sm z8) - (sm z9) - (sm z10)) ⟨by omega, by omega⟩ ⟨by omega, by omega⟩
  have n5 := nrm_bd (a := (sm z0) + (sm z2) - (sm z3) - (sm z5) - (sm z6) - (sm z8) + (sm z9) + (sm z11)) (b := (sm z1) + (sm z2) + (sm z4) - (sm z5) - (sm z7) - (sm z8) - (sm z10) + (sm z11)) ⟨by omega, by omega⟩ ⟨by omega, by omega⟩
  have n6 := nrm_bd (a := (sm z0)) (b := (sm z1)) ⟨by omega, by omega⟩ ⟨by omega, by omega⟩
  have n7 := nrm_bd (a := (sm z2)) (b := (sm z3)) ⟨by omega, by omega⟩ ⟨by omega, by omega⟩
  have n8 := nrm_bd (a := (sm z4)) (b := (sm z5)) ⟨by omega, by omega⟩ ⟨by omega, by omega⟩
  have n9 := nrm_bd (a := (sm z6)) (b := (sm z7)) ⟨by omega, by omega⟩ ⟨by omega, by omega⟩
  have n10 := nrm_bd (a := (sm z8)) (b := (sm z9)) ⟨by omega, by omega⟩ ⟨by omega, by omega⟩
  have n11 := nrm_bd (a := (sm z10)) (b := (sm z11)) ⟨by omega, by omega⟩ ⟨by omega, by omega⟩
  simp (disch := omega) only [wi]
  clear n0 n1 n2 n3 n4 n5 n6 n7 n8 n9 n10 n11
  unfold Pl.norm
  grind
def ltb95 (k : Int) : Prop := (((.int .i64 (Int.tmod ((Int.tmod k (6 : Nat)) + (6 : Int)) (6 : Int))) : Value) = (.int .i64 (1 : Int)))
theorem ltb95_ok (k : Int) (hk : -128 ≤ k ∧ k ≤ 127) (hc : (k.tmod 6 + 6).tmod 6 = 1) : ltb95 k := by
  unfold ltb95
  exact congrArg (Value.int .i64) hc
def ltb96 : Prop := (((.int .i64 (IntKind.i64.wrap ((0 : Int) - (1 : Int)))) : Value) = (.int .i64 (- (1 : Int))))
theorem ltb96_ok : ltb96 := by
  unfold ltb96
  first | rfl | (refine congrArg (Value.int .i64) ?_; first | rfl | (rw [wi _ (by omega)]; done) | (rw [wi _ (by omega)]; omega) | omega)
def ltb97 (z0 : Int) (z1 : Int) : Prop := ((∀ (i : Nat), ((i < (6 : Nat)) → (((ltV (gL ((sm z0) :: ((sm z1) :: ((sm z0) :: ((sm z1) :: ((sm z0) :: ((sm z1) :: ((sm z0) :: ((sm z1) :: ((sm z0) :: ((sm z1) :: ((sm z0) :: ((sm z1) :: [])))))))))))) i (0 : Nat)) (gL ((sm z0) :: ((sm z1) :: ((sm z0) :: ((sm z1) :: ((sm z0) :: ((sm z1) :: ((sm z0) :: ((sm z1) :: ((sm z0) :: ((sm z1) :: ((sm z0) :: ((sm z1) :: [])))))))))))) i (1 : Nat))) = (0 : Int)) → (Bg (1099511627776 : Int) (gL ((sm z0) :: ((sm z1) :: ((sm z0) :: ((sm z1) :: ((sm z0) :: ((sm z1) :: ((sm z0) :: ((sm z1) :: ((sm z0) :: ((sm z1) :: ((sm z0) :: ((sm z1) :: [])))))))))))) i (0 : Nat)) (gL ((sm z0) :: ((sm z1) :: ((sm z0) :: ((sm z1) :: ((sm z0) :: ((sm z1) :: ((sm z0) :: ((sm z1) :: ((sm z0) :: ((sm z1) :: ((sm z0) :: ((sm z1) :: [])))))))))))) i (1 : Nat)))))) ∧ ((frErr ltV (6 : Nat) (gL ((sm z0) :: ((sm z1) :: ((sm z0) :: ((sm z1) :: ((sm z0) :: ((sm z1) :: ((sm z0) :: ((sm z1) :: ((sm z0) :: ((sm z1) :: ((sm z0) :: ((sm z1) :: []))))))))))))) (- (1 : Int))) = (Int.ofNat 0)))
theorem ltb97_ok (z0 : Int) (z1 : Int) : ltb97 z0 z1 := by
  unfold ltb97
  exact fr_six ⟨by decide, by decide⟩ (six_in ⟨sm_in _, sm_in _⟩ ⟨sm_in _, sm_in _⟩ ⟨sm_in _, sm_in _⟩ ⟨sm_in _, sm_in _⟩ ⟨sm_in _, sm_in _⟩ ⟨sm_in _, sm_in _⟩)
def ltb98 (z0 : Int) (z1 : Int) : Prop := ((((- (65536 : Int)) ≤ (((frP (sm z0) (sm z1) (- (1 : Int)) (0 : Nat))).1).1) ∧ ((((frP (sm z0) (sm z1) (- (1 : Int)) (0 : Nat))).1).1 ≤ (65536 : Int))) ∧ ((((- (65536 : Int)) ≤ (((frP (sm z0) (sm z1) (- (1 : Int)) (0 : Nat))).1).2) ∧ ((((frP (sm z0) (sm z1) (- (1 : Int)) (0 : Nat))).1).2 ≤ (65536 : Int))) ∧ ((((- (65536 : Int)) ≤ (((frP (sm z0) (sm z1) (- (1 : Int)) 1)).1).1) ∧ ((((frP (sm z0) (sm z1) (- (1 : Int)) 1)).1).1 ≤ (65536 : Int))) ∧ ((((- (65536 : Int)) ≤ (((frP (sm z0) (sm z1) (- (1 : Int)) 1)).1).2) ∧ ((((frP (sm z0) (sm z1) (- (1 : Int)) 1)).1).2 ≤ (65536 : Int))) ∧ ((((- (65536 : Int)) ≤ (((frP (sm z0) (sm z1) (- (1 : Int)) 2)).1).1) ∧ ((((frP (sm z0) (sm z1) (- (1 : Int)) 2)).1).1 ≤ (65536 : Int))) ∧ ((((- (65536 : Int)) ≤ (((frP (sm z0) (sm z1) (- (1 : Int)) 2)).1).2) ∧ ((((frP (sm z0) (sm z1) (- (1 : Int)) 2)).1).2 ≤ (65536 : Int))) ∧ ((((- (65536 : Int)) ≤ (((frP (sm z0) (sm z1) (- (1 : Int)) 3)).1).1) ∧ ((((frP (sm z0) (sm z1) (- (1 : Int)) 3)).1).1 ≤ (65536 : Int))) ∧ ((((- (65536 : Int)) ≤ (((frP (sm z0) (sm z1) (- (1 : Int)) 3)).1).2) ∧ ((((frP (sm z0) (sm z1) (- (1 : Int)) 3)).1).2 ≤ (65536 : Int))) ∧ ((((- (65536 : Int)) ≤ (((frP (sm z0) (sm z1) (- (1 : Int)) 4)).1).1) ∧ ((((frP (sm z0) (sm z1) (- (1 : Int)) 4)).1).1 ≤ (65536 : Int))) ∧ ((((- (65536 : Int)) ≤ (((frP (sm z0) (sm z1) (- (1 : Int)) 4)).1).2) ∧ ((((frP (sm z0) (sm z1) (- (1 : Int)) 4)).1).2 ≤ (65536 : Int))) ∧ ((((- (65536 : Int)) ≤ (((frP (sm z0) (sm z1) (- (1 : Int)) 5)).1).1) ∧ ((((frP (sm z0) (sm z1) (- (1 : Int)) 5)).1).1 ≤ (65536 : Int))) ∧ (((- (65536 : Int)) ≤ (((frP (sm z0) (sm z1) (- (1 : Int)) 5)).1).2) ∧ ((((frP (sm z0) (sm z1) (- (1 : Int)) 5)).1).2 ≤ (65536 : Int))))))))))))))
theorem ltb98_ok (z0 : Int) (z1 : Int) : ltb98 z0 z1 := by
  unfold ltb98
  have s0 := sm_bd z0
  have s1 := sm_bd z1
  first
    | rfl
    | decide
    | (simp; omega)
    | (first | omega | (and_intros <;> omega))
    | ((try simp (disch := omega) only [wi, Int.reduceAdd, Int.reduceSub, Int.reduceNeg, Int.reduceMul]); (try simp only [fq_1_0, fq_1_1, fq_1_2, fq_1_3, fq_1_4, fq_1_5, fq_0_0, fq_0_1, fq_0_2, fq_0_3, fq_0_4, fq_0_5, fq_m1_0, fq_m1_1, fq_m1_2, fq_m1_3, fq_m1_4, fq_m1_5, fq_m2_0, fq_m2_1, fq_m2_2, fq_m2_3, fq_m2_4, fq_m2_5, fq_m3_0, fq_m3_1, fq_m3_2, fq_m3_3, fq_m3_4, fq_m3_5, fq_m4_0, fq_m4_1, fq_m4_2, fq_m4_3, fq_m4_4, fq_m4_5, fq_m5_0, fq_m5_1, fq_m5_2, fq_m5_3, fq_m5_4, fq_m5_5]); (try simp only [tw0, tw1, tw2, tw3, tw4, tw5, twm1, twm2, twm3, twm4, twm5]); (try simp only [Bool.not_eq_false', Bool.and_eq_true, beq_iff_eq, and_true]); (try simp (disch := omega) only [wi, Int.reduceAdd, Int.reduceSub, Int.reduceNeg, Int.reduceMul]); and_intros <;> omega)
def ltb99 : Prop := (((0 : Int) == (1 : Int)) = false)
theorem ltb99_ok : ltb99 := by
  unfold ltb99
  first
    | rfl
    | decide
    | (simp; omega)
    | (first | omega | (and_intros <;> omega))
    | ((try simp (disch := omega) only [wi, Int.reduceAdd, Int.reduceSub, Int.reduceNeg, Int.reduceMul]); (try simp only [Bool.not_eq_false', Bool.and_eq_true, beq_iff_eq, and_true]); (try simp (disch := omega) only [wi, Int.reduceAdd, Int.reduceSub, Int.reduceNeg, Int.reduceMul]); and_intros <;> omega)
def ltb100 (z0 : Int) (z1 : Int) : Prop := ((Bool.not (Bool.and (((((((((frP (sm z0) (sm z1) (- (1 : Int)) (0 : Nat))).1).1 + (((frP (sm z0) (sm z1) (- (1 : Int)) 1)).1).1) + (((frP (sm z0) (sm z1) (- (1 : Int)) 2)).1).1) + (((frP (sm z0) (sm z1) (- (1 : Int)) 3)).1).1) + (((frP (sm z0) (sm z1) (- (1 : Int)) 4)).1).1) + (((frP (sm z0) (sm z1) (- (1 : Int)) 5)).1).1) == (0 : Int)) (Bool.and (((((((((frP (sm z0) (sm z1) (- (1 : Int)) (0 : Nat))).1).2 + (((frP (sm z0) (sm z1) (- (1 : Int)) 1)).1).2) + (((frP (sm z0) (sm z1) (- (1 : Int)) 2)).1).2) + (((frP (sm z0) (sm z1) (- (1 : Int)) 3)).1).2) + (((frP (sm z0) (sm z1) (- (1 : Int)) 4)).1).2) + (((frP (sm z0) (sm z1) (- (1 : Int)) 5)).1).2) == (0 : Int)) true))) = false)
theorem ltb100_ok (z0 : Int) (z1 : Int) : ltb100 z0 z1 := by
  unfold ltb100
  have s0 := sm_bd z0
  have s1 := sm_bd z1
  first
    | rfl
    | decide
    | (simp; omega)
    | (first | omega | (and_intros <;> omega))
    | ((try simp (disch := omega) only [wi, Int.reduceAdd, Int.reduceSub, Int.reduceNeg, Int.reduceMul]); (try simp only [fq_1_0, fq_1_1, fq_1_2, fq_1_3, fq_1_4, fq_1_5, fq_0_0, fq_0_1, fq_0_2, fq_0_3, fq_0_4, fq_0_5, fq_m1_0, fq_m1_1, fq_m1_2, fq_m1_3, fq_m1_4, fq_m1_5, fq_m2_0, fq_m2_1, fq_m2_2, fq_m2_3, fq_m2_4, fq_m2_5, fq_m3_0, fq_m3_1, fq_m3_2, fq_m3_3, fq_m3_4, fq_m3_5, fq_m4_0, fq_m4_1, fq_m4_2, fq_m4_3, fq_m4_4, fq_m4_5, fq_m5_0, fq_m5_1, fq_m5_2, fq_m5_3, fq_m5_4, fq_m5_5]); (try simp only [tw0, tw1, tw2, tw3, tw4, tw5, twm1, twm2, twm3, twm4, twm5]); (try simp only [Bool.not_eq_false', Bool.and_eq_true, beq_iff_eq, and_true]); (try simp (disch := omega) only [wi, Int.reduceAdd, Int.reduceSub, Int.reduceNeg, Int.reduceMul]); and_intros <;> omega)
def ltb101 : Prop := (((IntKind.i64.wrap ((0 : Int) + (1 : Int))) == (1 : Int)) = true)
theorem ltb101_ok : ltb101 := by
  unfold ltb101
  first
    | rfl
    | decide
    | (simp; omega)
    | (first | omega | (and_intros <;> omega))
    | ((try simp (disch := omega) only [wi, Int.reduceAdd, Int.reduceSub, Int.reduceNeg, Int.reduceMul]); (try simp only [Bool.not_eq_false', Bool.and_eq_true, beq_iff_eq, and_true]); (try simp (disch := omega) only [wi, Int.reduceAdd, Int.reduceSub, Int.reduceNeg, Int.reduceMul]); and_intros <;> omega)
def ltb102 (z0 : Int) (z1 : Int) : Prop := ((Bool.not (Bool.and (((((((((((frP (sm z0) (sm z1) (- (1 : Int)) (0 : Nat))).1).1 + (((frP (sm z0) (sm z1) (- (1 : Int)) 1)).1).2) - (((frP (sm z0) (sm z1) (- (1 : Int)) 2)).1).1) + (((frP (sm z0) (sm z1) (- (1 : Int)) 2)).1).2) - (((frP (sm z0) (sm z1) (- (1 : Int)) 3)).1).1) - (((frP (sm z0) (sm z1) (- (1 : Int)) 4)).1).2) + (((frP (sm z0) (sm z1) (- (1 : Int)) 5)).1).1) - (((frP (sm z0) (sm z1) (- (1 : Int)) 5)).1).2) == (IntKind.i64.wrap ((6 : Int) * (sm z0)))) (Bool.and (((((((((((frP (sm z0) (sm z1) (- (1 : Int)) (0 : Nat))).1).2 - (((frP (sm z0) (sm z1) (- (1 : Int)) 1)).1).1) + (((frP (sm z0) (sm z1) (- (1 : Int)) 1)).1).2) - (((frP (sm z0) (sm z1) (- (1 : Int)) 2)).1).1) - (((frP (sm z0) (sm z1) (- (1 : Int)) 3)).1).2) + (((frP (sm z0) (sm z1) (- (1 : Int)) 4)).1).1) - (((frP (sm z0) (sm z1) (- (1 : Int)) 4)).1).2) + (((frP (sm z0) (sm z1) (- (1 : Int)) 5)).1).1) == (IntKind.i64.wrap ((6 : Int) * (sm z1)))) true))) = false)
theorem ltb102_ok (z0 : Int) (z1 : Int) : ltb102 z0 z1 := by
  unfold ltb102
  have s0 := sm_bd z0
  have s1 := sm_bd z1
  first
    | rfl
    | decide
    | (simp; omega)
    | (first | omega | (and_intros <;> omega))
    | ((try simp (disch := omega) only [wi, Int.reduceAdd, Int.reduceSub, Int.reduceNeg, Int.reduceMul]); (try simp only [fq_1_0, fq_1_1, fq_1_2, fq_1_3, fq_1_4, fq_1_5, fq_0_0, fq_0_1, fq_0_2, fq_0_3, fq_0_4, fq_0_5, fq_m1_0, fq_m1_1, fq_m1_2, fq_m1_3, fq_m1_4, fq_m1_5, fq_m2_0, fq_m2_1, fq_m2_2, fq_m2_3, fq_m2_4, fq_m2_5, fq_m3_0, fq_m3_1, fq_m3_2, fq_m3_3, fq_m3_4, fq_m3_5, fq_m4_0, fq_m4_1, fq_m4_2, fq_m4_3, fq_m4_4, fq_m4_5, fq_m5_0, fq_m5_1, fq_m5_2, fq_m5_3, fq_m5_4, fq_m5_5]); (try simp only [tw0, tw1, tw2, tw3, tw4, tw5, twm1, twm2, twm3, twm4, twm5]); (try simp only [Bool.not_eq_false', Bool.and_eq_true, beq_iff_eq, and_true]); (try simp (disch := omega) only [wi, Int.reduceAdd, Int.reduceSub, Int.reduceNeg, Int.reduceMul]); and_intros <;> omega)
def ltb103 : Prop := (((IntKind.i64.wrap ((IntKind.i64.wrap ((0 : Int) + (1 : Int))) + (1 : Int))) == (1 : Int)) = false)
theorem ltb103_ok : ltb103 := by
  unfold ltb103
  first
    | rfl
    | decide
    | (simp; omega)
    | (first | omega | (and_intros <;> omega))
    | ((try simp (disch := omega) only [wi, Int.reduceAdd, Int.reduceSub, Int.reduceNeg, Int.reduceMul]); (try simp only [Bool.not_eq_false', Bool.and_eq_true, beq_iff_eq, and_true]); (try simp (disch := omega) only [wi, Int.reduceAdd, Int.reduceSub, Int.reduceNeg, Int.reduceMul]); and_intros <;> omega)
def ltb104 (z0 : Int) (z1 : Int) : Prop := ((Bool.not (Bool.and (((((((((((frP (sm z0) (sm z1) (- (1 : Int)) (0 : Nat))).1).1 - (((frP (sm z0) (sm z1) (- (1 : Int)) 1)).1).1) + (((frP (sm z0) (sm z1) (- (1 : Int)) 1)).1).2) - (((frP (sm z0) (sm z1) (- (1 : Int)) 2)).1).2) + (((frP (sm z0) (sm z1) (- (1 : Int)) 3)).1).1) - (((frP (sm z0) (sm z1) (- (1 : Int)) 4)).1).1) + (((frP (sm z0) (sm z1) (- (1 : Int)) 4)).1).2) - (((frP (sm z0) (sm z1) (- (1 : Int)) 5)).1).2) == (0 : Int)) (Bool.and (((((((((((frP (sm z0) (sm z1) (- (1 : Int)) (0 : Nat))).1).2 - (((frP (sm z0) (sm z1) (- (1 : Int)) 1)).1).1) + (((frP (sm z0) (sm z1) (- (1 : Int)) 2)).1).1) - (((frP (sm z0) (sm z1) (- (1 : Int)) 2)).1).2) + (((frP (sm z0) (sm z1) (- (1 : Int)) 3)).1).2) - (((frP (sm z0) (sm z1) (- (1 : Int)) 4)).1).1) + (((frP (sm z0) (sm z1) (- (1 : Int)) 5)).1).1) - (((frP (sm z0) (sm z1) (- (1 : Int)) 5)).1).2) == (0 : Int)) true))) = false)
theorem ltb104_ok (z0 : Int) (z1 : Int) : ltb104 z0 z1 := by
  unfold ltb104
  have s0 := sm_bd z0
  have s1 := sm_bd z1
  first
    | rfl
    | decide
    | (simp; omega)
    | (first | omega | (and_intros <;> omega))
    | ((try simp (disch := omega) only [wi, Int.reduceAdd, Int.reduceSub, Int.reduceNeg, Int.reduceMul]); (try simp only [fq_1_0, fq_1_1, fq_1_2, fq_1_3, fq_1_4, fq_1_5, fq_0_0, fq_0_1, fq_0_2, fq_0_3, fq_0_4, fq_0_5, fq_m1_0, fq_m1_1, fq_m1_2, fq_m1_3, fq_m1_4, fq_m1_5, fq_m2_0, fq_m2_1, fq_m2_2, fq_m2_3, fq_m2_4, fq_m2_5, fq_m3_0, fq_m3_1, fq_m3_2, fq_m3_3, fq_m3_4, fq_m3_5, fq_m4_0, fq_m4_1, fq_m4_2, fq_m4_3, fq_m4_4, fq_m4_5, fq_m5_0, fq_m5_1, fq_m5_2, fq_m5_3, fq_m5_4, fq_m5_5]); (try simp only [tw0, tw1, tw2, tw3, tw4, tw5, twm1, twm2, twm3, twm4, twm5]); (try simp only [Bool.not_eq_false', Bool.and_eq_true, beq_iff_eq, and_true]); (try simp (disch := omega) only [wi, Int.reduceAdd, Int.reduceSub, Int.reduceNeg, Int.reduceMul]); and_intros <;> omega)
def ltb105 : Prop := (((IntKind.i64.wrap ((IntKind.i64.wrap ((IntKind.i64.wrap ((0 : Int) + (1 : Int))) + (1 : Int))) + (1 : Int))) == (1 : Int)) = false)
theorem ltb105_ok : ltb105 := by
  unfold ltb105
  first
    | rfl
    | decide
    | (simp; omega)
    | (first | omega | (and_intros <;> omega))
    | ((try simp (disch := omega) only [wi, Int.reduceAdd, Int.reduceSub, Int.reduceNeg, Int.reduceMul]); (try simp only [Bool.not_eq_false', Bool.and_eq_true, beq_iff_eq, and_true]); (try simp (disch := omega) only [wi, Int.reduceAdd, Int.reduceSub, Int.reduceNeg, Int.reduceMul]); and_intros <;> omega)
def ltb106 (z0 : Int) (z1 : Int) : Prop := ((Bool.not (Bool.and (((((((((frP (sm z0) (sm z1) (- (1 : Int)) (0 : Nat))).1).1 - (((frP (sm z0) (sm z1) (- (1 : Int)) 1)).1).1) + (((frP (sm z0) (sm z1) (- (1 : Int)) 2)).1).1) - (((frP (sm z0) (sm z1) (- (1 : Int)) 3)).1).1) + (((frP (sm z0) (sm z1) (- (1 : Int)) 4)).1).1) - (((frP (sm z0) (sm z1) (- (1 : Int)) 5)).1).1) == (0 : Int)) (Bool.and (((((((((frP (sm z0) (sm z1) (- (1 : Int)) (0 : Nat))).1).2 - (((frP (sm z0) (sm z1) (- (1 : Int)) 1)).1).2) + (((frP (sm z0) (sm z1) (- (1 : Int)) 2)).1).2) - (((frP (sm z0) (sm z1) (- (1 : Int)) 3)).1).2) + (((frP (sm z0) (sm z1) (- (1 : Int)) 4)).1).2) - (((frP (sm z0) (sm z1) (- (1 : Int)) 5)).1).2) == (0 : Int)) true))) = false)
theorem ltb106_ok (z0 : Int) (z1 : Int) : ltb106 z0 z1 := by
  unfold ltb106
  have s0 := sm_bd z0
  have s1 := sm_bd z1
  first
    | rfl
    | decide
    | (simp; omega)
    | (first | omega | (and_intros <;> omega))
    | ((try simp (disch := omega) only [wi, Int.reduceAdd, Int.reduceSub, Int.reduceNeg, Int.reduceMul]); (try simp only [fq_1_0, fq_1_1, fq_1_2, fq_1_3, fq_1_4, fq_1_5, fq_0_0, fq_0_1, fq_0_2, fq_0_3, fq_0_4, fq_0_5, fq_m1_0, fq_m1_1, fq_m1_2, fq_m1_3, fq_m1_4, fq_m1_5, fq_m2_0, fq_m2_1, fq_m2_2, fq_m2_3, fq_m2_4, fq_m2_5, fq_m3_0, fq_m3_1, fq_m3_2, fq_m3_3, fq_m3_4, fq_m3_5, fq_m4_0, fq_m4_1, fq_m4_2, fq_m4_3, fq_m4_4, fq_m4_5, fq_m5_0, fq_m5_1, fq_m5_2, fq_m5_3, fq_m5_4, fq_m5_5]); (try simp only [tw0, tw1, tw2, tw3, tw4, tw5, twm1, twm2, twm3, twm4, twm5]); (try simp only [Bool.not_eq_false', Bool.and_eq_true, beq_iff_eq, and_true]); (try simp (disch := omega) only [wi, Int.reduceAdd, Int.reduceSub, Int.reduceNeg, Int.reduceMul]); and_intros <;> omega)
def ltb107 : Prop := (((IntKind.i64.wrap ((IntKind.i64.wrap ((IntKind.i64.wrap ((IntKind.i64.wrap ((0 : Int) + (1 : Int))) + (1 : Int))) + (1 : Int))) + (1 : Int))) == (1 : Int)) = false)
theorem ltb107_ok : ltb107 := by
  unfold ltb107
  first
    | rfl
    | decide
    | (simp; omega)
    | (first | omega | (and_intros <;> omega))
    | ((try simp (disch := omega) only [wi, Int.reduceAdd, Int.reduceSub, Int.reduceNeg, Int.reduceMul]); (try simp only [Bool.not_eq_false', Bool.and_eq_true, beq_iff_eq, and_true]); (try simp (disch := omega) only [wi, Int.reduceAdd, Int.reduceSub, Int.reduceNeg, Int.reduceMul]); and_intros <;> omega)
def ltb108 (z0 : Int) (z1 : Int) : Prop := ((Bool.not (Bool.and (((((((((((frP (sm z0) (sm z1) (- (1 : Int)) (0 : Nat))).1).1 - (((frP (sm z0) (sm z1) (- (1 : Int)) 1)).1).2) - (((frP (sm z0) (sm z1) (- (1 : Int)) 2)).1).1) + (((frP (sm z0) (sm z1) (- (1 : Int)) 2)).1).2) + (((frP (sm z0) (sm z1) (- (1 : Int)) 3)).1).1) - (((frP (sm z0) (sm z1) (- (1 : Int)) 4)).1).2) - (((frP (sm z0) (sm z1) (- (1 : Int)) 5)).1).1) + (((frP (sm z0) (sm z1) (- (1 : Int)) 5)).1).2) == (0 : Int)) (Bool.and (((((((((((frP (sm z0) (sm z1) (- (1 : Int)) (0 : Nat))).1).2 + (((frP (sm z0) (sm z1) (- (1 : Int)) 1)).1).1) - (((frP (sm z0) (sm z1) (- (1 : Int)) 1)).1).2) - (((frP (sm z0) (sm z1) (- (1 : Int)) 2)).1).1) + (((frP (sm z0) (sm z1) (- (1 : Int)) 3)).1).2) + (((frP (sm z0) (sm z1) (- (1 : Int)) 4)).1).1) - (((frP (sm z0) (sm z1) (- (1 : Int)) 4)).1).2) - (((frP (sm z0) (sm z1) (- (1 : Int)) 5)).1).1) == (0 : Int)) true))) = false)
theorem ltb108_ok (z0 : Int) (z1 : Int) : ltb108 z0 z1 := by
  unfold ltb108
  have s0 := sm_bd z0
  have s1 := sm_bd z1
  first
    | rfl
    | decide
    | (simp; omega)
    | (first | omega | (and_intros <;> omega))
    | ((try simp (disch := omega) only [wi, Int.reduceAdd, Int.reduceSub, Int.reduceNeg, Int.reduceMul]); (try simp only [fq_1_0, fq_1_1, fq_1_2, fq_1_3, fq_1_4, fq_1_5, fq_0_0, fq_0_1, fq_0_2, fq_0_3, fq_0_4, fq_0_5, fq_m1_0, fq_m1_1, fq_m1_2, fq_m1_3, fq_m1_4, fq_m1_5, fq_m2_0, fq_m2_1, fq_m2_2, fq_m2_3, fq_m2_4, fq_m2_5, fq_m3_0, fq_m3_1, fq_m3_2, fq_m3_3, fq_m3_4, fq_m3_5, fq_m4_0, fq_m4_1, fq_m4_2, fq_m4_3, fq_m4_4, fq_m4_5, fq_m5_0, fq_m5_1, fq_m5_2, fq_m5_3, fq_m5_4, fq_m5_5]); (try simp only [tw0, tw1, tw2, tw3, tw4, tw5, twm1, twm2, twm3, twm4, twm5]); (try simp only [Bool.not_eq_false', Bool.and_eq_true, beq_iff_eq, and_true]); (try simp (disch := omega) only [wi, Int.reduceAdd, Int.reduceSub, Int.reduceNeg, Int.reduceMul]); and_intros <;> omega)
def ltb109 : Prop := (((IntKind.i64.wrap ((IntKind.i64.wrap ((IntKind.i64.wrap ((IntKind.i64.wrap ((IntKind.i64.wrap ((0 : Int) + (1 : Int))) + (1 : Int))) + (1 : Int))) + (1 : Int))) + (1 : Int))) == (1 : Int)) = false)
theorem ltb109_ok : ltb109 := by
  unfold ltb109
  first
    | rfl
    | decide
    | (simp; omega)
    | (first | omega | (and_intros <;> omega))
    | ((try simp (disch := omega) only [wi, Int.reduceAdd, Int.reduceSub, Int.reduceNeg, Int.reduceMul]); (try simp only [Bool.not_eq_false', Bool.and_eq_true, beq_iff_eq, and_true]); (try simp (disch := omega) only [wi, Int.reduceAdd, Int.reduceSub, Int.reduceNeg, Int.reduceMul]); and_intros <;> omega)
def ltb110 (z0 : Int) (z1 : Int) : Prop := ((Bool.not (Bool.and (((((((((((frP (sm z0) (sm z1) (- (1 : Int)) (0 : Nat))).1).1 + (((frP (sm z0) (sm z1) (- (1 : Int)) 1)).1).1) - (((frP (sm z0) (sm z1) (- (1 : Int)) 1)).1).2) - (((frP (sm z0) (sm z1) (- (1 : Int)) 2)).1).2) - (((frP (sm z0) (sm z1) (- (1 : Int)) 3)).1).1) - (((frP (sm z0) (sm z1) (- (1 : Int)) 4)).1).1) + (((frP (sm z0) (sm z1) (- (1 : Int)) 4)).1).2) + (((frP (sm z0) (sm z1) (- (1 : Int)) 5)).1).2) == (0 : Int)) (Bool.and (((((((((((frP (sm z0) (sm z1) (- (1 : Int)) (0 : Nat))).1).2 + (((frP (sm z0) (sm z1) (- (1 : Int)) 1)).1).1) + (((frP (sm z0) (sm z1) (- (1 : Int)) 2)).1).1) - (((frP (sm z0) (sm z1) (- (1 : Int)) 2)).1).2) - (((frP (sm z0) (sm z1) (- (1 : Int)) 3)).1).2) - (((frP (sm z0) (sm z1) (- (1 : Int)) 4)).1).1) - (((frP (sm z0) (sm z1) (- (1 : Int)) 5)).1).1) + (((frP (sm z0) (sm z1) (- (1 : Int)) 5)).1).2) == (0 : Int)) true))) = false)
theorem ltb110_ok (z0 : Int) (z1 : Int) : ltb110 z0 z1 := by
  unfold ltb110
  have s0 := sm_bd z0
  have s1 := sm_bd z1
  first
    | rfl
    | decide
    | (simp; omega)
    | (first | omega | (and_intros <;> omega))
    | ((try simp (disch := omega) only [wi, Int.reduceAdd, Int.reduceSub, Int.reduceNeg, Int.reduceMul]); (try simp only [fq_1_0, fq_1_1, fq_1_2, fq_1_3, fq_1_4, fq_1_5, fq_0_0, fq_0_1, fq_0_2, fq_0_3, fq_0_4, fq_0_5, fq_m1_0, fq_m1_1, fq_m1_2, fq_m1_3, fq_m1_4, fq_m1_5, fq_m2_0, fq_m2_1, fq_m2_2, fq_m2_3, fq_m2_4, fq_m2_5, fq_m3_0, fq_m3_1, fq_m3_2, fq_m3_3, fq_m3_4, fq_m3_5, fq_m4_0, fq_m4_1, fq_m4_2, fq_m4_3, fq_m4_4, fq_m4_5, fq_m5_0, fq_m5_1, fq_m5_2, fq_m5_3, fq_m5_4, fq_m5_5]); (try simp only [tw0, tw1, tw2, tw3, tw4, tw5, twm1, twm2, twm3, twm4, twm5]); (try simp only [Bool.not_eq_false', Bool.and_eq_true, beq_iff_eq, and_true]); (try simp (disch := omega) only [wi, Int.reduceAdd, Int.reduceSub, Int.reduceNeg, Int.reduceMul]); and_intros <;> omega)
def ltb111 (k : Int) : Prop := (((.int .i64 (Int.tmod ((Int.tmod k (6 : Nat)) + (6 : Int)) (6 : Int))) : Value) = (.int .i64 (2 : Int)))
theorem ltb111_ok (k : Int) (hk : -128 ≤ k ∧ k ≤ 127) (hc : (k.tmod 6 + 6).tmod 6 = 2) : ltb111 k := by
  unfold ltb111
  exact congrArg (Value.int .i64) hc
def ltb112 : Prop := (((.int .i64 (IntKind.i64.wrap ((0 : Int) - (2 : Int)))) : Value) = (.int .i64 (- (2 : Int))))
theorem ltb112_ok : ltb112 := by
  unfold ltb112
  first | rfl | (refine congrArg (Value.int .i64) ?_; first | rfl | (rw [wi _ (by omega)]; done) | (rw [wi _ (by omega)]; omega) | omega)
def ltb113 (z0 : Int) (z1 : Int) : Prop := ((∀ (i : Nat), ((i < (6 : Nat)) → (((ltV (gL ((sm z0) :: ((sm z1) :: ((sm z0) :: ((sm z1) :: ((sm z0) :: ((sm z1) :: ((sm z0) :: ((sm z1) :: ((sm z0) :: ((sm z1) :: ((sm z0) :: ((sm z1) :: [])))))))))))) i (0 : Nat)) (gL ((sm z0) :: ((sm z1) :: ((sm z0) :: ((sm z1) :: ((sm z0) :: ((sm z1) :: ((sm z0) :: ((sm z1) :: ((sm z0) :: ((sm z1) :: ((sm z0) :: ((sm z1) :: [])))))))))))) i (1 : Nat))) = (0 : Int)) → (Bg (1099511627776 : Int) (gL ((sm z0) :: ((sm z1) :: ((sm z0) :: ((sm z1) :: ((sm z0) :: ((sm z1) :: ((sm z0) :: ((sm z1) :: ((sm z0) :: ((sm z1) :: ((sm z0) :: ((sm z1) :: [])))))))))))) i (0 : Nat)) (gL ((sm z0) :: ((sm z1) :: ((sm z0) :: ((sm z1) :: ((sm z0) :: ((sm z1) :: ((sm z0) :: ((sm z1) :: ((sm z0) :: ((sm z1) :: ((sm z0) :: ((sm z1) :: [])))))))))))) i (1 : Nat)))))) ∧ ((frErr ltV (6 : Nat) (gL ((sm z0) :: ((sm z1) :: ((sm z0) :: ((sm z1) :: ((sm z0) :: ((sm z1) :: ((sm z0) :: ((sm z1) :: ((sm z0) :: ((sm z1) :: ((sm z0) :: ((sm z1) :: []))))))))))))) (- (2 : Int))) = (Int.ofNat 0)))
theorem ltb113_ok (z0 : Int) (z1 : Int) : ltb113 z0 z1 := by
  unfold ltb113
  exact fr_six ⟨by decide, by decide⟩ (six_in ⟨sm_in _, sm_in _⟩ ⟨sm_in _, sm_in _⟩ ⟨sm_in _, sm_in _⟩ ⟨sm_in _, sm_in _⟩ ⟨sm_in _, sm_in _⟩ ⟨sm_in _, sm_in _⟩)
def ltb114 (z0 : Int) (z1 : Int) : Prop := ((((- (65536 : Int)) ≤ (((frP (sm z0) (sm z1) (- (2 : Int)) (0 : Nat))).1).1) ∧ ((((frP (sm z0) (sm z1) (- (2 : Int)) (0 : Nat))).1).1 ≤ (65536 : Int))) ∧ ((((- (65536 : Int)) ≤ (((frP (sm z0) (sm z1) (- (2 : Int)) (0 : Nat))).1).2) ∧ ((((frP (sm z0) (sm z1) (- (2 : Int)) (0 : Nat))).1).2 ≤ (65536 : Int))) ∧ ((((- (65536 : Int)) ≤ (((frP (sm z0) (sm z1) (- (2 : Int)) 1)).1).1) ∧ ((((frP (sm z0) (sm z1) (- (2 : Int)) 1)).1).1 ≤ (65536 : Int))) ∧ ((((- (65536 : Int)) ≤ (((frP (sm z0) (sm z1) (- (2 : Int)) 1)).1).2) ∧ ((((frP (sm z0) (sm z1) (- (2 : Int)) 1)).1).2 ≤ (65536 : Int))) ∧ ((((- (65536 : Int)) ≤ (((frP (sm z0) (sm z1) (- (2 : Int)) 2)).1).1) ∧ ((((frP (sm z0) (sm z1) (- (2 : Int)) 2)).1).1 ≤ (65536 : Int))) ∧ ((((- (65536 : Int)) ≤ (((frP (sm z0) (sm z1) (- (2 : Int)) 2)).1).2) ∧ ((((frP (sm z0) (sm z1) (- (2 : Int)) 2)).1).2 ≤ (65536 : Int))) ∧ ((((- (65536 : Int)) ≤ (((frP (sm z0) (sm z1) (- (2 : Int)) 3)).1).1) ∧ ((((frP (sm z0) (sm z1) (- (2 : Int)) 3)).1).1 ≤ (65536 : Int))) ∧ ((((- (65536 : Int)) ≤ (((frP (sm z0) (sm z1) (- (2 : Int)) 3)).1).2) ∧ ((((frP (sm z0) (sm z1) (- (2 : Int)) 3)).1).2 ≤ (65536 : Int))) ∧ ((((- (65536 : Int)) ≤ (((frP (sm z0) (sm z1) (- (2 : Int)) 4)).1).1) ∧ ((((frP (sm z0) (sm z1) (- (2 : Int)) 4)).1).1 ≤ (65536 : Int))) ∧ ((((- (65536 : Int)) ≤ (((frP (sm z0) (sm z1) (- (2 : Int)) 4)).1).2) ∧ ((((frP (sm z0) (sm z1) (- (2 : Int)) 4)).1).2 ≤ (65536 : Int))) ∧ ((((- (65536 : Int)) ≤ (((frP (sm z0) (sm z1) (- (2 : Int)) 5)).1).1) ∧ ((((frP (sm z0) (sm z1) (- (2 : Int)) 5)).1).1 ≤ (65536 : Int))) ∧ (((- (65536 : Int)) ≤ (((frP (sm z0) (sm z1) (- (2 : Int)) 5)).1).2) ∧ ((((frP (sm z0) (sm z1) (- (2 : Int)) 5)).1).2 ≤ (65536 : Int))))))))))))))
theorem ltb114_ok (z0 : Int) (z1 : Int) : ltb114 z0 z1 := by
  unfold ltb114
  have s0 := sm_bd z0
  have s1 := sm_bd z1
  first
    | rfl
    | decide
    | (simp; omega)
    | (first | omega | (and_intros <;> omega))
    | ((try simp (disch := omega) only [wi, Int.reduceAdd, Int.reduceSub, Int.reduceNeg, Int.reduceMul]); (try simp only [fq_1_0, fq_1_1, fq_1_2, fq_1_3, fq_1_4, fq_1_5, fq_0_0, fq_0_1, fq_0_2, fq_0_3, fq_0_4, fq_0_5, fq_m1_0, fq_m1_1, fq_m1_2, fq_m1_3, fq_m1_4, fq_m1_5, fq_m2_0, fq_m2_1, fq_m2_2, fq_m2_3, fq_m2_4, fq_m2_5, fq_m3_0, fq_m3_1, fq_m3_2, fq_m3_3, fq_m3_4, fq_m3_5, fq_m4_0, fq_m4_1, fq_m4_2, fq_m4_3, fq_m4_4, fq_m4_5, fq_m5_0, fq_m5_1, fq_m5_2, fq_m5_3, fq_m5_4, fq_m5_5]); (try simp only [tw0, tw1, tw2, tw3, tw4, tw5, twm1, twm2, twm3, twm4, twm5]); (try simp only [Bool.not_eq_false', Bool.and_eq_true, beq_iff_eq, and_true]); (try simp (disch := omega) only [wi, Int.reduceAdd, Int.reduceSub, Int.reduceNeg, Int.reduceMul]); and_intros <;> omega)
def ltb115 : Prop := (((0 : Int) == (2 : Int)) = false)
theorem ltb115_ok : ltb115 := by
  unfold ltb115
  first
    | rfl
    | decide
    | (simp; omega)
    | (first | omega | (and_intros <;> omega))
    | ((try simp (disch := omega) only [wi, Int.reduceAdd, Int.reduceSub, Int.reduceNeg, Int.reduceMul]); (try simp only [Bool.not_eq_false', Bool.and_eq_true, beq_iff_eq, and_true]); (try simp (disch := omega) only [wi, Int.reduceAdd, Int.reduceSub, Int.reduceNeg, Int.reduceMul]); and_intros <;> omega)
def ltb116 (z0 : Int) (z1 : Int) : Prop := ((Bool.not (Bool.and (((((((((frP (sm z0) (sm z1) (- (2 : Int)) (0 : Nat))).1).1 + (((frP (sm z0) (sm z1) (- (2 : Int)) 1)).1).1) + (((frP (sm z0) (sm z1) (- (2 : Int)) 2)).1).1) + (((frP (sm z0) (sm z1) (- (2 : Int)) 3)).1).1) + (((frP (sm z0) (sm z1) (- (2 : Int)) 4)).1).1) + (((frP (sm z0) (sm z1) (- (2 : Int)) 5)).1).1) == (0 : Int)) (Bool.and (((((((((frP (sm z0) (sm z1) (- (2 : Int)) (0 : Nat))).1).2 + (((frP (sm z0) (sm z1) (- (2 : Int)) 1)).1).2) + (((frP (sm z0) (sm z1) (- (2 : Int)) 2)).1).2) + (((frP (sm z0) (sm z1) (- (2 : Int)) 3)).1).2) + (((frP (sm z0) (sm z1) (- (2 : Int)) 4)).1).2) + (((frP (sm z0) (sm z1) (- (2 : Int)) 5)).1).2) == (0 : Int)) true))) = false)
theorem ltb116_ok (z0 : Int) (z1 : Int) : ltb116 z0 z1 := by
  unfold ltb116
  have s0 := sm_bd z0
  have s1 := sm_bd z1
  first
    | rfl
    | decide
    | (simp; omega)
    | (first | omega | (and_intros <;> omega))
    | ((try simp (disch := omega) only [wi, Int.reduceAdd, Int.reduceSub, Int.reduceNeg, Int.reduceMul]); (try simp only [fq_1_0, fq_1_1, fq_1_2, fq_1_3, fq_1_4, fq_1_5, fq_0_0, fq_0_1, fq_0_2, fq_0_3, fq_0_4, fq_0_5, fq_m1_0, fq_m1_1, fq_m1_2, fq_m1_3, fq_m1_4, fq_m1_5, fq_m2_0, fq_m2_1, fq_m2_2, fq_m2_3, fq_m2_4, fq_m2_5, fq_m3_0, fq_m3_1, fq_m3_2, fq_m3_3, fq_m3_4, fq_m3_5, fq_m4_0, fq_m4_1, fq_m4_2, fq_m4_3, fq_m4_4, fq_m4_5, fq_m5_0, fq_m5_1, fq_m5_2, fq_m5_3, fq_m5_4, fq_m5_5]); (try simp only [tw0, tw1, tw2, tw3, tw4, tw5, twm1, twm2, twm3, twm4, twm5]); (try simp only [Bool.not_eq_false', Bool.and_eq_true, beq_iff_eq, and_true]); (try simp (disch := omega) only [wi, Int.reduceAdd, Int.reduceSub, Int.reduceNeg, Int.reduceMul]); and_intros <;> omega)
def ltb117 : Prop := (((IntKind.i64.wrap ((0 : Int) + (1 : Int))) == (2 : Int)) = false)
theorem ltb117_ok : ltb117 := by
  unfold ltb117
  first
    | rfl
    | decide
    | (simp; omega)
    | (first | omega | (and_intros <;> omega))
    | ((try simp (disch := omega) only [wi, Int.reduceAdd, Int.reduceSub, Int.reduceNeg, Int.reduceMul]); (try simp only [Bool.not_eq_false', Bool.and_eq_true, beq_iff_eq, and_true]); (try simp (disch := omega) only [wi, Int.reduceAdd, Int.reduceSub, Int.reduceNeg, Int.reduceMul]); and_intros <;> omega)
def ltb118 (z0 : Int) (z1 : Int) : Prop := ((Bool.not (Bool.and (((((((((((frP (sm z0) (sm z1) (- (2 : Int)) (0 : Nat))).1).1 + (((frP (sm z0) (sm z1) (- (2 : Int)) 1)).1).2) - (((frP (sm z0) (sm z1) (- (2 : Int)) 2)).1).1) + (((frP (sm z0) (sm z1) (- (2 : Int)) 2)).1).2) - (((frP (sm z0) (sm z1) (- (2 : Int)) 3)).1).1) - (((frP (sm z0) (sm z1) (- (2 : Int)) 4)).1).2) + (((frP (sm z0) (sm z1) (- (2 : Int)) 5)).1).1) - (((frP (sm z0) (sm z1) (- (2 : Int)) 5)).1).2) == (0 : Int)) (Bool.and (((((((((((frP (sm z0) (sm z1) (- (2 : Int)) (0 : Nat))).1).2 - (((frP (sm z0) (sm z1) (- (2 : Int)) 1)).1).1) + (((frP (sm z0) (sm z1) (- (2 : Int)) 1)).1).2) - (((frP (sm z0) (sm z1) (- (2 : Int)) 2)).1).1) - (((frP (sm z0) (sm z1) (- (2 : Int)) 3)).1).2) + (((frP (sm z0) (sm z1) (- (2 : Int)) 4)).1).1) - (((frP (sm z0) (sm z1) (- (2 : Int)) 4)).1).2) + (((frP (sm z0) (sm z1) (- (2 : Int)) 5)).1).1) == (0 : Int)) true))) = false)
theorem ltb118_ok (z0 : Int) (z1 : Int) : ltb118 z0 z1 := by
  unfold ltb118
  have s0 := sm_bd z0
  have s1 := sm_bd z1
  first
    | rfl
    | decide
    | (simp; omega)
    | (first | omega | (and_intros <;> omega))
    | ((try simp (disch := omega) only [wi, Int.reduceAdd, Int.reduceSub, Int.reduceNeg, Int.reduceMul]); (try simp only [fq_1_0, fq_1_1, fq_1_2, fq_1_3, fq_1_4, fq_1_5, fq_0_0, fq_0_1, fq_0_2, fq_0_3, fq_0_4, fq_0_5, fq_m1_0, fq_m1_1, fq_m1_2, fq_m1_3, fq_m1_4, fq_m1_5, fq_m2_0, fq_m2_1, fq_m2_2, fq_m2_3, fq_m2_4, fq_m2_5, fq_m3_0, fq_m3_1, fq_m3_2, fq_m3_3, fq_m3_4, fq_m3_5, fq_m4_0, fq_m4_1, fq_m4_2, fq_m4_3, fq_m4_4, fq_m4_5, fq_m5_0, fq_m5_1, fq_m5_2, fq_m5_3, fq_m5_4, fq_m5_5]); (try simp only [tw0, tw1, tw2, tw3, tw4, tw5, twm1, twm2, twm3, twm4, twm5]); (try simp only [Bool.not_eq_false', Bool.and_eq_true, beq_iff_eq, and_true]); (try simp (disch := omega) only [wi, Int.reduceAdd, Int.reduceSub, Int.reduceNeg, Int.reduceMul]); and_intros <;> omega)
def ltb119 : Prop := (((IntKind.i64.wrap ((IntKind.i64.wrap ((0 : Int) + (1 : Int))) + (1 : Int))) == (2 : Int)) = true)
theorem ltb119_ok : ltb119 := by
  unfold ltb119
  first
    | rfl
    | decide
    | (simp; omega)
    | (first | omega | (and_intros <;> omega))
    | ((try simp (disch := omega) only [wi, Int.reduceAdd, Int.reduceSub, Int.reduceNeg, Int.reduceMul]); (try simp only [Bool.not_eq_false', Bool.and_eq_true, beq_iff_eq, and_true]); (try simp (disch := omega) only [wi, Int.reduceAdd, Int.reduceSub, Int.reduceNeg, Int.reduceMul]); and_intros <;> omega)
def ltb120 (z0 : Int) (z1 : Int) : Prop := ((Bool.not (Bool.and (((((((((((frP (sm z0) (sm z1) (- (2 : Int)) (0 : Nat))).1).1 - (((frP (sm z0) (sm z1) (- (2 : Int)) 1)).1).1) + (((frP (sm z0) (sm z1) (- (2 : Int)) 1)).1).2) - (((frP (sm z0) (sm z1) (- (2 : Int)) 2)).1).2) + (((frP (sm z0) (sm z1) (- (2 : Int)) 3)).1).1) - (((frP (sm z0) (sm z1) (- (2 : Int)) 4)).1).1) + (((frP (sm z0) (sm z1) (- (2 : Int)) 4)).1).2) - (((frP (sm z0) (sm z1) (- (2 : Int)) 5)).1).2) == (IntKind.i64.wrap ((6 : Int) * (sm z0)))) (Bool.and (((((((((((frP (sm z0) (sm z1) (- (2 : Int)) (0 : Nat))).1).2 - (((frP (sm z0) (sm z1) (- (2 : Int)) 1)).1).1) + (((frP (sm z0) (sm z1) (- (2 : Int)) 2)).1).1) - (((frP (sm z0) (sm z1) (- (2 : Int)) 2)).1).2) + (((frP (sm z0) (sm z1) (- (2 : Int)) 3)).1).2) - (((frP (sm z0) (sm z1) (- (2 : Int)) 4)).1).1) + (((frP (sm z0) (sm z1) (- (2 : Int)) 5)).1).1) - (((frP (sm z0) (sm z1) (- (2 : Int)) 5)).1).2) == (IntKind.i64.wrap ((6 : Int) * (sm z1)))) true))) = false)
theorem ltb120_ok (z0 : Int) (z1 : Int) : ltb120 z0 z1 := by
  unfold ltb120
  have s0 := sm_bd z0
  have s1 := sm_bd z1
  first
    | rfl
    | decide
    | (simp; omega)
    | (first | omega | (and_intros <;> omega))
    | ((try simp (disch := omega) only [wi, Int.reduceAdd, Int.reduceSub, Int.reduceNeg, Int.reduceMul]); (try simp only [fq_1_0, fq_1_1, fq_1_2, fq_1_3, fq_1_4, fq_1_5, fq_0_0, fq_0_1, fq_0_2, fq_0_3, fq_0_4, fq_0_5, fq_m1_0, fq_m1_1, fq_m1_2, fq_m1_3, fq_m1_4, fq_m1_5, fq_m2_0, fq_m2_1, fq_m2_2, fq_m2_3, fq_m2_4, fq_m2_5, fq_m3_0, fq_m3_1, fq_m3_2, fq_m3_3, fq_m3_4, fq_m3_5, fq_m4_0, fq_m4_1, fq_m4_2, fq_m4_3, fq_m4_4, fq_m4_5, fq_m5_0, fq_m5_1, fq_m5_2, fq_m5_3, fq_m5_4, fq_m5_5]); (try simp only [tw0, tw1, tw2, tw3, tw4, tw5, twm1, twm2, twm3, twm4, twm5]); (try simp only [Bool.not_eq_false', Bool.and_eq_true, beq_iff_eq, and_true]); (try simp (disch := omega) only [wi, Int.reduceAdd, Int.reduceSub, Int.reduceNeg, Int.reduceMul]); and_intros <;> omega)
def ltb121 : Prop := (((IntKind.i64.wrap ((IntKind.i64.wrap ((IntKind.i64.wrap ((0 : Int) + (1 : Int))) + (1 : Int))) + (1 : Int))) == (2 : Int)) = false)
theorem ltb121_ok : ltb121 := by
  unfold ltb121
  first
    | rfl
    | decide
    | (simp; omega)
    | (first | omega | (and_intros <;> omega))
    | ((try simp (disch := omega) only [wi, Int.reduceAdd, Int.reduceSub, Int.reduceNeg, Int.reduceMul]); (try simp only [Bool.not_eq_false', Bool.and_eq_true, beq_iff_eq, and_true]); (try simp (disch := omega) only [wi, Int.reduceAdd, Int.reduceSub, Int.reduceNeg, Int.reduceMul]); and_intros <;> omega)
def ltb122 (z0 : Int) (z1 : Int) : Prop := ((Bool.not (Bool.and (((((((((frP (sm z0) (sm z1) (- (2 : Int)) (0 : Nat))).1).1 - (((frP (sm z0) (sm z1) (- (2 : Int)) 1)).1).1) + (((frP (sm z0) (sm z1) (- (2 : Int)) 2)).1).1) - (((frP (sm z0) (sm z1) (- (2 : Int)) 3)).1).1) + (((frP (sm z0) (sm z1) (- (2 : Int)) 4)).1).1) - (((frP (sm z0) (sm z1) (- (2 : Int)) 5)).1).1) == (0 : Int)) (Bool.and (((((((((frP (sm z0) (sm z1) (- (2 : Int)) (0 : Nat))).1).2 - (((frP (sm z0) (sm z1) (- (2 : Int)) 1)).1).2) + (((frP (sm z0) (sm z1) (- (2 : Int)) 2)).1).2) - (((frP (sm z0) (sm z1) (- (2 : Int)) 3)).1).2) + (((frP (sm z0) (sm z1) (- (2 : Int)) 4)).1).2) - (((frP (sm z0) (sm z1) (- (2 : Int)) 5)).1).2) == (0 : Int)) true))) = false)
theorem ltb122_ok (z0 : Int) (z1 : Int) : ltb122 z0 z1 := by
  unfold ltb122
  have s0 := sm_bd z0
  have s1 := sm_bd z1
  first
    | rfl
    | decide
    | (simp; omega)
    | (first | omega | (and_intros <;> omega))
    | ((try simp (disch := omega) only [wi, Int.reduceAdd, Int.reduceSub, Int.reduceNeg, Int.reduceMul]); (try simp only [fq_1_0, fq_1_1, fq_1_2, fq_1_3, fq_1_4, fq_1_5, fq_0_0, fq_0_1, fq_0_2, fq_0_3, fq_0_4, fq_0_5, fq_m1_0, fq_m1_1, fq_m1_2, fq_m1_3, fq_m1_4, fq_m1_5, fq_m2_0, fq_m2_1, fq_m2_2, fq_m2_3, fq_m2_4, fq_m2_5, fq_m3_0, fq_m3_1, fq_m3_2, fq_m3_3, fq_m3_4, fq_m3_5, fq_m4_0, fq_m4_1, fq_m4_2, fq_m4_3, fq_m4_4, fq_m4_5, fq_m5_0, fq_m5_1, fq_m5_2, fq_m5_3, fq_m5_4, fq_m5_5]); (try simp only [tw0, tw1, tw2, tw3, tw4, tw5, twm1, twm2, twm3, twm4, twm5]); (try simp only [Bool.not_eq_false', Bool.and_eq_true, beq_iff_eq, and_true]); (try simp (disch := omega) only [wi, Int.reduceAdd, Int.reduceSub, Int.reduceNeg, Int.reduceMul]); and_intros <;> omega)
def ltb123 : Prop := (((IntKind.i64.wrap ((IntKind.i64.wrap ((IntKind.i64.wrap ((IntKind.i64.wrap ((0 : Int) + (1 : Int))) + (1 : Int))) + (1 : Int))) + (1 : Int))) == (2 : Int)) = false)
theorem ltb123_ok : ltb123 := by
  unfold ltb123
  first
    | rfl
    | decide
    | (simp; omega)
    | (first | omega | (and_intros <;> omega))
    | ((try simp (disch := omega) only [wi, Int.reduceAdd, Int.reduceSub, Int.reduceNeg, Int.reduceMul]); (try simp only [Bool.not_eq_false', Bool.and_eq_true, beq_iff_eq, and_true]); (try simp (disch := omega) only [wi, Int.reduceAdd, Int.reduceSub, Int.reduceNeg, Int.reduceMul]); and_intros <;> omega)
def ltb124 (z0 : Int) (z1 : Int) : Prop := ((Bool.not (Bool.and (((((((((((frP (sm z0) (sm z1) (- (2 : Int)) (0 : Nat))).1).1 - (((frP (sm z0) (sm z1) (- (2 : Int)) 1)).1).2) - (((frP (sm z0) (sm z1) (- (2 : Int)) 2)).1).1) + (((frP (sm z0) (sm z1) (- (2 : Int)) 2)).1).2) + (((frP (sm z0) (sm z1) (- (2 : Int)) 3)).1).1) - (((frP (sm z0) (sm z1) (- (2 : Int)) 4)).1).2) - (((frP (sm z0) (sm z1) (- (2 : Int)) 5)).1).1) + (((frP (sm z0) (sm z1) (- (2 : Int)) 5)).1).2) == (0 : Int)) (Bool.and (((((((((((frP (sm z0) (sm z1) (- (2 : Int)) (0 : Nat))).1).2 + (((frP (sm z0) (sm z1) (- (2 : Int)) 1)).1).1) - (((frP (sm z0) (sm z1) (- (2 : Int)) 1)).1).2) - (((frP (sm z0) (sm z1) (- (2 : Int)) 2)).1).1) + (((frP (sm z0) (sm z1) (- (2 : Int)) 3)).1).2) + (((frP (sm z0) (sm z1) (- (2 : Int)) 4)).1).1) - (((frP (sm z0) (sm z1) (- (2 : Int)) 4)).1).2) - (((frP (sm z0) (sm z1) (- (2 : Int)) 5)).1).1) == (0 : Int)) true))) = false)
theorem ltb124_ok (z0 : Int) (z1 : Int) : ltb124 z0 z1 := by
  unfold ltb124
  have s0 := sm_bd z0
  have s1 := sm_bd z1
  first
    | rfl
    | decide
    | (simp; omega)
    | (first | omega | (and_intros <;> omega))
    | ((try simp (disch := omega) only [wi, Int.reduceAdd, Int.reduceSub, Int.reduceNeg, Int.reduceMul]); (try simp only [fq_1_0, fq_1_1, fq_1_2, fq_1_3, fq_1_4, fq_1_5, fq_0_0, fq_0_1, fq_0_2, fq_0_3, fq_0_4, fq_0_5, fq_m1_0, fq_m1_1, fq_m1_2, fq_m1_3, fq_m1_4, fq_m1_5, fq_m2_0, fq_m2_1, fq_m2_2, fq_m2_3, fq_m2_4, fq_m2_5, fq_m3_0, fq_m3_1, fq_m3_2, fq_m3_3, fq_m3_4, fq_m3_5, fq_m4_0, fq_m4_1, fq_m4_2, fq_m4_3, fq_m4_4, fq_m4_5, fq_m5_0, fq_m5_1, fq_m5_2, fq_m5_3, fq_m5_4, fq_m5_5]); (try simp only [tw0, tw1, tw2, tw3, tw4, tw5, twm1, twm2, twm3, twm4, twm5]); (try simp only [Bool.not_eq_false', Bool.and_eq_true, beq_iff_eq, and_true]); (try simp (disch := omega) only [wi, Int.reduceAdd, Int.reduceSub, Int.reduceNeg, Int.reduceMul]); and_intros <;> omega)
def ltb125 : Prop := (((IntKind.i64.wrap ((IntKind.i64.wrap ((IntKind.i64.wrap ((IntKind.i64.wrap ((IntKind.i64.wrap ((0 : Int) + (1 : Int))) + (1 : Int))) + (1 : Int))) + (1 : Int))) + (1 : Int))) == (2 : Int)) = false)
theorem ltb125_ok : ltb125 := by
  unfold ltb125
  first
    | rfl
    | decide
    | (simp; omega)
    | (first | omega | (and_intros <;> omega))
    | ((try simp (disch := omega) only [wi, Int.reduceAdd, Int.reduceSub, Int.reduceNeg, Int.reduceMul]); (try simp only [Bool.not_eq_false', Bool.and_eq_true, beq_iff_eq, and_true]); (try simp (disch := omega) only [wi, Int.reduceAdd, Int.reduceSub, Int.reduceNeg, Int.reduceMul]); and_intros <;> omega)
def ltb126 (z0 : Int) (z1 : Int) : Prop := ((Bool.not (Bool.and (((((((((((frP (sm z0) (sm z1) (- (2 : Int)) (0 : Nat))).1).1 + (((frP (sm z0) (sm z1) (- (2 : Int)) 1)).1).1) - (((frP (sm z0) (sm z1) (- (2 : Int)) 1)).1).2) - (((frP (sm z0) (sm z1) (- (2 : Int)) 2)).1).2) - (((frP (sm z0) (sm z1) (- (2 : Int)) 3)).1).1) - (((frP (sm z0) (sm z1) (- (2 : Int)) 4)).1).1) + (((frP (sm z0) (sm z1) (- (2 : Int)) 4)).1).2) + (((frP (sm z0) (sm z1) (- (2 : Int)) 5)).1).2) == (0 : Int)) (Bool.and (((((((((((frP (sm z0) (sm z1) (- (2 : Int)) (0 : Nat))).1).2 + (((frP (sm z0) (sm z1) (- (2 : Int)) 1)).1).1) + (((frP (sm z0) (sm z1) (- (2 : Int)) 2)).1).1) - (((frP (sm z0) (sm z1) (- (2 : Int)) 2)).1).2) - (((frP (sm z0) (sm z1) (- (2 : Int)) 3)).1).2) - (((frP (sm z0) (sm z1) (- (2 : Int)) 4)).1).1) - (((frP (sm z0) (sm z1) (- (2 : Int)) 5)).1).1) + (((frP (sm z0) (sm z1) (- (2 : Int)) 5)).1).2) == (0 : Int)) true))) = false)
theorem ltb126_ok (z0 : Int) (z1 : Int) : ltb126 z0 z1 := by
  unfold ltb126
  have s0 := sm_bd z0
  have s1 := sm_bd z1
  first
    | rfl
    | decide
    | (simp; omega)
    | (first | omega | (and_intros <;> omega))
    | ((try simp (disch := omega) only [wi, Int.reduceAdd, Int.reduceSub, Int.reduceNeg, Int.reduceMul]); (try simp only [fq_1_0, fq_1_1, fq_1_2, fq_1_3, fq_1_4, fq_1_5, fq_0_0, fq_0_1, fq_0_2, fq_0_3, fq_0_4, fq_0_5, fq_m1_0, fq_m1_1, fq_m1_2, fq_m1_3, fq_m1_4, fq_m1_5, fq_m2_0, fq_m2_1, fq_m2_2, fq_m2_3, fq_m2_4, fq_m2_5, fq_m3_0, fq_m3_1, fq_m3_2, fq_m3_3, fq_m3_4, fq_m3_5, fq_m4_0, fq_m4_1, fq_m4_2, fq_m4_3, fq_m4_4, fq_m4_5, fq_m5_0, fq_m5_1, fq_m5_2, fq_m5_3, fq_m5_4, fq_m5_5]); (try simp only [tw0, tw1, tw2, tw3, tw4, tw5, twm1, twm2, twm3, twm4, twm5]); (try simp only [Bool.not_eq_false', Bool.and_eq_true, beq_iff_eq, and_true]); (try simp (disch := omega) only [wi, Int.reduceAdd, Int.reduceSub, Int.reduceNeg, Int.reduceMul]); and_intros <;> omega)
def ltb127 (k : Int) : Prop := (((.int .i64 (Int.tmod ((Int.tmod k (6 : Nat)) + (6 : Int)) (6 : Int))) : Value) = (.int .i64 (3 : Int)))
theorem ltb127_ok (k : Int) (hk : -128 ≤ k ∧ k ≤ 127) (hc : (k.tmod 6 + 6).tmod 6 = 3) : ltb127 k := by
  unfold ltb127
  exact congrArg (Value.int .i64) hc
def ltb128 : Prop := (((.int .i64 (IntKind.i64.wrap ((0 : Int) - (3 : Int)))) : Value) = (.int .i64 (- (3 : Int))))
theorem ltb128_ok : ltb128 := by
  unfold ltb128
  first | rfl | (refine congrArg (Value.int .i64) ?_; first | rfl | (rw [wi _ (by omega)]; done) | (rw [wi _ (by omega)]; omega) | omega)
def ltb129 (z0 : Int) (z1 : Int) : Prop := ((∀ (i : Nat), ((i < (6 : Nat)) → (((ltV (gL ((sm z0) :: ((sm z1) :: ((sm z0) :: ((sm z1) :: ((sm z0) :: ((sm z1) :: ((sm z0) :: ((sm z1) :: ((sm z0) :: ((sm z1) :: ((sm z0) :: ((sm z1) :: [])))))))))))) i (0 : Nat)) (gL ((sm z0) :: ((sm z1) :: ((sm z0) :: ((sm z1) :: ((sm z0) :: ((sm z1) :: ((sm z0) :: ((sm z1) :: ((sm z0) :: ((sm z1) :: ((sm z0) :: ((sm z1) :: [])))))))))))) i (1 : Nat))) = (0 : Int)) → (Bg (1099511627776 : Int) (gL ((sm z0) :: ((sm z1) :: ((sm z0) :: ((sm z1) :: ((sm z0) :: ((sm z1) :: ((sm z0) :: ((sm z1) :: ((sm z0) :: ((sm z1) :: ((sm z0) :: ((sm z1) :: [])))))))))))) i (0 : Nat)) (gL ((sm z0) :: ((sm z1) :: ((sm z0) :: ((sm z1) :: ((sm z0) :: ((sm z1) :: ((sm z0) :: ((sm z1) :: ((sm z0) :: ((sm z1) :: ((sm z0) :: ((sm z1) :: [])))))))))))) i (1 : Nat)))))) ∧ ((frErr ltV (6 : Nat) (gL ((sm z0) :: ((sm z1) :: ((sm z0) :: ((sm z1) :: ((sm z0) :: ((sm z1) :: ((sm z0) :: ((sm z1) :: ((sm z0) :: ((sm z1) :: ((sm z0) :: ((sm z1) :: []))))))))))))) (- (3 : Int))) = (Int.ofNat 0)))
theorem ltb129_ok (z0 : Int) (z1 : Int) : ltb129 z0 z1 := by
  unfold ltb129
  exact fr_six ⟨by decide, by decide⟩ (six_in ⟨sm_in _, sm_in _⟩ ⟨sm_in _, sm_in _⟩ ⟨sm_in _, sm_in _⟩ ⟨sm_in _, sm_in _⟩ ⟨sm_in _, sm_in _⟩ ⟨sm_in _, sm_in _⟩)
def ltb130 (z0 : Int) (z1 : Int) : Prop := ((((- (65536 : Int)) ≤ (((frP (sm z0) (sm z1) (- (3 : Int)) (0 : Nat))).1).1) ∧ ((((frP (sm z0) (sm z1) (- (3 : Int)) (0 : Nat))).1).1 ≤ (65536 : Int))) ∧ ((((- (65536 : Int)) ≤ (((frP (sm z0) (sm z1) (- (3 : Int)) (0 : Nat))).1).2) ∧ ((((frP (sm z0) (sm z1) (- (3 : Int)) (0 : Nat))).1).2 ≤ (65536 : Int))) ∧ ((((- (65536 : Int)) ≤ (((frP (sm z0) (sm z1) (- (3 : Int)) 1)).1).1) ∧ ((((frP (sm z0) (sm z1) (- (3 : Int)) 1)).1).1 ≤ (65536 : Int))) ∧ ((((- (65536 : Int)) ≤ (((frP (sm z0) (sm z1) (- (3 : Int)) 1)).1).2) ∧ ((((frP (sm z0) (sm z1) (- (3 : Int)) 1)).1).2 ≤ (65536 : Int))) ∧ ((((- (65536 : Int)) ≤ (((frP (sm z0) (sm z1) (- (3 : Int)) 2)).1).1) ∧ ((((frP (sm z0) (sm z1) (- (3 : Int)) 2)).1).1 ≤ (65536 : Int))) ∧ ((((- (65536 : Int)) ≤ (((frP (sm z0) (sm z1) (- (3 : Int)) 2)).1).2) ∧ ((((frP (sm z0) (sm z1) (- (3 : Int)) 2)).1).2 ≤ (65536 : Int))) ∧ ((((- (65536 : Int)) ≤ (((frP (sm z0) (sm z1) (- (3 : Int)) 3)).1).1) ∧ ((((frP (sm z0) (sm z1) (- (3 : Int)) 3)).1).1 ≤ (65536 : Int))) ∧ ((((- (65536 : Int)) ≤ (((frP (sm z0) (sm z1) (- (3 : Int)) 3)).1).2) ∧ ((((frP (sm z0) (sm z1) (- (3 : Int)) 3)).1).2 ≤ (65536 : Int))) ∧ ((((- (65536 : Int)) ≤ (((frP (sm z0) (sm z1) (- (3 : Int)) 4)).1).1) ∧ ((((frP (sm z0) (sm z1) (- (3 : Int)) 4)).1).1 ≤ (65536 : Int))) ∧ ((((- (65536 : Int)) ≤ (((frP (sm z0) (sm z1) (- (3 : Int)) 4)).1).2) ∧ ((((frP (sm z0) (sm z1) (- (3 : Int)) 4)).1).2 ≤ (65536 : Int))) ∧ ((((- (65536 : Int)) ≤ (((frP (sm z0) (sm z1) (- (3 : Int)) 5)).1).1) ∧ ((((frP (sm z0) (sm z1) (- (3 : Int)) 5)).1).1 ≤ (65536 : Int))) ∧ (((- (65536 : Int)) ≤ (((frP (sm z0) (sm z1) (- (3 : Int)) 5)).1).2) ∧ ((((frP (sm z0) (sm z1) (- (3 : Int)) 5)).1).2 ≤ (65536 : Int))))))))))))))
theorem ltb130_ok (z0 : Int) (z1 : Int) : ltb130 z0 z1 := by
  unfold ltb130
  have s0 := sm_bd z0
  have s1 := sm_bd z1
  first
    | rfl
    | decide
    | (simp; omega)
    | (first | omega | (and_intros <;> omega))
    | ((try simp (disch := omega) only [wi, Int.reduceAdd, Int.reduceSub, Int.reduceNeg, Int.reduceMul]); (try simp only [fq_1_0, fq_1_1, fq_1_2, fq_1_3, fq_1_4, fq_1_5, fq_0_0, fq_0_1, fq_0_2, fq_0_3, fq_0_4, fq_0_5, fq_m1_0, fq_m1_1, fq_m1_2, fq_m1_3, fq_m1_4, fq_m1_5, fq_m2_0, fq_m2_1, fq_m2_2, fq_m2_3, fq_m2_4, fq_m2_5, fq_m3_0, fq_m3_1, fq_m3_2, fq_m3_3, fq_m3_4, fq_m3_5, fq_m4_0, fq_m4_1, fq_m4_2, fq_m4_3, fq_m4_4, fq_m4_5, fq_m5_0, fq_m5_1, fq_m5_2, fq_m5_3, fq_m5_4, fq_m5_5]); (try simp only [tw0, tw1, tw2, tw3, tw4, tw5, twm1, twm2, twm3, twm4, twm5]); (try simp only [Bool.not_eq_false', Bool.and_eq_true, beq_iff_eq, and_true]); (try simp (disch := omega) only [wi, Int.reduceAdd, Int.reduceSub, Int.reduceNeg, Int.reduceMul]); and_intros <;> omega)
def ltb131 : Prop := (((0 : Int) == (3 : Int)) = false)
theorem ltb131_ok : ltb131 := by
  unfold ltb131
  first
    | rfl
    | decide
    | (simp; omega)
    | (first | omega | (and_intros <;> omega))
    | ((try simp (disch := omega) only [wi, Int.reduceAdd, Int.reduceSub, Int.reduceNeg, Int.reduceMul]); (try simp only [Bool.not_eq_false', Bool.and_eq_true, beq_iff_eq, and_true]); (try simp (disch := omega) only [wi, Int.reduceAdd, Int.reduceSub, Int.reduceNeg, Int.reduceMul]); and_intros <;> omega)
def ltb132 (z0 : Int) (z1 : Int) : Prop := ((Bool.not (Bool.and (((((((((frP (sm z0) (sm z1) (- (3 : Int)) (0 : Nat))).1).1 + (((frP (sm z0) (sm z1) (- (3 : Int)) 1)).1).1) + (((frP (sm z0) (sm z1) (- (3 : Int)) 2)).1).1) + (((frP (sm z0) (sm z1) (- (3 : Int)) 3)).1).1) + (((frP (sm z0) (sm z1) (- (3 : Int)) 4)).1).1) + (((frP (sm z0) (sm z1) (- (3 : Int)) 5)).1).1) == (0 : Int)) (Bool.and (((((((((frP (sm z0) (sm z1) (- (3 : Int)) (0 : Nat))).1).2 + (((frP (sm z0) (sm z1) (- (3 : Int)) 1)).1).2) + (((frP (sm z0) (sm z1) (- (3 : Int)) 2)).1).2) + (((frP (sm z0) (sm z1) (- (3 : Int)) 3)).1).2) + (((frP (sm z0) (sm z1) (- (3 : Int)) 4)).1).2) + (((frP (sm z0) (sm z1) (- (3 : Int)) 5)).1).2) == (0 : Int)) true))) = false)
theorem ltb132_ok (z0 : Int) (z1 : Int) : ltb132 z0 z1 := by
  unfold ltb132
  have s0 := sm_bd z0
  have s1 := sm_bd z1
  first
    | rfl
    | decide
    | (simp; omega)
    | (first | omega | (and_intros <;> omega))
    | ((try simp (disch := omega) only [wi, Int.reduceAdd, Int.reduceSub, Int.reduceNeg, Int.reduceMul]); (try simp only [fq_1_0, fq_1_1, fq_1_2, fq_1_3, fq_1_4, fq_1_5, fq_0_0, fq_0_1, fq_0_2, fq_0_3, fq_0_4, fq_0_5, fq_m1_0, fq_m1_1, fq_m1_2, fq_m1_3, fq_m1_4, fq_m1_5, fq_m2_0, fq_m2_1, fq_m2_2, fq_m2_3, fq_m2_4, fq_m2_5, fq_m3_0, fq_m3_1, fq_m3_2, fq_m3_3, fq_m3_4, fq_m3_5, fq_m4_0, fq_m4_1, fq_m4_2, fq_m4_3, fq_m4_4, fq_m4_5, fq_m5_0, fq_m5_1, fq_m5_2, fq_m5_3, fq_m5_4, fq_m5_5]); (try simp only [tw0, tw1, tw2, tw3, tw4, tw5, twm1, twm2, twm3, twm4, twm5]); (try simp only [Bool.not_eq_false', Bool.and_eq_true, beq_iff_eq, and_true]); (try simp (disch := omega) only [wi, Int.reduceAdd, Int.reduceSub, Int.reduceNeg, Int.reduceMul]); and_intros <;> omega)
def ltb133 : Prop := (((IntKind.i64.wrap ((0 : Int) + (1 : Int))) == (3 : Int)) = false)
theorem ltb133_ok : ltb133 := by
  unfold ltb133
  first
    | rfl
    | decide
    | (simp; omega)
    | (first | omega | (and_intros <;> omega))
    | ((try simp (disch := omega) only [wi, Int.reduceAdd, Int.reduceSub, Int.reduceNeg, Int.reduceMul]); (try simp only [Bool.not_eq_false', Bool.and_eq_true, beq_iff_eq, and_true]); (try simp (disch := omega) only [wi, Int.reduceAdd, Int.reduceSub, Int.reduceNeg, Int.reduceMul]); and_intros <;> omega)
def ltb134 (z0 : Int) (z1 : Int) : Prop := ((Bool.not (Bool.and (((((((((((frP (sm z0) (sm z1) (- (3 : Int)) (0 : Nat))).1).1 + (((frP (sm z0) (sm z1) (- (3 : Int)) 1)).1).2) - (((frP (sm z0) (sm z1) (- (3 : Int)) 2)).1).1) + (((frP (sm z0) (sm z1) (- (3 : Int)) 2)).1).2) - (((frP (sm z0) (sm z1) (- (3 : Int)) 3)).1).1) - (((frP (sm z0) (sm z1) (- (3 : Int)) 4)).1).2) + (((frP (sm z0) (sm z1) (- (3 : Int)) 5)).1).1) - (((frP (sm z0) (sm z1) (- (3 : Int)) 5)).1).2) == (0 : Int)) (Bool.and (((((((((((frP (sm z0) (sm z1) (- (3 : Int)) (0 : Nat))).1).2 - (((frP (sm z0) (sm z1) (- (3 : Int)) 1)).1).1) + (((frP (sm z0) (sm z1) (- (3 : Int)) 1)).1).2) - (((frP (sm z0) (sm z1) (- (3 : Int)) 2)).1).1) - (((frP (sm z0) (sm z1) (- (3 : Int)) 3)).1).2) + (((frP (sm z0) (sm z1) (- (3 : Int)) 4)).1).1) - (((frP (sm z0) (sm z1) (- (3 : Int)) 4)).1).2) + (((frP (sm z0) (sm z1) (- (3 : Int)) 5)).1).1) == (0 : Int)) true))) = false)
theorem ltb134_ok (z0 : Int) (z1 : Int) : ltb134 z0 z1 := by
  unfold ltb134
  have s0 := sm_bd z0
  have s1 := sm_bd z1
  first
    | rfl
    | decide
    | (simp; omega)
    | (first | omega | (and_intros <;> omega))
    | ((try simp (disch := omega) only [wi, Int.reduceAdd, Int.reduceSub, Int.reduceNeg, Int.reduceMul]); (try simp only [fq_1_0, fq_1_1, fq_1_2, fq_1_3, fq_1_4, fq_1_5, fq_0_0, fq_0_1, fq_0_2, fq_0_3, fq_0_4, fq_0_5, fq_m1_0, fq_m1_1, fq_m1_2, fq_m1_3, fq_m1_4, fq_m1_5, fq_m2_0, fq_m2_1, fq_m2_2, fq_m2_3, fq_m2_4, fq_m2_5, fq_m3_0, fq_m3_1, fq_m3_2, fq_m3_3, fq_m3_4, fq_m3_5, fq_m4_0, fq_m4_1, fq_m4_2, fq_m4_3, fq_m4_4, fq_m4_5, fq_m5_0, fq_m5_1, fq_m5_2, fq_m5_3, fq_m5_4, fq_m5_5]); (try simp only [tw0, tw1, tw2, tw3, tw4, tw5, twm1, twm2, twm3, twm4, twm5]); (try simp only [Bool.not_eq_false', Bool.and_eq_true, beq_iff_eq, and_true]); (try simp (disch := omega) only [wi, Int.reduceAdd, Int.reduceSub, Int.reduceNeg, Int.reduceMul]); and_intros <;> omega)
end Go.Proofs.YtjpffbekhfkibaaGreatDoor
end
section
set_option linter.all false
set_option maxRecDepth 1000000
set_option maxHeartbeats 1000000
open Go.RowKit
namespace Go.Proofs.YtjpffbekhfkibaaGreatDoor
open Mini
def ltb135 : Prop := (((IntKind.i64.wrap ((IntKind.i64.wrap ((0 : Int) + (1 : Int))) + (1 : Int))) == (3 : Int)) = false)
theorem ltb135_ok : ltb135 := by
  unfold ltb135
  first
    | rfl
    | decide
    | (simp; omega)
    | (first | omega | (and_intros <;> omega))
    | ((try simp (disch := omega) only [wi, Int.reduceAdd, Int.reduceSub, Int.reduceNeg, Int.reduceMul]); (try simp only [Bool.not_eq_false', Bool.and_eq_true, beq_iff_eq, and_true]); (try simp (disch := omega) only [wi, Int.reduceAdd, Int.reduceSub, Int.reduceNeg, Int.reduceMul]); and_intros <;> omega)
def ltb136 (z0 : Int) (z1 : Int) : Prop := ((Bool.not (Bool.and (((((((((((frP (sm z0) (sm z1) (- (3 : Int)) (0 : Nat))).1).1 - (((frP (sm z0) (sm z1) (- (3 : Int)) 1)).1).1) + (((frP (sm z0) (sm z1) (- (3 : Int)) 1)).1).2) - (((frP (sm z0) (sm z1) (- (3 : Int)) 2)).1).2) + (((frP (sm z0) (sm z1) (- (3 : Int)) 3)).1).1) - (((frP (sm z0) (sm z1) (- (3 : Int)) 4)).1).1) + (((frP (sm z0) (sm z1) (- (3 : Int)) 4)).1).2) - (((frP (sm z0) (sm z1) (- (3 : Int)) 5)).1).2) == (0 : Int)) (Bool.and (((((((((((frP (sm z0) (sm z1) (- (3 : Int)) (0 : Nat))).1).2 - (((frP (sm z0) (sm z1) (- (3 : Int)) 1)).1).1) + (((frP (sm z0) (sm z1) (- (3 : Int)) 2)).1).1) - (((frP (sm z0) (sm z1) (- (3 : Int)) 2)).1).2) + (((frP (sm z0) (sm z1) (- (3 : Int)) 3)).1).2) - (((frP (sm z0) (sm z1) (- (3 : Int)) 4)).1).1) + (((frP (sm z0) (sm z1) (- (3 : Int)) 5)).1).1) - (((frP (sm z0) (sm z1) (- (3 : Int)) 5)).1).2) == (0 : Int)) true))) = false)
theorem ltb136_ok (z0 : Int) (z1 : Int) : ltb136 z0 z1 := by
  unfold ltb136
  have s0 := sm_bd z0
  have s1 := sm_bd z1
  first
    | rfl
    | decide
    | (simp; omega)
    | (first | omega | (and_intros <;> omega))
    | ((try simp (disch := omega) only [wi, Int.reduceAdd, Int.reduceSub, Int.reduceNeg, Int.reduceMul]); (try simp only [fq_1_0, fq_1_1, fq_1_2, fq_1_3, fq_1_4, fq_1_5, fq_0_0, fq_0_1, fq_0_2, fq_0_3, fq_0_4, fq_0_5, fq_m1_0, fq_m1_1, fq_m1_2, fq_m1_3, fq_m1_4, fq_m1_5, fq_m2_0, fq_m2_1, fq_m2_2, fq_m2_3, fq_m2_4, fq_m2_5, fq_m3_0, fq_m3_1, fq_m3_2, fq_m3_3, fq_m3_4, fq_m3_5, fq_m4_0, fq_m4_1, fq_m4_2, fq_m4_3, fq_m4_4, fq_m4_5, fq_m5_0, fq_m5_1, fq_m5_2, fq_m5_3, fq_m5_4, fq_m5_5]); (try simp only [tw0, tw1, tw2, tw3, tw4, tw5, twm1, twm2, twm3, twm4, twm5]); (try simp only [Bool.not_eq_false', Bool.and_eq_true, beq_iff_eq, and_true]); (try simp (disch := omega) only [wi, Int.reduceAdd, Int.reduceSub, Int.reduceNeg, Int.reduceMul]); and_intros <;> omega)
def ltb137 : Prop := (((IntKind.i64.wrap ((IntKind.i64.wrap ((IntKind.i64.wrap ((0 : Int) + (1 : Int))) + (1 : Int))) + (1 : Int))) == (3 : Int)) = true)
theorem ltb137_ok : ltb137 := by
  unfold ltb137
  first
    | rfl
    | decide
    | (simp; omega)
    | (first | omega | (and_intros <;> omega))
    | ((try simp (disch := omega) only [wi, Int.reduceAdd, Int.reduceSub, Int.reduceNeg, Int.reduceMul]); (try simp only [Bool.not_eq_false', Bool.and_eq_true, beq_iff_eq, and_true]); (try simp (disch := omega) only [wi, Int.reduceAdd, Int.reduceSub, Int.reduceNeg, Int.reduceMul]); and_intros <;> omega)
def ltb138 (z0 : Int) (z1 : Int) : Prop := ((Bool.not (Bool.and (((((((((frP (sm z0) (sm z1) (- (3 : Int)) (0 : Nat))).1).1 - (((frP (sm z0) (sm z1) (- (3 : Int)) 1)).1).1) + (((frP (sm z0) (sm z1) (- (3 : Int)) 2)).1).1) - (((frP (sm z0) (sm z1) (- (3 : Int)) 3)).1).1) + (((frP (sm z0) (sm z1) (- (3 : Int)) 4)).1).1) - (((frP (sm z0) (sm z1) (- (3 : Int)) 5)).1).1) == (IntKind.i64.wrap ((6 : Int) * (sm z0)))) (Bool.and (((((((((frP (sm z0) (sm z1) (- (3 : Int)) (0 : Nat))).1).2 - (((frP (sm z0) (sm z1) (- (3 : Int)) 1)).1).2) + (((frP (sm z0) (sm z1) (- (3 : Int)) 2)).1).2) - (((frP (sm z0) (sm z1) (- (3 : Int)) 3)).1).2) + (((frP (sm z0) (sm z1) (- (3 : Int)) 4)).1).2) - (((frP (sm z0) (sm z1) (- (3 : Int)) 5)).1).2) == (IntKind.i64.wrap ((6 : Int) * (sm z1)))) true))) = false)
theorem ltb138_ok (z0 : Int) (z1 : Int) : ltb138 z0 z1 := by
  unfold ltb138
  have s0 := sm_bd z0
  have s1 := sm_bd z1
  first
    | rfl
    | decide
    | (simp; omega)
    | (first | omega | (and_intros <;> omega))
    | ((try simp (disch := omega) only [wi, Int.reduceAdd, Int.reduceSub, Int.reduceNeg, Int.reduceMul]); (try simp only [fq_1_0, fq_1_1, fq_1_2, fq_1_3, fq_1_4, fq_1_5, fq_0_0, fq_0_1, fq_0_2, fq_0_3, fq_0_4, fq_0_5, fq_m1_0, fq_m1_1, fq_m1_2, fq_m1_3, fq_m1_4, fq_m1_5, fq_m2_0, fq_m2_1, fq_m2_2, fq_m2_3, fq_m2_4, fq_m2_5, fq_m3_0, fq_m3_1, fq_m3_2, fq_m3_3, fq_m3_4, fq_m3_5, fq_m4_0, fq_m4_1, fq_m4_2, fq_m4_3, fq_m4_4, fq_m4_5, fq_m5_0, fq_m5_1, fq_m5_2, fq_m5_3, fq_m5_4, fq_m5_5]); (try simp only [tw0, tw1, tw2, tw3, tw4, tw5, twm1, twm2, twm3, twm4, twm5]); (try simp only [Bool.not_eq_false', Bool.and_eq_true, beq_iff_eq, and_true]); (try simp (disch := omega) only [wi, Int.reduceAdd, Int.reduceSub, Int.reduceNeg, Int.reduceMul]); and_intros <;> omega)
def ltb139 : Prop := (((IntKind.i64.wrap ((IntKind.i64.wrap ((IntKind.i64.wrap ((IntKind.i64.wrap ((0 : Int) + (1 : Int))) + (1 : Int))) + (1 : Int))) + (1 : Int))) == (3 : Int)) = false)
theorem ltb139_ok : ltb139 := by
  unfold ltb139
  first
    | rfl
    | decide
    | (simp; omega)
    | (first | omega | (and_intros <;> omega))
    | ((try simp (disch := omega) only [wi, Int.reduceAdd, Int.reduceSub, Int.reduceNeg, Int.reduceMul]); (try simp only [Bool.not_eq_false', Bool.and_eq_true, beq_iff_eq, and_true]); (try simp (disch := omega) only [wi, Int.reduceAdd, Int.reduceSub, Int.reduceNeg, Int.reduceMul]); and_intros <;> omega)
def ltb140 (z0 : Int) (z1 : Int) : Prop := ((Bool.not (Bool.and (((((((((((frP (sm z0) (sm z1) (- (3 : Int)) (0 : Nat))).1).1 - (((frP (sm z0) (sm z1) (- (3 : Int)) 1)).1).2) - (((frP (sm z0) (sm z1) (- (3 : Int)) 2)).1).1) + (((frP (sm z0) (sm z1) (- (3 : Int)) 2)).1).2) + (((frP (sm z0) (sm z1) (- (3 : Int)) 3)).1).1) - (((frP (sm z0) (sm z1) (- (3 : Int)) 4)).1).2) - (((frP (sm z0) (sm z1) (- (3 : Int)) 5)).1).1) + (((frP (sm z0) (sm z1) (- (3 : Int)) 5)).1).2) == (0 : Int)) (Bool.and (((((((((((frP (sm z0) (sm z1) (- (3 : Int)) (0 : Nat))).1).2 + (((frP (sm z0) (sm z1) (- (3 : Int)) 1)).1).1) - (((frP (sm z0) (sm z1) (- (3 : Int)) 1)).1).2) - (((frP (sm z0) (sm z1) (- (3 : Int)) 2)).1).1) + (((frP (sm z0) (sm z1) (- (3 : Int)) 3)).1).2) + (((frP (sm z0) (sm z1) (- (3 : Int)) 4)).1).1) - (((frP (sm z0) (sm z1) (- (3 : Int)) 4)).1).2) - (((frP (sm z0) (sm z1) (- (3 : Int)) 5)).1).1) == (0 : Int)) true))) = false)
theorem ltb140_ok (z0 : Int) (z1 : Int) : ltb140 z0 z1 := by
  unfold ltb140
  have s0 := sm_bd z0
  have s1 := sm_bd z1
  first
    | rfl
    | decide
    | (simp; omega)
    | (first | omega | (and_intros <;> omega))
    | ((try simp (disch := omega) only [wi, Int.reduceAdd, Int.reduceSub, Int.reduceNeg, Int.reduceMul]); (try simp only [fq_1_0, fq_1_1, fq_1_2, fq_1_3, fq_1_4, fq_1_5, fq_0_0, fq_0_1, fq_0_2, fq_0_3, fq_0_4, fq_0_5, fq_m1_0, fq_m1_1, fq_m1_2, fq_m1_3, fq_m1_4, fq_m1_5, fq_m2_0, fq_m2_1, fq_m2_2, fq_m2_3, fq_m2_4, fq_m2_5, fq_m3_0, fq_m3_1, fq_m3_2, fq_m3_3, fq_m3_4, fq_m3_5, fq_m4_0, fq_m4_1, fq_m4_2, fq_m4_3, fq_m4_4, fq_m4_5, fq_m5_0, fq_m5_1, fq_m5_2, fq_m5_3, fq_m5_4, fq_m5_5]); (try simp only [tw0, tw1, tw2, tw3, tw4, tw5, twm1, twm2, twm3, twm4, twm5]); (try simp only [Bool.not_eq_false', Bool.and_eq_true, beq_iff_eq, and_true]); (try simp (disch := omega) only [wi, Int.reduceAdd, Int.reduceSub, Int.reduceNeg, Int.reduceMul]); and_intros <;> omega)
def ltb141 : Prop := (((IntKind.i64.wrap ((IntKind.i64.wrap ((IntKind.i64.wrap ((IntKind.i64.wrap ((IntKind.i64.wrap ((0 : Int) + (1 : Int))) + (1 : Int))) + (1 : Int))) + (1 : Int))) + (1 : Int))) == (3 : Int)) = false)
theorem ltb141_ok : ltb141 := by
  unfold ltb141
  first
    | rfl
    | decide
    | (simp; omega)
    | (first | omega | (and_intros <;> omega))
    | ((try simp (disch := omega) only [wi, Int.reduceAdd, Int.reduceSub, Int.reduceNeg, Int.reduceMul]); (try simp only [Bool.not_eq_false', Bool.and_eq_true, beq_iff_eq, and_true]); (try simp (disch := omega) only [wi, Int.reduceAdd, Int.reduceSub, Int.reduceNeg, Int.reduceMul]); and_intros <;> omega)
def ltb142 (z0 : Int) (z1 : Int) : Prop := ((Bool.not (Bool.and (((((((((((frP (sm z0) (sm z1) (- (3 : Int)) (0 : Nat))).1).1 + (((frP (sm z0) (sm z1) (- (3 : Int)) 1)).1).1) - (((frP (sm z0) (sm z1) (- (3 : Int)) 1)).1).2) - (((frP (sm z0) (sm z1) (- (3 : Int)) 2)).1).2) - (((frP (sm z0) (sm z1) (- (3 : Int)) 3)).1).1) - (((frP (sm z0) (sm z1) (- (3 : Int)) 4)).1).1) + (((frP (sm z0) (sm z1) (- (3 : Int)) 4)).1).2) + (((frP (sm z0) (sm z1) (- (3 : Int)) 5)).1).2) == (0 : Int)) (Bool.and (((((((((((frP (sm z0) (sm z1) (- (3 : Int)) (0 : Nat))).1).2 + (((frP (sm z0) (sm z1) (- (3 : Int)) 1)).1).1) + (((frP (sm z0) (sm z1) (- (3 : Int)) 2)).1).1) - (((frP (sm z0) (sm z1) (- (3 : Int)) 2)).1).2) - (((frP (sm z0) (sm z1) (- (3 : Int)) 3)).1).2) - (((frP (sm z0) (sm z1) (- (3 : Int)) 4)).1).1) - (((frP (sm z0) (sm z1) (- (3 : Int)) 5)).1).1) + (((frP (sm z0) (sm z1) (- (3 : Int)) 5)).1).2) == (0 : Int)) true))) = false)
theorem ltb142_ok (z0 : Int) (z1 : Int) : ltb142 z0 z1 := by
  unfold ltb142
  have s0 := sm_bd z0
  have s1 := sm_bd z1
  first
    | rfl
    | decide
    | (simp; omega)
    | (first | omega | (and_intros <;> omega))
    | ((try simp (disch := omega) only [wi, Int.reduceAdd, Int.reduceSub, Int.reduceNeg, Int.reduceMul]); (try simp only [fq_1_0, fq_1_1, fq_1_2, fq_1_3, fq_1_4, fq_1_5, fq_0_0, fq_0_1, fq_0_2, fq_0_3, fq_0_4, fq_0_5, fq_m1_0, fq_m1_1, fq_m1_2, fq_m1_3, fq_m1_4, fq_m1_5, fq_m2_0, fq_m2_1, fq_m2_2, fq_m2_3, fq_m2_4, fq_m2_5, fq_m3_0, fq_m3_1, fq_m3_2, fq_m3_3, fq_m3_4, fq_m3_5, fq_m4_0, fq_m4_1, fq_m4_2, fq_m4_3, fq_m4_4, fq_m4_5, fq_m5_0, fq_m5_1, fq_m5_2, fq_m5_3, fq_m5_4, fq_m5_5]); (try simp only [tw0, tw1, tw2, tw3, tw4, tw5, twm1, twm2, twm3, twm4, twm5]); (try simp only [Bool.not_eq_false', Bool.and_eq_true, beq_iff_eq, and_true]); (try simp (disch := omega) only [wi, Int.reduceAdd, Int.reduceSub, Int.reduceNeg, Int.reduceMul]); and_intros <;> omega)
def ltb143 (k : Int) : Prop := (((.int .i64 (Int.tmod ((Int.tmod k (6 : Nat)) + (6 : Int)) (6 : Int))) : Value) = (.int .i64 (4 : Int)))
theorem ltb143_ok (k : Int) (hk : -128 ≤ k ∧ k ≤ 127) (hc : (k.tmod 6 + 6).tmod 6 = 4) : ltb143 k := by
  unfold ltb143
  exact congrArg (Value.int .i64) hc
def ltb144 : Prop := (((.int .i64 (IntKind.i64.wrap ((0 : Int) - (4 : Int)))) : Value) = (.int .i64 (- (4 : Int))))
theorem ltb144_ok : ltb144 := by
  unfold ltb144
  first | rfl | (refine congrArg (Value.int .i64) ?_; first | rfl | (rw [wi _ (by omega)]; done) | (rw [wi _ (by omega)]; omega) | omega)
def ltb145 (z0 : Int) (z1 : Int) : Prop := ((∀ (i : Nat), ((i < (6 : Nat)) → (((ltV (gL ((sm z0) :: ((sm z1) :: ((sm z0) :: ((sm z1) :: ((sm z0) :: ((sm z1) :: ((sm z0) :: ((sm z1) :: ((sm z0) :: ((sm z1) :: ((sm z0) :: ((sm z1) :: [])))))))))))) i (0 : Nat)) (gL ((sm z0) :: ((sm z1) :: ((sm z0) :: ((sm z1) :: ((sm z0) :: ((sm z1) :: ((sm z0) :: ((sm z1) :: ((sm z0) :: ((sm z1) :: ((sm z0) :: ((sm z1) :: [])))))))))))) i (1 : Nat))) = (0 : Int)) → (Bg (1099511627776 : Int) (gL ((sm z0) :: ((sm z1) :: ((sm z0) :: ((sm z1) :: ((sm z0) :: ((sm z1) :: ((sm z0) :: ((sm z1) :: ((sm z0) :: ((sm z1) :: ((sm z0) :: ((sm z1) :: [])))))))))))) i (0 : Nat)) (gL ((sm z0) :: ((sm z1) :: ((sm z0) :: ((sm z1) :: ((sm z0) :: ((sm z1) :: ((sm z0) :: ((sm z1) :: ((sm z0) :: ((sm z1) :: ((sm z0) :: ((sm z1) :: [])))))))))))) i (1 : Nat)))))) ∧ ((frErr ltV (6 : Nat) (gL ((sm z0) :: ((sm z1) :: ((sm z0) :: ((sm z1) :: ((sm z0) :: ((sm z1) :: ((sm z0) :: ((sm z1) :: ((sm z0) :: ((sm z1) :: ((sm z0) :: ((sm z1) :: []))))))))))))) (- (4 : Int))) = (Int.ofNat 0)))
theorem ltb145_ok (z0 : Int) (z1 : Int) : ltb145 z0 z1 := by
  unfold ltb145
  exact fr_six ⟨by decide, by decide⟩ (six_in ⟨sm_in _, sm_in _⟩ ⟨sm_in _, sm_in _⟩ ⟨sm_in _, sm_in _⟩ ⟨sm_in _, sm_in _⟩ ⟨sm_in _, sm_in _⟩ ⟨sm_in _, sm_in _⟩)
def ltb146 (z0 : Int) (z1 : Int) : Prop := ((((- (65536 : Int)) ≤ (((frP (sm z0) (sm z1) (- (4 : Int)) (0 : Nat))).1).1) ∧ ((((frP (sm z0) (sm z1) (- (4 : Int)) (0 : Nat))).1).1 ≤ (65536 : Int))) ∧ ((((- (65536 : Int)) ≤ (((frP (sm z0) (sm z1) (- (4 : Int)) (0 : Nat))).1).2) ∧ ((((frP (sm z0) (sm z1) (- (4 : Int)) (0 : Nat))).1).2 ≤ (65536 : Int))) ∧ ((((- (65536 : Int)) ≤ (((frP (sm z0) (sm z1) (- (4 : Int)) 1)).1).1) ∧ ((((frP (sm z0) (sm z1) (- (4 : Int)) 1)).1).1 ≤ (65536 : Int))) ∧ ((((- (65536 : Int)) ≤ (((frP (sm z0) (sm z1) (- (4 : Int)) 1)).1).2) ∧ ((((frP (sm z0) (sm z1) (- (4 : Int)) 1)).1).2 ≤ (65536 : Int))) ∧ ((((- (65536 : Int)) ≤ (((frP (sm z0) (sm z1) (- (4 : Int)) 2)).1).1) ∧ ((((frP (sm z0) (sm z1) (- (4 : Int)) 2)).1).1 ≤ (65536 : Int))) ∧ ((((- (65536 : Int)) ≤ (((frP (sm z0) (sm z1) (- (4 : Int)) 2)).1).2) ∧ ((((frP (sm z0) (sm z1) (- (4 : Int)) 2)).1).2 ≤ (65536 : Int))) ∧ ((((- (65536 : Int)) ≤ (((frP (sm z0) (sm z1) (- (4 : Int)) 3)).1).1) ∧ ((((frP (sm z0) (sm z1) (- (4 : Int)) 3)).1).1 ≤ (65536 : Int))) ∧ ((((- (65536 : Int)) ≤ (((frP (sm z0) (sm z1) (- (4 : Int)) 3)).1).2) ∧ ((((frP (sm z0) (sm z1) (- (4 : Int)) 3)).1).2 ≤ (65536 : Int))) ∧ ((((- (65536 : Int)) ≤ (((frP (sm z0) (sm z1) (- (4 : Int)) 4)).1).1) ∧ ((((frP (sm z0) (sm z1) (- (4 : Int)) 4)).1).1 ≤ (65536 : Int))) ∧ ((((- (65536 : Int)) ≤ (((frP (sm z0) (sm z1) (- (4 : Int)) 4)).1).2) ∧ ((((frP (sm z0) (sm z1) (- (4 : Int)) 4)).1).2 ≤ (65536 : Int))) ∧ ((((- (65536 : Int)) ≤ (((frP (sm z0) (sm z1) (- (4 : Int)) 5)).1).1) ∧ ((((frP (sm z0) (sm z1) (- (4 : Int)) 5)).1).1 ≤ (65536 : Int))) ∧ (((- (65536 : Int)) ≤ (((frP (sm z0) (sm z1) (- (4 : Int)) 5)).1).2) ∧ ((((frP (sm z0) (sm z1) (- (4 : Int)) 5)).1).2 ≤ (65536 : Int))))))))))))))
theorem ltb146_ok (z0 : Int) (z1 : Int) : ltb146 z0 z1 := by
  unfold ltb146
  have s0 := sm_bd z0
  have s1 := sm_bd z1
  first
    | rfl
    | decide
    | (simp; omega)
    | (first | omega | (and_intros <;> omega))
    | ((try simp (disch := omega) only [wi, Int.reduceAdd, Int.reduceSub, Int.reduceNeg, Int.reduceMul]); (try simp only [fq_1_0, fq_1_1, fq_1_2, fq_1_3, fq_1_4, fq_1_5, fq_0_0, fq_0_1, fq_0_2, fq_0_3, fq_0_4, fq_0_5, fq_m1_0, fq_m1_1, fq_m1_2, fq_m1_3, fq_m1_4, fq_m1_5, fq_m2_0, fq_m2_1, fq_m2_2, fq_m2_3, fq_m2_4, fq_m2_5, fq_m3_0, fq_m3_1, fq_m3_2, fq_m3_3, fq_m3_4, fq_m3_5, fq_m4_0, fq_m4_1, fq_m4_2, fq_m4_3, fq_m4_4, fq_m4_5, fq_m5_0, fq_m5_1, fq_m5_2, fq_m5_3, fq_m5_4, fq_m5_5]); (try simp only [tw0, tw1, tw2, tw3, tw4, tw5, twm1, twm2, twm3, twm4, twm5]); (try simp only [Bool.not_eq_false', Bool.and_eq_true, beq_iff_eq, and_true]); (try simp (disch := omega) only [wi, Int.reduceAdd, Int.reduceSub, Int.reduceNeg, Int.reduceMul]); and_intros <;> omega)
def ltb147 : Prop := (((0 : Int) == (4 : Int)) = false)
theorem ltb147_ok : ltb147 := by
  unfold ltb147
  first
    | rfl
    | decide
    | (simp; omega)
    | (first | omega | (and_intros <;> omega))
    | ((try simp (disch := omega) only [wi, Int.reduceAdd, Int.reduceSub, Int.reduceNeg, Int.reduceMul]); (try simp only [Bool.not_eq_false', Bool.and_eq_true, beq_iff_eq, and_true]); (try simp (disch := omega) only [wi, Int.reduceAdd, Int.reduceSub, Int.reduceNeg, Int.reduceMul]); and_intros <;> omega)
def ltb148 (z0 : Int) (z1 : Int) : Prop := ((Bool.not (Bool.and (((((((((frP (sm z0) (sm z1) (- (4 : Int)) (0 : Nat))).1).1 + (((frP (sm z0) (sm z1) (- (4 : Int)) 1)).1).1) + (((frP (sm z0) (sm z1) (- (4 : Int)) 2)).1).1) + (((frP (sm z0) (sm z1) (- (4 : Int)) 3)).1).1) + (((frP (sm z0) (sm z1) (- (4 : Int)) 4)).1).1) + (((frP (sm z0) (sm z1) (- (4 : Int)) 5)).1).1) == (0 : Int)) (Bool.and (((((((((frP (sm z0) (sm z1) (- (4 : Int)) (0 : Nat))).1).2 + (((frP (sm z0) (sm z1) (- (4 : Int)) 1)).1).2) + (((frP (sm z0) (sm z1) (- (4 : Int)) 2)).1).2) + (((frP (sm z0) (sm z1) (- (4 : Int)) 3)).1).2) + (((frP (sm z0) (sm z1) (- (4 : Int)) 4)).1).2) + (((frP (sm z0) (sm z1) (- (4 : Int)) 5)).1).2) == (0 : Int)) true))) = false)
theorem ltb148_ok (z0 : Int) (z1 : Int) : ltb148 z0 z1 := by
  unfold ltb148
  have s0 := sm_bd z0
  have s1 := sm_bd z1
  first
    | rfl
    | decide
    | (simp; omega)
    | (first | omega | (and_intros <;> omega))
    | ((try simp (disch := omega) only [wi, Int.reduceAdd, Int.reduceSub, Int.reduceNeg, Int.reduceMul]); (try simp only [fq_1_0, fq_1_1, fq_1_2, fq_1_3, fq_1_4, fq_1_5, fq_0_0, fq_0_1, fq_0_2, fq_0_3, fq_0_4, fq_0_5, fq_m1_0, fq_m1_1, fq_m1_2, fq_m1_3, fq_m1_4, fq_m1_5, fq_m2_0, fq_m2_1, fq_m2_2, fq_m2_3, fq_m2_4, fq_m2_5, fq_m3_0, fq_m3_1, fq_m3_2, fq_m3_3, fq_m3_4, fq_m3_5, fq_m4_0, fq_m4_1, fq_m4_2, fq_m4_3, fq_m4_4, fq_m4_5, fq_m5_0, fq_m5_1, fq_m5_2, fq_m5_3, fq_m5_4, fq_m5_5]); (try simp only [tw0, tw1, tw2, tw3, tw4, tw5, twm1, twm2, twm3, twm4, twm5]); (try simp only [Bool.not_eq_false', Bool.and_eq_true, beq_iff_eq, and_true]); (try simp (disch := omega) only [wi, Int.reduceAdd, Int.reduceSub, Int.reduceNeg, Int.reduceMul]); and_intros <;> omega)
def ltb149 : Prop := (((IntKind.i64.wrap ((0 : Int) + (1 : Int))) == (4 : Int)) = false)
theorem ltb149_ok : ltb149 := by
  unfold ltb149
  first
    | rfl
    | decide
    | (simp; omega)
    | (first | omega | (and_intros <;> omega))
    | ((try simp (disch := omega) only [wi, Int.reduceAdd, Int.reduceSub, Int.reduceNeg, Int.reduceMul]); (try simp only [Bool.not_eq_false', Bool.and_eq_true, beq_iff_eq, and_true]); (try simp (disch := omega) only [wi, Int.reduceAdd, Int.reduceSub, Int.reduceNeg, Int.reduceMul]); and_intros <;> omega)
def ltb150 (z0 : Int) (z1 : Int) : Prop := ((Bool.not (Bool.and (((((((((((frP (sm z0) (sm z1) (- (4 : Int)) (0 : Nat))).1).1 + (((frP (sm z0) (sm z1) (- (4 : Int)) 1)).1).2) - (((frP (sm z0) (sm z1) (- (4 : Int)) 2)).1).1) + (((frP (sm z0) (sm z1) (- (4 : Int)) 2)).1).2) - (((frP (sm z0) (sm z1) (- (4 : Int)) 3)).1).1) - (((frP (sm z0) (sm z1) (- (4 : Int)) 4)).1).2) + (((frP (sm z0) (sm z1) (- (4 : Int)) 5)).1).1) - (((frP (sm z0) (sm z1) (- (4 : Int)) 5)).1).2) == (0 : Int)) (Bool.and (((((((((((frP (sm z0) (sm z1) (- (4 : Int)) (0 : Nat))).1).2 - (((frP (sm z0) (sm z1) (- (4 : Int)) 1)).1).1) + (((frP (sm z0) (sm z1) (- (4 : Int)) 1)).1).2) - (((frP (sm z0) (sm z1) (- (4 : Int)) 2)).1).1) - (((frP (sm z0) (sm z1) (- (4 : Int)) 3)).1).2) + (((frP (sm z0) (sm z1) (- (4 : Int)) 4)).1).1) - (((frP (sm z0) (sm z1) (- (4 : Int)) 4)).1).2) + (((frP (sm z0) (sm z1) (- (4 : Int)) 5)).1).1) == (0 : Int)) true))) = false)
theorem ltb150_ok (z0 : Int) (z1 : Int) : ltb150 z0 z1 := by
  unfold ltb150
  have s0 := sm_bd z0
  have s1 := sm_bd z1
  first
    | rfl
    | decide
    | (simp; omega)
    | (first | omega | (and_intros <;> omega))
    | ((try simp (disch := omega) only [wi, Int.reduceAdd, Int.reduceSub, Int.reduceNeg, Int.reduceMul]); (try simp only [fq_1_0, fq_1_1, fq_1_2, fq_1_3, fq_1_4, fq_1_5, fq_0_0, fq_0_1, fq_0_2, fq_0_3, fq_0_4, fq_0_5, fq_m1_0, fq_m1_1, fq_m1_2, fq_m1_3, fq_m1_4, fq_m1_5, fq_m2_0, fq_m2_1, fq_m2_2, fq_m2_3, fq_m2_4, fq_m2_5, fq_m3_0, fq_m3_1, fq_m3_2, fq_m3_3, fq_m3_4, fq_m3_5, fq_m4_0, fq_m4_1, fq_m4_2, fq_m4_3, fq_m4_4, fq_m4_5, fq_m5_0, fq_m5_1, fq_m5_2, fq_m5_3, fq_m5_4, fq_m5_5]); (try simp only [tw0, tw1, tw2, tw3, tw4, tw5, twm1, twm2, twm3, twm4, twm5]); (try simp only [Bool.not_eq_false', Bool.and_eq_true, beq_iff_eq, and_true]); (try simp (disch := omega) only [wi, Int.reduceAdd, Int.reduceSub, Int.reduceNeg, Int.reduceMul]); and_intros <;> omega)
def ltb151 : Prop := (((IntKind.i64.wrap ((IntKind.i64.wrap ((0 : Int) + (1 : Int))) + (1 : Int))) == (4 : Int)) = false)
theorem ltb151_ok : ltb151 := by
  unfold ltb151
  first
    | rfl
    | decide
    | (simp; omega)
    | (first | omega | (and_intros <;> omega))
    | ((try simp (disch := omega) only [wi, Int.reduceAdd, Int.reduceSub, Int.reduceNeg, Int.reduceMul]); (try simp only [Bool.not_eq_false', Bool.and_eq_true, beq_iff_eq, and_true]); (try simp (disch := omega) only [wi, Int.reduceAdd, Int.reduceSub, Int.reduceNeg, Int.reduceMul]); and_intros <;> omega)
def ltb152 (z0 : Int) (z1 : Int) : Prop := ((Bool.not (Bool.and (((((((((((frP (sm z0) (sm z1) (- (4 : Int)) (0 : Nat))).1).1 - (((frP (sm z0) (sm z1) (- (4 : Int)) 1)).1).1) + (((frP (sm z0) (sm z1) (- (4 : Int)) 1)).1).2) - (((frP (sm z0) (sm z1) (- (4 : Int)) 2)).1).2) + (((frP (sm z0) (sm z1) (- (4 : Int)) 3)).1).1) - (((frP (sm z0) (sm z1) (- (4 : Int)) 4)).1).1) + (((frP (sm z0) (sm z1) (- (4 : Int)) 4)).1).2) - (((frP (sm z0) (sm z1) (- (4 : Int)) 5)).1).2) == (0 : Int)) (Bool.and (((((((((((frP (sm z0) (sm z1) (- (4 : Int)) (0 : Nat))).1).2 - (((frP (sm z0) (sm z1) (- (4 : Int)) 1)).1).1) + (((frP (sm z0) (sm z1) (- (4 : Int)) 2)).1).1) - (((frP (sm z0) (sm z1) (- (4 : Int)) 2)).1).2) + (((frP (sm z0) (sm z1) (- (4 : Int)) 3)).1).2) - (((frP (sm z0) (sm z1) (- (4 : Int)) 4)).1).1) + (((frP (sm z0) (sm z1) (- (4 : Int)) 5)).1).1) - (((frP (sm z0) (sm z1) (- (4 : Int)) 5)).1).2) == (0 : Int)) true))) = false)
theorem ltb152_ok (z0 : Int) (z1 : Int) : ltb152 z0 z1 := by
  unfold ltb152
  have s0 := sm_bd z0
  have s1 := sm_bd z1
  first
    | rfl
    | decide
    | (simp; omega)
    | (first | omega | (and_intros <;> omega))
    | ((try simp (disch := omega) only [wi, Int.reduceAdd, Int.reduceSub, Int.reduceNeg, Int.reduceMul]); (try simp only [fq_1_0, fq_1_1, fq_1_2, fq_1_3, fq_1_4, fq_1_5, fq_0_0, fq_0_1, fq_0_2, fq_0_3, fq_0_4, fq_0_5, fq_m1_0, fq_m1_1, fq_m1_2, fq_m1_3, fq_m1_4, fq_m1_5, fq_m2_0, fq_m2_1, fq_m2_2, fq_m2_3, fq_m2_4, fq_m2_5, fq_m3_0, fq_m3_1, fq_m3_2, fq_m3_3, fq_m3_4, fq_m3_5, fq_m4_0, fq_m4_1, fq_m4_2, fq_m4_3, fq_m4_4, fq_m4_5, fq_m5_0, fq_m5_1, fq_m5_2, fq_m5_3, fq_m5_4, fq_m5_5]); (try simp only [tw0, tw1, tw2, tw3, tw4, tw5, twm1, twm2, twm3, twm4, twm5]); (try simp only [Bool.not_eq_false', Bool.and_eq_true, beq_iff_eq, and_true]); (try simp (disch := omega) only [wi, Int.reduceAdd, Int.reduceSub, Int.reduceNeg, Int.reduceMul]); and_intros <;> omega)
def ltb153 : Prop := (((IntKind.i64.wrap ((IntKind.i64.wrap ((IntKind.i64.wrap ((0 : Int) + (1 : Int))) + (1 : Int))) + (1 : Int))) == (4 : Int)) = false)
theorem ltb153_ok : ltb153 := by
  unfold ltb153
  first
    | rfl
    | decide
    | (simp; omega)
    | (first | omega | (and_intros <;> omega))
    | ((try simp (disch := omega) only [wi, Int.reduceAdd, Int.reduceSub, Int.reduceNeg, Int.reduceMul]); (try simp only [Bool.not_eq_false', Bool.and_eq_true, beq_iff_eq, and_true]); (try simp (disch := omega) only [wi, Int.reduceAdd, Int.reduceSub, Int.reduceNeg, Int.reduceMul]); and_intros <;> omega)
def ltb154 (z0 : Int) (z1 : Int) : Prop := ((Bool.not (Bool.and (((((((((frP (sm z0) (sm z1) (- (4 : Int)) (0 : Nat))).1).1 - (((frP (sm z0) (sm z1) (- (4 : Int)) 1)).1).1) + (((frP (sm z0) (sm z1) (- (4 : Int)) 2)).1).1) - (((frP (sm z0) (sm z1) (- (4 : Int)) 3)).1).1) + (((frP (sm z0) (sm z1) (- (4 : Int)) 4)).1).1) - (((frP (sm z0) (sm z1) (- (4 : Int)) 5)).1).1) == (0 : Int)) (Bool.and (((((((((frP (sm z0) (sm z1) (- (4 : Int)) (0 : Nat))).1).2 - (((frP (sm z0) (sm z1) (- (4 : Int)) 1)).1).2) + (((frP (sm z0) (sm z1) (- (4 : Int)) 2)).1).2) - (((frP (sm z0) (sm z1) (- (4 : Int)) 3)).1).2) + (((frP (sm z0) (sm z1) (- (4 : Int)) 4)).1).2) - (((frP (sm z0) (sm z1) (- (4 : Int)) 5)).1).2) == (0 : Int)) true))) = false)
theorem ltb154_ok (z0 : Int) (z1 : Int) : ltb154 z0 z1 := by
  unfold ltb154
  have s0 := sm_bd z0
  have s1 := sm_bd z1
  first
    | rfl
    | decide
    | (simp; omega)
    | (first | omega | (and_intros <;> omega))
    | ((try simp (disch := omega) only [wi, Int.reduceAdd, Int.reduceSub, Int.reduceNeg, Int.reduceMul]); (try simp only [fq_1_0, fq_1_1, fq_1_2, fq_1_3, fq_1_4, fq_1_5, fq_0_0, fq_0_1, fq_0_2, fq_0_3, fq_0_4, fq_0_5, fq_m1_0, fq_m1_1, fq_m1_2, fq_m1_3, fq_m1_4, fq_m1_5, fq_m2_0, fq_m2_1, fq_m2_2, fq_m2_3, fq_m2_4, fq_m2_5, fq_m3_0, fq_m3_1, fq_m3_2, fq_m3_3, fq_m3_4, fq_m3_5, fq_m4_0, fq_m4_1, fq_m4_2, fq_m4_3, fq_m4_4, fq_m4_5, fq_m5_0, fq_m5_1, fq_m5_2, fq_m5_3, fq_m5_4, fq_m5_5]); (try simp only [tw0, tw1, tw2, tw3, tw4, tw5, twm1, twm2, twm3, twm4, twm5]); (try simp only [Bool.not_eq_false', Bool.and_eq_true, beq_iff_eq, and_true]); (try simp (disch := omega) only [wi, Int.reduceAdd, Int.reduceSub, Int.reduceNeg, Int.reduceMul]); and_intros <;> omega)
def ltb155 : Prop := (((IntKind.i64.wrap ((IntKind.i64.wrap ((IntKind.i64.wrap ((IntKind.i64.wrap ((0 : Int) + (1 : Int))) + (1 : Int))) + (1 : Int))) + (1 : Int))) == (4 : Int)) = true)
theorem ltb155_ok : ltb155 := by
  unfold ltb155
  first
    | rfl
    | decide
    | (simp; omega)
    | (first | omega | (and_intros <;> omega))
    | ((try simp (disch := omega) only [wi, Int.reduceAdd, Int.reduceSub, Int.reduceNeg, Int.reduceMul]); (try simp only [Bool.not_eq_false', Bool.and_eq_true, beq_iff_eq, and_true]); (try simp (disch := omega) only [wi, Int.reduceAdd, Int.reduceSub, Int.reduceNeg, Int.reduceMul]); and_intros <;> omega)
def ltb156 (z0 : Int) (z1 : Int) : Prop := ((Bool.not (Bool.and (((((((((((frP (sm z0) (sm z1) (- (4 : Int)) (0 : Nat))).1).1 - (((frP (sm z0) (sm z1) (- (4 : Int)) 1)).1).2) - (((frP (sm z0) (sm z1) (- (4 : Int)) 2)).1).1) + (((frP (sm z0) (sm z1) (- (4 : Int)) 2)).1).2) + (((frP (sm z0) (sm z1) (- (4 : Int)) 3)).1).1) - (((frP (sm z0) (sm z1) (- (4 : Int)) 4)).1).2) - (((frP (sm z0) (sm z1) (- (4 : Int)) 5)).1).1) + (((frP (sm z0) (sm z1) (- (4 : Int)) 5)).1).2) == (IntKind.i64.wrap ((6 : Int) * (sm z0)))) (Bool.and (((((((((((frP (sm z0) (sm z1) (- (4 : Int)) (0 : Nat))).1).2 + (((frP (sm z0) (sm z1) (- (4 : Int)) 1)).1).1) - (((frP (sm z0) (sm z1) (- (4 : Int)) 1)).1).2) - (((frP (sm z0) (sm z1) (- (4 : Int)) 2)).1).1) + (((frP (sm z0) (sm z1) (- (4 : Int)) 3)).1).2) + (((frP (sm z0) (sm z1) (- (4 : Int)) 4)).1).1) - (((frP (sm z0) (sm z1) (- (4 : Int)) 4)).1).2) - (((frP (sm z0) (sm z1) (- (4 : Int)) 5)).1).1) == (IntKind.i64.wrap ((6 : Int) * (sm z1)))) true))) = false)
theorem ltb156_ok (z0 : Int) (z1 : Int) : ltb156 z0 z1 := by
  unfold ltb156
  have s0 := sm_bd z0
  have s1 := sm_bd z1
  first
    | rfl
    | decide
    | (simp; omega)
    | (first | omega | (and_intros <;> omega))
    | ((try simp (disch := omega) only [wi, Int.reduceAdd, Int.reduceSub, Int.reduceNeg, Int.reduceMul]); (try simp only [fq_1_0, fq_1_1, fq_1_2, fq_1_3, fq_1_4, fq_1_5, fq_0_0, fq_0_1, fq_0_2, fq_0_3, fq_0_4, fq_0_5, fq_m1_0, fq_m1_1, fq_m1_2, fq_m1_3, fq_m1_4, fq_m1_5, fq_m2_0, fq_m2_1, fq_m2_2, fq_m2_3, fq_m2_4, fq_m2_5, fq_m3_0, fq_m3_1, fq_m3_2, fq_m3_3, fq_m3_4, fq_m3_5, fq_m4_0, fq_m4_1, fq_m4_2, fq_m4_3, fq_m4_4, fq_m4_5, fq_m5_0, fq_m5_1, fq_m5_2, fq_m5_3, fq_m5_4, fq_m5_5]); (try simp only [tw0, tw1, tw2, tw3, tw4, tw5, twm1, twm2, twm3, twm4, twm5]); (try simp only [Bool.not_eq_false', Bool.and_eq_true, beq_iff_eq, and_true]); (try simp (disch := omega) only [wi, Int.reduceAdd, Int.reduceSub, Int.reduceNeg, Int.reduceMul]); and_intros <;> omega)
def ltb157 : Prop := (((IntKind.i64.wrap ((IntKind.i64.wrap ((IntKind.i64.wrap ((IntKind.i64.wrap ((IntKind.i64.wrap ((0 : Int) + (1 : Int))) + (1 : Int))) + (1 : Int))) + (1 : Int))) + (1 : Int))) == (4 : Int)) = false)
theorem ltb157_ok : ltb157 := by
  unfold ltb157
  first
    | rfl
    | decide
    | (simp; omega)
    | (first | omega | (and_intros <;> omega))
    | ((try simp (disch := omega) only [wi, Int.reduceAdd, Int.reduceSub, Int.reduceNeg, Int.reduceMul]); (try simp only [Bool.not_eq_false', Bool.and_eq_true, beq_iff_eq, and_true]); (try simp (disch := omega) only [wi, Int.reduceAdd, Int.reduceSub, Int.reduceNeg, Int.reduceMul]); and_intros <;> omega)
def ltb158 (z0 : Int) (z1 : Int) : Prop := ((Bool.not (Bool.and (((((((((((frP (sm z0) (sm z1) (- (4 : Int)) (0 : Nat))).1).1 + (((frP (sm z0) (sm z1) (- (4 : Int)) 1)).1).1) - (((frP (sm z0) (sm z1) (- (4 : Int)) 1)).1).2) - (((frP (sm z0) (sm z1) (- (4 : Int)) 2)).1).2) - (((frP (sm z0) (sm z1) (- (4 : Int)) 3)).1).1) - (((frP (sm z0) (sm z1) (- (4 : Int)) 4)).1).1) + (((frP (sm z0) (sm z1) (- (4 : Int)) 4)).1).2) + (((frP (sm z0) (sm z1) (- (4 : Int)) 5)).1).2) == (0 : Int)) (Bool.and (((((((((((frP (sm z0) (sm z1) (- (4 : Int)) (0 : Nat))).1).2 + (((frP (sm z0) (sm z1) (- (4 : Int)) 1)).1).1) + (((frP (sm z0) (sm z1) (- (4 : Int)) 2)).1).1) - (((frP (sm z0) (sm z1) (- (4 : Int)) 2)).1).2) - (((frP (sm z0) (sm z1) (- (4 : Int)) 3)).1).2) - (((frP (sm z0) (sm z1) (- (4 : Int)) 4)).1).1) - (((frP (sm z0) (sm z1) (- (4 : Int)) 5)).1).1) + (((frP (sm z0) (sm z1) (- (4 : Int)) 5)).1).2) == (0 : Int)) true))) = false)
theorem ltb158_ok (z0 : Int) (z1 : Int) : ltb158 z0 z1 := by
  unfold ltb158
  have s0 := sm_bd z0
  have s1 := sm_bd z1
  first
    | rfl
    | decide
    | (simp; omega)
    | (first | omega | (and_intros <;> omega))
    | ((try simp (disch := omega) only [wi, Int.reduceAdd, Int.reduceSub, Int.reduceNeg, Int.reduceMul]); (try simp only [fq_1_0, fq_1_1, fq_1_2, fq_1_3, fq_1_4, fq_1_5, fq_0_0, fq_0_1, fq_0_2, fq_0_3, fq_0_4, fq_0_5, fq_m1_0, fq_m1_1, fq_m1_2, fq_m1_3, fq_m1_4, fq_m1_5, fq_m2_0, fq_m2_1, fq_m2_2, fq_m2_3, fq_m2_4, fq_m2_5, fq_m3_0, fq_m3_1, fq_m3_2, fq_m3_3, fq_m3_4, fq_m3_5, fq_m4_0, fq_m4_1, fq_m4_2, fq_m4_3, fq_m4_4, fq_m4_5, fq_m5_0, fq_m5_1, fq_m5_2, fq_m5_3, fq_m5_4, fq_m5_5]); (try simp only [tw0, tw1, tw2, tw3, tw4, tw5, twm1, twm2, twm3, twm4, twm5]); (try simp only [Bool.not_eq_false', Bool.and_eq_true, beq_iff_eq, and_true]); (try simp (disch := omega) only [wi, Int.reduceAdd, Int.reduceSub, Int.reduceNeg, Int.reduceMul]); and_intros <;> omega)
def ltb159 (k : Int) : Prop := (((.int .i64 (Int.tmod ((Int.tmod k (6 : Nat)) + (6 : Int)) (6 : Int))) : Value) = (.int .i64 (5 : Int)))
theorem ltb159_ok (k : Int) (hk : -128 ≤ k ∧ k ≤ 127) (hc : (k.tmod 6 + 6).tmod 6 = 5) : ltb159 k := by
  unfold ltb159
  exact congrArg (Value.int .i64) hc
def ltb160 : Prop := (((.int .i64 (IntKind.i64.wrap ((0 : Int) - (5 : Int)))) : Value) = (.int .i64 (- (5 : Int))))
theorem ltb160_ok : ltb160 := by
  unfold ltb160
  first | rfl | (refine congrArg (Value.int .i64) ?_; first | rfl | (rw [wi _ (by omega)]; done) | (rw [wi _ (by omega)]; omega) | omega)
def ltb161 (z0 : Int) (z1 : Int) : Prop := ((∀ (i : Nat), ((i < (6 : Nat)) → (((ltV (gL ((sm z0) :: ((sm z1) :: ((sm z0) :: ((sm z1) :: ((sm z0) :: ((sm z1) :: ((sm z0) :: ((sm z1) :: ((sm z0) :: ((sm z1) :: ((sm z0) :: ((sm z1) :: [])))))))))))) i (0 : Nat)) (gL ((sm z0) :: ((sm z1) :: ((sm z0) :: ((sm z1) :: ((sm z0) :: ((sm z1) :: ((sm z0) :: ((sm z1) :: ((sm z0) :: ((sm z1) :: ((sm z0) :: ((sm z1) :: [])))))))))))) i (1 : Nat))) = (0 : Int)) → (Bg (1099511627776 : Int) (gL ((sm z0) :: ((sm z1) :: ((sm z0) :: ((sm z1) :: ((sm z0) :: ((sm z1) :: ((sm z0) :: ((sm z1) :: ((sm z0) :: ((sm z1) :: ((sm z0) :: ((sm z1) :: [])))))))))))) i (0 : Nat)) (gL ((sm z0) :: ((sm z1) :: ((sm z0) :: ((sm z1) :: ((sm z0) :: ((sm z1) :: ((sm z0) :: ((sm z1) :: ((sm z0) :: ((sm z1) :: ((sm z0) :: ((sm z1) :: [])))))))))))) i (1 : Nat)))))) ∧ ((frErr ltV (6 : Nat) (gL ((sm z0) :: ((sm z1) :: ((sm z0) :: ((sm z1) :: ((sm z0) :: ((sm z1) :: ((sm z0) :: ((sm z1) :: ((sm z0) :: ((sm z1) :: ((sm z0) :: ((sm z1) :: []))))))))))))) (- (5 : Int))) = (Int.ofNat 0)))
theorem ltb161_ok (z0 : Int) (z1 : Int) : ltb161 z0 z1 := by
  unfold ltb161
  exact fr_six ⟨by decide, by decide⟩ (six_in ⟨sm_in _, sm_in _⟩ ⟨sm_in _, sm_in _⟩ ⟨sm_in _, sm_in _⟩ ⟨sm_in _, sm_in _⟩ ⟨sm_in _, sm_in _⟩ ⟨sm_in _, sm_in _⟩)
def ltb162 (z0 : Int) (z1 : Int) : Prop := ((((- (65536 : Int)) ≤ (((frP (sm z0) (sm z1) (- (5 : Int)) (0 : Nat))).1).1) ∧ ((((frP (sm z0) (sm z1) (- (5 : Int)) (0 : Nat))).1).1 ≤ (65536 : Int))) ∧ ((((- (65536 : Int)) ≤ (((frP (sm z0) (sm z1) (- (5 : Int)) (0 : Nat))).1).2) ∧ ((((frP (sm z0) (sm z1) (- (5 : Int)) (0 : Nat))).1).2 ≤ (65536 : Int))) ∧ ((((- (65536 : Int)) ≤ (((frP (sm z0) (sm z1) (- (5 : Int)) 1)).1).1) ∧ ((((frP (sm z0) (sm z1) (- (5 : Int)) 1)).1).1 ≤ (65536 : Int))) ∧ ((((- (65536 : Int)) ≤ (((frP (sm z0) (sm z1) (- (5 : Int)) 1)).1).2) ∧ ((((frP (sm z0) (sm z1) (- (5 : Int)) 1)).1).2 ≤ (65536 : Int))) ∧ ((((- (65536 : Int)) ≤ (((frP (sm z0) (sm z1) (- (5 : Int)) 2)).1).1) ∧ ((((frP (sm z0) (sm z1) (- (5 : Int)) 2)).1).1 ≤ (65536 : Int))) ∧ ((((- (65536 : Int)) ≤ (((frP (sm z0) (sm z1) (- (5 : Int)) 2)).1).2) ∧ ((((frP (sm z0) (sm z1) (- (5 : Int)) 2)).1).2 ≤ (65536 : Int))) ∧ ((((- (65536 : Int)) ≤ (((frP (sm z0) (sm z1) (- (5 : Int)) 3)).1).1) ∧ ((((frP (sm z0) (sm z1) (- (5 : Int)) 3)).1).1 ≤ (65536 : Int))) ∧ ((((- (65536 : Int)) ≤ (((frP (sm z0) (sm z1) (- (5 : Int)) 3)).1).2) ∧ ((((frP (sm z0) (sm z1) (- (5 : Int)) 3)).1).2 ≤ (65536 : Int))) ∧ ((((- (65536 : Int)) ≤ (((frP (sm z0) (sm z1) (- (5 : Int)) 4)).1).1) ∧ ((((frP (sm z0) (sm z1) (- (5 : Int)) 4)).1).1 ≤ (65536 : Int))) ∧ ((((- (65536 : Int)) ≤ (((frP (sm z0) (sm z1) (- (5 : Int)) 4)).1).2) ∧ ((((frP (sm z0) (sm z1) (- (5 : Int)) 4)).1).2 ≤ (65536 : Int))) ∧ ((((- (65536 : Int)) ≤ (((frP (sm z0) (sm z1) (- (5 : Int)) 5)).1).1) ∧ ((((frP (sm z0) (sm z1) (- (5 : Int)) 5)).1).1 ≤ (65536 : Int))) ∧ (((- (65536 : Int)) ≤ (((frP (sm z0) (sm z1) (- (5 : Int)) 5)).1).2) ∧ ((((frP (sm z0) (sm z1) (- (5 : Int)) 5)).1).2 ≤ (65536 : Int))))))))))))))
theorem ltb162_ok (z0 : Int) (z1 : Int) : ltb162 z0 z1 := by
  unfold ltb162
  have s0 := sm_bd z0
  have s1 := sm_bd z1
  first
    | rfl
    | decide
    | (simp; omega)
    | (first | omega | (and_intros <;> omega))
    | ((try simp (disch := omega) only [wi, Int.reduceAdd, Int.reduceSub, Int.reduceNeg, Int.reduceMul]); (try simp only [fq_1_0, fq_1_1, fq_1_2, fq_1_3, fq_1_4, fq_1_5, fq_0_0, fq_0_1, fq_0_2, fq_0_3, fq_0_4, fq_0_5, fq_m1_0, fq_m1_1, fq_m1_2, fq_m1_3, fq_m1_4, fq_m1_5, fq_m2_0, fq_m2_1, fq_m2_2, fq_m2_3, fq_m2_4, fq_m2_5, fq_m3_0, fq_m3_1, fq_m3_2, fq_m3_3, fq_m3_4, fq_m3_5, fq_m4_0, fq_m4_1, fq_m4_2, fq_m4_3, fq_m4_4, fq_m4_5, fq_m5_0, fq_m5_1, fq_m5_2, fq_m5_3, fq_m5_4, fq_m5_5]); (try simp only [tw0, tw1, tw2, tw3, tw4, tw5, twm1, twm2, twm3, twm4, twm5]); (try simp only [Bool.not_eq_false', Bool.and_eq_true, beq_iff_eq, and_true]); (try simp (disch := omega) only [wi, Int.reduceAdd, Int.reduceSub, Int.reduceNeg, Int.reduceMul]); and_intros <;> omega)
def ltb163 : Prop := (((0 : Int) == (5 : Int)) = false)
theorem ltb163_ok : ltb163 := by
  unfold ltb163
  first
    | rfl
    | decide
    | (simp; omega)
    | (first | omega | (and_intros <;> omega))
    | ((try simp (disch := omega) only [wi, Int.reduceAdd, Int.reduceSub, Int.reduceNeg, Int.reduceMul]); (try simp only [Bool.not_eq_false', Bool.and_eq_true, beq_iff_eq, and_true]); (try simp (disch := omega) only [wi, Int.reduceAdd, Int.reduceSub, Int.reduceNeg, Int.reduceMul]); and_intros <;> omega)
def ltb164 (z0 : Int) (z1 : Int) : Prop := ((Bool.not (Bool.and (((((((((frP (sm z0) (sm z1) (- (5 : Int)) (0 : Nat))).1).1 + (((frP (sm z0) (sm z1) (- (5 : Int)) 1)).1).1) + (((frP (sm z0) (sm z1) (- (5 : Int)) 2)).1).1) + (((frP (sm z0) (sm z1) (- (5 : Int)) 3)).1).1) + (((frP (sm z0) (sm z1) (- (5 : Int)) 4)).1).1) + (((frP (sm z0) (sm z1) (- (5 : Int)) 5)).1).1) == (0 : Int)) (Bool.and (((((((((frP (sm z0) (sm z1) (- (5 : Int)) (0 : Nat))).1).2 + (((frP (sm z0) (sm z1) (- (5 : Int)) 1)).1).2) + (((frP (sm z0) (sm z1) (- (5 : Int)) 2)).1).2) + (((frP (sm z0) (sm z1) (- (5 : Int)) 3)).1).2) + (((frP (sm z0) (sm z1) (- (5 : Int)) 4)).1).2) + (((frP (sm z0) (sm z1) (- (5 : Int)) 5)).1).2) == (0 : Int)) true))) = false)
theorem ltb164_ok (z0 : Int) (z1 : Int) : ltb164 z0 z1 := by
  unfold ltb164
  have s0 := sm_bd z0
  have s1 := sm_bd z1
  first
    | rfl
    | decide
    | (simp; omega)
    | (first | omega | (and_intros <;> omega))
    | ((try simp (disch := omega) only [wi, Int.reduceAdd, Int.reduceSub, Int.reduceNeg, Int.reduceMul]); (try simp only [fq_1_0, fq_1_1, fq_1_2, fq_1_3, fq_1_4, fq_1_5, fq_0_0, fq_0_1, fq_0_2, fq_0_3, fq_0_4, fq_0_5, fq_m1_0, fq_m1_1, fq_m1_2, fq_m1_3, fq_m1_4, fq_m1_5, fq_m2_0, fq_m2_1, fq_m2_2, fq_m2_3, fq_m2_4, fq_m2_5, fq_m3_0, fq_m3_1, fq_m3_2, fq_m3_3, fq_m3_4, fq_m3_5, fq_m4_0, fq_m4_1, fq_m4_2, fq_m4_3, fq_m4_4, fq_m4_5, fq_m5_0, fq_m5_1, fq_m5_2, fq_m5_3, fq_m5_4, fq_m5_5]); (try simp only [tw0, tw1, tw2, tw3, tw4, tw5, twm1, twm2, twm3, twm4, twm5]); (try simp only [Bool.not_eq_false', Bool.and_eq_true, beq_iff_eq, and_true]); (try simp (disch := omega) only [wi, Int.reduceAdd, Int.reduceSub, Int.reduceNeg, Int.reduceMul]); and_intros <;> omega)
def ltb165 : Prop := (((IntKind.i64.wrap ((0 : Int) + (1 : Int))) == (5 : Int)) = false)
theorem ltb165_ok : ltb165 := by
  unfold ltb165
  first
    | rfl
    | decide
    | (simp; omega)
    | (first | omega | (and_intros <;> omega))
    | ((try simp (disch := omega) only [wi, Int.reduceAdd, Int.reduceSub, Int.reduceNeg, Int.reduceMul]); (try simp only [Bool.not_eq_false', Bool.and_eq_true, beq_iff_eq, and_true]); (try simp (disch := omega) only [wi, Int.reduceAdd, Int.reduceSub, Int.reduceNeg, Int.reduceMul]); and_intros <;> omega)
def ltb166 (z0 : Int) (z1 : Int) : Prop := ((Bool.not (Bool.and (((((((((((frP (sm z0) (sm z1) (- (5 : Int)) (0 : Nat))).1).1 + (((frP (sm z0) (sm z1) (- (5 : Int)) 1)).1).2) - (((frP (sm z0) (sm z1) (- (5 : Int)) 2)).1).1) + (((frP (sm z0) (sm z1) (- (5 : Int)) 2)).1).2) - (((frP (sm z0) (sm z1) (- (5 : Int)) 3)).1).1) - (((frP (sm z0) (sm z1) (- (5 : Int)) 4)).1).2) + (((frP (sm z0) (sm z1) (- (5 : Int)) 5)).1).1) - (((frP (sm z0) (sm z1) (- (5 : Int)) 5)).1).2) == (0 : Int)) (Bool.and (((((((((((frP (sm z0) (sm z1) (- (5 : Int)) (0 : Nat))).1).2 - (((frP (sm z0) (sm z1) (- (5 : Int)) 1)).1).1) + (((frP (sm z0) (sm z1) (- (5 : Int)) 1)).1).2) - (((frP (sm z0) (sm z1) (- (5 : Int)) 2)).1).1) - (((frP (sm z0) (sm z1) (- (5 : Int)) 3)).1).2) + (((frP (sm z0) (sm z1) (- (5 : Int)) 4)).1).1) - (((frP (sm z0) (sm z1) (- (5 : Int)) 4)).1).2) + (((frP (sm z0) (sm z1) (- (5 : Int)) 5)).1).1) == (0 : Int)) true))) = false)
theorem ltb166_ok (z0 : Int) (z1 : Int) : ltb166 z0 z1 := by
  unfold ltb166
  have s0 := sm_bd z0
  have s1 := sm_bd z1
  first
    | rfl
    | decide
    | (simp; omega)
    | (first | omega | (and_intros <;> omega))
    | ((try simp (disch := omega) only [wi, Int.reduceAdd, Int.reduceSub, Int.reduceNeg, Int.reduceMul]); (try simp only [fq_1_0, fq_1_1, fq_1_2, fq_1_3, fq_1_4, fq_1_5, fq_0_0, fq_0_1, fq_0_2, fq_0_3, fq_0_4, fq_0_5, fq_m1_0, fq_m1_1, fq_m1_2, fq_m1_3, fq_m1_4, fq_m1_5, fq_m2_0, fq_m2_1, fq_m2_2, fq_m2_3, fq_m2_4, fq_m2_5, fq_m3_0, fq_m3_1, fq_m3_2, fq_m3_3, fq_m3_4, fq_m3_5, fq_m4_0, fq_m4_1, fq_m4_2, fq_m4_3, fq_m4_4, fq_m4_5, fq_m5_0, fq_m5_1, fq_m5_2, fq_m5_3, fq_m5_4, fq_m5_5]); (try simp only [tw0, tw1, tw2, tw3, tw4, tw5, twm1, twm2, twm3, twm4, twm5]); (try simp only [Bool.not_eq_false', Bool.and_eq_true, beq_iff_eq, and_true]); (try simp (disch := omega) only [wi, Int.reduceAdd, Int.reduceSub, Int.reduceNeg, Int.reduceMul]); and_intros <;> omega)
def ltb167 : Prop := (((IntKind.i64.wrap ((IntKind.i64.wrap ((0 : Int) + (1 : Int))) + (1 : Int))) == (5 : Int)) = false)
theorem ltb167_ok : ltb167 := by
  unfold ltb167
  first
    | rfl
    | decide
    | (simp; omega)
    | (first | omega | (and_intros <;> omega))
    | ((try simp (disch := omega) only [wi, Int.reduceAdd, Int.reduceSub, Int.reduceNeg, Int.reduceMul]); (try simp only [Bool.not_eq_false', Bool.and_eq_true, beq_iff_eq, and_true]); (try simp (disch := omega) only [wi, Int.reduceAdd, Int.reduceSub, Int.reduceNeg, Int.reduceMul]); and_intros <;> omega)
def ltb168 (z0 : Int) (z1 : Int) : Prop := ((Bool.not (Bool.and (((((((((((frP (sm z0) (sm z1) (- (5 : Int)) (0 : Nat))).1).1 - (((frP (sm z0) (sm z1) (- (5 : Int)) 1)).1).1) + (((frP (sm z0) (sm z1) (- (5 : Int)) 1)).1).2) - (((frP (sm z0) (sm z1) (- (5 : Int)) 2)).1).2) + (((frP (sm z0) (sm z1) (- (5 : Int)) 3)).1).1) - (((frP (sm z0) (sm z1) (- (5 : Int)) 4)).1).1) + (((frP (sm z0) (sm z1) (- (5 : Int)) 4)).1).2) - (((frP (sm z0) (sm z1) (- (5 : Int)) 5)).1).2) == (0 : Int)) (Bool.and (((((((((((frP (sm z0) (sm z1) (- (5 : Int)) (0 : Nat))).1).2 - (((frP (sm z0) (sm z1) (- (5 : Int)) 1)).1).1) + (((frP (sm z0) (sm z1) (- (5 : Int)) 2)).1).1) - (((frP (sm z0) (sm z1) (- (5 : Int)) 2)).1).2) + (((frP (sm z0) (sm z1) (- (5 : Int)) 3)).1).2) - (((frP (sm z0) (sm z1) (- (5 : Int)) 4)).1).1) + (((frP (sm z0) (sm z1) (- (5 : Int)) 5)).1).1) - (((frP (sm z0) (sm z1) (- (5 : Int)) 5)).1).2) == (0 : Int)) true))) = false)
theorem ltb168_ok (z0 : Int) (z1 : Int) : ltb168 z0 z1 := by
  unfold ltb168
  have s0 := sm_bd z0
  have s1 := sm_bd z1
  first
    | rfl
    | decide
    | (simp; omega)
    | (first | omega | (and_intros <;> omega))
    | ((try simp (disch := omega) only [wi, Int.reduceAdd, Int.reduceSub, Int.reduceNeg, Int.reduceMul]); (try simp only [fq_1_0, fq_1_1, fq_1_2, fq_1_3, fq_1_4, fq_1_5, fq_0_0, fq_0_1, fq_0_2, fq_0_3, fq_0_4, fq_0_5, fq_m1_0, fq_m1_1, fq_m1_2, fq_m1_3, fq_m1_4, fq_m1_5, fq_m2_0, fq_m2_1, fq_m2_2, fq_m2_3, fq_m2_4, fq_m2_5, fq_m3_0, fq_m3_1, fq_m3_2, fq_m3_3, fq_m3_4, fq_m3_5, fq_m4_0, fq_m4_1, fq_m4_2, fq_m4_3, fq_m4_4, fq_m4_5, fq_m5_0, fq_m5_1, fq_m5_2, fq_m5_3, fq_m5_4, fq_m5_5]); (try simp only [tw0, tw1, tw2, tw3, tw4, tw5, twm1, twm2, twm3, twm4, twm5]); (try simp only [Bool.not_eq_false', Bool.and_eq_true, beq_iff_eq, and_true]); (try simp (disch := omega) only [wi, Int.reduceAdd, Int.reduceSub, Int.reduceNeg, Int.reduceMul]); and_intros <;> omega)
def ltb169 : Prop := (((IntKind.i64.wrap ((IntKind.i64.wrap ((IntKind.i64.wrap ((0 : Int) + (1 : Int))) + (1 : Int))) + (1 : Int))) == (5 : Int)) = false)
theorem ltb169_ok : ltb169 := by
  unfold ltb169
  first
    | rfl
    | decide
    | (simp; omega)
    | (first | omega | (and_intros <;> omega))
    | ((try simp (disch := omega) only [wi, Int.reduceAdd, Int.reduceSub, Int.reduceNeg, Int.reduceMul]); (try simp only [Bool.not_eq_false', Bool.and_eq_true, beq_iff_eq, and_true]); (try simp (disch := omega) only [wi, Int.reduceAdd, Int.reduceSub, Int.reduceNeg, Int.reduceMul]); and_intros <;> omega)
def ltb170 (z0 : Int) (z1 : Int) : Prop := ((Bool.not (Bool.and (((((((((frP (sm z0) (sm z1) (- (5 : Int)) (0 : Nat))).1).1 - (((frP (sm z0) (sm z1) (- (5 : Int)) 1)).1).1) + (((frP (sm z0) (sm z1) (- (5 : Int)) 2)).1).1) - (((frP (sm z0) (sm z1) (- (5 : Int)) 3)).1).1) + (((frP (sm z0) (sm z1) (- (5 : Int)) 4)).1).1) - (((frP (sm z0) (sm z1) (- (5 : Int)) 5)).1).1) == (0 : Int)) (Bool.and (((((((((frP (sm z0) (sm z1) (- (5 : Int)) (0 : Nat))).1).2 - (((frP (sm z0) (sm z1) (- (5 : Int)) 1)).1).2) + (((frP (sm z0) (sm z1) (- (5 : Int)) 2)).1).2) - (((frP (sm z0) (sm z1) (- (5 : Int)) 3)).1).2) + (((frP (sm z0) (sm z1) (- (5 : Int)) 4)).1).2) - (((frP (sm z0) (sm z1) (- (5 : Int)) 5)).1).2) == (0 : Int)) true))) = false)
theorem ltb170_ok (z0 : Int) (z1 : Int) : ltb170 z0 z1 := by
  unfold ltb170
  have s0 := sm_bd z0
  have s1 := sm_bd z1
  first
    | rfl
    | decide
    | (simp; omega)
    | (first | omega | (and_intros <;> omega))
    | ((try simp (disch := omega) only [wi, Int.reduceAdd, Int.reduceSub, Int.reduceNeg, Int.reduceMul]); (try simp only [fq_1_0, fq_1_1, fq_1_2, fq_1_3, fq_1_4, fq_1_5, fq_0_0, fq_0_1, fq_0_2, fq_0_3, fq_0_4, fq_0_5, fq_m1_0, fq_m1_1, fq_m1_2, fq_m1_3, fq_m1_4, fq_m1_5, fq_m2_0, fq_m2_1, fq_m2_2, fq_m2_3, fq_m2_4, fq_m2_5, fq_m3_0, fq_m3_1, fq_m3_2, fq_m3_3, fq_m3_4, fq_m3_5, fq_m4_0, fq_m4_1, fq_m4_2, fq_m4_3, fq_m4_4, fq_m4_5, fq_m5_0, fq_m5_1, fq_m5_2, fq_m5_3, fq_m5_4, fq_m5_5]); (try simp only [tw0, tw1, tw2, tw3, tw4, tw5, twm1, twm2, twm3, twm4, twm5]); (try simp only [Bool.not_eq_false', Bool.and_eq_true, beq_iff_eq, and_true]); (try simp (disch := omega) only [wi, Int.reduceAdd, Int.reduceSub, Int.reduceNeg, Int.reduceMul]); and_intros <;> omega)
def ltb171 : Prop := (((IntKind.i64.wrap ((IntKind.i64.wrap ((IntKind.i64.wrap ((IntKind.i64.wrap ((0 : Int) + (1 : Int))) + (1 : Int))) + (1 : Int))) + (1 : Int))) == (5 : Int)) = false)
theorem ltb171_ok : ltb171 := by
  unfold ltb171
  first
    | rfl
    | decide
    | (simp; omega)
    | (first | omega | (and_intros <;> omega))
    | ((try simp (disch := omega) only [wi, Int.reduceAdd, Int.reduceSub, Int.reduceNeg, Int.reduceMul]); (try simp only [Bool.not_eq_false', Bool.and_eq_true, beq_iff_eq, and_true]); (try simp (disch := omega) only [wi, Int.reduceAdd, Int.reduceSub, Int.reduceNeg, Int.reduceMul]); and_intros <;> omega)
def ltb172 (z0 : Int) (z1 : Int) : Prop := ((Bool.not (Bool.and (((((((((((frP (sm z0) (sm z1) (- (5 : Int)) (0 : Nat))).1).1 - (((frP (sm z0) (sm z1) (- (5 : Int)) 1)).1).2) - (((frP (sm z0) (sm z1) (- (5 : Int)) 2)).1).1) + (((frP (sm z0) (sm z1) (- (5 : Int)) 2)).1).2) + (((frP (sm z0) (sm z1) (- (5 : Int)) 3)).1).1) - (((frP (sm z0) (sm z1) (- (5 : Int)) 4)).1).2) - (((frP (sm z0) (sm z1) (- (5 : Int)) 5)).1).1) + (((frP (sm z0) (sm z1) (- (5 : Int)) 5)).1).2) == (0 : Int)) (Bool.and (((((((((((frP (sm z0) (sm z1) (- (5 : Int)) (0 : Nat))).1).2 + (((frP (sm z0) (sm z1) (- (5 : Int)) 1)).1).1) - (((frP (sm z0) (sm z1) (- (5 : Int)) 1)).1).2) - (((frP (sm z0) (sm z1) (- (5 : Int)) 2)).1).1) + (((frP (sm z0) (sm z1) (- (5 : Int)) 3)).1).2) + (((frP (sm z0) (sm z1) (- (5 : Int)) 4)).1).1) - (((frP (sm z0) (sm z1) (- (5 : Int)) 4)).1).2) - (((frP (sm z0) (sm z1) (- (5 : Int)) 5)).1).1) == (0 : Int)) true))) = false)
theorem ltb172_ok (z0 : Int) (z1 : Int) : ltb172 z0 z1 := by
  unfold ltb172
  have s0 := sm_bd z0
  have s1 := sm_bd z1
  first
    | rfl
    | decide
    | (simp; omega)
    | (first | omega | (and_intros <;> omega))
    | ((try simp (disch := omega) only [wi, Int.reduceAdd, Int.reduceSub, Int.reduceNeg, Int.reduceMul]); (try simp only [fq_1_0, fq_1_1, fq_1_2, fq_1_3, fq_1_4, fq_1_5, fq_0_0, fq_0_1, fq_0_2, fq_0_3, fq_0_4, fq_0_5, fq_m1_0, fq_m1_1, fq_m1_2, fq_m1_3, fq_m1_4, fq_m1_5, fq_m2_0, fq_m2_1, fq_m2_2, fq_m2_3, fq_m2_4, fq_m2_5, fq_m3_0, fq_m3_1, fq_m3_2, fq_m3_3, fq_m3_4, fq_m3_5, fq_m4_0, fq_m4_1, fq_m4_2, fq_m4_3, fq_m4_4, fq_m4_5, fq_m5_0, fq_m5_1, fq_m5_2, fq_m5_3, fq_m5_4, fq_m5_5]); (try simp only [tw0, tw1, tw2, tw3, tw4, tw5, twm1, twm2, twm3, twm4, twm5]); (try simp only [Bool.not_eq_false', Bool.and_eq_true, beq_iff_eq, and_true]); (try simp (disch := omega) only [wi, Int.reduceAdd, Int.reduceSub, Int.reduceNeg, Int.reduceMul]); and_intros <;> omega)
def ltb173 : Prop := (((IntKind.i64.wrap ((IntKind.i64.wrap ((IntKind.i64.wrap ((IntKind.i64.wrap ((IntKind.i64.wrap ((0 : Int) + (1 : Int))) + (1 : Int))) + (1 : Int))) + (1 : Int))) + (1 : Int))) == (5 : Int)) = true)
theorem ltb173_ok : ltb173 := by
  unfold ltb173
  first
    | rfl
    | decide
    | (simp; omega)
    | (first | omega | (and_intros <;> omega))
    | ((try simp (disch := omega) only [wi, Int.reduceAdd, Int.reduceSub, Int.reduceNeg, Int.reduceMul]); (try simp only [Bool.not_eq_false', Bool.and_eq_true, beq_iff_eq, and_true]); (try simp (disch := omega) only [wi, Int.reduceAdd, Int.reduceSub, Int.reduceNeg, Int.reduceMul]); and_intros <;> omega)
def ltb174 (z0 : Int) (z1 : Int) : Prop := ((Bool.not (Bool.and (((((((((((frP (sm z0) (sm z1) (- (5 : Int)) (0 : Nat))).1).1 + (((frP (sm z0) (sm z1) (- (5 : Int)) 1)).1).1) - (((frP (sm z0) (sm z1) (- (5 : Int)) 1)).1).2) - (((frP (sm z0) (sm z1) (- (5 : Int)) 2)).1).2) - (((frP (sm z0) (sm z1) (- (5 : Int)) 3)).1).1) - (((frP (sm z0) (sm z1) (- (5 : Int)) 4)).1).1) + (((frP (sm z0) (sm z1) (- (5 : Int)) 4)).1).2) + (((frP (sm z0) (sm z1) (- (5 : Int)) 5)).1).2) == (IntKind.i64.wrap ((6 : Int) * (sm z0)))) (Bool.and (((((((((((frP (sm z0) (sm z1) (- (5 : Int)) (0 : Nat))).1).2 + (((frP (sm z0) (sm z1) (- (5 : Int)) 1)).1).1) + (((frP (sm z0) (sm z1) (- (5 : Int)) 2)).1).1) - (((frP (sm z0) (sm z1) (- (5 : Int)) 2)).1).2) - (((frP (sm z0) (sm z1) (- (5 : Int)) 3)).1).2) - (((frP (sm z0) (sm z1) (- (5 : Int)) 4)).1).1) - (((frP (sm z0) (sm z1) (- (5 : Int)) 5)).1).1) + (((frP (sm z0) (sm z1) (- (5 : Int)) 5)).1).2) == (IntKind.i64.wrap ((6 : Int) * (sm z1)))) true))) = false)
theorem ltb174_ok (z0 : Int) (z1 : Int) : ltb174 z0 z1 := by
  unfold ltb174
  have s0 := sm_bd z0
  have s1 := sm_bd z1
  first
    | rfl
    | decide
    | (simp; omega)
    | (first | omega | (and_intros <;> omega))
    | ((try simp (disch := omega) only [wi, Int.reduceAdd, Int.reduceSub, Int.reduceNeg, Int.reduceMul]); (try simp only [fq_1_0, fq_1_1, fq_1_2, fq_1_3, fq_1_4, fq_1_5, fq_0_0, fq_0_1, fq_0_2, fq_0_3, fq_0_4, fq_0_5, fq_m1_0, fq_m1_1, fq_m1_2, fq_m1_3, fq_m1_4, fq_m1_5, fq_m2_0, fq_m2_1, fq_m2_2, fq_m2_3, fq_m2_4, fq_m2_5, fq_m3_0, fq_m3_1, fq_m3_2, fq_m3_3, fq_m3_4, fq_m3_5, fq_m4_0, fq_m4_1, fq_m4_2, fq_m4_3, fq_m4_4, fq_m4_5, fq_m5_0, fq_m5_1, fq_m5_2, fq_m5_3, fq_m5_4, fq_m5_5]); (try simp only [tw0, tw1, tw2, tw3, tw4, tw5, twm1, twm2, twm3, twm4, twm5]); (try simp only [Bool.not_eq_false', Bool.and_eq_true, beq_iff_eq, and_true]); (try simp (disch := omega) only [wi, Int.reduceAdd, Int.reduceSub, Int.reduceNeg, Int.reduceMul]); and_intros <;> omega)
def ltb175 : Prop := ((decide ((((0 : Nat)) : Int) > (12 : Int))) = false)
theorem ltb175_ok : ltb175 := by
  unfold ltb175
  first
    | rfl
    | decide
    | (simp; omega)
    | (first | omega | (and_intros <;> omega))
    | ((try simp (disch := omega) only [wi, Int.reduceAdd, Int.reduceSub, Int.reduceNeg, Int.reduceMul]); (try simp only [Bool.not_eq_false', Bool.and_eq_true, beq_iff_eq, and_true]); (try simp (disch := omega) only [wi, Int.reduceAdd, Int.reduceSub, Int.reduceNeg, Int.reduceMul]); and_intros <;> omega)
def ltb176 : Prop := ((decide ((0 : Int) < (((0 : Nat)) : Int))) = false)
theorem ltb176_ok : ltb176 := by
  unfold ltb176
  first
    | rfl
    | decide
    | (simp; omega)
    | (first | omega | (and_intros <;> omega))
    | ((try simp (disch := omega) only [wi, Int.reduceAdd, Int.reduceSub, Int.reduceNeg, Int.reduceMul]); (try simp only [Bool.not_eq_false', Bool.and_eq_true, beq_iff_eq, and_true]); (try simp (disch := omega) only [wi, Int.reduceAdd, Int.reduceSub, Int.reduceNeg, Int.reduceMul]); and_intros <;> omega)
def ltb177 : Prop := (((.slice (some ⟨7, 0, none⟩) (0 : Nat) (0 : Nat)) : Value) = (.slice (some ⟨7, 0, none⟩) (0 : Nat) (0 : Nat)))
theorem ltb177_ok : ltb177 := by
  unfold ltb177
  first | rfl | (refine congrArg (Value.int .i64) ?_; first | rfl | (rw [wi _ (by omega)]; done) | (rw [wi _ (by omega)]; omega) | omega)
def ltb178 (k : Int) : Prop := (((0 = 0) ∧ (∀ (i : Nat), ((i < (0 : Nat)) → (∀ (j : Nat), ((j < (2 : Nat)) → ((List.getD [] ((i * 2) + j) undef) = (Value.int .i64 (gI (List.getD [] ((i * 2) + j) undef))))))))) ∧ ((∀ (i : Nat), ((i < (0 : Nat)) → (((ltV (gI (List.getD [] ((i * 2) + 0) undef)) (gI (List.getD [] ((i * 2) + 1) undef))) = (0 : Int)) → (Bg (1099511627776 : Int) (gI (List.getD [] ((i * 2) + 0) undef)) (gI (List.getD [] ((i * 2) + 1) undef)))))) ∧ ((frErr ltV (0 : Nat) (fun (i : Nat) => (fun (j : Nat) => (gI (List.getD [] ((i * 2) + j) undef)))) k) = (Int.ofNat 0))))
theorem ltb178_ok (k : Int) (hk : -128 ≤ k ∧ k ≤ 127) : ltb178 k := by
  unfold ltb178
  (repeat' (first | (exact fr_free (by omega) (kM hk).1 (fun a ha => absurd ha (Nat.not_lt_zero a)) (fun a ha => absurd ha (Nat.not_lt_zero a))) | (exact fr_free (by omega) (kM hk).2 (fun a ha => absurd ha (Nat.not_lt_zero a)) (fun a ha => absurd ha (Nat.not_lt_zero a))) | exact fun a ha => absurd ha (Nat.not_lt_zero a) | exact fun a ha _ => absurd ha (Nat.not_lt_zero a) | exact fun _ _ _ _ => rfl | apply And.intro | rfl | trivial | decide | omega))
def ltb179 : Prop := (((.slice (some ⟨9, 0, none⟩) (0 : Nat) (0 : Nat)) : Value) = (.slice (some ⟨9, 0, none⟩) (0 : Nat) (0 : Nat)))
theorem ltb179_ok : ltb179 := by
  unfold ltb179
  first | rfl | (refine congrArg (Value.int .i64) ?_; first | rfl | (rw [wi _ (by omega)]; done) | (rw [wi _ (by omega)]; omega) | omega)
def ltb180 (k : Int) : Prop := (((0 = 0) ∧ (∀ (i : Nat), ((i < (0 : Nat)) → (∀ (j : Nat), ((j < (2 : Nat)) → ((List.getD [] ((i * 2) + j) undef) = (Value.int .i64 (gI (List.getD [] ((i * 2) + j) undef))))))))) ∧ ((∀ (i : Nat), ((i < (0 : Nat)) → (((ltV (gI (List.getD [] ((i * 2) + 0) undef)) (gI (List.getD [] ((i * 2) + 1) undef))) = (0 : Int)) → (Bg (1099511627776 : Int) (gI (List.getD [] ((i * 2) + 0) undef)) (gI (List.getD [] ((i * 2) + 1) undef)))))) ∧ ((frErr ltV (0 : Nat) (fun (i : Nat) => (fun (j : Nat) => (gI (List.getD [] ((i * 2) + j) undef)))) (- k)) = (Int.ofNat 0))))
theorem ltb180_ok (k : Int) (hk : -128 ≤ k ∧ k ≤ 127) : ltb180 k := by
  unfold ltb180
  (repeat' (first | (exact fr_free (by omega) (kM hk).1 (fun a ha => absurd ha (Nat.not_lt_zero a)) (fun a ha => absurd ha (Nat.not_lt_zero a))) | (exact fr_free (by omega) (kM hk).2 (fun a ha => absurd ha (Nat.not_lt_zero a)) (fun a ha => absurd ha (Nat.not_lt_zero a))) | exact fun a ha => absurd ha (Nat.not_lt_zero a) | exact fun a ha _ => absurd ha (Nat.not_lt_zero a) | exact fun _ _ _ _ => rfl | apply And.intro | rfl | trivial | decide | omega))
def ltb181 : Prop := (((((0 : Nat)) : Int) != (((0 : Nat)) : Int)) = false)
theorem ltb181_ok : ltb181 := by
  unfold ltb181
  first
    | rfl
    | decide
    | (simp; omega)
    | (first | omega | (and_intros <;> omega))
    | ((try simp (disch := omega) only [wi, Int.reduceAdd, Int.reduceSub, Int.reduceNeg, Int.reduceMul]); (try simp only [Bool.not_eq_false', Bool.and_eq_true, beq_iff_eq, and_true]); (try simp (disch := omega) only [wi, Int.reduceAdd, Int.reduceSub, Int.reduceNeg, Int.reduceMul]); and_intros <;> omega)
def ltb182 : Prop := ((Bool.not true) = false)
theorem ltb182_ok : ltb182 := by
  unfold ltb182
  first
    | rfl
    | decide
    | (simp; omega)
    | (first | omega | (and_intros <;> omega))
    | ((try simp (disch := omega) only [wi, Int.reduceAdd, Int.reduceSub, Int.reduceNeg, Int.reduceMul]); (try simp only [Bool.not_eq_false', Bool.and_eq_true, beq_iff_eq, and_true]); (try simp (disch := omega) only [wi, Int.reduceAdd, Int.reduceSub, Int.reduceNeg, Int.reduceMul]); and_intros <;> omega)
def ltb183 : Prop := (((.slice (some ⟨8, 0, none⟩) (0 : Nat) (0 : Nat)) : Value) = (.slice (some ⟨8, 0, none⟩) (0 : Nat) (0 : Nat)))
theorem ltb183_ok : ltb183 := by
  unfold ltb183
  first | rfl | (refine congrArg (Value.int .i64) ?_; first | rfl | (rw [wi _ (by omega)]; done) | (rw [wi _ (by omega)]; omega) | omega)
def ltb184 : Prop := (((.slice (some ⟨10, 0, none⟩) (0 : Nat) (0 : Nat)) : Value) = (.slice (some ⟨10, 0, none⟩) (0 : Nat) (0 : Nat)))
theorem ltb184_ok : ltb184 := by
  unfold ltb184
  first | rfl | (refine congrArg (Value.int .i64) ?_; first | rfl | (rw [wi _ (by omega)]; done) | (rw [wi _ (by omega)]; omega) | omega)
end Go.Proofs.YtjpffbekhfkibaaGreatDoor
end
section
set_option linter.all false
set_option maxRecDepth 1000000
set_option maxHeartbeats 1000000
open Go.RowKit
namespace Go.Proofs.YtjpffbekhfkibaaGreatDoor
open Mini
def ltS1 (P : Prop) (z0 z1 z2 z3 z4 z5 z6 z7 z8 z9 z10 z11 k : Int) : Prop := ((((((((((((((((((((((((((((((((((((((((((((((((((((((((((((((((((((((((((((((((((((((((((((((((((((P ∧ ltb10) ∧ ltb11) ∧ ltb12) ∧ ltb13) ∧ ltb12) ∧ ltb13) ∧ ltb12) ∧ ltb14) ∧ ltb15) ∧ ltb11) ∧ ltb16) ∧ ltb13) ∧ ltb16) ∧ ltb13) ∧ ltb16) ∧ ltb17) ∧ ltb18) ∧ ltb11) ∧ ltb19) ∧ ltb13) ∧ ltb19) ∧ ltb13) ∧ ltb19) ∧ ltb20) ∧ ltb21) ∧ ltb11) ∧ ltb22) ∧ ltb13) ∧ ltb22) ∧ ltb13) ∧ ltb22) ∧ ltb23) ∧ ltb24) ∧ ltb11) ∧ ltb25) ∧ ltb13) ∧ ltb25) ∧ ltb13) ∧ ltb25) ∧ ltb26) ∧ ltb27) ∧ ltb11) ∧ ltb28) ∧ ltb13) ∧ ltb28) ∧ ltb13) ∧ ltb28) ∧ ltb29) ∧ ltb30) ∧ ltb31 z0 z1 z2 z3 z4 z5 z6 z7 z8 z9 z10 z11) ∧ ltb32 z0 z1 z2 z3 z4 z5 z6 z7 z8 z9 z10 z11) ∧ ltb33 z0 z1 z2 z3 z4 z5 z6 z7 z8 z9 z10 z11) ∧ ltb34) ∧ ltb34) ∧ ltb34) ∧ ltb34) ∧ ltb35) ∧ ltb35) ∧ ltb35) ∧ ltb35) ∧ ltb10) ∧ ltb12) ∧ ltb36 z0 z1) ∧ ltb5) ∧ ltb15) ∧ ltb16) ∧ ltb37 z2 z3) ∧ ltb5) ∧ ltb18) ∧ ltb19) ∧ ltb38 z4 z5) ∧ ltb5) ∧ ltb21) ∧ ltb22) ∧ ltb39 z6 z7) ∧ ltb5) ∧ ltb24) ∧ ltb25) ∧ ltb40 z8 z9) ∧ ltb5) ∧ ltb27) ∧ ltb28) ∧ ltb41 z10 z11) ∧ ltb5) ∧ ltb30) ∧ ltb35) ∧ ltb35) ∧ ltb5) ∧ ltb42 z0 z1 z2 z3 z4 z5 z6 z7 z8 z9 z10 z11) ∧ ltb43 z0 z1 z2 z3 z4 z5 z6 z7 z8 z9 z10 z11) ∧ ltb44) ∧ ltb44) ∧ ltb44) ∧ ltb44) ∧ ltb45 z0 z1 z2 z3 z4 z5 z6 z7 z8 z9 z10 z11) ∧ ltb3 k) ∧ ltb11) ∧ ltb46 k) ∧ ltb47 k) ∧ ltb11)
theorem ltS1_h {P : Prop} (h : P) (z0 z1 z2 z3 z4 z5 z6 z7 z8 z9 z10 z11 k : Int) (hk : -128 ≤ k ∧ k ≤ 127) : ltS1 P z0 z1 z2 z3 z4 z5 z6 z7 z8 z9 z10 z11 k := ⟨⟨⟨⟨⟨⟨⟨⟨⟨⟨⟨⟨⟨⟨⟨⟨⟨⟨⟨⟨⟨⟨⟨⟨⟨⟨⟨⟨⟨⟨⟨⟨⟨⟨⟨⟨⟨⟨⟨⟨⟨⟨⟨⟨⟨⟨⟨⟨⟨⟨⟨⟨⟨⟨⟨⟨⟨⟨⟨⟨⟨⟨⟨⟨⟨⟨⟨⟨⟨⟨⟨⟨⟨⟨⟨⟨⟨⟨⟨⟨⟨⟨⟨⟨⟨⟨⟨⟨⟨⟨⟨⟨⟨⟨⟨⟨⟨⟨⟨⟨h, ltb10_ok⟩, ltb11_ok⟩, ltb12_ok⟩, ltb13_ok⟩, ltb12_ok⟩, ltb13_ok⟩, ltb12_ok⟩, ltb14_ok⟩, ltb15_ok⟩, ltb11_ok⟩, ltb16_ok⟩, ltb13_ok⟩, ltb16_ok⟩, ltb13_ok⟩, ltb16_ok⟩, ltb17_ok⟩, ltb18_ok⟩, ltb11_ok⟩, ltb19_ok⟩, ltb13_ok⟩, ltb19_ok⟩, ltb13_ok⟩, ltb19_ok⟩, ltb20_ok⟩, ltb21_ok⟩, ltb11_ok⟩, ltb22_ok⟩, ltb13_ok⟩, ltb22_ok⟩, ltb13_ok⟩, ltb22_ok⟩, ltb23_ok⟩, ltb24_ok⟩, ltb11_ok⟩, ltb25_ok⟩, ltb13_ok⟩, ltb25_ok⟩, ltb13_ok⟩, ltb25_ok⟩, ltb26_ok⟩, ltb27_ok⟩, ltb11_ok⟩, ltb28_ok⟩, ltb13_ok⟩, ltb28_ok⟩, ltb13_ok⟩, ltb28_ok⟩, ltb29_ok⟩, ltb30_ok⟩, ltb31_ok z0 z1 z2 z3 z4 z5 z6 z7 z8 z9 z10 z11⟩, ltb32_ok z0 z1 z2 z3 z4 z5 z6 z7 z8 z9 z10 z11⟩, ltb33_ok z0 z1 z2 z3 z4 z5 z6 z7 z8 z9 z10 z11⟩, ltb34_ok⟩, ltb34_ok⟩, ltb34_ok⟩, ltb34_ok⟩, ltb35_ok⟩, ltb35_ok⟩, ltb35_ok⟩, ltb35_ok⟩, ltb10_ok⟩, ltb12_ok⟩, ltb36_ok z0 z1⟩, ltb5_ok⟩, ltb15_ok⟩, ltb16_ok⟩, ltb37_ok z2 z3⟩, ltb5_ok⟩, ltb18_ok⟩, ltb19_ok⟩, ltb38_ok z4 z5⟩, ltb5_ok⟩, ltb21_ok⟩, ltb22_ok⟩, ltb39_ok z6 z7⟩, ltb5_ok⟩, ltb24_ok⟩, ltb25_ok⟩, ltb40_ok z8 z9⟩, ltb5_ok⟩, ltb27_ok⟩, ltb28_ok⟩, ltb41_ok z10 z11⟩, ltb5_ok⟩, ltb30_ok⟩, ltb35_ok⟩, ltb35_ok⟩, ltb5_ok⟩, ltb42_ok z0 z1 z2 z3 z4 z5 z6 z7 z8 z9 z10 z11⟩, ltb43_ok z0 z1 z2 z3 z4 z5 z6 z7 z8 z9 z10 z11⟩, ltb44_ok⟩, ltb44_ok⟩, ltb44_ok⟩, ltb44_ok⟩, ltb45_ok z0 z1 z2 z3 z4 z5 z6 z7 z8 z9 z10 z11⟩, ltb3_ok k hk⟩, ltb11_ok⟩, ltb46_ok k hk⟩, ltb47_ok k hk⟩, ltb11_ok⟩
def ltW0 (P : Prop) (z0 z1 z2 z3 z4 z5 z6 z7 z8 z9 z10 z11 k : Int) : Prop := ((((((P ∧ ltb12) ∧ ltb12) ∧ ltb12) ∧ ltb12) ∧ ltb12) ∧ ltb12)
theorem ltW0_h {P : Prop} (h : P) (z0 z1 z2 z3 z4 z5 z6 z7 z8 z9 z10 z11 k : Int) (hk : -128 ≤ k ∧ k ≤ 127) : ltW0 P z0 z1 z2 z3 z4 z5 z6 z7 z8 z9 z10 z11 k := ⟨⟨⟨⟨⟨⟨h, ltb12_ok⟩, ltb12_ok⟩, ltb12_ok⟩, ltb12_ok⟩, ltb12_ok⟩, ltb12_ok⟩
def ltW1 (P : Prop) (z0 z1 z2 z3 z4 z5 z6 z7 z8 z9 z10 z11 k : Int) : Prop := (((((P ∧ ltb5) ∧ ltb5) ∧ ltb5) ∧ ltb5) ∧ ltb35)
theorem ltW1_h {P : Prop} (h : P) (z0 z1 z2 z3 z4 z5 z6 z7 z8 z9 z10 z11 k : Int) (hk : -128 ≤ k ∧ k ≤ 127) : ltW1 P z0 z1 z2 z3 z4 z5 z6 z7 z8 z9 z10 z11 k := ⟨⟨⟨⟨⟨h, ltb5_ok⟩, ltb5_ok⟩, ltb5_ok⟩, ltb5_ok⟩, ltb35_ok⟩
def ltW2 (P : Prop) (z0 z1 z2 z3 z4 z5 z6 z7 z8 z9 z10 z11 k : Int) : Prop := ((((((((P ∧ ltb5) ∧ ltb10) ∧ ltb12) ∧ ltb52 z0 z1) ∧ ltb12) ∧ ltb53 z0 z1 z2 z3 z4 z5 z6 z7 z8 z9 z10 z11) ∧ ltb12) ∧ ltb54 z0 z1 z2 z3 z4 z5 z6 z7 z8 z9 z10 z11)
theorem ltW2_h {P : Prop} (h : P) (z0 z1 z2 z3 z4 z5 z6 z7 z8 z9 z10 z11 k : Int) (hk : -128 ≤ k ∧ k ≤ 127) : ltW2 P z0 z1 z2 z3 z4 z5 z6 z7 z8 z9 z10 z11 k := ⟨⟨⟨⟨⟨⟨⟨⟨h, ltb5_ok⟩, ltb10_ok⟩, ltb12_ok⟩, ltb52_ok z0 z1⟩, ltb12_ok⟩, ltb53_ok z0 z1 z2 z3 z4 z5 z6 z7 z8 z9 z10 z11⟩, ltb12_ok⟩, ltb54_ok z0 z1 z2 z3 z4 z5 z6 z7 z8 z9 z10 z11⟩
def ltW3 (P : Prop) (z0 z1 z2 z3 z4 z5 z6 z7 z8 z9 z10 z11 k : Int) : Prop := (((((((((((((((((((((((((((P ∧ ltb34) ∧ ltb34) ∧ ltb12) ∧ ltb34) ∧ ltb34) ∧ ltb34) ∧ ltb34) ∧ ltb11) ∧ ltb34) ∧ ltb14) ∧ ltb34) ∧ ltb34) ∧ ltb34) ∧ ltb56 z0 z1 z2 z3 z4 z5 z6 z7 z8 z9 z10 z11) ∧ ltb56 z0 z1 z2 z3 z4 z5 z6 z7 z8 z9 z10 z11) ∧ ltb12) ∧ ltb56 z0 z1 z2 z3 z4 z5 z6 z7 z8 z9 z10 z11) ∧ ltb56 z0 z1 z2 z3 z4 z5 z6 z7 z8 z9 z10 z11) ∧ ltb56 z0 z1 z2 z3 z4 z5 z6 z7 z8 z9 z10 z11) ∧ ltb56 z0 z1 z2 z3 z4 z5 z6 z7 z8 z9 z10 z11) ∧ ltb57 z0 z1 z2 z3 z4 z5 z6 z7 z8 z9 z10 z11) ∧ ltb57 z0 z1 z2 z3 z4 z5 z6 z7 z8 z9 z10 z11) ∧ ltb12) ∧ ltb57 z0 z1 z2 z3 z4 z5 z6 z7 z8 z9 z10 z11) ∧ ltb57 z0 z1 z2 z3 z4 z5 z6 z7 z8 z9 z10 z11) ∧ ltb57 z0 z1 z2 z3 z4 z5 z6 z7 z8 z9 z10 z11) ∧ ltb57 z0 z1 z2 z3 z4 z5 z6 z7 z8 z9 z10 z11)
theorem ltW3_h {P : Prop} (h : P) (z0 z1 z2 z3 z4 z5 z6 z7 z8 z9 z10 z11 k : Int) (hk : -128 ≤ k ∧ k ≤ 127) : ltW3 P z0 z1 z2 z3 z4 z5 z6 z7 z8 z9 z10 z11 k := ⟨⟨⟨⟨⟨⟨⟨⟨⟨⟨⟨⟨⟨⟨⟨⟨⟨⟨⟨⟨⟨⟨⟨⟨⟨⟨⟨h, ltb34_ok⟩, ltb34_ok⟩, ltb12_ok⟩, ltb34_ok⟩, ltb34_ok⟩, ltb34_ok⟩, ltb34_ok⟩, ltb11_ok⟩, ltb34_ok⟩, ltb14_ok⟩, ltb34_ok⟩, ltb34_ok⟩, ltb34_ok⟩, ltb56_ok z0 z1 z2 z3 z4 z5 z6 z7 z8 z9 z10 z11⟩, ltb56_ok z0 z1 z2 z3 z4 z5 z6 z7 z8 z9 z10 z11⟩, ltb12_ok⟩, ltb56_ok z0 z1 z2 z3 z4 z5 z6 z7 z8 z9 z10 z11⟩, ltb56_ok z0 z1 z2 z3 z4 z5 z6 z7 z8 z9 z10 z11⟩, ltb56_ok z0 z1 z2 z3 z4 z5 z6 z7 z8 z9 z10 z11⟩, ltb56_ok z0 z1 z2 z3 z4 z5 z6 z7 z8 z9 z10 z11⟩, ltb57_ok z0 z1 z2 z3 z4 z5 z6 z7 z8 z9 z10 z11⟩, ltb57_ok z0 z1 z2 z3 z4 z5 z6 z7 z8 z9 z10 z11⟩, ltb12_ok⟩, ltb57_ok z0 z1 z2 z3 z4 z5 z6 z7 z8 z9 z10 z11⟩, ltb57_ok z0 z1 z2 z3 z4 z5 z6 z7 z8 z9 z10 z11⟩, ltb57_ok z0 z1 z2 z3 z4 z5 z6 z7 z8 z9 z10 z11⟩, ltb57_ok z0 z1 z2 z3 z4 z5 z6 z7 z8 z9 z10 z11⟩
def ltW4 (P : Prop) (z0 z1 z2 z3 z4 z5 z6 z7 z8 z9 z10 z11 k : Int) : Prop := (((((((P ∧ ltb15) ∧ ltb16) ∧ ltb59 z2 z3) ∧ ltb16) ∧ ltb60 z0 z1 z2 z3 z4 z5 z6 z7 z8 z9 z10 z11) ∧ ltb16) ∧ ltb61 z0 z1 z2 z3 z4 z5 z6 z7 z8 z9 z10 z11)
theorem ltW4_h {P : Prop} (h : P) (z0 z1 z2 z3 z4 z5 z6 z7 z8 z9 z10 z11 k : Int) (hk : -128 ≤ k ∧ k ≤ 127) : ltW4 P z0 z1 z2 z3 z4 z5 z6 z7 z8 z9 z10 z11 k := ⟨⟨⟨⟨⟨⟨⟨h, ltb15_ok⟩, ltb16_ok⟩, ltb59_ok z2 z3⟩, ltb16_ok⟩, ltb60_ok z0 z1 z2 z3 z4 z5 z6 z7 z8 z9 z10 z11⟩, ltb16_ok⟩, ltb61_ok z0 z1 z2 z3 z4 z5 z6 z7 z8 z9 z10 z11⟩
def ltW5 (P : Prop) (z0 z1 z2 z3 z4 z5 z6 z7 z8 z9 z10 z11 k : Int) : Prop := (((((((((((((((((((((((((((P ∧ ltb34) ∧ ltb34) ∧ ltb16) ∧ ltb34) ∧ ltb34) ∧ ltb34) ∧ ltb34) ∧ ltb11) ∧ ltb34) ∧ ltb17) ∧ ltb34) ∧ ltb34) ∧ ltb34) ∧ ltb63 z0 z1 z2 z3 z4 z5 z6 z7 z8 z9 z10 z11) ∧ ltb63 z0 z1 z2 z3 z4 z5 z6 z7 z8 z9 z10 z11) ∧ ltb16) ∧ ltb63 z0 z1 z2 z3 z4 z5 z6 z7 z8 z9 z10 z11) ∧ ltb63 z0 z1 z2 z3 z4 z5 z6 z7 z8 z9 z10 z11) ∧ ltb63 z0 z1 z2 z3 z4 z5 z6 z7 z8 z9 z10 z11) ∧ ltb63 z0 z1 z2 z3 z4 z5 z6 z7 z8 z9 z10 z11) ∧ ltb64 z0 z1 z2 z3 z4 z5 z6 z7 z8 z9 z10 z11) ∧ ltb64 z0 z1 z2 z3 z4 z5 z6 z7 z8 z9 z10 z11) ∧ ltb16) ∧ ltb64 z0 z1 z2 z3 z4 z5 z6 z7 z8 z9 z10 z11) ∧ ltb64 z0 z1 z2 z3 z4 z5 z6 z7 z8 z9 z10 z11) ∧ ltb64 z0 z1 z2 z3 z4 z5 z6 z7 z8 z9 z10 z11) ∧ ltb64 z0 z1 z2 z3 z4 z5 z6 z7 z8 z9 z10 z11)
theorem ltW5_h {P : Prop} (h : P) (z0 z1 z2 z3 z4 z5 z6 z7 z8 z9 z10 z11 k : Int) (hk : -128 ≤ k ∧ k ≤ 127) : ltW5 P z0 z1 z2 z3 z4 z5 z6 z7 z8 z9 z10 z11 k := ⟨⟨⟨⟨⟨⟨⟨⟨⟨⟨⟨⟨⟨⟨⟨⟨⟨⟨⟨⟨⟨⟨⟨⟨⟨⟨⟨h, ltb34_ok⟩, ltb34_ok⟩, ltb16_ok⟩, ltb34_ok⟩, ltb34_ok⟩, ltb34_ok⟩, ltb34_ok⟩, ltb11_ok⟩, ltb34_ok⟩, ltb17_ok⟩, ltb34_ok⟩, ltb34_ok⟩, ltb34_ok⟩, ltb63_ok z0 z1 z2 z3 z4 z5 z6 z7 z8 z9 z10 z11⟩, ltb63_ok z0 z1 z2 z3 z4 z5 z6 z7 z8 z9 z10 z11⟩, ltb16_ok⟩, ltb63_ok z0 z1 z2 z3 z4 z5 z6 z7 z8 z9 z10 z11⟩, ltb63_ok z0 z1 z2 z3 z4 z5 z6 z7 z8 z9 z10 z11⟩, ltb63_ok z0 z1 z2 z3 z4 z5 z6 z7 z8 z9 z10 z11⟩, ltb63_ok z0 z1 z2 z3 z4 z5 z6 z7 z8 z9 z10 z11⟩, ltb64_ok z0 z1 z2 z3 z4 z5 z6 z7 z8 z9 z10 z11⟩, ltb64_ok z0 z1 z2 z3 z4 z5 z6 z7 z8 z9 z10 z11⟩, ltb16_ok⟩, ltb64_ok z0 z1 z2 z3 z4 z5 z6 z7 z8 z9 z10 z11⟩, ltb64_ok z0 z1 z2 z3 z4 z5 z6 z7 z8 z9 z10 z11⟩, ltb64_ok z0 z1 z2 z3 z4 z5 z6 z7 z8 z9 z10 z11⟩, ltb64_ok z0 z1 z2 z3 z4 z5 z6 z7 z8 z9 z10 z11⟩
def ltW6 (P : Prop) (z0 z1 z2 z3 z4 z5 z6 z7 z8 z9 z10 z11 k : Int) : Prop := (((((((P ∧ ltb18) ∧ ltb19) ∧ ltb66 z4 z5) ∧ ltb19) ∧ ltb67 z0 z1 z2 z3 z4 z5 z6 z7 z8 z9 z10 z11) ∧ ltb19) ∧ ltb68 z0 z1 z2 z3 z4 z5 z6 z7 z8 z9 z10 z11)
theorem ltW6_h {P : Prop} (h : P) (z0 z1 z2 z3 z4 z5 z6 z7 z8 z9 z10 z11 k : Int) (hk : -128 ≤ k ∧ k ≤ 127) : ltW6 P z0 z1 z2 z3 z4 z5 z6 z7 z8 z9 z10 z11 k := ⟨⟨⟨⟨⟨⟨⟨h, ltb18_ok⟩, ltb19_ok⟩, ltb66_ok z4 z5⟩, ltb19_ok⟩, ltb67_ok z0 z1 z2 z3 z4 z5 z6 z7 z8 z9 z10 z11⟩, ltb19_ok⟩, ltb68_ok z0 z1 z2 z3 z4 z5 z6 z7 z8 z9 z10 z11⟩
def ltW7 (P : Prop) (z0 z1 z2 z3 z4 z5 z6 z7 z8 z9 z10 z11 k : Int) : Prop := (((((((((((((((((((((((((((P ∧ ltb34) ∧ ltb34) ∧ ltb19) ∧ ltb34) ∧ ltb34) ∧ ltb34) ∧ ltb34) ∧ ltb11) ∧ ltb34) ∧ ltb20) ∧ ltb34) ∧ ltb34) ∧ ltb34) ∧ ltb70 z0 z1 z2 z3 z4 z5 z6 z7 z8 z9 z10 z11) ∧ ltb70 z0 z1 z2 z3 z4 z5 z6 z7 z8 z9 z10 z11) ∧ ltb19) ∧ ltb70 z0 z1 z2 z3 z4 z5 z6 z7 z8 z9 z10 z11) ∧ ltb70 z0 z1 z2 z3 z4 z5 z6 z7 z8 z9 z10 z11) ∧ ltb70 z0 z1 z2 z3 z4 z5 z6 z7 z8 z9 z10 z11) ∧ ltb70 z0 z1 z2 z3 z4 z5 z6 z7 z8 z9 z10 z11) ∧ ltb71 z0 z1 z2 z3 z4 z5 z6 z7 z8 z9 z10 z11) ∧ ltb71 z0 z1 z2 z3 z4 z5 z6 z7 z8 z9 z10 z11) ∧ ltb19) ∧ ltb71 z0 z1 z2 z3 z4 z5 z6 z7 z8 z9 z10 z11) ∧ ltb71 z0 z1 z2 z3 z4 z5 z6 z7 z8 z9 z10 z11) ∧ ltb71 z0 z1 z2 z3 z4 z5 z6 z7 z8 z9 z10 z11) ∧ ltb71 z0 z1 z2 z3 z4 z5 z6 z7 z8 z9 z10 z11)
theorem ltW7_h {P : Prop} (h : P) (z0 z1 z2 z3 z4 z5 z6 z7 z8 z9 z10 z11 k : Int) (hk : -128 ≤ k ∧ k ≤ 127) : ltW7 P z0 z1 z2 z3 z4 z5 z6 z7 z8 z9 z10 z11 k := ⟨⟨⟨⟨⟨⟨⟨⟨⟨⟨⟨⟨⟨⟨⟨⟨⟨⟨⟨⟨⟨⟨⟨⟨⟨⟨⟨h, ltb34_ok⟩, ltb34_ok⟩, ltb19_ok⟩, ltb34_ok⟩, ltb34_ok⟩, ltb34_ok⟩, ltb34_ok⟩, ltb11_ok⟩, ltb34_ok⟩, ltb20_ok⟩, ltb34_ok⟩, ltb34_ok⟩, ltb34_ok⟩, ltb70_ok z0 z1 z2 z3 z4 z5 z6 z7 z8 z9 z10 z11⟩, ltb70_ok z0 z1 z2 z3 z4 z5 z6 z7 z8 z9 z10 z11⟩, ltb19_ok⟩, ltb70_ok z0 z1 z2 z3 z4 z5 z6 z7 z8 z9 z10 z11⟩, ltb70_ok z0 z1 z2 z3 z4 z5 z6 z7 z8 z9 z10 z11⟩, ltb70_ok z0 z1 z2 z3 z4 z5 z6 z7 z8 z9 z10 z11⟩, ltb70_ok z0 z1 z2 z3 z4 z5 z6 z7 z8 z9 z10 z11⟩, ltb71_ok z0 z1 z2 z3 z4 z5 z6 z7 z8 z9 z10 z11⟩, ltb71_ok z0 z1 z2 z3 z4 z5 z6 z7 z8 z9 z10 z11⟩, ltb19_ok⟩, ltb71_ok z0 z1 z2 z3 z4 z5 z6 z7 z8 z9 z10 z11⟩, ltb71_ok z0 z1 z2 z3 z4 z5 z6 z7 z8 z9 z10 z11⟩, ltb71_ok z0 z1 z2 z3 z4 z5 z6 z7 z8 z9 z10 z11⟩, ltb71_ok z0 z1 z2 z3 z4 z5 z6 z7 z8 z9 z10 z11⟩
def ltW8 (P : Prop) (z0 z1 z2 z3 z4 z5 z6 z7 z8 z9 z10 z11 k : Int) : Prop := (((((((P ∧ ltb21) ∧ ltb22) ∧ ltb73 z6 z7) ∧ ltb22) ∧ ltb74 z0 z1 z2 z3 z4 z5 z6 z7 z8 z9 z10 z11) ∧ ltb22) ∧ ltb75 z0 z1 z2 z3 z4 z5 z6 z7 z8 z9 z10 z11)
theorem ltW8_h {P : Prop} (h : P) (z0 z1 z2 z3 z4 z5 z6 z7 z8 z9 z10 z11 k : Int) (hk : -128 ≤ k ∧ k ≤ 127) : ltW8 P z0 z1 z2 z3 z4 z5 z6 z7 z8 z9 z10 z11 k := ⟨⟨⟨⟨⟨⟨⟨h, ltb21_ok⟩, ltb22_ok⟩, ltb73_ok z6 z7⟩, ltb22_ok⟩, ltb74_ok z0 z1 z2 z3 z4 z5 z6 z7 z8 z9 z10 z11⟩, ltb22_ok⟩, ltb75_ok z0 z1 z2 z3 z4 z5 z6 z7 z8 z9 z10 z11⟩
def ltW9 (P : Prop) (z0 z1 z2 z3 z4 z5 z6 z7 z8 z9 z10 z11 k : Int) : Prop := (((((((((((((((((((((((((((P ∧ ltb34) ∧ ltb34) ∧ ltb22) ∧ ltb34) ∧ ltb34) ∧ ltb34) ∧ ltb34) ∧ ltb11) ∧ ltb34) ∧ ltb23) ∧ ltb34) ∧ ltb34) ∧ ltb34) ∧ ltb77 z0 z1 z2 z3 z4 z5 z6 z7 z8 z9 z10 z11) ∧ ltb77 z0 z1 z2 z3 z4 z5 z6 z7 z8 z9 z10 z11) ∧ ltb22) ∧ ltb77 z0 z1 z2 z3 z4 z5 z6 z7 z8 z9 z10 z11) ∧ ltb77 z0 z1 z2 z3 z4 z5 z6 z7 z8 z9 z10 z11) ∧ ltb77 z0 z1 z2 z3 z4 z5 z6 z7 z8 z9 z10 z11) ∧ ltb77 z0 z1 z2 z3 z4 z5 z6 z7 z8 z9 z10 z11) ∧ ltb78 z0 z1 z2 z3 z4 z5 z6 z7 z8 z9 z10 z11) ∧ ltb78 z0 z1 z2 z3 z4 z5 z6 z7 z8 z9 z10 z11) ∧ ltb22) ∧ ltb78 z0 z1 z2 z3 z4 z5 z6 z7 z8 z9 z10 z11) ∧ ltb78 z0 z1 z2 z3 z4 z5 z6 z7 z8 z9 z10 z11) ∧ ltb78 z0 z1 z2 z3 z4 z5 z6 z7 z8 z9 z10 z11) ∧ ltb78 z0 z1 z2 z3 z4 z5 z6 z7 z8 z9 z10 z11)
theorem ltW9_h {P : Prop} (h : P) (z0 z1 z2 z3 z4 z5 z6 z7 z8 z9 z10 z11 k : Int) (hk : -128 ≤ k ∧ k ≤ 127) : ltW9 P z0 z1 z2 z3 z4 z5 z6 z7 z8 z9 z10 z11 k := ⟨⟨⟨⟨⟨⟨⟨⟨⟨⟨⟨⟨⟨⟨⟨⟨⟨⟨⟨⟨⟨⟨⟨⟨⟨⟨⟨h, ltb34_ok⟩, ltb34_ok⟩, ltb22_ok⟩, ltb34_ok⟩, ltb34_ok⟩, ltb34_ok⟩, ltb34_ok⟩, ltb11_ok⟩, ltb34_ok⟩, ltb23_ok⟩, ltb34_ok⟩, ltb34_ok⟩, ltb34_ok⟩, ltb77_ok z0 z1 z2 z3 z4 z5 z6 z7 z8 z9 z10 z11⟩, ltb77_ok z0 z1 z2 z3 z4 z5 z6 z7 z8 z9 z10 z11⟩, ltb22_ok⟩, ltb77_ok z0 z1 z2 z3 z4 z5 z6 z7 z8 z9 z10 z11⟩, ltb77_ok z0 z1 z2 z3 z4 z5 z6 z7 z8 z9 z10 z11⟩, ltb77_ok z0 z1 z2 z3 z4 z5 z6 z7 z8 z9 z10 z11⟩, ltb77_ok z0 z1 z2 z3 z4 z5 z6 z7 z8 z9 z10 z11⟩, ltb78_ok z0 z1 z2 z3 z4 z5 z6 z7 z8 z9 z10 z11⟩, ltb78_ok z0 z1 z2 z3 z4 z5 z6 z7 z8 z9 z10 z11⟩, ltb22_ok⟩, ltb78_ok z0 z1 z2 z3 z4 z5 z6 z7 z8 z9 z10 z11⟩, ltb78_ok z0 z1 z2 z3 z4 z5 z6 z7 z8 z9 z10 z11⟩, ltb78_ok z0 z1 z2 z3 z4 z5 z6 z7 z8 z9 z10 z11⟩, ltb78_ok z0 z1 z2 z3 z4 z5 z6 z7 z8 z9 z10 z11⟩
def ltW10 (P : Prop) (z0 z1 z2 z3 z4 z5 z6 z7 z8 z9 z10 z11 k : Int) : Prop := (((((((P ∧ ltb24) ∧ ltb25) ∧ ltb80 z8 z9) ∧ ltb25) ∧ ltb81 z0 z1 z2 z3 z4 z5 z6 z7 z8 z9 z10 z11) ∧ ltb25) ∧ ltb82 z0 z1 z2 z3 z4 z5 z6 z7 z8 z9 z10 z11)
theorem ltW10_h {P : Prop} (h : P) (z0 z1 z2 z3 z4 z5 z6 z7 z8 z9 z10 z11 k : Int) (hk : -128 ≤ k ∧ k ≤ 127) : ltW10 P z0 z1 z2 z3 z4 z5 z6 z7 z8 z9 z10 z11 k := ⟨⟨⟨⟨⟨⟨⟨h, ltb24_ok⟩, ltb25_ok⟩, ltb80_ok z8 z9⟩, ltb25_ok⟩, ltb81_ok z0 z1 z2 z3 z4 z5 z6 z7 z8 z9 z10 z11⟩, ltb25_ok⟩, ltb82_ok z0 z1 z2 z3 z4 z5 z6 z7 z8 z9 z10 z11⟩
def ltW11 (P : Prop) (z0 z1 z2 z3 z4 z5 z6 z7 z8 z9 z10 z11 k : Int) : Prop := (((((((((((((((((((((((((((P ∧ ltb34) ∧ ltb34) ∧ ltb25) ∧ ltb34) ∧ ltb34) ∧ ltb34) ∧ ltb34) ∧ ltb11) ∧ ltb34) ∧ ltb26) ∧ ltb34) ∧ ltb34) ∧ ltb34) ∧ ltb84 z0 z1 z2 z3 z4 z5 z6 z7 z8 z9 z10 z11) ∧ ltb84 z0 z1 z2 z3 z4 z5 z6 z7 z8 z9 z10 z11) ∧ ltb25) ∧ ltb84 z0 z1 z2 z3 z4 z5 z6 z7 z8 z9 z10 z11) ∧ ltb84 z0 z1 z2 z3 z4 z5 z6 z7 z8 z9 z10 z11) ∧ ltb84 z0 z1 z2 z3 z4 z5 z6 z7 z8 z9 z10 z11) ∧ ltb84 z0 z1 z2 z3 z4 z5 z6 z7 z8 z9 z10 z11) ∧ ltb85 z0 z1 z2 z3 z4 z5 z6 z7 z8 z9 z10 z11) ∧ ltb85 z0 z1 z2 z3 z4 z5 z6 z7 z8 z9 z10 z11) ∧ ltb25) ∧ ltb85 z0 z1 z2 z3 z4 z5 z6 z7 z8 z9 z10 z11) ∧ ltb85 z0 z1 z2 z3 z4 z5 z6 z7 z8 z9 z10 z11) ∧ ltb85 z0 z1 z2 z3 z4 z5 z6 z7 z8 z9 z10 z11) ∧ ltb85 z0 z1 z2 z3 z4 z5 z6 z7 z8 z9 z10 z11)
theorem ltW11_h {P : Prop} (h : P) (z0 z1 z2 z3 z4 z5 z6 z7 z8 z9 z10 z11 k : Int) (hk : -128 ≤ k ∧ k ≤ 127) : ltW11 P z0 z1 z2 z3 z4 z5 z6 z7 z8 z9 z10 z11 k := ⟨⟨⟨⟨⟨⟨⟨⟨⟨⟨⟨⟨⟨⟨⟨⟨⟨⟨⟨⟨⟨⟨⟨⟨⟨⟨⟨h, ltb34_ok⟩, ltb34_ok⟩, ltb25_ok⟩, ltb34_ok⟩, ltb34_ok⟩, ltb34_ok⟩, ltb34_ok⟩, ltb11_ok⟩, ltb34_ok⟩, ltb26_ok⟩, ltb34_ok⟩, ltb34_ok⟩, ltb34_ok⟩, ltb84_ok z0 z1 z2 z3 z4 z5 z6 z7 z8 z9 z10 z11⟩, ltb84_ok z0 z1 z2 z3 z4 z5 z6 z7 z8 z9 z10 z11⟩, ltb25_ok⟩, ltb84_ok z0 z1 z2 z3 z4 z5 z6 z7 z8 z9 z10 z11⟩, ltb84_ok z0 z1 z2 z3 z4 z5 z6 z7 z8 z9 z10 z11⟩, ltb84_ok z0 z1 z2 z3 z4 z5 z6 z7 z8 z9 z10 z11⟩, ltb84_ok z0 z1 z2 z3 z4 z5 z6 z7 z8 z9 z10 z11⟩, ltb85_ok z0 z1 z2 z3 z4 z5 z6 z7 z8 z9 z10 z11⟩, ltb85_ok z0 z1 z2 z3 z4 z5 z6 z7 z8 z9 z10 z11⟩, ltb25_ok⟩, ltb85_ok z0 z1 z2 z3 z4 z5 z6 z7 z8 z9 z10 z11⟩, ltb85_ok z0 z1 z2 z3 z4 z5 z6 z7 z8 z9 z10 z11⟩, ltb85_ok z0 z1 z2 z3 z4 z5 z6 z7 z8 z9 z10 z11⟩, ltb85_ok z0 z1 z2 z3 z4 z5 z6 z7 z8 z9 z10 z11⟩
def ltW12 (P : Prop) (z0 z1 z2 z3 z4 z5 z6 z7 z8 z9 z10 z11 k : Int) : Prop := (((((((P ∧ ltb27) ∧ ltb28) ∧ ltb87 z10 z11) ∧ ltb28) ∧ ltb88 z0 z1 z2 z3 z4 z5 z6 z7 z8 z9 z10 z11) ∧ ltb28) ∧ ltb89 z0 z1 z2 z3 z4 z5 z6 z7 z8 z9 z10 z11)
theorem ltW12_h {P : Prop} (h : P) (z0 z1 z2 z3 z4 z5 z6 z7 z8 z9 z10 z11 k : Int) (hk : -128 ≤ k ∧ k ≤ 127) : ltW12 P z0 z1 z2 z3 z4 z5 z6 z7 z8 z9 z10 z11 k := ⟨⟨⟨⟨⟨⟨⟨h, ltb27_ok⟩, ltb28_ok⟩, ltb87_ok z10 z11⟩, ltb28_ok⟩, ltb88_ok z0 z1 z2 z3 z4 z5 z6 z7 z8 z9 z10 z11⟩, ltb28_ok⟩, ltb89_ok z0 z1 z2 z3 z4 z5 z6 z7 z8 z9 z10 z11⟩
def ltW13 (P : Prop) (z0 z1 z2 z3 z4 z5 z6 z7 z8 z9 z10 z11 k : Int) : Prop := (((((((((((((((((((((((((((P ∧ ltb34) ∧ ltb34) ∧ ltb28) ∧ ltb34) ∧ ltb34) ∧ ltb34) ∧ ltb34) ∧ ltb11) ∧ ltb34) ∧ ltb29) ∧ ltb34) ∧ ltb34) ∧ ltb34) ∧ ltb91 z0 z1 z2 z3 z4 z5 z6 z7 z8 z9 z10 z11) ∧ ltb91 z0 z1 z2 z3 z4 z5 z6 z7 z8 z9 z10 z11) ∧ ltb28) ∧ ltb91 z0 z1 z2 z3 z4 z5 z6 z7 z8 z9 z10 z11) ∧ ltb91 z0 z1 z2 z3 z4 z5 z6 z7 z8 z9 z10 z11) ∧ ltb91 z0 z1 z2 z3 z4 z5 z6 z7 z8 z9 z10 z11) ∧ ltb91 z0 z1 z2 z3 z4 z5 z6 z7 z8 z9 z10 z11) ∧ ltb92 z0 z1 z2 z3 z4 z5 z6 z7 z8 z9 z10 z11) ∧ ltb92 z0 z1 z2 z3 z4 z5 z6 z7 z8 z9 z10 z11) ∧ ltb28) ∧ ltb92 z0 z1 z2 z3 z4 z5 z6 z7 z8 z9 z10 z11) ∧ ltb92 z0 z1 z2 z3 z4 z5 z6 z7 z8 z9 z10 z11) ∧ ltb92 z0 z1 z2 z3 z4 z5 z6 z7 z8 z9 z10 z11) ∧ ltb92 z0 z1 z2 z3 z4 z5 z6 z7 z8 z9 z10 z11)
theorem ltW13_h {P : Prop} (h : P) (z0 z1 z2 z3 z4 z5 z6 z7 z8 z9 z10 z11 k : Int) (hk : -128 ≤ k ∧ k ≤ 127) : ltW13 P z0 z1 z2 z3 z4 z5 z6 z7 z8 z9 z10 z11 k := ⟨⟨⟨⟨⟨⟨⟨⟨⟨⟨⟨⟨⟨⟨⟨⟨⟨⟨⟨⟨⟨⟨⟨⟨⟨⟨⟨h, ltb34_ok⟩, ltb34_ok⟩, ltb28_ok⟩, ltb34_ok⟩, ltb34_ok⟩, ltb34_ok⟩, ltb34_ok⟩, ltb11_ok⟩, ltb34_ok⟩, ltb29_ok⟩, ltb34_ok⟩, ltb34_ok⟩, ltb34_ok⟩, ltb91_ok z0 z1 z2 z3 z4 z5 z6 z7 z8 z9 z10 z11⟩, ltb91_ok z0 z1 z2 z3 z4 z5 z6 z7 z8 z9 z10 z11⟩, ltb28_ok⟩, ltb91_ok z0 z1 z2 z3 z4 z5 z6 z7 z8 z9 z10 z11⟩, ltb91_ok z0 z1 z2 z3 z4 z5 z6 z7 z8 z9 z10 z11⟩, ltb91_ok z0 z1 z2 z3 z4 z5 z6 z7 z8 z9 z10 z11⟩, ltb91_ok z0 z1 z2 z3 z4 z5 z6 z7 z8 z9 z10 z11⟩, ltb92_ok z0 z1 z2 z3 z4 z5 z6 z7 z8 z9 z10 z11⟩, ltb92_ok z0 z1 z2 z3 z4 z5 z6 z7 z8 z9 z10 z11⟩, ltb28_ok⟩, ltb92_ok z0 z1 z2 z3 z4 z5 z6 z7 z8 z9 z10 z11⟩, ltb92_ok z0 z1 z2 z3 z4 z5 z6 z7 z8 z9 z10 z11⟩, ltb92_ok z0 z1 z2 z3 z4 z5 z6 z7 z8 z9 z10 z11⟩, ltb92_ok z0 z1 z2 z3 z4 z5 z6 z7 z8 z9 z10 z11⟩
def ltT0 (P : Prop) (z0 z1 z2 z3 z4 z5 z6 z7 z8 z9 z10 z11 k : Int) : Prop := (((((ltW13 ((ltW12 ((ltW11 ((ltW10 ((ltW9 ((ltW8 ((ltW7 ((ltW6 ((ltW5 ((ltW4 ((ltW3 ((((ltW2 ((ltW1 (((ltW0 (P ∧ ltb48 k) z0 z1 z2 z3 z4 z5 z6 z7 z8 z9 z10 z11 k) ∧ ltb49) ∧ ltb50 z0 z1) z0 z1 z2 z3 z4 z5 z6 z7 z8 z9 z10 z11 k) ∧ ltb51 z0 z1) z0 z1 z2 z3 z4 z5 z6 z7 z8 z9 z10 z11 k) ∧ ltb55) ∧ ltb12) ∧ ltb12) z0 z1 z2 z3 z4 z5 z6 z7 z8 z9 z10 z11 k) ∧ ltb58 z0 z1) z0 z1 z2 z3 z4 z5 z6 z7 z8 z9 z10 z11 k) ∧ ltb62) z0 z1 z2 z3 z4 z5 z6 z7 z8 z9 z10 z11 k) ∧ ltb65 z0 z1) z0 z1 z2 z3 z4 z5 z6 z7 z8 z9 z10 z11 k) ∧ ltb69) z0 z1 z2 z3 z4 z5 z6 z7 z8 z9 z10 z11 k) ∧ ltb72 z0 z1) z0 z1 z2 z3 z4 z5 z6 z7 z8 z9 z10 z11 k) ∧ ltb76) z0 z1 z2 z3 z4 z5 z6 z7 z8 z9 z10 z11 k) ∧ ltb79 z0 z1) z0 z1 z2 z3 z4 z5 z6 z7 z8 z9 z10 z11 k) ∧ ltb83) z0 z1 z2 z3 z4 z5 z6 z7 z8 z9 z10 z11 k) ∧ ltb86 z0 z1) z0 z1 z2 z3 z4 z5 z6 z7 z8 z9 z10 z11 k) ∧ ltb90) z0 z1 z2 z3 z4 z5 z6 z7 z8 z9 z10 z11 k) ∧ ltb93 z0 z1) ∧ ltb30) ∧ ltb94 z0 z1 z2 z3 z4 z5 z6 z7 z8 z9 z10 z11) ∧ ltb94 z0 z1 z2 z3 z4 z5 z6 z7 z8 z9 z10 z11)
theorem ltT0_h {P : Prop} (h : P) (z0 z1 z2 z3 z4 z5 z6 z7 z8 z9 z10 z11 k : Int) (hk : -128 ≤ k ∧ k ≤ 127) (hc : (k.tmod 6 + 6).tmod 6 = 0) : ltT0 P z0 z1 z2 z3 z4 z5 z6 z7 z8 z9 z10 z11 k := ⟨⟨⟨⟨(ltW13_h ⟨(ltW12_h ⟨(ltW11_h ⟨(ltW10_h ⟨(ltW9_h ⟨(ltW8_h ⟨(ltW7_h ⟨(ltW6_h ⟨(ltW5_h ⟨(ltW4_h ⟨(ltW3_h ⟨⟨⟨(ltW2_h ⟨(ltW1_h ⟨⟨(ltW0_h ⟨h, ltb48_ok k hk hc⟩ z0 z1 z2 z3 z4 z5 z6 z7 z8 z9 z10 z11 k hk), ltb49_ok⟩, ltb50_ok z0 z1⟩ z0 z1 z2 z3 z4 z5 z6 z7 z8 z9 z10 z11 k hk), ltb51_ok z0 z1⟩ z0 z1 z2 z3 z4 z5 z6 z7 z8 z9 z10 z11 k hk), ltb55_ok⟩, ltb12_ok⟩, ltb12_ok⟩ z0 z1 z2 z3 z4 z5 z6 z7 z8 z9 z10 z11 k hk), ltb58_ok z0 z1⟩ z0 z1 z2 z3 z4 z5 z6 z7 z8 z9 z10 z11 k hk), ltb62_ok⟩ z0 z1 z2 z3 z4 z5 z6 z7 z8 z9 z10 z11 k hk), ltb65_ok z0 z1⟩ z0 z1 z2 z3 z4 z5 z6 z7 z8 z9 z10 z11 k hk), ltb69_ok⟩ z0 z1 z2 z3 z4 z5 z6 z7 z8 z9 z10 z11 k hk), ltb72_ok z0 z1⟩ z0 z1 z2 z3 z4 z5 z6 z7 z8 z9 z10 z11 k hk), ltb76_ok⟩ z0 z1 z2 z3 z4 z5 z6 z7 z8 z9 z10 z11 k hk), ltb79_ok z0 z1⟩ z0 z1 z2 z3 z4 z5 z6 z7 z8 z9 z10 z11 k hk), ltb83_ok⟩ z0 z1 z2 z3 z4 z5 z6 z7 z8 z9 z10 z11 k hk), ltb86_ok z0 z1⟩ z0 z1 z2 z3 z4 z5 z6 z7 z8 z9 z10 z11 k hk), ltb90_ok⟩ z0 z1 z2 z3 z4 z5 z6 z7 z8 z9 z10 z11 k hk), ltb93_ok z0 z1⟩, ltb30_ok⟩, ltb94_ok z0 z1 z2 z3 z4 z5 z6 z7 z8 z9 z10 z11⟩, ltb94_ok z0 z1 z2 z3 z4 z5 z6 z7 z8 z9 z10 z11⟩
def ltT1 (P : Prop) (z0 z1 z2 z3 z4 z5 z6 z7 z8 z9 z10 z11 k : Int) : Prop := (((((ltW13 ((ltW12 ((ltW11 ((ltW10 ((ltW9 ((ltW8 ((ltW7 ((ltW6 ((ltW5 ((((ltW4 ((ltW3 ((ltW2 ((ltW1 (((ltW0 (P ∧ ltb95 k) z0 z1 z2 z3 z4 z5 z6 z7 z8 z9 z10 z11 k) ∧ ltb96) ∧ ltb97 z0 z1) z0 z1 z2 z3 z4 z5 z6 z7 z8 z9 z10 z11 k) ∧ ltb98 z0 z1) z0 z1 z2 z3 z4 z5 z6 z7 z8 z9 z10 z11 k) ∧ ltb99) z0 z1 z2 z3 z4 z5 z6 z7 z8 z9 z10 z11 k) ∧ ltb100 z0 z1) z0 z1 z2 z3 z4 z5 z6 z7 z8 z9 z10 z11 k) ∧ ltb101) ∧ ltb12) ∧ ltb12) z0 z1 z2 z3 z4 z5 z6 z7 z8 z9 z10 z11 k) ∧ ltb102 z0 z1) z0 z1 z2 z3 z4 z5 z6 z7 z8 z9 z10 z11 k) ∧ ltb103) z0 z1 z2 z3 z4 z5 z6 z7 z8 z9 z10 z11 k) ∧ ltb104 z0 z1) z0 z1 z2 z3 z4 z5 z6 z7 z8 z9 z10 z11 k) ∧ ltb105) z0 z1 z2 z3 z4 z5 z6 z7 z8 z9 z10 z11 k) ∧ ltb106 z0 z1) z0 z1 z2 z3 z4 z5 z6 z7 z8 z9 z10 z11 k) ∧ ltb107) z0 z1 z2 z3 z4 z5 z6 z7 z8 z9 z10 z11 k) ∧ ltb108 z0 z1) z0 z1 z2 z3 z4 z5 z6 z7 z8 z9 z10 z11 k) ∧ ltb109) z0 z1 z2 z3 z4 z5 z6 z7 z8 z9 z10 z11 k) ∧ ltb110 z0 z1) ∧ ltb30) ∧ ltb94 z0 z1 z2 z3 z4 z5 z6 z7 z8 z9 z10 z11) ∧ ltb94 z0 z1 z2 z3 z4 z5 z6 z7 z8 z9 z10 z11)
theorem ltT1_h {P : Prop} (h : P) (z0 z1 z2 z3 z4 z5 z6 z7 z8 z9 z10 z11 k : Int) (hk : -128 ≤ k ∧ k ≤ 127) (hc : (k.tmod 6 + 6).tmod 6 = 1) : ltT1 P z0 z1 z2 z3 z4 z5 z6 z7 z8 z9 z10 z11 k := ⟨⟨⟨⟨(ltW13_h ⟨(ltW12_h ⟨(ltW11_h ⟨(ltW10_h ⟨(ltW9_h ⟨(ltW8_h ⟨(ltW7_h ⟨(ltW6_h ⟨(ltW5_h ⟨⟨⟨(ltW4_h ⟨(ltW3_h ⟨(ltW2_h ⟨(ltW1_h ⟨⟨(ltW0_h ⟨h, ltb95_ok k hk hc⟩ z0 z1 z2 z3 z4 z5 z6 z7 z8 z9 z10 z11 k hk), ltb96_ok⟩, ltb97_ok z0 z1⟩ z0 z1 z2 z3 z4 z5 z6 z7 z8 z9 z10 z11 k hk), ltb98_ok z0 z1⟩ z0 z1 z2 z3 z4 z5 z6 z7 z8 z9 z10 z11 k hk), ltb99_ok⟩ z0 z1 z2 z3 z4 z5 z6 z7 z8 z9 z10 z11 k hk), ltb100_ok z0 z1⟩ z0 z1 z2 z3 z4 z5 z6 z7 z8 z9 z10 z11 k hk), ltb101_ok⟩, ltb12_ok⟩, ltb12_ok⟩ z0 z1 z2 z3 z4 z5 z6 z7 z8 z9 z10 z11 k hk), ltb102_ok z0 z1⟩ z0 z1 z2 z3 z4 z5 z6 z7 z8 z9 z10 z11 k hk), ltb103_ok⟩ z0 z1 z2 z3 z4 z5 z6 z7 z8 z9 z10 z11 k hk), ltb104_ok z0 z1⟩ z0 z1 z2 z3 z4 z5 z6 z7 z8 z9 z10 z11 k hk), ltb105_ok⟩ z0 z1 z2 z3 z4 z5 z6 z7 z8 z9 z10 z11 k hk), ltb106_ok z0 z1⟩ z0 z1 z2 z3 z4 z5 z6 z7 z8 z9 z10 z11 k hk), ltb107_ok⟩ z0 z1 z2 z3 z4 z5 z6 z7 z8 z9 z10 z11 k hk), ltb108_ok z0 z1⟩ z0 z1 z2 z3 z4 z5 z6 z7 z8 z9 z10 z11 k hk), ltb109_ok⟩ z0 z1 z2 z3 z4 z5 z6 z7 z8 z9 z10 z11 k hk), ltb110_ok z0 z1⟩, ltb30_ok⟩, ltb94_ok z0 z1 z2 z3 z4 z5 z6 z7 z8 z9 z10 z11⟩, ltb94_ok z0 z1 z2 z3 z4 z5 z6 z7 z8 z9 z10 z11⟩
def ltT2 (P : Prop) (z0 z1 z2 z3 z4 z5 z6 z7 z8 z9 z10 z11 k : Int) : Prop := (((((ltW13 ((ltW12 ((ltW11 ((ltW10 ((ltW9 ((ltW8 ((ltW7 ((((ltW6 ((ltW5 ((ltW4 ((ltW3 ((ltW2 ((ltW1 (((ltW0 (P ∧ ltb111 k) z0 z1 z2 z3 z4 z5 z6 z7 z8 z9 z10 z11 k) ∧ ltb112) ∧ ltb113 z0 z1) z0 z1 z2 z3 z4 z5 z6 z7 z8 z9 z10 z11 k) ∧ ltb114 z0 z1) z0 z1 z2 z3 z4 z5 z6 z7 z8 z9 z10 z11 k) ∧ ltb115) z0 z1 z2 z3 z4 z5 z6 z7 z8 z9 z10 z11 k) ∧ ltb116 z0 z1) z0 z1 z2 z3 z4 z5 z6 z7 z8 z9 z10 z11 k) ∧ ltb117) z0 z1 z2 z3 z4 z5 z6 z7 z8 z9 z10 z11 k) ∧ ltb118 z0 z1) z0 z1 z2 z3 z4 z5 z6 z7 z8 z9 z10 z11 k) ∧ ltb119) ∧ ltb12) ∧ ltb12) z0 z1 z2 z3 z4 z5 z6 z7 z8 z9 z10 z11 k) ∧ ltb120 z0 z1) z0 z1 z2 z3 z4 z5 z6 z7 z8 z9 z10 z11 k) ∧ ltb121) z0 z1 z2 z3 z4 z5 z6 z7 z8 z9 z10 z11 k) ∧ ltb122 z0 z1) z0 z1 z2 z3 z4 z5 z6 z7 z8 z9 z10 z11 k) ∧ ltb123) z0 z1 z2 z3 z4 z5 z6 z7 z8 z9 z10 z11 k) ∧ ltb124 z0 z1) z0 z1 z2 z3 z4 z5 z6 z7 z8 z9 z10 z11 k) ∧ ltb125) z0 z1 z2 z3 z4 z5 z6 z7 z8 z9 z10 z11 k) ∧ ltb126 z0 z1) ∧ ltb30) ∧ ltb94 z0 z1 z2 z3 z4 z5 z6 z7 z8 z9 z10 z11) ∧ ltb94 z0 z1 z2 z3 z4 z5 z6 z7 z8 z9 z10 z11)
theorem ltT2_h {P : Prop} (h : P) (z0 z1 z2 z3 z4 z5 z6 z7 z8 z9 z10 z11 k : Int) (hk : -128 ≤ k ∧ k ≤ 127) (hc : (k.tmod 6 + 6).tmod 6 = 2) : ltT2 P z0 z1 z2 z3 z4 z5 z6 z7 z8 z9 z10 z11 k := ⟨⟨⟨⟨(ltW13_h ⟨(ltW12_h ⟨(ltW11_h ⟨(ltW10_h ⟨(ltW9_h ⟨(ltW8_h ⟨(ltW7_h ⟨⟨⟨(ltW6_h ⟨(ltW5_h ⟨(ltW4_h ⟨(ltW3_h ⟨(ltW2_h ⟨(ltW1_h ⟨⟨(ltW0_h ⟨h, ltb111_ok k hk hc⟩ z0 z1 z2 z3 z4 z5 z6 z7 z8 z9 z10 z11 k hk), ltb112_ok⟩, ltb113_ok z0 z1⟩ z0 z1 z2 z3 z4 z5 z6 z7 z8 z9 z10 z11 k hk), ltb114_ok z0 z1⟩ z0 z1 z2 z3 z4 z5 z6 z7 z8 z9 z10 z11 k hk), ltb115_ok⟩ z0 z1 z2 z3 z4 z5 z6 z7 z8 z9 z10 z11 k hk), ltb116_ok z0 z1⟩ z0 z1 z2 z3 z4 z5 z6 z7 z8 z9 z10 z11 k hk), ltb117_ok⟩ z0 z1 z2 z3 z4 z5 z6 z7 z8 z9 z10 z11 k hk), ltb118_ok z0 z1⟩ z0 z1 z2 z3 z4 z5 z6 z7 z8 z9 z10 z11 k hk), ltb119_ok⟩, ltb12_ok⟩, ltb12_ok⟩ z0 z1 z2 z3 z4 z5 z6 z7 z8 z9 z10 z11 k hk), ltb120_ok z0 z1⟩ z0 z1 z2 z3 z4 z5 z6 z7 z8 z9 z10 z11 k hk), ltb121_ok⟩ z0 z1 z2 z3 z4 z5 z6 z7 z8 z9 z10 z11 k hk), ltb122_ok z0 z1⟩ z0 z1 z2 z3 z4 z5 z6 z7 z8 z9 z10 z11 k hk), ltb123_ok⟩ z0 z1 z2 z3 z4 z5 z6 z7 z8 z9 z10 z11 k hk), ltb124_ok z0 z1⟩ z0 z1 z2 z3 z4 z5 z6 z7 z8 z9 z10 z11 k hk), ltb125_ok⟩ z0 z1 z2 z3 z4 z5 z6 z7 z8 z9 z10 z11 k hk), ltb126_ok z0 z1⟩, ltb30_ok⟩, ltb94_ok z0 z1 z2 z3 z4 z5 z6 z7 z8 z9 z10 z11⟩, ltb94_ok z0 z1 z2 z3 z4 z5 z6 z7 z8 z9 z10 z11⟩
def ltT3 (P : Prop) (z0 z1 z2 z3 z4 z5 z6 z7 z8 z9 z10 z11 k : Int) : Prop := (((((ltW13 ((ltW12 ((ltW11 ((ltW10 ((ltW9 ((((ltW8 ((ltW7 ((ltW6 ((ltW5 ((ltW4 ((ltW3 ((ltW2 ((ltW1 (((ltW0 (P ∧ ltb127 k) z0 z1 z2 z3 z4 z5 z6 z7 z8 z9 z10 z11 k) ∧ ltb128) ∧ ltb129 z0 z1) z0 z1 z2 z3 z4 z5 z6 z7 z8 z9 z10 z11 k) ∧ ltb130 z0 z1) z0 z1 z2 z3 z4 z5 z6 z7 z8 z9 z10 z11 k) ∧ ltb131) z0 z1 z2 z3 z4 z5 z6 z7 z8 z9 z10 z11 k) ∧ ltb132 z0 z1) z0 z1 z2 z3 z4 z5 z6 z7 z8 z9 z10 z11 k) ∧ ltb133) z0 z1 z2 z3 z4 z5 z6 z7 z8 z9 z10 z11 k) ∧ ltb134 z0 z1) z0 z1 z2 z3 z4 z5 z6 z7 z8 z9 z10 z11 k) ∧ ltb135) z0 z1 z2 z3 z4 z5 z6 z7 z8 z9 z10 z11 k) ∧ ltb136 z0 z1) z0 z1 z2 z3 z4 z5 z6 z7 z8 z9 z10 z11 k) ∧ ltb137) ∧ ltb12) ∧ ltb12) z0 z1 z2 z3 z4 z5 z6 z7 z8 z9 z10 z11 k) ∧ ltb138 z0 z1) z0 z1 z2 z3 z4 z5 z6 z7 z8 z9 z10 z11 k) ∧ ltb139) z0 z1 z2 z3 z4 z5 z6 z7 z8 z9 z10 z11 k) ∧ ltb140 z0 z1) z0 z1 z2 z3 z4 z5 z6 z7 z8 z9 z10 z11 k) ∧ ltb141) z0 z1 z2 z3 z4 z5 z6 z7 z8 z9 z10 z11 k) ∧ ltb142 z0 z1) ∧ ltb30) ∧ ltb94 z0 z1 z2 z3 z4 z5 z6 z7 z8 z9 z10 z11) ∧ ltb94 z0 z1 z2 z3 z4 z5 z6 z7 z8 z9 z10 z11)
theorem ltT3_h {P : Prop} (h : P) (z0 z1 z2 z3 z4 z5 z6 z7 z8 z9 z10 z11 k : Int) (hk : -128 ≤ k ∧ k ≤ 127) (hc : (k.tmod 6 + 6).tmod 6 = 3) : ltT3 P z0 z1 z2 z3 z4 z5 z6 z7 z8 z9 z10 z11 k := ⟨⟨⟨⟨(ltW13_h ⟨(ltW12_h ⟨(ltW11_h ⟨(ltW10_h ⟨(ltW9_h ⟨⟨⟨(ltW8_h ⟨(ltW7_h ⟨(ltW6_h ⟨(ltW5_h ⟨(ltW4_h ⟨(ltW3_h ⟨(ltW2_h ⟨(ltW1_h ⟨⟨(ltW0_h ⟨h, ltb127_ok k hk hc⟩ z0 z1 z2 z3 z4 z5 z6 z7 z8 z9 z10 z11 k hk), ltb128_ok⟩, ltb129_ok z0 z1⟩ z0 z1 z2 z3 z4 z5 z6 z7 z8 z9 z10 z11 k hk), ltb130_ok z0 z1⟩ z0 z1 z2 z3 z4 z5 z6 z7 z8 z9 z10 z11 k hk), ltb131_ok⟩ z0 z1 z2 z3 z4 z5 z6 z7 z8 z9 z10 z11 k hk), ltb132_ok z0 z1⟩ z0 z1 z2 z3 z4 z5 z6 z7 z8 z9 z10 z11 k hk), ltb133_ok⟩ z0 z1 z2 z3 z4 z5 z6 z7 z8 z9 z10 z11 k hk), ltb134_ok z0 z1⟩ z0 z1 z2 z3 z4 z5 z6 z7 z8 z9 z10 z11 k hk), ltb135_ok⟩ z0 z1 z2 z3 z4 z5 z6 z7 z8 z9 z10 z11 k hk), ltb136_ok z0 z1⟩ z0 z1 z2 z3 z4 z5 z6 z7 z8 z9 z10 z11 k hk), ltb137_ok⟩, ltb12_ok⟩, ltb12_ok⟩ z0 z1 z2 z3 z4 z5 z6 z7 z8 z9 z10 z11 k hk), ltb138_ok z0 z1⟩ z0 z1 z2 z3 z4 z5 z6 z7 z8 z9 z10 z11 k hk), ltb139_ok⟩ z0 z1 z2 z3 z4 z5 z6 z7 z8 z9 z10 z11 k hk), ltb140_ok z0 z1⟩ z0 z1 z2 z3 z4 z5 z6 z7 z8 z9 z10 z11 k hk), ltb141_ok⟩ z0 z1 z2 z3 z4 z5 z6 z7 z8 z9 z10 z11 k hk), ltb142_ok z0 z1⟩, ltb30_ok⟩, ltb94_ok z0 z1 z2 z3 z4 z5 z6 z7 z8 z9 z10 z11⟩, ltb94_ok z0 z1 z2 z3 z4 z5 z6 z7 z8 z9 z10 z11⟩
def ltT4 (P : Prop) (z0 z1 z2 z3 z4 z5 z6 z7 z8 z9 z10 z11 k : Int) : Prop := (((((ltW13 ((ltW12 ((ltW11 ((((ltW10 ((ltW9 ((ltW8 ((ltW7 ((ltW6 ((ltW5 ((ltW4 ((ltW3 ((ltW2 ((ltW1 (((ltW0 (P ∧ ltb143 k) z0 z1 z2 z3 z4 z5 z6 z7 z8 z9 z10 z11 k) ∧ ltb144) ∧ ltb145 z0 z1) z0 z1 z2 z3 z4 z5 z6 z7 z8 z9 z10 z11 k) ∧ ltb146 z0 z1) z0 z1 z2 z3 z4 z5 z6 z7 z8 z9 z10 z11 k) ∧ ltb147) z0 z1 z2 z3 z4 z5 z6 z7 z8 z9 z10 z11 k) ∧ ltb148 z0 z1) z0 z1 z2 z3 z4 z5 z6 z7 z8 z9 z10 z11 k) ∧ ltb149) z0 z1 z2 z3 z4 z5 z6 z7 z8 z9 z10 z11 k) ∧ ltb150 z0 z1) z0 z1 z2 z3 z4 z5 z6 z7 z8 z9 z10 z11 k) ∧ ltb151) z0 z1 z2 z3 z4 z5 z6 z7 z8 z9 z10 z11 k) ∧ ltb152 z0 z1) z0 z1 z2 z3 z4 z5 z6 z7 z8 z9 z10 z11 k) ∧ ltb153) z0 z1 z2 z3 z4 z5 z6 z7 z8 z9 z10 z11 k) ∧ ltb154 z0 z1) z0 z1 z2 z3 z4 z5 z6 z7 z8 z9 z10 z11 k) ∧ ltb155) ∧ ltb12) ∧ ltb12) z0 z1 z2 z3 z4 z5 z6 z7 z8 z9 z10 z11 k) ∧ ltb156 z0 z1) z0 z1 z2 z3 z4 z5 z6 z7 z8 z9 z10 z11 k) ∧ ltb157) z0 z1 z2 z3 z4 z5 z6 z7 z8 z9 z10 z11 k) ∧ ltb158 z0 z1) ∧ ltb30) ∧ ltb94 z0 z1 z2 z3 z4 z5 z6 z7 z8 z9 z10 z11) ∧ ltb94 z0 z1 z2 z3 z4 z5 z6 z7 z8 z9 z10 z11)
theorem ltT4_h {P : Prop} (h : P) (z0 z1 z2 z3 z4 z5 z6 z7 z8 z9 z10 z11 k : Int) (hk : -128 ≤ k ∧ k ≤ 127) (hc : (k.tmod 6 + 6).tmod 6 = 4) : ltT4 P z0 z1 z2 z3 z4 z5 z6 z7 z8 z9 z10 z11 k := ⟨⟨⟨⟨(ltW13_h ⟨(ltW12_h ⟨(ltW11_h ⟨⟨⟨(ltW10_h ⟨(ltW9_h ⟨(ltW8_h ⟨(ltW7_h ⟨(ltW6_h ⟨(ltW5_h ⟨(ltW4_h ⟨(ltW3_h ⟨(ltW2_h ⟨(ltW1_h ⟨⟨(ltW0_h ⟨h, ltb143_ok k hk hc⟩ z0 z1 z2 z3 z4 z5 z6 z7 z8 z9 z10 z11 k hk), ltb144_ok⟩, ltb145_ok z0 z1⟩ z0 z1 z2 z3 z4 z5 z6 z7 z8 z9 z10 z11 k hk), ltb146_ok z0 z1⟩ z0 z1 z2 z3 z4 z5 z6 z7 z8 z9 z10 z11 k hk), ltb147_ok⟩ z0 z1 z2 z3 z4 z5 z6 z7 z8 z9 z10 z11 k hk), ltb148_ok z0 z1⟩ z0 z1 z2 z3 z4 z5 z6 z7 z8 z9 z10 z11 k hk), ltb149_ok⟩ z0 z1 z2 z3 z4 z5 z6 z7 z8 z9 z10 z11 k hk), ltb150_ok z0 z1⟩ z0 z1 z2 z3 z4 z5 z6 z7 z8 z9 z10 z11 k hk), ltb151_ok⟩ z0 z1 z2 z3 z4 z5 z6 z7 z8 z9 z10 z11 k hk), ltb152_ok z0 z1⟩ z0 z1 z2 z3 z4 z5 z6 z7 z8 z9 z10 z11 k hk), ltb153_ok⟩ z0 z1 z2 z3 z4 z5 z6 z7 z8 z9 z10 z11 k hk), ltb154_ok z0 z1⟩ z0 z1 z2 z3 z4 z5 z6 z7 z8 z9 z10 z11 k hk), ltb155_ok⟩, ltb12_ok⟩, ltb12_ok⟩ z0 z1 z2 z3 z4 z5 z6 z7 z8 z9 z10 z11 k hk), ltb156_ok z0 z1⟩ z0 z1 z2 z3 z4 z5 z6 z7 z8 z9 z10 z11 k hk), ltb157_ok⟩ z0 z1 z2 z3 z4 z5 z6 z7 z8 z9 z10 z11 k hk), ltb158_ok z0 z1⟩, ltb30_ok⟩, ltb94_ok z0 z1 z2 z3 z4 z5 z6 z7 z8 z9 z10 z11⟩, ltb94_ok z0 z1 z2 z3 z4 z5 z6 z7 z8 z9 z10 z11⟩
def ltW14 (P : Prop) (z0 z1 z2 z3 z4 z5 z6 z7 z8 z9 z10 z11 k : Int) : Prop := ((((P ∧ ltb174 z0 z1) ∧ ltb30) ∧ ltb94 z0 z1 z2 z3 z4 z5 z6 z7 z8 z9 z10 z11) ∧ ltb94 z0 z1 z2 z3 z4 z5 z6 z7 z8 z9 z10 z11)
theorem ltW14_h {P : Prop} (h : P) (z0 z1 z2 z3 z4 z5 z6 z7 z8 z9 z10 z11 k : Int) (hk : -128 ≤ k ∧ k ≤ 127) : ltW14 P z0 z1 z2 z3 z4 z5 z6 z7 z8 z9 z10 z11 k := ⟨⟨⟨⟨h, ltb174_ok z0 z1⟩, ltb30_ok⟩, ltb94_ok z0 z1 z2 z3 z4 z5 z6 z7 z8 z9 z10 z11⟩, ltb94_ok z0 z1 z2 z3 z4 z5 z6 z7 z8 z9 z10 z11⟩
def ltT5 (P : Prop) (z0 z1 z2 z3 z4 z5 z6 z7 z8 z9 z10 z11 k : Int) : Prop := (ltW14 (ltW13 ((((ltW12 ((ltW11 ((ltW10 ((ltW9 ((ltW8 ((ltW7 ((ltW6 ((ltW5 ((ltW4 ((ltW3 ((ltW2 ((ltW1 (((ltW0 (P ∧ ltb159 k) z0 z1 z2 z3 z4 z5 z6 z7 z8 z9 z10 z11 k) ∧ ltb160) ∧ ltb161 z0 z1) z0 z1 z2 z3 z4 z5 z6 z7 z8 z9 z10 z11 k) ∧ ltb162 z0 z1) z0 z1 z2 z3 z4 z5 z6 z7 z8 z9 z10 z11 k) ∧ ltb163) z0 z1 z2 z3 z4 z5 z6 z7 z8 z9 z10 z11 k) ∧ ltb164 z0 z1) z0 z1 z2 z3 z4 z5 z6 z7 z8 z9 z10 z11 k) ∧ ltb165) z0 z1 z2 z3 z4 z5 z6 z7 z8 z9 z10 z11 k) ∧ ltb166 z0 z1) z0 z1 z2 z3 z4 z5 z6 z7 z8 z9 z10 z11 k) ∧ ltb167) z0 z1 z2 z3 z4 z5 z6 z7 z8 z9 z10 z11 k) ∧ ltb168 z0 z1) z0 z1 z2 z3 z4 z5 z6 z7 z8 z9 z10 z11 k) ∧ ltb169) z0 z1 z2 z3 z4 z5 z6 z7 z8 z9 z10 z11 k) ∧ ltb170 z0 z1) z0 z1 z2 z3 z4 z5 z6 z7 z8 z9 z10 z11 k) ∧ ltb171) z0 z1 z2 z3 z4 z5 z6 z7 z8 z9 z10 z11 k) ∧ ltb172 z0 z1) z0 z1 z2 z3 z4 z5 z6 z7 z8 z9 z10 z11 k) ∧ ltb173) ∧ ltb12) ∧ ltb12) z0 z1 z2 z3 z4 z5 z6 z7 z8 z9 z10 z11 k) z0 z1 z2 z3 z4 z5 z6 z7 z8 z9 z10 z11 k)
theorem ltT5_h {P : Prop} (h : P) (z0 z1 z2 z3 z4 z5 z6 z7 z8 z9 z10 z11 k : Int) (hk : -128 ≤ k ∧ k ≤ 127) (hc : (k.tmod 6 + 6).tmod 6 = 5) : ltT5 P z0 z1 z2 z3 z4 z5 z6 z7 z8 z9 z10 z11 k := (ltW14_h (ltW13_h ⟨⟨⟨(ltW12_h ⟨(ltW11_h ⟨(ltW10_h ⟨(ltW9_h ⟨(ltW8_h ⟨(ltW7_h ⟨(ltW6_h ⟨(ltW5_h ⟨(ltW4_h ⟨(ltW3_h ⟨(ltW2_h ⟨(ltW1_h ⟨⟨(ltW0_h ⟨h, ltb159_ok k hk hc⟩ z0 z1 z2 z3 z4 z5 z6 z7 z8 z9 z10 z11 k hk), ltb160_ok⟩, ltb161_ok z0 z1⟩ z0 z1 z2 z3 z4 z5 z6 z7 z8 z9 z10 z11 k hk), ltb162_ok z0 z1⟩ z0 z1 z2 z3 z4 z5 z6 z7 z8 z9 z10 z11 k hk), ltb163_ok⟩ z0 z1 z2 z3 z4 z5 z6 z7 z8 z9 z10 z11 k hk), ltb164_ok z0 z1⟩ z0 z1 z2 z3 z4 z5 z6 z7 z8 z9 z10 z11 k hk), ltb165_ok⟩ z0 z1 z2 z3 z4 z5 z6 z7 z8 z9 z10 z11 k hk), ltb166_ok z0 z1⟩ z0 z1 z2 z3 z4 z5 z6 z7 z8 z9 z10 z11 k hk), ltb167_ok⟩ z0 z1 z2 z3 z4 z5 z6 z7 z8 z9 z10 z11 k hk), ltb168_ok z0 z1⟩ z0 z1 z2 z3 z4 z5 z6 z7 z8 z9 z10 z11 k hk), ltb169_ok⟩ z0 z1 z2 z3 z4 z5 z6 z7 z8 z9 z10 z11 k hk), ltb170_ok z0 z1⟩ z0 z1 z2 z3 z4 z5 z6 z7 z8 z9 z10 z11 k hk), ltb171_ok⟩ z0 z1 z2 z3 z4 z5 z6 z7 z8 z9 z10 z11 k hk), ltb172_ok z0 z1⟩ z0 z1 z2 z3 z4 z5 z6 z7 z8 z9 z10 z11 k hk), ltb173_ok⟩, ltb12_ok⟩, ltb12_ok⟩ z0 z1 z2 z3 z4 z5 z6 z7 z8 z9 z10 z11 k hk) z0 z1 z2 z3 z4 z5 z6 z7 z8 z9 z10 z11 k hk)
end Go.Proofs.YtjpffbekhfkibaaGreatDoor
end
section
set_option linter.all false
set_option maxRecDepth 1000000
set_option maxHeartbeats 1000000
open Go.RowKit
namespace Go.Proofs.YtjpffbekhfkibaaGreatDoor
open Mini
noncomputable def lt_0 (m c : Nat) (g : Nat → Nat → Int) (e : TypeId) (z0 z1 z2 z3 z4 z5 z6 z7 z8 z9 z10 z11 k : Int) : Option OutS := evFS Tryz.prog ltX 1000 3 (ltArgs (m + 1) c z0 z1 z2 z3 z4 z5 z6 z7 z8 z9 z10 z11 k) (ltS (m + 1) g e) ⟨[0, .lp 492581209243796 (tlA0 (m + 1) c k) 0 (awT ++ [rowB 2 (m + 1) g e true 0 true, .cells [.int .i8 z0, .int .i8 z1, .int .i8 z2, .int .i8 z3, .int .i8 z4, .int .i8 z5, .int .i8 z6, .int .i8 z7, .int .i8 z8, .int .i8 z9, .int .i8 z10, .int .i8 z11] 25 false 0 false]) (.exit 0) (tlE1 k m) (awT ++ [rowB 2 (m + 1) g e true 0 true, .cells [.int .i8 z0, .int .i8 z1, .int .i8 z2, .int .i8 z3, .int .i8 z4, .int .i8 z5, .int .i8 z6, .int .i8 z7, .int .i8 z8, .int .i8 z9, .int .i8 z10, .int .i8 z11] 25 false 0 false, tlO g (m + 1)]) 64 0, .row 0 0, .azz (.int .i64 k), 1, 0, .row 0 0, .azz (.int .i64 k), .azz (.int .i64 (-k)), 1, 1, 1, 1, 1, 0, 0, 1, 0, 0, 0, 1, 1, 1, 1, 1, 2, 1, 2, 2, 2, 3, 1, 3, 3, 3, 4, 1, 4, 4, 4, 5, 1, 5, 5, 5, 0, 0, 2, 1, 1, 1, 0, 1, 1, 1, 1, 1, 0, 0, 1, 1, 0, 1, 2, 0, 1, 3, 0, 1, 4, 0, 1, 5, 0, 0, 1, 0, 0, 1, 1, 1, 0, 0, .azz (.int .i64 k), .azz (.int .i64 (k.tmod 6)), .azz (.int .i64 (k.tmod 6 + 6)), .azz (.int .i64 0), 0, 0, 0, 0, 0, 0, .azz (.int .i64 (0)), 2, 1, 1, 1, 0, 0, 0, 1, 0, 0, 0, 1, 0, 0, 1, 1, 0, 1, 1, 1, 1, 1, 1, 1, 1, 0, 1, 1, 0, 1, 1, 1, 0, 1, 1, 0, 1, 1, 1, 0, 0, 1, 1, 1, 1, 0, 1, 1, 1, 1, 1, 1, 1, 1, 2, 1, 1, 0, 1, 1, 1, 1, 1, 1, 0, 1, 1, 1, 1, 1, 1, 0, 0, 1, 2, 2, 2, 0, 1, 1, 2, 1, 1, 1, 1, 1, 3, 1, 1, 0, 1, 1, 2, 1, 1, 1, 0, 1, 1, 2, 1, 1, 1, 0, 0, 1, 3, 3, 3, 0, 1, 1, 3, 1, 1, 1, 1, 1, 4, 1, 1, 0, 1, 1, 3, 1, 1, 1, 0, 1, 1, 3, 1, 1, 1, 0, 0, 1, 4, 4, 4, 0, 1, 1, 4, 1, 1, 1, 1, 1, 5, 1, 1, 0, 1, 1, 4, 1, 1, 1, 0, 1, 1, 4, 1, 1, 1, 0, 0, 1, 5, 5, 5, 0, 1, 1, 5, 1, 1, 1, 1, 1, 0, 1, 1, 0, 1, 1, 5, 1, 1, 1, 0, 1, 1, 5, 1, 1, 1, 0, 0, 0, 1, 1], True⟩
def lt_0_ob (m c : Nat) (g : Nat → Nat → Int) (e : TypeId) (z0 z1 z2 z3 z4 z5 z6 z7 z8 z9 z10 z11 k : Int) : Prop := ltT0 (ltS1 (((((((((((((((((True ∧ ltb0 m) ∧ ltb1 m c g e z0 z1 z2 z3 z4 z5 z6 z7 z8 z9 z10 z11 k) ∧ ltb2 m) ∧ ltb3 k) ∧ ltb4 m g k) ∧ ltb5) ∧ ltb2 m) ∧ ltb3 k) ∧ ltb6 k) ∧ ltb7 m g k) ∧ ltb5) ∧ ltb5) ∧ ltb5) ∧ ltb8 m g k) ∧ ltb5) ∧ ltb5) ∧ ltb9 m g k) z0 z1 z2 z3 z4 z5 z6 z7 z8 z9 z10 z11 k) z0 z1 z2 z3 z4 z5 z6 z7 z8 z9 z10 z11 k
theorem lt_0_o (m c : Nat) (g : Nat → Nat → Int) (e : TypeId) (z0 z1 z2 z3 z4 z5 z6 z7 z8 z9 z10 z11 k : Int) : obZ (lt_0 m c g e z0 z1 z2 z3 z4 z5 z6 z7 z8 z9 z10 z11 k) = lt_0_ob m c g e z0 z1 z2 z3 z4 z5 z6 z7 z8 z9 z10 z11 k := by kernel_rfl
theorem lt_0_g (m c : Nat) (g : Nat → Nat → Int) (e : TypeId) (z0 z1 z2 z3 z4 z5 z6 z7 z8 z9 z10 z11 k : Int) : goodZ (lt_0 m c g e z0 z1 z2 z3 z4 z5 z6 z7 z8 z9 z10 z11 k) = true := by kernel_rfl
theorem lt_0_h (m c : Nat) (g : Nat → Nat → Int) (e : TypeId) (z0 z1 z2 z3 z4 z5 z6 z7 z8 z9 z10 z11 k : Int) (hi : m + 1 ≤ 12) (hk : -128 ≤ k ∧ k ≤ 127) (hc : (k.tmod 6 + 6).tmod 6 = 0) : lt_0_ob m c g e z0 z1 z2 z3 z4 z5 z6 z7 z8 z9 z10 z11 k := ltT0_h (ltS1_h (show (((((((((((((((((True ∧ ltb0 m) ∧ ltb1 m c g e z0 z1 z2 z3 z4 z5 z6 z7 z8 z9 z10 z11 k) ∧ ltb2 m) ∧ ltb3 k) ∧ ltb4 m g k) ∧ ltb5) ∧ ltb2 m) ∧ ltb3 k) ∧ ltb6 k) ∧ ltb7 m g k) ∧ ltb5) ∧ ltb5) ∧ ltb5) ∧ ltb8 m g k) ∧ ltb5) ∧ ltb5) ∧ ltb9 m g k) from ⟨⟨⟨⟨⟨⟨⟨⟨⟨⟨⟨⟨⟨⟨⟨⟨⟨trivial, ltb0_ok m hi⟩, ltb1_ok m c g e z0 z1 z2 z3 z4 z5 z6 z7 z8 z9 z10 z11 k hi hk⟩, ltb2_ok m hi⟩, ltb3_ok k hk⟩, ltb4_ok m g k hi hk⟩, ltb5_ok⟩, ltb2_ok m hi⟩, ltb3_ok k hk⟩, ltb6_ok k hk⟩, ltb7_ok m g k hi hk⟩, ltb5_ok⟩, ltb5_ok⟩, ltb5_ok⟩, ltb8_ok m g k hi hk⟩, ltb5_ok⟩, ltb5_ok⟩, ltb9_ok m g k hi hk⟩) z0 z1 z2 z3 z4 z5 z6 z7 z8 z9 z10 z11 k hk) z0 z1 z2 z3 z4 z5 z6 z7 z8 z9 z10 z11 k hk hc
theorem lt_0_true (m c : Nat) (g : Nat → Nat → Int) (e : TypeId) (z0 z1 z2 z3 z4 z5 z6 z7 z8 z9 z10 z11 k : Int) (hi : m + 1 ≤ 12) (hk : -128 ≤ k ∧ k ≤ 127) (hc : (k.tmod 6 + 6).tmod 6 = 0) : ∃ s1 R, SndF Tryz.prog 3 (ltArgs (m + 1) c z0 z1 z2 z3 z4 z5 z6 z7 z8 z9 z10 z11 k) (ltS (m + 1) g e) (.bool true) s1 R 0 :=
  sndZ (r := lt_0 m c g e z0 z1 z2 z3 z4 z5 z6 z7 z8 z9 z10 z11 k) (by delta lt_0; exact Eq.refl _) smx ltX_ok (lt_0_g m c g e z0 z1 z2 z3 z4 z5 z6 z7 z8 z9 z10 z11 k) ((lt_0_o m c g e z0 z1 z2 z3 z4 z5 z6 z7 z8 z9 z10 z11 k).symm ▸ lt_0_h m c g e z0 z1 z2 z3 z4 z5 z6 z7 z8 z9 z10 z11 k hi hk hc)
end Go.Proofs.YtjpffbekhfkibaaGreatDoor
end
section
set_option linter.all false
set_option maxRecDepth 1000000
set_option maxHeartbeats 1000000
open Go.RowKit
namespace Go.Proofs.YtjpffbekhfkibaaGreatDoor
open Mini
noncomputable def lt_1 (m c : Nat) (g : Nat → Nat → Int) (e : TypeId) (z0 z1 z2 z3 z4 z5 z6 z7 z8 z9 z10 z11 k : Int) : Option OutS := evFS Tryz.prog ltX 1000 3 (ltArgs (m + 1) c z0 z1 z2 z3 z4 z5 z6 z7 z8 z9 z10 z11 k) (ltS (m + 1) g e) ⟨[0, .lp 492581209243796 (tlA0 (m + 1) c k) 0 (awT ++ [rowB 2 (m + 1) g e true 0 true, .cells [.int .i8 z0, .int .i8 z1, .int .i8 z2, .int .i8 z3, .int .i8 z4, .int .i8 z5, .int .i8 z6, .int .i8 z7, .int .i8 z8, .int .i8 z9, .int .i8 z10, .int .i8 z11] 25 false 0 false]) (.exit 0) (tlE1 k m) (awT ++ [rowB 2 (m + 1) g e true 0 true, .cells [.int .i8 z0, .int .i8 z1, .int .i8 z2, .int .i8 z3, .int .i8 z4, .int .i8 z5, .int .i8 z6, .int .i8 z7, .int .i8 z8, .int .i8 z9, .int .i8 z10, .int .i8 z11] 25 false 0 false, tlO g (m + 1)]) 64 0, .row 0 0, .azz (.int .i64 k), 1, 0, .row 0 0, .azz (.int .i64 k), .azz (.int .i64 (-k)), 1, 1, 1, 1, 1, 0, 0, 1, 0, 0, 0, 1, 1, 1, 1, 1, 2, 1, 2, 2, 2, 3, 1, 3, 3, 3, 4, 1, 4, 4, 4, 5, 1, 5, 5, 5, 0, 0, 2, 1, 1, 1, 0, 1, 1, 1, 1, 1, 0, 0, 1, 1, 0, 1, 2, 0, 1, 3, 0, 1, 4, 0, 1, 5, 0, 0, 1, 0, 0, 1, 1, 1, 0, 0, .azz (.int .i64 k), .azz (.int .i64 (k.tmod 6)), .azz (.int .i64 (k.tmod 6 + 6)), .azz (.int .i64 1), 0, 0, 0, 0, 0, 0, .azz (.int .i64 (-1)), 2, 1, 1, 1, 0, 0, 0, 1, 0, 0, 0, 0, 1, 1, 0, 1, 1, 1, 1, 1, 1, 1, 1, 0, 1, 1, 0, 1, 1, 1, 0, 1, 1, 0, 1, 1, 1, 0, 0, 1, 1, 1, 1, 1, 0, 0, 1, 1, 1, 1, 1, 1, 1, 1, 2, 1, 1, 0, 1, 1, 1, 1, 1, 1, 0, 1, 1, 1, 1, 1, 1, 0, 0, 1, 2, 2, 2, 0, 1, 1, 2, 1, 1, 1, 1, 1, 3, 1, 1, 0, 1, 1, 2, 1, 1, 1, 0, 1, 1, 2, 1, 1, 1, 0, 0, 1, 3, 3, 3, 0, 1, 1, 3, 1, 1, 1, 1, 1, 4, 1, 1, 0, 1, 1, 3, 1, 1, 1, 0, 1, 1, 3, 1, 1, 1, 0, 0, 1, 4, 4, 4, 0, 1, 1, 4, 1, 1, 1, 1, 1, 5, 1, 1, 0, 1, 1, 4, 1, 1, 1, 0, 1, 1, 4, 1, 1, 1, 0, 0, 1, 5, 5, 5, 0, 1, 1, 5, 1, 1, 1, 1, 1, 0, 1, 1, 0, 1, 1, 5, 1, 1, 1, 0, 1, 1, 5, 1, 1, 1, 0, 0, 0, 1, 1], True⟩
def lt_1_ob (m c : Nat) (g : Nat → Nat → Int) (e : TypeId) (z0 z1 z2 z3 z4 z5 z6 z7 z8 z9 z10 z11 k : Int) : Prop := ltT1 (ltS1 (((((((((((((((((True ∧ ltb0 m) ∧ ltb1 m c g e z0 z1 z2 z3 z4 z5 z6 z7 z8 z9 z10 z11 k) ∧ ltb2 m) ∧ ltb3 k) ∧ ltb4 m g k) ∧ ltb5) ∧ ltb2 m) ∧ ltb3 k) ∧ ltb6 k) ∧ ltb7 m g k) ∧ ltb5) ∧ ltb5) ∧ ltb5) ∧ ltb8 m g k) ∧ ltb5) ∧ ltb5) ∧ ltb9 m g k) z0 z1 z2 z3 z4 z5 z6 z7 z8 z9 z10 z11 k) z0 z1 z2 z3 z4 z5 z6 z7 z8 z9 z10 z11 k
theorem lt_1_o (m c : Nat) (g : Nat → Nat → Int) (e : TypeId) (z0 z1 z2 z3 z4 z5 z6 z7 z8 z9 z10 z11 k : Int) : obZ (lt_1 m c g e z0 z1 z2 z3 z4 z5 z6 z7 z8 z9 z10 z11 k) = lt_1_ob m c g e z0 z1 z2 z3 z4 z5 z6 z7 z8 z9 z10 z11 k := by kernel_rfl
theorem lt_1_g (m c : Nat) (g : Nat → Nat → Int) (e : TypeId) (z0 z1 z2 z3 z4 z5 z6 z7 z8 z9 z10 z11 k : Int) : goodZ (lt_1 m c g e z0 z1 z2 z3 z4 z5 z6 z7 z8 z9 z10 z11 k) = true := by kernel_rfl
theorem lt_1_h (m c : Nat) (g : Nat → Nat → Int) (e : TypeId) (z0 z1 z2 z3 z4 z5 z6 z7 z8 z9 z10 z11 k : Int) (hi : m + 1 ≤ 12) (hk : -128 ≤ k ∧ k ≤ 127) (hc : (k.tmod 6 + 6).tmod 6 = 1) : lt_1_ob m c g e z0 z1 z2 z3 z4 z5 z6 z7 z8 z9 z10 z11 k := ltT1_h (ltS1_h (show (((((((((((((((((True ∧ ltb0 m) ∧ ltb1 m c g e z0 z1 z2 z3 z4 z5 z6 z7 z8 z9 z10 z11 k) ∧ ltb2 m) ∧ ltb3 k) ∧ ltb4 m g k) ∧ ltb5) ∧ ltb2 m) ∧ ltb3 k) ∧ ltb6 k) ∧ ltb7 m g k) ∧ ltb5) ∧ ltb5) ∧ ltb5) ∧ ltb8 m g k) ∧ ltb5) ∧ ltb5) ∧ ltb9 m g k) from ⟨⟨⟨⟨⟨⟨⟨⟨⟨⟨⟨⟨⟨⟨⟨⟨⟨trivial, ltb0_ok m hi⟩, ltb1_ok m c g e z0 z1 z2 z3 z4 z5 z6 z7 z8 z9 z10 z11 k hi hk⟩, ltb2_ok m hi⟩, ltb3_ok k hk⟩, ltb4_ok m g k hi hk⟩, ltb5_ok⟩, ltb2_ok m hi⟩, ltb3_ok k hk⟩, ltb6_ok k hk⟩, ltb7_ok m g k hi hk⟩, ltb5_ok⟩, ltb5_ok⟩, ltb5_ok⟩, ltb8_ok m g k hi hk⟩, ltb5_ok⟩, ltb5_ok⟩, ltb9_ok m g k hi hk⟩) z0 z1 z2 z3 z4 z5 z6 z7 z8 z9 z10 z11 k hk) z0 z1 z2 z3 z4 z5 z6 z7 z8 z9 z10 z11 k hk hc
theorem lt_1_true (m c : Nat) (g : Nat → Nat → Int) (e : TypeId) (z0 z1 z2 z3 z4 z5 z6 z7 z8 z9 z10 z11 k : Int) (hi : m + 1 ≤ 12) (hk : -128 ≤ k ∧ k ≤ 127) (hc : (k.tmod 6 + 6).tmod 6 = 1) : ∃ s1 R, SndF Tryz.prog 3 (ltArgs (m + 1) c z0 z1 z2 z3 z4 z5 z6 z7 z8 z9 z10 z11 k) (ltS (m + 1) g e) (.bool true) s1 R 0 :=
  sndZ (r := lt_1 m c g e z0 z1 z2 z3 z4 z5 z6 z7 z8 z9 z10 z11 k) (by delta lt_1; exact Eq.refl _) smx ltX_ok (lt_1_g m c g e z0 z1 z2 z3 z4 z5 z6 z7 z8 z9 z10 z11 k) ((lt_1_o m c g e z0 z1 z2 z3 z4 z5 z6 z7 z8 z9 z10 z11 k).symm ▸ lt_1_h m c g e z0 z1 z2 z3 z4 z5 z6 z7 z8 z9 z10 z11 k hi hk hc)
end Go.Proofs.YtjpffbekhfkibaaGreatDoor
end
section
set_option linter.all false
set_option maxRecDepth 1000000
set_option maxHeartbeats 1000000
open Go.RowKit
namespace Go.Proofs.YtjpffbekhfkibaaGreatDoor
open Mini
noncomputable def lt_2 (m c : Nat) (g : Nat → Nat → Int) (e : TypeId) (z0 z1 z2 z3 z4 z5 z6 z7 z8 z9 z10 z11 k : Int) : Option OutS := evFS Tryz.prog ltX 1000 3 (ltArgs (m + 1) c z0 z1 z2 z3 z4 z5 z6 z7 z8 z9 z10 z11 k) (ltS (m + 1) g e) ⟨[0, .lp 492581209243796 (tlA0 (m + 1) c k) 0 (awT ++ [rowB 2 (m + 1) g e true 0 true, .cells [.int .i8 z0, .int .i8 z1, .int .i8 z2, .int .i8 z3, .int .i8 z4, .int .i8 z5, .int .i8 z6, .int .i8 z7, .int .i8 z8, .int .i8 z9, .int .i8 z10, .int .i8 z11] 25 false 0 false]) (.exit 0) (tlE1 k m) (awT ++ [rowB 2 (m + 1) g e true 0 true, .cells [.int .i8 z0, .int .i8 z1, .int .i8 z2, .int .i8 z3, .int .i8 z4, .int .i8 z5, .int .i8 z6, .int .i8 z7, .int .i8 z8, .int .i8 z9, .int .i8 z10, .int .i8 z11] 25 false 0 false, tlO g (m + 1)]) 64 0, .row 0 0, .azz (.int .i64 k), 1, 0, .row 0 0, .azz (.int .i64 k), .azz (.int .i64 (-k)), 1, 1, 1, 1, 1, 0, 0, 1, 0, 0, 0, 1, 1, 1, 1, 1, 2, 1, 2, 2, 2, 3, 1, 3, 3, 3, 4, 1, 4, 4, 4, 5, 1, 5, 5, 5, 0, 0, 2, 1, 1, 1, 0, 1, 1, 1, 1, 1, 0, 0, 1, 1, 0, 1, 2, 0, 1, 3, 0, 1, 4, 0, 1, 5, 0, 0, 1, 0, 0, 1, 1, 1, 0, 0, .azz (.int .i64 k), .azz (.int .i64 (k.tmod 6)), .azz (.int .i64 (k.tmod 6 + 6)), .azz (.int .i64 2), 0, 0, 0, 0, 0, 0, .azz (.int .i64 (-2)), 2, 1, 1, 1, 0, 0, 0, 1, 0, 0, 0, 0, 1, 1, 0, 1, 1, 1, 1, 1, 1, 1, 1, 0, 1, 1, 0, 1, 1, 1, 0, 1, 1, 0, 1, 1, 1, 0, 0, 1, 1, 1, 1, 0, 1, 1, 1, 1, 1, 1, 1, 1, 2, 1, 1, 0, 1, 1, 1, 1, 1, 1, 0, 1, 1, 1, 1, 1, 1, 0, 0, 1, 2, 2, 2, 1, 0, 0, 1, 1, 2, 1, 1, 1, 1, 1, 3, 1, 1, 0, 1, 1, 2, 1, 1, 1, 0, 1, 1, 2, 1, 1, 1, 0, 0, 1, 3, 3, 3, 0, 1, 1, 3, 1, 1, 1, 1, 1, 4, 1, 1, 0, 1, 1, 3, 1, 1, 1, 0, 1, 1, 3, 1, 1, 1, 0, 0, 1, 4, 4, 4, 0, 1, 1, 4, 1, 1, 1, 1, 1, 5, 1, 1, 0, 1, 1, 4, 1, 1, 1, 0, 1, 1, 4, 1, 1, 1, 0, 0, 1, 5, 5, 5, 0, 1, 1, 5, 1, 1, 1, 1, 1, 0, 1, 1, 0, 1, 1, 5, 1, 1, 1, 0, 1, 1, 5, 1, 1, 1, 0, 0, 0, 1, 1], True⟩
def lt_2_ob (m c : Nat) (g : Nat → Nat → Int) (e : TypeId) (z0 z1 z2 z3 z4 z5 z6 z7 z8 z9 z10 z11 k : Int) : Prop := ltT2 (ltS1 (((((((((((((((((True ∧ ltb0 m) ∧ ltb1 m c g e z0 z1 z2 z3 z4 z5 z6 z7 z8 z9 z10 z11 k) ∧ ltb2 m) ∧ ltb3 k) ∧ ltb4 m g k) ∧ ltb5) ∧ ltb2 m) ∧ ltb3 k) ∧ ltb6 k) ∧ ltb7 m g k) ∧ ltb5) ∧ ltb5) ∧ ltb5) ∧ ltb8 m g k) ∧ ltb5) ∧ ltb5) ∧ ltb9 m g k) z0 z1 z2 z3 z4 z5 z6 z7 z8 z9 z10 z11 k) z0 z1 z2 z3 z4 z5 z6 z7 z8 z9 z10 z11 k
theorem lt_2_o (m c : Nat) (g : Nat → Nat → Int) (e : TypeId) (z0 z1 z2 z3 z4 z5 z6 z7 z8 z9 z10 z11 k : Int) : obZ (lt_2 m c g e z0 z1 z2 z3 z4 z5 z6 z7 z8 z9 z10 z11 k) = lt_2_ob m c g e z0 z1 z2 z3 z4 z5 z6 z7 z8 z9 z10 z11 k := by kernel_rfl
theorem lt_2_g (m c : Nat) (g : Nat → Nat → Int) (e : TypeId) (z0 z1 z2 z3 z4 z5 z6 z7 z8 z9 z10 z11 k : Int) : goodZ (lt_2 m c g e z0 z1 z2 z3 z4 z5 z6 z7 z8 z9 z10 z11 k) = true := by kernel_rfl
theorem lt_2_h (m c : Nat) (g : Nat → Nat → Int) (e : TypeId) (z0 z1 z2 z3 z4 z5 z6 z7 z8 z9 z10 z11 k : Int) (hi : m + 1 ≤ 12) (hk : -128 ≤ k ∧ k ≤ 127) (hc : (k.tmod 6 + 6).tmod 6 = 2) : lt_2_ob m c g e z0 z1 z2 z3 z4 z5 z6 z7 z8 z9 z10 z11 k := ltT2_h (ltS1_h (show (((((((((((((((((True ∧ ltb0 m) ∧ ltb1 m c g e z0 z1 z2 z3 z4 z5 z6 z7 z8 z9 z10 z11 k) ∧ ltb2 m) ∧ ltb3 k) ∧ ltb4 m g k) ∧ ltb5) ∧ ltb2 m) ∧ ltb3 k) ∧ ltb6 k) ∧ ltb7 m g k) ∧ ltb5) ∧ ltb5) ∧ ltb5) ∧ ltb8 m g k) ∧ ltb5) ∧ ltb5) ∧ ltb9 m g k) from ⟨⟨⟨⟨⟨⟨⟨⟨⟨⟨⟨⟨⟨⟨⟨⟨⟨trivial, ltb0_ok m hi⟩, ltb1_ok m c g e z0 z1 z2 z3 z4 z5 z6 z7 z8 z9 z10 z11 k hi hk⟩, ltb2_ok m hi⟩, ltb3_ok k hk⟩, ltb4_ok m g k hi hk⟩, ltb5_ok⟩, ltb2_ok m hi⟩, ltb3_ok k hk⟩, ltb6_ok k hk⟩, ltb7_ok m g k hi hk⟩, ltb5_ok⟩, ltb5_ok⟩, ltb5_ok⟩, ltb8_ok m g k hi hk⟩, ltb5_ok⟩, ltb5_ok⟩, ltb9_ok m g k hi hk⟩) z0 z1 z2 z3 z4 z5 z6 z7 z8 z9 z10 z11 k hk) z0 z1 z2 z3 z4 z5 z6 z7 z8 z9 z10 z11 k hk hc
theorem lt_2_true (m c : Nat) (g : Nat → Nat → Int) (e : TypeId) (z0 z1 z2 z3 z4 z5 z6 z7 z8 z9 z10 z11 k : Int) (hi : m + 1 ≤ 12) (hk : -128 ≤ k ∧ k ≤ 127) (hc : (k.tmod 6 + 6).tmod 6 = 2) : ∃ s1 R, SndF Tryz.prog 3 (ltArgs (m + 1) c z0 z1 z2 z3 z4 z5 z6 z7 z8 z9 z10 z11 k) (ltS (m + 1) g e) (.bool true) s1 R 0 :=
  sndZ (r := lt_2 m c g e z0 z1 z2 z3 z4 z5 z6 z7 z8 z9 z10 z11 k) (by delta lt_2; exact Eq.refl _) smx ltX_ok (lt_2_g m c g e z0 z1 z2 z3 z4 z5 z6 z7 z8 z9 z10 z11 k) ((lt_2_o m c g e z0 z1 z2 z3 z4 z5 z6 z7 z8 z9 z10 z11 k).symm ▸ lt_2_h m c g e z0 z1 z2 z3 z4 z5 z6 z7 z8 z9 z10 z11 k hi hk hc)
end Go.Proofs.YtjpffbekhfkibaaGreatDoor
end
section
set_option linter.all false
set_option maxRecDepth 1000000
set_option maxHeartbeats 1000000
open Go.RowKit
namespace Go.Proofs.YtjpffbekhfkibaaGreatDoor
open Mini
noncomputable def lt_3 (m c : Nat) (g : Nat → Nat → Int) (e : TypeId) (z0 z1 z2 z3 z4 z5 z6 z7 z8 z9 z10 z11 k : Int) : Option OutS := evFS Tryz.prog ltX 1000 3 (ltArgs (m + 1) c z0 z1 z2 z3 z4 z5 z6 z7 z8 z9 z10 z11 k) (ltS (m + 1) g e) ⟨[0, .lp 492581209243796 (tlA0 (m + 1) c k) 0 (awT ++ [rowB 2 (m + 1) g e true 0 true, .cells [.int .i8 z0, .int .i8 z1, .int .i8 z2, .int .i8 z3, .int .i8 z4, .int .i8 z5, .int .i8 z6, .int .i8 z7, .int .i8 z8, .int .i8 z9, .int .i8 z10, .int .i8 z11] 25 false 0 false]) (.exit 0) (tlE1 k m) (awT ++ [rowB 2 (m + 1) g e true 0 true, .cells [.int .i8 z0, .int .i8 z1, .int .i8 z2, .int .i8 z3, .int .i8 z4, .int .i8 z5, .int .i8 z6, .int .i8 z7, .int .i8 z8, .int .i8 z9, .int .i8 z10, .int .i8 z11] 25 false 0 false, tlO g (m + 1)]) 64 0, .row 0 0, .azz (.int .i64 k), 1, 0, .row 0 0, .azz (.int .i64 k), .azz (.int .i64 (-k)), 1, 1, 1, 1, 1, 0, 0, 1, 0, 0, 0, 1, 1, 1, 1, 1, 2, 1, 2, 2, 2, 3, 1, 3, 3, 3, 4, 1, 4, 4, 4, 5, 1, 5, 5, 5, 0, 0, 2, 1, 1, 1, 0, 1, 1, 1, 1, 1, 0, 0, 1, 1, 0, 1, 2, 0, 1, 3, 0, 1, 4, 0, 1, 5, 0, 0, 1, 0, 0, 1, 1, 1, 0, 0, .azz (.int .i64 k), .azz (.int .i64 (k.tmod 6)), .azz (.int .i64 (k.tmod 6 + 6)), .azz (.int .i64 3), 0, 0, 0, 0, 0, 0, .azz (.int .i64 (-3)), 2, 1, 1, 1, 0, 0, 0, 1, 0, 0, 0, 0, 1, 1, 0, 1, 1, 1, 1, 1, 1, 1, 1, 0, 1, 1, 0, 1, 1, 1, 0, 1, 1, 0, 1, 1, 1, 0, 0, 1, 1, 1, 1, 0, 1, 1, 1, 1, 1, 1, 1, 1, 2, 1, 1, 0, 1, 1, 1, 1, 1, 1, 0, 1, 1, 1, 1, 1, 1, 0, 0, 1, 2, 2, 2, 0, 1, 1, 2, 1, 1, 1, 1, 1, 3, 1, 1, 0, 1, 1, 2, 1, 1, 1, 0, 1, 1, 2, 1, 1, 1, 0, 0, 1, 3, 3, 3, 1, 0, 0, 1, 1, 3, 1, 1, 1, 1, 1, 4, 1, 1, 0, 1, 1, 3, 1, 1, 1, 0, 1, 1, 3, 1, 1, 1, 0, 0, 1, 4, 4, 4, 0, 1, 1, 4, 1, 1, 1, 1, 1, 5, 1, 1, 0, 1, 1, 4, 1, 1, 1, 0, 1, 1, 4, 1, 1, 1, 0, 0, 1, 5, 5, 5, 0, 1, 1, 5, 1, 1, 1, 1, 1, 0, 1, 1, 0, 1, 1, 5, 1, 1, 1, 0, 1, 1, 5, 1, 1, 1, 0, 0, 0, 1, 1], True⟩
def lt_3_ob (m c : Nat) (g : Nat → Nat → Int) (e : TypeId) (z0 z1 z2 z3 z4 z5 z6 z7 z8 z9 z10 z11 k : Int) : Prop := ltT3 (ltS1 (((((((((((((((((True ∧ ltb0 m) ∧ ltb1 m c g e z0 z1 z2 z3 z4 z5 z6 z7 z8 z9 z10 z11 k) ∧ ltb2 m) ∧ ltb3 k) ∧ ltb4 m g k) ∧ ltb5) ∧ ltb2 m) ∧ ltb3 k) ∧ ltb6 k) ∧ ltb7 m g k) ∧ ltb5) ∧ ltb5) ∧ ltb5) ∧ ltb8 m g k) ∧ ltb5) ∧ ltb5) ∧ ltb9 m g k) z0 z1 z2 z3 z4 z5 z6 z7 z8 z9 z10 z11 k) z0 z1 z2 z3 z4 z5 z6 z7 z8 z9 z10 z11 k
theorem lt_3_o (m c : Nat) (g : Nat → Nat → Int) (e : TypeId) (z0 z1 z2 z3 z4 z5 z6 z7 z8 z9 z10 z11 k : Int) : obZ (lt_3 m c g e z0 z1 z2 z3 z4 z5 z6 z7 z8 z9 z10 z11 k) = lt_3_ob m c g e z0 z1 z2 z3 z4 z5 z6 z7 z8 z9 z10 z11 k := by kernel_rfl
theorem lt_3_g (m c : Nat) (g : Nat → Nat → Int) (e : TypeId) (z0 z1 z2 z3 z4 z5 z6 z7 z8 z9 z10 z11 k : Int) : goodZ (lt_3 m c g e z0 z1 z2 z3 z4 z5 z6 z7 z8 z9 z10 z11 k) = true := by kernel_rfl
theorem lt_3_h (m c : Nat) (g : Nat → Nat → Int) (e : TypeId) (z0 z1 z2 z3 z4 z5 z6 z7 z8 z9 z10 z11 k : Int) (hi : m + 1 ≤ 12) (hk : -128 ≤ k ∧ k ≤ 127) (hc : (k.tmod 6 + 6).tmod 6 = 3) : lt_3_ob m c g e z0 z1 z2 z3 z4 z5 z6 z7 z8 z9 z10 z11 k := ltT3_h (ltS1_h (show (((((((((((((((((True ∧ ltb0 m) ∧ ltb1 m c g e z0 z1 z2 z3 z4 z5 z6 z7 z8 z9 z10 z11 k) ∧ ltb2 m) ∧ ltb3 k) ∧ ltb4 m g k) ∧ ltb5) ∧ ltb2 m) ∧ ltb3 k) ∧ ltb6 k) ∧ ltb7 m g k) ∧ ltb5) ∧ ltb5) ∧ ltb5) ∧ ltb8 m g k) ∧ ltb5) ∧ ltb5) ∧ ltb9 m g k) from ⟨⟨⟨⟨⟨⟨⟨⟨⟨⟨⟨⟨⟨⟨⟨⟨⟨trivial, ltb0_ok m hi⟩, ltb1_ok m c g e z0 z1 z2 z3 z4 z5 z6 z7 z8 z9 z10 z11 k hi hk⟩, ltb2_ok m hi⟩, ltb3_ok k hk⟩, ltb4_ok m g k hi hk⟩, ltb5_ok⟩, ltb2_ok m hi⟩, ltb3_ok k hk⟩, ltb6_ok k hk⟩, ltb7_ok m g k hi hk⟩, ltb5_ok⟩, ltb5_ok⟩, ltb5_ok⟩, ltb8_ok m g k hi hk⟩, ltb5_ok⟩, ltb5_ok⟩, ltb9_ok m g k hi hk⟩) z0 z1 z2 z3 z4 z5 z6 z7 z8 z9 z10 z11 k hk) z0 z1 z2 z3 z4 z5 z6 z7 z8 z9 z10 z11 k hk hc
theorem lt_3_true (m c : Nat) (g : Nat → Nat → Int) (e : TypeId) (z0 z1 z2 z3 z4 z5 z6 z7 z8 z9 z10 z11 k : Int) (hi : m + 1 ≤ 12) (hk : -128 ≤ k ∧ k ≤ 127) (hc : (k.tmod 6 + 6).tmod 6 = 3) : ∃ s1 R, SndF Tryz.prog 3 (ltArgs (m + 1) c z0 z1 z2 z3 z4 z5 z6 z7 z8 z9 z10 z11 k) (ltS (m + 1) g e) (.bool true) s1 R 0 :=
  sndZ (r := lt_3 m c g e z0 z1 z2 z3 z4 z5 z6 z7 z8 z9 z10 z11 k) (by delta lt_3; exact Eq.refl _) smx ltX_ok (lt_3_g m c g e z0 z1 z2 z3 z4 z5 z6 z7 z8 z9 z10 z11 k) ((lt_3_o m c g e z0 z1 z2 z3 z4 z5 z6 z7 z8 z9 z10 z11 k).symm ▸ lt_3_h m c g e z0 z1 z2 z3 z4 z5 z6 z7 z8 z9 z10 z11 k hi hk hc)
end Go.Proofs.YtjpffbekhfkibaaGreatDoor
end
section
set_option linter.all false
set_option maxRecDepth 1000000
set_option maxHeartbeats 1000000
open Go.RowKit
namespace Go.Proofs.YtjpffbekhfkibaaGreatDoor
open Mini
noncomputable def lt_4 (m c : Nat) (g : Nat → Nat → Int) (e : TypeId) (z0 z1 z2 z3 z4 z5 z6 z7 z8 z9 z10 z11 k : Int) : Option OutS := evFS Tryz.prog ltX 1000 3 (ltArgs (m + 1) c z0 z1 z2 z3 z4 z5 z6 z7 z8 z9 z10 z11 k) (ltS (m + 1) g e) ⟨[0, .lp 492581209243796 (tlA0 (m + 1) c k) 0 (awT ++ [rowB 2 (m + 1) g e true 0 true, .cells [.int .i8 z0, .int .i8 z1, .int .i8 z2, .int .i8 z3, .int .i8 z4, .int .i8 z5, .int .i8 z6, .int .i8 z7, .int .i8 z8, .int .i8 z9, .int .i8 z10, .int .i8 z11] 25 false 0 false]) (.exit 0) (tlE1 k m) (awT ++ [rowB 2 (m + 1) g e true 0 true, .cells [.int .i8 z0, .int .i8 z1, .int .i8 z2, .int .i8 z3, .int .i8 z4, .int .i8 z5, .int .i8 z6, .int .i8 z7, .int .i8 z8, .int .i8 z9, .int .i8 z10, .int .i8 z11] 25 false 0 false, tlO g (m + 1)]) 64 0, .row 0 0, .azz (.int .i64 k), 1, 0, .row 0 0, .azz (.int .i64 k), .azz (.int .i64 (-k)), 1, 1, 1, 1, 1, 0, 0, 1, 0, 0, 0, 1, 1, 1, 1, 1, 2, 1, 2, 2, 2, 3, 1, 3, 3, 3, 4, 1, 4, 4, 4, 5, 1, 5, 5, 5, 0, 0, 2, 1, 1, 1, 0, 1, 1, 1, 1, 1, 0, 0, 1, 1, 0, 1, 2, 0, 1, 3, 0, 1, 4, 0, 1, 5, 0, 0, 1, 0, 0, 1, 1, 1, 0, 0, .azz (.int .i64 k), .azz (.int .i64 (k.tmod 6)), .azz (.int .i64 (k.tmod 6 + 6)), .azz (.int .i64 4), 0, 0, 0, 0, 0, 0, .azz (.int .i64 (-4)), 2, 1, 1, 1, 0, 0, 0, 1, 0, 0, 0, 0, 1, 1, 0, 1, 1, 1, 1, 1, 1, 1, 1, 0, 1, 1, 0, 1, 1, 1, 0, 1, 1, 0, 1, 1, 1, 0, 0, 1, 1, 1, 1, 0, 1, 1, 1, 1, 1, 1, 1, 1, 2, 1, 1, 0, 1, 1, 1, 1, 1, 1, 0, 1, 1, 1, 1, 1, 1, 0, 0, 1, 2, 2, 2, 0, 1, 1, 2, 1, 1, 1, 1, 1, 3, 1, 1, 0, 1, 1, 2, 1, 1, 1, 0, 1, 1, 2, 1, 1, 1, 0, 0, 1, 3, 3, 3, 0, 1, 1, 3, 1, 1, 1, 1, 1, 4, 1, 1, 0, 1, 1, 3, 1, 1, 1, 0, 1, 1, 3, 1, 1, 1, 0, 0, 1, 4, 4, 4, 1, 0, 0, 1, 1, 4, 1, 1, 1, 1, 1, 5, 1, 1, 0, 1, 1, 4, 1, 1, 1, 0, 1, 1, 4, 1, 1, 1, 0, 0, 1, 5, 5, 5, 0, 1, 1, 5, 1, 1, 1, 1, 1, 0, 1, 1, 0, 1, 1, 5, 1, 1, 1, 0, 1, 1, 5, 1, 1, 1, 0, 0, 0, 1, 1], True⟩
def lt_4_ob (m c : Nat) (g : Nat → Nat → Int) (e : TypeId) (z0 z1 z2 z3 z4 z5 z6 z7 z8 z9 z10 z11 k : Int) : Prop := ltT4 (ltS1 (((((((((((((((((True ∧ ltb0 m) ∧ ltb1 m c g e z0 z1 z2 z3 z4 z5 z6 z7 z8 z9 z10 z11 k) ∧ ltb2 m) ∧ ltb3 k) ∧ ltb4 m g k) ∧ ltb5) ∧ ltb2 m) ∧ ltb3 k) ∧ ltb6 k) ∧ ltb7 m g k) ∧ ltb5) ∧ ltb5) ∧ ltb5) ∧ ltb8 m g k) ∧ ltb5) ∧ ltb5) ∧ ltb9 m g k) z0 z1 z2 z3 z4 z5 z6 z7 z8 z9 z10 z11 k) z0 z1 z2 z3 z4 z5 z6 z7 z8 z9 z10 z11 k
theorem lt_4_o (m c : Nat) (g : Nat → Nat → Int) (e : TypeId) (z0 z1 z2 z3 z4 z5 z6 z7 z8 z9 z10 z11 k : Int) : obZ (lt_4 m c g e z0 z1 z2 z3 z4 z5 z6 z7 z8 z9 z10 z11 k) = lt_4_ob m c g e z0 z1 z2 z3 z4 z5 z6 z7 z8 z9 z10 z11 k := by kernel_rfl
theorem lt_4_g (m c : Nat) (g : Nat → Nat → Int) (e : TypeId) (z0 z1 z2 z3 z4 z5 z6 z7 z8 z9 z10 z11 k : Int) : goodZ (lt_4 m c g e z0 z1 z2 z3 z4 z5 z6 z7 z8 z9 z10 z11 k) = true := by kernel_rfl
theorem lt_4_h (m c : Nat) (g : Nat → Nat → Int) (e : TypeId) (z0 z1 z2 z3 z4 z5 z6 z7 z8 z9 z10 z11 k : Int) (hi : m + 1 ≤ 12) (hk : -128 ≤ k ∧ k ≤ 127) (hc : (k.tmod 6 + 6).tmod 6 = 4) : lt_4_ob m c g e z0 z1 z2 z3 z4 z5 z6 z7 z8 z9 z10 z11 k := ltT4_h (ltS1_h (show (((((((((((((((((True ∧ ltb0 m) ∧ ltb1 m c g e z0 z1 z2 z3 z4 z5 z6 z7 z8 z9 z10 z11 k) ∧ ltb2 m) ∧ ltb3 k) ∧ ltb4 m g k) ∧ ltb5) ∧ ltb2 m) ∧ ltb3 k) ∧ ltb6 k) ∧ ltb7 m g k) ∧ ltb5) ∧ ltb5) ∧ ltb5) ∧ ltb8 m g k) ∧ ltb5) ∧ ltb5) ∧ ltb9 m g k) from ⟨⟨⟨⟨⟨⟨⟨⟨⟨⟨⟨⟨⟨⟨⟨⟨⟨trivial, ltb0_ok m hi⟩, ltb1_ok m c g e z0 z1 z2 z3 z4 z5 z6 z7 z8 z9 z10 z11 k hi hk⟩, ltb2_ok m hi⟩, ltb3_ok k hk⟩, ltb4_ok m g k hi hk⟩, ltb5_ok⟩, ltb2_ok m hi⟩, ltb3_ok k hk⟩, ltb6_ok k hk⟩, ltb7_ok m g k hi hk⟩, ltb5_ok⟩, ltb5_ok⟩, ltb5_ok⟩, ltb8_ok m g k hi hk⟩, ltb5_ok⟩, ltb5_ok⟩, ltb9_ok m g k hi hk⟩) z0 z1 z2 z3 z4 z5 z6 z7 z8 z9 z10 z11 k hk) z0 z1 z2 z3 z4 z5 z6 z7 z8 z9 z10 z11 k hk hc
theorem lt_4_true (m c : Nat) (g : Nat → Nat → Int) (e : TypeId) (z0 z1 z2 z3 z4 z5 z6 z7 z8 z9 z10 z11 k : Int) (hi : m + 1 ≤ 12) (hk : -128 ≤ k ∧ k ≤ 127) (hc : (k.tmod 6 + 6).tmod 6 = 4) : ∃ s1 R, SndF Tryz.prog 3 (ltArgs (m + 1) c z0 z1 z2 z3 z4 z5 z6 z7 z8 z9 z10 z11 k) (ltS (m + 1) g e) (.bool true) s1 R 0 :=
  sndZ (r := lt_4 m c g e z0 z1 z2 z3 z4 z5 z6 z7 z8 z9 z10 z11 k) (by delta lt_4; exact Eq.refl _) smx ltX_ok (lt_4_g m c g e z0 z1 z2 z3 z4 z5 z6 z7 z8 z9 z10 z11 k) ((lt_4_o m c g e z0 z1 z2 z3 z4 z5 z6 z7 z8 z9 z10 z11 k).symm ▸ lt_4_h m c g e z0 z1 z2 z3 z4 z5 z6 z7 z8 z9 z10 z11 k hi hk hc)
end Go.Proofs.YtjpffbekhfkibaaGreatDoor
end
section
set_option linter.all false
set_option maxRecDepth 1000000
set_option maxHeartbeats 1000000
open Go.RowKit
namespace Go.Proofs.YtjpffbekhfkibaaGreatDoor
open Mini
noncomputable def lt_5 (m c : Nat) (g : Nat → Nat → Int) (e : TypeId) (z0 z1 z2 z3 z4 z5 z6 z7 z8 z9 z10 z11 k : Int) : Option OutS := evFS Tryz.prog ltX 1000 3 (ltArgs (m + 1) c z0 z1 z2 z3 z4 z5 z6 z7 z8 z9 z10 z11 k) (ltS (m + 1) g e) ⟨[0, .lp 492581209243796 (tlA0 (m + 1) c k) 0 (awT ++ [rowB 2 (m + 1) g e true 0 true, .cells [.int .i8 z0, .int .i8 z1, .int .i8 z2, .int .i8 z3, .int .i8 z4, .int .i8 z5, .int .i8 z6, .int .i8 z7, .int .i8 z8, .int .i8 z9, .int .i8 z10, .int .i8 z11] 25 false 0 false]) (.exit 0) (tlE1 k m) (awT ++ [rowB 2 (m + 1) g e true 0 true, .cells [.int .i8 z0, .int .i8 z1, .int .i8 z2, .int .i8 z3, .int .i8 z4, .int .i8 z5, .int .i8 z6, .int .i8 z7, .int .i8 z8, .int .i8 z9, .int .i8 z10, .int .i8 z11] 25 false 0 false, tlO g (m + 1)]) 64 0, .row 0 0, .azz (.int .i64 k), 1, 0, .row 0 0, .azz (.int .i64 k), .azz (.int .i64 (-k)), 1, 1, 1, 1, 1, 0, 0, 1, 0, 0, 0, 1, 1, 1, 1, 1, 2, 1, 2, 2, 2, 3, 1, 3, 3, 3, 4, 1, 4, 4, 4, 5, 1, 5, 5, 5, 0, 0, 2, 1, 1, 1, 0, 1, 1, 1, 1, 1, 0, 0, 1, 1, 0, 1, 2, 0, 1, 3, 0, 1, 4, 0, 1, 5, 0, 0, 1, 0, 0, 1, 1, 1, 0, 0, .azz (.int .i64 k), .azz (.int .i64 (k.tmod 6)), .azz (.int .i64 (k.tmod 6 + 6)), .azz (.int .i64 5), 0, 0, 0, 0, 0, 0, .azz (.int .i64 (-5)), 2, 1, 1, 1, 0, 0, 0, 1, 0, 0, 0, 0, 1, 1, 0, 1, 1, 1, 1, 1, 1, 1, 1, 0, 1, 1, 0, 1, 1, 1, 0, 1, 1, 0, 1, 1, 1, 0, 0, 1, 1, 1, 1, 0, 1, 1, 1, 1, 1, 1, 1, 1, 2, 1, 1, 0, 1, 1, 1, 1, 1, 1, 0, 1, 1, 1, 1, 1, 1, 0, 0, 1, 2, 2, 2, 0, 1, 1, 2, 1, 1, 1, 1, 1, 3, 1, 1, 0, 1, 1, 2, 1, 1, 1, 0, 1, 1, 2, 1, 1, 1, 0, 0, 1, 3, 3, 3, 0, 1, 1, 3, 1, 1, 1, 1, 1, 4, 1, 1, 0, 1, 1, 3, 1, 1, 1, 0, 1, 1, 3, 1, 1, 1, 0, 0, 1, 4, 4, 4, 0, 1, 1, 4, 1, 1, 1, 1, 1, 5, 1, 1, 0, 1, 1, 4, 1, 1, 1, 0, 1, 1, 4, 1, 1, 1, 0, 0, 1, 5, 5, 5, 1, 0, 0, 1, 1, 5, 1, 1, 1, 1, 1, 0, 1, 1, 0, 1, 1, 5, 1, 1, 1, 0, 1, 1, 5, 1, 1, 1, 0, 0, 0, 1, 1], True⟩
def lt_5_ob (m c : Nat) (g : Nat → Nat → Int) (e : TypeId) (z0 z1 z2 z3 z4 z5 z6 z7 z8 z9 z10 z11 k : Int) : Prop := ltT5 (ltS1 (((((((((((((((((True ∧ ltb0 m) ∧ ltb1 m c g e z0 z1 z2 z3 z4 z5 z6 z7 z8 z9 z10 z11 k) ∧ ltb2 m) ∧ ltb3 k) ∧ ltb4 m g k) ∧ ltb5) ∧ ltb2 m) ∧ ltb3 k) ∧ ltb6 k) ∧ ltb7 m g k) ∧ ltb5) ∧ ltb5) ∧ ltb5) ∧ ltb8 m g k) ∧ ltb5) ∧ ltb5) ∧ ltb9 m g k) z0 z1 z2 z3 z4 z5 z6 z7 z8 z9 z10 z11 k) z0 z1 z2 z3 z4 z5 z6 z7 z8 z9 z10 z11 k
theorem lt_5_o (m c : Nat) (g : Nat → Nat → Int) (e : TypeId) (z0 z1 z2 z3 z4 z5 z6 z7 z8 z9 z10 z11 k : Int) : obZ (lt_5 m c g e z0 z1 z2 z3 z4 z5 z6 z7 z8 z9 z10 z11 k) = lt_5_ob m c g e z0 z1 z2 z3 z4 z5 z6 z7 z8 z9 z10 z11 k := by kernel_rfl
theorem lt_5_g (m c : Nat) (g : Nat → Nat → Int) (e : TypeId) (z0 z1 z2 z3 z4 z5 z6 z7 z8 z9 z10 z11 k : Int) : goodZ (lt_5 m c g e z0 z1 z2 z3 z4 z5 z6 z7 z8 z9 z10 z11 k) = true := by kernel_rfl
theorem lt_5_h (m c : Nat) (g : Nat → Nat → Int) (e : TypeId) (z0 z1 z2 z3 z4 z5 z6 z7 z8 z9 z10 z11 k : Int) (hi : m + 1 ≤ 12) (hk : -128 ≤ k ∧ k ≤ 127) (hc : (k.tmod 6 + 6).tmod 6 = 5) : lt_5_ob m c g e z0 z1 z2 z3 z4 z5 z6 z7 z8 z9 z10 z11 k := ltT5_h (ltS1_h (show (((((((((((((((((True ∧ ltb0 m) ∧ ltb1 m c g e z0 z1 z2 z3 z4 z5 z6 z7 z8 z9 z10 z11 k) ∧ ltb2 m) ∧ ltb3 k) ∧ ltb4 m g k) ∧ ltb5) ∧ ltb2 m) ∧ ltb3 k) ∧ ltb6 k) ∧ ltb7 m g k) ∧ ltb5) ∧ ltb5) ∧ ltb5) ∧ ltb8 m g k) ∧ ltb5) ∧ ltb5) ∧ ltb9 m g k) from ⟨⟨⟨⟨⟨⟨⟨⟨⟨⟨⟨⟨⟨⟨⟨⟨⟨trivial, ltb0_ok m hi⟩, ltb1_ok m c g e z0 z1 z2 z3 z4 z5 z6 z7 z8 z9 z10 z11 k hi hk⟩, ltb2_ok m hi⟩, ltb3_ok k hk⟩, ltb4_ok m g k hi hk⟩, ltb5_ok⟩, ltb2_ok m hi⟩, ltb3_ok k hk⟩, ltb6_ok k hk⟩, ltb7_ok m g k hi hk⟩, ltb5_ok⟩, ltb5_ok⟩, ltb5_ok⟩, ltb8_ok m g k hi hk⟩, ltb5_ok⟩, ltb5_ok⟩, ltb9_ok m g k hi hk⟩) z0 z1 z2 z3 z4 z5 z6 z7 z8 z9 z10 z11 k hk) z0 z1 z2 z3 z4 z5 z6 z7 z8 z9 z10 z11 k hk hc
theorem lt_5_true (m c : Nat) (g : Nat → Nat → Int) (e : TypeId) (z0 z1 z2 z3 z4 z5 z6 z7 z8 z9 z10 z11 k : Int) (hi : m + 1 ≤ 12) (hk : -128 ≤ k ∧ k ≤ 127) (hc : (k.tmod 6 + 6).tmod 6 = 5) : ∃ s1 R, SndF Tryz.prog 3 (ltArgs (m + 1) c z0 z1 z2 z3 z4 z5 z6 z7 z8 z9 z10 z11 k) (ltS (m + 1) g e) (.bool true) s1 R 0 :=
  sndZ (r := lt_5 m c g e z0 z1 z2 z3 z4 z5 z6 z7 z8 z9 z10 z11 k) (by delta lt_5; exact Eq.refl _) smx ltX_ok (lt_5_g m c g e z0 z1 z2 z3 z4 z5 z6 z7 z8 z9 z10 z11 k) ((lt_5_o m c g e z0 z1 z2 z3 z4 z5 z6 z7 z8 z9 z10 z11 k).symm ▸ lt_5_h m c g e z0 z1 z2 z3 z4 z5 z6 z7 z8 z9 z10 z11 k hi hk hc)
end Go.Proofs.YtjpffbekhfkibaaGreatDoor
end
section
set_option linter.all false
set_option maxRecDepth 1000000
set_option maxHeartbeats 1000000
open Go.RowKit
namespace Go.Proofs.YtjpffbekhfkibaaGreatDoor
open Mini
noncomputable def lz_0 (z0 z1 z2 z3 z4 z5 z6 z7 z8 z9 z10 z11 k : Int) : Option OutS := evFS Tryz.prog ltX 1000 3 #[.slice none 0 0, .agg #[.int .i8 z0, .int .i8 z1, .int .i8 z2, .int .i8 z3, .int .i8 z4, .int .i8 z5, .int .i8 z6, .int .i8 z7, .int .i8 z8, .int .i8 z9, .int .i8 z10, .int .i8 z11], .int .i8 k] awS0 ⟨[0, 0, .azz (.slice (some ⟨7, 0, none⟩) 0 0), .azz (.slice (some ⟨7, 0, none⟩) 0 0), .azz (.int .i64 k), 1, 0, .azz (.slice (some ⟨9, 0, none⟩) 0 0), .azz (.slice (some ⟨9, 0, none⟩) 0 0), .azz (.int .i64 k), .azz (.int .i64 (-k)), 1, 1, 1, 1, 0, 0, 1, 0, 0, 1, 0, 0, 0, 1, 1, 1, 1, 1, 2, 1, 2, 2, 2, 3, 1, 3, 3, 3, 4, 1, 4, 4, 4, 5, 1, 5, 5, 5, 0, 0, 2, 1, 1, 1, 0, 1, 1, 1, 1, 1, 0, 0, 1, 1, 0, 1, 2, 0, 1, 3, 0, 1, 4, 0, 1, 5, 0, 0, 1, 0, 0, 1, 1, 1, 0, 0, .azz (.int .i64 k), .azz (.int .i64 (k.tmod 6)), .azz (.int .i64 (k.tmod 6 + 6)), .azz (.int .i64 0), 0, 0, 0, 0, 0, 0, .azz (.int .i64 (0)), 2, 1, 1, 1, 0, 0, 0, 1, 0, 0, 0, 1, 0, 0, 1, 1, 0, 1, 1, 1, 1, 1, 1, 1, 1, 0, 1, 1, 0, 1, 1, 1, 0, 1, 1, 0, 1, 1, 1, 0, 0, 1, 1, 1, 1, 0, 1, 1, 1, 1, 1, 1, 1, 1, 2, 1, 1, 0, 1, 1, 1, 1, 1, 1, 0, 1, 1, 1, 1, 1, 1, 0, 0, 1, 2, 2, 2, 0, 1, 1, 2, 1, 1, 1, 1, 1, 3, 1, 1, 0, 1, 1, 2, 1, 1, 1, 0, 1, 1, 2, 1, 1, 1, 0, 0, 1, 3, 3, 3, 0, 1, 1, 3, 1, 1, 1, 1, 1, 4, 1, 1, 0, 1, 1, 3, 1, 1, 1, 0, 1, 1, 3, 1, 1, 1, 0, 0, 1, 4, 4, 4, 0, 1, 1, 4, 1, 1, 1, 1, 1, 5, 1, 1, 0, 1, 1, 4, 1, 1, 1, 0, 1, 1, 4, 1, 1, 1, 0, 0, 1, 5, 5, 5, 0, 1, 1, 5, 1, 1, 1, 1, 1, 0, 1, 1, 0, 1, 1, 5, 1, 1, 1, 0, 1, 1, 5, 1, 1, 1, 0, 0, 0, 1, 1], True⟩
def lz_0_ob (z0 z1 z2 z3 z4 z5 z6 z7 z8 z9 z10 z11 k : Int) : Prop := ltT0 (ltS1 ((((((((((((((((((((True ∧ ltb175) ∧ ltb176) ∧ ltb177) ∧ ltb177) ∧ ltb3 k) ∧ ltb178 k) ∧ ltb5) ∧ ltb179) ∧ ltb179) ∧ ltb3 k) ∧ ltb6 k) ∧ ltb180 k) ∧ ltb5) ∧ ltb5) ∧ ltb5) ∧ ltb181) ∧ ltb176) ∧ ltb5) ∧ ltb5) ∧ ltb182) z0 z1 z2 z3 z4 z5 z6 z7 z8 z9 z10 z11 k) z0 z1 z2 z3 z4 z5 z6 z7 z8 z9 z10 z11 k
theorem lz_0_o (z0 z1 z2 z3 z4 z5 z6 z7 z8 z9 z10 z11 k : Int) : obZ (lz_0 z0 z1 z2 z3 z4 z5 z6 z7 z8 z9 z10 z11 k) = lz_0_ob z0 z1 z2 z3 z4 z5 z6 z7 z8 z9 z10 z11 k := by kernel_rfl
theorem lz_0_g (z0 z1 z2 z3 z4 z5 z6 z7 z8 z9 z10 z11 k : Int) : goodZ (lz_0 z0 z1 z2 z3 z4 z5 z6 z7 z8 z9 z10 z11 k) = true := by kernel_rfl
theorem lz_0_h (z0 z1 z2 z3 z4 z5 z6 z7 z8 z9 z10 z11 k : Int) (hk : -128 ≤ k ∧ k ≤ 127) (hc : (k.tmod 6 + 6).tmod 6 = 0) : lz_0_ob z0 z1 z2 z3 z4 z5 z6 z7 z8 z9 z10 z11 k := ltT0_h (ltS1_h (show ((((((((((((((((((((True ∧ ltb175) ∧ ltb176) ∧ ltb177) ∧ ltb177) ∧ ltb3 k) ∧ ltb178 k) ∧ ltb5) ∧ ltb179) ∧ ltb179) ∧ ltb3 k) ∧ ltb6 k) ∧ ltb180 k) ∧ ltb5) ∧ ltb5) ∧ ltb5) ∧ ltb181) ∧ ltb176) ∧ ltb5) ∧ ltb5) ∧ ltb182) from ⟨⟨⟨⟨⟨⟨⟨⟨⟨⟨⟨⟨⟨⟨⟨⟨⟨⟨⟨⟨trivial, ltb175_ok⟩, ltb176_ok⟩, ltb177_ok⟩, ltb177_ok⟩, ltb3_ok k hk⟩, ltb178_ok k hk⟩, ltb5_ok⟩, ltb179_ok⟩, ltb179_ok⟩, ltb3_ok k hk⟩, ltb6_ok k hk⟩, ltb180_ok k hk⟩, ltb5_ok⟩, ltb5_ok⟩, ltb5_ok⟩, ltb181_ok⟩, ltb176_ok⟩, ltb5_ok⟩, ltb5_ok⟩, ltb182_ok⟩) z0 z1 z2 z3 z4 z5 z6 z7 z8 z9 z10 z11 k hk) z0 z1 z2 z3 z4 z5 z6 z7 z8 z9 z10 z11 k hk hc
theorem lz_0_true (z0 z1 z2 z3 z4 z5 z6 z7 z8 z9 z10 z11 k : Int) (hk : -128 ≤ k ∧ k ≤ 127) (hc : (k.tmod 6 + 6).tmod 6 = 0) : ∃ s1 R, SndF Tryz.prog 3 #[.slice none 0 0, .agg #[.int .i8 z0, .int .i8 z1, .int .i8 z2, .int .i8 z3, .int .i8 z4, .int .i8 z5, .int .i8 z6, .int .i8 z7, .int .i8 z8, .int .i8 z9, .int .i8 z10, .int .i8 z11], .int .i8 k] awS0 (.bool true) s1 R 0 :=
  sndZ (r := lz_0 z0 z1 z2 z3 z4 z5 z6 z7 z8 z9 z10 z11 k) (by delta lz_0; exact Eq.refl _) smx ltX_ok (lz_0_g z0 z1 z2 z3 z4 z5 z6 z7 z8 z9 z10 z11 k) ((lz_0_o z0 z1 z2 z3 z4 z5 z6 z7 z8 z9 z10 z11 k).symm ▸ lz_0_h z0 z1 z2 z3 z4 z5 z6 z7 z8 z9 z10 z11 k hk hc)
end Go.Proofs.YtjpffbekhfkibaaGreatDoor
end
section
set_option linter.all false
set_option maxRecDepth 1000000
set_option maxHeartbeats 1000000
open Go.RowKit
namespace Go.Proofs.YtjpffbekhfkibaaGreatDoor
open Mini
noncomputable def lz_1 (z0 z1 z2 z3 z4 z5 z6 z7 z8 z9 z10 z11 k : Int) : Option OutS := evFS Tryz.prog ltX 1000 3 #[.slice none 0 0, .agg #[.int .i8 z0, .int .i8 z1, .int .i8 z2, .int .i8 z3, .int .i8 z4, .int .i8 z5, .int .i8 z6, .int .i8 z7, .int .i8 z8, .int .i8 z9, .int .i8 z10, .int .i8 z11], .int .i8 k] awS0 ⟨[0, 0, .azz (.slice (some ⟨7, 0, none⟩) 0 0), .azz (.slice (some ⟨7, 0, none⟩) 0 0), .azz (.int .i64 k), 1, 0, .azz (.slice (some ⟨9, 0, none⟩) 0 0), .azz (.slice (some ⟨9, 0, none⟩) 0 0), .azz (.int .i64 k), .azz (.int .i64 (-k)), 1, 1, 1, 1, 0, 0, 1, 0, 0, 1, 0, 0, 0, 1, 1, 1, 1, 1, 2, 1, 2, 2, 2, 3, 1, 3, 3, 3, 4, 1, 4, 4, 4, 5, 1, 5, 5, 5, 0, 0, 2, 1, 1, 1, 0, 1, 1, 1, 1, 1, 0, 0, 1, 1, 0, 1, 2, 0, 1, 3, 0, 1, 4, 0, 1, 5, 0, 0, 1, 0, 0, 1, 1, 1, 0, 0, .azz (.int .i64 k), .azz (.int .i64 (k.tmod 6)), .azz (.int .i64 (k.tmod 6 + 6)), .azz (.int .i64 1), 0, 0, 0, 0, 0, 0, .azz (.int .i64 (-1)), 2, 1, 1, 1, 0, 0, 0, 1, 0, 0, 0, 0, 1, 1, 0, 1, 1, 1, 1, 1, 1, 1, 1, 0, 1, 1, 0, 1, 1, 1, 0, 1, 1, 0, 1, 1, 1, 0, 0, 1, 1, 1, 1, 1, 0, 0, 1, 1, 1, 1, 1, 1, 1, 1, 2, 1, 1, 0, 1, 1, 1, 1, 1, 1, 0, 1, 1, 1, 1, 1, 1, 0, 0, 1, 2, 2, 2, 0, 1, 1, 2, 1, 1, 1, 1, 1, 3, 1, 1, 0, 1, 1, 2, 1, 1, 1, 0, 1, 1, 2, 1, 1, 1, 0, 0, 1, 3, 3, 3, 0, 1, 1, 3, 1, 1, 1, 1, 1, 4, 1, 1, 0, 1, 1, 3, 1, 1, 1, 0, 1, 1, 3, 1, 1, 1, 0, 0, 1, 4, 4, 4, 0, 1, 1, 4, 1, 1, 1, 1, 1, 5, 1, 1, 0, 1, 1, 4, 1, 1, 1, 0, 1, 1, 4, 1, 1, 1, 0, 0, 1, 5, 5, 5, 0, 1, 1, 5, 1, 1, 1, 1, 1, 0, 1, 1, 0, 1, 1, 5, 1, 1, 1, 0, 1, 1, 5, 1, 1, 1, 0, 0, 0, 1, 1], True⟩
def lz_1_ob (z0 z1 z2 z3 z4 z5 z6 z7 z8 z9 z10 z11 k : Int) : Prop := ltT1 (ltS1 ((((((((((((((((((((True ∧ ltb175) ∧ ltb176) ∧ ltb177) ∧ ltb177) ∧ ltb3 k) ∧ ltb178 k) ∧ ltb5) ∧ ltb179) ∧ ltb179) ∧ ltb3 k) ∧ ltb6 k) ∧ ltb180 k) ∧ ltb5) ∧ ltb5) ∧ ltb5) ∧ ltb181) ∧ ltb176) ∧ ltb5) ∧ ltb5) ∧ ltb182) z0 z1 z2 z3 z4 z5 z6 z7 z8 z9 z10 z11 k) z0 z1 z2 z3 z4 z5 z6 z7 z8 z9 z10 z11 k
theorem lz_1_o (z0 z1 z2 z3 z4 z5 z6 z7 z8 z9 z10 z11 k : Int) : obZ (lz_1 z0 z1 z2 z3 z4 z5 z6 z7 z8 z9 z10 z11 k) = lz_1_ob z0 z1 z2 z3 z4 z5 z6 z7 z8 z9 z10 z11 k := by kernel_rfl
theorem lz_1_g (z0 z1 z2 z3 z4 z5 z6 z7 z8 z9 z10 z11 k : Int) : goodZ (lz_1 z0 z1 z2 z3 z4 z5 z6 z7 z8 z9 z10 z11 k) = true := by kernel_rfl
theorem lz_1_h (z0 z1 z2 z3 z4 z5 z6 z7 z8 z9 z10 z11 k : Int) (hk : -128 ≤ k ∧ k ≤ 127) (hc : (k.tmod 6 + 6).tmod 6 = 1) : lz_1_ob z0 z1 z2 z3 z4 z5 z6 z7 z8 z9 z10 z11 k := ltT1_h (ltS1_h (show ((((((((((((((((((((True ∧ ltb175) ∧ ltb176) ∧ ltb177) ∧ ltb177) ∧ ltb3 k) ∧ ltb178 k) ∧ ltb5) ∧ ltb179) ∧ ltb179) ∧ ltb3 k) ∧ ltb6 k) ∧ ltb180 k) ∧ ltb5) ∧ ltb5) ∧ ltb5) ∧ ltb181) ∧ ltb176) ∧ ltb5) ∧ ltb5) ∧ ltb182) from ⟨⟨⟨⟨⟨⟨⟨⟨⟨⟨⟨⟨⟨⟨⟨⟨⟨⟨⟨⟨trivial, ltb175_ok⟩, ltb176_ok⟩, ltb177_ok⟩, ltb177_ok⟩, ltb3_ok k hk⟩, ltb178_ok k hk⟩, ltb5_ok⟩, ltb179_ok⟩, ltb179_ok⟩, ltb3_ok k hk⟩, ltb6_ok k hk⟩, ltb180_ok k hk⟩, ltb5_ok⟩, ltb5_ok⟩, ltb5_ok⟩, ltb181_ok⟩, ltb176_ok⟩, ltb5_ok⟩, ltb5_ok⟩, ltb182_ok⟩) z0 z1 z2 z3 z4 z5 z6 z7 z8 z9 z10 z11 k hk) z0 z1 z2 z3 z4 z5 z6 z7 z8 z9 z10 z11 k hk hc
theorem lz_1_true (z0 z1 z2 z3 z4 z5 z6 z7 z8 z9 z10 z11 k : Int) (hk : -128 ≤ k ∧ k ≤ 127) (hc : (k.tmod 6 + 6).tmod 6 = 1) : ∃ s1 R, SndF Tryz.prog 3 #[.slice none 0 0, .agg #[.int .i8 z0, .int .i8 z1, .int .i8 z2, .int .i8 z3, .int .i8 z4, .int .i8 z5, .int .i8 z6, .int .i8 z7, .int .i8 z8, .int .i8 z9, .int .i8 z10, .int .i8 z11], .int .i8 k] awS0 (.bool true) s1 R 0 :=
  sndZ (r := lz_1 z0 z1 z2 z3 z4 z5 z6 z7 z8 z9 z10 z11 k) (by delta lz_1; exact Eq.refl _) smx ltX_ok (lz_1_g z0 z1 z2 z3 z4 z5 z6 z7 z8 z9 z10 z11 k) ((lz_1_o z0 z1 z2 z3 z4 z5 z6 z7 z8 z9 z10 z11 k).symm ▸ lz_1_h z0 z1 z2 z3 z4 z5 z6 z7 z8 z9 z10 z11 k hk hc)
end Go.Proofs.YtjpffbekhfkibaaGreatDoor
end
section
set_option linter.all false
set_option maxRecDepth 1000000
set_option maxHeartbeats 1000000
open Go.RowKit
namespace Go.Proofs.YtjpffbekhfkibaaGreatDoor
open Mini
noncomputable def lz_2 (z0 z1 z2 z3 z4 z5 z6 z7 z8 z9 z10 z11 k : Int) : Option OutS := evFS Tryz.prog ltX 1000 3 #[.slice none 0 0, .agg #[.int .i8 z0, .int .i8 z1, .int .i8 z2, .int .i8 z3, .int .i8 z4, .int .i8 z5, .int .i8 z6, .int .i8 z7, .int .i8 z8, .int .i8 z9, .int .i8 z10, .int .i8 z11], .int .i8 k] awS0 ⟨[0, 0, .azz (.slice (some ⟨7, 0, none⟩) 0 0), .azz (.slice (some ⟨7, 0, none⟩) 0 0), .azz (.int .i64 k), 1, 0, .azz (.slice (some ⟨9, 0, none⟩) 0 0), .azz (.slice (some ⟨9, 0, none⟩) 0 0), .azz (.int .i64 k), .azz (.int .i64 (-k)), 1, 1, 1, 1, 0, 0, 1, 0, 0, 1, 0, 0, 0, 1, 1, 1, 1, 1, 2, 1, 2, 2, 2, 3, 1, 3, 3, 3, 4, 1, 4, 4, 4, 5, 1, 5, 5, 5, 0, 0, 2, 1, 1, 1, 0, 1, 1, 1, 1, 1, 0, 0, 1, 1, 0, 1, 2, 0, 1, 3, 0, 1, 4, 0, 1, 5, 0, 0, 1, 0, 0, 1, 1, 1, 0, 0, .azz (.int .i64 k), .azz (.int .i64 (k.tmod 6)), .azz (.int .i64 (k.tmod 6 + 6)), .azz (.int .i64 2), 0, 0, 0, 0, 0, 0, .azz (.int .i64 (-2)), 2, 1, 1, 1, 0, 0, 0, 1, 0, 0, 0, 0, 1, 1, 0, 1, 1, 1, 1, 1, 1, 1, 1, 0, 1, 1, 0, 1, 1, 1, 0, 1, 1, 0, 1, 1, 1, 0, 0, 1, 1, 1, 1, 0, 1, 1, 1, 1, 1, 1, 1, 1, 2, 1, 1, 0, 1, 1, 1, 1, 1, 1, 0, 1, 1, 1, 1, 1, 1, 0, 0, 1, 2, 2, 2, 1, 0, 0, 1, 1, 2, 1, 1, 1, 1, 1, 3, 1, 1, 0, 1, 1, 2, 1, 1, 1, 0, 1, 1, 2, 1, 1, 1, 0, 0, 1, 3, 3, 3, 0, 1, 1, 3, 1, 1, 1, 1, 1, 4, 1, 1, 0, 1, 1, 3, 1, 1, 1, 0, 1, 1, 3, 1, 1, 1, 0, 0, 1, 4, 4, 4, 0, 1, 1, 4, 1, 1, 1, 1, 1, 5, 1, 1, 0, 1, 1, 4, 1, 1, 1, 0, 1, 1, 4, 1, 1, 1, 0, 0, 1, 5, 5, 5, 0, 1, 1, 5, 1, 1, 1, 1, 1, 0, 1, 1, 0, 1, 1, 5, 1, 1, 1, 0, 1, 1, 5, 1, 1, 1, 0, 0, 0, 1, 1], True⟩
def lz_2_ob (z0 z1 z2 z3 z4 z5 z6 z7 z8 z9 z10 z11 k : Int) : Prop := ltT2 (ltS1 ((((((((((((((((((((True ∧ ltb175) ∧ ltb176) ∧ ltb177) ∧ ltb177) ∧ ltb3 k) ∧ ltb178 k) ∧ ltb5) ∧ ltb179) ∧ ltb179) ∧ ltb3 k) ∧ ltb6 k) ∧ ltb180 k) ∧ ltb5) ∧ ltb5) ∧ ltb5) ∧ ltb181) ∧ ltb176) ∧ ltb5) ∧ ltb5) ∧ ltb182) z0 z1 z2 z3 z4 z5 z6 z7 z8 z9 z10 z11 k) z0 z1 z2 z3 z4 z5 z6 z7 z8 z9 z10 z11 k
theorem lz_2_o (z0 z1 z2 z3 z4 z5 z6 z7 z8 z9 z10 z11 k : Int) : obZ (lz_2 z0 z1 z2 z3 z4 z5 z6 z7 z8 z9 z10 z11 k) = lz_2_ob z0 z1 z2 z3 z4 z5 z6 z7 z8 z9 z10 z11 k := by kernel_rfl
theorem lz_2_g (z0 z1 z2 z3 z4 z5 z6 z7 z8 z9 z10 z11 k : Int) : goodZ (lz_2 z0 z1 z2 z3 z4 z5 z6 z7 z8 z9 z10 z11 k) = true := by kernel_rfl
theorem lz_2_h (z0 z1 z2 z3 z4 z5 z6 z7 z8 z9 z10 z11 k : Int) (hk : -128 ≤ k ∧ k ≤ 127) (hc : (k.tmod 6 + 6).tmod 6 = 2) : lz_2_ob z0 z1 z2 z3 z4 z5 z6 z7 z8 z9 z10 z11 k := ltT2_h (ltS1_h (show ((((((((((((((((((((True ∧ ltb175) ∧ ltb176) ∧ ltb177) ∧ ltb177) ∧ ltb3 k) ∧ ltb178 k) ∧ ltb5) ∧ ltb179) ∧ ltb179) ∧ ltb3 k) ∧ ltb6 k) ∧ ltb180 k) ∧ ltb5) ∧ ltb5) ∧ ltb5) ∧ ltb181) ∧ ltb176) ∧ ltb5) ∧ ltb5) ∧ ltb182) from ⟨⟨⟨⟨⟨⟨⟨⟨⟨⟨⟨⟨⟨⟨⟨⟨⟨⟨⟨⟨trivial, ltb175_ok⟩, ltb176_ok⟩, ltb177_ok⟩, ltb177_ok⟩, ltb3_ok k hk⟩, ltb178_ok k hk⟩, ltb5_ok⟩, ltb179_ok⟩, ltb179_ok⟩, ltb3_ok k hk⟩, ltb6_ok k hk⟩, ltb180_ok k hk⟩, ltb5_ok⟩, ltb5_ok⟩, ltb5_ok⟩, ltb181_ok⟩, ltb176_ok⟩, ltb5_ok⟩, ltb5_ok⟩, ltb182_ok⟩) z0 z1 z2 z3 z4 z5 z6 z7 z8 z9 z10 z11 k hk) z0 z1 z2 z3 z4 z5 z6 z7 z8 z9 z10 z11 k hk hc
theorem lz_2_true (z0 z1 z2 z3 z4 z5 z6 z7 z8 z9 z10 z11 k : Int) (hk : -128 ≤ k ∧ k ≤ 127) (hc : (k.tmod 6 + 6).tmod 6 = 2) : ∃ s1 R, SndF Tryz.prog 3 #[.slice none 0 0, .agg #[.int .i8 z0, .int .i8 z1, .int .i8 z2, .int .i8 z3, .int .i8 z4, .int .i8 z5, .int .i8 z6, .int .i8 z7, .int .i8 z8, .int .i8 z9, .int .i8 z10, .int .i8 z11], .int .i8 k] awS0 (.bool true) s1 R 0 :=
  sndZ (r := lz_2 z0 z1 z2 z3 z4 z5 z6 z7 z8 z9 z10 z11 k) (by delta lz_2; exact Eq.refl _) smx ltX_ok (lz_2_g z0 z1 z2 z3 z4 z5 z6 z7 z8 z9 z10 z11 k) ((lz_2_o z0 z1 z2 z3 z4 z5 z6 z7 z8 z9 z10 z11 k).symm ▸ lz_2_h z0 z1 z2 z3 z4 z5 z6 z7 z8 z9 z10 z11 k hk hc)
end Go.Proofs.YtjpffbekhfkibaaGreatDoor
end
section
set_option linter.all false
set_option maxRecDepth 1000000
set_option maxHeartbeats 1000000
open Go.RowKit
namespace Go.Proofs.YtjpffbekhfkibaaGreatDoor
open Mini
noncomputable def lz_3 (z0 z1 z2 z3 z4 z5 z6 z7 z8 z9 z10 z11 k : Int) : Option OutS := evFS Tryz.prog ltX 1000 3 #[.slice none 0 0, .agg #[.int .i8 z0, .int .i8 z1, .int .i8 z2, .int .i8 z3, .int .i8 z4, .int .i8 z5, .int .i8 z6, .int .i8 z7, .int .i8 z8, .int .i8 z9, .int .i8 z10, .int .i8 z11], .int .i8 k] awS0 ⟨[0, 0, .azz (.slice (some ⟨7, 0, none⟩) 0 0), .azz (.slice (some ⟨7, 0, none⟩) 0 0), .azz (.int .i64 k), 1, 0, .azz (.slice (some ⟨9, 0, none⟩) 0 0), .azz (.slice (some ⟨9, 0, none⟩) 0 0), .azz (.int .i64 k), .azz (.int .i64 (-k)), 1, 1, 1, 1, 0, 0, 1, 0, 0, 1, 0, 0, 0, 1, 1, 1, 1, 1, 2, 1, 2, 2, 2, 3, 1, 3, 3, 3, 4, 1, 4, 4, 4, 5, 1, 5, 5, 5, 0, 0, 2, 1, 1, 1, 0, 1, 1, 1, 1, 1, 0, 0, 1, 1, 0, 1, 2, 0, 1, 3, 0, 1, 4, 0, 1, 5, 0, 0, 1, 0, 0, 1, 1, 1, 0, 0, .azz (.int .i64 k), .azz (.int .i64 (k.tmod 6)), .azz (.int .i64 (k.tmod 6 + 6)), .azz (.int .i64 3), 0, 0, 0, 0, 0, 0, .azz (.int .i64 (-3)), 2, 1, 1, 1, 0, 0, 0, 1, 0, 0, 0, 0, 1, 1, 0, 1, 1, 1, 1, 1, 1, 1, 1, 0, 1, 1, 0, 1, 1, 1, 0, 1, 1, 0, 1, 1, 1, 0, 0, 1, 1, 1, 1, 0, 1, 1, 1, 1, 1, 1, 1, 1, 2, 1, 1, 0, 1, 1, 1, 1, 1, 1, 0, 1, 1, 1, 1, 1, 1, 0, 0, 1, 2, 2, 2, 0, 1, 1, 2, 1, 1, 1, 1, 1, 3, 1, 1, 0, 1, 1, 2, 1, 1, 1, 0, 1, 1, 2, 1, 1, 1, 0, 0, 1, 3, 3, 3, 1, 0, 0, 1, 1, 3, 1, 1, 1, 1, 1, 4, 1, 1, 0, 1, 1, 3, 1, 1, 1, 0, 1, 1, 3, 1, 1, 1, 0, 0, 1, 4, 4, 4, 0, 1, 1, 4, 1, 1, 1, 1, 1, 5, 1, 1, 0, 1, 1, 4, 1, 1, 1, 0, 1, 1, 4, 1, 1, 1, 0, 0, 1, 5, 5, 5, 0, 1, 1, 5, 1, 1, 1, 1, 1, 0, 1, 1, 0, 1, 1, 5, 1, 1, 1, 0, 1, 1, 5, 1, 1, 1, 0, 0, 0, 1, 1], True⟩
def lz_3_ob (z0 z1 z2 z3 z4 z5 z6 z7 z8 z9 z10 z11 k : Int) : Prop := ltT3 (ltS1 ((((((((((((((((((((True ∧ ltb175) ∧ ltb176) ∧ ltb177) ∧ ltb177) ∧ ltb3 k) ∧ ltb178 k) ∧ ltb5) ∧ ltb179) ∧ ltb179) ∧ ltb3 k) ∧ ltb6 k) ∧ ltb180 k) ∧ ltb5) ∧ ltb5) ∧ ltb5) ∧ ltb181) ∧ ltb176) ∧ ltb5) ∧ ltb5) ∧ ltb182) z0 z1 z2 z3 z4 z5 z6 z7 z8 z9 z10 z11 k) z0 z1 z2 z3 z4 z5 z6 z7 z8 z9 z10 z11 k
theorem lz_3_o (z0 z1 z2 z3 z4 z5 z6 z7 z8 z9 z10 z11 k : Int) : obZ (lz_3 z0 z1 z2 z3 z4 z5 z6 z7 z8 z9 z10 z11 k) = lz_3_ob z0 z1 z2 z3 z4 z5 z6 z7 z8 z9 z10 z11 k := by kernel_rfl
theorem lz_3_g (z0 z1 z2 z3 z4 z5 z6 z7 z8 z9 z10 z11 k : Int) : goodZ (lz_3 z0 z1 z2 z3 z4 z5 z6 z7 z8 z9 z10 z11 k) = true := by kernel_rfl
theorem lz_3_h (z0 z1 z2 z3 z4 z5 z6 z7 z8 z9 z10 z11 k : Int) (hk : -128 ≤ k ∧ k ≤ 127) (hc : (k.tmod 6 + 6).tmod 6 = 3) : lz_3_ob z0 z1 z2 z3 z4 z5 z6 z7 z8 z9 z10 z11 k := ltT3_h (ltS1_h (show ((((((((((((((((((((True ∧ ltb175) ∧ ltb176) ∧ ltb177) ∧ ltb177) ∧ ltb3 k) ∧ ltb178 k) ∧ ltb5) ∧ ltb179) ∧ ltb179) ∧ ltb3 k) ∧ ltb6 k) ∧ ltb180 k) ∧ ltb5) ∧ ltb5) ∧ ltb5) ∧ ltb181) ∧ ltb176) ∧ ltb5) ∧ ltb5) ∧ ltb182) from ⟨⟨⟨⟨⟨⟨⟨⟨⟨⟨⟨⟨⟨⟨⟨⟨⟨⟨⟨⟨trivial, ltb175_ok⟩, ltb176_ok⟩, ltb177_ok⟩, ltb177_ok⟩, ltb3_ok k hk⟩, ltb178_ok k hk⟩, ltb5_ok⟩, ltb179_ok⟩, ltb179_ok⟩, ltb3_ok k hk⟩, ltb6_ok k hk⟩, ltb180_ok k hk⟩, ltb5_ok⟩, ltb5_ok⟩, ltb5_ok⟩, ltb181_ok⟩, ltb176_ok⟩, ltb5_ok⟩, ltb5_ok⟩, ltb182_ok⟩) z0 z1 z2 z3 z4 z5 z6 z7 z8 z9 z10 z11 k hk) z0 z1 z2 z3 z4 z5 z6 z7 z8 z9 z10 z11 k hk hc
theorem lz_3_true (z0 z1 z2 z3 z4 z5 z6 z7 z8 z9 z10 z11 k : Int) (hk : -128 ≤ k ∧ k ≤ 127) (hc : (k.tmod 6 + 6).tmod 6 = 3) : ∃ s1 R, SndF Tryz.prog 3 #[.slice none 0 0, .agg #[.int .i8 z0, .int .i8 z1, .int .i8 z2, .int .i8 z3, .int .i8 z4, .int .i8 z5, .int .i8 z6, .int .i8 z7, .int .i8 z8, .int .i8 z9, .int .i8 z10, .int .i8 z11], .int .i8 k] awS0 (.bool true) s1 R 0 :=
  sndZ (r := lz_3 z0 z1 z2 z3 z4 z5 z6 z7 z8 z9 z10 z11 k) (by delta lz_3; exact Eq.refl _) smx ltX_ok (lz_3_g z0 z1 z2 z3 z4 z5 z6 z7 z8 z9 z10 z11 k) ((lz_3_o z0 z1 z2 z3 z4 z5 z6 z7 z8 z9 z10 z11 k).symm ▸ lz_3_h z0 z1 z2 z3 z4 z5 z6 z7 z8 z9 z10 z11 k hk hc)
end Go.Proofs.YtjpffbekhfkibaaGreatDoor
end
section
set_option linter.all false
set_option maxRecDepth 1000000
set_option maxHeartbeats 1000000
open Go.RowKit
namespace Go.Proofs.YtjpffbekhfkibaaGreatDoor
open Mini
noncomputable def lz_4 (z0 z1 z2 z3 z4 z5 z6 z7 z8 z9 z10 z11 k : Int) : Option OutS := evFS Tryz.prog ltX 1000 3 #[.slice none 0 0, .agg #[.int .i8 z0, .int .i8 z1, .int .i8 z2, .int .i8 z3, .int .i8 z4, .int .i8 z5, .int .i8 z6, .int .i8 z7, .int .i8 z8, .int .i8 z9, .int .i8 z10, .int .i8 z11], .int .i8 k] awS0 ⟨[0, 0, .azz (.slice (some ⟨7, 0, none⟩) 0 0), .azz (.slice (some ⟨7, 0, none⟩) 0 0), .azz (.int .i64 k), 1, 0, .azz (.slice (some ⟨9, 0, none⟩) 0 0), .azz (.slice (some ⟨9, 0, none⟩) 0 0), .azz (.int .i64 k), .azz (.int .i64 (-k)), 1, 1, 1, 1, 0, 0, 1, 0, 0, 1, 0, 0, 0, 1, 1, 1, 1, 1, 2, 1, 2, 2, 2, 3, 1, 3, 3, 3, 4, 1, 4, 4, 4, 5, 1, 5, 5, 5, 0, 0, 2, 1, 1, 1, 0, 1, 1, 1, 1, 1, 0, 0, 1, 1, 0, 1, 2, 0, 1, 3, 0, 1, 4, 0, 1, 5, 0, 0, 1, 0, 0, 1, 1, 1, 0, 0, .azz (.int .i64 k), .azz (.int .i64 (k.tmod 6)), .azz (.int .i64 (k.tmod 6 + 6)), .azz (.int .i64 4), 0, 0, 0, 0, 0, 0, .azz (.int .i64 (-4)), 2, 1, 1, 1, 0, 0, 0, 1, 0, 0, 0, 0, 1, 1, 0, 1, 1, 1, 1, 1, 1, 1, 1, 0, 1, 1, 0, 1, 1, 1, 0, 1, 1, 0, 1, 1, 1, 0, 0, 1, 1, 1, 1, 0, 1, 1, 1, 1, 1, 1, 1, 1, 2, 1, 1, 0, 1, 1, 1, 1, 1, 1, 0, 1, 1, 1, 1, 1, 1, 0, 0, 1, 2, 2, 2, 0, 1, 1, 2, 1, 1, 1, 1, 1, 3, 1, 1, 0, 1, 1, 2, 1, 1, 1, 0, 1, 1, 2, 1, 1, 1, 0, 0, 1, 3, 3, 3, 0, 1, 1, 3, 1, 1, 1, 1, 1, 4, 1, 1, 0, 1, 1, 3, 1, 1, 1, 0, 1, 1, 3, 1, 1, 1, 0, 0, 1, 4, 4, 4, 1, 0, 0, 1, 1, 4, 1, 1, 1, 1, 1, 5, 1, 1, 0, 1, 1, 4, 1, 1, 1, 0, 1, 1, 4, 1, 1, 1, 0, 0, 1, 5, 5, 5, 0, 1, 1, 5, 1, 1, 1, 1, 1, 0, 1, 1, 0, 1, 1, 5, 1, 1, 1, 0, 1, 1, 5, 1, 1, 1, 0, 0, 0, 1, 1], True⟩
def lz_4_ob (z0 z1 z2 z3 z4 z5 z6 z7 z8 z9 z10 z11 k : Int) : Prop := ltT4 (ltS1 ((((((((((((((((((((True ∧ ltb175) ∧ ltb176) ∧ ltb177) ∧ ltb177) ∧ ltb3 k) ∧ ltb178 k) ∧ ltb5) ∧ ltb179) ∧ ltb179) ∧ ltb3 k) ∧ ltb6 k) ∧ ltb180 k) ∧ ltb5) ∧ ltb5) ∧ ltb5) ∧ ltb181) ∧ ltb176) ∧ ltb5) ∧ ltb5) ∧ ltb182) z0 z1 z2 z3 z4 z5 z6 z7 z8 z9 z10 z11 k) z0 z1 z2 z3 z4 z5 z6 z7 z8 z9 z10 z11 k
theorem lz_4_o (z0 z1 z2 z3 z4 z5 z6 z7 z8 z9 z10 z11 k : Int) : obZ (lz_4 z0 z1 z2 z3 z4 z5 z6 z7 z8 z9 z10 z11 k) = lz_4_ob z0 z1 z2 z3 z4 z5 z6 z7 z8 z9 z10 z11 k := by kernel_rfl
theorem lz_4_g (z0 z1 z2 z3 z4 z5 z6 z7 z8 z9 z10 z11 k : Int) : goodZ (lz_4 z0 z1 z2 z3 z4 z5 z6 z7 z8 z9 z10 z11 k) = true := by kernel_rfl
theorem lz_4_h (z0 z1 z2 z3 z4 z5 z6 z7 z8 z9 z10 z11 k : Int) (hk : -128 ≤ k ∧ k ≤ 127) (hc : (k.tmod 6 + 6).tmod 6 = 4) : lz_4_ob z0 z1 z2 z3 z4 z5 z6 z7 z8 z9 z10 z11 k := ltT4_h (ltS1_h (show ((((((((((((((((((((True ∧ ltb175) ∧ ltb176) ∧ ltb177) ∧ ltb177) ∧ ltb3 k) ∧ ltb178 k) ∧ ltb5) ∧ ltb179) ∧ ltb179) ∧ ltb3 k) ∧ ltb6 k) ∧ ltb180 k) ∧ ltb5) ∧ ltb5) ∧ ltb5) ∧ ltb181) ∧ ltb176) ∧ ltb5) ∧ ltb5) ∧ ltb182) from ⟨⟨⟨⟨⟨⟨⟨⟨⟨⟨⟨⟨⟨⟨⟨⟨⟨⟨⟨⟨trivial, ltb175_ok⟩, ltb176_ok⟩, ltb177_ok⟩, ltb177_ok⟩, ltb3_ok k hk⟩, ltb178_ok k hk⟩, ltb5_ok⟩, ltb179_ok⟩, ltb179_ok⟩, ltb3_ok k hk⟩, ltb6_ok k hk⟩, ltb180_ok k hk⟩, ltb5_ok⟩, ltb5_ok⟩, ltb5_ok⟩, ltb181_ok⟩, ltb176_ok⟩, ltb5_ok⟩, ltb5_ok⟩, ltb182_ok⟩) z0 z1 z2 z3 z4 z5 z6 z7 z8 z9 z10 z11 k hk) z0 z1 z2 z3 z4 z5 z6 z7 z8 z9 z10 z11 k hk hc
theorem lz_4_true (z0 z1 z2 z3 z4 z5 z6 z7 z8 z9 z10 z11 k : Int) (hk : -128 ≤ k ∧ k ≤ 127) (hc : (k.tmod 6 + 6).tmod 6 = 4) : ∃ s1 R, SndF Tryz.prog 3 #[.slice none 0 0, .agg #[.int .i8 z0, .int .i8 z1, .int .i8 z2, .int .i8 z3, .int .i8 z4, .int .i8 z5, .int .i8 z6, .int .i8 z7, .int .i8 z8, .int .i8 z9, .int .i8 z10, .int .i8 z11], .int .i8 k] awS0 (.bool true) s1 R 0 :=
  sndZ (r := lz_4 z0 z1 z2 z3 z4 z5 z6 z7 z8 z9 z10 z11 k) (by delta lz_4; exact Eq.refl _) smx ltX_ok (lz_4_g z0 z1 z2 z3 z4 z5 z6 z7 z8 z9 z10 z11 k) ((lz_4_o z0 z1 z2 z3 z4 z5 z6 z7 z8 z9 z10 z11 k).symm ▸ lz_4_h z0 z1 z2 z3 z4 z5 z6 z7 z8 z9 z10 z11 k hk hc)
end Go.Proofs.YtjpffbekhfkibaaGreatDoor
end
section
set_option linter.all false
set_option maxRecDepth 1000000
set_option maxHeartbeats 1000000
open Go.RowKit
namespace Go.Proofs.YtjpffbekhfkibaaGreatDoor
open Mini
noncomputable def lz_5 (z0 z1 z2 z3 z4 z5 z6 z7 z8 z9 z10 z11 k : Int) : Option OutS := evFS Tryz.prog ltX 1000 3 #[.slice none 0 0, .agg #[.int .i8 z0, .int .i8 z1, .int .i8 z2, .int .i8 z3, .int .i8 z4, .int .i8 z5, .int .i8 z6, .int .i8 z7, .int .i8 z8, .int .i8 z9, .int .i8 z10, .int .i8 z11], .int .i8 k] awS0 ⟨[0, 0, .azz (.slice (some ⟨7, 0, none⟩) 0 0), .azz (.slice (some ⟨7, 0, none⟩) 0 0), .azz (.int .i64 k), 1, 0, .azz (.slice (some ⟨9, 0, none⟩) 0 0), .azz (.slice (some ⟨9, 0, none⟩) 0 0), .azz (.int .i64 k), .azz (.int .i64 (-k)), 1, 1, 1, 1, 0, 0, 1, 0, 0, 1, 0, 0, 0, 1, 1, 1, 1, 1, 2, 1, 2, 2, 2, 3, 1, 3, 3, 3, 4, 1, 4, 4, 4, 5, 1, 5, 5, 5, 0, 0, 2, 1, 1, 1, 0, 1, 1, 1, 1, 1, 0, 0, 1, 1, 0, 1, 2, 0, 1, 3, 0, 1, 4, 0, 1, 5, 0, 0, 1, 0, 0, 1, 1, 1, 0, 0, .azz (.int .i64 k), .azz (.int .i64 (k.tmod 6)), .azz (.int .i64 (k.tmod 6 + 6)), .azz (.int .i64 5), 0, 0, 0, 0, 0, 0, .azz (.int .i64 (-5)), 2, 1, 1, 1, 0, 0, 0, 1, 0, 0, 0, 0, 1, 1, 0, 1, 1, 1, 1, 1, 1, 1, 1, 0, 1, 1, 0, 1, 1, 1, 0, 1, 1, 0, 1, 1, 1, 0, 0, 1, 1, 1, 1, 0, 1, 1, 1, 1, 1, 1, 1, 1, 2, 1, 1, 0, 1, 1, 1, 1, 1, 1, 0, 1, 1, 1, 1, 1, 1, 0, 0, 1, 2, 2, 2, 0, 1, 1, 2, 1, 1, 1, 1, 1, 3, 1, 1, 0, 1, 1, 2, 1, 1, 1, 0, 1, 1, 2, 1, 1, 1, 0, 0, 1, 3, 3, 3, 0, 1, 1, 3, 1, 1, 1, 1, 1, 4, 1, 1, 0, 1, 1, 3, 1, 1, 1, 0, 1, 1, 3, 1, 1, 1, 0, 0, 1, 4, 4, 4, 0, 1, 1, 4, 1, 1, 1, 1, 1, 5, 1, 1, 0, 1, 1, 4, 1, 1, 1, 0, 1, 1, 4, 1, 1, 1, 0, 0, 1, 5, 5, 5, 1, 0, 0, 1, 1, 5, 1, 1, 1, 1, 1, 0, 1, 1, 0, 1, 1, 5, 1, 1, 1, 0, 1, 1, 5, 1, 1, 1, 0, 0, 0, 1, 1], True⟩
def lz_5_ob (z0 z1 z2 z3 z4 z5 z6 z7 z8 z9 z10 z11 k : Int) : Prop := ltT5 (ltS1 ((((((((((((((((((((True ∧ ltb175) ∧ ltb176) ∧ ltb177) ∧ ltb177) ∧ ltb3 k) ∧ ltb178 k) ∧ ltb5) ∧ ltb179) ∧ ltb179) ∧ ltb3 k) ∧ ltb6 k) ∧ ltb180 k) ∧ ltb5) ∧ ltb5) ∧ ltb5) ∧ ltb181) ∧ ltb176) ∧ ltb5) ∧ ltb5) ∧ ltb182) z0 z1 z2 z3 z4 z5 z6 z7 z8 z9 z10 z11 k) z0 z1 z2 z3 z4 z5 z6 z7 z8 z9 z10 z11 k
theorem lz_5_o (z0 z1 z2 z3 z4 z5 z6 z7 z8 z9 z10 z11 k : Int) : obZ (lz_5 z0 z1 z2 z3 z4 z5 z6 z7 z8 z9 z10 z11 k) = lz_5_ob z0 z1 z2 z3 z4 z5 z6 z7 z8 z9 z10 z11 k := by kernel_rfl
theorem lz_5_g (z0 z1 z2 z3 z4 z5 z6 z7 z8 z9 z10 z11 k : Int) : goodZ (lz_5 z0 z1 z2 z3 z4 z5 z6 z7 z8 z9 z10 z11 k) = true := by kernel_rfl
theorem lz_5_h (z0 z1 z2 z3 z4 z5 z6 z7 z8 z9 z10 z11 k : Int) (hk : -128 ≤ k ∧ k ≤ 127) (hc : (k.tmod 6 + 6).tmod 6 = 5) : lz_5_ob z0 z1 z2 z3 z4 z5 z6 z7 z8 z9 z10 z11 k := ltT5_h (ltS1_h (show ((((((((((((((((((((True ∧ ltb175) ∧ ltb176) ∧ ltb177) ∧ ltb177) ∧ ltb3 k) ∧ ltb178 k) ∧ ltb5) ∧ ltb179) ∧ ltb179) ∧ ltb3 k) ∧ ltb6 k) ∧ ltb180 k) ∧ ltb5) ∧ ltb5) ∧ ltb5) ∧ ltb181) ∧ ltb176) ∧ ltb5) ∧ ltb5) ∧ ltb182) from ⟨⟨⟨⟨⟨⟨⟨⟨⟨⟨⟨⟨⟨⟨⟨⟨⟨⟨⟨⟨trivial, ltb175_ok⟩, ltb176_ok⟩, ltb177_ok⟩, ltb177_ok⟩, ltb3_ok k hk⟩, ltb178_ok k hk⟩, ltb5_ok⟩, ltb179_ok⟩, ltb179_ok⟩, ltb3_ok k hk⟩, ltb6_ok k hk⟩, ltb180_ok k hk⟩, ltb5_ok⟩, ltb5_ok⟩, ltb5_ok⟩, ltb181_ok⟩, ltb176_ok⟩, ltb5_ok⟩, ltb5_ok⟩, ltb182_ok⟩) z0 z1 z2 z3 z4 z5 z6 z7 z8 z9 z10 z11 k hk) z0 z1 z2 z3 z4 z5 z6 z7 z8 z9 z10 z11 k hk hc
theorem lz_5_true (z0 z1 z2 z3 z4 z5 z6 z7 z8 z9 z10 z11 k : Int) (hk : -128 ≤ k ∧ k ≤ 127) (hc : (k.tmod 6 + 6).tmod 6 = 5) : ∃ s1 R, SndF Tryz.prog 3 #[.slice none 0 0, .agg #[.int .i8 z0, .int .i8 z1, .int .i8 z2, .int .i8 z3, .int .i8 z4, .int .i8 z5, .int .i8 z6, .int .i8 z7, .int .i8 z8, .int .i8 z9, .int .i8 z10, .int .i8 z11], .int .i8 k] awS0 (.bool true) s1 R 0 :=
  sndZ (r := lz_5 z0 z1 z2 z3 z4 z5 z6 z7 z8 z9 z10 z11 k) (by delta lz_5; exact Eq.refl _) smx ltX_ok (lz_5_g z0 z1 z2 z3 z4 z5 z6 z7 z8 z9 z10 z11 k) ((lz_5_o z0 z1 z2 z3 z4 z5 z6 z7 z8 z9 z10 z11 k).symm ▸ lz_5_h z0 z1 z2 z3 z4 z5 z6 z7 z8 z9 z10 z11 k hk hc)
end Go.Proofs.YtjpffbekhfkibaaGreatDoor
end
