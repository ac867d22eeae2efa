/-
  The contracts of the specification's operations on numbers.
-/
import Derived.Test.YtaikcakpmbhnpaaEisen
namespace Go.Proofs.Ytaikcakpmbhnpaa
set_option linter.all false
open Go.RowKit

set_option maxHeartbeats 1000000 in
theorem refMul_any (a b c d : Int) (w : World) (h1 : Big 1000000000 (a, b)) (h2 : Big 1000000000 (c, d)) :
    Calls Try.prog 15 #[.agg #[.int .i64 a, .int .i64 b], .agg #[.int .i64 c, .int .i64 d]] w fun e w' => e = .returned (.agg #[.int .i64 (a * c - b * d), .int .i64 (a * d + b * c - b * d)]) ∧ Bw w w' := by
  obtain ⟨a1, a2, a3, a4⟩ := h1
  obtain ⟨c1, c2, c3, c4⟩ := h2
  simp only at a1 a2 a3 a4 c1 c2 c3 c4
  obtain ⟨m1, m2⟩ := mul_bd 1000000000 a c (by omega) a1 a2 c1 c2
  obtain ⟨m3, m4⟩ := mul_bd 1000000000 b d (by omega) a3 a4 c3 c4
  obtain ⟨m5, m6⟩ := mul_bd 1000000000 a d (by omega) a1 a2 c3 c4
  obtain ⟨m7, m8⟩ := mul_bd 1000000000 b c (by omega) a3 a4 c1 c2
  simp only [Int.reduceMul] at m1 m2 m3 m4 m5 m6 m7 m8
  go_enter Try.func15, Try.ntmps15
  go_wp2
  exact bodyPost_ret (v := .agg #[.int .i64 (a * c - b * d), .int .i64 (a * d + b * c - b * d)]) (by simp [results, Try.results15, go_sem]) rfl ⟨rfl, ((((Bw.refl _).alloc _).alloc _).alloc _)⟩

set_option maxHeartbeats 400000 in
theorem refBar_any (a b : Int) (w : World) (h1 : Big 1000000000000000 (a, b)) :
    Calls Try.prog 16 #[.agg #[.int .i64 a, .int .i64 b]] w fun e w' => e = .returned (.agg #[.int .i64 (a - b), .int .i64 (-b)]) ∧ Bw w w' := by
  obtain ⟨a1, a2, a3, a4⟩ := h1
  simp only at a1 a2 a3 a4
  go_enter Try.func16, Try.ntmps16
  go_wp2
  exact bodyPost_ret (v := .agg #[.int .i64 (a - b), .int .i64 (-b)]) (by simp [results, Try.results16, go_sem]) rfl ⟨by simp, (((Bw.refl _).alloc _).alloc _)⟩

theorem sixth_mul (p : Int × Int) : (p.1 * 1 - p.2 * 1, p.1 * 1 + p.2 * 1 - p.2 * 1) = Pl.sixth p := by unfold Pl.sixth; simp

set_option maxHeartbeats 1000000 in
theorem refTurn_any (a b n : Int) (w : World) (h1 : Big 30000000 (a, b)) (hn : -4611686018427387904 ≤ n ∧ n ≤ 4611686018427387904) :
    Calls Try.prog 22 #[.agg #[.int .i64 a, .int .i64 b], .int .i64 n] w fun e w' => e = .returned (.agg #[.int .i64 (Pl.turn (a, b) n).1, .int .i64 (Pl.turn (a, b) n).2]) ∧ Bw w w' := by
  obtain ⟨N, hN⟩ : ∃ N : Nat, n % 6 = N := ⟨(n % 6).toNat, by omega⟩
  have hN6 : N ≤ 5 := by omega
  have ht : Pl.turn (a, b) n = Pl.turnN N (a, b) := by unfold Pl.turn; rw [hN]; simp
  rw [ht]
  have hm := @Int.tmod_eq_emod n 6
  have HB := Lib.hid (fun (k : Nat) (hk : k ≤ 5) => turnN_big5 k hk _ _ h1 (by omega))
  have htm : n.tmod 6 = N ∨ (n.tmod 6 = (N : Int) - 6 ∧ (N : Int) - 6 < 0) := by
    rw [hN] at hm
    split at hm
    · left; omega
    · right; simp at hm; omega
  clear ht hm hN
  rcases htm with hr | ⟨hr, hneg⟩
  · go_enter Try.func22, Try.ntmps22
    go_wp2
    have hne0 : ¬ (w.heap.size + 1 = w.heap.size) := by omega
    go_loopw [6] (fun i wr => ∃ k : Nat, k ≤ N ∧ i = .int .i64 k ∧ wr.cell? ⟨w.heap.size, 0, none⟩ = some (.int .i64 (Pl.turnN k (a, b)).1) ∧ wr.cell? ⟨w.heap.size, 1, none⟩ = some (.int .i64 (Pl.turnN k (a, b)).2) ∧ wr.frozen? ⟨w.heap.size, 0, none⟩ = false ∧ wr.frozen? ⟨w.heap.size, 1, none⟩ = false ∧
        wr.cell? ⟨w.heap.size + 1, 0, none⟩ = some (.int .i64 0) ∧ wr.cell? ⟨w.heap.size + 1, 1, none⟩ = some (.int .i64 0) ∧ wr.frozen? ⟨w.heap.size + 1, 0, none⟩ = false ∧ wr.frozen? ⟨w.heap.size + 1, 1, none⟩ = false ∧ Bw w wr ∧ w.heap.size + 1 < wr.heap.size) (fun i _ => N - (intOf i).toNat)
    case atStart => exact ⟨0, Nat.zero_le _, rfl, by go_simp; rfl, by go_simp; rfl, by go_simp, by go_simp, by go_simp, by go_simp, by go_simp, by go_simp, ((Bw.refl _).alloc _).alloc _, by simp⟩
    case round =>
      obtain ⟨k, hk, rfl, a0, a1, f0, f1, r0, r1, g0, g1, hB, hz⟩ := hrel
      by_cases hlt : k < N
      · have hbk := HB.out k (by omega)
        have hs : Pl.turnN (k + 1) (a, b) = Pl.sixth (Pl.turnN k (a, b)) := rfl
        have HS := Lib.hid hs
        clear hs
        generalize Pl.turnN k (a, b) = q at *
        have HM := Lib.hid (fun W => refMul_any q.1 q.2 1 1 W (by unfold Big at hbk ⊢; simp only at hbk ⊢; omega) (by unfold Big; simp))
        rw [show q.1 * 1 - q.2 * 1 = (Pl.sixth q).1 by unfold Pl.sixth; simp, show q.1 * 1 + q.2 * 1 - q.2 * 1 = (Pl.sixth q).2 by unfold Pl.sixth; simp] at HM
        clear hbk
        go_wp2_with (first | (go_at_call 15; refine (HM.out _).mono ?_; rintro e w1 ⟨rfl, hb1⟩; obtain ⟨hc1, hf1⟩ := bcell hb1; have hy1 : w.heap.size < wr.heap.size := (by omega)))
        go_roundw
        case rel =>
          have c0 := (hc1 w.heap.size 0 (by omega)).trans a0
          have c1 := (hc1 w.heap.size 1 (by omega)).trans a1
          have d0 := (hf1 w.heap.size 0 (by omega)).trans f0
          have d1 := (hf1 w.heap.size 1 (by omega)).trans f1
          have e0 := (hc1 (w.heap.size + 1) 0 (by omega)).trans r0
          have e1 := (hc1 (w.heap.size + 1) 1 (by omega)).trans r1
          have p0 := (hf1 (w.heap.size + 1) 0 (by omega)).trans g0
          have p1 := (hf1 (w.heap.size + 1) 1 (by omega)).trans g1
          have hs1 := hb1.size
          refine ⟨k + 1, by omega, by go_num, ?_, ?_, by simpa using d0, by simpa using d1, ?_, ?_, by simpa using p0, by simpa using p1, Bw.setCell (Bw.setCell (hB.trans hb1) (Nat.le_refl _) _) (Nat.le_refl _) _, by simp; omega⟩
          · rw [HS.out]; exact (World.cell?_setCell_other _ _ _ _ (by simp)).trans (World.cell?_setCell_same _ _ _ c0)
          · rw [HS.out]; exact World.cell?_setCell_same _ _ _ ((World.cell?_setCell_other _ _ _ _ (by simp)).trans c1)
          · exact (World.cell?_setCell_other _ _ _ _ (by simp)).trans ((World.cell?_setCell_other _ _ _ _ (by simp)).trans e0)
          · exact (World.cell?_setCell_other _ _ _ _ (by simp)).trans ((World.cell?_setCell_other _ _ _ _ (by simp)).trans e1)
        case measure => simp [intOf]; omega
      · have hkN : k = N := by omega
        subst hkN
        generalize hq : Pl.turnN k (a, b) = q at *
        go_wp2
        exact bodyPost_ret (v := .agg #[.int .i64 q.1, .int .i64 q.2]) (by simp [results, Try.results22, go_sem, r0, r1]) rfl ⟨by rw [hq], Bw.setCell (Bw.setCell hB (by simp) _) (by simp) _⟩
  · go_enter Try.func22, Try.ntmps22
    go_wp2
    have hne0 : ¬ (w.heap.size + 1 = w.heap.size) := by omega
    go_loopw [6] (fun i wr => ∃ k : Nat, k ≤ N ∧ i = .int .i64 k ∧ wr.cell? ⟨w.heap.size, 0, none⟩ = some (.int .i64 (Pl.turnN k (a, b)).1) ∧ wr.cell? ⟨w.heap.size, 1, none⟩ = some (.int .i64 (Pl.turnN k (a, b)).2) ∧ wr.frozen? ⟨w.heap.size, 0, none⟩ = false ∧ wr.frozen? ⟨w.heap.size, 1, none⟩ = false ∧
        wr.cell? ⟨w.heap.size + 1, 0, none⟩ = some (.int .i64 0) ∧ wr.cell? ⟨w.heap.size + 1, 1, none⟩ = some (.int .i64 0) ∧ wr.frozen? ⟨w.heap.size + 1, 0, none⟩ = false ∧ wr.frozen? ⟨w.heap.size + 1, 1, none⟩ = false ∧ Bw w wr ∧ w.heap.size + 1 < wr.heap.size) (fun i _ => N - (intOf i).toNat)
    case atStart => exact ⟨0, Nat.zero_le _, rfl, by go_simp; rfl, by go_simp; rfl, by go_simp, by go_simp, by go_simp, by go_simp, by go_simp, by go_simp, ((Bw.refl _).alloc _).alloc _, by simp⟩
    case round =>
      obtain ⟨k, hk, rfl, a0, a1, f0, f1, r0, r1, g0, g1, hB, hz⟩ := hrel
      by_cases hlt : k < N
      · have hbk := HB.out k (by omega)
        have hs : Pl.turnN (k + 1) (a, b) = Pl.sixth (Pl.turnN k (a, b)) := rfl
        have HS := Lib.hid hs
        clear hs
        generalize Pl.turnN k (a, b) = q at *
        have HM := Lib.hid (fun W => refMul_any q.1 q.2 1 1 W (by unfold Big at hbk ⊢; simp only at hbk ⊢; omega) (by unfold Big; simp))
        rw [show q.1 * 1 - q.2 * 1 = (Pl.sixth q).1 by unfold Pl.sixth; simp, show q.1 * 1 + q.2 * 1 - q.2 * 1 = (Pl.sixth q).2 by unfold Pl.sixth; simp] at HM
        clear hbk
        go_wp2_with (first | (go_at_call 15; refine (HM.out _).mono ?_; rintro e w1 ⟨rfl, hb1⟩; obtain ⟨hc1, hf1⟩ := bcell hb1; have hy1 : w.heap.size < wr.heap.size := (by omega)))
        go_roundw
        case rel =>
          have c0 := (hc1 w.heap.size 0 (by omega)).trans a0
          have c1 := (hc1 w.heap.size 1 (by omega)).trans a1
          have d0 := (hf1 w.heap.size 0 (by omega)).trans f0
          have d1 := (hf1 w.heap.size 1 (by omega)).trans f1
          have e0 := (hc1 (w.heap.size + 1) 0 (by omega)).trans r0
          have e1 := (hc1 (w.heap.size + 1) 1 (by omega)).trans r1
          have p0 := (hf1 (w.heap.size + 1) 0 (by omega)).trans g0
          have p1 := (hf1 (w.heap.size + 1) 1 (by omega)).trans g1
          have hs1 := hb1.size
          refine ⟨k + 1, by omega, by go_num, ?_, ?_, by simpa using d0, by simpa using d1, ?_, ?_, by simpa using p0, by simpa using p1, Bw.setCell (Bw.setCell (hB.trans hb1) (Nat.le_refl _) _) (Nat.le_refl _) _, by simp; omega⟩
          · rw [HS.out]; exact (World.cell?_setCell_other _ _ _ _ (by simp)).trans (World.cell?_setCell_same _ _ _ c0)
          · rw [HS.out]; exact World.cell?_setCell_same _ _ _ ((World.cell?_setCell_other _ _ _ _ (by simp)).trans c1)
          · exact (World.cell?_setCell_other _ _ _ _ (by simp)).trans ((World.cell?_setCell_other _ _ _ _ (by simp)).trans e0)
          · exact (World.cell?_setCell_other _ _ _ _ (by simp)).trans ((World.cell?_setCell_other _ _ _ _ (by simp)).trans e1)
        case measure => simp [intOf]; omega
      · have hkN : k = N := by omega
        subst hkN
        generalize hq : Pl.turnN k (a, b) = q at *
        go_wp2
        exact bodyPost_ret (v := .agg #[.int .i64 q.1, .int .i64 q.2]) (by simp [results, Try.results22, go_sem, r0, r1]) rfl ⟨by rw [hq], Bw.setCell (Bw.setCell hB (by simp) _) (by simp) _⟩
end Go.Proofs.Ytaikcakpmbhnpaa
