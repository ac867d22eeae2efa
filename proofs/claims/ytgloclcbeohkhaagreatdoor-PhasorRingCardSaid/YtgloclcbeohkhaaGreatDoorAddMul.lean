/-
  The contracts of Add and Mul.
-/
import Derived.Test.YtgloclcbeohkhaaGreatDoorTurned
namespace Go.Proofs.YtgloclcbeohkhaaGreatDoor
set_option linter.all false
open Go.RowKit

/-- What 'Add' returns. -/
def addV (a b c d : Int) : Value := if Pl.firstE [Pl.parts a b 1048576, Pl.parts c d 1048576] = 0 then
  .tuple #[.agg #[.int .i64 (Pl.lim (Pl.add (a, b) (c, d))).1.1, .int .i64 (Pl.lim (Pl.add (a, b) (c, d))).1.2], .int .i64 (Pl.lim (Pl.add (a, b) (c, d))).2]
  else .tuple #[.agg #[.int .i64 0, .int .i64 0], .int .i64 (Pl.firstE [Pl.parts a b 1048576, Pl.parts c d 1048576])]

set_option maxHeartbeats 2000000 in
set_option maxRecDepth 100000 in
theorem add_any (a b c d : Int) (w : World) :
    Calls Tryz.prog 9 #[.agg #[.int .i64 a, .int .i64 b], .agg #[.int .i64 c, .int .i64 d]] w fun e w' => e = .returned (addV a b c d) ∧ Bw w w' := by
  have H1 := Lib.hid (fun W => checkEisen_any a b W)
  have H2 := Lib.hid (fun W => checkEisen_any c d W)
  by_cases he : Pl.firstE [Pl.parts a b 1048576, Pl.parts c d 1048576] = 0
  · have hv : addV a b c d = .tuple #[.agg #[.int .i64 (Pl.lim (Pl.add (a, b) (c, d))).1.1, .int .i64 (Pl.lim (Pl.add (a, b) (c, d))).1.2], .int .i64 (Pl.lim (Pl.add (a, b) (c, d))).2] := if_pos he
    rw [hv]
    have h2 := he
    rw [first2_val] at h2
    have h3 : Pl.parts a b 1048576 = 0 := by split at h2 <;> omega
    have h4 : Pl.parts c d 1048576 = 0 := by split at h2 <;> omega
    have h5 := parts_ok.1 h3
    have h6 := parts_ok.1 h4
    have HT := Lib.hid (fun W => sum_any a b c d W (by unfold Pl.inB at h5; unfold Big; simp only at h5 ⊢; omega) (by unfold Pl.inB at h6; unfold Big; simp only at h6 ⊢; omega))
    rw [h3] at H1
    rw [h4] at H2
    have HF := Lib.hid (fun b0 c0 W h0 h1 => first2 0 0 b0 c0 W h0 h1)
    rw [show Pl.firstE [0, 0] = 0 from rfl] at HF
    have hq : Pl.add (a, b) (c, d) = (a + c, b + d) := rfl
    rw [hq]
    have hL := Lib.hid (fun W => limited_any (a + c) (b + d) W)
    clear h2 h3 h4 h5 h6 he hv hq
    generalize a + c = q1 at *
    generalize b + d = q2 at *
    go_enter Tryz.func9, Tryz.ntmps9
    go_wp2
    go_region_held3 (fun W => W.cell? ⟨w.heap.size, 0, none⟩ = some (.int .i64 a) ∧ W.cell? ⟨w.heap.size, 1, none⟩ = some (.int .i64 b) ∧ W.cell? ⟨w.heap.size + 1, 0, none⟩ = some (.int .i64 c) ∧ W.cell? ⟨w.heap.size + 1, 1, none⟩ = some (.int .i64 d)) (go_keep)
      (first | (go_at_call_of 21 a; refine (H1.out _).mono ?_; rintro e w1 ⟨rfl, hb1⟩; obtain ⟨hc1, hf1⟩ := bcell' hb1 (w.heap.size + 3) (by simp); have hz1_2 : w.heap.size + 2 < w1.heap.size := (by have := hb1.size; (try simp at this); omega); have hz1_1 : w.heap.size + 1 < w1.heap.size := (by omega); have hz1_0 : w.heap.size < w1.heap.size := (by omega); have hB1 : Bw w w1 := Bw.trans (by repeat (with_reducible first | assumption | exact Bw.refl _ | apply Bw.drew | apply Bw.drewN | apply Bw.alloc | refine Bw.setCell ?_ (by first | (simp; done) | (simp; omega) | omega) _)) hb1) | (go_at_call_of 21 c; refine (H2.out _).mono ?_; rintro e w2 ⟨rfl, hb2⟩; obtain ⟨hc2, hf2⟩ := bcell' hb2 w1.heap.size (by simp); have hz2_2 : w.heap.size + 2 < w2.heap.size := (by have := hb2.size; (try simp at this); omega); have hz2_1 : w.heap.size + 1 < w2.heap.size := (by omega); have hz2_0 : w.heap.size < w2.heap.size := (by omega); have hB2 : Bw w w2 := Bw.trans (by repeat (with_reducible first | assumption | exact Bw.refl _ | apply Bw.drew | apply Bw.drewN | apply Bw.alloc | refine Bw.setCell ?_ (by first | (simp; done) | (simp; omega) | omega) _)) hb2) | (go_at_call 47; refine (HF.out _ _ _ (by go_simp) (by go_simp)).mono ?_; rintro e wp ⟨rfl, rfl⟩))
    go_wp2_with (first | (go_at_call 49; refine (HT.out _).mono ?_; rintro e w3 ⟨rfl, hb3⟩; obtain ⟨hc3, hf3⟩ := bcell' hb3 w2.heap.size (by simp); have hz3_2 : w.heap.size + 2 < w3.heap.size := (by have := hb3.size; (try simp at this); omega); have hz3_1 : w.heap.size + 1 < w3.heap.size := (by have := hb3.size; (try simp at this); omega); have hz3_0 : w.heap.size < w3.heap.size := (by have := hb3.size; (try simp at this); omega); have hB3 : Bw w w3 := Bw.trans (by repeat (with_reducible first | assumption | exact Bw.refl _ | apply Bw.drew | apply Bw.drewN | apply Bw.alloc | refine Bw.setCell ?_ (by first | (simp; done) | (simp; omega) | omega) _)) hb3) | (go_at_call 48; refine (hL.out _).mono ?_; rintro e w4 ⟨rfl, hb4⟩; obtain ⟨hc4, hf4⟩ := bcell' hb4 w3.heap.size (by simp); have hz4_2 : w.heap.size + 2 < w4.heap.size := (by have := hb4.size; (try simp at this); omega); have hz4_1 : w.heap.size + 1 < w4.heap.size := (by have := hb4.size; (try simp at this); omega); have hz4_0 : w.heap.size < w4.heap.size := (by have := hb4.size; (try simp at this); omega); have hB4 : Bw w w4 := Bw.trans (by repeat (with_reducible first | assumption | exact Bw.refl _ | apply Bw.drew | apply Bw.drewN | apply Bw.alloc | refine Bw.setCell ?_ (by first | (simp; done) | (simp; omega) | omega) _)) hb4))
    exact bodyPost_ret (v := .tuple #[.agg #[.int .i64 (Pl.lim (q1, q2)).1.1, .int .i64 (Pl.lim (q1, q2)).1.2], .int .i64 (Pl.lim (q1, q2)).2]) (by simp [results, Tryz.results9, go_sem, *]) rfl ⟨rfl, by repeat (with_reducible first | assumption | exact Bw.refl _ | apply Bw.drew | apply Bw.drewN | apply Bw.alloc | refine Bw.setCell ?_ (by first | (simp; done) | (simp; omega) | omega) _)⟩
  · have hv : addV a b c d = .tuple #[.agg #[.int .i64 0, .int .i64 0], .int .i64 (Pl.firstE [Pl.parts a b 1048576, Pl.parts c d 1048576])] := if_neg he
    rw [hv]
    have HF := Lib.hid (fun b0 c0 W h0 h1 => first2 (Pl.parts a b 1048576) (Pl.parts c d 1048576) b0 c0 W h0 h1)
    generalize Pl.parts a b 1048576 = e1 at *
    generalize Pl.parts c d 1048576 = e2 at *
    generalize Pl.firstE [e1, e2] = e0 at *
    have he' : (e0 != 0) = true := by simp [he]
    clear he hv
    go_enter Tryz.func9, Tryz.ntmps9
    go_wp2
    go_region_held3 (fun W => W.cell? ⟨w.heap.size, 0, none⟩ = some (.int .i64 a) ∧ W.cell? ⟨w.heap.size, 1, none⟩ = some (.int .i64 b) ∧ W.cell? ⟨w.heap.size + 1, 0, none⟩ = some (.int .i64 c) ∧ W.cell? ⟨w.heap.size + 1, 1, none⟩ = some (.int .i64 d)) (go_keep)
      (first | (go_at_call_of 21 a; refine (H1.out _).mono ?_; rintro e w1 ⟨rfl, hb1⟩; obtain ⟨hc1, hf1⟩ := bcell' hb1 (w.heap.size + 3) (by simp); have hz1_2 : w.heap.size + 2 < w1.heap.size := (by have := hb1.size; (try simp at this); omega); have hz1_1 : w.heap.size + 1 < w1.heap.size := (by omega); have hz1_0 : w.heap.size < w1.heap.size := (by omega); have hB1 : Bw w w1 := Bw.trans (by repeat (with_reducible first | assumption | exact Bw.refl _ | apply Bw.drew | apply Bw.drewN | apply Bw.alloc | refine Bw.setCell ?_ (by first | (simp; done) | (simp; omega) | omega) _)) hb1) | (go_at_call_of 21 c; refine (H2.out _).mono ?_; rintro e w2 ⟨rfl, hb2⟩; obtain ⟨hc2, hf2⟩ := bcell' hb2 w1.heap.size (by simp); have hz2_2 : w.heap.size + 2 < w2.heap.size := (by have := hb2.size; (try simp at this); omega); have hz2_1 : w.heap.size + 1 < w2.heap.size := (by omega); have hz2_0 : w.heap.size < w2.heap.size := (by omega); have hB2 : Bw w w2 := Bw.trans (by repeat (with_reducible first | assumption | exact Bw.refl _ | apply Bw.drew | apply Bw.drewN | apply Bw.alloc | refine Bw.setCell ?_ (by first | (simp; done) | (simp; omega) | omega) _)) hb2) | (go_at_call 47; refine (HF.out _ _ _ (by go_simp) (by go_simp)).mono ?_; rintro e wp ⟨rfl, rfl⟩))
    go_wp2
    exact bodyPost_ret (v := .tuple #[.agg #[.int .i64 0, .int .i64 0], .int .i64 e0]) (by simp [results, Tryz.results9, go_sem, *]) rfl ⟨rfl, by repeat (with_reducible first | assumption | exact Bw.refl _ | apply Bw.drew | apply Bw.drewN | apply Bw.alloc | refine Bw.setCell ?_ (by first | (simp; done) | (simp; omega) | omega) _)⟩

/-- What 'Mul' returns. -/
def mulV (a b c d : Int) : Value := if Pl.firstE [Pl.parts a b 1048576, Pl.parts c d 1048576] = 0 then
  .tuple #[.agg #[.int .i64 (Pl.lim (Pl.mul (a, b) (c, d))).1.1, .int .i64 (Pl.lim (Pl.mul (a, b) (c, d))).1.2], .int .i64 (Pl.lim (Pl.mul (a, b) (c, d))).2]
  else .tuple #[.agg #[.int .i64 0, .int .i64 0], .int .i64 (Pl.firstE [Pl.parts a b 1048576, Pl.parts c d 1048576])]

set_option maxHeartbeats 2000000 in
set_option maxRecDepth 100000 in
theorem mul_any (a b c d : Int) (w : World) :
    Calls Tryz.prog 10 #[.agg #[.int .i64 a, .int .i64 b], .agg #[.int .i64 c, .int .i64 d]] w fun e w' => e = .returned (mulV a b c d) ∧ Bw w w' := by
  have H1 := Lib.hid (fun W => checkEisen_any a b W)
  have H2 := Lib.hid (fun W => checkEisen_any c d W)
  by_cases he : Pl.firstE [Pl.parts a b 1048576, Pl.parts c d 1048576] = 0
  · have hv : mulV a b c d = .tuple #[.agg #[.int .i64 (Pl.lim (Pl.mul (a, b) (c, d))).1.1, .int .i64 (Pl.lim (Pl.mul (a, b) (c, d))).1.2], .int .i64 (Pl.lim (Pl.mul (a, b) (c, d))).2] := if_pos he
    rw [hv]
    have h2 := he
    rw [first2_val] at h2
    have h3 : Pl.parts a b 1048576 = 0 := by split at h2 <;> omega
    have h4 : Pl.parts c d 1048576 = 0 := by split at h2 <;> omega
    have h5 := parts_ok.1 h3
    have h6 := parts_ok.1 h4
    have HT := Lib.hid (fun W => product_any a b c d W (by unfold Pl.inB at h5; unfold Big; simp only at h5 ⊢; omega) (by unfold Pl.inB at h6; unfold Big; simp only at h6 ⊢; omega))
    rw [h3] at H1
    rw [h4] at H2
    have HF := Lib.hid (fun b0 c0 W h0 h1 => first2 0 0 b0 c0 W h0 h1)
    rw [show Pl.firstE [0, 0] = 0 from rfl] at HF
    have hq : Pl.mul (a, b) (c, d) = (a * c - b * d, a * d + b * c - b * d) := rfl
    rw [hq]
    have hL := Lib.hid (fun W => limited_any (a * c - b * d) (a * d + b * c - b * d) W)
    clear h2 h3 h4 h5 h6 he hv hq
    generalize a * c - b * d = q1 at *
    generalize a * d + b * c - b * d = q2 at *
    go_enter Tryz.func10, Tryz.ntmps10
    go_wp2
    go_region_held3 (fun W => W.cell? ⟨w.heap.size, 0, none⟩ = some (.int .i64 a) ∧ W.cell? ⟨w.heap.size, 1, none⟩ = some (.int .i64 b) ∧ W.cell? ⟨w.heap.size + 1, 0, none⟩ = some (.int .i64 c) ∧ W.cell? ⟨w.heap.size + 1, 1, none⟩ = some (.int .i64 d)) (go_keep)
      (first | (go_at_call_of 21 a; refine (H1.out _).mono ?_; rintro e w1 ⟨rfl, hb1⟩; obtain ⟨hc1, hf1⟩ := bcell' hb1 (w.heap.size + 3) (by simp); have hz1_2 : w.heap.size + 2 < w1.heap.size := (by have := hb1.size; (try simp at this); omega); have hz1_1 : w.heap.size + 1 < w1.heap.size := (by omega); have hz1_0 : w.heap.size < w1.heap.size := (by omega); have hB1 : Bw w w1 := Bw.trans (by repeat (with_reducible first | assumption | exact Bw.refl _ | apply Bw.drew | apply Bw.drewN | apply Bw.alloc | refine Bw.setCell ?_ (by first | (simp; done) | (simp; omega) | omega) _)) hb1) | (go_at_call_of 21 c; refine (H2.out _).mono ?_; rintro e w2 ⟨rfl, hb2⟩; obtain ⟨hc2, hf2⟩ := bcell' hb2 w1.heap.size (by simp); have hz2_2 : w.heap.size + 2 < w2.heap.size := (by have := hb2.size; (try simp at this); omega); have hz2_1 : w.heap.size + 1 < w2.heap.size := (by omega); have hz2_0 : w.heap.size < w2.heap.size := (by omega); have hB2 : Bw w w2 := Bw.trans (by repeat (with_reducible first | assumption | exact Bw.refl _ | apply Bw.drew | apply Bw.drewN | apply Bw.alloc | refine Bw.setCell ?_ (by first | (simp; done) | (simp; omega) | omega) _)) hb2) | (go_at_call 47; refine (HF.out _ _ _ (by go_simp) (by go_simp)).mono ?_; rintro e wp ⟨rfl, rfl⟩))
    go_wp2_with (first | (go_at_call 50; refine (HT.out _).mono ?_; rintro e w3 ⟨rfl, hb3⟩; obtain ⟨hc3, hf3⟩ := bcell' hb3 w2.heap.size (by simp); have hz3_2 : w.heap.size + 2 < w3.heap.size := (by have := hb3.size; (try simp at this); omega); have hz3_1 : w.heap.size + 1 < w3.heap.size := (by have := hb3.size; (try simp at this); omega); have hz3_0 : w.heap.size < w3.heap.size := (by have := hb3.size; (try simp at this); omega); have hB3 : Bw w w3 := Bw.trans (by repeat (with_reducible first | assumption | exact Bw.refl _ | apply Bw.drew | apply Bw.drewN | apply Bw.alloc | refine Bw.setCell ?_ (by first | (simp; done) | (simp; omega) | omega) _)) hb3) | (go_at_call 48; refine (hL.out _).mono ?_; rintro e w4 ⟨rfl, hb4⟩; obtain ⟨hc4, hf4⟩ := bcell' hb4 w3.heap.size (by simp); have hz4_2 : w.heap.size + 2 < w4.heap.size := (by have := hb4.size; (try simp at this); omega); have hz4_1 : w.heap.size + 1 < w4.heap.size := (by have := hb4.size; (try simp at this); omega); have hz4_0 : w.heap.size < w4.heap.size := (by have := hb4.size; (try simp at this); omega); have hB4 : Bw w w4 := Bw.trans (by repeat (with_reducible first | assumption | exact Bw.refl _ | apply Bw.drew | apply Bw.drewN | apply Bw.alloc | refine Bw.setCell ?_ (by first | (simp; done) | (simp; omega) | omega) _)) hb4))
    exact bodyPost_ret (v := .tuple #[.agg #[.int .i64 (Pl.lim (q1, q2)).1.1, .int .i64 (Pl.lim (q1, q2)).1.2], .int .i64 (Pl.lim (q1, q2)).2]) (by simp [results, Tryz.results10, go_sem, *]) rfl ⟨rfl, by repeat (with_reducible first | assumption | exact Bw.refl _ | apply Bw.drew | apply Bw.drewN | apply Bw.alloc | refine Bw.setCell ?_ (by first | (simp; done) | (simp; omega) | omega) _)⟩
  · have hv : mulV a b c d = .tuple #[.agg #[.int .i64 0, .int .i64 0], .int .i64 (Pl.firstE [Pl.parts a b 1048576, Pl.parts c d 1048576])] := if_neg he
    rw [hv]
    have HF := Lib.hid (fun b0 c0 W h0 h1 => first2 (Pl.parts a b 1048576) (Pl.parts c d 1048576) b0 c0 W h0 h1)
    generalize Pl.parts a b 1048576 = e1 at *
    generalize Pl.parts c d 1048576 = e2 at *
    generalize Pl.firstE [e1, e2] = e0 at *
    have he' : (e0 != 0) = true := by simp [he]
    clear he hv
    go_enter Tryz.func10, Tryz.ntmps10
    go_wp2
    go_region_held3 (fun W => W.cell? ⟨w.heap.size, 0, none⟩ = some (.int .i64 a) ∧ W.cell? ⟨w.heap.size, 1, none⟩ = some (.int .i64 b) ∧ W.cell? ⟨w.heap.size + 1, 0, none⟩ = some (.int .i64 c) ∧ W.cell? ⟨w.heap.size + 1, 1, none⟩ = some (.int .i64 d)) (go_keep)
      (first | (go_at_call_of 21 a; refine (H1.out _).mono ?_; rintro e w1 ⟨rfl, hb1⟩; obtain ⟨hc1, hf1⟩ := bcell' hb1 (w.heap.size + 3) (by simp); have hz1_2 : w.heap.size + 2 < w1.heap.size := (by have := hb1.size; (try simp at this); omega); have hz1_1 : w.heap.size + 1 < w1.heap.size := (by omega); have hz1_0 : w.heap.size < w1.heap.size := (by omega); have hB1 : Bw w w1 := Bw.trans (by repeat (with_reducible first | assumption | exact Bw.refl _ | apply Bw.drew | apply Bw.drewN | apply Bw.alloc | refine Bw.setCell ?_ (by first | (simp; done) | (simp; omega) | omega) _)) hb1) | (go_at_call_of 21 c; refine (H2.out _).mono ?_; rintro e w2 ⟨rfl, hb2⟩; obtain ⟨hc2, hf2⟩ := bcell' hb2 w1.heap.size (by simp); have hz2_2 : w.heap.size + 2 < w2.heap.size := (by have := hb2.size; (try simp at this); omega); have hz2_1 : w.heap.size + 1 < w2.heap.size := (by omega); have hz2_0 : w.heap.size < w2.heap.size := (by omega); have hB2 : Bw w w2 := Bw.trans (by repeat (with_reducible first | assumption | exact Bw.refl _ | apply Bw.drew | apply Bw.drewN | apply Bw.alloc | refine Bw.setCell ?_ (by first | (simp; done) | (simp; omega) | omega) _)) hb2) | (go_at_call 47; refine (HF.out _ _ _ (by go_simp) (by go_simp)).mono ?_; rintro e wp ⟨rfl, rfl⟩))
    go_wp2
    exact bodyPost_ret (v := .tuple #[.agg #[.int .i64 0, .int .i64 0], .int .i64 e0]) (by simp [results, Tryz.results10, go_sem, *]) rfl ⟨rfl, by repeat (with_reducible first | assumption | exact Bw.refl _ | apply Bw.drew | apply Bw.drewN | apply Bw.alloc | refine Bw.setCell ?_ (by first | (simp; done) | (simp; omega) | omega) _)⟩
end Go.Proofs.YtgloclcbeohkhaaGreatDoor
