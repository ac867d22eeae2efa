/-
  The contracts of Turned, Add, Mul and Norm.
-/
import Derived.Test.YtgloclcbeohkhaaGreatDoorNumbers
namespace Go.Proofs.YtgloclcbeohkhaaGreatDoor
set_option linter.all false
open Go.RowKit

/-- What 'Turned' returns. -/
def turnedV (a b n : Int) : Value := if Pl.firstE [Pl.parts a b 1048576, Pl.cr n (-1000000) 1000000] = 0 then
  .tuple #[.agg #[.int .i64 (Pl.lim (Pl.turn (a, b) n)).1.1, .int .i64 (Pl.lim (Pl.turn (a, b) n)).1.2], .int .i64 (Pl.lim (Pl.turn (a, b) n)).2]
  else .tuple #[.agg #[.int .i64 0, .int .i64 0], .int .i64 (Pl.firstE [Pl.parts a b 1048576, Pl.cr n (-1000000) 1000000])]

set_option maxHeartbeats 1000000 in
set_option maxRecDepth 100000 in
theorem turned_any (a b n : Int) (w : World) :
    Calls Tryz.prog 11 #[.agg #[.int .i64 a, .int .i64 b], .int .i64 n] w fun e w' => e = .returned (turnedV a b n) ∧ Bw w w' := by
  have H1 := Lib.hid (fun W => checkEisen_any a b W)
  have H2 := Lib.hid (fun W => checkTurn_any n W)
  by_cases he : Pl.firstE [Pl.parts a b 1048576, Pl.cr n (-1000000) 1000000] = 0
  · have hv : turnedV a b n = .tuple #[.agg #[.int .i64 (Pl.lim (Pl.turn (a, b) n)).1.1, .int .i64 (Pl.lim (Pl.turn (a, b) n)).1.2], .int .i64 (Pl.lim (Pl.turn (a, b) n)).2] := if_pos he
    rw [hv]
    have h2 := he
    rw [first2_val] at h2
    have h3 : Pl.parts a b 1048576 = 0 := by split at h2 <;> omega
    have h4 : Pl.cr n (-1000000) 1000000 = 0 := by split at h2 <;> omega
    have h5 := parts_ok.1 h3
    obtain ⟨n1, n2⟩ := cr_ok.1 h4
    have HT := Lib.hid (fun W => turn_any a b n W (by unfold Pl.inB at h5; unfold Big; simp only at h5 ⊢; omega) (by omega))
    rw [h3] at H1
    rw [h4] at H2
    have HF := Lib.hid (fun b0 c0 W h0 h1 => first2 0 0 b0 c0 W h0 h1)
    rw [show Pl.firstE [0, 0] = 0 from rfl] at HF
    have hL := Lib.hid (fun W => limited_any (Pl.turn (a, b) n).1 (Pl.turn (a, b) n).2 W)
    clear h2 h3 h4 h5 he hv
    generalize (Pl.turn (a, b) n) = q at *
    go_enter Tryz.func11, Tryz.ntmps11
    go_wp2_with (first | (go_at_call 21; refine (H1.out _).mono ?_; rintro e w1 ⟨rfl, hb1⟩; obtain ⟨hc1, hf1⟩ := bcell' hb1 (w.heap.size + 2) (by simp); have hz1_1 : w.heap.size + 1 < w1.heap.size := (by have := hb1.size; (try simp at this); omega); have hz1_0 : w.heap.size < w1.heap.size := (by have := hb1.size; (try simp at this); omega); have hB1 : Bw w w1 := Bw.trans (by repeat (with_reducible first | assumption | exact Bw.refl _ | apply Bw.drew | apply Bw.drewN | apply Bw.alloc | refine Bw.setCell ?_ (by first | (simp; done) | (simp; omega) | omega) _)) hb1) | (go_at_call 51; refine (H2.out _).mono ?_; rintro e wp ⟨rfl, rfl⟩) | (go_at_call 47; refine (HF.out _ _ _ (by go_simp) (by go_simp)).mono ?_; rintro e wp ⟨rfl, rfl⟩) | (go_at_call 52; refine (HT.out _).mono ?_; rintro e w3 ⟨rfl, hb3⟩; obtain ⟨hc3, hf3⟩ := bcell' hb3 w1.heap.size (by simp); have hz3_1 : w.heap.size + 1 < w3.heap.size := (by have := hb3.size; (try simp at this); omega); have hz3_0 : w.heap.size < w3.heap.size := (by have := hb3.size; (try simp at this); omega); have hB3 : Bw w w3 := Bw.trans (by repeat (with_reducible first | assumption | exact Bw.refl _ | apply Bw.drew | apply Bw.drewN | apply Bw.alloc | refine Bw.setCell ?_ (by first | (simp; done) | (simp; omega) | omega) _)) hb3) | (go_at_call 48; refine (hL.out _).mono ?_; rintro e w4 ⟨rfl, hb4⟩; obtain ⟨hc4, hf4⟩ := bcell' hb4 w3.heap.size (by simp); have hz4_1 : w.heap.size + 1 < w4.heap.size := (by have := hb4.size; (try simp at this); omega); have hz4_0 : w.heap.size < w4.heap.size := (by have := hb4.size; (try simp at this); omega); have hB4 : Bw w w4 := Bw.trans (by repeat (with_reducible first | assumption | exact Bw.refl _ | apply Bw.drew | apply Bw.drewN | apply Bw.alloc | refine Bw.setCell ?_ (by first | (simp; done) | (simp; omega) | omega) _)) hb4))
    exact bodyPost_ret (v := .tuple #[.agg #[.int .i64 (Pl.lim q).1.1, .int .i64 (Pl.lim q).1.2], .int .i64 (Pl.lim q).2]) (by simp [results, Tryz.results11, go_sem, *]) rfl ⟨rfl, by repeat (with_reducible first | assumption | exact Bw.refl _ | apply Bw.drew | apply Bw.drewN | apply Bw.alloc | refine Bw.setCell ?_ (by first | (simp; done) | (simp; omega) | omega) _)⟩
  · have hv : turnedV a b n = .tuple #[.agg #[.int .i64 0, .int .i64 0], .int .i64 (Pl.firstE [Pl.parts a b 1048576, Pl.cr n (-1000000) 1000000])] := if_neg he
    rw [hv]
    have HF := Lib.hid (fun b0 c0 W h0 h1 => first2 (Pl.parts a b 1048576) (Pl.cr n (-1000000) 1000000) b0 c0 W h0 h1)
    generalize Pl.parts a b 1048576 = e1 at *
    generalize Pl.cr n (-1000000) 1000000 = e2 at *
    generalize Pl.firstE [e1, e2] = e0 at *
    have he' : (e0 != 0) = true := by simp [he]
    clear he hv
    go_enter Tryz.func11, Tryz.ntmps11
    go_wp2_with (first | (go_at_call 21; refine (H1.out _).mono ?_; rintro e w1 ⟨rfl, hb1⟩; obtain ⟨hc1, hf1⟩ := bcell' hb1 (w.heap.size + 2) (by simp); have hz1_1 : w.heap.size + 1 < w1.heap.size := (by have := hb1.size; (try simp at this); omega); have hz1_0 : w.heap.size < w1.heap.size := (by have := hb1.size; (try simp at this); omega); have hB1 : Bw w w1 := Bw.trans (by repeat (with_reducible first | assumption | exact Bw.refl _ | apply Bw.drew | apply Bw.drewN | apply Bw.alloc | refine Bw.setCell ?_ (by first | (simp; done) | (simp; omega) | omega) _)) hb1) | (go_at_call 51; refine (H2.out _).mono ?_; rintro e wp ⟨rfl, rfl⟩) | (go_at_call 47; refine (HF.out _ _ _ (by go_simp) (by go_simp)).mono ?_; rintro e wp ⟨rfl, rfl⟩))
    exact bodyPost_ret (v := .tuple #[.agg #[.int .i64 0, .int .i64 0], .int .i64 e0]) (by simp [results, Tryz.results11, go_sem, *]) rfl ⟨rfl, by repeat (with_reducible first | assumption | exact Bw.refl _ | apply Bw.drew | apply Bw.drewN | apply Bw.alloc | refine Bw.setCell ?_ (by first | (simp; done) | (simp; omega) | omega) _)⟩
end Go.Proofs.YtgloclcbeohkhaaGreatDoor
