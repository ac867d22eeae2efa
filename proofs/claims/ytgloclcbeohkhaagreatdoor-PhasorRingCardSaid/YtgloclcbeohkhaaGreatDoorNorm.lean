/-
  The contracts of Norm and of the specification's norm, checks and comparisons of lists.
-/
import Derived.Test.YtgloclcbeohkhaaGreatDoorTrans
namespace Go.Proofs.YtgloclcbeohkhaaGreatDoor
set_option linter.all false
open Go.RowKit

/-- What 'Norm' returns. -/
def normV (a b : Int) : Value := if Pl.parts a b 1048576 = 0 then .tuple #[.int .i64 (Pl.norm (a, b)), .int .i64 0] else .tuple #[.int .i64 0, .int .i64 (Pl.parts a b 1048576)]

set_option maxHeartbeats 1000000 in
theorem norm_any (a b : Int) (w : World) :
    Calls Tryz.prog 12 #[.agg #[.int .i64 a, .int .i64 b]] w fun e w' => e = .returned (normV a b) ∧ Bw w w' := by
  have H1 := Lib.hid (fun W => checkEisen_any a b W)
  by_cases he : Pl.parts a b 1048576 = 0
  · have hv : normV a b = .tuple #[.int .i64 (a * a - a * b + b * b), .int .i64 0] := if_pos he
    rw [hv]
    obtain ⟨a1, a2, a3, a4⟩ := parts_ok.1 he
    simp only at a1 a2 a3 a4
    rw [he] at H1
    obtain ⟨m1, m2⟩ := mul_bd 1048576 a a (by omega) a1 a2 a1 a2
    obtain ⟨m3, m4⟩ := mul_bd 1048576 a b (by omega) a1 a2 a3 a4
    obtain ⟨m5, m6⟩ := mul_bd 1048576 b b (by omega) a3 a4 a3 a4
    simp only [Int.reduceMul] at m1 m2 m3 m4 m5 m6
    clear hv he
    go_enter Tryz.func12, Tryz.ntmps12
    go_wp2_with (first | (go_at_call 21; refine (H1.out _).mono ?_; rintro e w1 ⟨rfl, hb1⟩; obtain ⟨hc1, hf1⟩ := bcell' hb1 (w.heap.size + 1) (by simp); have hz1_0 : w.heap.size < w1.heap.size := (by have := hb1.size; (try simp at this); omega); have hB1 : Bw w w1 := Bw.trans (by repeat (with_reducible first | assumption | exact Bw.refl _ | apply Bw.drew | apply Bw.drewN | apply Bw.alloc | refine Bw.setCell ?_ (by first | (simp; done) | (simp; omega) | omega) _)) hb1))
    go_ret2
    exact ⟨rfl, hB1⟩
  · have hv : normV a b = .tuple #[.int .i64 0, .int .i64 (Pl.parts a b 1048576)] := if_neg he
    rw [hv]
    generalize Pl.parts a b 1048576 = e0 at *
    have he' : (e0 != 0) = true := by simp [he]
    clear he hv
    go_enter Tryz.func12, Tryz.ntmps12
    go_wp2_with (first | (go_at_call 21; refine (H1.out _).mono ?_; rintro e w1 ⟨rfl, hb1⟩; obtain ⟨hc1, hf1⟩ := bcell' hb1 (w.heap.size + 1) (by simp); have hz1_0 : w.heap.size < w1.heap.size := (by have := hb1.size; (try simp at this); omega); have hB1 : Bw w w1 := Bw.trans (by repeat (with_reducible first | assumption | exact Bw.refl _ | apply Bw.drew | apply Bw.drewN | apply Bw.alloc | refine Bw.setCell ?_ (by first | (simp; done) | (simp; omega) | omega) _)) hb1))
    go_ret2
    exact ⟨rfl, hB1⟩
end Go.Proofs.YtgloclcbeohkhaaGreatDoor
