/-
  The contract of Balanced.
-/
import Derived.Test.YtgloclcbeohkhaaGreatDoorComps
import Derived.Test.YtgloclcbeohkhaaGreatDoorEq
namespace Go.Proofs.YtgloclcbeohkhaaGreatDoor
set_option linter.all false
open Go.RowKit

/-- The components 0 and 2 are 0. -/
def balB (g : Nat → Int × Int) : Bool := ((g 0).1 == 0 && ((g 0).2 == 0 && ((g 2).1 == 0 && (g 2).2 == 0)))
/-- What 'Balanced' returns. -/
def balV (p q r : Int × Int) : Value := if firstP 65536 [p, q, r] = 0 then .tuple #[.bool (balB (cmp p q r)), .int .i64 0] else .tuple #[.bool false, .int .i64 (firstP 65536 [p, q, r])]

set_option maxHeartbeats 1000000 in
set_option maxRecDepth 100000 in
theorem balanced_any (p q r : Int × Int) (w : World) :
    Calls Tryz.prog 31 #[.agg #[.int .i64 p.1, .int .i64 p.2, .int .i64 q.1, .int .i64 q.2, .int .i64 r.1, .int .i64 r.2]] w fun e w' => e = .returned (balV p q r) ∧ Bw w w' := by
  have H1 := Lib.hid (fun W => components'_any p q r W)
  by_cases he : firstP 65536 [p, q, r] = 0
  · have hv : balV p q r = .tuple #[.bool (balB (cmp p q r)), .int .i64 0] := if_pos he
    have hv' : compV p q r = .tuple #[.agg #[.int .i64 (cmp p q r 0).1, .int .i64 (cmp p q r 0).2, .int .i64 (cmp p q r 1).1, .int .i64 (cmp p q r 1).2, .int .i64 (cmp p q r 2).1, .int .i64 (cmp p q r 2).2], .int .i64 0] := if_pos he
    rw [hv]
    rw [hv'] at H1
    clear hv he hv'
    generalize cmp p q r = g at *
    have heq := eq_three 50 Tryz.underlying50
    go_enter Tryz.func31, Tryz.ntmps31
    go_wp2_with (first | (go_at_call 29; refine (H1.out _).mono ?_; rintro e w1 ⟨rfl, hb1⟩; obtain ⟨hc1, hf1⟩ := bcell' hb1 (w.heap.size + 1) (by simp); have hz1_0 : w.heap.size < w1.heap.size := (by have := hb1.size; (try simp at this); omega); have hB1 : Bw w w1 := Bw.trans (by repeat (with_reducible first | assumption | exact Bw.refl _ | apply Bw.drew | apply Bw.drewN | apply Bw.alloc | refine Bw.setCell ?_ (by first | (simp; done) | (simp; omega) | omega) _)) hb1))
    go_ret2
    exact ⟨rfl, by repeat (with_reducible first | assumption | exact Bw.refl _ | apply Bw.drew | apply Bw.drewN | apply Bw.alloc | refine Bw.setCell ?_ (by first | (simp; done) | (simp; omega) | omega) _)⟩
  · have hv : balV p q r = .tuple #[.bool false, .int .i64 (firstP 65536 [p, q, r])] := if_neg he
    have hv' : compV p q r = .tuple #[.agg #[.int .i64 0, .int .i64 0, .int .i64 0, .int .i64 0, .int .i64 0, .int .i64 0], .int .i64 (firstP 65536 [p, q, r])] := if_neg he
    rw [hv]
    rw [hv'] at H1
    generalize firstP 65536 [p, q, r] = e0 at *
    have he' : (e0 != 0) = true := by simp [he]
    clear he hv hv'
    go_enter Tryz.func31, Tryz.ntmps31
    go_wp2_with (first | (go_at_call 29; refine (H1.out _).mono ?_; rintro e w1 ⟨rfl, hb1⟩; obtain ⟨hc1, hf1⟩ := bcell' hb1 (w.heap.size + 1) (by simp); have hz1_0 : w.heap.size < w1.heap.size := (by have := hb1.size; (try simp at this); omega); have hB1 : Bw w w1 := Bw.trans (by repeat (with_reducible first | assumption | exact Bw.refl _ | apply Bw.drew | apply Bw.drewN | apply Bw.alloc | refine Bw.setCell ?_ (by first | (simp; done) | (simp; omega) | omega) _)) hb1))
    go_ret2
    exact ⟨rfl, by repeat (with_reducible first | assumption | exact Bw.refl _ | apply Bw.drew | apply Bw.drewN | apply Bw.alloc | refine Bw.setCell ?_ (by first | (simp; done) | (simp; omega) | omega) _)⟩
end Go.Proofs.YtgloclcbeohkhaaGreatDoor
