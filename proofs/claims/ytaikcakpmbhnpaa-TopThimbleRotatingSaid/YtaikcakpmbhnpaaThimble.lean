/-
  The contracts of the small functions of the theorem of the whole.
-/
import Derived.Test.YtaikcakpmbhnpaaComps
import Derived.Test.YtaikcakpmbhnpaaEncoded
import Derived.Test.YtaikcakpmbhnpaaEqB
namespace Go.Proofs.Ytaikcakpmbhnpaa
set_option linter.all false
open Go.RowKit

set_option maxHeartbeats 400000 in
theorem thimbleNumber_any (x y : Int) (w : World) (hx : -128 ≤ x ∧ x ≤ 127) (hy : -128 ≤ y ∧ y ≤ 127) :
    Calls Try.prog 6 #[.agg #[.int .i8 x, .int .i8 y]] w fun e w' => e = .returned (.agg #[.int .i64 (x.tmod 101), .int .i64 (y.tmod 101)]) ∧ Bw w w' := by
  obtain ⟨x1, x2⟩ := hx
  obtain ⟨y1, y2⟩ := hy
  go_enter Try.func6, Try.ntmps6
  go_wp2
  exact bodyPost_ret (v := .agg #[.int .i64 (x.tmod 101), .int .i64 (y.tmod 101)]) (by simp [results, Try.results6, go_sem]) rfl ⟨rfl, (((Bw.refl _).alloc _).alloc _)⟩

set_option maxHeartbeats 1000000 in
theorem thimblePair_any (p q r : Int × Int) (n : Int) (w : World) (hn : 0 ≤ n ∧ n ≤ 1000000) :
    Calls Try.prog 7 #[.agg #[.int .i64 p.1, .int .i64 p.2, .int .i64 q.1, .int .i64 q.2, .int .i64 r.1, .int .i64 r.2], .int .i64 n] w fun e w' =>
      e = .returned (.agg #[.int .i64 5, .int .i64 (2 * n % 65536), .int .i64 p.1, .int .i64 p.2, .int .i64 q.1, .int .i64 q.2, .int .i64 5, .int .i64 ((2 * n + 1) % 65536), .int .i64 r.1, .int .i64 r.2, .int .i64 0, .int .i64 0]) ∧ Bw w w' := by
  obtain ⟨n1, n2⟩ := hn
  go_enter Try.func7, Try.ntmps7
  go_wp2
  exact bodyPost_ret (v := .agg #[.int .i64 5, .int .i64 (2 * n % 65536), .int .i64 p.1, .int .i64 p.2, .int .i64 q.1, .int .i64 q.2, .int .i64 5, .int .i64 ((2 * n + 1) % 65536), .int .i64 r.1, .int .i64 r.2, .int .i64 0, .int .i64 0]) (by simp [results, Try.results7, go_sem]) rfl ⟨rfl, by repeat (with_reducible first | assumption | exact Bw.refl _ | apply Bw.drew | apply Bw.drewN | apply Bw.alloc | refine Bw.setCell ?_ (by first | (simp; done) | (simp; omega) | omega) _)⟩
end Go.Proofs.Ytaikcakpmbhnpaa
