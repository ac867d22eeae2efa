/-
  What the program's functions answer on turning phases: plain facts on the values of the contracts.
-/
import Derived.Test.YtaikcakpmbhnpaaRotMath
namespace Go.Proofs.Ytaikcakpmbhnpaa
set_option linter.all false

theorem ph3_ok (x : Int × Int) (hx : Pl.inB 200 x) : firstP 65536 [x, Pl.turn x (-2), Pl.turn x 2] = 0 := by
  have h1 := turn_in x (-2) 200 hx
  have h2 := turn_in x 2 200 hx
  refine firstP_zero.2 fun p hp => ?_
  simp only [List.mem_cons, List.not_mem_nil, or_false] at hp
  unfold Pl.inB at *
  rcases hp with rfl | rfl | rfl <;> omega
theorem bal_val (x : Int × Int) (hx : Pl.inB 200 x) : balV x (Pl.turn x (-2)) (Pl.turn x 2) = .tuple #[.bool true, .int .i64 0] := by
  unfold balV
  rw [if_pos (ph3_ok x hx), bal_rot]
theorem pow_val (x y M : Int × Int) (hx : Pl.inB 200 x) (hy : Pl.inB 200 y) (hM : Pl.mul x (Pl.bar y) = M) :
    powV x (Pl.turn x (-2)) (Pl.turn x 2) y (Pl.turn y (-2)) (Pl.turn y 2) = .tuple #[.agg #[.int .i64 (3 * M.1), .int .i64 (3 * M.2)], .int .i64 (6 * M.1 - 3 * M.2), .int .i64 0] := by
  unfold powV
  rw [ph3_ok x hx, ph3_ok y hy, if_pos (show Pl.firstE [0, 0] = 0 from rfl), pow_rot, hM]
  simp only
  rw [show 2 * (3 * M.1) - 3 * M.2 = 6 * M.1 - 3 * M.2 by omega]
theorem mulbar_bd (a b c d : Int) (ha : a < 101 ∧ -101 < a) (hb : b < 101 ∧ -101 < b) (hc : c < 101 ∧ -101 < c) (hd : d < 101 ∧ -101 < d) : Pl.inB 200000 (Pl.mul (a, b) (Pl.bar (c, d))) := by
  obtain ⟨m1, m2⟩ := mul_bd 200 a (c - d) (by omega) (by omega) (by omega) (by omega) (by omega)
  obtain ⟨m3, m4⟩ := mul_bd 200 b (-d) (by omega) (by omega) (by omega) (by omega) (by omega)
  obtain ⟨m5, m6⟩ := mul_bd 200 a (-d) (by omega) (by omega) (by omega) (by omega) (by omega)
  obtain ⟨m7, m8⟩ := mul_bd 200 b (c - d) (by omega) (by omega) (by omega) (by omega) (by omega)
  unfold Pl.inB Pl.mul Pl.bar
  simp only
  generalize a * (c - d) = k1 at *
  generalize b * (-d) = k2 at *
  generalize a * (-d) = k3 at *
  generalize b * (c - d) = k4 at *
  refine ⟨?_, ?_, ?_, ?_⟩ <;> omega
/-- The one element of the spectrum of a turning number. -/
def lone (a : Int × Int) (n : Int) (k : Nat) : Int × Int := if (k : Int) = n % 6 then (6 * a.1, 6 * a.2) else (0, 0)
theorem spec_val (a : Int × Int) (n : Int) (ha : Pl.inB 100 a) :
    specV (Pl.turn a (0 * n)) (Pl.turn a (1 * n)) (Pl.turn a (2 * n)) (Pl.turn a (3 * n)) (Pl.turn a (4 * n)) (Pl.turn a (5 * n)) =
    .tuple #[.agg #[.int .i64 (lone a n 0).1, .int .i64 (lone a n 0).2, .int .i64 (lone a n 1).1, .int .i64 (lone a n 1).2, .int .i64 (lone a n 2).1, .int .i64 (lone a n 2).2, .int .i64 (lone a n 3).1, .int .i64 (lone a n 3).2, .int .i64 (lone a n 4).1, .int .i64 (lone a n 4).2, .int .i64 (lone a n 5).1, .int .i64 (lone a n 5).2], .int .i64 0] := by
  unfold specV
  have h : firstP 65536 [Pl.turn a (0 * n), Pl.turn a (1 * n), Pl.turn a (2 * n), Pl.turn a (3 * n), Pl.turn a (4 * n), Pl.turn a (5 * n)] = 0 := by
    have h0 := turn_in a (0 * n) 100 ha
    have h1 := turn_in a (1 * n) 100 ha
    have h2 := turn_in a (2 * n) 100 ha
    have h3 := turn_in a (3 * n) 100 ha
    have h4 := turn_in a (4 * n) 100 ha
    have h5 := turn_in a (5 * n) 100 ha
    refine firstP_zero.2 fun p hp => ?_
    simp only [List.mem_cons, List.not_mem_nil, or_false] at hp
    unfold Pl.inB at *
    rcases hp with rfl | rfl | rfl | rfl | rfl | rfl <;> omega
  rw [if_pos h]
  simp only [spc_rot a n _ (show 0 < 6 by omega), spc_rot a n _ (show 1 < 6 by omega), spc_rot a n _ (show 2 < 6 by omega), spc_rot a n _ (show 3 < 6 by omega), spc_rot a n _ (show 4 < 6 by omega), spc_rot a n _ (show 5 < 6 by omega), lone]
end Go.Proofs.Ytaikcakpmbhnpaa
