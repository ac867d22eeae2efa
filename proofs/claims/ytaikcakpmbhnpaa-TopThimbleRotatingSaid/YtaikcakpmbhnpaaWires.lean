/-
  The contract of the fixed example of the theorem of the whole.
-/
import Derived.Test.YtaikcakpmbhnpaaThimble
namespace Go.Proofs.Ytaikcakpmbhnpaa
set_option linter.all false
open Go.RowKit

theorem frame_a : bytes16 (frameL 5 6 [2, 0, -2, -2]) = .agg #[.int .u8 177, .int .u8 5, .int .u8 0, .int .u8 6, .int .u8 0, .int .u8 2, .int .u8 0, .int .u8 0, .int .u8 255, .int .u8 254, .int .u8 255, .int .u8 254, .int .u8 0, .int .u8 121, .int .u8 28, .int .u8 10] := by
  have h : frameL 5 6 [2, 0, -2, -2] = [177, 5, 0, 6, 0, 2, 0, 0, 255, 254, 255, 254, 0, 121, 28, 10] := by decide +kernel
  rw [h]; rfl
theorem frame_b : bytes16 (frameL 5 7 [0, 2, 0, 0]) = .agg #[.int .u8 177, .int .u8 5, .int .u8 0, .int .u8 7, .int .u8 0, .int .u8 0, .int .u8 0, .int .u8 2, .int .u8 0, .int .u8 0, .int .u8 0, .int .u8 0, .int .u8 0, .int .u8 16, .int .u8 33, .int .u8 220] := by
  have h : frameL 5 7 [0, 2, 0, 0] = [177, 5, 0, 7, 0, 0, 0, 2, 0, 0, 0, 0, 0, 16, 33, 220] := by decide +kernel
  rw [h]; rfl
theorem comp_a : compV (2, 0) (-2, -2) (0, 2) = .tuple #[.agg #[.int .i64 0, .int .i64 0, .int .i64 6, .int .i64 0, .int .i64 0, .int .i64 0], .int .i64 0] := by
  have h0 : firstP 65536 [(2, 0), (-2, -2), (0, 2)] = 0 := by decide +kernel
  have h1 : cmp (2, 0) (-2, -2) (0, 2) 0 = (0, 0) := by decide +kernel
  have h2 : cmp (2, 0) (-2, -2) (0, 2) 1 = (6, 0) := by decide +kernel
  have h3 : cmp (2, 0) (-2, -2) (0, 2) 2 = (0, 0) := by decide +kernel
  unfold compV
  rw [if_pos h0, h1, h2, h3]

set_option maxHeartbeats 4000000 in
set_option maxRecDepth 100000 in
theorem thimbleWires_any (w : World) : Calls Try.prog 5 #[] w fun e w' => e = .returned (.bool true) ∧ Bw w w' := by
  have HP := Lib.hid (fun W => thimblePair_any (2, 0) (-2, -2) (0, 2) 3 W (by omega))
  have HA := Lib.hid (fun W => encode_yes 5 6 2 0 (-2) (-2) W (by decide +kernel))
  have HB := Lib.hid (fun W => encode_yes 5 7 0 2 0 0 W (by decide +kernel))
  have HC := Lib.hid (fun W => components'_any (2, 0) (-2, -2) (0, 2) W)
  rw [frame_a] at HA
  rw [frame_b] at HB
  rw [comp_a] at HC
  simp only at HP
  have heq := eq_b12
  have heq3 := eq_three 36 Try.underlying36
  have harr : ∀ (a : Option Addr) (cap : Nat) (W : World), (Instr.arrayAt 76 (.slice a 12 cap)).run Try.prog W = .ok (.pointer a) W := fun a cap W => run_arrayAt W _ _ 12 a 12 cap Try.underlying76 (by omega)
  go_enter Try.func5, Try.ntmps5
  go_wp2_with fail
  refine (HP.out _).mono ?_
  rintro e w1 ⟨rfl, hb1⟩
  obtain ⟨hc1, hf1⟩ := bcell' hb1 (w.heap.size + 1) (by simp)
  have hq1 : w.heap.size < w1.heap.size := by have := hb1.size; (try simp at this); omega
  have hl1_0 : w.heap.size < w1.heap.size := by omega
  have hm1_0 : w.heap.size ≤ w1.heap.size := by omega
  have hB1 : Bw w w1 := Bw.trans (by repeat (with_reducible first | assumption | exact Bw.refl _ | apply Bw.drew | apply Bw.drewN | apply Bw.alloc | refine Bw.setCell ?_ (by first | (simp; done) | (simp; omega) | omega) _)) hb1
  go_wp2_with fail
  refine (HA.out _).mono ?_
  rintro e w2 ⟨rfl, hb2⟩
  obtain ⟨hc2, hf2⟩ := bcell' hb2 (w1.heap.size + 1) (by simp)
  have hq2 : w1.heap.size < w2.heap.size := by have := hb2.size; (try simp at this); omega
  have hl2_0 : w1.heap.size < w2.heap.size := by omega
  have hm2_0 : w1.heap.size ≤ w2.heap.size := by omega
  have hl2_1 : w.heap.size < w2.heap.size := by omega
  have hm2_1 : w.heap.size ≤ w2.heap.size := by omega
  have hB2 : Bw w w2 := Bw.trans (by repeat (with_reducible first | assumption | exact Bw.refl _ | apply Bw.drew | apply Bw.drewN | apply Bw.alloc | refine Bw.setCell ?_ (by first | (simp; done) | (simp; omega) | omega) _)) hb2
  go_wp2_with fail
  refine (HB.out _).mono ?_
  rintro e w3 ⟨rfl, hb3⟩
  obtain ⟨hc3, hf3⟩ := bcell' hb3 (w2.heap.size + 1) (by simp)
  have hq3 : w2.heap.size < w3.heap.size := by have := hb3.size; (try simp at this); omega
  have hl3_0 : w2.heap.size < w3.heap.size := by omega
  have hm3_0 : w2.heap.size ≤ w3.heap.size := by omega
  have hl3_1 : w1.heap.size < w3.heap.size := by omega
  have hm3_1 : w1.heap.size ≤ w3.heap.size := by omega
  have hl3_2 : w.heap.size < w3.heap.size := by omega
  have hm3_2 : w.heap.size ≤ w3.heap.size := by omega
  have hB3 : Bw w w3 := Bw.trans (by repeat (with_reducible first | assumption | exact Bw.refl _ | apply Bw.drew | apply Bw.drewN | apply Bw.alloc | refine Bw.setCell ?_ (by first | (simp; done) | (simp; omega) | omega) _)) hb3
  go_wp2_with fail
  refine (HC.out _).mono ?_
  rintro e w4 ⟨rfl, hb4⟩
  obtain ⟨hc4, hf4⟩ := bcell' hb4 (w3.heap.size + 1) (by simp)
  have hq4 : w3.heap.size < w4.heap.size := by have := hb4.size; (try simp at this); omega
  have hl4_0 : w3.heap.size < w4.heap.size := by omega
  have hm4_0 : w3.heap.size ≤ w4.heap.size := by omega
  have hl4_1 : w2.heap.size < w4.heap.size := by omega
  have hm4_1 : w2.heap.size ≤ w4.heap.size := by omega
  have hl4_2 : w1.heap.size < w4.heap.size := by omega
  have hm4_2 : w1.heap.size ≤ w4.heap.size := by omega
  have hl4_3 : w.heap.size < w4.heap.size := by omega
  have hm4_3 : w.heap.size ≤ w4.heap.size := by omega
  have hB4 : Bw w w4 := Bw.trans (by repeat (with_reducible first | assumption | exact Bw.refl _ | apply Bw.drew | apply Bw.drewN | apply Bw.alloc | refine Bw.setCell ?_ (by first | (simp; done) | (simp; omega) | omega) _)) hb4
  go_wp2_with fail
  go_ret
  exact ⟨rfl, by repeat (with_reducible first | assumption | exact Bw.refl _ | apply Bw.drew | apply Bw.drewN | apply Bw.alloc | refine Bw.setCell ?_ (by first | (simp; done) | (simp; omega) | omega) _)⟩
end Go.Proofs.Ytaikcakpmbhnpaa
