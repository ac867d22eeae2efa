/-
  The contract of Encode.
-/
import Derived.Test.YtaikcakpmbhnpaaEncode
namespace Go.Proofs.Ytaikcakpmbhnpaa
set_option linter.all false
open Go.RowKit

/-- The bytes of a frame, as far as k values are appended. -/
def encL (s c : Int) (vs : List Int) (k : Nat) : List Int := [177, s % 256] ++ bti c 2 ++ (vs.take k).flatMap fun v => bti v 2
theorem bti_length (n : Int) (k : Nat) : (bti n k).length = k := by simp [bti]
theorem encL_zero (s c : Int) (vs : List Int) : encL s c vs 0 = [177, s % 256] ++ bti c 2 := by simp [encL]
theorem encL_succ (s c : Int) (vs : List Int) (k : Nat) (h : k < vs.length) : encL s c vs (k + 1) = encL s c vs k ++ bti (vs.getD k 0) 2 := by
  have e : vs.getD k 0 = vs[k] := by simp [h]
  unfold encL
  rw [List.take_succ_eq_append_getElem h, List.flatMap_append, e]
  simp
theorem encL_length (s c : Int) (vs : List Int) (k : Nat) (h : k ≤ vs.length) : (encL s c vs k).length = 4 + 2 * k := by
  induction k with
  | zero => simp [encL, bti_length]
  | succ k ih => rw [encL_succ s c vs k (by omega), List.length_append, ih (by omega), bti_length]; omega
theorem encL_is (s c : Int) (vs : List Int) (k : Nat) (h : k ≤ vs.length) : ∀ b, b ∈ encL s c vs k → 0 ≤ b ∧ b < 256 := by
  induction k with
  | zero =>
    intro b hb
    rw [encL_zero] at hb
    rcases List.mem_append.1 hb with hb | hb
    · have h0 := Int.emod_nonneg s (b := 256) (by omega)
      have h1 := Int.emod_lt_of_pos s (b := 256) (by omega)
      simp only [List.mem_cons, List.not_mem_nil, or_false] at hb
      omega
    · exact bti_is _ _ b hb
  | succ k ih =>
    intro b hb
    rw [encL_succ s c vs k (by omega)] at hb
    rcases List.mem_append.1 hb with hb | hb
    · exact ih (by omega) b hb
    · exact bti_is _ _ b hb

/-- The frame of a telegram. -/
def frameL (s c : Int) (vs : List Int) : List Int := encL s c vs 4 ++ bti (sumFrom 1 (encL s c vs 4)) 4
def bytes16 (l : List Int) : Value := .agg #[.int .u8 (l.getD 0 0), .int .u8 (l.getD 1 0), .int .u8 (l.getD 2 0), .int .u8 (l.getD 3 0), .int .u8 (l.getD 4 0), .int .u8 (l.getD 5 0), .int .u8 (l.getD 6 0), .int .u8 (l.getD 7 0), .int .u8 (l.getD 8 0), .int .u8 (l.getD 9 0), .int .u8 (l.getD 10 0), .int .u8 (l.getD 11 0), .int .u8 (l.getD 12 0), .int .u8 (l.getD 13 0), .int .u8 (l.getD 14 0), .int .u8 (l.getD 15 0)]

theorem idxV0 (a0 a1 a2 a3 : Value) (W : World) : (Instr.index 38 (.agg #[a0, a1, a2, a3]) (.int .i64 0)).run Try.prog W = .ok a0 W := by kernel_rfl
theorem idxV1 (a0 a1 a2 a3 : Value) (W : World) : (Instr.index 38 (.agg #[a0, a1, a2, a3]) (.int .i64 1)).run Try.prog W = .ok a1 W := by kernel_rfl
theorem idxV2 (a0 a1 a2 a3 : Value) (W : World) : (Instr.index 38 (.agg #[a0, a1, a2, a3]) (.int .i64 2)).run Try.prog W = .ok a2 W := by kernel_rfl
theorem idxV3 (a0 a1 a2 a3 : Value) (W : World) : (Instr.index 38 (.agg #[a0, a1, a2, a3]) (.int .i64 3)).run Try.prog W = .ok a3 W := by kernel_rfl
theorem idxV (a0 a1 a2 a3 : Int) (k : Nat) (hk : k < 4) (W : World) :
    (Instr.index 38 (.agg #[.int .i64 a0, .int .i64 a1, .int .i64 a2, .int .i64 a3]) (.int .i64 (k : Int))).run Try.prog W = .ok (.int .i64 ([a0, a1, a2, a3].getD k 0)) W := by
  match k, hk with
  | 0, _ => exact idxV0 _ _ _ _ W
  | 1, _ => exact idxV1 _ _ _ _ W
  | 2, _ => exact idxV2 _ _ _ _ W
  | 3, _ => exact idxV3 _ _ _ _ W

theorem Bw.below_trans {a b c : World} {B : Nat} (h : Bw a b) (k : Below B b c) (hB : a.heap.size ≤ B) : Bw a c := Below.trans (B := a.heap.size) h (k.mono hB)
theorem belowcell {B : Nat} {W w1 : World} (hb : Below B W w1) : (∀ b o, b < B → w1.cell? ⟨b, o, none⟩ = W.cell? ⟨b, o, none⟩) ∧ (∀ b o, b < B → w1.frozen? ⟨b, o, none⟩ = W.frozen? ⟨b, o, none⟩) :=
  ⟨fun b o h => hb.cell (p := ⟨b, o, none⟩) h, fun b o h => hb.frozen (p := ⟨b, o, none⟩) h⟩

set_option maxHeartbeats 4000000 in
set_option maxRecDepth 100000 in
theorem encode_yes (s c v0 v1 v2 v3 : Int) (w : World) (h0 : telE s c v0 v1 v2 v3 = 0) :
    Calls Try.prog 8 #[.agg #[.int .i64 s, .int .i64 c, .int .i64 v0, .int .i64 v1, .int .i64 v2, .int .i64 v3]] w fun e w' => e = .returned (.tuple #[bytes16 (frameL s c [v0, v1, v2, v3]), .int .i64 0]) ∧ Bw w w' := by
  have H1 := Lib.hid (fun W => checkTelegram_any s c v0 v1 v2 v3 W)
  rw [h0] at H1
  have harr : ∀ (a : Option Addr) (cap : Nat) (W : World), (Instr.arrayAt 43 (.slice a 16 cap)).run Try.prog W = .ok (.pointer a) W := fun a cap W => run_arrayAt W _ _ 16 a 16 cap Try.underlying43 (by omega)
  go_enter Try.func8, Try.ntmps8
  go_wp2_with (first | (go_at_call 23; refine (H1.out _).mono ?_; rintro e w1 ⟨rfl, hb1⟩; obtain ⟨hc1, hf1⟩ := bcell' hb1 (w.heap.size + 2) (by simp); have hz1_1 : w.heap.size + 1 < w1.heap.size := (by have := hb1.size; (try simp at this); omega); have hz1_0 : w.heap.size < w1.heap.size := (by have := hb1.size; (try simp at this); omega); have hB1 : Bw w w1 := Bw.trans (by repeat (with_reducible first | assumption | exact Bw.refl _ | apply Bw.drew | apply Bw.drewN | apply Bw.alloc | refine Bw.setCell ?_ (by first | (simp; done) | (simp; omega) | omega) _)) hb1))
  have HA := Lib.hid (fun v xs B n k W a1 a2 a3 a4 => appendNumber_any v xs B n k W a1 a2 a3 a4)
  refine (HA.out _ (bv [177, s % 256]) (w.heap.size + 2) c 2 _ (World.ownsRow_lit _ #[.int .u8 177, .int .u8 (s % 256)] 2 (by omega) (by decide) (by rfl)) (by simp; omega) (by simp [bv]) (by omega)).mono ?_
  rintro e w2 ⟨v, rfl, ho2, hb2⟩
  obtain ⟨hc2, hf2⟩ := belowcell hb2
  have hz2 : w.heap.size + 2 ≤ w2.heap.size := by have := hb2.size; simp at this; omega
  have hy2 : w.heap.size + 1 < w2.heap.size := by omega
  rw [bytesOf_bti, ← bv_append, ← encL_zero s c [v0, v1, v2, v3]] at ho2
  have hB2 : Bw w w2 := (hB1.alloc _).below_trans hb2 (by omega)
  clear HA
  go_wp2_with fail
  go_loopw [5, 24] (fun u i wr => ∃ k : Nat, k ≤ 4 ∧ i = .int .i64 k ∧ wr.ownsRow (w.heap.size + 2) 5 1 u (bv (encL s c [v0, v1, v2, v3] k)).length (bv (encL s c [v0, v1, v2, v3] k)) ∧ Below (w.heap.size + 2) w2 wr) (fun _ i _ => 4 - (intOf i).toNat)
  case atStart => exact ⟨0, by omega, rfl, ho2, Below.refl _ _⟩
  case round =>
    obtain ⟨k, hk, rfl, ho, hb⟩ := hrel
    have hlk := encL_length s c [v0, v1, v2, v3] k hk
    have hsz := hb.size
    by_cases hlt : k < 4
    · have hidx := fun W => idxV v0 v1 v2 v3 k hlt W
      have HS := Lib.hid (encL_succ s c [v0, v1, v2, v3] k hlt)
      generalize [v0, v1, v2, v3].getD k 0 = vk at *
      have HA := Lib.hid (appendNumber_any _ _ _ vk 2 wr ho (by omega) (by rw [bv_length]; omega) (by omega))
      rw [bytesOf_bti, ← bv_append] at HA
      clear ho
      go_wp2_with (first | (go_at_call 24; refine HA.out.mono ?_; rintro e w3 ⟨v3', rfl, ho3, hb3⟩))
      go_roundw
      case rel => exact ⟨k + 1, by omega, by go_num, by rw [HS.out]; exact ho3, hb.trans hb3⟩
      case measure => simp [intOf]; omega
    · have hk4 : k = 4 := by omega
      subst hk4
      have HSe := Lib.hid (sealed_any _ (encL s c [v0, v1, v2, v3] 4) (w.heap.size + 2) wr ho (by omega) (by omega) (by omega) (IsB.of (encL_is s c [v0, v1, v2, v3] 4 (by simp))))
      rw [show encL s c [v0, v1, v2, v3] 4 ++ bti (sumFrom 1 (encL s c [v0, v1, v2, v3] 4)) 4 = frameL s c [v0, v1, v2, v3] from rfl] at HSe
      have hfl : (frameL s c [v0, v1, v2, v3]).length = 16 := by unfold frameL; rw [List.length_append, hlk, bti_length]
      have HFL := Lib.hid hfl
      clear ho hfl hlk
      go_wp2_with (first | (go_at_call 25; refine HSe.out.mono ?_; rintro e w4 ⟨v4, rfl, ho4, hb4⟩; obtain ⟨g, cap, hv4, hbt0, hg1, hg2, hg3⟩ := owns_slice ho4 (by have := HFL.out; omega); rw [HFL.out] at hv4; subst hv4; obtain ⟨φ, hφ⟩ : ∃ φ : Nat → Int, φ = fun i => (frameL s c [v0, v1, v2, v3]).getD i 0 := ⟨_, rfl⟩; have hbt : ∀ i, i < 16 → w4.cell? ⟨g, i, none⟩ = some (.int .u8 (φ i)) := (fun i hi => by rw [hφ]; have := hbt0 i (by rw [HFL.out]; exact hi); rw [Nat.zero_add] at this; exact this); clear hbt0; have x0 := hbt 0 (by omega); have x1 := hbt 1 (by omega); have x2 := hbt 2 (by omega); have x3 := hbt 3 (by omega); have x4 := hbt 4 (by omega); have x5 := hbt 5 (by omega); have x6 := hbt 6 (by omega); have x7 := hbt 7 (by omega); have x8 := hbt 8 (by omega); have x9 := hbt 9 (by omega); have x10 := hbt 10 (by omega); have x11 := hbt 11 (by omega); have x12 := hbt 12 (by omega); have x13 := hbt 13 (by omega); have x14 := hbt 14 (by omega); have x15 := hbt 15 (by omega); have HPH := Lib.hid hφ; clear hφ hbt; obtain ⟨hc4, hf4⟩ := belowcell ((hb2.trans hb).trans hb4); have hz4 : w.heap.size + 1 < w4.heap.size := (by have := hb4.size; omega); have hB4 : Bw w w4 := (hB2.below_trans hb (by omega)).below_trans hb4 (by omega)))
      exact bodyPost_ret (v := .tuple #[.agg #[.int .u8 (φ 0), .int .u8 (φ 1), .int .u8 (φ 2), .int .u8 (φ 3), .int .u8 (φ 4), .int .u8 (φ 5), .int .u8 (φ 6), .int .u8 (φ 7), .int .u8 (φ 8), .int .u8 (φ 9), .int .u8 (φ 10), .int .u8 (φ 11), .int .u8 (φ 12), .int .u8 (φ 13), .int .u8 (φ 14), .int .u8 (φ 15)], .int .i64 0]) (by simp [results, Try.results8, go_sem, hc4, hc1, hz1_1, hz4]) rfl ⟨by rw [HPH.out]; rfl, by repeat (with_reducible first | assumption | exact Bw.refl _ | apply Bw.drew | apply Bw.drewN | apply Bw.alloc | refine Bw.setCell ?_ (by first | (simp; done) | (simp; omega) | omega) _)⟩
end Go.Proofs.Ytaikcakpmbhnpaa
