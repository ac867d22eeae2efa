/-
  The contracts of bytes: numbers appended, checksums.
-/
import Derived.Test.YtaikcakpmbhnpaaEisen
import Derived.Maps.AppendAt
import Derived.OwnWalk
namespace Go.Proofs.Ytaikcakpmbhnpaa
set_option linter.all false
open Go.RowKit

theorem infoB : (Try.prog.info? 5).map (fun i => (i.zero, i.size, i.bytes)) = some (some (.int .u8 0), 1, 1) := by kernel_rfl

/-- The byte number i of the k lowest bytes of a number, the highest first. -/
def byteOf (n : Int) (k i : Nat) : Int := n / 2 ^ (8 * (k - 1 - i)) % 256
def bytesOf (n : Int) (k m : Nat) : List Value := (List.range m).map fun i => .int .u8 (byteOf n k i)
theorem bytesOf_succ (n : Int) (k m : Nat) : bytesOf n k (m + 1) = bytesOf n k m ++ [.int .u8 (byteOf n k m)] := by simp [bytesOf, List.range_succ]
theorem bytesOf_length (n : Int) (k m : Nat) : (bytesOf n k m).length = m := by simp [bytesOf]

/-- A slice of bytes that the call owns, and a world of which all below a block is as it was. -/
def OwnsB (B : Nat) (w : World) (xs : List Value) (e : Ending) (w' : World) : Prop :=
  ∃ v, e = .returned v ∧ w'.ownsRow B 5 1 v xs.length xs ∧ Below B w w'

set_option maxHeartbeats 1000000 in
set_option maxRecDepth 100000 in
theorem appendNumber_any (v : Value) (xs : List Value) (B : Nat) (n : Int) (k : Nat) (w : World) (hown : w.ownsRow B 5 1 v xs.length xs) (hB : B ≤ w.heap.size) (hx : xs.length ≤ 1000000000) (hk : k ≤ 4) :
    Calls Try.prog 24 #[v, .int .i64 n, .int .i64 (k : Int)] w (OwnsB B w (xs ++ bytesOf n k k)) := by
  obtain ⟨i0, hi, hz0, hz1, hz2⟩ := info_parts infoB
  go_enter Try.func24, Try.ntmps24
  go_wp2
  go_loopw [0, 9] (fun s i wr => ∃ m : Nat, m ≤ k ∧ i = .int .i64 m ∧ wr.ownsRow B 5 1 s (xs ++ bytesOf n k m).length (xs ++ bytesOf n k m) ∧ Below B w wr) (fun _ i _ => k - (intOf i).toNat)
  case atStart => exact ⟨0, Nat.zero_le _, rfl, by simpa [bytesOf] using hown, Below.refl _ _⟩
  case round =>
    obtain ⟨m, hm, rfl, ho, hb⟩ := hrel
    by_cases hlt : m < k
    · have hlen : (xs ++ bytesOf n k m).length = xs.length + m := by rw [List.length_append, bytesOf_length]
      have hsz := hb.size
      have hstep : xs ++ bytesOf n k (m + 1) = (xs ++ bytesOf n k m) ++ [.int .u8 (n / 2 ^ (8 * (k - 1 - m)) % 256)] := by rw [bytesOf_succ, List.append_assoc]; rfl
      have HS := Lib.hid hstep
      have HL := Lib.hid hlen
      clear hstep hlen
      generalize xs ++ bytesOf n k m = ys at *
      have hyl : ys.length ≤ 1000000004 := by have := HL.out; omega
      go_wp2_with (first | (at_builtin; refine wpList_append_own _ rfl (.tmp 12) (.tmp 21) _ rfl B 5 i0 _ 1 1 Try.underlying28 hi hz0 hz1 hz2 rfl (by decide) _ ys.length ys rfl (ho.alloc _) ⟨wr.heap.size, 0, none⟩ 1 1 [.int .u8 (n / 2 ^ (8 * (k - 1 - m)) % 256)] rfl rfl (cell_one_new _ _ _) (by simp [Value.oneCell']) (by simp only [maxLen]; omega) (by omega) (by simp; omega) ?_; intro v1 w1 hown1 hg1 _))
      go_roundw
      case rel =>
        refine ⟨m + 1, by omega, by go_num, ?_, (hb.alloc (by omega) _).grown hg1 (by simp; omega) (fun g hg => (ho.lt g hg).1)⟩
        rw [HS.out, List.length_append]
        exact hown1
      case measure => simp [intOf]; omega
    · have hmk : m = k := by omega
      subst hmk
      go_wp2
      go_ret
      exact ⟨_, rfl, ho, hb⟩

/-- The checksum of bytes. -/
def sumFrom (x : Int) : List Int → Int
  | [] => x
  | b :: l => sumFrom ((263 * x + b) % 16777199) l
theorem sumFrom_bd (l : List Int) (x : Int) (h : 0 ≤ x ∧ x < 16777199) : 0 ≤ sumFrom x l ∧ sumFrom x l < 16777199 := by
  induction l generalizing x with
  | nil => exact h
  | cons b l ih => exact ih _ ⟨Int.emod_nonneg _ (by omega), Int.emod_lt_of_pos _ (by omega)⟩
theorem sumFrom_take (l : List Int) (x : Int) (k : Nat) (h : k < l.length) : sumFrom x (l.take (k + 1)) = (263 * sumFrom x (l.take k) + l.getD k 0) % 16777199 := by
  induction l generalizing x k with
  | nil => simp at h
  | cons b l ih =>
    cases k with
    | zero => simp [sumFrom]
    | succ k => simp only [List.take_succ_cons, sumFrom]; rw [ih _ k (by simpa using h)]; rfl

/-- Bytes in memory. -/
def BtAt (w : World) (b off : Nat) (l : List Int) : Prop := ∀ i, i < l.length → w.cell? ⟨b, off + i, none⟩ = some (.int .u8 (l.getD i 0))

set_option maxHeartbeats 1000000 in
theorem checksum_any (l : List Int) (b off c : Nat) (w : World) (hl : l.length ≤ 1000000000) (hc : BtAt w b off l) (hb : ∀ i, i < l.length → 0 ≤ l.getD i 0 ∧ l.getD i 0 < 256) :
    Calls Try.prog 51 #[.slice (some ⟨b, off, none⟩) l.length c] w fun e w' => e = .returned (.int .i64 (sumFrom 1 l)) ∧ w = w' := by
  go_enter Try.func51, Try.ntmps51
  go_wp2
  go_loop [3, 8] (fun x i => ∃ k : Nat, k ≤ l.length ∧ i = .int .i64 k ∧ x = .int .i64 (sumFrom 1 (l.take k))) (fun _ i => l.length - (intOf i).toNat)
  case atStart => exact ⟨0, Nat.zero_le _, rfl, rfl⟩
  case round =>
    obtain ⟨k, hk, rfl, rfl⟩ := hrel
    obtain ⟨x1, x2⟩ := sumFrom_bd (l.take k) 1 (by omega)
    by_cases hlt : k < l.length
    · have hcell := hc k hlt
      obtain ⟨y1, y2⟩ := hb k hlt
      have HS := Lib.hid (sumFrom_take l 1 k hlt)
      generalize l.getD k 0 = y at *
      generalize sumFrom 1 (l.take k) = x at *
      clear hc hb
      go_wp2
      go_round
      case rel => exact ⟨k + 1, by omega, by go_num, by rw [HS.out]⟩
      case measure => simp [intOf]; omega
    · have hkl : k = l.length := by omega
      subst hkl
      go_wp2
      go_ret
      exact ⟨by first | rfl | simp, rfl⟩

/-- Bytes as values. -/
def bv (l : List Int) : List Value := l.map fun b => .int .u8 b
def bti (n : Int) (k : Nat) : List Int := (List.range k).map (byteOf n k)
theorem bytesOf_bti (n : Int) (k : Nat) : bytesOf n k k = bv (bti n k) := by simp [bytesOf, bv, bti]
theorem bv_append (a b : List Int) : bv (a ++ b) = bv a ++ bv b := by simp [bv]
theorem bv_length (a : List Int) : (bv a).length = a.length := by simp [bv]
def IsB (l : List Int) : Prop := ∀ i, i < l.length → 0 ≤ l.getD i 0 ∧ l.getD i 0 < 256
theorem IsB.of {l : List Int} (h : ∀ b, b ∈ l → 0 ≤ b ∧ b < 256) : IsB l := fun i hi => by
  have e : l.getD i 0 = l[i] := by simp [hi]
  rw [e]
  exact h _ (List.getElem_mem hi)
theorem bti_is (n : Int) (k : Nat) : ∀ b, b ∈ bti n k → 0 ≤ b ∧ b < 256 := by
  intro b hb
  obtain ⟨i, _, rfl⟩ := List.mem_map.1 hb
  exact ⟨Int.emod_nonneg _ (by omega), Int.emod_lt_of_pos _ (by omega)⟩

theorem owns_slice {w : World} {B : Nat} {v : Value} {l : List Int} (h : w.ownsRow B 5 1 v (bv l).length (bv l)) (h0 : 0 < l.length) :
    ∃ g cap, v = .slice (some ⟨g, 0, none⟩) l.length cap ∧ BtAt w g 0 l ∧ B ≤ g ∧ g < w.heap.size ∧ l.length ≤ cap := by
  rcases h.2 with ⟨_, h1⟩ | ⟨g, cap, cur, hv, hB, _, hcap, _⟩
  · rw [bv_length] at h1; omega
  · have hcells := h.cells (g := g) (by rw [hv]; rfl)
    have hlt := (h.lt g (by rw [hv]; rfl)).2
    rw [bv_length] at hv hcap
    refine ⟨g, cap, hv, fun i hi => ?_, hB, hlt, hcap⟩
    have := hcells i (.int .u8 (l.getD i 0)) (by simp [bv, hi])
    by_cases h0 : i = 0
    · subst h0; simpa [Addr.add] using this
    · simpa [Addr.add, h0] using this

set_option maxHeartbeats 400000 in
theorem sealed_any (v : Value) (l : List Int) (B : Nat) (w : World) (hown : w.ownsRow B 5 1 v (bv l).length (bv l)) (hB : B ≤ w.heap.size) (hl : l.length ≤ 100000000) (h0 : 0 < l.length) (hb : IsB l) :
    Calls Try.prog 25 #[v] w (OwnsB B w (bv (l ++ bti (sumFrom 1 l) 4))) := by
  obtain ⟨g, cap, rfl, hbt, _, _, _⟩ := owns_slice hown h0
  have H1 := Lib.hid (checksum_any l g 0 cap w (by omega) hbt hb)
  have H2 := Lib.hid (appendNumber_any _ (bv l) B (sumFrom 1 l) 4 w hown hB (by rw [bv_length]; omega) (by omega))
  rw [bytesOf_bti, ← bv_append] at H2
  clear hown hbt hb
  generalize sumFrom 1 l = x at *
  go_enter Try.func25, Try.ntmps25
  go_wp2_with (first | (go_at_call 51; refine H1.out.mono ?_; rintro e wp ⟨rfl, rfl⟩) | (go_at_call 24; refine H2.out.mono ?_; rintro e w1 ⟨v1, rfl, ho1, hb1⟩))
  go_ret
  exact ⟨v1, rfl, ho1, hb1⟩
end Go.Proofs.Ytaikcakpmbhnpaa
