/-
  The contracts of CheckTelegram and Encode.
-/
import Derived.Test.YtaikcakpmbhnpaaBytes
import Derived.StillTailTactics
namespace Go.Proofs.Ytaikcakpmbhnpaa
set_option linter.all false
open Go.RowKit

theorem first3 (x y z : Int) (b c : Nat) (w : World) (h0 : w.cell? ⟨b, 0, none⟩ = some (.int .i64 x)) (h1 : w.cell? ⟨b, 1, none⟩ = some (.int .i64 y)) (h2 : w.cell? ⟨b, 2, none⟩ = some (.int .i64 z)) :
    Calls Try.prog 28 #[.slice (some ⟨b, 0, none⟩) 3 c] w fun e w' => e = .returned (.int .i64 (Pl.firstE [x, y, z])) ∧ w = w' := by
  refine first_any [x, y, z] b 0 c w (by simp) (fun i hi => ?_)
  match i, hi with
  | 0, _ => simpa using h0
  | 1, _ => simpa using h1
  | 2, _ => simpa using h2

set_option maxHeartbeats 400000 in
theorem checkSource_any (n : Int) (w : World) :
    Calls Try.prog 30 #[.int .i64 n] w fun e w' => e = .returned (.int .i64 (Pl.cr n 0 255)) ∧ w = w' := by
  go_enter Try.func30, Try.ntmps30
  go_wp2_with (first | (go_at_call 48; refine (checkRange_any _ _ _ _).mono ?_; rintro e wp ⟨rfl, rfl⟩))
  go_ret
  exact ⟨rfl, rfl⟩
set_option maxHeartbeats 400000 in
theorem checkValue_any (n : Int) (w : World) :
    Calls Try.prog 50 #[.int .i64 n] w fun e w' => e = .returned (.int .i64 (Pl.cr n (-32768) 32767)) ∧ w = w' := by
  go_enter Try.func50, Try.ntmps50
  go_wp2_with (first | (go_at_call 48; refine (checkRange_any _ _ _ _).mono ?_; rintro e wp ⟨rfl, rfl⟩))
  go_ret
  exact ⟨rfl, rfl⟩

/-- Integers in memory. -/
def ItAt (w : World) (b off : Nat) (l : List Int) : Prop := ∀ i, i < l.length → w.cell? ⟨b, off + i, none⟩ = some (.int .i64 (l.getD i 0))
def firstV (l : List Int) : Int := Pl.firstE (l.map fun v => Pl.cr v (-32768) 32767)
theorem firstV_drop (l : List Int) (k : Nat) (h : k < l.length) : firstV (l.drop k) = if Pl.cr (l.getD k 0) (-32768) 32767 = 0 then firstV (l.drop (k + 1)) else Pl.cr (l.getD k 0) (-32768) 32767 := by
  have e : l.getD k 0 = l[k] := by simp [h]
  unfold firstV
  rw [List.drop_eq_getElem_cons h, List.map_cons, e]
  rfl

set_option maxHeartbeats 1000000 in
theorem firstIn_int (l : List Int) (b off c : Nat) (w : World) (hl : l.length ≤ 1000) (hc : ItAt w b off l) :
    Calls Try.prog 49 #[.slice (some ⟨b, off, none⟩) l.length c, .func (.func 50) #[] #[]] w fun e w' => e = .returned (.int .i64 (firstV l)) ∧ w = w' := by
  go_enter Try.func49, Try.ntmps49
  go_wp2
  go_loop [10] (fun i => ∃ k : Nat, k ≤ l.length ∧ i = .int .i64 k ∧ firstV l = firstV (l.drop k)) (fun i => l.length - (intOf i).toNat)
  case atStart => exact ⟨0, Nat.zero_le _, rfl, rfl⟩
  case round =>
    obtain ⟨k, hk, rfl, hf⟩ := hrel
    have HF := Lib.hid hf
    clear hf
    by_cases hlt : k < l.length
    · have h1 := hc k hlt
      have hd := Lib.hid (firstV_drop l k hlt)
      generalize l.getD k 0 = p at *
      have H1 := Lib.hid (fun W => checkValue_any p W)
      generalize Pl.cr p (-32768) 32767 = e0 at *
      by_cases h0 : e0 = 0
      · subst h0
        go_wp2_with (first | (go_at_call 50; refine (H1.out _).mono ?_; rintro e wp ⟨rfl, rfl⟩))
        go_round
        case rel => exact ⟨k + 1, by omega, by go_num, by rw [HF.out, hd.out]; simp⟩
        case measure => simp [intOf]; omega
      · have hx0 : (e0 != 0) = true := by simp [h0]
        go_wp2_with (first | (go_at_call 50; refine (H1.out _).mono ?_; rintro e wp ⟨rfl, rfl⟩))
        go_ret
        exact ⟨retI (by rw [HF.out, hd.out, if_neg h0]), rfl⟩
    · go_wp2
      go_ret
      exact ⟨retI (by rw [HF.out, List.drop_of_length_le (by omega)]; rfl), rfl⟩

/-- The error of a telegram. -/
def telE (s c v0 v1 v2 v3 : Int) : Int := Pl.firstE [Pl.cr s 0 255, Pl.cr c 0 65535, firstV [v0, v1, v2, v3]]

set_option maxHeartbeats 1000000 in
set_option maxRecDepth 100000 in
theorem checkTelegram_any (s c v0 v1 v2 v3 : Int) (w : World) :
    Calls Try.prog 23 #[.agg #[.int .i64 s, .int .i64 c, .int .i64 v0, .int .i64 v1, .int .i64 v2, .int .i64 v3]] w fun e w' => e = .returned (.int .i64 (telE s c v0 v1 v2 v3)) ∧ Bw w w' := by
  have HI : ∀ W : World, W.cell? ⟨w.heap.size, 2, none⟩ = some (.int .i64 v0) → W.cell? ⟨w.heap.size, 3, none⟩ = some (.int .i64 v1) → W.cell? ⟨w.heap.size, 4, none⟩ = some (.int .i64 v2) → W.cell? ⟨w.heap.size, 5, none⟩ = some (.int .i64 v3) →
      Calls Try.prog 49 #[.slice (some ⟨w.heap.size, 2, none⟩) 4 4, .func (.func 50) #[] #[]] W fun e w' => e = .returned (.int .i64 (firstV [v0, v1, v2, v3])) ∧ w' = W := fun W h0 h1 h2 h3 =>
    (firstIn_int [v0, v1, v2, v3] w.heap.size 2 4 W (by simp) (fun i hi => by
      match i, hi with
      | 0, _ => exact h0
      | 1, _ => exact h1
      | 2, _ => exact h2
      | 3, _ => exact h3)).mono fun _ _ ⟨he, hw⟩ => ⟨he, hw.symm⟩
  have H3 := Lib.hid HI
  clear HI
  go_enter Try.func23, Try.ntmps23
  go_wp2
  refine wp_region_still_tail 9 (by kernel_rfl) (by kernel_rfl) ?_
  simp only [List.take_succ_cons, List.take_zero, List.drop_succ_cons, List.drop_zero]
  change wpStill _ _ (World.drew _) _ _ _
  repeat still_step
  still_call ((checkSource_any _ _).mono fun _ _ ⟨he, hw⟩ => ⟨he, hw.symm⟩)
  repeat still_step
  still_call (checkRange_still _ _ _ _)
  repeat still_step
  still_call (H3.out _ (by go_simp) (by go_simp) (by go_simp) (by go_simp))
  refine wpStill_nil ?_
  go_wp2_with (first | (go_at_call 28; refine (first3 (Pl.cr s 0 255) (Pl.cr c 0 65535) (firstV [v0, v1, v2, v3]) _ _ _ (by go_simp) (by go_simp) (by go_simp)).mono ?_; rintro e wp ⟨rfl, rfl⟩))
  go_ret
  exact ⟨rfl, (((Bw.refl _).alloc _).alloc _).drew⟩
end Go.Proofs.Ytaikcakpmbhnpaa
