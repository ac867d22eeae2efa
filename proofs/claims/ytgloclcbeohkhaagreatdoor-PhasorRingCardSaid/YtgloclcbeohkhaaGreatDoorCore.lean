/-
  The contracts of the smallest functions: ranges, first errors, limits, remainders.
-/
import Derived.Test.YtgloclcbeohkhaaGreatDoorRows
import Derived.Test.YtgloclcbeohkhaaGreatDoorPlain
import Derived.WalkKit
import Derived.WalkSpells
import Derived.WalkLawsBesides
import Derived.Deep.RegionWith
import Derived.Lib.Hide
namespace Go.Proofs.YtgloclcbeohkhaaGreatDoor
set_option linter.all false
open Go.RowKit

theorem retI {k : IntKind} {a b : Int} (h : a = b) : Ending.returned (.int k a) = .returned (.int k b) := by rw [h]

set_option maxHeartbeats 400000 in
theorem checkRange_any (n lo hi : Int) (w : World) :
    Calls Tryz.prog 78 #[.int .i64 n, .int .i64 lo, .int .i64 hi] w fun e w' => e = .returned (.int .i64 (Pl.cr n lo hi)) ∧ w = w' := by
  by_cases h1 : n < lo
  · have hr : Pl.cr n lo hi = 3 := by unfold Pl.cr; rw [if_pos (by omega)]
    rw [hr]
    go_enter Tryz.func78, Tryz.ntmps78
    go_wp2
    go_ret
    exact ⟨rfl, rfl⟩
  · by_cases h2 : hi < n
    · have hr : Pl.cr n lo hi = 3 := by unfold Pl.cr; rw [if_pos (by omega)]
      rw [hr]
      go_enter Tryz.func78, Tryz.ntmps78
      go_wp2
      go_ret
      exact ⟨rfl, rfl⟩
    · have hr : Pl.cr n lo hi = 0 := by unfold Pl.cr; rw [if_neg (by omega)]
      rw [hr]
      go_enter Tryz.func78, Tryz.ntmps78
      go_wp2
      go_ret
      exact ⟨rfl, rfl⟩

/-- The first error of a list in memory. -/
theorem firstE_drop (es : List Int) (k : Nat) (h : k < es.length) : Pl.firstE (es.drop k) = if es.getD k 0 = 0 then Pl.firstE (es.drop (k + 1)) else es.getD k 0 := by
  rw [List.drop_eq_getElem_cons h]
  simp [Pl.firstE, h]

set_option maxHeartbeats 400000 in
theorem first_any (es : List Int) (b off c : Nat) (w : World) (hl : es.length ≤ 1000) (hc : ∀ i, i < es.length → w.cell? ⟨b, off + i, none⟩ = some (.int .i64 (es.getD i 0))) :
    Calls Tryz.prog 47 #[.slice (some ⟨b, off, none⟩) es.length c] w fun e w' => e = .returned (.int .i64 (Pl.firstE es)) ∧ w = w' := by
  go_enter Tryz.func47, Tryz.ntmps47
  go_wp2
  go_loop [7] (fun i => ∃ k : Nat, k ≤ es.length ∧ i = .int .i64 k ∧ Pl.firstE es = Pl.firstE (es.drop k)) (fun i => es.length - (intOf i).toNat)
  case atStart => exact ⟨0, Nat.zero_le _, rfl, rfl⟩
  case round =>
    obtain ⟨k, hk, rfl, hf⟩ := hrel
    have HF := Lib.hid hf
    clear hf
    by_cases hlt : k < es.length
    · have hcell := hc k hlt
      have hd := Lib.hid (firstE_drop es k hlt)
      obtain ⟨x, hx⟩ : ∃ x, es.getD k 0 = x := ⟨_, rfl⟩
      rw [hx] at hcell hd
      clear hx hc
      by_cases h0 : x = 0
      · subst h0
        go_wp2
        go_round
        case rel => exact ⟨k + 1, by omega, by go_num, by rw [HF.out, hd.out, if_pos rfl]⟩
        case measure => simp [intOf]; omega
      · have hx0 : (x != 0) = true := by simp [h0]
        go_wp2
        go_ret
        exact ⟨retI (by rw [HF.out, hd.out, if_neg h0]), rfl⟩
    · go_wp2
      go_ret
      exact ⟨retI (by rw [HF.out, List.drop_of_length_le (by omega)]; rfl), rfl⟩

set_option maxHeartbeats 400000 in
theorem clampedM_any (x m : Int) (w : World) (hm : 0 ≤ m ∧ m ≤ 1000000000) :
    Calls Tryz.prog 77 #[.int .i64 x, .int .i64 m] w fun e w' => e = .returned (.int .i64 (min (max x (-m)) m)) ∧ w = w' := by
  obtain ⟨m1, m2⟩ := hm
  go_enter Tryz.func77, Tryz.ntmps77
  go_wp2
  all_goals (go_ret; exact ⟨retI (by omega), rfl⟩)

theorem clamped_any (x : Int) (w : World) :
    Calls Tryz.prog 77 #[.int .i64 x, .int .i64 1048576] w fun e w' => e = .returned (.int .i64 (Pl.clamp x)) ∧ w = w' := clampedM_any x 1048576 w (by omega)

set_option maxHeartbeats 400000 in
theorem remainder_any (n m : Int) (w : World) (hm : 0 < m) (hn : -4611686018427387904 ≤ n ∧ n ≤ 4611686018427387904) (hm' : m ≤ 1000000) :
    Calls Tryz.prog 79 #[.int .i64 n, .int .i64 m] w fun e w' => e = .returned (.int .i64 (n % m)) ∧ w = w' := by
  have h1 := Int.tmod_lt_of_pos n hm
  have h2 := Int.lt_tmod_of_pos n hm
  go_enter Tryz.func79, Tryz.ntmps79
  go_wp2
  go_ret
  exact ⟨retI (Pl.rest_emod n m hm), rfl⟩
end Go.Proofs.YtgloclcbeohkhaaGreatDoor
