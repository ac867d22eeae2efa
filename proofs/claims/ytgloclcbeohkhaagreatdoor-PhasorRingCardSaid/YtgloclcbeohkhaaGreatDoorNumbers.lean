/-
  The contracts of Add, Mul, Turned, Norm and their limits.
-/
import Derived.Test.YtgloclcbeohkhaaGreatDoorEisen
import Derived.Deep.RegionHeld3
namespace Go.Proofs.YtgloclcbeohkhaaGreatDoor
set_option linter.all false
open Go.RowKit

theorem lim_in {p : Int × Int} (h : Pl.inB 1048576 p) : Pl.lim p = (p, 0) := if_pos h
theorem lim_out {p : Int × Int} (h : ¬ Pl.inB 1048576 p) : Pl.lim p = ((0, 0), 4) := if_neg h
theorem clamp_eq (x : Int) : Pl.clamp x = x ↔ -1048576 ≤ x ∧ x ≤ 1048576 := by unfold Pl.clamp; omega

set_option maxHeartbeats 1000000 in
set_option maxRecDepth 100000 in
theorem limited_walk (a b x y : Int) (w : World) (hx : Pl.clamp a = x) (hy : Pl.clamp b = y) :
    Calls Tryz.prog 48 #[.agg #[.int .i64 a, .int .i64 b]] w fun e w' => e = .returned (.tuple #[.agg #[.int .i64 (if x = a ∧ y = b then a else 0), .int .i64 (if x = a ∧ y = b then b else 0)], .int .i64 (if x = a ∧ y = b then 0 else 4)]) ∧ Bw w w' := by
  have HX : ∀ W : World, Calls Tryz.prog 77 #[.int .i64 a, .int .i64 1048576] W fun e w' => e = .returned (.int .i64 x) ∧ W = w' := fun W => by rw [← hx]; exact clamped_any a W
  have HY : ∀ W : World, Calls Tryz.prog 77 #[.int .i64 b, .int .i64 1048576] W fun e w' => e = .returned (.int .i64 y) ∧ W = w' := fun W => by rw [← hy]; exact clamped_any b W
  have HX' := Lib.hid HX
  have HY' := Lib.hid HY
  clear HX HY hx hy
  by_cases h1 : x = a
  · subst h1
    by_cases h2 : y = b
    · subst h2
      go_enter Tryz.func48, Tryz.ntmps48
      go_wp2
      go_region_held3 (fun W => W.cell? ⟨w.heap.size, 0, none⟩ = some (.int .i64 x) ∧ W.cell? ⟨w.heap.size, 1, none⟩ = some (.int .i64 y)) (go_keep)
        (first | (go_at_call_of 77 x; refine (HX'.out _).mono ?_; rintro e w' ⟨rfl, rfl⟩) | (go_at_call_of 77 y; refine (HY'.out _).mono ?_; rintro e w' ⟨rfl, rfl⟩))
      all_goals go_wp2
      all_goals exact bodyPost_ret (v := .tuple #[.agg #[.int .i64 x, .int .i64 y], .int .i64 0]) (by simp [results, Tryz.results48, go_sem]) rfl ⟨by simp, by
        repeat (first | exact Bw.refl _ | apply Bw.drew | apply Bw.alloc | refine Bw.setCell ?_ (by simp; try omega) _)⟩
    · have hn : (y == b) = false := by simp [h2]
      go_enter Tryz.func48, Tryz.ntmps48
      go_wp2
      go_region_held3 (fun W => W.cell? ⟨w.heap.size, 0, none⟩ = some (.int .i64 x) ∧ W.cell? ⟨w.heap.size, 1, none⟩ = some (.int .i64 b)) (go_keep)
        (first | (go_at_call_of 77 x; refine (HX'.out _).mono ?_; rintro e w' ⟨rfl, rfl⟩) | (go_at_call_of 77 b; refine (HY'.out _).mono ?_; rintro e w' ⟨rfl, rfl⟩))
      all_goals go_wp2
      all_goals exact bodyPost_ret (v := .tuple #[.agg #[.int .i64 0, .int .i64 0], .int .i64 4]) (by simp [results, Tryz.results48, go_sem]) rfl ⟨by simp [h2], by
        repeat (first | exact Bw.refl _ | apply Bw.drew | apply Bw.alloc | refine Bw.setCell ?_ (by simp; try omega) _)⟩
  · have hn : (x == a) = false := by simp [h1]
    go_enter Tryz.func48, Tryz.ntmps48
    go_wp2
    go_region_held3 (fun W => W.cell? ⟨w.heap.size, 0, none⟩ = some (.int .i64 a) ∧ W.cell? ⟨w.heap.size, 1, none⟩ = some (.int .i64 b)) (go_keep)
      (first | (go_at_call_of 77 a; refine (HX'.out _).mono ?_; rintro e w' ⟨rfl, rfl⟩) | (go_at_call_of 77 b; refine (HY'.out _).mono ?_; rintro e w' ⟨rfl, rfl⟩))
    all_goals go_wp2
    all_goals exact bodyPost_ret (v := .tuple #[.agg #[.int .i64 0, .int .i64 0], .int .i64 4]) (by simp [results, Tryz.results48, go_sem]) rfl ⟨by simp [h1], by
        repeat (first | exact Bw.refl _ | apply Bw.drew | apply Bw.alloc | refine Bw.setCell ?_ (by simp; try omega) _)⟩


theorem limited_any (a b : Int) (w : World) :
    Calls Tryz.prog 48 #[.agg #[.int .i64 a, .int .i64 b]] w fun e w' => e = .returned (.tuple #[.agg #[.int .i64 (Pl.lim (a, b)).1.1, .int .i64 (Pl.lim (a, b)).1.2], .int .i64 (Pl.lim (a, b)).2]) ∧ Bw w w' := by
  have h := limited_walk a b _ _ w rfl rfl
  have e0 : (Pl.clamp a = a ∧ Pl.clamp b = b) ↔ Pl.inB 1048576 (a, b) := by
    have h1 := clamp_eq a
    have h2 := clamp_eq b
    unfold Pl.inB
    simp only
    omega
  by_cases hb : Pl.inB 1048576 (a, b)
  · have h2 := e0.2 hb
    rw [lim_in hb]
    rw [if_pos h2, if_pos h2, if_pos h2] at h
    exact h
  · have h2 : ¬ (Pl.clamp a = a ∧ Pl.clamp b = b) := fun h => hb (e0.1 h)
    rw [lim_out hb]
    rw [if_neg h2, if_neg h2, if_neg h2] at h
    exact h
theorem parts_ok {a b m : Int} : Pl.parts a b m = 0 ↔ Pl.inB m (a, b) := by
  unfold Pl.parts Pl.inB Pl.cr Pl.firstE Pl.firstE Pl.firstE
  simp only
  split <;> (try split) <;> (try split) <;> omega
theorem parts_bad {a b m : Int} (h : ¬ Pl.parts a b m = 0) : Pl.parts a b m = 3 := by
  revert h
  unfold Pl.parts Pl.cr Pl.firstE Pl.firstE Pl.firstE
  split <;> (try split) <;> (try split) <;> omega
theorem cr_ok {n l h : Int} : Pl.cr n l h = 0 ↔ l ≤ n ∧ n ≤ h := by unfold Pl.cr; split <;> omega
theorem first2_val (x y : Int) : Pl.firstE [x, y] = if x = 0 then y else x := by
  unfold Pl.firstE Pl.firstE Pl.firstE; split <;> (try split) <;> omega

end Go.Proofs.YtgloclcbeohkhaaGreatDoor
