/-
  The contracts of the checks of lists of numbers.
-/
import Derived.Test.YtgloclcbeohkhaaGreatDoorTurned
namespace Go.Proofs.YtgloclcbeohkhaaGreatDoor
set_option linter.all false
open Go.RowKit

/-- The numbers of a list lie in a block, from a place on. -/
def EvAt (w : World) (b off : Nat) (l : List (Int × Int)) : Prop :=
  ∀ i, i < l.length → w.cell? ⟨b, off + i * 2, none⟩ = some (.int .i64 (l.getD i (0, 0)).1) ∧ w.cell? ⟨b, off + i * 2 + 1, none⟩ = some (.int .i64 (l.getD i (0, 0)).2)

theorem EvAt.keep {w w' : World} {b off : Nat} {l : List (Int × Int)} (h : EvAt w b off l) (hk : ∀ o, w'.cell? ⟨b, o, none⟩ = w.cell? ⟨b, o, none⟩) : EvAt w' b off l :=
  fun i hi => ⟨(hk _).trans (h i hi).1, (hk _).trans (h i hi).2⟩
theorem EvAt.bw {w w' : World} {b off : Nat} {l : List (Int × Int)} (h : EvAt w b off l) (hb : Bw w w') (hlt : b < w.heap.size) : EvAt w' b off l :=
  h.keep fun o => (bcell hb).1 b o hlt

/-- The first error of a list of numbers, each checked by one bound. -/
def firstP (m : Int) (l : List (Int × Int)) : Int := Pl.firstE (l.map fun p => Pl.parts p.1 p.2 m)

theorem firstP_drop (m : Int) (l : List (Int × Int)) (k : Nat) (h : k < l.length) : firstP m (l.drop k) = if Pl.parts (l.getD k (0, 0)).1 (l.getD k (0, 0)).2 m = 0 then firstP m (l.drop (k + 1)) else Pl.parts (l.getD k (0, 0)).1 (l.getD k (0, 0)).2 m := by
  have e : l.getD k (0, 0) = l[k] := by simp [h]
  unfold firstP
  rw [List.drop_eq_getElem_cons h, List.map_cons, e]
  rfl

set_option maxHeartbeats 1000000 in
set_option maxRecDepth 100000 in
theorem firstIn_eisen (l : List (Int × Int)) (b off c : Nat) (w : World) (hl : l.length ≤ 1000) (hb : b < w.heap.size) (hc : EvAt w b off l) :
    Calls Tryz.prog 67 #[.slice (some ⟨b, off, none⟩) l.length c, .func (.func 21) #[] #[]] w fun e w' => e = .returned (.int .i64 (firstP 1048576 l)) ∧ Bw w w' := by
  go_enter Tryz.func67, Tryz.ntmps67
  go_wp2
  go_loopw [10] (fun i wr => ∃ k : Nat, k ≤ l.length ∧ i = .int .i64 k ∧ firstP 1048576 l = firstP 1048576 (l.drop k) ∧ Bw w wr) (fun i _ => l.length - (intOf i).toNat)
  case atStart => exact ⟨0, Nat.zero_le _, rfl, rfl, Bw.refl _⟩
  case round =>
    obtain ⟨k, hk, rfl, hf, hB⟩ := hrel
    have HF := Lib.hid hf
    clear hf
    by_cases hlt : k < l.length
    · obtain ⟨h1, h2⟩ := hc.bw hB hb k hlt
      have hd := Lib.hid (firstP_drop 1048576 l k hlt)
      generalize l.getD k (0, 0) = p at *
      have H1 := Lib.hid (fun W => checkEisen_any p.1 p.2 W)
      generalize Pl.parts p.1 p.2 1048576 = e0 at *
      by_cases h0 : e0 = 0
      · subst h0
        go_wp2_with (first | (go_at_call 21; refine (H1.out _).mono ?_; rintro e w1 ⟨rfl, hb1⟩))
        go_roundw
        case rel => exact ⟨k + 1, by omega, by go_num, by rw [HF.out, hd.out]; simp, (hB.alloc _).trans hb1⟩
        case measure => simp [intOf]; omega
      · have hx0 : (e0 != 0) = true := by simp [h0]
        go_wp2_with (first | (go_at_call 21; refine (H1.out _).mono ?_; rintro e w1 ⟨rfl, hb1⟩))
        go_ret
        exact ⟨retI (by rw [HF.out, hd.out, if_neg h0]), (hB.alloc _).trans hb1⟩
    · go_wp2
      go_ret
      exact ⟨retI (by rw [HF.out, List.drop_of_length_le (by omega)]; rfl), hB⟩
set_option maxHeartbeats 1000000 in
set_option maxRecDepth 100000 in
theorem firstIn_phase (l : List (Int × Int)) (b off c : Nat) (w : World) (hl : l.length ≤ 1000) (hb : b < w.heap.size) (hc : EvAt w b off l) :
    Calls Tryz.prog 67 #[.slice (some ⟨b, off, none⟩) l.length c, .func (.func 75) #[] #[]] w fun e w' => e = .returned (.int .i64 (firstP 65536 l)) ∧ Bw w w' := by
  go_enter Tryz.func67, Tryz.ntmps67
  go_wp2
  go_loopw [10] (fun i wr => ∃ k : Nat, k ≤ l.length ∧ i = .int .i64 k ∧ firstP 65536 l = firstP 65536 (l.drop k) ∧ Bw w wr) (fun i _ => l.length - (intOf i).toNat)
  case atStart => exact ⟨0, Nat.zero_le _, rfl, rfl, Bw.refl _⟩
  case round =>
    obtain ⟨k, hk, rfl, hf, hB⟩ := hrel
    have HF := Lib.hid hf
    clear hf
    by_cases hlt : k < l.length
    · obtain ⟨h1, h2⟩ := hc.bw hB hb k hlt
      have hd := Lib.hid (firstP_drop 65536 l k hlt)
      generalize l.getD k (0, 0) = p at *
      have H1 := Lib.hid (fun W => checkPhase_any p.1 p.2 W)
      generalize Pl.parts p.1 p.2 65536 = e0 at *
      by_cases h0 : e0 = 0
      · subst h0
        go_wp2_with (first | (go_at_call 75; refine (H1.out _).mono ?_; rintro e w1 ⟨rfl, hb1⟩))
        go_roundw
        case rel => exact ⟨k + 1, by omega, by go_num, by rw [HF.out, hd.out]; simp, (hB.alloc _).trans hb1⟩
        case measure => simp [intOf]; omega
      · have hx0 : (e0 != 0) = true := by simp [h0]
        go_wp2_with (first | (go_at_call 75; refine (H1.out _).mono ?_; rintro e w1 ⟨rfl, hb1⟩))
        go_ret
        exact ⟨retI (by rw [HF.out, hd.out, if_neg h0]), (hB.alloc _).trans hb1⟩
    · go_wp2
      go_ret
      exact ⟨retI (by rw [HF.out, List.drop_of_length_le (by omega)]; rfl), hB⟩
end Go.Proofs.YtgloclcbeohkhaaGreatDoor
