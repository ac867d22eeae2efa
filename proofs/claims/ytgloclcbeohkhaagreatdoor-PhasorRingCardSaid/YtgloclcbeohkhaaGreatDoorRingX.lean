/-
  Contracts of numbers for the reckoner with unknown numbers.
-/
import Derived.Test.YtgloclcbeohkhaaGreatDoorMiniS
import Derived.Test.YtgloclcbeohkhaaGreatDoorRingMath
import Derived.Test.YtgloclcbeohkhaaGreatDoorAddMul
import Derived.Test.YtgloclcbeohkhaaGreatDoorTurned
import Derived.Test.YtgloclcbeohkhaaGreatDoorNorm
namespace Go.Proofs.YtgloclcbeohkhaaGreatDoor
set_option linter.all false
open Go.RowKit
namespace Mini
variable {P : Program} {s s1 : St}

/-- Known answers that read nothing. -/
abbrev Known := FuncId → List Value → Option (Value × Prop)
def knownX (K : Known) : CallS := fun f xs s q => match K f xs.toList with
  | some (v, c) => some (v, s, 0, 0, ⟨q.rest, q.ob ∧ c⟩)
  | none => none
def KOk (P : Program) (K : Known) : Prop := ∀ f xs v c, K f xs.toList = some (v, c) → ground 8 v = true ∧ xs.toList.all (ground 8) = true ∧ (c → ∀ w, Calls P f xs w fun e w' => e = .returned v ∧ Below w.heap.size w w')
theorem vrs_ground {ρ : Ren} {xs bs : Array Value} (hg : xs.toList.all (ground 8) = true) (h : VRs ρ xs bs) : bs = xs := arr_eq (fun v v' => ground_eq 8) xs bs h.1 hg h.2
theorem knownX_ok {K : Known} (h : KOk P K) : FOkS P (knownX K) := fun f xs s q v s1 R W q1 he => by
  unfold knownX at he
  split at he
  · rename_i v0 c hk
    cases he
    obtain ⟨g1, g2, g3⟩ := h f xs _ _ hk
    refine ⟨fun hb => hb.1, fun hb => sndF_quiet g1 fun ρ C args' w _ _ ha => ?_⟩
    rw [vrs_ground g2 ha]
    exact g3 hb.2 w
  · cases he
def bothX (X Y : CallS) : CallS := fun f xs s q => match X f xs s q with
  | some r => some r
  | none => Y f xs s q
theorem bothX_ok {X Y : CallS} (hX : FOkS P X) (hY : FOkS P Y) : FOkS P (bothX X Y) := fun f xs s q v s1 R W q1 he => by
  unfold bothX at he
  split at he
  · rename_i hx
    cases he
    exact hX _ _ _ _ _ _ _ _ _ hx
  · exact hY _ _ _ _ _ _ _ _ _ he
end Mini

theorem firstE_two {x y : Int} (h : x = 0) (g : y = 0) : Pl.firstE [x, y] = 0 := by subst h g; rfl
theorem parts_in {a b : Int} (h : Pl.inB 1048576 (a, b)) : Pl.parts a b 1048576 = 0 := by
  obtain ⟨h1, h2, h3, h4⟩ := h
  unfold Pl.parts
  refine firstE_two ?_ ?_ <;> unfold Pl.cr <;> rw [if_neg (by omega)]
theorem lim_in' {p : Int × Int} (h : Pl.inB 1048576 p) : Pl.lim p = (p, 0) := by unfold Pl.lim; rw [if_pos h]

def ringK : Mini.Known := fun f l =>
  if f = 10 then match l with
    | [.agg x, .agg y] => match x.toList, y.toList with
      | [.int .i64 a, .int .i64 b], [.int .i64 c, .int .i64 d] => some (.tuple #[.agg #[.int .i64 (Pl.mul (a, b) (c, d)).1, .int .i64 (Pl.mul (a, b) (c, d)).2], .int .i64 0], Pl.inB 1048576 (a, b) ∧ Pl.inB 1048576 (c, d) ∧ Pl.inB 1048576 (Pl.mul (a, b) (c, d)))
      | _, _ => none
    | _ => none
  else if f = 9 then match l with
    | [.agg x, .agg y] => match x.toList, y.toList with
      | [.int .i64 a, .int .i64 b], [.int .i64 c, .int .i64 d] => some (.tuple #[.agg #[.int .i64 (Pl.add (a, b) (c, d)).1, .int .i64 (Pl.add (a, b) (c, d)).2], .int .i64 0], Pl.inB 1048576 (a, b) ∧ Pl.inB 1048576 (c, d) ∧ Pl.inB 1048576 (Pl.add (a, b) (c, d)))
      | _, _ => none
    | _ => none
  else if f = 11 then match l with
    | [.agg x, .int .i64 n] => match x.toList with
      | [.int .i64 a, .int .i64 b] => some (.tuple #[.agg #[.int .i64 (Pl.turn (a, b) n).1, .int .i64 (Pl.turn (a, b) n).2], .int .i64 0], Pl.inB 1048576 (a, b) ∧ (-1000000 ≤ n ∧ n ≤ 1000000) ∧ Pl.inB 1048576 (Pl.turn (a, b) n))
      | _ => none
    | _ => none
  else if f = 12 then match l with
    | [.agg x] => match x.toList with
      | [.int .i64 a, .int .i64 b] => some (.tuple #[.int .i64 (Pl.norm (a, b)), .int .i64 0], Pl.inB 1048576 (a, b))
      | _ => none
    | _ => none
  else none
theorem agg_of {x : Array Value} {l : List Value} (h : x.toList = l) : x = l.toArray := by apply Array.ext'; simpa using h
theorem ringK_ok : Mini.KOk Tryz.prog ringK := fun f xs v c h => by
  unfold ringK at h
  split at h
  · rename_i hf
    subst hf
    split at h
    · rename_i x y hl
      split at h
      · rename_i a b c d hx hy
        have ea := agg_of hl
        have ex := agg_of hx
        have ey := agg_of hy
        subst ea ex ey
        cases h
        refine ⟨rfl, rfl, fun ⟨h1, h2, h3⟩ w => ?_⟩
        have := mul_any a b c d w
        unfold mulV at this
        rw [if_pos (firstE_two (parts_in h1) (parts_in h2)), lim_in' h3] at this
        exact this
      · cases h
    · cases h
  · split at h
    · rename_i hf
      subst hf
      split at h
      · rename_i x y hl
        split at h
        · rename_i a b c d hx hy
          have ea := agg_of hl
          have ex := agg_of hx
          have ey := agg_of hy
          subst ea ex ey
          cases h
          refine ⟨rfl, rfl, fun ⟨h1, h2, h3⟩ w => ?_⟩
          have := add_any a b c d w
          unfold addV at this
          rw [if_pos (firstE_two (parts_in h1) (parts_in h2)), lim_in' h3] at this
          exact this
        · cases h
      · cases h
    · split at h
      · rename_i hf
        subst hf
        split at h
        · rename_i x n hl
          split at h
          · rename_i a b hx
            have ea := agg_of hl
            have ex := agg_of hx
            subst ea ex
            cases h
            refine ⟨rfl, rfl, fun ⟨h1, h2, h3⟩ w => ?_⟩
            have := turned_any a b n w
            unfold turnedV at this
            rw [if_pos (firstE_two (parts_in h1) (by unfold Pl.cr; rw [if_neg (by omega)])), lim_in' h3] at this
            exact this
          · cases h
        · cases h
      · split at h
        · rename_i hf
          subst hf
          split at h
          · rename_i x hl
            split at h
            · rename_i a b hx
              have ea := agg_of hl
              have ex := agg_of hx
              subst ea ex
              cases h
              refine ⟨rfl, rfl, fun h1 w => ?_⟩
              have := norm_any a b w
              unfold normV at this
              rw [if_pos (parts_in h1)] at this
              exact this
            · cases h
          · cases h
        · cases h
end Go.Proofs.YtgloclcbeohkhaaGreatDoor
