/-
  Ranges of the atoms.
-/
import Derived.Test.YtbkpnhbcihcgaaaGreatDoorGU2
set_option linter.all false
set_option maxRecDepth 1000000
open Go.RowKit
namespace Go.Proofs.YtbkpnhbcihcgaaaGreatDoor
open Mini
def LS_at0 (y : Int) : Int := (Int.tmod (IntKind.i64.wrap y) (8 : Int))
def LS_at1 (y : Int) : Int := (Int.tmod (IntKind.i64.wrap y) (9 : Int))
abbrev LS_pre (y : LV) : Prop := (-128 ≤ y.b0 ∧ y.b0 ≤ 127) ∧ (-128 ≤ y.b1 ∧ y.b1 ≤ 127) ∧ (-128 ≤ y.z0 ∧ y.z0 ≤ 127) ∧ (-128 ≤ y.z1 ∧ y.z1 ≤ 127)
theorem LS_rg8 (y : LV) (hpre : LS_pre y) : Rg.has (-128, 127) (IntKind.i64.wrap y.b0) := by
  (have hpre : (-128 ≤ y.b0 ∧ y.b0 ≤ 127) ∧ (-128 ≤ y.b1 ∧ y.b1 ≤ 127) ∧ (-128 ≤ y.z0 ∧ y.z0 ≤ 127) ∧ (-128 ≤ y.z1 ∧ y.z1 ≤ 127) := hpre
   (first | (rw [show IntKind.i64.wrap y.b0 = y.b0 from IntWalk.i64_in _ (by omega)]; constructor <;> (simp only; omega)) | (rw [show IntKind.i64.wrap y.b1 = y.b1 from IntWalk.i64_in _ (by omega)]; constructor <;> (simp only; omega)) | (rw [show IntKind.i64.wrap y.z0 = y.z0 from IntWalk.i64_in _ (by omega)]; constructor <;> (simp only; omega)) | (rw [show IntKind.i64.wrap y.z1 = y.z1 from IntWalk.i64_in _ (by omega)]; constructor <;> (simp only; omega))))
theorem LS_rg9 (y : LV) (hpre : LS_pre y) : Rg.has (-128, 127) (IntKind.i64.wrap y.b1) := by
  (have hpre : (-128 ≤ y.b0 ∧ y.b0 ≤ 127) ∧ (-128 ≤ y.b1 ∧ y.b1 ≤ 127) ∧ (-128 ≤ y.z0 ∧ y.z0 ≤ 127) ∧ (-128 ≤ y.z1 ∧ y.z1 ≤ 127) := hpre
   (first | (rw [show IntKind.i64.wrap y.b0 = y.b0 from IntWalk.i64_in _ (by omega)]; constructor <;> (simp only; omega)) | (rw [show IntKind.i64.wrap y.b1 = y.b1 from IntWalk.i64_in _ (by omega)]; constructor <;> (simp only; omega)) | (rw [show IntKind.i64.wrap y.z0 = y.z0 from IntWalk.i64_in _ (by omega)]; constructor <;> (simp only; omega)) | (rw [show IntKind.i64.wrap y.z1 = y.z1 from IntWalk.i64_in _ (by omega)]; constructor <;> (simp only; omega))))
theorem LS_rg10 (y : LV) (hpre : LS_pre y) : Rg.has (-128, 127) (IntKind.i64.wrap y.z0) := by
  (have hpre : (-128 ≤ y.b0 ∧ y.b0 ≤ 127) ∧ (-128 ≤ y.b1 ∧ y.b1 ≤ 127) ∧ (-128 ≤ y.z0 ∧ y.z0 ≤ 127) ∧ (-128 ≤ y.z1 ∧ y.z1 ≤ 127) := hpre
   (first | (rw [show IntKind.i64.wrap y.b0 = y.b0 from IntWalk.i64_in _ (by omega)]; constructor <;> (simp only; omega)) | (rw [show IntKind.i64.wrap y.b1 = y.b1 from IntWalk.i64_in _ (by omega)]; constructor <;> (simp only; omega)) | (rw [show IntKind.i64.wrap y.z0 = y.z0 from IntWalk.i64_in _ (by omega)]; constructor <;> (simp only; omega)) | (rw [show IntKind.i64.wrap y.z1 = y.z1 from IntWalk.i64_in _ (by omega)]; constructor <;> (simp only; omega))))
theorem LS_rg11 (y : LV) (hpre : LS_pre y) : Rg.has (-128, 127) (IntKind.i64.wrap y.z1) := by
  (have hpre : (-128 ≤ y.b0 ∧ y.b0 ≤ 127) ∧ (-128 ≤ y.b1 ∧ y.b1 ≤ 127) ∧ (-128 ≤ y.z0 ∧ y.z0 ≤ 127) ∧ (-128 ≤ y.z1 ∧ y.z1 ≤ 127) := hpre
   (first | (rw [show IntKind.i64.wrap y.b0 = y.b0 from IntWalk.i64_in _ (by omega)]; constructor <;> (simp only; omega)) | (rw [show IntKind.i64.wrap y.b1 = y.b1 from IntWalk.i64_in _ (by omega)]; constructor <;> (simp only; omega)) | (rw [show IntKind.i64.wrap y.z0 = y.z0 from IntWalk.i64_in _ (by omega)]; constructor <;> (simp only; omega)) | (rw [show IntKind.i64.wrap y.z1 = y.z1 from IntWalk.i64_in _ (by omega)]; constructor <;> (simp only; omega))))
theorem LS_rg12 (y : LV) (hpre : LS_pre y) : Rg.has (-7, 7) (LS_at0 y.a0) := by
  have h := IE.rng_ok (β := [(-9223372036854775808, 9223372036854775807)]) (ρ := [(IntKind.i64.wrap y.a0)]) ⟨wrR _, trivial⟩ (e := (.md (.v 0) 8)) (by kernel_rfl)
  rw [show IE.rng [(-9223372036854775808, 9223372036854775807)] (.md (.v 0) 8) = (-7, 7) from by kernel_rfl] at h
  exact h
theorem LS_rg13 (y : LV) (hpre : LS_pre y) : Rg.has (-7, 7) (LS_at0 y.a1) := by
  have h := IE.rng_ok (β := [(-9223372036854775808, 9223372036854775807)]) (ρ := [(IntKind.i64.wrap y.a1)]) ⟨wrR _, trivial⟩ (e := (.md (.v 0) 8)) (by kernel_rfl)
  rw [show IE.rng [(-9223372036854775808, 9223372036854775807)] (.md (.v 0) 8) = (-7, 7) from by kernel_rfl] at h
  exact h
theorem LS_rg14 (y : LV) (hpre : LS_pre y) : Rg.has (-7, 7) (LS_at0 y.a2) := by
  have h := IE.rng_ok (β := [(-9223372036854775808, 9223372036854775807)]) (ρ := [(IntKind.i64.wrap y.a2)]) ⟨wrR _, trivial⟩ (e := (.md (.v 0) 8)) (by kernel_rfl)
  rw [show IE.rng [(-9223372036854775808, 9223372036854775807)] (.md (.v 0) 8) = (-7, 7) from by kernel_rfl] at h
  exact h
theorem LS_rg15 (y : LV) (hpre : LS_pre y) : Rg.has (-7, 7) (LS_at0 y.b0) := by
  have h := IE.rng_ok (β := [(-128, 127)]) (ρ := [(IntKind.i64.wrap y.b0)]) ⟨LS_rg8 y hpre, trivial⟩ (e := (.md (.v 0) 8)) (by kernel_rfl)
  rw [show IE.rng [(-128, 127)] (.md (.v 0) 8) = (-7, 7) from by kernel_rfl] at h
  exact h
theorem LS_rg16 (y : LV) (hpre : LS_pre y) : Rg.has (-7, 7) (LS_at0 y.b1) := by
  have h := IE.rng_ok (β := [(-128, 127)]) (ρ := [(IntKind.i64.wrap y.b1)]) ⟨LS_rg9 y hpre, trivial⟩ (e := (.md (.v 0) 8)) (by kernel_rfl)
  rw [show IE.rng [(-128, 127)] (.md (.v 0) 8) = (-7, 7) from by kernel_rfl] at h
  exact h
theorem LS_rg17 (y : LV) (hpre : LS_pre y) : Rg.has (-7, 7) (LS_at0 y.b2) := by
  have h := IE.rng_ok (β := [(-9223372036854775808, 9223372036854775807)]) (ρ := [(IntKind.i64.wrap y.b2)]) ⟨wrR _, trivial⟩ (e := (.md (.v 0) 8)) (by kernel_rfl)
  rw [show IE.rng [(-9223372036854775808, 9223372036854775807)] (.md (.v 0) 8) = (-7, 7) from by kernel_rfl] at h
  exact h
theorem LS_rg18 (y : LV) (hpre : LS_pre y) : Rg.has (-8, 8) (LS_at1 y.z0) := by
  have h := IE.rng_ok (β := [(-128, 127)]) (ρ := [(IntKind.i64.wrap y.z0)]) ⟨LS_rg10 y hpre, trivial⟩ (e := (.md (.v 0) 9)) (by kernel_rfl)
  rw [show IE.rng [(-128, 127)] (.md (.v 0) 9) = (-8, 8) from by kernel_rfl] at h
  exact h
theorem LS_rg19 (y : LV) (hpre : LS_pre y) : Rg.has (-8, 8) (LS_at1 y.z1) := by
  have h := IE.rng_ok (β := [(-128, 127)]) (ρ := [(IntKind.i64.wrap y.z1)]) ⟨LS_rg11 y hpre, trivial⟩ (e := (.md (.v 0) 9)) (by kernel_rfl)
  rw [show IE.rng [(-128, 127)] (.md (.v 0) 9) = (-8, 8) from by kernel_rfl] at h
  exact h
def LS_R (y : LV) : List Int := [(IntKind.i64.wrap y.a0), (IntKind.i64.wrap y.a1), (IntKind.i64.wrap y.a2), (IntKind.i64.wrap y.b0), (IntKind.i64.wrap y.b1), (IntKind.i64.wrap y.b2), (IntKind.i64.wrap y.z0), (IntKind.i64.wrap y.z1), (IntKind.i64.wrap y.b0), (IntKind.i64.wrap y.b1), (IntKind.i64.wrap y.z0), (IntKind.i64.wrap y.z1), (LS_at0 y.a0), (LS_at0 y.a1), (LS_at0 y.a2), (LS_at0 y.b0), (LS_at0 y.b1), (LS_at0 y.b2), (LS_at1 y.z0), (LS_at1 y.z1)]
def LS_B : List Rg := [(-9223372036854775808, 9223372036854775807), (-9223372036854775808, 9223372036854775807), (-9223372036854775808, 9223372036854775807), (-9223372036854775808, 9223372036854775807), (-9223372036854775808, 9223372036854775807), (-9223372036854775808, 9223372036854775807), (-9223372036854775808, 9223372036854775807), (-9223372036854775808, 9223372036854775807), (-128, 127), (-128, 127), (-128, 127), (-128, 127), (-7, 7), (-7, 7), (-7, 7), (-7, 7), (-7, 7), (-7, 7), (-8, 8), (-8, 8)]
theorem LS_hr (y : LV) (hpre : LS_pre y) : InR LS_B (LS_R y) := ⟨wrR _, ⟨wrR _, ⟨wrR _, ⟨wrR _, ⟨wrR _, ⟨wrR _, ⟨wrR _, ⟨wrR _, ⟨LS_rg8 y hpre, ⟨LS_rg9 y hpre, ⟨LS_rg10 y hpre, ⟨LS_rg11 y hpre, ⟨LS_rg12 y hpre, ⟨LS_rg13 y hpre, ⟨LS_rg14 y hpre, ⟨LS_rg15 y hpre, ⟨LS_rg16 y hpre, ⟨LS_rg17 y hpre, ⟨LS_rg18 y hpre, ⟨LS_rg19 y hpre, trivial⟩⟩⟩⟩⟩⟩⟩⟩⟩⟩⟩⟩⟩⟩⟩⟩⟩⟩⟩⟩
end Go.Proofs.YtbkpnhbcihcgaaaGreatDoor
