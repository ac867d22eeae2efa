/-
  Bounds and forms for what the reckoner gathers on numbers.
-/
import Derived.Test.YtgloclcbeohkhaaGreatDoorRingX
import Derived.Test.YtgloclcbeohkhaaGreatDoorMiniV
namespace Go.Proofs.YtgloclcbeohkhaaGreatDoor
set_option linter.all false
open Go.RowKit
namespace Mini

theorem up {m : Int} {p : Int × Int} (h : Pl.inB m p) (hm : m ≤ 1048576) : Pl.inB 1048576 p := by
  obtain ⟨h1, h2, h3, h4⟩ := h
  exact ⟨by omega, by omega, by omega, by omega⟩
theorem addB {m k : Int} {p q : Int × Int} (h : Pl.inB m p) (g : Pl.inB k q) : Pl.inB (m + k) (Pl.add p q) := by
  obtain ⟨h1, h2, h3, h4⟩ := h
  obtain ⟨g1, g2, g3, g4⟩ := g
  unfold Pl.add
  exact ⟨by simp only; omega, by simp only; omega, by simp only; omega, by simp only; omega⟩
theorem prodB {x y m k : Int} (h1 : -m ≤ x) (h2 : x ≤ m) (g1 : -k ≤ y) (g2 : y ≤ k) : -(m * k) ≤ x * y ∧ x * y ≤ m * k := by
  have a := Int.mul_nonneg (show 0 ≤ m - x by omega) (show 0 ≤ k - y by omega)
  have b := Int.mul_nonneg (show 0 ≤ m + x by omega) (show 0 ≤ k + y by omega)
  have c := Int.mul_nonneg (show 0 ≤ m - x by omega) (show 0 ≤ k + y by omega)
  have d := Int.mul_nonneg (show 0 ≤ m + x by omega) (show 0 ≤ k - y by omega)
  simp only [Int.sub_mul, Int.mul_sub, Int.add_mul, Int.mul_add] at a b c d
  constructor <;> omega
theorem mulB {m k : Int} {p q : Int × Int} (h : Pl.inB m p) (g : Pl.inB k q) : Pl.inB (3 * (m * k)) (Pl.mul p q) := by
  obtain ⟨h1, h2, h3, h4⟩ := h
  obtain ⟨g1, g2, g3, g4⟩ := g
  have a := prodB h1 h2 g1 g2
  have b := prodB h3 h4 g3 g4
  have c := prodB h1 h2 g3 g4
  have d := prodB h3 h4 g1 g2
  unfold Pl.mul
  exact ⟨by simp only; omega, by simp only; omega, by simp only; omega, by simp only; omega⟩
theorem turnB {m : Int} {p : Int × Int} (h : Pl.inB m p) (n : Int) : Pl.inB (2 * m) (Pl.turn p n) := by
  obtain ⟨x, y⟩ := p
  obtain ⟨h1, h2, h3, h4⟩ := h
  simp only at h1 h2 h3 h4
  rcases turn_cases (x, y) n with ⟨g, e⟩ | ⟨g, e⟩ | ⟨g, e⟩ | ⟨g, e⟩ | ⟨g, e⟩ | ⟨g, e⟩ <;> rw [e] <;> exact ⟨by simp only; omega, by simp only; omega, by simp only; omega, by simp only; omega⟩
theorem normB {m : Int} {a b : Int} (h : Pl.inB m (a, b)) : Pl.norm (a, b) ≤ 3 * (m * m) := by
  obtain ⟨h1, h2, h3, h4⟩ := h
  have x := prodB h1 h2 h1 h2
  have y := prodB h1 h2 h3 h4
  have z := prodB h3 h4 h3 h4
  unfold Pl.norm
  simp only at *
  omega
theorem eqP {p q : Int × Int} (h : p = q) : (!(p.fst == q.fst && (p.snd == q.snd && true))) = false := by subst h; simp
theorem eqT {p q : Int × Int} (h : p = q) : (p.fst == q.fst && (p.snd == q.snd && true)) = true := by subst h; simp
theorem eqPW {p : Int × Int} {x y : Int} (h : p = (x, y)) (hx : -9223372036854775808 ≤ x ∧ x ≤ 9223372036854775807) (hy : -9223372036854775808 ≤ y ∧ y ≤ 9223372036854775807) : (!(p.fst == IntKind.i64.wrap x && (p.snd == IntKind.i64.wrap y && true))) = false := by
  rw [IntWalk.i64_in _ (by omega), IntWalk.i64_in _ (by omega)]
  exact eqP h
theorem normMul {a b : Int × Int} (ha : Pl.inB 100 a) (hb : Pl.inB 100 b) : (IntKind.i64.wrap (Pl.norm a * Pl.norm b) != Pl.norm ((Pl.mul a b).fst, (Pl.mul a b).snd)) = false := by
  obtain ⟨a1, a2⟩ := a
  obtain ⟨b1, b2⟩ := b
  have h1 := normB ha
  have h2 := normB hb
  have h3 := norm_nn a1 a2
  have h4 := norm_nn b1 b2
  have h5 := prodB (m := 30000) (k := 30000) (show -30000 ≤ Pl.norm (a1, a2) by omega) (by omega) (show -30000 ≤ Pl.norm (b1, b2) by omega) (by omega)
  rw [IntWalk.i64_in _ (by omega)]
  have := norm_mul (a1, a2) (b1, b2)
  show (_ != Pl.norm (Pl.mul (a1, a2) (b1, b2))) = false
  rw [this]
  simp
theorem normZero (a b : Int) : (!((Pl.norm (a, b) == 0) == (a == 0 && (b == 0 && true)))) = false := by
  have h := norm_zero a b
  by_cases h0 : Pl.norm (a, b) = 0
  · obtain ⟨rfl, rfl⟩ := h.1 h0
    rfl
  · have : ¬ (a = 0 ∧ b = 0) := fun g => h0 (h.2 g)
    have e1 : (Pl.norm (a, b) == 0) = false := by simpa using h0
    have e2 : (a == 0 && (b == 0 && true)) = false := by
      by_cases ha : a = 0
      · have hb : ¬ b = 0 := fun hb => this ⟨ha, hb⟩
        simp [hb]
      · simp [ha]
    rw [e1, e2]
    rfl
structure Bnd (A B C D E F N : Int) : Prop where
  a : Pl.inB 100 (A, B)
  c : Pl.inB 100 (C, D)
  e : Pl.inB 100 (E, F)
  n : -128 ≤ N ∧ N ≤ 127
end Mini
end Go.Proofs.YtgloclcbeohkhaaGreatDoor
