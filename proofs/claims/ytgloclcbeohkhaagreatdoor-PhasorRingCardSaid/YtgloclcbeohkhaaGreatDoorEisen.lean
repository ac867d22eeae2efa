/-
  The contracts of the numbers of chapter 1: checks, sums, products, turns, limits.
-/
import Derived.Test.YtgloclcbeohkhaaGreatDoorCore
import Derived.StillTailTactics
namespace Go.Proofs.YtgloclcbeohkhaaGreatDoor
set_option linter.all false
open Go.RowKit

/-- What a call leaves that makes memory and changes none. -/
def Bw (w w' : World) : Prop := Below w.heap.size w w'
theorem Bw.refl (w : World) : Bw w w := Below.refl _ _
theorem Bw.size {a b : World} (h : Bw a b) : a.heap.size ≤ b.heap.size := Below.size h
theorem Bw.trans {a b c : World} (h : Bw a b) (k : Bw b c) : Bw a c := Below.trans h (Below.mono k h.size)
theorem Bw.alloc {a b : World} (h : Bw a b) (o : Obj) : Bw a (b.alloc o) := Below.alloc h h.size o
theorem Bw.drew {a b : World} (h : Bw a b) : Bw a b.drew := Below.drew h
theorem Bw.drewN {a b : World} (h : Bw a b) (n : Nat) : Bw a (b.drewN n) := by
  have h' : Below a.heap.size a b := h
  exact (⟨h'.os, h'.tape, h'.output, h'.size, h'.block⟩ : Below a.heap.size a (b.drewN n))
theorem Bw.setCell {a b : World} (h : Bw a b) {p : Addr} (hp : a.heap.size ≤ p.block) (u : Value) : Bw a (b.setCell p u) := Below.setCell h hp u
theorem Bw.mk {w w' : World} (h : Below w.heap.size w w') : Bw w w' := h
theorem Bw.below {w w' : World} (h : Bw w w') : Below w.heap.size w w' := h
/-- All old cells, and all old marks, read as before. -/
theorem bcell {W w1 : World} (hb : Bw W w1) : (∀ b o, b < W.heap.size → w1.cell? ⟨b, o, none⟩ = W.cell? ⟨b, o, none⟩) ∧ (∀ b o, b < W.heap.size → w1.frozen? ⟨b, o, none⟩ = W.frozen? ⟨b, o, none⟩) :=
  ⟨fun b o h => Below.cell hb (p := ⟨b, o, none⟩) h, fun b o h => Below.frozen hb (p := ⟨b, o, none⟩) h⟩

theorem bcell' {W w1 : World} (hb : Bw W w1) (n : Nat) (hn : n ≤ W.heap.size) : (∀ b o, b < n → w1.cell? ⟨b, o, none⟩ = W.cell? ⟨b, o, none⟩) ∧ (∀ b o, b < n → w1.frozen? ⟨b, o, none⟩ = W.frozen? ⟨b, o, none⟩) :=
  ⟨fun b o h => (bcell hb).1 b o (Nat.lt_of_lt_of_le h hn), fun b o h => (bcell hb).2 b o (Nat.lt_of_lt_of_le h hn)⟩

theorem first2 (x y : Int) (b c : Nat) (w : World) (h0 : w.cell? ⟨b, 0, none⟩ = some (.int .i64 x)) (h1 : w.cell? ⟨b, 1, none⟩ = some (.int .i64 y)) :
    Calls Tryz.prog 47 #[.slice (some ⟨b, 0, none⟩) 2 c] w fun e w' => e = .returned (.int .i64 (Pl.firstE [x, y])) ∧ w = w' := by
  refine first_any [x, y] b 0 c w (by simp) (fun i hi => ?_)
  match i, hi with
  | 0, _ => simpa using h0
  | 1, _ => simpa using h1

theorem checkRange_still (n lo hi : Int) (w : World) :
    Calls Tryz.prog 78 #[.int .i64 n, .int .i64 lo, .int .i64 hi] w fun e w' => e = .returned (.int .i64 (Pl.cr n lo hi)) ∧ w' = w :=
  (checkRange_any n lo hi w).mono fun _ _ ⟨he, hw⟩ => ⟨he, hw.symm⟩

set_option maxHeartbeats 400000 in
set_option maxRecDepth 100000 in
theorem checkParts_any (a b m : Int) (w : World) (hm : 0 ≤ m ∧ m ≤ 100000000) :
    Calls Tryz.prog 56 #[.agg #[.int .i64 a, .int .i64 b], .int .i64 m] w fun e w' => e = .returned (.int .i64 (Pl.parts a b m)) ∧ Bw w w' := by
  obtain ⟨h1, h2⟩ := hm
  go_enter Tryz.func56, Tryz.ntmps56
  go_wp2
  refine wp_region_still_tail 12 (by kernel_rfl) (by kernel_rfl) ?_
  simp only [List.take_succ_cons, List.take_zero, List.drop_succ_cons, List.drop_zero]
  change wpStill _ _ (World.drew _) _ _ _
  repeat still_step
  still_call (checkRange_still _ _ _ _)
  repeat still_step
  still_call (checkRange_still _ _ _ _)
  refine wpStill_nil ?_
  go_wp2_with (go_at_call 47; refine (first2 (Pl.cr a (-m) m) (Pl.cr b (-m) m) _ _ _ (by go_simp) (by go_simp)).mono ?_; rintro e w' ⟨rfl, rfl⟩)
  go_ret
  exact ⟨rfl, (((Bw.refl _).alloc _).alloc _).drew⟩

set_option maxHeartbeats 400000 in
theorem checkEisen_any (a b : Int) (w : World) :
    Calls Tryz.prog 21 #[.agg #[.int .i64 a, .int .i64 b]] w fun e w' => e = .returned (.int .i64 (Pl.parts a b 1048576)) ∧ Bw w w' := by
  go_enter Tryz.func21, Tryz.ntmps21
  go_wp2_with (go_at_call 56; refine (checkParts_any a b 1048576 _ (by omega)).mono ?_; rintro e w1 ⟨rfl, hb1⟩)
  go_ret
  exact ⟨rfl, ((Bw.refl _).alloc _).trans hb1⟩

set_option maxHeartbeats 400000 in
theorem checkPhase_any (a b : Int) (w : World) :
    Calls Tryz.prog 75 #[.agg #[.int .i64 a, .int .i64 b]] w fun e w' => e = .returned (.int .i64 (Pl.parts a b 65536)) ∧ Bw w w' := by
  go_enter Tryz.func75, Tryz.ntmps75
  go_wp2_with (go_at_call 56; refine (checkParts_any a b 65536 _ (by omega)).mono ?_; rintro e w1 ⟨rfl, hb1⟩)
  go_ret
  exact ⟨rfl, ((Bw.refl _).alloc _).trans hb1⟩

set_option maxHeartbeats 400000 in
theorem checkTurn_any (n : Int) (w : World) :
    Calls Tryz.prog 51 #[.int .i64 n] w fun e w' => e = .returned (.int .i64 (Pl.cr n (-1000000) 1000000)) ∧ w = w' := by
  go_enter Tryz.func51, Tryz.ntmps51
  go_wp2_with (go_at_call 78; refine (checkRange_any _ _ _ _).mono ?_; rintro e w1 ⟨rfl, rfl⟩)
  go_ret
  exact ⟨rfl, rfl⟩

/-- Parts within a bound of products that fit. -/
def Big (m : Int) (p : Int × Int) : Prop := -m ≤ p.1 ∧ p.1 ≤ m ∧ -m ≤ p.2 ∧ p.2 ≤ m

set_option maxHeartbeats 400000 in
theorem sum_any (a b c d : Int) (w : World) (h1 : Big 1000000000000000 (a, b)) (h2 : Big 1000000000000000 (c, d)) :
    Calls Tryz.prog 49 #[.agg #[.int .i64 a, .int .i64 b], .agg #[.int .i64 c, .int .i64 d]] w fun e w' => e = .returned (.agg #[.int .i64 (a + c), .int .i64 (b + d)]) ∧ Bw w w' := by
  obtain ⟨a1, a2, a3, a4⟩ := h1
  obtain ⟨c1, c2, c3, c4⟩ := h2
  simp only at a1 a2 a3 a4 c1 c2 c3 c4
  go_enter Tryz.func49, Tryz.ntmps49
  go_wp2
  exact bodyPost_ret (v := .agg #[.int .i64 (a + c), .int .i64 (b + d)]) (by simp [results, Tryz.results49, go_sem]) rfl ⟨rfl, ((((Bw.refl _).alloc _).alloc _).alloc _)⟩

theorem mul_bd (m x y : Int) (hm : 0 ≤ m) (h1 : -m ≤ x) (h2 : x ≤ m) (h3 : -m ≤ y) (h4 : y ≤ m) : -(m * m) ≤ x * y ∧ x * y ≤ m * m := by
  have e : (x * y).natAbs ≤ (m * m).natAbs := by
    rw [Int.natAbs_mul, Int.natAbs_mul]; exact Nat.mul_le_mul (by omega) (by omega)
  have : 0 ≤ m * m := Int.mul_nonneg hm hm
  omega

set_option maxHeartbeats 1000000 in
theorem product_any (a b c d : Int) (w : World) (h1 : Big 100000000 (a, b)) (h2 : Big 100000000 (c, d)) :
    Calls Tryz.prog 50 #[.agg #[.int .i64 a, .int .i64 b], .agg #[.int .i64 c, .int .i64 d]] w fun e w' => e = .returned (.agg #[.int .i64 (a * c - b * d), .int .i64 (a * d + b * c - b * d)]) ∧ Bw w w' := by
  obtain ⟨a1, a2, a3, a4⟩ := h1
  obtain ⟨c1, c2, c3, c4⟩ := h2
  simp only at a1 a2 a3 a4 c1 c2 c3 c4
  obtain ⟨m1, m2⟩ := mul_bd 100000000 a c (by omega) a1 a2 c1 c2
  obtain ⟨m3, m4⟩ := mul_bd 100000000 b d (by omega) a3 a4 c3 c4
  obtain ⟨m5, m6⟩ := mul_bd 100000000 a d (by omega) a1 a2 c3 c4
  obtain ⟨m7, m8⟩ := mul_bd 100000000 b c (by omega) a3 a4 c1 c2
  simp only [Int.reduceMul] at m1 m2 m3 m4 m5 m6 m7 m8
  go_enter Tryz.func50, Tryz.ntmps50
  go_wp2
  exact bodyPost_ret (v := .agg #[.int .i64 (a * c - b * d), .int .i64 (a * d + b * c - b * d)]) (by simp [results, Tryz.results50, go_sem]) rfl ⟨rfl, ((((Bw.refl _).alloc _).alloc _).alloc _)⟩

set_option maxHeartbeats 400000 in
theorem conjugate_any (a b : Int) (w : World) (h1 : Big 1000000000000000 (a, b)) :
    Calls Tryz.prog 71 #[.agg #[.int .i64 a, .int .i64 b]] w fun e w' => e = .returned (.agg #[.int .i64 (a - b), .int .i64 (-b)]) ∧ Bw w w' := by
  obtain ⟨a1, a2, a3, a4⟩ := h1
  simp only at a1 a2 a3 a4
  go_enter Tryz.func71, Tryz.ntmps71
  go_wp2
  exact bodyPost_ret (v := .agg #[.int .i64 (a - b), .int .i64 (-b)]) (by simp [results, Tryz.results71, go_sem]) rfl ⟨rfl, (((Bw.refl _).alloc _).alloc _)⟩

theorem sixth_big (m : Int) (p : Int × Int) (h : Big m p) (hm : 0 ≤ m) : Big (2 * m) (Pl.sixth p) := by
  obtain ⟨h1, h2, h3, h4⟩ := h
  unfold Pl.sixth Big
  simp only
  omega
theorem turnN_big (n : Nat) (m : Int) (p : Int × Int) (h : Big m p) (hm : 0 ≤ m) : Big (2 ^ n * m) (Pl.turnN n p) := by
  induction n with
  | zero => simpa [Pl.turnN] using h
  | succ n ih =>
    have h2 := sixth_big _ _ ih (Int.mul_nonneg (Int.pow_nonneg (by omega)) hm)
    rw [show (2 : Int) ^ (n + 1) * m = 2 * (2 ^ n * m) by rw [Int.pow_succ]; simp [Int.mul_assoc, Int.mul_comm, Int.mul_left_comm]]
    exact h2

theorem turnN_big5 (n : Nat) (hn : n ≤ 5) (m : Int) (p : Int × Int) (h : Big m p) (hm : 0 ≤ m) : Big (32 * m) (Pl.turnN n p) := by
  have h1 := turnN_big n m p h hm
  have h2 : (2 : Int) ^ n ≤ 32 := by
    have : ∀ k : Nat, k ≤ 5 → (2 : Int) ^ k ≤ 32 := by decide
    exact this n hn
  have h3 : (2 : Int) ^ n * m ≤ 32 * m := Int.mul_le_mul_of_nonneg_right h2 hm
  obtain ⟨a1, a2, a3, a4⟩ := h1
  exact ⟨by omega, by omega, by omega, by omega⟩

set_option maxHeartbeats 1000000 in
theorem turn_any (a b n : Int) (w : World) (h1 : Big 10000000000000 (a, b)) (hn : -4611686018427387904 ≤ n ∧ n ≤ 4611686018427387904) :
    Calls Tryz.prog 52 #[.agg #[.int .i64 a, .int .i64 b], .int .i64 n] w fun e w' => e = .returned (.agg #[.int .i64 (Pl.turn (a, b) n).1, .int .i64 (Pl.turn (a, b) n).2]) ∧ Bw w w' := by
  obtain ⟨N, hN⟩ : ∃ N : Nat, n % 6 = N := ⟨(n % 6).toNat, by omega⟩
  have hN6 : N ≤ 5 := by omega
  have hR : ∀ W : World, Calls Tryz.prog 79 #[.int .i64 n, .int .i64 6] W fun e w' => e = .returned (.int .i64 (N : Int)) ∧ W = w' := fun W => by
    rw [← hN]; exact remainder_any n 6 W (by omega) hn (by omega)
  have HR := Lib.hid hR
  have ht : Pl.turn (a, b) n = Pl.turnN N (a, b) := by unfold Pl.turn; rw [hN]; simp
  rw [ht]
  clear ht hR hN
  have hbig : ∀ k, k ≤ 5 → Big 320000000000000 (Pl.turnN k (a, b)) := fun k hk => by
    have := turnN_big5 k hk _ _ h1 (by omega)
    exact this
  have HB := Lib.hid hbig
  clear hbig
  go_enter Tryz.func52, Tryz.ntmps52
  go_wp2_with (go_at_call 79; refine (HR.out _).mono ?_; rintro e w1 ⟨rfl, rfl⟩)
  go_loopw [7] (fun i wr => ∃ k : Nat, k ≤ N ∧ i = .int .i64 k ∧ wr = (w.alloc (.cells #[.int .i64 (Pl.turnN k (a, b)).1, .int .i64 (Pl.turnN k (a, b)).2] 23)).alloc (.cells #[.int .i64 0, .int .i64 0] 23)) (fun i _ => N - (intOf i).toNat)
  case atStart => exact ⟨0, Nat.zero_le _, rfl, rfl⟩
  case round =>
    obtain ⟨k, hk, rfl, rfl⟩ := hrel
    by_cases hlt : k < N
    · obtain ⟨b1, b2, b3, b4⟩ := HB.out k (by omega)
      have hs : Pl.turnN (k + 1) (a, b) = Pl.sixth (Pl.turnN k (a, b)) := rfl
      have HS := Lib.hid hs
      clear hs
      generalize Pl.turnN k (a, b) = q at *
      go_wp2
      go_roundw
      case rel => exact ⟨k + 1, by omega, by go_num, by rw [HS.out]; rfl⟩
      case measure => simp [intOf]; omega
    · have hkN : k = N := by omega
      subst hkN
      go_wp2
      exact bodyPost_ret (v := .agg #[.int .i64 (Pl.turnN k (a, b)).1, .int .i64 (Pl.turnN k (a, b)).2]) (by simp [results, Tryz.results52, go_sem]) rfl ⟨rfl, (((Bw.refl _).alloc _).alloc _)⟩
end Go.Proofs.YtgloclcbeohkhaaGreatDoor
