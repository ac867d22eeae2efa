/-
  LoopPolys: for all arguments the law returns true and leaves its arguments as they were, wherever the tables that its row lists are laid as the text lays them.
  Tables of strings on a row's list.
  The law LoopPolys in each real world.
  Two slices of numbers as arguments: a law over two rows in the small world holds in the real one (the rows may lie together there).
  Slices of numbers (or of structs and arrays of numbers) as arguments: what the program reads of them; a law over a row in the small world holds in the real one.
  From a call in the small world to a real one whose arguments lie in memory.
  Tables of structures of two pairs on a row's list.
  The last step of a row whose call leaves a world of which only 'Below' is known; tables of pairs on a row's list.
  Arguments that are made of integers alone (numbers, arrays and structs of them, in any depth), opened: their cells are numbers, and their data is the same in each world.
  LoopPolys: true for all polynomials, every point.
-/
import Derived.Test.YtbkpnhbcihcgaaaGreatDoorGP13
import Derived.Test.YtbkpnhbcihcgaaaGreatDoorGP2
import Derived.OpenShut
import Derived.RowKit
import Derived.WideShapes
import Derived.Below
import Derived.ChangeSame
import Derived.ProofKit
import Derived.JoinedCond
import Derived.JoinedOf
import Derived.JoinedAt
import Derived.RowKit3
import Derived.Lib.LaidTab
import Derived.LaidSub
import Derived.Deep.Slices
import Derived.WideKeyArgs
import Derived.Test.YtbkpnhbcihcgaaaGreatDoorCards
import Derived.Test.YtbkpnhbcihcgaaaGreatDoorTie
import Derived.WalkKit
import Derived.Deep.DeepHandedRow
section
set_option linter.all false
set_option maxRecDepth 1000000
open Go.RowKit
namespace Go.Proofs.YtbkpnhbcihcgaaaGreatDoor
open Mini
theorem rR {n : Nat} {G : GI} : n = n ∧ ∀ i, i < n → ∀ j, j < 1 → Value.int .i64 (G i j) = Value.int .i64 (gI (Value.int .i64 (G i j))) := ⟨rfl, fun _ _ _ _ => rfl⟩
theorem nT {a b : Int} (h : a ≠ b) : (a != b) = true := bne_iff_ne.2 h
theorem nF {a b : Int} (h : a = b) : (a != b) = false := bne_eq_false_iff_eq.2 h
theorem eT {a b : Int} (h : a = b) : (a == b) = true := beq_iff_eq.2 h
theorem eF {a b : Int} (h : a ≠ b) : (a == b) = false := beq_eq_false_iff_ne.2 h
theorem tS {a b : Nat} (h : a = b) (S : ((a : Nat) : Int) = 0) : ((b : Nat) : Int) = 0 := h ▸ S
theorem tSn {a b : Nat} (h : a = b) (S : ((a : Nat) : Int) ≠ 0) : ((b : Nat) : Int) ≠ 0 := h ▸ S
theorem ne12 : (12 : Int) ≠ 0 := by decide
theorem and_eqB {a b c d : Int} (h : a = b) (k : c = d) : Bool.and (a == b) (Bool.and (c == d) true) = true := by subst h k; simp
theorem cpV_len3 {n : Nat} {g : Nat → Nat → Int} (h : cpV n g = 0) : 0 < n ∧ n ≤ 5 := by
  unfold cpV at h
  split at h
  · exact absurd h (by decide)
  · split at h
    · exact absurd h (by decide)
    · omega
theorem cr_in {x lo hi : Int} (h : Pl.cr x lo hi = 0) : lo ≤ x ∧ x ≤ hi := by
  unfold Pl.cr at h
  split at h <;> omega
theorem cpV_in {n : Nat} {g : Nat → Nat → Int} (h : cpV n g = 0) : ∀ i, i < n → -100 ≤ g i 0 ∧ g i 0 ≤ 100 := fun i hi => by
  have h1 := cpV_len3 h
  unfold cpV at h
  rw [if_neg (by omega), if_neg (by omega)] at h
  have h2 : feN (fun i => Pl.cr (g i 0) (-100) 100) n 0 = 0 := by
    unfold th2 at h
    split at h
    · assumption
    · rename_i hc; exact absurd h hc
  exact cr_in (feN_zero h2 i hi)
theorem ptE_x {x y : Int} (h : ptE x y = 0) : Pl.cr x (-8) 8 = 0 := by
  unfold ptE at h
  split at h
  · assumption
  · rename_i hc; exact absurd h hc
theorem ptE_y {x y : Int} (h : ptE x y = 0) : Pl.cr y (-8) 8 = 0 := by
  have := ptE_x h
  unfold ptE at h
  rw [if_pos this] at h
  exact h
theorem feN_congr {f k : Nat → Int} {n : Nat} (h : ∀ i, i < n → f i = k i) : feN f n 0 = feN k n 0 := by
  rcases first_or (p := fun i => f i ≠ 0) (fun _ => inferInstance) n with h2 | ⟨j, hj, h2, h3⟩
  · have h4 : ∀ i, i < n → f i = 0 := fun i hi => Decidable.not_not.1 (h2 i hi)
    rw [feN_all fun k _ hk => h4 k (by omega), feN_all fun k _ hk => (h k (by omega)) ▸ h4 k (by omega)]
  · have h4 : ∀ i, i < j → f i = 0 := fun i hi => Decidable.not_not.1 (h3 i hi)
    rw [feN_first (Nat.zero_le j) (by omega) (fun k _ hk => h4 k hk) h2, feN_first (Nat.zero_le j) (by omega) (fun k _ hk => (h k (by omega)) ▸ h4 k hk) (h j hj ▸ h2), h j hj]
theorem w8 {n : Nat} (h : ¬ (7 : Int) < ((n : Nat) : Int)) : n * 8 ≤ 140737488355328 := by omega
theorem w9 {n : Nat} (h : ¬ (7 : Int) < ((n : Nat) : Int)) : ((n : Nat) : Int) ≤ 9223372036854775807 := by omega
theorem wq {n m : Nat} (h : 0 < n ∧ n ≤ 1000 ∧ 0 < m ∧ m ≤ 1000) : ((n + m - 1 : Nat) : Int) ≤ 9223372036854775807 := by omega
theorem lpAP {n : Nat} {g : GI} {x y : Int} (A : (cpV n g) = (0 : Int)) (P : (ptE x y) = (0 : Int)) : vaR n g x y = rvR n g x y ∧ vaI n g x y = rvI n g x y := va_eq (cpV_len3 A) g x y (cpV_in A) (cr_in (ptE_x P)) (cr_in (ptE_y P))
theorem lpAB {n m : Nat} {g h : GI} (A : (cpV n g) = (0 : Int)) (B : (cpV m h) = (0 : Int)) : (0 < n ∧ n ≤ 1000 ∧ 0 < m ∧ m ≤ 1000) ∧ suN n m g h = puN n m g h ∧ (∀ i, i < suN n m g h → suG n m g h i 0 = puG n m g h i 0) ∧ ((suN n m g h : Nat) : Int) ≤ 9223372036854775807 ∧ ((puN n m g h : Nat) : Int) ≤ 9223372036854775807 ∧ feN (fun i => Pl.cr (suG n m g h i 0) (-100) 100) (suN n m g h) 0 = feN (fun i => Pl.cr (puG n m g h i 0) (-100) 100) (puN n m g h) 0 := by
  have a1 := cpV_len3 A
  have b1 := cpV_len3 B
  have a2 := cpV_in A
  have b2 := cpV_in B
  have s1 : suN n m g h = puN n m g h := suN_eq a2 b2
  have s5 := suN_le n m g h
  have s6 := mxN_ge n m
  have s2 : ∀ i, i < suN n m g h → suG n m g h i 0 = puG n m g h i 0 := fun i hi => suG_at a2 b2 i (by omega)
  refine ⟨⟨a1.1, by omega, b1.1, by omega⟩, s1, s2, by omega, by omega, ?_⟩
  rw [← s1]
  exact feN_congr fun k hk => by rw [s2 k hk]
abbrev hN7 (n : Nat) : Prop := (7 : Int) < ((n : Nat) : Int)
abbrev hN7_ (n : Nat) : Prop := ¬ (7 : Int) < ((n : Nat) : Int)
abbrev hM7 (m : Nat) : Prop := (7 : Int) < ((m : Nat) : Int)
abbrev hM7_ (m : Nat) : Prop := ¬ (7 : Int) < ((m : Nat) : Int)
abbrev hA (n : Nat) (g : Nat → Nat → Int) : Prop := (cpV n g) = (0 : Int)
abbrev hA_ (n : Nat) (g : Nat → Nat → Int) : Prop := (cpV n g) ≠ (0 : Int)
abbrev hB (m : Nat) (h : Nat → Nat → Int) : Prop := (cpV m h) = (0 : Int)
abbrev hB_ (m : Nat) (h : Nat → Nat → Int) : Prop := (cpV m h) ≠ (0 : Int)
abbrev hP (x : Int) (y : Int) : Prop := (ptE x y) = (0 : Int)
abbrev hP_ (x : Int) (y : Int) : Prop := (ptE x y) ≠ (0 : Int)
abbrev hX (x : Int) : Prop := (Pl.cr x (-8 : Int) (8 : Int)) = (0 : Int)
abbrev hX_ (x : Int) : Prop := (Pl.cr x (-8 : Int) (8 : Int)) ≠ (0 : Int)
abbrev hQ (n : Nat) (m : Nat) : Prop := (5 : Int) < (((n + m - 1) : Nat) : Int)
abbrev hQ_ (n : Nat) (m : Nat) : Prop := ¬ (5 : Int) < (((n + m - 1) : Nat) : Int)
abbrev hn0 (n : Nat) : Prop := n ≠ 0
abbrev hm0 (m : Nat) : Prop := m ≠ 0
abbrev hY (y : Int) : Prop := (Pl.cr y (-8 : Int) (8 : Int)) = (0 : Int)
abbrev hY_ (y : Int) : Prop := (Pl.cr y (-8 : Int) (8 : Int)) ≠ (0 : Int)
abbrev hU (n : Nat) (g : Nat → Nat → Int) (m : Nat) (h : Nat → Nat → Int) : Prop := feN (fun i => Pl.cr (mulO g h m n i 0) (-100) 100) (n + m - 1) 0 = 0
abbrev hU_ (n : Nat) (g : Nat → Nat → Int) (m : Nat) (h : Nat → Nat → Int) : Prop := feN (fun i => Pl.cr (mulO g h m n i 0) (-100) 100) (n + m - 1) 0 ≠ 0
abbrev hS (n : Nat) (g : Nat → Nat → Int) (m : Nat) (h : Nat → Nat → Int) : Prop := ((suN n m g h : Nat) : Int) = 0
abbrev hS_ (n : Nat) (g : Nat → Nat → Int) (m : Nat) (h : Nat → Nat → Int) : Prop := ((suN n m g h : Nat) : Int) ≠ 0
abbrev hT (n : Nat) (g : Nat → Nat → Int) (m : Nat) (h : Nat → Nat → Int) : Prop := ((puN n m g h : Nat) : Int) = 0
abbrev hT_ (n : Nat) (g : Nat → Nat → Int) (m : Nat) (h : Nat → Nat → Int) : Prop := ((puN n m g h : Nat) : Int) ≠ 0
abbrev hL (n : Nat) (g : Nat → Nat → Int) (m : Nat) (h : Nat → Nat → Int) : Prop := feN (fun i => Pl.cr (suG n m g h i 0) (-100) 100) (suN n m g h) 0 = 0
abbrev hL_ (n : Nat) (g : Nat → Nat → Int) (m : Nat) (h : Nat → Nat → Int) : Prop := feN (fun i => Pl.cr (suG n m g h i 0) (-100) 100) (suN n m g h) 0 ≠ 0
abbrev hK (n : Nat) (g : Nat → Nat → Int) (m : Nat) (h : Nat → Nat → Int) : Prop := feN (fun i => Pl.cr (puG n m g h i 0) (-100) 100) (puN n m g h) 0 = 0
abbrev hK_ (n : Nat) (g : Nat → Nat → Int) (m : Nat) (h : Nat → Nat → Int) : Prop := feN (fun i => Pl.cr (puG n m g h i 0) (-100) 100) (puN n m g h) 0 ≠ 0
abbrev ha1 (n : Nat) : Prop := 0 < n ∧ n ≤ 5
abbrev hb0 (n : Nat) (m : Nat) : Prop := 0 < n ∧ n ≤ 1000 ∧ 0 < m ∧ m ≤ 1000
abbrev hp1x (x : Int) (y : Int) : Prop := (ptE x y) = (Pl.cr x (-8 : Int) (8 : Int))
abbrev hp1y (x : Int) (y : Int) : Prop := (ptE x y) = (Pl.cr y (-8 : Int) (8 : Int))
abbrev hp5 (n : Nat) (g : Nat → Nat → Int) (x : Int) (y : Int) : Prop := vaR n g x y = rvR n g x y ∧ vaI n g x y = rvI n g x y
abbrev hs1 (n : Nat) (g : Nat → Nat → Int) (m : Nat) (h : Nat → Nat → Int) : Prop := suN n m g h = puN n m g h
abbrev hs2 (n : Nat) (g : Nat → Nat → Int) (m : Nat) (h : Nat → Nat → Int) : Prop := ∀ i, i < suN n m g h → suG n m g h i 0 = puG n m g h i 0
abbrev hz1 (n : Nat) (g : Nat → Nat → Int) (m : Nat) (h : Nat → Nat → Int) : Prop := ((suN n m g h : Nat) : Int) ≤ 9223372036854775807
abbrev hz2 (n : Nat) (g : Nat → Nat → Int) (m : Nat) (h : Nat → Nat → Int) : Prop := ((puN n m g h : Nat) : Int) ≤ 9223372036854775807
theorem lpo0_h : lpo0 := by first | rfl | decide | trivial | exact ⟨rfl, by decide⟩ | exact bne_iff_ne.2 ne12
theorem lpo1_h : lpo1 := by first | rfl | decide | trivial | exact ⟨rfl, by decide⟩ | exact bne_iff_ne.2 ne12
theorem lpo2_h : lpo2 := by first | rfl | decide | trivial | exact ⟨rfl, by decide⟩ | exact bne_iff_ne.2 ne12
theorem lpo3_h : lpo3 := by first | rfl | decide | trivial | exact ⟨rfl, by decide⟩ | exact bne_iff_ne.2 ne12
theorem lpo4_h : lpo4 := by first | rfl | decide | trivial | exact ⟨rfl, by decide⟩ | exact bne_iff_ne.2 ne12
theorem lpo5_h : lpo5 := by first | rfl | decide | trivial | exact ⟨rfl, by decide⟩ | exact bne_iff_ne.2 ne12
theorem lpo6_h : lpo6 := by first | rfl | decide | trivial | exact ⟨rfl, by decide⟩ | exact bne_iff_ne.2 ne12
theorem lpo7_h : lpo7 := by first | rfl | decide | trivial | exact ⟨rfl, by decide⟩ | exact bne_iff_ne.2 ne12
theorem lpo8_h : lpo8 := by first | rfl | decide | trivial | exact ⟨rfl, by decide⟩ | exact bne_iff_ne.2 ne12
theorem lpo9_h : lpo9 := by first | rfl | decide | trivial | exact ⟨rfl, by decide⟩ | exact bne_iff_ne.2 ne12
theorem lpo10_h : lpo10 := by first | rfl | decide | trivial | exact ⟨rfl, by decide⟩ | exact bne_iff_ne.2 ne12
theorem lpo11_h : lpo11 := by first | rfl | decide | trivial | exact ⟨rfl, by decide⟩ | exact bne_iff_ne.2 ne12
theorem lpo12_h : lpo12 := by first | rfl | decide | trivial | exact ⟨rfl, by decide⟩ | exact bne_iff_ne.2 ne12
theorem lpo13_h : lpo13 := by first | rfl | decide | trivial | exact ⟨rfl, by decide⟩ | exact bne_iff_ne.2 ne12
theorem lpo14_h : lpo14 := by first | rfl | decide | trivial | exact ⟨rfl, by decide⟩ | exact bne_iff_ne.2 ne12
theorem lpo15_h : lpo15 := by first | rfl | decide | trivial | exact ⟨rfl, by decide⟩ | exact bne_iff_ne.2 ne12
theorem lpo25_h : lpo25 := by first | rfl | decide | trivial | exact ⟨rfl, by decide⟩ | exact bne_iff_ne.2 ne12
theorem lpo26_h : lpo26 := by first | rfl | decide | trivial | exact ⟨rfl, by decide⟩ | exact bne_iff_ne.2 ne12
theorem lpo28_h : lpo28 := by first | rfl | decide | trivial | exact ⟨rfl, by decide⟩ | exact bne_iff_ne.2 ne12
theorem lpo29_h : lpo29 := by first | rfl | decide | trivial | exact ⟨rfl, by decide⟩ | exact bne_iff_ne.2 ne12
theorem lpo31_h : lpo31 := by first | rfl | decide | trivial | exact ⟨rfl, by decide⟩ | exact bne_iff_ne.2 ne12
theorem lpo33_h : lpo33 := by first | rfl | decide | trivial | exact ⟨rfl, by decide⟩ | exact bne_iff_ne.2 ne12
theorem lpo34_h : lpo34 := by first | rfl | decide | trivial | exact ⟨rfl, by decide⟩ | exact bne_iff_ne.2 ne12
theorem lpo36_h : lpo36 := by first | rfl | decide | trivial | exact ⟨rfl, by decide⟩ | exact bne_iff_ne.2 ne12
theorem lpo56_h : lpo56 := by first | rfl | decide | trivial | exact ⟨rfl, by decide⟩ | exact bne_iff_ne.2 ne12
theorem lpo57_h : lpo57 := by first | rfl | decide | trivial | exact ⟨rfl, by decide⟩ | exact bne_iff_ne.2 ne12
theorem lpo64_h : lpo64 := by first | rfl | decide | trivial | exact ⟨rfl, by decide⟩ | exact bne_iff_ne.2 ne12
theorem lpo65_h : lpo65 := by first | rfl | decide | trivial | exact ⟨rfl, by decide⟩ | exact bne_iff_ne.2 ne12
theorem lpB0 : lpA0 := ⟨⟨⟨⟨trivial, lpo0_h⟩, lpo0_h⟩, lpo0_h⟩, lpo0_h⟩
theorem lpB1 : lpA1 := ⟨⟨⟨⟨⟨⟨⟨⟨⟨⟨⟨⟨⟨⟨⟨⟨⟨⟨⟨⟨⟨⟨⟨⟨⟨⟨⟨⟨⟨⟨⟨⟨⟨⟨⟨⟨⟨⟨⟨⟨⟨⟨⟨⟨⟨⟨⟨⟨⟨⟨⟨⟨⟨⟨⟨⟨⟨⟨⟨⟨⟨⟨⟨⟨⟨⟨⟨⟨⟨⟨⟨⟨⟨⟨⟨⟨⟨⟨⟨⟨⟨⟨⟨lpB0, lpo0_h⟩, lpo1_h⟩, lpo2_h⟩, lpo1_h⟩, lpo3_h⟩, lpo4_h⟩, lpo5_h⟩, lpo2_h⟩, lpo2_h⟩, lpo1_h⟩, lpo1_h⟩, lpo4_h⟩, lpo5_h⟩, lpo2_h⟩, lpo2_h⟩, lpo1_h⟩, lpo1_h⟩, lpo4_h⟩, lpo5_h⟩, lpo2_h⟩, lpo2_h⟩, lpo6_h⟩, lpo3_h⟩, lpo3_h⟩, lpo7_h⟩, lpo5_h⟩, lpo8_h⟩, lpo5_h⟩, lpo9_h⟩, lpo9_h⟩, lpo6_h⟩, lpo6_h⟩, lpo4_h⟩, lpo5_h⟩, lpo8_h⟩, lpo5_h⟩, lpo8_h⟩, lpo6_h⟩, lpo6_h⟩, lpo4_h⟩, lpo5_h⟩, lpo8_h⟩, lpo5_h⟩, lpo8_h⟩, lpo1_h⟩, lpo10_h⟩, lpo10_h⟩, lpo10_h⟩, lpo10_h⟩, lpo11_h⟩, lpo11_h⟩, lpo11_h⟩, lpo11_h⟩, lpo10_h⟩, lpo10_h⟩, lpo10_h⟩, lpo10_h⟩, lpo12_h⟩, lpo12_h⟩, lpo12_h⟩, lpo12_h⟩, lpo10_h⟩, lpo10_h⟩, lpo10_h⟩, lpo13_h⟩, lpo14_h⟩, lpo10_h⟩, lpo15_h⟩, lpo15_h⟩, lpo15_h⟩, lpo15_h⟩, lpo10_h⟩, lpo10_h⟩, lpo10_h⟩, lpo13_h⟩, lpo14_h⟩, lpo10_h⟩, lpo15_h⟩, lpo15_h⟩, lpo15_h⟩, lpo15_h⟩, lpo10_h⟩, lpo10_h⟩
theorem lpB2 (m : Nat) (M7 : hM7 m) : lpA2 m := ⟨lpB0, (decide_eq_true M7)⟩
theorem lpB3 (m : Nat) (h : Nat → Nat → Int) (M7_ : hM7_ m) (m0 : hm0 m) : lpA3 m h := ⟨⟨⟨⟨⟨⟨⟨⟨⟨⟨⟨⟨⟨⟨⟨⟨⟨⟨⟨⟨⟨⟨⟨⟨⟨⟨⟨⟨⟨⟨⟨⟨⟨⟨⟨⟨⟨⟨⟨⟨⟨⟨⟨⟨⟨⟨⟨⟨⟨⟨⟨⟨⟨⟨⟨⟨⟨⟨⟨⟨⟨⟨⟨⟨⟨⟨⟨⟨⟨⟨⟨⟨⟨⟨⟨⟨⟨⟨⟨⟨⟨⟨⟨⟨⟨lpB0, (decide_eq_false M7_)⟩, lpo1_h⟩, lpo2_h⟩, lpo1_h⟩, lpo3_h⟩, lpo4_h⟩, lpo5_h⟩, lpo2_h⟩, lpo2_h⟩, ⟨rfl, m0, w8 M7_⟩⟩, lpo1_h⟩, ⟨rR, w9 M7_⟩⟩, lpo4_h⟩, lpo5_h⟩, lpo2_h⟩, lpo2_h⟩, ⟨rfl, m0, w8 M7_⟩⟩, lpo1_h⟩, ⟨rR, w9 M7_⟩⟩, lpo4_h⟩, lpo5_h⟩, lpo2_h⟩, lpo2_h⟩, lpo6_h⟩, lpo3_h⟩, lpo3_h⟩, lpo7_h⟩, lpo5_h⟩, lpo8_h⟩, lpo5_h⟩, lpo9_h⟩, lpo9_h⟩, lpo6_h⟩, ⟨rR, w9 M7_⟩⟩, lpo4_h⟩, lpo5_h⟩, lpo8_h⟩, lpo5_h⟩, lpo8_h⟩, lpo6_h⟩, ⟨rR, w9 M7_⟩⟩, lpo4_h⟩, lpo5_h⟩, lpo8_h⟩, lpo5_h⟩, lpo8_h⟩, lpo1_h⟩, lpo10_h⟩, lpo10_h⟩, lpo10_h⟩, lpo10_h⟩, lpo11_h⟩, lpo11_h⟩, lpo11_h⟩, lpo11_h⟩, lpo10_h⟩, lpo10_h⟩, lpo10_h⟩, lpo10_h⟩, lpo12_h⟩, lpo12_h⟩, lpo12_h⟩, lpo12_h⟩, lpo10_h⟩, lpo10_h⟩, lpo10_h⟩, lpo13_h⟩, lpo14_h⟩, lpo10_h⟩, lpo15_h⟩, lpo15_h⟩, lpo15_h⟩, lpo15_h⟩, lpo10_h⟩, lpo10_h⟩, lpo10_h⟩, lpo13_h⟩, lpo14_h⟩, lpo10_h⟩, lpo15_h⟩, lpo15_h⟩, lpo15_h⟩, lpo15_h⟩, lpo10_h⟩, lpo10_h⟩
theorem lpB4 (n : Nat) (N7 : hN7 n) : lpA4 n := ⟨⟨⟨⟨⟨trivial, (decide_eq_true N7)⟩, (decide_eq_true N7)⟩, (decide_eq_true N7)⟩, (decide_eq_true N7)⟩, lpo15_h⟩
theorem lpB5 (n : Nat) (N7_ : hN7_ n) : lpA5 n := ⟨⟨⟨⟨trivial, (decide_eq_false N7_)⟩, (decide_eq_false N7_)⟩, (decide_eq_false N7_)⟩, (decide_eq_false N7_)⟩
theorem lpB6 (n : Nat) (g : Nat → Nat → Int) (N7_ : hN7_ n) (n0 : hn0 n) : lpA6 n g := ⟨⟨⟨(lpB5 n N7_), lpo0_h⟩, ⟨rfl, n0, w8 N7_⟩⟩, ⟨rR, w9 N7_⟩⟩
theorem lpB7 (n : Nat) (g : Nat → Nat → Int) (A : hA n g) (N7_ : hN7_ n) (n0 : hn0 n) : lpA7 n g := ⟨⟨⟨⟨⟨⟨⟨⟨⟨(lpB6 n g N7_ n0), nF A⟩, ⟨rfl, n0, w8 N7_⟩⟩, ⟨rR, w9 N7_⟩⟩, lpo3_h⟩, lpo4_h⟩, lpo5_h⟩, nF A⟩, lpo25_h⟩, lpo26_h⟩
theorem lpB8 (n : Nat) (g : Nat → Nat → Int) (x : Int) (y : Int) (A : hA n g) (N7_ : hN7_ n) (P : hP x y) (X : hX x) (Y : hY y) (a1 : ha1 n) (n0 : hn0 n) (p5 : hp5 n g x y) : lpA8 n g x y := ⟨⟨⟨⟨⟨⟨⟨⟨⟨⟨⟨⟨⟨⟨⟨⟨⟨⟨⟨⟨⟨⟨⟨⟨⟨⟨⟨⟨⟨⟨⟨⟨⟨⟨⟨⟨⟨⟨⟨⟨⟨⟨⟨⟨⟨⟨⟨⟨⟨⟨⟨⟨⟨⟨⟨⟨⟨⟨⟨⟨⟨⟨⟨⟨⟨⟨⟨⟨⟨⟨⟨⟨⟨⟨⟨⟨⟨⟨⟨⟨⟨⟨⟨⟨⟨⟨⟨⟨⟨⟨⟨⟨⟨⟨⟨⟨⟨⟨⟨⟨(lpB7 n g A N7_ n0), nF P⟩, lpo28_h⟩, lpo29_h⟩, ⟨rR, a1⟩⟩, ⟨rfl, n0, w8 N7_⟩⟩, ⟨rR, w9 N7_⟩⟩, lpo1_h⟩, lpo4_h⟩, lpo5_h⟩, nF A⟩, lpo25_h⟩, lpo26_h⟩, lpo2_h⟩, lpo2_h⟩, ⟨rfl, n0, w8 N7_⟩⟩, ⟨rR, w9 N7_⟩⟩, lpo1_h⟩, lpo4_h⟩, lpo5_h⟩, nF A⟩, lpo25_h⟩, lpo26_h⟩, lpo2_h⟩, lpo2_h⟩, ⟨rR, w9 N7_⟩⟩, lpo3_h⟩, lpo3_h⟩, lpo7_h⟩, lpo5_h⟩, nF A⟩, lpo31_h⟩, lpo26_h⟩, nF X⟩, lpo33_h⟩, lpo34_h⟩, nF Y⟩, lpo36_h⟩, eT A⟩, lpo11_h⟩, ⟨rR, a1⟩⟩, ⟨rR, w9 N7_⟩⟩, lpo6_h⟩, lpo4_h⟩, lpo5_h⟩, nF A⟩, lpo25_h⟩, lpo26_h⟩, lpo8_h⟩, lpo26_h⟩, lpo8_h⟩, ⟨rR, w9 N7_⟩⟩, lpo6_h⟩, lpo4_h⟩, lpo5_h⟩, nF A⟩, lpo25_h⟩, lpo26_h⟩, lpo8_h⟩, lpo26_h⟩, lpo8_h⟩, ⟨rfl, n0, w8 N7_⟩⟩, ⟨rR, w9 N7_⟩⟩, eT rfl⟩, eT rfl⟩, eT rfl⟩, eT rfl⟩, eT rfl⟩, eT rfl⟩, eT rfl⟩, eT rfl⟩, eT A.symm⟩, eT A.symm⟩, eT A.symm⟩, eT A.symm⟩, (and_eqB p5.1 p5.2)⟩, (and_eqB p5.1 p5.2)⟩, (and_eqB p5.1 p5.2)⟩, (and_eqB p5.1 p5.2)⟩, lpo11_h⟩, lpo11_h⟩, lpo11_h⟩, lpo13_h⟩, lpo14_h⟩, lpo11_h⟩, lpo15_h⟩, lpo15_h⟩, lpo15_h⟩, lpo15_h⟩, lpo10_h⟩, lpo10_h⟩, lpo10_h⟩, lpo13_h⟩, lpo14_h⟩, lpo10_h⟩, lpo15_h⟩, lpo15_h⟩, lpo15_h⟩, lpo15_h⟩, lpo10_h⟩, lpo10_h⟩
theorem lpB9 (n : Nat) (g : Nat → Nat → Int) (x : Int) (y : Int) (A : hA n g) (N7_ : hN7_ n) (P_ : hP_ x y) (n0 : hn0 n) : lpA9 n g x y := ⟨⟨⟨⟨⟨⟨⟨⟨⟨⟨⟨⟨⟨⟨⟨⟨⟨⟨⟨⟨⟨⟨⟨⟨⟨⟨⟨⟨⟨⟨(lpB7 n g A N7_ n0), nT P_⟩, nT P_⟩, ⟨rfl, n0, w8 N7_⟩⟩, ⟨rR, w9 N7_⟩⟩, lpo1_h⟩, lpo4_h⟩, lpo5_h⟩, nF A⟩, lpo25_h⟩, lpo26_h⟩, lpo2_h⟩, lpo2_h⟩, ⟨rfl, n0, w8 N7_⟩⟩, ⟨rR, w9 N7_⟩⟩, lpo1_h⟩, lpo4_h⟩, lpo5_h⟩, nF A⟩, lpo25_h⟩, lpo26_h⟩, lpo2_h⟩, lpo2_h⟩, ⟨rR, w9 N7_⟩⟩, lpo3_h⟩, lpo3_h⟩, lpo7_h⟩, lpo5_h⟩, nF A⟩, lpo31_h⟩, lpo26_h⟩
theorem lpB10 (n : Nat) (g : Nat → Nat → Int) (x : Int) (y : Int) (A : hA n g) (N7_ : hN7_ n) (P_ : hP_ x y) (X : hX x) (Y_ : hY_ y) (n0 : hn0 n) (p1y : hp1y x y) : lpA10 n g x y := ⟨⟨⟨⟨⟨⟨⟨⟨⟨⟨⟨⟨⟨⟨⟨⟨⟨⟨⟨⟨⟨⟨⟨⟨⟨⟨⟨⟨⟨⟨⟨⟨⟨⟨⟨⟨⟨⟨⟨⟨⟨⟨⟨⟨⟨⟨⟨⟨⟨⟨⟨⟨⟨⟨⟨⟨⟨⟨⟨⟨⟨⟨⟨⟨⟨⟨⟨(lpB9 n g x y A N7_ P_ n0), nF X⟩, lpo33_h⟩, lpo34_h⟩, nT Y_⟩, lpo34_h⟩, eT A⟩, eF Y_⟩, ⟨rR, w9 N7_⟩⟩, lpo6_h⟩, lpo4_h⟩, lpo5_h⟩, nF A⟩, lpo25_h⟩, lpo26_h⟩, lpo8_h⟩, lpo26_h⟩, lpo8_h⟩, ⟨rR, w9 N7_⟩⟩, lpo6_h⟩, lpo4_h⟩, lpo5_h⟩, nF A⟩, lpo25_h⟩, lpo26_h⟩, lpo8_h⟩, lpo26_h⟩, lpo8_h⟩, ⟨rfl, n0, w8 N7_⟩⟩, ⟨rR, w9 N7_⟩⟩, eT rfl⟩, eT rfl⟩, eT rfl⟩, eT rfl⟩, eT rfl⟩, eT rfl⟩, eT rfl⟩, eT rfl⟩, eT A.symm⟩, eT A.symm⟩, eT A.symm⟩, eT A.symm⟩, lpo12_h⟩, lpo12_h⟩, lpo12_h⟩, lpo12_h⟩, eT p1y⟩, eT p1y⟩, eT p1y⟩, lpo13_h⟩, lpo14_h⟩, eT p1y⟩, lpo15_h⟩, lpo15_h⟩, lpo15_h⟩, lpo15_h⟩, lpo10_h⟩, lpo10_h⟩, lpo10_h⟩, lpo13_h⟩, lpo14_h⟩, lpo10_h⟩, lpo15_h⟩, lpo15_h⟩, lpo15_h⟩, lpo15_h⟩, lpo10_h⟩, lpo10_h⟩
theorem lpB11 (n : Nat) (g : Nat → Nat → Int) (x : Int) (y : Int) (A : hA n g) (N7_ : hN7_ n) (P_ : hP_ x y) (X_ : hX_ x) (n0 : hn0 n) (p1x : hp1x x y) : lpA11 n g x y := ⟨⟨⟨⟨⟨⟨⟨⟨⟨⟨⟨⟨⟨⟨⟨⟨⟨⟨⟨⟨⟨⟨⟨⟨⟨⟨⟨⟨⟨⟨⟨⟨⟨⟨⟨⟨⟨⟨⟨⟨⟨⟨⟨⟨⟨⟨⟨⟨⟨⟨⟨⟨⟨⟨⟨⟨⟨⟨⟨⟨⟨⟨⟨⟨(lpB9 n g x y A N7_ P_ n0), nT X_⟩, lpo26_h⟩, eT A⟩, eF X_⟩, ⟨rR, w9 N7_⟩⟩, lpo6_h⟩, lpo4_h⟩, lpo5_h⟩, nF A⟩, lpo25_h⟩, lpo26_h⟩, lpo8_h⟩, lpo26_h⟩, lpo8_h⟩, ⟨rR, w9 N7_⟩⟩, lpo6_h⟩, lpo4_h⟩, lpo5_h⟩, nF A⟩, lpo25_h⟩, lpo26_h⟩, lpo8_h⟩, lpo26_h⟩, lpo8_h⟩, ⟨rfl, n0, w8 N7_⟩⟩, ⟨rR, w9 N7_⟩⟩, eT rfl⟩, eT rfl⟩, eT rfl⟩, eT rfl⟩, eT rfl⟩, eT rfl⟩, eT rfl⟩, eT rfl⟩, eT A.symm⟩, eT A.symm⟩, eT A.symm⟩, eT A.symm⟩, lpo12_h⟩, lpo12_h⟩, lpo12_h⟩, lpo12_h⟩, eT p1x⟩, eT p1x⟩, eT p1x⟩, lpo13_h⟩, lpo14_h⟩, eT p1x⟩, lpo15_h⟩, lpo15_h⟩, lpo15_h⟩, lpo15_h⟩, lpo10_h⟩, lpo10_h⟩, lpo10_h⟩, lpo13_h⟩, lpo14_h⟩, lpo10_h⟩, lpo15_h⟩, lpo15_h⟩, lpo15_h⟩, lpo15_h⟩, lpo10_h⟩, lpo10_h⟩
theorem lpB12 (n : Nat) (g : Nat → Nat → Int) (A_ : hA_ n g) (N7_ : hN7_ n) (n0 : hn0 n) : lpA12 n g := ⟨⟨⟨⟨⟨⟨⟨⟨⟨⟨⟨⟨⟨⟨⟨⟨⟨⟨⟨⟨⟨⟨⟨⟨⟨⟨⟨⟨⟨⟨⟨⟨⟨⟨⟨⟨⟨⟨⟨⟨⟨⟨⟨⟨⟨⟨⟨⟨⟨⟨⟨⟨⟨⟨⟨⟨⟨⟨⟨⟨⟨⟨⟨⟨⟨⟨⟨⟨⟨⟨⟨⟨⟨⟨⟨⟨⟨⟨⟨⟨⟨⟨⟨⟨⟨(lpB6 n g N7_ n0), nT A_⟩, ⟨rfl, n0, w8 N7_⟩⟩, ⟨rR, w9 N7_⟩⟩, lpo3_h⟩, lpo4_h⟩, lpo5_h⟩, nT A_⟩, nT A_⟩, ⟨rfl, n0, w8 N7_⟩⟩, ⟨rR, w9 N7_⟩⟩, lpo1_h⟩, lpo4_h⟩, lpo5_h⟩, nT A_⟩, nT A_⟩, ⟨rfl, n0, w8 N7_⟩⟩, ⟨rR, w9 N7_⟩⟩, lpo1_h⟩, lpo4_h⟩, lpo5_h⟩, nT A_⟩, nT A_⟩, ⟨rR, w9 N7_⟩⟩, lpo3_h⟩, lpo3_h⟩, lpo7_h⟩, lpo5_h⟩, nT A_⟩, lpo5_h⟩, eF A_⟩, eF A_⟩, ⟨rR, w9 N7_⟩⟩, lpo6_h⟩, lpo4_h⟩, lpo5_h⟩, nT A_⟩, lpo5_h⟩, nT A_⟩, ⟨rR, w9 N7_⟩⟩, lpo6_h⟩, lpo4_h⟩, lpo5_h⟩, nT A_⟩, lpo5_h⟩, nT A_⟩, ⟨rfl, n0, w8 N7_⟩⟩, ⟨rR, w9 N7_⟩⟩, eT rfl⟩, eT rfl⟩, eT rfl⟩, eT rfl⟩, lpo11_h⟩, lpo11_h⟩, lpo11_h⟩, lpo11_h⟩, eT rfl⟩, eT rfl⟩, eT rfl⟩, eT rfl⟩, lpo12_h⟩, lpo12_h⟩, lpo12_h⟩, lpo12_h⟩, eT rfl⟩, eT rfl⟩, eT rfl⟩, lpo13_h⟩, lpo14_h⟩, eT rfl⟩, lpo15_h⟩, lpo15_h⟩, lpo15_h⟩, lpo15_h⟩, eT rfl⟩, eT rfl⟩, eT rfl⟩, lpo13_h⟩, lpo14_h⟩, eT rfl⟩, lpo15_h⟩, lpo15_h⟩, lpo15_h⟩, lpo15_h⟩, eT rfl⟩, eT rfl⟩
theorem lpB13 (n : Nat) (m : Nat) (M7 : hM7 m) (N7_ : hN7_ n) : lpA13 n m := ⟨(lpB5 n N7_), (decide_eq_true M7)⟩
theorem lpB14 (n : Nat) (g : Nat → Nat → Int) (m : Nat) (M7_ : hM7_ m) (N7_ : hN7_ n) (n0 : hn0 n) : lpA14 n g m := ⟨⟨⟨(lpB5 n N7_), (decide_eq_false M7_)⟩, ⟨rfl, n0, w8 N7_⟩⟩, ⟨rR, w9 N7_⟩⟩
theorem lpB15 (n : Nat) (g : Nat → Nat → Int) (m : Nat) (A : hA n g) (M7_ : hM7_ m) (N7_ : hN7_ n) (n0 : hn0 n) : lpA15 n g m := ⟨⟨⟨⟨⟨⟨⟨⟨⟨(lpB14 n g m M7_ N7_ n0), nF A⟩, ⟨rfl, n0, w8 N7_⟩⟩, ⟨rR, w9 N7_⟩⟩, lpo3_h⟩, lpo4_h⟩, lpo5_h⟩, nF A⟩, lpo25_h⟩, lpo26_h⟩
theorem lpB16 (n : Nat) (g : Nat → Nat → Int) (m : Nat) (h : Nat → Nat → Int) (x : Int) (y : Int) (A : hA n g) (M7_ : hM7_ m) (N7_ : hN7_ n) (P : hP x y) (a1 : ha1 n) (m0 : hm0 m) (n0 : hn0 n) : lpA16 n g m h x y := ⟨⟨⟨⟨⟨⟨⟨⟨⟨⟨⟨⟨⟨(lpB15 n g m A M7_ N7_ n0), nF P⟩, lpo28_h⟩, lpo29_h⟩, ⟨rR, a1⟩⟩, ⟨rfl, n0, w8 N7_⟩⟩, ⟨rfl, m0, w8 M7_⟩⟩, ⟨rR, w9 N7_⟩⟩, ⟨rR, w9 M7_⟩⟩, lpo4_h⟩, lpo5_h⟩, nF A⟩, lpo25_h⟩, lpo26_h⟩
theorem lpB17 (n : Nat) (g : Nat → Nat → Int) (m : Nat) (h : Nat → Nat → Int) (x : Int) (y : Int) (A : hA n g) (B : hB m h) (M7_ : hM7_ m) (N7_ : hN7_ n) (P : hP x y) (a1 : ha1 n) (b0 : hb0 n m) (m0 : hm0 m) (n0 : hn0 n) : lpA17 n g m h x y := ⟨⟨⟨⟨(lpB16 n g m h x y A M7_ N7_ P a1 m0 n0), nF B⟩, lpo28_h⟩, lpo29_h⟩, ⟨rR, rR, b0⟩⟩
theorem lpB18 (n : Nat) (g : Nat → Nat → Int) (m : Nat) (h : Nat → Nat → Int) (x : Int) (y : Int) (A : hA n g) (B : hB m h) (M7_ : hM7_ m) (N7_ : hN7_ n) (P : hP x y) (S : hS n g m h) (a1 : ha1 n) (b0 : hb0 n m) (m0 : hm0 m) (n0 : hn0 n) : lpA18 n g m h x y := ⟨⟨⟨⟨⟨⟨⟨⟨⟨⟨⟨⟨⟨⟨(lpB17 n g m h x y A B M7_ N7_ P a1 b0 m0 n0), eT S⟩, ⟨rfl, n0, w8 N7_⟩⟩, ⟨rfl, m0, w8 M7_⟩⟩, ⟨rR, w9 N7_⟩⟩, ⟨rR, w9 M7_⟩⟩, lpo4_h⟩, lpo5_h⟩, nF A⟩, lpo25_h⟩, lpo26_h⟩, nF B⟩, lpo28_h⟩, lpo29_h⟩, ⟨rR, rR, b0⟩⟩
theorem lpB19 (n : Nat) (g : Nat → Nat → Int) (m : Nat) (h : Nat → Nat → Int) (x : Int) (y : Int) (A : hA n g) (B : hB m h) (M7_ : hM7_ m) (N7_ : hN7_ n) (P : hP x y) (Q : hQ n m) (S : hS n g m h) (T : hT n g m h) (X : hX x) (Y : hY y) (a1 : ha1 n) (b0 : hb0 n m) (m0 : hm0 m) (n0 : hn0 n) (p5 : hp5 n g x y) : lpA19 n g m h x y := ⟨⟨⟨⟨⟨⟨⟨⟨⟨⟨⟨⟨⟨⟨⟨⟨⟨⟨⟨⟨⟨⟨⟨⟨⟨⟨⟨⟨⟨⟨⟨⟨⟨⟨⟨⟨⟨⟨⟨⟨⟨⟨⟨⟨⟨⟨⟨⟨⟨⟨⟨⟨⟨⟨⟨⟨⟨⟨⟨⟨⟨⟨⟨⟨⟨⟨⟨⟨⟨⟨⟨⟨⟨⟨⟨⟨⟨⟨⟨⟨⟨(lpB18 n g m h x y A B M7_ N7_ P S a1 b0 m0 n0), (decide_eq_true Q)⟩, ⟨rR, w9 N7_⟩⟩, lpo3_h⟩, lpo3_h⟩, lpo7_h⟩, lpo5_h⟩, nF A⟩, lpo31_h⟩, lpo26_h⟩, nF X⟩, lpo33_h⟩, lpo34_h⟩, nF Y⟩, lpo36_h⟩, eT A⟩, lpo11_h⟩, ⟨rR, a1⟩⟩, ⟨rR, w9 N7_⟩⟩, ⟨rR, w9 M7_⟩⟩, lpo4_h⟩, lpo5_h⟩, nF A⟩, lpo25_h⟩, lpo26_h⟩, nF B⟩, lpo28_h⟩, lpo29_h⟩, ⟨rR, rR, b0⟩⟩, eT T⟩, ⟨rR, w9 N7_⟩⟩, ⟨rR, w9 M7_⟩⟩, lpo4_h⟩, lpo5_h⟩, nF A⟩, lpo25_h⟩, lpo26_h⟩, nF B⟩, lpo28_h⟩, lpo29_h⟩, ⟨rR, rR, b0⟩⟩, (decide_eq_true Q)⟩, ⟨rfl, n0, w8 N7_⟩⟩, ⟨rR, w9 N7_⟩⟩, eT rfl⟩, eT rfl⟩, eT rfl⟩, eT rfl⟩, eT rfl⟩, eT rfl⟩, eT rfl⟩, eT rfl⟩, eT A.symm⟩, eT A.symm⟩, eT A.symm⟩, eT A.symm⟩, (and_eqB p5.1 p5.2)⟩, (and_eqB p5.1 p5.2)⟩, (and_eqB p5.1 p5.2)⟩, (and_eqB p5.1 p5.2)⟩, lpo11_h⟩, lpo11_h⟩, lpo11_h⟩, lpo13_h⟩, lpo14_h⟩, lpo11_h⟩, lpo15_h⟩, lpo15_h⟩, lpo15_h⟩, lpo15_h⟩, lpo56_h⟩, lpo56_h⟩, lpo56_h⟩, lpo13_h⟩, lpo14_h⟩, lpo56_h⟩, lpo15_h⟩, lpo15_h⟩, lpo15_h⟩, lpo15_h⟩, lpo57_h⟩, lpo57_h⟩
theorem lpB20 (n : Nat) (g : Nat → Nat → Int) (m : Nat) (h : Nat → Nat → Int) (x : Int) (y : Int) (A : hA n g) (B : hB m h) (M7_ : hM7_ m) (N7_ : hN7_ n) (P : hP x y) (Q_ : hQ_ n m) (S : hS n g m h) (a1 : ha1 n) (b0 : hb0 n m) (m0 : hm0 m) (n0 : hn0 n) : lpA20 n g m h x y := ⟨⟨(lpB18 n g m h x y A B M7_ N7_ P S a1 b0 m0 n0), (decide_eq_false Q_)⟩, ⟨rR, wq b0⟩⟩
theorem lpB21 (n : Nat) (g : Nat → Nat → Int) (m : Nat) (h : Nat → Nat → Int) (x : Int) (y : Int) (A : hA n g) (B : hB m h) (M7_ : hM7_ m) (N7_ : hN7_ n) (P : hP x y) (Q_ : hQ_ n m) (S : hS n g m h) (T : hT n g m h) (U : hU n g m h) (X : hX x) (Y : hY y) (a1 : ha1 n) (b0 : hb0 n m) (m0 : hm0 m) (n0 : hn0 n) (p5 : hp5 n g x y) : lpA21 n g m h x y := ⟨⟨⟨⟨⟨⟨⟨⟨⟨⟨⟨⟨⟨⟨⟨⟨⟨⟨⟨⟨⟨⟨⟨⟨⟨⟨⟨⟨⟨⟨⟨⟨⟨⟨⟨⟨⟨⟨⟨⟨⟨⟨⟨⟨⟨⟨⟨⟨⟨⟨⟨⟨⟨⟨⟨⟨⟨⟨⟨⟨⟨⟨⟨⟨⟨⟨⟨⟨⟨⟨⟨⟨⟨⟨⟨⟨⟨⟨⟨⟨⟨⟨⟨(lpB20 n g m h x y A B M7_ N7_ P Q_ S a1 b0 m0 n0), nF U⟩, ⟨rR, w9 N7_⟩⟩, lpo3_h⟩, lpo3_h⟩, lpo7_h⟩, lpo5_h⟩, nF A⟩, lpo31_h⟩, lpo26_h⟩, nF X⟩, lpo33_h⟩, lpo34_h⟩, nF Y⟩, lpo36_h⟩, eT A⟩, lpo11_h⟩, ⟨rR, a1⟩⟩, ⟨rR, w9 N7_⟩⟩, ⟨rR, w9 M7_⟩⟩, lpo4_h⟩, lpo5_h⟩, nF A⟩, lpo25_h⟩, lpo26_h⟩, nF B⟩, lpo28_h⟩, lpo29_h⟩, ⟨rR, rR, b0⟩⟩, eT T⟩, ⟨rR, w9 N7_⟩⟩, ⟨rR, w9 M7_⟩⟩, lpo4_h⟩, lpo5_h⟩, nF A⟩, lpo25_h⟩, lpo26_h⟩, nF B⟩, lpo28_h⟩, lpo29_h⟩, ⟨rR, rR, b0⟩⟩, (decide_eq_false Q_)⟩, ⟨rR, wq b0⟩⟩, nF U⟩, lpo29_h⟩, ⟨rfl, n0, w8 N7_⟩⟩, ⟨rR, w9 N7_⟩⟩, eT rfl⟩, eT rfl⟩, eT rfl⟩, eT rfl⟩, eT rfl⟩, eT rfl⟩, eT rfl⟩, eT rfl⟩, eT A.symm⟩, eT A.symm⟩, eT A.symm⟩, eT A.symm⟩, (and_eqB p5.1 p5.2)⟩, (and_eqB p5.1 p5.2)⟩, (and_eqB p5.1 p5.2)⟩, (and_eqB p5.1 p5.2)⟩, lpo11_h⟩, lpo11_h⟩, lpo11_h⟩, lpo13_h⟩, lpo14_h⟩, lpo11_h⟩, lpo15_h⟩, lpo15_h⟩, lpo15_h⟩, lpo15_h⟩, lpo56_h⟩, lpo56_h⟩, lpo56_h⟩, ⟨rR, rR, wq b0⟩⟩, lpo56_h⟩, (decide_eq_true ⟨rfl, fun _ _ => rfl⟩)⟩, (decide_eq_true ⟨rfl, fun _ _ => rfl⟩)⟩, (decide_eq_true ⟨rfl, fun _ _ => rfl⟩)⟩, (decide_eq_true ⟨rfl, fun _ _ => rfl⟩)⟩, lpo11_h⟩, lpo11_h⟩
theorem lpB22 (n : Nat) (g : Nat → Nat → Int) (m : Nat) (h : Nat → Nat → Int) (x : Int) (y : Int) (A : hA n g) (B : hB m h) (M7_ : hM7_ m) (N7_ : hN7_ n) (P : hP x y) (Q_ : hQ_ n m) (S : hS n g m h) (T : hT n g m h) (U_ : hU_ n g m h) (X : hX x) (Y : hY y) (a1 : ha1 n) (b0 : hb0 n m) (m0 : hm0 m) (n0 : hn0 n) (p5 : hp5 n g x y) : lpA22 n g m h x y := ⟨⟨⟨⟨⟨⟨⟨⟨⟨⟨⟨⟨⟨⟨⟨⟨⟨⟨⟨⟨⟨⟨⟨⟨⟨⟨⟨⟨⟨⟨⟨⟨⟨⟨⟨⟨⟨⟨⟨⟨⟨⟨⟨⟨⟨⟨⟨⟨⟨⟨⟨⟨⟨⟨⟨⟨⟨⟨⟨⟨⟨⟨⟨⟨⟨⟨⟨⟨⟨⟨⟨⟨⟨⟨⟨⟨⟨⟨⟨⟨⟨⟨⟨⟨(lpB20 n g m h x y A B M7_ N7_ P Q_ S a1 b0 m0 n0), nT U_⟩, ⟨rR, w9 N7_⟩⟩, lpo3_h⟩, lpo3_h⟩, lpo7_h⟩, lpo5_h⟩, nF A⟩, lpo31_h⟩, lpo26_h⟩, nF X⟩, lpo33_h⟩, lpo34_h⟩, nF Y⟩, lpo36_h⟩, eT A⟩, lpo11_h⟩, ⟨rR, a1⟩⟩, ⟨rR, w9 N7_⟩⟩, ⟨rR, w9 M7_⟩⟩, lpo4_h⟩, lpo5_h⟩, nF A⟩, lpo25_h⟩, lpo26_h⟩, nF B⟩, lpo28_h⟩, lpo29_h⟩, ⟨rR, rR, b0⟩⟩, eT T⟩, ⟨rR, w9 N7_⟩⟩, ⟨rR, w9 M7_⟩⟩, lpo4_h⟩, lpo5_h⟩, nF A⟩, lpo25_h⟩, lpo26_h⟩, nF B⟩, lpo28_h⟩, lpo29_h⟩, ⟨rR, rR, b0⟩⟩, (decide_eq_false Q_)⟩, ⟨rR, wq b0⟩⟩, nT U_⟩, lpo64_h⟩, ⟨rfl, n0, w8 N7_⟩⟩, ⟨rR, w9 N7_⟩⟩, eT rfl⟩, eT rfl⟩, eT rfl⟩, eT rfl⟩, eT rfl⟩, eT rfl⟩, eT rfl⟩, eT rfl⟩, eT A.symm⟩, eT A.symm⟩, eT A.symm⟩, eT A.symm⟩, (and_eqB p5.1 p5.2)⟩, (and_eqB p5.1 p5.2)⟩, (and_eqB p5.1 p5.2)⟩, (and_eqB p5.1 p5.2)⟩, lpo11_h⟩, lpo11_h⟩, lpo11_h⟩, lpo13_h⟩, lpo14_h⟩, lpo11_h⟩, lpo15_h⟩, lpo15_h⟩, lpo15_h⟩, lpo15_h⟩, lpo56_h⟩, lpo56_h⟩, lpo56_h⟩, lpo13_h⟩, lpo14_h⟩, lpo56_h⟩, lpo15_h⟩, lpo15_h⟩, lpo15_h⟩, lpo15_h⟩, lpo65_h⟩, lpo65_h⟩
theorem lpB23 (n : Nat) (g : Nat → Nat → Int) (m : Nat) (h : Nat → Nat → Int) (x : Int) (y : Int) (A : hA n g) (B : hB m h) (M7_ : hM7_ m) (N7_ : hN7_ n) (P : hP x y) (S_ : hS_ n g m h) (a1 : ha1 n) (b0 : hb0 n m) (m0 : hm0 m) (n0 : hn0 n) (z1 : hz1 n g m h) : lpA23 n g m h x y := ⟨⟨(lpB17 n g m h x y A B M7_ N7_ P a1 b0 m0 n0), eF S_⟩, ⟨rR, z1⟩⟩
theorem lpB24 (n : Nat) (g : Nat → Nat → Int) (m : Nat) (h : Nat → Nat → Int) (x : Int) (y : Int) (A : hA n g) (B : hB m h) (L : hL n g m h) (M7_ : hM7_ m) (N7_ : hN7_ n) (P : hP x y) (S_ : hS_ n g m h) (a1 : ha1 n) (b0 : hb0 n m) (m0 : hm0 m) (n0 : hn0 n) (z1 : hz1 n g m h) : lpA24 n g m h x y := ⟨⟨⟨⟨⟨⟨⟨⟨⟨⟨⟨⟨⟨⟨(lpB23 n g m h x y A B M7_ N7_ P S_ a1 b0 m0 n0 z1), nF L⟩, ⟨rfl, n0, w8 N7_⟩⟩, ⟨rfl, m0, w8 M7_⟩⟩, ⟨rR, w9 N7_⟩⟩, ⟨rR, w9 M7_⟩⟩, lpo4_h⟩, lpo5_h⟩, nF A⟩, lpo25_h⟩, lpo26_h⟩, nF B⟩, lpo28_h⟩, lpo29_h⟩, ⟨rR, rR, b0⟩⟩
theorem lpB25 (n : Nat) (g : Nat → Nat → Int) (m : Nat) (h : Nat → Nat → Int) (x : Int) (y : Int) (A : hA n g) (B : hB m h) (K : hK n g m h) (L : hL n g m h) (M7_ : hM7_ m) (N7_ : hN7_ n) (P : hP x y) (Q : hQ n m) (S_ : hS_ n g m h) (T_ : hT_ n g m h) (X : hX x) (Y : hY y) (a1 : ha1 n) (b0 : hb0 n m) (m0 : hm0 m) (n0 : hn0 n) (p5 : hp5 n g x y) (s1 : hs1 n g m h) (s2 : hs2 n g m h) (z1 : hz1 n g m h) (z2 : hz2 n g m h) : lpA25 n g m h x y := ⟨⟨⟨⟨⟨⟨⟨⟨⟨⟨⟨⟨⟨⟨⟨⟨⟨⟨⟨⟨⟨⟨⟨⟨⟨⟨⟨⟨⟨⟨⟨⟨⟨⟨⟨⟨⟨⟨⟨⟨⟨⟨⟨⟨⟨⟨⟨⟨⟨⟨⟨⟨⟨⟨⟨⟨⟨⟨⟨⟨⟨⟨⟨⟨⟨⟨⟨⟨⟨⟨⟨⟨⟨⟨⟨⟨⟨⟨⟨⟨⟨⟨⟨(lpB24 n g m h x y A B L M7_ N7_ P S_ a1 b0 m0 n0 z1), (decide_eq_true Q)⟩, ⟨rR, w9 N7_⟩⟩, lpo3_h⟩, lpo3_h⟩, lpo7_h⟩, lpo5_h⟩, nF A⟩, lpo31_h⟩, lpo26_h⟩, nF X⟩, lpo33_h⟩, lpo34_h⟩, nF Y⟩, lpo36_h⟩, eT A⟩, lpo11_h⟩, ⟨rR, a1⟩⟩, ⟨rR, w9 N7_⟩⟩, ⟨rR, w9 M7_⟩⟩, lpo4_h⟩, lpo5_h⟩, nF A⟩, lpo25_h⟩, lpo26_h⟩, nF B⟩, lpo28_h⟩, lpo29_h⟩, ⟨rR, rR, b0⟩⟩, eF T_⟩, ⟨rR, z2⟩⟩, nF K⟩, lpo29_h⟩, ⟨rR, w9 N7_⟩⟩, ⟨rR, w9 M7_⟩⟩, lpo4_h⟩, lpo5_h⟩, nF A⟩, lpo25_h⟩, lpo26_h⟩, nF B⟩, lpo28_h⟩, lpo29_h⟩, ⟨rR, rR, b0⟩⟩, (decide_eq_true Q)⟩, ⟨rfl, n0, w8 N7_⟩⟩, ⟨rR, w9 N7_⟩⟩, eT rfl⟩, eT rfl⟩, eT rfl⟩, eT rfl⟩, eT rfl⟩, eT rfl⟩, eT rfl⟩, eT rfl⟩, eT A.symm⟩, eT A.symm⟩, eT A.symm⟩, eT A.symm⟩, (and_eqB p5.1 p5.2)⟩, (and_eqB p5.1 p5.2)⟩, (and_eqB p5.1 p5.2)⟩, (and_eqB p5.1 p5.2)⟩, lpo11_h⟩, lpo11_h⟩, lpo11_h⟩, ⟨rR, rR, z1⟩⟩, lpo11_h⟩, (decide_eq_true ⟨s1, s2⟩)⟩, (decide_eq_true ⟨s1, s2⟩)⟩, (decide_eq_true ⟨s1, s2⟩)⟩, (decide_eq_true ⟨s1, s2⟩)⟩, lpo11_h⟩, lpo11_h⟩, lpo11_h⟩, lpo13_h⟩, lpo14_h⟩, lpo11_h⟩, lpo15_h⟩, lpo15_h⟩, lpo15_h⟩, lpo15_h⟩, lpo57_h⟩, lpo57_h⟩
theorem lpB26 (n : Nat) (g : Nat → Nat → Int) (m : Nat) (h : Nat → Nat → Int) (x : Int) (y : Int) (A : hA n g) (B : hB m h) (L : hL n g m h) (M7_ : hM7_ m) (N7_ : hN7_ n) (P : hP x y) (Q_ : hQ_ n m) (S_ : hS_ n g m h) (a1 : ha1 n) (b0 : hb0 n m) (m0 : hm0 m) (n0 : hn0 n) (z1 : hz1 n g m h) : lpA26 n g m h x y := ⟨⟨(lpB24 n g m h x y A B L M7_ N7_ P S_ a1 b0 m0 n0 z1), (decide_eq_false Q_)⟩, ⟨rR, wq b0⟩⟩
theorem lpB27 (n : Nat) (g : Nat → Nat → Int) (m : Nat) (h : Nat → Nat → Int) (x : Int) (y : Int) (A : hA n g) (B : hB m h) (K : hK n g m h) (L : hL n g m h) (M7_ : hM7_ m) (N7_ : hN7_ n) (P : hP x y) (Q_ : hQ_ n m) (S_ : hS_ n g m h) (T_ : hT_ n g m h) (U : hU n g m h) (X : hX x) (Y : hY y) (a1 : ha1 n) (b0 : hb0 n m) (m0 : hm0 m) (n0 : hn0 n) (p5 : hp5 n g x y) (s1 : hs1 n g m h) (s2 : hs2 n g m h) (z1 : hz1 n g m h) (z2 : hz2 n g m h) : lpA27 n g m h x y := ⟨⟨⟨⟨⟨⟨⟨⟨⟨⟨⟨⟨⟨⟨⟨⟨⟨⟨⟨⟨⟨⟨⟨⟨⟨⟨⟨⟨⟨⟨⟨⟨⟨⟨⟨⟨⟨⟨⟨⟨⟨⟨⟨⟨⟨⟨⟨⟨⟨⟨⟨⟨⟨⟨⟨⟨⟨⟨⟨⟨⟨⟨⟨⟨⟨⟨⟨⟨⟨⟨⟨⟨⟨⟨⟨⟨⟨⟨⟨⟨⟨⟨⟨⟨⟨(lpB26 n g m h x y A B L M7_ N7_ P Q_ S_ a1 b0 m0 n0 z1), nF U⟩, ⟨rR, w9 N7_⟩⟩, lpo3_h⟩, lpo3_h⟩, lpo7_h⟩, lpo5_h⟩, nF A⟩, lpo31_h⟩, lpo26_h⟩, nF X⟩, lpo33_h⟩, lpo34_h⟩, nF Y⟩, lpo36_h⟩, eT A⟩, lpo11_h⟩, ⟨rR, a1⟩⟩, ⟨rR, w9 N7_⟩⟩, ⟨rR, w9 M7_⟩⟩, lpo4_h⟩, lpo5_h⟩, nF A⟩, lpo25_h⟩, lpo26_h⟩, nF B⟩, lpo28_h⟩, lpo29_h⟩, ⟨rR, rR, b0⟩⟩, eF T_⟩, ⟨rR, z2⟩⟩, nF K⟩, lpo29_h⟩, ⟨rR, w9 N7_⟩⟩, ⟨rR, w9 M7_⟩⟩, lpo4_h⟩, lpo5_h⟩, nF A⟩, lpo25_h⟩, lpo26_h⟩, nF B⟩, lpo28_h⟩, lpo29_h⟩, ⟨rR, rR, b0⟩⟩, (decide_eq_false Q_)⟩, ⟨rR, wq b0⟩⟩, nF U⟩, lpo29_h⟩, ⟨rfl, n0, w8 N7_⟩⟩, ⟨rR, w9 N7_⟩⟩, eT rfl⟩, eT rfl⟩, eT rfl⟩, eT rfl⟩, eT rfl⟩, eT rfl⟩, eT rfl⟩, eT rfl⟩, eT A.symm⟩, eT A.symm⟩, eT A.symm⟩, eT A.symm⟩, (and_eqB p5.1 p5.2)⟩, (and_eqB p5.1 p5.2)⟩, (and_eqB p5.1 p5.2)⟩, (and_eqB p5.1 p5.2)⟩, lpo11_h⟩, lpo11_h⟩, lpo11_h⟩, ⟨rR, rR, z1⟩⟩, lpo11_h⟩, (decide_eq_true ⟨s1, s2⟩)⟩, (decide_eq_true ⟨s1, s2⟩)⟩, (decide_eq_true ⟨s1, s2⟩)⟩, (decide_eq_true ⟨s1, s2⟩)⟩, lpo11_h⟩, lpo11_h⟩, lpo11_h⟩, ⟨rR, rR, wq b0⟩⟩, lpo11_h⟩, (decide_eq_true ⟨rfl, fun _ _ => rfl⟩)⟩, (decide_eq_true ⟨rfl, fun _ _ => rfl⟩)⟩, (decide_eq_true ⟨rfl, fun _ _ => rfl⟩)⟩, (decide_eq_true ⟨rfl, fun _ _ => rfl⟩)⟩, lpo11_h⟩, lpo11_h⟩
theorem lpB28 (n : Nat) (g : Nat → Nat → Int) (m : Nat) (h : Nat → Nat → Int) (x : Int) (y : Int) (A : hA n g) (B : hB m h) (K : hK n g m h) (L : hL n g m h) (M7_ : hM7_ m) (N7_ : hN7_ n) (P : hP x y) (Q_ : hQ_ n m) (S_ : hS_ n g m h) (T_ : hT_ n g m h) (U_ : hU_ n g m h) (X : hX x) (Y : hY y) (a1 : ha1 n) (b0 : hb0 n m) (m0 : hm0 m) (n0 : hn0 n) (p5 : hp5 n g x y) (s1 : hs1 n g m h) (s2 : hs2 n g m h) (z1 : hz1 n g m h) (z2 : hz2 n g m h) : lpA28 n g m h x y := ⟨⟨⟨⟨⟨⟨⟨⟨⟨⟨⟨⟨⟨⟨⟨⟨⟨⟨⟨⟨⟨⟨⟨⟨⟨⟨⟨⟨⟨⟨⟨⟨⟨⟨⟨⟨⟨⟨⟨⟨⟨⟨⟨⟨⟨⟨⟨⟨⟨⟨⟨⟨⟨⟨⟨⟨⟨⟨⟨⟨⟨⟨⟨⟨⟨⟨⟨⟨⟨⟨⟨⟨⟨⟨⟨⟨⟨⟨⟨⟨⟨⟨⟨⟨⟨⟨(lpB26 n g m h x y A B L M7_ N7_ P Q_ S_ a1 b0 m0 n0 z1), nT U_⟩, ⟨rR, w9 N7_⟩⟩, lpo3_h⟩, lpo3_h⟩, lpo7_h⟩, lpo5_h⟩, nF A⟩, lpo31_h⟩, lpo26_h⟩, nF X⟩, lpo33_h⟩, lpo34_h⟩, nF Y⟩, lpo36_h⟩, eT A⟩, lpo11_h⟩, ⟨rR, a1⟩⟩, ⟨rR, w9 N7_⟩⟩, ⟨rR, w9 M7_⟩⟩, lpo4_h⟩, lpo5_h⟩, nF A⟩, lpo25_h⟩, lpo26_h⟩, nF B⟩, lpo28_h⟩, lpo29_h⟩, ⟨rR, rR, b0⟩⟩, eF T_⟩, ⟨rR, z2⟩⟩, nF K⟩, lpo29_h⟩, ⟨rR, w9 N7_⟩⟩, ⟨rR, w9 M7_⟩⟩, lpo4_h⟩, lpo5_h⟩, nF A⟩, lpo25_h⟩, lpo26_h⟩, nF B⟩, lpo28_h⟩, lpo29_h⟩, ⟨rR, rR, b0⟩⟩, (decide_eq_false Q_)⟩, ⟨rR, wq b0⟩⟩, nT U_⟩, lpo64_h⟩, ⟨rfl, n0, w8 N7_⟩⟩, ⟨rR, w9 N7_⟩⟩, eT rfl⟩, eT rfl⟩, eT rfl⟩, eT rfl⟩, eT rfl⟩, eT rfl⟩, eT rfl⟩, eT rfl⟩, eT A.symm⟩, eT A.symm⟩, eT A.symm⟩, eT A.symm⟩, (and_eqB p5.1 p5.2)⟩, (and_eqB p5.1 p5.2)⟩, (and_eqB p5.1 p5.2)⟩, (and_eqB p5.1 p5.2)⟩, lpo11_h⟩, lpo11_h⟩, lpo11_h⟩, ⟨rR, rR, z1⟩⟩, lpo11_h⟩, (decide_eq_true ⟨s1, s2⟩)⟩, (decide_eq_true ⟨s1, s2⟩)⟩, (decide_eq_true ⟨s1, s2⟩)⟩, (decide_eq_true ⟨s1, s2⟩)⟩, lpo11_h⟩, lpo11_h⟩, lpo11_h⟩, lpo13_h⟩, lpo14_h⟩, lpo11_h⟩, lpo15_h⟩, lpo15_h⟩, lpo15_h⟩, lpo15_h⟩, lpo65_h⟩, lpo65_h⟩
theorem lpB29 (n : Nat) (g : Nat → Nat → Int) (m : Nat) (h : Nat → Nat → Int) (x : Int) (y : Int) (A : hA n g) (B : hB m h) (L_ : hL_ n g m h) (M7_ : hM7_ m) (N7_ : hN7_ n) (P : hP x y) (S_ : hS_ n g m h) (a1 : ha1 n) (b0 : hb0 n m) (m0 : hm0 m) (n0 : hn0 n) (z1 : hz1 n g m h) : lpA29 n g m h x y := ⟨⟨⟨⟨⟨⟨⟨⟨⟨⟨⟨⟨⟨⟨(lpB23 n g m h x y A B M7_ N7_ P S_ a1 b0 m0 n0 z1), nT L_⟩, ⟨rfl, n0, w8 N7_⟩⟩, ⟨rfl, m0, w8 M7_⟩⟩, ⟨rR, w9 N7_⟩⟩, ⟨rR, w9 M7_⟩⟩, lpo4_h⟩, lpo5_h⟩, nF A⟩, lpo25_h⟩, lpo26_h⟩, nF B⟩, lpo28_h⟩, lpo29_h⟩, ⟨rR, rR, b0⟩⟩
theorem lpB30 (n : Nat) (g : Nat → Nat → Int) (m : Nat) (h : Nat → Nat → Int) (x : Int) (y : Int) (A : hA n g) (B : hB m h) (K_ : hK_ n g m h) (L_ : hL_ n g m h) (M7_ : hM7_ m) (N7_ : hN7_ n) (P : hP x y) (Q : hQ n m) (S_ : hS_ n g m h) (T_ : hT_ n g m h) (X : hX x) (Y : hY y) (a1 : ha1 n) (b0 : hb0 n m) (m0 : hm0 m) (n0 : hn0 n) (p5 : hp5 n g x y) (z1 : hz1 n g m h) (z2 : hz2 n g m h) : lpA30 n g m h x y := ⟨⟨⟨⟨⟨⟨⟨⟨⟨⟨⟨⟨⟨⟨⟨⟨⟨⟨⟨⟨⟨⟨⟨⟨⟨⟨⟨⟨⟨⟨⟨⟨⟨⟨⟨⟨⟨⟨⟨⟨⟨⟨⟨⟨⟨⟨⟨⟨⟨⟨⟨⟨⟨⟨⟨⟨⟨⟨⟨⟨⟨⟨⟨⟨⟨⟨⟨⟨⟨⟨⟨⟨⟨⟨⟨⟨⟨⟨⟨⟨⟨⟨⟨⟨(lpB29 n g m h x y A B L_ M7_ N7_ P S_ a1 b0 m0 n0 z1), (decide_eq_true Q)⟩, ⟨rR, w9 N7_⟩⟩, lpo3_h⟩, lpo3_h⟩, lpo7_h⟩, lpo5_h⟩, nF A⟩, lpo31_h⟩, lpo26_h⟩, nF X⟩, lpo33_h⟩, lpo34_h⟩, nF Y⟩, lpo36_h⟩, eT A⟩, lpo11_h⟩, ⟨rR, a1⟩⟩, ⟨rR, w9 N7_⟩⟩, ⟨rR, w9 M7_⟩⟩, lpo4_h⟩, lpo5_h⟩, nF A⟩, lpo25_h⟩, lpo26_h⟩, nF B⟩, lpo28_h⟩, lpo29_h⟩, ⟨rR, rR, b0⟩⟩, eF T_⟩, ⟨rR, z2⟩⟩, nT K_⟩, lpo64_h⟩, ⟨rR, w9 N7_⟩⟩, ⟨rR, w9 M7_⟩⟩, lpo4_h⟩, lpo5_h⟩, nF A⟩, lpo25_h⟩, lpo26_h⟩, nF B⟩, lpo28_h⟩, lpo29_h⟩, ⟨rR, rR, b0⟩⟩, (decide_eq_true Q)⟩, ⟨rfl, n0, w8 N7_⟩⟩, ⟨rR, w9 N7_⟩⟩, eT rfl⟩, eT rfl⟩, eT rfl⟩, eT rfl⟩, eT rfl⟩, eT rfl⟩, eT rfl⟩, eT rfl⟩, eT A.symm⟩, eT A.symm⟩, eT A.symm⟩, eT A.symm⟩, (and_eqB p5.1 p5.2)⟩, (and_eqB p5.1 p5.2)⟩, (and_eqB p5.1 p5.2)⟩, (and_eqB p5.1 p5.2)⟩, lpo11_h⟩, lpo11_h⟩, lpo11_h⟩, lpo13_h⟩, lpo14_h⟩, lpo11_h⟩, lpo15_h⟩, lpo15_h⟩, lpo15_h⟩, lpo15_h⟩, lpo65_h⟩, lpo65_h⟩, lpo65_h⟩, lpo13_h⟩, lpo14_h⟩, lpo65_h⟩, lpo15_h⟩, lpo15_h⟩, lpo15_h⟩, lpo15_h⟩, lpo57_h⟩, lpo57_h⟩
theorem lpB31 (n : Nat) (g : Nat → Nat → Int) (m : Nat) (h : Nat → Nat → Int) (x : Int) (y : Int) (A : hA n g) (B : hB m h) (L_ : hL_ n g m h) (M7_ : hM7_ m) (N7_ : hN7_ n) (P : hP x y) (Q_ : hQ_ n m) (S_ : hS_ n g m h) (a1 : ha1 n) (b0 : hb0 n m) (m0 : hm0 m) (n0 : hn0 n) (z1 : hz1 n g m h) : lpA31 n g m h x y := ⟨⟨(lpB29 n g m h x y A B L_ M7_ N7_ P S_ a1 b0 m0 n0 z1), (decide_eq_false Q_)⟩, ⟨rR, wq b0⟩⟩
theorem lpB32 (n : Nat) (g : Nat → Nat → Int) (m : Nat) (h : Nat → Nat → Int) (x : Int) (y : Int) (A : hA n g) (B : hB m h) (K_ : hK_ n g m h) (L_ : hL_ n g m h) (M7_ : hM7_ m) (N7_ : hN7_ n) (P : hP x y) (Q_ : hQ_ n m) (S_ : hS_ n g m h) (T_ : hT_ n g m h) (U : hU n g m h) (X : hX x) (Y : hY y) (a1 : ha1 n) (b0 : hb0 n m) (m0 : hm0 m) (n0 : hn0 n) (p5 : hp5 n g x y) (z1 : hz1 n g m h) (z2 : hz2 n g m h) : lpA32 n g m h x y := ⟨⟨⟨⟨⟨⟨⟨⟨⟨⟨⟨⟨⟨⟨⟨⟨⟨⟨⟨⟨⟨⟨⟨⟨⟨⟨⟨⟨⟨⟨⟨⟨⟨⟨⟨⟨⟨⟨⟨⟨⟨⟨⟨⟨⟨⟨⟨⟨⟨⟨⟨⟨⟨⟨⟨⟨⟨⟨⟨⟨⟨⟨⟨⟨⟨⟨⟨⟨⟨⟨⟨⟨⟨⟨⟨⟨⟨⟨⟨⟨⟨⟨⟨⟨⟨⟨(lpB31 n g m h x y A B L_ M7_ N7_ P Q_ S_ a1 b0 m0 n0 z1), nF U⟩, ⟨rR, w9 N7_⟩⟩, lpo3_h⟩, lpo3_h⟩, lpo7_h⟩, lpo5_h⟩, nF A⟩, lpo31_h⟩, lpo26_h⟩, nF X⟩, lpo33_h⟩, lpo34_h⟩, nF Y⟩, lpo36_h⟩, eT A⟩, lpo11_h⟩, ⟨rR, a1⟩⟩, ⟨rR, w9 N7_⟩⟩, ⟨rR, w9 M7_⟩⟩, lpo4_h⟩, lpo5_h⟩, nF A⟩, lpo25_h⟩, lpo26_h⟩, nF B⟩, lpo28_h⟩, lpo29_h⟩, ⟨rR, rR, b0⟩⟩, eF T_⟩, ⟨rR, z2⟩⟩, nT K_⟩, lpo64_h⟩, ⟨rR, w9 N7_⟩⟩, ⟨rR, w9 M7_⟩⟩, lpo4_h⟩, lpo5_h⟩, nF A⟩, lpo25_h⟩, lpo26_h⟩, nF B⟩, lpo28_h⟩, lpo29_h⟩, ⟨rR, rR, b0⟩⟩, (decide_eq_false Q_)⟩, ⟨rR, wq b0⟩⟩, nF U⟩, lpo29_h⟩, ⟨rfl, n0, w8 N7_⟩⟩, ⟨rR, w9 N7_⟩⟩, eT rfl⟩, eT rfl⟩, eT rfl⟩, eT rfl⟩, eT rfl⟩, eT rfl⟩, eT rfl⟩, eT rfl⟩, eT A.symm⟩, eT A.symm⟩, eT A.symm⟩, eT A.symm⟩, (and_eqB p5.1 p5.2)⟩, (and_eqB p5.1 p5.2)⟩, (and_eqB p5.1 p5.2)⟩, (and_eqB p5.1 p5.2)⟩, lpo11_h⟩, lpo11_h⟩, lpo11_h⟩, lpo13_h⟩, lpo14_h⟩, lpo11_h⟩, lpo15_h⟩, lpo15_h⟩, lpo15_h⟩, lpo15_h⟩, lpo65_h⟩, lpo65_h⟩, lpo65_h⟩, ⟨rR, rR, wq b0⟩⟩, lpo65_h⟩, (decide_eq_true ⟨rfl, fun _ _ => rfl⟩)⟩, (decide_eq_true ⟨rfl, fun _ _ => rfl⟩)⟩, (decide_eq_true ⟨rfl, fun _ _ => rfl⟩)⟩, (decide_eq_true ⟨rfl, fun _ _ => rfl⟩)⟩, lpo11_h⟩, lpo11_h⟩
theorem lpB33 (n : Nat) (g : Nat → Nat → Int) (m : Nat) (h : Nat → Nat → Int) (x : Int) (y : Int) (A : hA n g) (B : hB m h) (K_ : hK_ n g m h) (L_ : hL_ n g m h) (M7_ : hM7_ m) (N7_ : hN7_ n) (P : hP x y) (Q_ : hQ_ n m) (S_ : hS_ n g m h) (T_ : hT_ n g m h) (U_ : hU_ n g m h) (X : hX x) (Y : hY y) (a1 : ha1 n) (b0 : hb0 n m) (m0 : hm0 m) (n0 : hn0 n) (p5 : hp5 n g x y) (z1 : hz1 n g m h) (z2 : hz2 n g m h) : lpA33 n g m h x y := ⟨⟨⟨⟨⟨⟨⟨⟨⟨⟨⟨⟨⟨⟨⟨⟨⟨⟨⟨⟨⟨⟨⟨⟨⟨⟨⟨⟨⟨⟨⟨⟨⟨⟨⟨⟨⟨⟨⟨⟨⟨⟨⟨⟨⟨⟨⟨⟨⟨⟨⟨⟨⟨⟨⟨⟨⟨⟨⟨⟨⟨⟨⟨⟨⟨⟨⟨⟨⟨⟨⟨⟨⟨⟨⟨⟨⟨⟨⟨⟨⟨⟨⟨⟨⟨⟨⟨(lpB31 n g m h x y A B L_ M7_ N7_ P Q_ S_ a1 b0 m0 n0 z1), nT U_⟩, ⟨rR, w9 N7_⟩⟩, lpo3_h⟩, lpo3_h⟩, lpo7_h⟩, lpo5_h⟩, nF A⟩, lpo31_h⟩, lpo26_h⟩, nF X⟩, lpo33_h⟩, lpo34_h⟩, nF Y⟩, lpo36_h⟩, eT A⟩, lpo11_h⟩, ⟨rR, a1⟩⟩, ⟨rR, w9 N7_⟩⟩, ⟨rR, w9 M7_⟩⟩, lpo4_h⟩, lpo5_h⟩, nF A⟩, lpo25_h⟩, lpo26_h⟩, nF B⟩, lpo28_h⟩, lpo29_h⟩, ⟨rR, rR, b0⟩⟩, eF T_⟩, ⟨rR, z2⟩⟩, nT K_⟩, lpo64_h⟩, ⟨rR, w9 N7_⟩⟩, ⟨rR, w9 M7_⟩⟩, lpo4_h⟩, lpo5_h⟩, nF A⟩, lpo25_h⟩, lpo26_h⟩, nF B⟩, lpo28_h⟩, lpo29_h⟩, ⟨rR, rR, b0⟩⟩, (decide_eq_false Q_)⟩, ⟨rR, wq b0⟩⟩, nT U_⟩, lpo64_h⟩, ⟨rfl, n0, w8 N7_⟩⟩, ⟨rR, w9 N7_⟩⟩, eT rfl⟩, eT rfl⟩, eT rfl⟩, eT rfl⟩, eT rfl⟩, eT rfl⟩, eT rfl⟩, eT rfl⟩, eT A.symm⟩, eT A.symm⟩, eT A.symm⟩, eT A.symm⟩, (and_eqB p5.1 p5.2)⟩, (and_eqB p5.1 p5.2)⟩, (and_eqB p5.1 p5.2)⟩, (and_eqB p5.1 p5.2)⟩, lpo11_h⟩, lpo11_h⟩, lpo11_h⟩, lpo13_h⟩, lpo14_h⟩, lpo11_h⟩, lpo15_h⟩, lpo15_h⟩, lpo15_h⟩, lpo15_h⟩, lpo65_h⟩, lpo65_h⟩, lpo65_h⟩, lpo13_h⟩, lpo14_h⟩, lpo65_h⟩, lpo15_h⟩, lpo15_h⟩, lpo15_h⟩, lpo15_h⟩, lpo65_h⟩, lpo65_h⟩
theorem lpB34 (n : Nat) (g : Nat → Nat → Int) (m : Nat) (h : Nat → Nat → Int) (x : Int) (y : Int) (A : hA n g) (B_ : hB_ m h) (M7_ : hM7_ m) (N7_ : hN7_ n) (P : hP x y) (X : hX x) (Y : hY y) (a1 : ha1 n) (m0 : hm0 m) (n0 : hn0 n) (p5 : hp5 n g x y) : lpA34 n g m h x y := ⟨⟨⟨⟨⟨⟨⟨⟨⟨⟨⟨⟨⟨⟨⟨⟨⟨⟨⟨⟨⟨⟨⟨⟨⟨⟨⟨⟨⟨⟨⟨⟨⟨⟨⟨⟨⟨⟨⟨⟨⟨⟨⟨⟨⟨⟨⟨⟨⟨⟨⟨⟨⟨⟨⟨⟨⟨⟨⟨⟨⟨⟨⟨⟨⟨⟨⟨⟨⟨⟨⟨⟨⟨⟨⟨⟨⟨⟨⟨⟨⟨⟨⟨⟨⟨⟨⟨⟨⟨(lpB16 n g m h x y A M7_ N7_ P a1 m0 n0), nT B_⟩, nT B_⟩, ⟨rfl, n0, w8 N7_⟩⟩, ⟨rfl, m0, w8 M7_⟩⟩, ⟨rR, w9 N7_⟩⟩, ⟨rR, w9 M7_⟩⟩, lpo4_h⟩, lpo5_h⟩, nF A⟩, lpo25_h⟩, lpo26_h⟩, nT B_⟩, nT B_⟩, ⟨rR, w9 N7_⟩⟩, lpo3_h⟩, lpo3_h⟩, lpo7_h⟩, lpo5_h⟩, nF A⟩, lpo31_h⟩, lpo26_h⟩, nF X⟩, lpo33_h⟩, lpo34_h⟩, nF Y⟩, lpo36_h⟩, eT A⟩, lpo11_h⟩, ⟨rR, a1⟩⟩, ⟨rR, w9 N7_⟩⟩, ⟨rR, w9 M7_⟩⟩, lpo4_h⟩, lpo5_h⟩, nF A⟩, lpo25_h⟩, lpo26_h⟩, nT B_⟩, lpo26_h⟩, nT B_⟩, ⟨rR, w9 N7_⟩⟩, ⟨rR, w9 M7_⟩⟩, lpo4_h⟩, lpo5_h⟩, nF A⟩, lpo25_h⟩, lpo26_h⟩, nT B_⟩, lpo26_h⟩, nT B_⟩, ⟨rfl, n0, w8 N7_⟩⟩, ⟨rR, w9 N7_⟩⟩, eT rfl⟩, eT rfl⟩, eT rfl⟩, eT rfl⟩, eT rfl⟩, eT rfl⟩, eT rfl⟩, eT rfl⟩, eT A.symm⟩, eT A.symm⟩, eT A.symm⟩, eT A.symm⟩, (and_eqB p5.1 p5.2)⟩, (and_eqB p5.1 p5.2)⟩, (and_eqB p5.1 p5.2)⟩, (and_eqB p5.1 p5.2)⟩, lpo11_h⟩, lpo11_h⟩, lpo11_h⟩, lpo13_h⟩, lpo14_h⟩, lpo11_h⟩, lpo15_h⟩, lpo15_h⟩, lpo15_h⟩, lpo15_h⟩, eT rfl⟩, eT rfl⟩, eT rfl⟩, lpo13_h⟩, lpo14_h⟩, eT rfl⟩, lpo15_h⟩, lpo15_h⟩, lpo15_h⟩, lpo15_h⟩, eT rfl⟩, eT rfl⟩
theorem lpB35 (n : Nat) (g : Nat → Nat → Int) (m : Nat) (h : Nat → Nat → Int) (x : Int) (y : Int) (A : hA n g) (M7_ : hM7_ m) (N7_ : hN7_ n) (P_ : hP_ x y) (m0 : hm0 m) (n0 : hn0 n) : lpA35 n g m h x y := ⟨⟨⟨⟨⟨⟨⟨⟨⟨⟨⟨(lpB15 n g m A M7_ N7_ n0), nT P_⟩, nT P_⟩, ⟨rfl, n0, w8 N7_⟩⟩, ⟨rfl, m0, w8 M7_⟩⟩, ⟨rR, w9 N7_⟩⟩, ⟨rR, w9 M7_⟩⟩, lpo4_h⟩, lpo5_h⟩, nF A⟩, lpo25_h⟩, lpo26_h⟩
theorem lpB36 (n : Nat) (g : Nat → Nat → Int) (m : Nat) (h : Nat → Nat → Int) (x : Int) (y : Int) (A : hA n g) (B : hB m h) (M7_ : hM7_ m) (N7_ : hN7_ n) (P_ : hP_ x y) (b0 : hb0 n m) (m0 : hm0 m) (n0 : hn0 n) : lpA36 n g m h x y := ⟨⟨⟨⟨(lpB35 n g m h x y A M7_ N7_ P_ m0 n0), nF B⟩, lpo28_h⟩, lpo29_h⟩, ⟨rR, rR, b0⟩⟩
theorem lpB37 (n : Nat) (g : Nat → Nat → Int) (m : Nat) (h : Nat → Nat → Int) (x : Int) (y : Int) (A : hA n g) (B : hB m h) (M7_ : hM7_ m) (N7_ : hN7_ n) (P_ : hP_ x y) (S : hS n g m h) (b0 : hb0 n m) (m0 : hm0 m) (n0 : hn0 n) : lpA37 n g m h x y := ⟨⟨⟨⟨⟨⟨⟨⟨⟨⟨⟨⟨⟨⟨(lpB36 n g m h x y A B M7_ N7_ P_ b0 m0 n0), eT S⟩, ⟨rfl, n0, w8 N7_⟩⟩, ⟨rfl, m0, w8 M7_⟩⟩, ⟨rR, w9 N7_⟩⟩, ⟨rR, w9 M7_⟩⟩, lpo4_h⟩, lpo5_h⟩, nF A⟩, lpo25_h⟩, lpo26_h⟩, nF B⟩, lpo28_h⟩, lpo29_h⟩, ⟨rR, rR, b0⟩⟩
theorem lpB38 (n : Nat) (g : Nat → Nat → Int) (m : Nat) (h : Nat → Nat → Int) (x : Int) (y : Int) (A : hA n g) (B : hB m h) (M7_ : hM7_ m) (N7_ : hN7_ n) (P_ : hP_ x y) (Q : hQ n m) (S : hS n g m h) (b0 : hb0 n m) (m0 : hm0 m) (n0 : hn0 n) : lpA38 n g m h x y := ⟨⟨⟨⟨⟨⟨⟨⟨⟨(lpB37 n g m h x y A B M7_ N7_ P_ S b0 m0 n0), (decide_eq_true Q)⟩, ⟨rR, w9 N7_⟩⟩, lpo3_h⟩, lpo3_h⟩, lpo7_h⟩, lpo5_h⟩, nF A⟩, lpo31_h⟩, lpo26_h⟩
theorem lpB39 (n : Nat) (g : Nat → Nat → Int) (m : Nat) (h : Nat → Nat → Int) (x : Int) (y : Int) (A : hA n g) (B : hB m h) (M7_ : hM7_ m) (N7_ : hN7_ n) (P_ : hP_ x y) (Q : hQ n m) (S : hS n g m h) (T : hT n g m h) (X : hX x) (Y_ : hY_ y) (b0 : hb0 n m) (m0 : hm0 m) (n0 : hn0 n) (p1y : hp1y x y) : lpA39 n g m h x y := ⟨⟨⟨⟨⟨⟨⟨⟨⟨⟨⟨⟨⟨⟨⟨⟨⟨⟨⟨⟨⟨⟨⟨⟨⟨⟨⟨⟨⟨⟨⟨⟨⟨⟨⟨⟨⟨⟨⟨⟨⟨⟨⟨⟨⟨⟨⟨⟨⟨⟨⟨⟨⟨⟨⟨⟨⟨⟨⟨⟨⟨⟨⟨⟨⟨⟨⟨⟨⟨⟨⟨(lpB38 n g m h x y A B M7_ N7_ P_ Q S b0 m0 n0), nF X⟩, lpo33_h⟩, lpo34_h⟩, nT Y_⟩, lpo34_h⟩, eT A⟩, eF Y_⟩, ⟨rR, w9 N7_⟩⟩, ⟨rR, w9 M7_⟩⟩, lpo4_h⟩, lpo5_h⟩, nF A⟩, lpo25_h⟩, lpo26_h⟩, nF B⟩, lpo28_h⟩, lpo29_h⟩, ⟨rR, rR, b0⟩⟩, eT T⟩, ⟨rR, w9 N7_⟩⟩, ⟨rR, w9 M7_⟩⟩, lpo4_h⟩, lpo5_h⟩, nF A⟩, lpo25_h⟩, lpo26_h⟩, nF B⟩, lpo28_h⟩, lpo29_h⟩, ⟨rR, rR, b0⟩⟩, (decide_eq_true Q)⟩, ⟨rfl, n0, w8 N7_⟩⟩, ⟨rR, w9 N7_⟩⟩, eT rfl⟩, eT rfl⟩, eT rfl⟩, eT rfl⟩, eT rfl⟩, eT rfl⟩, eT rfl⟩, eT rfl⟩, eT A.symm⟩, eT A.symm⟩, eT A.symm⟩, eT A.symm⟩, lpo12_h⟩, lpo12_h⟩, lpo12_h⟩, lpo12_h⟩, eT p1y⟩, eT p1y⟩, eT p1y⟩, lpo13_h⟩, lpo14_h⟩, eT p1y⟩, lpo15_h⟩, lpo15_h⟩, lpo15_h⟩, lpo15_h⟩, lpo56_h⟩, lpo56_h⟩, lpo56_h⟩, lpo13_h⟩, lpo14_h⟩, lpo56_h⟩, lpo15_h⟩, lpo15_h⟩, lpo15_h⟩, lpo15_h⟩, lpo57_h⟩, lpo57_h⟩
theorem lpB40 (n : Nat) (g : Nat → Nat → Int) (m : Nat) (h : Nat → Nat → Int) (x : Int) (y : Int) (A : hA n g) (B : hB m h) (M7_ : hM7_ m) (N7_ : hN7_ n) (P_ : hP_ x y) (Q : hQ n m) (S : hS n g m h) (T : hT n g m h) (X_ : hX_ x) (b0 : hb0 n m) (m0 : hm0 m) (n0 : hn0 n) (p1x : hp1x x y) : lpA40 n g m h x y := ⟨⟨⟨⟨⟨⟨⟨⟨⟨⟨⟨⟨⟨⟨⟨⟨⟨⟨⟨⟨⟨⟨⟨⟨⟨⟨⟨⟨⟨⟨⟨⟨⟨⟨⟨⟨⟨⟨⟨⟨⟨⟨⟨⟨⟨⟨⟨⟨⟨⟨⟨⟨⟨⟨⟨⟨⟨⟨⟨⟨⟨⟨⟨⟨⟨⟨⟨⟨(lpB38 n g m h x y A B M7_ N7_ P_ Q S b0 m0 n0), nT X_⟩, lpo26_h⟩, eT A⟩, eF X_⟩, ⟨rR, w9 N7_⟩⟩, ⟨rR, w9 M7_⟩⟩, lpo4_h⟩, lpo5_h⟩, nF A⟩, lpo25_h⟩, lpo26_h⟩, nF B⟩, lpo28_h⟩, lpo29_h⟩, ⟨rR, rR, b0⟩⟩, eT T⟩, ⟨rR, w9 N7_⟩⟩, ⟨rR, w9 M7_⟩⟩, lpo4_h⟩, lpo5_h⟩, nF A⟩, lpo25_h⟩, lpo26_h⟩, nF B⟩, lpo28_h⟩, lpo29_h⟩, ⟨rR, rR, b0⟩⟩, (decide_eq_true Q)⟩, ⟨rfl, n0, w8 N7_⟩⟩, ⟨rR, w9 N7_⟩⟩, eT rfl⟩, eT rfl⟩, eT rfl⟩, eT rfl⟩, eT rfl⟩, eT rfl⟩, eT rfl⟩, eT rfl⟩, eT A.symm⟩, eT A.symm⟩, eT A.symm⟩, eT A.symm⟩, lpo12_h⟩, lpo12_h⟩, lpo12_h⟩, lpo12_h⟩, eT p1x⟩, eT p1x⟩, eT p1x⟩, lpo13_h⟩, lpo14_h⟩, eT p1x⟩, lpo15_h⟩, lpo15_h⟩, lpo15_h⟩, lpo15_h⟩, lpo56_h⟩, lpo56_h⟩, lpo56_h⟩, lpo13_h⟩, lpo14_h⟩, lpo56_h⟩, lpo15_h⟩, lpo15_h⟩, lpo15_h⟩, lpo15_h⟩, lpo57_h⟩, lpo57_h⟩
theorem lpB41 (n : Nat) (g : Nat → Nat → Int) (m : Nat) (h : Nat → Nat → Int) (x : Int) (y : Int) (A : hA n g) (B : hB m h) (M7_ : hM7_ m) (N7_ : hN7_ n) (P_ : hP_ x y) (Q_ : hQ_ n m) (S : hS n g m h) (b0 : hb0 n m) (m0 : hm0 m) (n0 : hn0 n) : lpA41 n g m h x y := ⟨⟨(lpB37 n g m h x y A B M7_ N7_ P_ S b0 m0 n0), (decide_eq_false Q_)⟩, ⟨rR, wq b0⟩⟩
theorem lpB42 (n : Nat) (g : Nat → Nat → Int) (m : Nat) (h : Nat → Nat → Int) (x : Int) (y : Int) (A : hA n g) (B : hB m h) (M7_ : hM7_ m) (N7_ : hN7_ n) (P_ : hP_ x y) (Q_ : hQ_ n m) (S : hS n g m h) (U : hU n g m h) (b0 : hb0 n m) (m0 : hm0 m) (n0 : hn0 n) : lpA42 n g m h x y := ⟨⟨⟨⟨⟨⟨⟨⟨⟨(lpB41 n g m h x y A B M7_ N7_ P_ Q_ S b0 m0 n0), nF U⟩, ⟨rR, w9 N7_⟩⟩, lpo3_h⟩, lpo3_h⟩, lpo7_h⟩, lpo5_h⟩, nF A⟩, lpo31_h⟩, lpo26_h⟩
theorem lpB43 (n : Nat) (g : Nat → Nat → Int) (m : Nat) (h : Nat → Nat → Int) (x : Int) (y : Int) (A : hA n g) (B : hB m h) (M7_ : hM7_ m) (N7_ : hN7_ n) (P_ : hP_ x y) (Q_ : hQ_ n m) (S : hS n g m h) (T : hT n g m h) (U : hU n g m h) (X : hX x) (Y_ : hY_ y) (b0 : hb0 n m) (m0 : hm0 m) (n0 : hn0 n) (p1y : hp1y x y) : lpA43 n g m h x y := ⟨⟨⟨⟨⟨⟨⟨⟨⟨⟨⟨⟨⟨⟨⟨⟨⟨⟨⟨⟨⟨⟨⟨⟨⟨⟨⟨⟨⟨⟨⟨⟨⟨⟨⟨⟨⟨⟨⟨⟨⟨⟨⟨⟨⟨⟨⟨⟨⟨⟨⟨⟨⟨⟨⟨⟨⟨⟨⟨⟨⟨⟨⟨⟨⟨⟨⟨⟨⟨⟨⟨⟨⟨(lpB42 n g m h x y A B M7_ N7_ P_ Q_ S U b0 m0 n0), nF X⟩, lpo33_h⟩, lpo34_h⟩, nT Y_⟩, lpo34_h⟩, eT A⟩, eF Y_⟩, ⟨rR, w9 N7_⟩⟩, ⟨rR, w9 M7_⟩⟩, lpo4_h⟩, lpo5_h⟩, nF A⟩, lpo25_h⟩, lpo26_h⟩, nF B⟩, lpo28_h⟩, lpo29_h⟩, ⟨rR, rR, b0⟩⟩, eT T⟩, ⟨rR, w9 N7_⟩⟩, ⟨rR, w9 M7_⟩⟩, lpo4_h⟩, lpo5_h⟩, nF A⟩, lpo25_h⟩, lpo26_h⟩, nF B⟩, lpo28_h⟩, lpo29_h⟩, ⟨rR, rR, b0⟩⟩, (decide_eq_false Q_)⟩, ⟨rR, wq b0⟩⟩, nF U⟩, lpo29_h⟩, ⟨rfl, n0, w8 N7_⟩⟩, ⟨rR, w9 N7_⟩⟩, eT rfl⟩, eT rfl⟩, eT rfl⟩, eT rfl⟩, eT rfl⟩, eT rfl⟩, eT rfl⟩, eT rfl⟩, eT A.symm⟩, eT A.symm⟩, eT A.symm⟩, eT A.symm⟩, lpo12_h⟩, lpo12_h⟩, lpo12_h⟩, lpo12_h⟩, eT p1y⟩, eT p1y⟩, eT p1y⟩, lpo13_h⟩, lpo14_h⟩, eT p1y⟩, lpo15_h⟩, lpo15_h⟩, lpo15_h⟩, lpo15_h⟩, lpo56_h⟩, lpo56_h⟩, lpo56_h⟩, ⟨rR, rR, wq b0⟩⟩, lpo56_h⟩, (decide_eq_true ⟨rfl, fun _ _ => rfl⟩)⟩, (decide_eq_true ⟨rfl, fun _ _ => rfl⟩)⟩, (decide_eq_true ⟨rfl, fun _ _ => rfl⟩)⟩, (decide_eq_true ⟨rfl, fun _ _ => rfl⟩)⟩, lpo11_h⟩, lpo11_h⟩
theorem lpB44 (n : Nat) (g : Nat → Nat → Int) (m : Nat) (h : Nat → Nat → Int) (x : Int) (y : Int) (A : hA n g) (B : hB m h) (M7_ : hM7_ m) (N7_ : hN7_ n) (P_ : hP_ x y) (Q_ : hQ_ n m) (S : hS n g m h) (T : hT n g m h) (U : hU n g m h) (X_ : hX_ x) (b0 : hb0 n m) (m0 : hm0 m) (n0 : hn0 n) (p1x : hp1x x y) : lpA44 n g m h x y := ⟨⟨⟨⟨⟨⟨⟨⟨⟨⟨⟨⟨⟨⟨⟨⟨⟨⟨⟨⟨⟨⟨⟨⟨⟨⟨⟨⟨⟨⟨⟨⟨⟨⟨⟨⟨⟨⟨⟨⟨⟨⟨⟨⟨⟨⟨⟨⟨⟨⟨⟨⟨⟨⟨⟨⟨⟨⟨⟨⟨⟨⟨⟨⟨⟨⟨⟨⟨⟨⟨(lpB42 n g m h x y A B M7_ N7_ P_ Q_ S U b0 m0 n0), nT X_⟩, lpo26_h⟩, eT A⟩, eF X_⟩, ⟨rR, w9 N7_⟩⟩, ⟨rR, w9 M7_⟩⟩, lpo4_h⟩, lpo5_h⟩, nF A⟩, lpo25_h⟩, lpo26_h⟩, nF B⟩, lpo28_h⟩, lpo29_h⟩, ⟨rR, rR, b0⟩⟩, eT T⟩, ⟨rR, w9 N7_⟩⟩, ⟨rR, w9 M7_⟩⟩, lpo4_h⟩, lpo5_h⟩, nF A⟩, lpo25_h⟩, lpo26_h⟩, nF B⟩, lpo28_h⟩, lpo29_h⟩, ⟨rR, rR, b0⟩⟩, (decide_eq_false Q_)⟩, ⟨rR, wq b0⟩⟩, nF U⟩, lpo29_h⟩, ⟨rfl, n0, w8 N7_⟩⟩, ⟨rR, w9 N7_⟩⟩, eT rfl⟩, eT rfl⟩, eT rfl⟩, eT rfl⟩, eT rfl⟩, eT rfl⟩, eT rfl⟩, eT rfl⟩, eT A.symm⟩, eT A.symm⟩, eT A.symm⟩, eT A.symm⟩, lpo12_h⟩, lpo12_h⟩, lpo12_h⟩, lpo12_h⟩, eT p1x⟩, eT p1x⟩, eT p1x⟩, lpo13_h⟩, lpo14_h⟩, eT p1x⟩, lpo15_h⟩, lpo15_h⟩, lpo15_h⟩, lpo15_h⟩, lpo56_h⟩, lpo56_h⟩, lpo56_h⟩, ⟨rR, rR, wq b0⟩⟩, lpo56_h⟩, (decide_eq_true ⟨rfl, fun _ _ => rfl⟩)⟩, (decide_eq_true ⟨rfl, fun _ _ => rfl⟩)⟩, (decide_eq_true ⟨rfl, fun _ _ => rfl⟩)⟩, (decide_eq_true ⟨rfl, fun _ _ => rfl⟩)⟩, lpo11_h⟩, lpo11_h⟩
theorem lpB45 (n : Nat) (g : Nat → Nat → Int) (m : Nat) (h : Nat → Nat → Int) (x : Int) (y : Int) (A : hA n g) (B : hB m h) (M7_ : hM7_ m) (N7_ : hN7_ n) (P_ : hP_ x y) (Q_ : hQ_ n m) (S : hS n g m h) (U_ : hU_ n g m h) (b0 : hb0 n m) (m0 : hm0 m) (n0 : hn0 n) : lpA45 n g m h x y := ⟨⟨⟨⟨⟨⟨⟨⟨⟨(lpB41 n g m h x y A B M7_ N7_ P_ Q_ S b0 m0 n0), nT U_⟩, ⟨rR, w9 N7_⟩⟩, lpo3_h⟩, lpo3_h⟩, lpo7_h⟩, lpo5_h⟩, nF A⟩, lpo31_h⟩, lpo26_h⟩
theorem lpB46 (n : Nat) (g : Nat → Nat → Int) (m : Nat) (h : Nat → Nat → Int) (x : Int) (y : Int) (A : hA n g) (B : hB m h) (M7_ : hM7_ m) (N7_ : hN7_ n) (P_ : hP_ x y) (Q_ : hQ_ n m) (S : hS n g m h) (T : hT n g m h) (U_ : hU_ n g m h) (X : hX x) (Y_ : hY_ y) (b0 : hb0 n m) (m0 : hm0 m) (n0 : hn0 n) (p1y : hp1y x y) : lpA46 n g m h x y := ⟨⟨⟨⟨⟨⟨⟨⟨⟨⟨⟨⟨⟨⟨⟨⟨⟨⟨⟨⟨⟨⟨⟨⟨⟨⟨⟨⟨⟨⟨⟨⟨⟨⟨⟨⟨⟨⟨⟨⟨⟨⟨⟨⟨⟨⟨⟨⟨⟨⟨⟨⟨⟨⟨⟨⟨⟨⟨⟨⟨⟨⟨⟨⟨⟨⟨⟨⟨⟨⟨⟨⟨⟨⟨(lpB45 n g m h x y A B M7_ N7_ P_ Q_ S U_ b0 m0 n0), nF X⟩, lpo33_h⟩, lpo34_h⟩, nT Y_⟩, lpo34_h⟩, eT A⟩, eF Y_⟩, ⟨rR, w9 N7_⟩⟩, ⟨rR, w9 M7_⟩⟩, lpo4_h⟩, lpo5_h⟩, nF A⟩, lpo25_h⟩, lpo26_h⟩, nF B⟩, lpo28_h⟩, lpo29_h⟩, ⟨rR, rR, b0⟩⟩, eT T⟩, ⟨rR, w9 N7_⟩⟩, ⟨rR, w9 M7_⟩⟩, lpo4_h⟩, lpo5_h⟩, nF A⟩, lpo25_h⟩, lpo26_h⟩, nF B⟩, lpo28_h⟩, lpo29_h⟩, ⟨rR, rR, b0⟩⟩, (decide_eq_false Q_)⟩, ⟨rR, wq b0⟩⟩, nT U_⟩, lpo64_h⟩, ⟨rfl, n0, w8 N7_⟩⟩, ⟨rR, w9 N7_⟩⟩, eT rfl⟩, eT rfl⟩, eT rfl⟩, eT rfl⟩, eT rfl⟩, eT rfl⟩, eT rfl⟩, eT rfl⟩, eT A.symm⟩, eT A.symm⟩, eT A.symm⟩, eT A.symm⟩, lpo12_h⟩, lpo12_h⟩, lpo12_h⟩, lpo12_h⟩, eT p1y⟩, eT p1y⟩, eT p1y⟩, lpo13_h⟩, lpo14_h⟩, eT p1y⟩, lpo15_h⟩, lpo15_h⟩, lpo15_h⟩, lpo15_h⟩, lpo56_h⟩, lpo56_h⟩, lpo56_h⟩, lpo13_h⟩, lpo14_h⟩, lpo56_h⟩, lpo15_h⟩, lpo15_h⟩, lpo15_h⟩, lpo15_h⟩, lpo65_h⟩, lpo65_h⟩
theorem lpB47 (n : Nat) (g : Nat → Nat → Int) (m : Nat) (h : Nat → Nat → Int) (x : Int) (y : Int) (A : hA n g) (B : hB m h) (M7_ : hM7_ m) (N7_ : hN7_ n) (P_ : hP_ x y) (Q_ : hQ_ n m) (S : hS n g m h) (T : hT n g m h) (U_ : hU_ n g m h) (X_ : hX_ x) (b0 : hb0 n m) (m0 : hm0 m) (n0 : hn0 n) (p1x : hp1x x y) : lpA47 n g m h x y := ⟨⟨⟨⟨⟨⟨⟨⟨⟨⟨⟨⟨⟨⟨⟨⟨⟨⟨⟨⟨⟨⟨⟨⟨⟨⟨⟨⟨⟨⟨⟨⟨⟨⟨⟨⟨⟨⟨⟨⟨⟨⟨⟨⟨⟨⟨⟨⟨⟨⟨⟨⟨⟨⟨⟨⟨⟨⟨⟨⟨⟨⟨⟨⟨⟨⟨⟨⟨⟨⟨⟨(lpB45 n g m h x y A B M7_ N7_ P_ Q_ S U_ b0 m0 n0), nT X_⟩, lpo26_h⟩, eT A⟩, eF X_⟩, ⟨rR, w9 N7_⟩⟩, ⟨rR, w9 M7_⟩⟩, lpo4_h⟩, lpo5_h⟩, nF A⟩, lpo25_h⟩, lpo26_h⟩, nF B⟩, lpo28_h⟩, lpo29_h⟩, ⟨rR, rR, b0⟩⟩, eT T⟩, ⟨rR, w9 N7_⟩⟩, ⟨rR, w9 M7_⟩⟩, lpo4_h⟩, lpo5_h⟩, nF A⟩, lpo25_h⟩, lpo26_h⟩, nF B⟩, lpo28_h⟩, lpo29_h⟩, ⟨rR, rR, b0⟩⟩, (decide_eq_false Q_)⟩, ⟨rR, wq b0⟩⟩, nT U_⟩, lpo64_h⟩, ⟨rfl, n0, w8 N7_⟩⟩, ⟨rR, w9 N7_⟩⟩, eT rfl⟩, eT rfl⟩, eT rfl⟩, eT rfl⟩, eT rfl⟩, eT rfl⟩, eT rfl⟩, eT rfl⟩, eT A.symm⟩, eT A.symm⟩, eT A.symm⟩, eT A.symm⟩, lpo12_h⟩, lpo12_h⟩, lpo12_h⟩, lpo12_h⟩, eT p1x⟩, eT p1x⟩, eT p1x⟩, lpo13_h⟩, lpo14_h⟩, eT p1x⟩, lpo15_h⟩, lpo15_h⟩, lpo15_h⟩, lpo15_h⟩, lpo56_h⟩, lpo56_h⟩, lpo56_h⟩, lpo13_h⟩, lpo14_h⟩, lpo56_h⟩, lpo15_h⟩, lpo15_h⟩, lpo15_h⟩, lpo15_h⟩, lpo65_h⟩, lpo65_h⟩
theorem lpB48 (n : Nat) (g : Nat → Nat → Int) (m : Nat) (h : Nat → Nat → Int) (x : Int) (y : Int) (A : hA n g) (B : hB m h) (M7_ : hM7_ m) (N7_ : hN7_ n) (P_ : hP_ x y) (S_ : hS_ n g m h) (b0 : hb0 n m) (m0 : hm0 m) (n0 : hn0 n) (z1 : hz1 n g m h) : lpA48 n g m h x y := ⟨⟨(lpB36 n g m h x y A B M7_ N7_ P_ b0 m0 n0), eF S_⟩, ⟨rR, z1⟩⟩
theorem lpB49 (n : Nat) (g : Nat → Nat → Int) (m : Nat) (h : Nat → Nat → Int) (x : Int) (y : Int) (A : hA n g) (B : hB m h) (L : hL n g m h) (M7_ : hM7_ m) (N7_ : hN7_ n) (P_ : hP_ x y) (S_ : hS_ n g m h) (b0 : hb0 n m) (m0 : hm0 m) (n0 : hn0 n) (z1 : hz1 n g m h) : lpA49 n g m h x y := ⟨⟨⟨⟨⟨⟨⟨⟨⟨⟨⟨⟨⟨⟨(lpB48 n g m h x y A B M7_ N7_ P_ S_ b0 m0 n0 z1), nF L⟩, ⟨rfl, n0, w8 N7_⟩⟩, ⟨rfl, m0, w8 M7_⟩⟩, ⟨rR, w9 N7_⟩⟩, ⟨rR, w9 M7_⟩⟩, lpo4_h⟩, lpo5_h⟩, nF A⟩, lpo25_h⟩, lpo26_h⟩, nF B⟩, lpo28_h⟩, lpo29_h⟩, ⟨rR, rR, b0⟩⟩
theorem lpB50 (n : Nat) (g : Nat → Nat → Int) (m : Nat) (h : Nat → Nat → Int) (x : Int) (y : Int) (A : hA n g) (B : hB m h) (L : hL n g m h) (M7_ : hM7_ m) (N7_ : hN7_ n) (P_ : hP_ x y) (Q : hQ n m) (S_ : hS_ n g m h) (b0 : hb0 n m) (m0 : hm0 m) (n0 : hn0 n) (z1 : hz1 n g m h) : lpA50 n g m h x y := ⟨⟨⟨⟨⟨⟨⟨⟨⟨(lpB49 n g m h x y A B L M7_ N7_ P_ S_ b0 m0 n0 z1), (decide_eq_true Q)⟩, ⟨rR, w9 N7_⟩⟩, lpo3_h⟩, lpo3_h⟩, lpo7_h⟩, lpo5_h⟩, nF A⟩, lpo31_h⟩, lpo26_h⟩
theorem lpB51 (n : Nat) (g : Nat → Nat → Int) (m : Nat) (h : Nat → Nat → Int) (x : Int) (y : Int) (A : hA n g) (B : hB m h) (K : hK n g m h) (L : hL n g m h) (M7_ : hM7_ m) (N7_ : hN7_ n) (P_ : hP_ x y) (Q : hQ n m) (S_ : hS_ n g m h) (T_ : hT_ n g m h) (X : hX x) (Y_ : hY_ y) (b0 : hb0 n m) (m0 : hm0 m) (n0 : hn0 n) (p1y : hp1y x y) (s1 : hs1 n g m h) (s2 : hs2 n g m h) (z1 : hz1 n g m h) (z2 : hz2 n g m h) : lpA51 n g m h x y := ⟨⟨⟨⟨⟨⟨⟨⟨⟨⟨⟨⟨⟨⟨⟨⟨⟨⟨⟨⟨⟨⟨⟨⟨⟨⟨⟨⟨⟨⟨⟨⟨⟨⟨⟨⟨⟨⟨⟨⟨⟨⟨⟨⟨⟨⟨⟨⟨⟨⟨⟨⟨⟨⟨⟨⟨⟨⟨⟨⟨⟨⟨⟨⟨⟨⟨⟨⟨⟨⟨⟨⟨⟨(lpB50 n g m h x y A B L M7_ N7_ P_ Q S_ b0 m0 n0 z1), nF X⟩, lpo33_h⟩, lpo34_h⟩, nT Y_⟩, lpo34_h⟩, eT A⟩, eF Y_⟩, ⟨rR, w9 N7_⟩⟩, ⟨rR, w9 M7_⟩⟩, lpo4_h⟩, lpo5_h⟩, nF A⟩, lpo25_h⟩, lpo26_h⟩, nF B⟩, lpo28_h⟩, lpo29_h⟩, ⟨rR, rR, b0⟩⟩, eF T_⟩, ⟨rR, z2⟩⟩, nF K⟩, lpo29_h⟩, ⟨rR, w9 N7_⟩⟩, ⟨rR, w9 M7_⟩⟩, lpo4_h⟩, lpo5_h⟩, nF A⟩, lpo25_h⟩, lpo26_h⟩, nF B⟩, lpo28_h⟩, lpo29_h⟩, ⟨rR, rR, b0⟩⟩, (decide_eq_true Q)⟩, ⟨rfl, n0, w8 N7_⟩⟩, ⟨rR, w9 N7_⟩⟩, eT rfl⟩, eT rfl⟩, eT rfl⟩, eT rfl⟩, eT rfl⟩, eT rfl⟩, eT rfl⟩, eT rfl⟩, eT A.symm⟩, eT A.symm⟩, eT A.symm⟩, eT A.symm⟩, lpo12_h⟩, lpo12_h⟩, lpo12_h⟩, lpo12_h⟩, eT p1y⟩, eT p1y⟩, eT p1y⟩, ⟨rR, rR, z1⟩⟩, eT p1y⟩, (decide_eq_true ⟨s1, s2⟩)⟩, (decide_eq_true ⟨s1, s2⟩)⟩, (decide_eq_true ⟨s1, s2⟩)⟩, (decide_eq_true ⟨s1, s2⟩)⟩, lpo11_h⟩, lpo11_h⟩, lpo11_h⟩, lpo13_h⟩, lpo14_h⟩, lpo11_h⟩, lpo15_h⟩, lpo15_h⟩, lpo15_h⟩, lpo15_h⟩, lpo57_h⟩, lpo57_h⟩
theorem lpB52 (n : Nat) (g : Nat → Nat → Int) (m : Nat) (h : Nat → Nat → Int) (x : Int) (y : Int) (A : hA n g) (B : hB m h) (K : hK n g m h) (L : hL n g m h) (M7_ : hM7_ m) (N7_ : hN7_ n) (P_ : hP_ x y) (Q : hQ n m) (S_ : hS_ n g m h) (T_ : hT_ n g m h) (X_ : hX_ x) (b0 : hb0 n m) (m0 : hm0 m) (n0 : hn0 n) (p1x : hp1x x y) (s1 : hs1 n g m h) (s2 : hs2 n g m h) (z1 : hz1 n g m h) (z2 : hz2 n g m h) : lpA52 n g m h x y := ⟨⟨⟨⟨⟨⟨⟨⟨⟨⟨⟨⟨⟨⟨⟨⟨⟨⟨⟨⟨⟨⟨⟨⟨⟨⟨⟨⟨⟨⟨⟨⟨⟨⟨⟨⟨⟨⟨⟨⟨⟨⟨⟨⟨⟨⟨⟨⟨⟨⟨⟨⟨⟨⟨⟨⟨⟨⟨⟨⟨⟨⟨⟨⟨⟨⟨⟨⟨⟨⟨(lpB50 n g m h x y A B L M7_ N7_ P_ Q S_ b0 m0 n0 z1), nT X_⟩, lpo26_h⟩, eT A⟩, eF X_⟩, ⟨rR, w9 N7_⟩⟩, ⟨rR, w9 M7_⟩⟩, lpo4_h⟩, lpo5_h⟩, nF A⟩, lpo25_h⟩, lpo26_h⟩, nF B⟩, lpo28_h⟩, lpo29_h⟩, ⟨rR, rR, b0⟩⟩, eF T_⟩, ⟨rR, z2⟩⟩, nF K⟩, lpo29_h⟩, ⟨rR, w9 N7_⟩⟩, ⟨rR, w9 M7_⟩⟩, lpo4_h⟩, lpo5_h⟩, nF A⟩, lpo25_h⟩, lpo26_h⟩, nF B⟩, lpo28_h⟩, lpo29_h⟩, ⟨rR, rR, b0⟩⟩, (decide_eq_true Q)⟩, ⟨rfl, n0, w8 N7_⟩⟩, ⟨rR, w9 N7_⟩⟩, eT rfl⟩, eT rfl⟩, eT rfl⟩, eT rfl⟩, eT rfl⟩, eT rfl⟩, eT rfl⟩, eT rfl⟩, eT A.symm⟩, eT A.symm⟩, eT A.symm⟩, eT A.symm⟩, lpo12_h⟩, lpo12_h⟩, lpo12_h⟩, lpo12_h⟩, eT p1x⟩, eT p1x⟩, eT p1x⟩, ⟨rR, rR, z1⟩⟩, eT p1x⟩, (decide_eq_true ⟨s1, s2⟩)⟩, (decide_eq_true ⟨s1, s2⟩)⟩, (decide_eq_true ⟨s1, s2⟩)⟩, (decide_eq_true ⟨s1, s2⟩)⟩, lpo11_h⟩, lpo11_h⟩, lpo11_h⟩, lpo13_h⟩, lpo14_h⟩, lpo11_h⟩, lpo15_h⟩, lpo15_h⟩, lpo15_h⟩, lpo15_h⟩, lpo57_h⟩, lpo57_h⟩
theorem lpB53 (n : Nat) (g : Nat → Nat → Int) (m : Nat) (h : Nat → Nat → Int) (x : Int) (y : Int) (A : hA n g) (B : hB m h) (L : hL n g m h) (M7_ : hM7_ m) (N7_ : hN7_ n) (P_ : hP_ x y) (Q_ : hQ_ n m) (S_ : hS_ n g m h) (b0 : hb0 n m) (m0 : hm0 m) (n0 : hn0 n) (z1 : hz1 n g m h) : lpA53 n g m h x y := ⟨⟨(lpB49 n g m h x y A B L M7_ N7_ P_ S_ b0 m0 n0 z1), (decide_eq_false Q_)⟩, ⟨rR, wq b0⟩⟩
theorem lpB54 (n : Nat) (g : Nat → Nat → Int) (m : Nat) (h : Nat → Nat → Int) (x : Int) (y : Int) (A : hA n g) (B : hB m h) (L : hL n g m h) (M7_ : hM7_ m) (N7_ : hN7_ n) (P_ : hP_ x y) (Q_ : hQ_ n m) (S_ : hS_ n g m h) (U : hU n g m h) (b0 : hb0 n m) (m0 : hm0 m) (n0 : hn0 n) (z1 : hz1 n g m h) : lpA54 n g m h x y := ⟨⟨⟨⟨⟨⟨⟨⟨⟨(lpB53 n g m h x y A B L M7_ N7_ P_ Q_ S_ b0 m0 n0 z1), nF U⟩, ⟨rR, w9 N7_⟩⟩, lpo3_h⟩, lpo3_h⟩, lpo7_h⟩, lpo5_h⟩, nF A⟩, lpo31_h⟩, lpo26_h⟩
theorem lpB55 (n : Nat) (g : Nat → Nat → Int) (m : Nat) (h : Nat → Nat → Int) (x : Int) (y : Int) (A : hA n g) (B : hB m h) (K : hK n g m h) (L : hL n g m h) (M7_ : hM7_ m) (N7_ : hN7_ n) (P_ : hP_ x y) (Q_ : hQ_ n m) (S_ : hS_ n g m h) (T_ : hT_ n g m h) (U : hU n g m h) (X : hX x) (Y_ : hY_ y) (b0 : hb0 n m) (m0 : hm0 m) (n0 : hn0 n) (p1y : hp1y x y) (s1 : hs1 n g m h) (s2 : hs2 n g m h) (z1 : hz1 n g m h) (z2 : hz2 n g m h) : lpA55 n g m h x y := ⟨⟨⟨⟨⟨⟨⟨⟨⟨⟨⟨⟨⟨⟨⟨⟨⟨⟨⟨⟨⟨⟨⟨⟨⟨⟨⟨⟨⟨⟨⟨⟨⟨⟨⟨⟨⟨⟨⟨⟨⟨⟨⟨⟨⟨⟨⟨⟨⟨⟨⟨⟨⟨⟨⟨⟨⟨⟨⟨⟨⟨⟨⟨⟨⟨⟨⟨⟨⟨⟨⟨⟨⟨⟨⟨(lpB54 n g m h x y A B L M7_ N7_ P_ Q_ S_ U b0 m0 n0 z1), nF X⟩, lpo33_h⟩, lpo34_h⟩, nT Y_⟩, lpo34_h⟩, eT A⟩, eF Y_⟩, ⟨rR, w9 N7_⟩⟩, ⟨rR, w9 M7_⟩⟩, lpo4_h⟩, lpo5_h⟩, nF A⟩, lpo25_h⟩, lpo26_h⟩, nF B⟩, lpo28_h⟩, lpo29_h⟩, ⟨rR, rR, b0⟩⟩, eF T_⟩, ⟨rR, z2⟩⟩, nF K⟩, lpo29_h⟩, ⟨rR, w9 N7_⟩⟩, ⟨rR, w9 M7_⟩⟩, lpo4_h⟩, lpo5_h⟩, nF A⟩, lpo25_h⟩, lpo26_h⟩, nF B⟩, lpo28_h⟩, lpo29_h⟩, ⟨rR, rR, b0⟩⟩, (decide_eq_false Q_)⟩, ⟨rR, wq b0⟩⟩, nF U⟩, lpo29_h⟩, ⟨rfl, n0, w8 N7_⟩⟩, ⟨rR, w9 N7_⟩⟩, eT rfl⟩, eT rfl⟩, eT rfl⟩, eT rfl⟩, eT rfl⟩, eT rfl⟩, eT rfl⟩, eT rfl⟩, eT A.symm⟩, eT A.symm⟩, eT A.symm⟩, eT A.symm⟩, lpo12_h⟩, lpo12_h⟩, lpo12_h⟩, lpo12_h⟩, eT p1y⟩, eT p1y⟩, eT p1y⟩, ⟨rR, rR, z1⟩⟩, eT p1y⟩, (decide_eq_true ⟨s1, s2⟩)⟩, (decide_eq_true ⟨s1, s2⟩)⟩, (decide_eq_true ⟨s1, s2⟩)⟩, (decide_eq_true ⟨s1, s2⟩)⟩, lpo11_h⟩, lpo11_h⟩, lpo11_h⟩, ⟨rR, rR, wq b0⟩⟩, lpo11_h⟩, (decide_eq_true ⟨rfl, fun _ _ => rfl⟩)⟩, (decide_eq_true ⟨rfl, fun _ _ => rfl⟩)⟩, (decide_eq_true ⟨rfl, fun _ _ => rfl⟩)⟩, (decide_eq_true ⟨rfl, fun _ _ => rfl⟩)⟩, lpo11_h⟩, lpo11_h⟩
theorem lpB56 (n : Nat) (g : Nat → Nat → Int) (m : Nat) (h : Nat → Nat → Int) (x : Int) (y : Int) (A : hA n g) (B : hB m h) (K : hK n g m h) (L : hL n g m h) (M7_ : hM7_ m) (N7_ : hN7_ n) (P_ : hP_ x y) (Q_ : hQ_ n m) (S_ : hS_ n g m h) (T_ : hT_ n g m h) (U : hU n g m h) (X_ : hX_ x) (b0 : hb0 n m) (m0 : hm0 m) (n0 : hn0 n) (p1x : hp1x x y) (s1 : hs1 n g m h) (s2 : hs2 n g m h) (z1 : hz1 n g m h) (z2 : hz2 n g m h) : lpA56 n g m h x y := ⟨⟨⟨⟨⟨⟨⟨⟨⟨⟨⟨⟨⟨⟨⟨⟨⟨⟨⟨⟨⟨⟨⟨⟨⟨⟨⟨⟨⟨⟨⟨⟨⟨⟨⟨⟨⟨⟨⟨⟨⟨⟨⟨⟨⟨⟨⟨⟨⟨⟨⟨⟨⟨⟨⟨⟨⟨⟨⟨⟨⟨⟨⟨⟨⟨⟨⟨⟨⟨⟨⟨⟨(lpB54 n g m h x y A B L M7_ N7_ P_ Q_ S_ U b0 m0 n0 z1), nT X_⟩, lpo26_h⟩, eT A⟩, eF X_⟩, ⟨rR, w9 N7_⟩⟩, ⟨rR, w9 M7_⟩⟩, lpo4_h⟩, lpo5_h⟩, nF A⟩, lpo25_h⟩, lpo26_h⟩, nF B⟩, lpo28_h⟩, lpo29_h⟩, ⟨rR, rR, b0⟩⟩, eF T_⟩, ⟨rR, z2⟩⟩, nF K⟩, lpo29_h⟩, ⟨rR, w9 N7_⟩⟩, ⟨rR, w9 M7_⟩⟩, lpo4_h⟩, lpo5_h⟩, nF A⟩, lpo25_h⟩, lpo26_h⟩, nF B⟩, lpo28_h⟩, lpo29_h⟩, ⟨rR, rR, b0⟩⟩, (decide_eq_false Q_)⟩, ⟨rR, wq b0⟩⟩, nF U⟩, lpo29_h⟩, ⟨rfl, n0, w8 N7_⟩⟩, ⟨rR, w9 N7_⟩⟩, eT rfl⟩, eT rfl⟩, eT rfl⟩, eT rfl⟩, eT rfl⟩, eT rfl⟩, eT rfl⟩, eT rfl⟩, eT A.symm⟩, eT A.symm⟩, eT A.symm⟩, eT A.symm⟩, lpo12_h⟩, lpo12_h⟩, lpo12_h⟩, lpo12_h⟩, eT p1x⟩, eT p1x⟩, eT p1x⟩, ⟨rR, rR, z1⟩⟩, eT p1x⟩, (decide_eq_true ⟨s1, s2⟩)⟩, (decide_eq_true ⟨s1, s2⟩)⟩, (decide_eq_true ⟨s1, s2⟩)⟩, (decide_eq_true ⟨s1, s2⟩)⟩, lpo11_h⟩, lpo11_h⟩, lpo11_h⟩, ⟨rR, rR, wq b0⟩⟩, lpo11_h⟩, (decide_eq_true ⟨rfl, fun _ _ => rfl⟩)⟩, (decide_eq_true ⟨rfl, fun _ _ => rfl⟩)⟩, (decide_eq_true ⟨rfl, fun _ _ => rfl⟩)⟩, (decide_eq_true ⟨rfl, fun _ _ => rfl⟩)⟩, lpo11_h⟩, lpo11_h⟩
theorem lpB57 (n : Nat) (g : Nat → Nat → Int) (m : Nat) (h : Nat → Nat → Int) (x : Int) (y : Int) (A : hA n g) (B : hB m h) (L : hL n g m h) (M7_ : hM7_ m) (N7_ : hN7_ n) (P_ : hP_ x y) (Q_ : hQ_ n m) (S_ : hS_ n g m h) (U_ : hU_ n g m h) (b0 : hb0 n m) (m0 : hm0 m) (n0 : hn0 n) (z1 : hz1 n g m h) : lpA57 n g m h x y := ⟨⟨⟨⟨⟨⟨⟨⟨⟨(lpB53 n g m h x y A B L M7_ N7_ P_ Q_ S_ b0 m0 n0 z1), nT U_⟩, ⟨rR, w9 N7_⟩⟩, lpo3_h⟩, lpo3_h⟩, lpo7_h⟩, lpo5_h⟩, nF A⟩, lpo31_h⟩, lpo26_h⟩
theorem lpB58 (n : Nat) (g : Nat → Nat → Int) (m : Nat) (h : Nat → Nat → Int) (x : Int) (y : Int) (A : hA n g) (B : hB m h) (K : hK n g m h) (L : hL n g m h) (M7_ : hM7_ m) (N7_ : hN7_ n) (P_ : hP_ x y) (Q_ : hQ_ n m) (S_ : hS_ n g m h) (T_ : hT_ n g m h) (U_ : hU_ n g m h) (X : hX x) (Y_ : hY_ y) (b0 : hb0 n m) (m0 : hm0 m) (n0 : hn0 n) (p1y : hp1y x y) (s1 : hs1 n g m h) (s2 : hs2 n g m h) (z1 : hz1 n g m h) (z2 : hz2 n g m h) : lpA58 n g m h x y := ⟨⟨⟨⟨⟨⟨⟨⟨⟨⟨⟨⟨⟨⟨⟨⟨⟨⟨⟨⟨⟨⟨⟨⟨⟨⟨⟨⟨⟨⟨⟨⟨⟨⟨⟨⟨⟨⟨⟨⟨⟨⟨⟨⟨⟨⟨⟨⟨⟨⟨⟨⟨⟨⟨⟨⟨⟨⟨⟨⟨⟨⟨⟨⟨⟨⟨⟨⟨⟨⟨⟨⟨⟨⟨⟨⟨(lpB57 n g m h x y A B L M7_ N7_ P_ Q_ S_ U_ b0 m0 n0 z1), nF X⟩, lpo33_h⟩, lpo34_h⟩, nT Y_⟩, lpo34_h⟩, eT A⟩, eF Y_⟩, ⟨rR, w9 N7_⟩⟩, ⟨rR, w9 M7_⟩⟩, lpo4_h⟩, lpo5_h⟩, nF A⟩, lpo25_h⟩, lpo26_h⟩, nF B⟩, lpo28_h⟩, lpo29_h⟩, ⟨rR, rR, b0⟩⟩, eF T_⟩, ⟨rR, z2⟩⟩, nF K⟩, lpo29_h⟩, ⟨rR, w9 N7_⟩⟩, ⟨rR, w9 M7_⟩⟩, lpo4_h⟩, lpo5_h⟩, nF A⟩, lpo25_h⟩, lpo26_h⟩, nF B⟩, lpo28_h⟩, lpo29_h⟩, ⟨rR, rR, b0⟩⟩, (decide_eq_false Q_)⟩, ⟨rR, wq b0⟩⟩, nT U_⟩, lpo64_h⟩, ⟨rfl, n0, w8 N7_⟩⟩, ⟨rR, w9 N7_⟩⟩, eT rfl⟩, eT rfl⟩, eT rfl⟩, eT rfl⟩, eT rfl⟩, eT rfl⟩, eT rfl⟩, eT rfl⟩, eT A.symm⟩, eT A.symm⟩, eT A.symm⟩, eT A.symm⟩, lpo12_h⟩, lpo12_h⟩, lpo12_h⟩, lpo12_h⟩, eT p1y⟩, eT p1y⟩, eT p1y⟩, ⟨rR, rR, z1⟩⟩, eT p1y⟩, (decide_eq_true ⟨s1, s2⟩)⟩, (decide_eq_true ⟨s1, s2⟩)⟩, (decide_eq_true ⟨s1, s2⟩)⟩, (decide_eq_true ⟨s1, s2⟩)⟩, lpo11_h⟩, lpo11_h⟩, lpo11_h⟩, lpo13_h⟩, lpo14_h⟩, lpo11_h⟩, lpo15_h⟩, lpo15_h⟩, lpo15_h⟩, lpo15_h⟩, lpo65_h⟩, lpo65_h⟩
theorem lpB59 (n : Nat) (g : Nat → Nat → Int) (m : Nat) (h : Nat → Nat → Int) (x : Int) (y : Int) (A : hA n g) (B : hB m h) (K : hK n g m h) (L : hL n g m h) (M7_ : hM7_ m) (N7_ : hN7_ n) (P_ : hP_ x y) (Q_ : hQ_ n m) (S_ : hS_ n g m h) (T_ : hT_ n g m h) (U_ : hU_ n g m h) (X_ : hX_ x) (b0 : hb0 n m) (m0 : hm0 m) (n0 : hn0 n) (p1x : hp1x x y) (s1 : hs1 n g m h) (s2 : hs2 n g m h) (z1 : hz1 n g m h) (z2 : hz2 n g m h) : lpA59 n g m h x y := ⟨⟨⟨⟨⟨⟨⟨⟨⟨⟨⟨⟨⟨⟨⟨⟨⟨⟨⟨⟨⟨⟨⟨⟨⟨⟨⟨⟨⟨⟨⟨⟨⟨⟨⟨⟨⟨⟨⟨⟨⟨⟨⟨⟨⟨⟨⟨⟨⟨⟨⟨⟨⟨⟨⟨⟨⟨⟨⟨⟨⟨⟨⟨⟨⟨⟨⟨⟨⟨⟨⟨⟨⟨(lpB57 n g m h x y A B L M7_ N7_ P_ Q_ S_ U_ b0 m0 n0 z1), nT X_⟩, lpo26_h⟩, eT A⟩, eF X_⟩, ⟨rR, w9 N7_⟩⟩, ⟨rR, w9 M7_⟩⟩, lpo4_h⟩, lpo5_h⟩, nF A⟩, lpo25_h⟩, lpo26_h⟩, nF B⟩, lpo28_h⟩, lpo29_h⟩, ⟨rR, rR, b0⟩⟩, eF T_⟩, ⟨rR, z2⟩⟩, nF K⟩, lpo29_h⟩, ⟨rR, w9 N7_⟩⟩, ⟨rR, w9 M7_⟩⟩, lpo4_h⟩, lpo5_h⟩, nF A⟩, lpo25_h⟩, lpo26_h⟩, nF B⟩, lpo28_h⟩, lpo29_h⟩, ⟨rR, rR, b0⟩⟩, (decide_eq_false Q_)⟩, ⟨rR, wq b0⟩⟩, nT U_⟩, lpo64_h⟩, ⟨rfl, n0, w8 N7_⟩⟩, ⟨rR, w9 N7_⟩⟩, eT rfl⟩, eT rfl⟩, eT rfl⟩, eT rfl⟩, eT rfl⟩, eT rfl⟩, eT rfl⟩, eT rfl⟩, eT A.symm⟩, eT A.symm⟩, eT A.symm⟩, eT A.symm⟩, lpo12_h⟩, lpo12_h⟩, lpo12_h⟩, lpo12_h⟩, eT p1x⟩, eT p1x⟩, eT p1x⟩, ⟨rR, rR, z1⟩⟩, eT p1x⟩, (decide_eq_true ⟨s1, s2⟩)⟩, (decide_eq_true ⟨s1, s2⟩)⟩, (decide_eq_true ⟨s1, s2⟩)⟩, (decide_eq_true ⟨s1, s2⟩)⟩, lpo11_h⟩, lpo11_h⟩, lpo11_h⟩, lpo13_h⟩, lpo14_h⟩, lpo11_h⟩, lpo15_h⟩, lpo15_h⟩, lpo15_h⟩, lpo15_h⟩, lpo65_h⟩, lpo65_h⟩
theorem lpB60 (n : Nat) (g : Nat → Nat → Int) (m : Nat) (h : Nat → Nat → Int) (x : Int) (y : Int) (A : hA n g) (B : hB m h) (L_ : hL_ n g m h) (M7_ : hM7_ m) (N7_ : hN7_ n) (P_ : hP_ x y) (S_ : hS_ n g m h) (b0 : hb0 n m) (m0 : hm0 m) (n0 : hn0 n) (z1 : hz1 n g m h) : lpA60 n g m h x y := ⟨⟨⟨⟨⟨⟨⟨⟨⟨⟨⟨⟨⟨⟨(lpB48 n g m h x y A B M7_ N7_ P_ S_ b0 m0 n0 z1), nT L_⟩, ⟨rfl, n0, w8 N7_⟩⟩, ⟨rfl, m0, w8 M7_⟩⟩, ⟨rR, w9 N7_⟩⟩, ⟨rR, w9 M7_⟩⟩, lpo4_h⟩, lpo5_h⟩, nF A⟩, lpo25_h⟩, lpo26_h⟩, nF B⟩, lpo28_h⟩, lpo29_h⟩, ⟨rR, rR, b0⟩⟩
theorem lpB61 (n : Nat) (g : Nat → Nat → Int) (m : Nat) (h : Nat → Nat → Int) (x : Int) (y : Int) (A : hA n g) (B : hB m h) (L_ : hL_ n g m h) (M7_ : hM7_ m) (N7_ : hN7_ n) (P_ : hP_ x y) (Q : hQ n m) (S_ : hS_ n g m h) (b0 : hb0 n m) (m0 : hm0 m) (n0 : hn0 n) (z1 : hz1 n g m h) : lpA61 n g m h x y := ⟨⟨⟨⟨⟨⟨⟨⟨⟨(lpB60 n g m h x y A B L_ M7_ N7_ P_ S_ b0 m0 n0 z1), (decide_eq_true Q)⟩, ⟨rR, w9 N7_⟩⟩, lpo3_h⟩, lpo3_h⟩, lpo7_h⟩, lpo5_h⟩, nF A⟩, lpo31_h⟩, lpo26_h⟩
theorem lpB62 (n : Nat) (g : Nat → Nat → Int) (m : Nat) (h : Nat → Nat → Int) (x : Int) (y : Int) (A : hA n g) (B : hB m h) (K_ : hK_ n g m h) (L_ : hL_ n g m h) (M7_ : hM7_ m) (N7_ : hN7_ n) (P_ : hP_ x y) (Q : hQ n m) (S_ : hS_ n g m h) (T_ : hT_ n g m h) (X : hX x) (Y_ : hY_ y) (b0 : hb0 n m) (m0 : hm0 m) (n0 : hn0 n) (p1y : hp1y x y) (z1 : hz1 n g m h) (z2 : hz2 n g m h) : lpA62 n g m h x y := ⟨⟨⟨⟨⟨⟨⟨⟨⟨⟨⟨⟨⟨⟨⟨⟨⟨⟨⟨⟨⟨⟨⟨⟨⟨⟨⟨⟨⟨⟨⟨⟨⟨⟨⟨⟨⟨⟨⟨⟨⟨⟨⟨⟨⟨⟨⟨⟨⟨⟨⟨⟨⟨⟨⟨⟨⟨⟨⟨⟨⟨⟨⟨⟨⟨⟨⟨⟨⟨⟨⟨⟨⟨⟨(lpB61 n g m h x y A B L_ M7_ N7_ P_ Q S_ b0 m0 n0 z1), nF X⟩, lpo33_h⟩, lpo34_h⟩, nT Y_⟩, lpo34_h⟩, eT A⟩, eF Y_⟩, ⟨rR, w9 N7_⟩⟩, ⟨rR, w9 M7_⟩⟩, lpo4_h⟩, lpo5_h⟩, nF A⟩, lpo25_h⟩, lpo26_h⟩, nF B⟩, lpo28_h⟩, lpo29_h⟩, ⟨rR, rR, b0⟩⟩, eF T_⟩, ⟨rR, z2⟩⟩, nT K_⟩, lpo64_h⟩, ⟨rR, w9 N7_⟩⟩, ⟨rR, w9 M7_⟩⟩, lpo4_h⟩, lpo5_h⟩, nF A⟩, lpo25_h⟩, lpo26_h⟩, nF B⟩, lpo28_h⟩, lpo29_h⟩, ⟨rR, rR, b0⟩⟩, (decide_eq_true Q)⟩, ⟨rfl, n0, w8 N7_⟩⟩, ⟨rR, w9 N7_⟩⟩, eT rfl⟩, eT rfl⟩, eT rfl⟩, eT rfl⟩, eT rfl⟩, eT rfl⟩, eT rfl⟩, eT rfl⟩, eT A.symm⟩, eT A.symm⟩, eT A.symm⟩, eT A.symm⟩, lpo12_h⟩, lpo12_h⟩, lpo12_h⟩, lpo12_h⟩, eT p1y⟩, eT p1y⟩, eT p1y⟩, lpo13_h⟩, lpo14_h⟩, eT p1y⟩, lpo15_h⟩, lpo15_h⟩, lpo15_h⟩, lpo15_h⟩, lpo65_h⟩, lpo65_h⟩, lpo65_h⟩, lpo13_h⟩, lpo14_h⟩, lpo65_h⟩, lpo15_h⟩, lpo15_h⟩, lpo15_h⟩, lpo15_h⟩, lpo57_h⟩, lpo57_h⟩
theorem lpB63 (n : Nat) (g : Nat → Nat → Int) (m : Nat) (h : Nat → Nat → Int) (x : Int) (y : Int) (A : hA n g) (B : hB m h) (K_ : hK_ n g m h) (L_ : hL_ n g m h) (M7_ : hM7_ m) (N7_ : hN7_ n) (P_ : hP_ x y) (Q : hQ n m) (S_ : hS_ n g m h) (T_ : hT_ n g m h) (X_ : hX_ x) (b0 : hb0 n m) (m0 : hm0 m) (n0 : hn0 n) (p1x : hp1x x y) (z1 : hz1 n g m h) (z2 : hz2 n g m h) : lpA63 n g m h x y := ⟨⟨⟨⟨⟨⟨⟨⟨⟨⟨⟨⟨⟨⟨⟨⟨⟨⟨⟨⟨⟨⟨⟨⟨⟨⟨⟨⟨⟨⟨⟨⟨⟨⟨⟨⟨⟨⟨⟨⟨⟨⟨⟨⟨⟨⟨⟨⟨⟨⟨⟨⟨⟨⟨⟨⟨⟨⟨⟨⟨⟨⟨⟨⟨⟨⟨⟨⟨⟨⟨⟨(lpB61 n g m h x y A B L_ M7_ N7_ P_ Q S_ b0 m0 n0 z1), nT X_⟩, lpo26_h⟩, eT A⟩, eF X_⟩, ⟨rR, w9 N7_⟩⟩, ⟨rR, w9 M7_⟩⟩, lpo4_h⟩, lpo5_h⟩, nF A⟩, lpo25_h⟩, lpo26_h⟩, nF B⟩, lpo28_h⟩, lpo29_h⟩, ⟨rR, rR, b0⟩⟩, eF T_⟩, ⟨rR, z2⟩⟩, nT K_⟩, lpo64_h⟩, ⟨rR, w9 N7_⟩⟩, ⟨rR, w9 M7_⟩⟩, lpo4_h⟩, lpo5_h⟩, nF A⟩, lpo25_h⟩, lpo26_h⟩, nF B⟩, lpo28_h⟩, lpo29_h⟩, ⟨rR, rR, b0⟩⟩, (decide_eq_true Q)⟩, ⟨rfl, n0, w8 N7_⟩⟩, ⟨rR, w9 N7_⟩⟩, eT rfl⟩, eT rfl⟩, eT rfl⟩, eT rfl⟩, eT rfl⟩, eT rfl⟩, eT rfl⟩, eT rfl⟩, eT A.symm⟩, eT A.symm⟩, eT A.symm⟩, eT A.symm⟩, lpo12_h⟩, lpo12_h⟩, lpo12_h⟩, lpo12_h⟩, eT p1x⟩, eT p1x⟩, eT p1x⟩, lpo13_h⟩, lpo14_h⟩, eT p1x⟩, lpo15_h⟩, lpo15_h⟩, lpo15_h⟩, lpo15_h⟩, lpo65_h⟩, lpo65_h⟩, lpo65_h⟩, lpo13_h⟩, lpo14_h⟩, lpo65_h⟩, lpo15_h⟩, lpo15_h⟩, lpo15_h⟩, lpo15_h⟩, lpo57_h⟩, lpo57_h⟩
theorem lpB64 (n : Nat) (g : Nat → Nat → Int) (m : Nat) (h : Nat → Nat → Int) (x : Int) (y : Int) (A : hA n g) (B : hB m h) (L_ : hL_ n g m h) (M7_ : hM7_ m) (N7_ : hN7_ n) (P_ : hP_ x y) (Q_ : hQ_ n m) (S_ : hS_ n g m h) (b0 : hb0 n m) (m0 : hm0 m) (n0 : hn0 n) (z1 : hz1 n g m h) : lpA64 n g m h x y := ⟨⟨(lpB60 n g m h x y A B L_ M7_ N7_ P_ S_ b0 m0 n0 z1), (decide_eq_false Q_)⟩, ⟨rR, wq b0⟩⟩
theorem lpB65 (n : Nat) (g : Nat → Nat → Int) (m : Nat) (h : Nat → Nat → Int) (x : Int) (y : Int) (A : hA n g) (B : hB m h) (L_ : hL_ n g m h) (M7_ : hM7_ m) (N7_ : hN7_ n) (P_ : hP_ x y) (Q_ : hQ_ n m) (S_ : hS_ n g m h) (U : hU n g m h) (b0 : hb0 n m) (m0 : hm0 m) (n0 : hn0 n) (z1 : hz1 n g m h) : lpA65 n g m h x y := ⟨⟨⟨⟨⟨⟨⟨⟨⟨(lpB64 n g m h x y A B L_ M7_ N7_ P_ Q_ S_ b0 m0 n0 z1), nF U⟩, ⟨rR, w9 N7_⟩⟩, lpo3_h⟩, lpo3_h⟩, lpo7_h⟩, lpo5_h⟩, nF A⟩, lpo31_h⟩, lpo26_h⟩
theorem lpB66 (n : Nat) (g : Nat → Nat → Int) (m : Nat) (h : Nat → Nat → Int) (x : Int) (y : Int) (A : hA n g) (B : hB m h) (K_ : hK_ n g m h) (L_ : hL_ n g m h) (M7_ : hM7_ m) (N7_ : hN7_ n) (P_ : hP_ x y) (Q_ : hQ_ n m) (S_ : hS_ n g m h) (T_ : hT_ n g m h) (U : hU n g m h) (X : hX x) (Y_ : hY_ y) (b0 : hb0 n m) (m0 : hm0 m) (n0 : hn0 n) (p1y : hp1y x y) (z1 : hz1 n g m h) (z2 : hz2 n g m h) : lpA66 n g m h x y := ⟨⟨⟨⟨⟨⟨⟨⟨⟨⟨⟨⟨⟨⟨⟨⟨⟨⟨⟨⟨⟨⟨⟨⟨⟨⟨⟨⟨⟨⟨⟨⟨⟨⟨⟨⟨⟨⟨⟨⟨⟨⟨⟨⟨⟨⟨⟨⟨⟨⟨⟨⟨⟨⟨⟨⟨⟨⟨⟨⟨⟨⟨⟨⟨⟨⟨⟨⟨⟨⟨⟨⟨⟨⟨⟨⟨(lpB65 n g m h x y A B L_ M7_ N7_ P_ Q_ S_ U b0 m0 n0 z1), nF X⟩, lpo33_h⟩, lpo34_h⟩, nT Y_⟩, lpo34_h⟩, eT A⟩, eF Y_⟩, ⟨rR, w9 N7_⟩⟩, ⟨rR, w9 M7_⟩⟩, lpo4_h⟩, lpo5_h⟩, nF A⟩, lpo25_h⟩, lpo26_h⟩, nF B⟩, lpo28_h⟩, lpo29_h⟩, ⟨rR, rR, b0⟩⟩, eF T_⟩, ⟨rR, z2⟩⟩, nT K_⟩, lpo64_h⟩, ⟨rR, w9 N7_⟩⟩, ⟨rR, w9 M7_⟩⟩, lpo4_h⟩, lpo5_h⟩, nF A⟩, lpo25_h⟩, lpo26_h⟩, nF B⟩, lpo28_h⟩, lpo29_h⟩, ⟨rR, rR, b0⟩⟩, (decide_eq_false Q_)⟩, ⟨rR, wq b0⟩⟩, nF U⟩, lpo29_h⟩, ⟨rfl, n0, w8 N7_⟩⟩, ⟨rR, w9 N7_⟩⟩, eT rfl⟩, eT rfl⟩, eT rfl⟩, eT rfl⟩, eT rfl⟩, eT rfl⟩, eT rfl⟩, eT rfl⟩, eT A.symm⟩, eT A.symm⟩, eT A.symm⟩, eT A.symm⟩, lpo12_h⟩, lpo12_h⟩, lpo12_h⟩, lpo12_h⟩, eT p1y⟩, eT p1y⟩, eT p1y⟩, lpo13_h⟩, lpo14_h⟩, eT p1y⟩, lpo15_h⟩, lpo15_h⟩, lpo15_h⟩, lpo15_h⟩, lpo65_h⟩, lpo65_h⟩, lpo65_h⟩, ⟨rR, rR, wq b0⟩⟩, lpo65_h⟩, (decide_eq_true ⟨rfl, fun _ _ => rfl⟩)⟩, (decide_eq_true ⟨rfl, fun _ _ => rfl⟩)⟩, (decide_eq_true ⟨rfl, fun _ _ => rfl⟩)⟩, (decide_eq_true ⟨rfl, fun _ _ => rfl⟩)⟩, lpo11_h⟩, lpo11_h⟩
theorem lpB67 (n : Nat) (g : Nat → Nat → Int) (m : Nat) (h : Nat → Nat → Int) (x : Int) (y : Int) (A : hA n g) (B : hB m h) (K_ : hK_ n g m h) (L_ : hL_ n g m h) (M7_ : hM7_ m) (N7_ : hN7_ n) (P_ : hP_ x y) (Q_ : hQ_ n m) (S_ : hS_ n g m h) (T_ : hT_ n g m h) (U : hU n g m h) (X_ : hX_ x) (b0 : hb0 n m) (m0 : hm0 m) (n0 : hn0 n) (p1x : hp1x x y) (z1 : hz1 n g m h) (z2 : hz2 n g m h) : lpA67 n g m h x y := ⟨⟨⟨⟨⟨⟨⟨⟨⟨⟨⟨⟨⟨⟨⟨⟨⟨⟨⟨⟨⟨⟨⟨⟨⟨⟨⟨⟨⟨⟨⟨⟨⟨⟨⟨⟨⟨⟨⟨⟨⟨⟨⟨⟨⟨⟨⟨⟨⟨⟨⟨⟨⟨⟨⟨⟨⟨⟨⟨⟨⟨⟨⟨⟨⟨⟨⟨⟨⟨⟨⟨⟨⟨(lpB65 n g m h x y A B L_ M7_ N7_ P_ Q_ S_ U b0 m0 n0 z1), nT X_⟩, lpo26_h⟩, eT A⟩, eF X_⟩, ⟨rR, w9 N7_⟩⟩, ⟨rR, w9 M7_⟩⟩, lpo4_h⟩, lpo5_h⟩, nF A⟩, lpo25_h⟩, lpo26_h⟩, nF B⟩, lpo28_h⟩, lpo29_h⟩, ⟨rR, rR, b0⟩⟩, eF T_⟩, ⟨rR, z2⟩⟩, nT K_⟩, lpo64_h⟩, ⟨rR, w9 N7_⟩⟩, ⟨rR, w9 M7_⟩⟩, lpo4_h⟩, lpo5_h⟩, nF A⟩, lpo25_h⟩, lpo26_h⟩, nF B⟩, lpo28_h⟩, lpo29_h⟩, ⟨rR, rR, b0⟩⟩, (decide_eq_false Q_)⟩, ⟨rR, wq b0⟩⟩, nF U⟩, lpo29_h⟩, ⟨rfl, n0, w8 N7_⟩⟩, ⟨rR, w9 N7_⟩⟩, eT rfl⟩, eT rfl⟩, eT rfl⟩, eT rfl⟩, eT rfl⟩, eT rfl⟩, eT rfl⟩, eT rfl⟩, eT A.symm⟩, eT A.symm⟩, eT A.symm⟩, eT A.symm⟩, lpo12_h⟩, lpo12_h⟩, lpo12_h⟩, lpo12_h⟩, eT p1x⟩, eT p1x⟩, eT p1x⟩, lpo13_h⟩, lpo14_h⟩, eT p1x⟩, lpo15_h⟩, lpo15_h⟩, lpo15_h⟩, lpo15_h⟩, lpo65_h⟩, lpo65_h⟩, lpo65_h⟩, ⟨rR, rR, wq b0⟩⟩, lpo65_h⟩, (decide_eq_true ⟨rfl, fun _ _ => rfl⟩)⟩, (decide_eq_true ⟨rfl, fun _ _ => rfl⟩)⟩, (decide_eq_true ⟨rfl, fun _ _ => rfl⟩)⟩, (decide_eq_true ⟨rfl, fun _ _ => rfl⟩)⟩, lpo11_h⟩, lpo11_h⟩
theorem lpB68 (n : Nat) (g : Nat → Nat → Int) (m : Nat) (h : Nat → Nat → Int) (x : Int) (y : Int) (A : hA n g) (B : hB m h) (L_ : hL_ n g m h) (M7_ : hM7_ m) (N7_ : hN7_ n) (P_ : hP_ x y) (Q_ : hQ_ n m) (S_ : hS_ n g m h) (U_ : hU_ n g m h) (b0 : hb0 n m) (m0 : hm0 m) (n0 : hn0 n) (z1 : hz1 n g m h) : lpA68 n g m h x y := ⟨⟨⟨⟨⟨⟨⟨⟨⟨(lpB64 n g m h x y A B L_ M7_ N7_ P_ Q_ S_ b0 m0 n0 z1), nT U_⟩, ⟨rR, w9 N7_⟩⟩, lpo3_h⟩, lpo3_h⟩, lpo7_h⟩, lpo5_h⟩, nF A⟩, lpo31_h⟩, lpo26_h⟩
theorem lpB69 (n : Nat) (g : Nat → Nat → Int) (m : Nat) (h : Nat → Nat → Int) (x : Int) (y : Int) (A : hA n g) (B : hB m h) (K_ : hK_ n g m h) (L_ : hL_ n g m h) (M7_ : hM7_ m) (N7_ : hN7_ n) (P_ : hP_ x y) (Q_ : hQ_ n m) (S_ : hS_ n g m h) (T_ : hT_ n g m h) (U_ : hU_ n g m h) (X : hX x) (Y_ : hY_ y) (b0 : hb0 n m) (m0 : hm0 m) (n0 : hn0 n) (p1y : hp1y x y) (z1 : hz1 n g m h) (z2 : hz2 n g m h) : lpA69 n g m h x y := ⟨⟨⟨⟨⟨⟨⟨⟨⟨⟨⟨⟨⟨⟨⟨⟨⟨⟨⟨⟨⟨⟨⟨⟨⟨⟨⟨⟨⟨⟨⟨⟨⟨⟨⟨⟨⟨⟨⟨⟨⟨⟨⟨⟨⟨⟨⟨⟨⟨⟨⟨⟨⟨⟨⟨⟨⟨⟨⟨⟨⟨⟨⟨⟨⟨⟨⟨⟨⟨⟨⟨⟨⟨⟨⟨⟨⟨(lpB68 n g m h x y A B L_ M7_ N7_ P_ Q_ S_ U_ b0 m0 n0 z1), nF X⟩, lpo33_h⟩, lpo34_h⟩, nT Y_⟩, lpo34_h⟩, eT A⟩, eF Y_⟩, ⟨rR, w9 N7_⟩⟩, ⟨rR, w9 M7_⟩⟩, lpo4_h⟩, lpo5_h⟩, nF A⟩, lpo25_h⟩, lpo26_h⟩, nF B⟩, lpo28_h⟩, lpo29_h⟩, ⟨rR, rR, b0⟩⟩, eF T_⟩, ⟨rR, z2⟩⟩, nT K_⟩, lpo64_h⟩, ⟨rR, w9 N7_⟩⟩, ⟨rR, w9 M7_⟩⟩, lpo4_h⟩, lpo5_h⟩, nF A⟩, lpo25_h⟩, lpo26_h⟩, nF B⟩, lpo28_h⟩, lpo29_h⟩, ⟨rR, rR, b0⟩⟩, (decide_eq_false Q_)⟩, ⟨rR, wq b0⟩⟩, nT U_⟩, lpo64_h⟩, ⟨rfl, n0, w8 N7_⟩⟩, ⟨rR, w9 N7_⟩⟩, eT rfl⟩, eT rfl⟩, eT rfl⟩, eT rfl⟩, eT rfl⟩, eT rfl⟩, eT rfl⟩, eT rfl⟩, eT A.symm⟩, eT A.symm⟩, eT A.symm⟩, eT A.symm⟩, lpo12_h⟩, lpo12_h⟩, lpo12_h⟩, lpo12_h⟩, eT p1y⟩, eT p1y⟩, eT p1y⟩, lpo13_h⟩, lpo14_h⟩, eT p1y⟩, lpo15_h⟩, lpo15_h⟩, lpo15_h⟩, lpo15_h⟩, lpo65_h⟩, lpo65_h⟩, lpo65_h⟩, lpo13_h⟩, lpo14_h⟩, lpo65_h⟩, lpo15_h⟩, lpo15_h⟩, lpo15_h⟩, lpo15_h⟩, lpo65_h⟩, lpo65_h⟩
theorem lpB70 (n : Nat) (g : Nat → Nat → Int) (m : Nat) (h : Nat → Nat → Int) (x : Int) (y : Int) (A : hA n g) (B : hB m h) (K_ : hK_ n g m h) (L_ : hL_ n g m h) (M7_ : hM7_ m) (N7_ : hN7_ n) (P_ : hP_ x y) (Q_ : hQ_ n m) (S_ : hS_ n g m h) (T_ : hT_ n g m h) (U_ : hU_ n g m h) (X_ : hX_ x) (b0 : hb0 n m) (m0 : hm0 m) (n0 : hn0 n) (p1x : hp1x x y) (z1 : hz1 n g m h) (z2 : hz2 n g m h) : lpA70 n g m h x y := ⟨⟨⟨⟨⟨⟨⟨⟨⟨⟨⟨⟨⟨⟨⟨⟨⟨⟨⟨⟨⟨⟨⟨⟨⟨⟨⟨⟨⟨⟨⟨⟨⟨⟨⟨⟨⟨⟨⟨⟨⟨⟨⟨⟨⟨⟨⟨⟨⟨⟨⟨⟨⟨⟨⟨⟨⟨⟨⟨⟨⟨⟨⟨⟨⟨⟨⟨⟨⟨⟨⟨⟨⟨⟨(lpB68 n g m h x y A B L_ M7_ N7_ P_ Q_ S_ U_ b0 m0 n0 z1), nT X_⟩, lpo26_h⟩, eT A⟩, eF X_⟩, ⟨rR, w9 N7_⟩⟩, ⟨rR, w9 M7_⟩⟩, lpo4_h⟩, lpo5_h⟩, nF A⟩, lpo25_h⟩, lpo26_h⟩, nF B⟩, lpo28_h⟩, lpo29_h⟩, ⟨rR, rR, b0⟩⟩, eF T_⟩, ⟨rR, z2⟩⟩, nT K_⟩, lpo64_h⟩, ⟨rR, w9 N7_⟩⟩, ⟨rR, w9 M7_⟩⟩, lpo4_h⟩, lpo5_h⟩, nF A⟩, lpo25_h⟩, lpo26_h⟩, nF B⟩, lpo28_h⟩, lpo29_h⟩, ⟨rR, rR, b0⟩⟩, (decide_eq_false Q_)⟩, ⟨rR, wq b0⟩⟩, nT U_⟩, lpo64_h⟩, ⟨rfl, n0, w8 N7_⟩⟩, ⟨rR, w9 N7_⟩⟩, eT rfl⟩, eT rfl⟩, eT rfl⟩, eT rfl⟩, eT rfl⟩, eT rfl⟩, eT rfl⟩, eT rfl⟩, eT A.symm⟩, eT A.symm⟩, eT A.symm⟩, eT A.symm⟩, lpo12_h⟩, lpo12_h⟩, lpo12_h⟩, lpo12_h⟩, eT p1x⟩, eT p1x⟩, eT p1x⟩, lpo13_h⟩, lpo14_h⟩, eT p1x⟩, lpo15_h⟩, lpo15_h⟩, lpo15_h⟩, lpo15_h⟩, lpo65_h⟩, lpo65_h⟩, lpo65_h⟩, lpo13_h⟩, lpo14_h⟩, lpo65_h⟩, lpo15_h⟩, lpo15_h⟩, lpo15_h⟩, lpo15_h⟩, lpo65_h⟩, lpo65_h⟩
theorem lpB71 (n : Nat) (g : Nat → Nat → Int) (m : Nat) (h : Nat → Nat → Int) (x : Int) (y : Int) (A : hA n g) (B_ : hB_ m h) (M7_ : hM7_ m) (N7_ : hN7_ n) (P_ : hP_ x y) (m0 : hm0 m) (n0 : hn0 n) : lpA71 n g m h x y := ⟨⟨⟨⟨⟨⟨⟨⟨⟨⟨⟨⟨⟨⟨⟨⟨⟨⟨⟨⟨⟨(lpB35 n g m h x y A M7_ N7_ P_ m0 n0), nT B_⟩, nT B_⟩, ⟨rfl, n0, w8 N7_⟩⟩, ⟨rfl, m0, w8 M7_⟩⟩, ⟨rR, w9 N7_⟩⟩, ⟨rR, w9 M7_⟩⟩, lpo4_h⟩, lpo5_h⟩, nF A⟩, lpo25_h⟩, lpo26_h⟩, nT B_⟩, nT B_⟩, ⟨rR, w9 N7_⟩⟩, lpo3_h⟩, lpo3_h⟩, lpo7_h⟩, lpo5_h⟩, nF A⟩, lpo31_h⟩, lpo26_h⟩
theorem lpB72 (n : Nat) (g : Nat → Nat → Int) (m : Nat) (h : Nat → Nat → Int) (x : Int) (y : Int) (A : hA n g) (B_ : hB_ m h) (M7_ : hM7_ m) (N7_ : hN7_ n) (P_ : hP_ x y) (X : hX x) (Y_ : hY_ y) (m0 : hm0 m) (n0 : hn0 n) (p1y : hp1y x y) : lpA72 n g m h x y := ⟨⟨⟨⟨⟨⟨⟨⟨⟨⟨⟨⟨⟨⟨⟨⟨⟨⟨⟨⟨⟨⟨⟨⟨⟨⟨⟨⟨⟨⟨⟨⟨⟨⟨⟨⟨⟨⟨⟨⟨⟨⟨⟨⟨⟨⟨⟨⟨⟨⟨⟨⟨⟨⟨⟨⟨⟨⟨⟨⟨⟨⟨⟨⟨⟨⟨⟨(lpB71 n g m h x y A B_ M7_ N7_ P_ m0 n0), nF X⟩, lpo33_h⟩, lpo34_h⟩, nT Y_⟩, lpo34_h⟩, eT A⟩, eF Y_⟩, ⟨rR, w9 N7_⟩⟩, ⟨rR, w9 M7_⟩⟩, lpo4_h⟩, lpo5_h⟩, nF A⟩, lpo25_h⟩, lpo26_h⟩, nT B_⟩, lpo26_h⟩, nT B_⟩, ⟨rR, w9 N7_⟩⟩, ⟨rR, w9 M7_⟩⟩, lpo4_h⟩, lpo5_h⟩, nF A⟩, lpo25_h⟩, lpo26_h⟩, nT B_⟩, lpo26_h⟩, nT B_⟩, ⟨rfl, n0, w8 N7_⟩⟩, ⟨rR, w9 N7_⟩⟩, eT rfl⟩, eT rfl⟩, eT rfl⟩, eT rfl⟩, eT rfl⟩, eT rfl⟩, eT rfl⟩, eT rfl⟩, eT A.symm⟩, eT A.symm⟩, eT A.symm⟩, eT A.symm⟩, lpo12_h⟩, lpo12_h⟩, lpo12_h⟩, lpo12_h⟩, eT p1y⟩, eT p1y⟩, eT p1y⟩, lpo13_h⟩, lpo14_h⟩, eT p1y⟩, lpo15_h⟩, lpo15_h⟩, lpo15_h⟩, lpo15_h⟩, eT rfl⟩, eT rfl⟩, eT rfl⟩, lpo13_h⟩, lpo14_h⟩, eT rfl⟩, lpo15_h⟩, lpo15_h⟩, lpo15_h⟩, lpo15_h⟩, eT rfl⟩, eT rfl⟩
theorem lpB73 (n : Nat) (g : Nat → Nat → Int) (m : Nat) (h : Nat → Nat → Int) (x : Int) (y : Int) (A : hA n g) (B_ : hB_ m h) (M7_ : hM7_ m) (N7_ : hN7_ n) (P_ : hP_ x y) (X_ : hX_ x) (m0 : hm0 m) (n0 : hn0 n) (p1x : hp1x x y) : lpA73 n g m h x y := ⟨⟨⟨⟨⟨⟨⟨⟨⟨⟨⟨⟨⟨⟨⟨⟨⟨⟨⟨⟨⟨⟨⟨⟨⟨⟨⟨⟨⟨⟨⟨⟨⟨⟨⟨⟨⟨⟨⟨⟨⟨⟨⟨⟨⟨⟨⟨⟨⟨⟨⟨⟨⟨⟨⟨⟨⟨⟨⟨⟨⟨⟨⟨⟨(lpB71 n g m h x y A B_ M7_ N7_ P_ m0 n0), nT X_⟩, lpo26_h⟩, eT A⟩, eF X_⟩, ⟨rR, w9 N7_⟩⟩, ⟨rR, w9 M7_⟩⟩, lpo4_h⟩, lpo5_h⟩, nF A⟩, lpo25_h⟩, lpo26_h⟩, nT B_⟩, lpo26_h⟩, nT B_⟩, ⟨rR, w9 N7_⟩⟩, ⟨rR, w9 M7_⟩⟩, lpo4_h⟩, lpo5_h⟩, nF A⟩, lpo25_h⟩, lpo26_h⟩, nT B_⟩, lpo26_h⟩, nT B_⟩, ⟨rfl, n0, w8 N7_⟩⟩, ⟨rR, w9 N7_⟩⟩, eT rfl⟩, eT rfl⟩, eT rfl⟩, eT rfl⟩, eT rfl⟩, eT rfl⟩, eT rfl⟩, eT rfl⟩, eT A.symm⟩, eT A.symm⟩, eT A.symm⟩, eT A.symm⟩, lpo12_h⟩, lpo12_h⟩, lpo12_h⟩, lpo12_h⟩, eT p1x⟩, eT p1x⟩, eT p1x⟩, lpo13_h⟩, lpo14_h⟩, eT p1x⟩, lpo15_h⟩, lpo15_h⟩, lpo15_h⟩, lpo15_h⟩, eT rfl⟩, eT rfl⟩, eT rfl⟩, lpo13_h⟩, lpo14_h⟩, eT rfl⟩, lpo15_h⟩, lpo15_h⟩, lpo15_h⟩, lpo15_h⟩, eT rfl⟩, eT rfl⟩
theorem lpB74 (n : Nat) (g : Nat → Nat → Int) (m : Nat) (h : Nat → Nat → Int) (A_ : hA_ n g) (M7_ : hM7_ m) (N7_ : hN7_ n) (m0 : hm0 m) (n0 : hn0 n) : lpA74 n g m h := ⟨⟨⟨⟨⟨⟨⟨⟨⟨⟨⟨⟨⟨⟨⟨⟨⟨⟨⟨⟨⟨⟨⟨⟨⟨⟨⟨⟨⟨⟨⟨⟨⟨⟨⟨⟨⟨⟨⟨⟨⟨⟨⟨⟨⟨⟨⟨⟨⟨⟨⟨⟨⟨⟨⟨⟨⟨⟨⟨⟨⟨⟨⟨⟨⟨⟨⟨⟨⟨⟨⟨⟨⟨⟨⟨⟨⟨⟨⟨⟨⟨⟨⟨⟨⟨⟨⟨(lpB14 n g m M7_ N7_ n0), nT A_⟩, ⟨rfl, n0, w8 N7_⟩⟩, ⟨rR, w9 N7_⟩⟩, lpo3_h⟩, lpo4_h⟩, lpo5_h⟩, nT A_⟩, nT A_⟩, ⟨rfl, n0, w8 N7_⟩⟩, ⟨rfl, m0, w8 M7_⟩⟩, ⟨rR, w9 N7_⟩⟩, ⟨rR, w9 M7_⟩⟩, lpo4_h⟩, lpo5_h⟩, nT A_⟩, nT A_⟩, ⟨rfl, n0, w8 N7_⟩⟩, ⟨rfl, m0, w8 M7_⟩⟩, ⟨rR, w9 N7_⟩⟩, ⟨rR, w9 M7_⟩⟩, lpo4_h⟩, lpo5_h⟩, nT A_⟩, nT A_⟩, ⟨rR, w9 N7_⟩⟩, lpo3_h⟩, lpo3_h⟩, lpo7_h⟩, lpo5_h⟩, nT A_⟩, lpo5_h⟩, eF A_⟩, eF A_⟩, ⟨rR, w9 N7_⟩⟩, ⟨rR, w9 M7_⟩⟩, lpo4_h⟩, lpo5_h⟩, nT A_⟩, lpo5_h⟩, nT A_⟩, ⟨rR, w9 N7_⟩⟩, ⟨rR, w9 M7_⟩⟩, lpo4_h⟩, lpo5_h⟩, nT A_⟩, lpo5_h⟩, nT A_⟩, ⟨rfl, n0, w8 N7_⟩⟩, ⟨rR, w9 N7_⟩⟩, eT rfl⟩, eT rfl⟩, eT rfl⟩, eT rfl⟩, lpo11_h⟩, lpo11_h⟩, lpo11_h⟩, lpo11_h⟩, eT rfl⟩, eT rfl⟩, eT rfl⟩, eT rfl⟩, lpo12_h⟩, lpo12_h⟩, lpo12_h⟩, lpo12_h⟩, eT rfl⟩, eT rfl⟩, eT rfl⟩, lpo13_h⟩, lpo14_h⟩, eT rfl⟩, lpo15_h⟩, lpo15_h⟩, lpo15_h⟩, lpo15_h⟩, eT rfl⟩, eT rfl⟩, eT rfl⟩, lpo13_h⟩, lpo14_h⟩, eT rfl⟩, lpo15_h⟩, lpo15_h⟩, lpo15_h⟩, lpo15_h⟩, eT rfl⟩, eT rfl⟩
abbrev lpC_nil_nil (x : Int) (y : Int) : Prop := ∃ s1 R, SndF Tryz.prog 3 #[.slice none 0 0, .slice none 0 0, .agg #[.int .i64 x, .int .i64 y]] ((aw3S0.push (.hole)).push (.hole)) (.bool true) s1 R 0
theorem lp0_p (x : Int) (y : Int)  : lpC_nil_nil x y := by
  exact sndY (r := lp0 x y) (by delta lp0; exact Eq.refl _) smx lpK_ok (lp0_g x y) ((lp0_o x y).symm ▸ lpB1 )
abbrev lpC_nil_emp (c2 : Nat) (x : Int) (y : Int) : Prop := ∃ s1 R, SndF Tryz.prog 3 #[.slice none 0 0, .slice (some ⟨7, 0, none⟩) 0 c2, .agg #[.int .i64 x, .int .i64 y]] ((aw3S0.push (.hole)).push (.hole)) (.bool true) s1 R 0
theorem lp1_p (c2 : Nat) (x : Int) (y : Int)  : lpC_nil_emp c2 x y := by
  exact sndY (r := lp1 c2 x y) (by delta lp1; exact Eq.refl _) smx lpK_ok (lp1_g c2 x y) ((lp1_o c2 x y).symm ▸ lpB1 )
abbrev lpC_nil_row (m : Nat) (c2 : Nat) (h : Nat → Nat → Int) (x : Int) (y : Int) : Prop := ∃ s1 R, SndF Tryz.prog 3 #[.slice none 0 0, .slice (some ⟨7, 0, none⟩) m c2, .agg #[.int .i64 x, .int .i64 y]] ((aw3S0.push (.hole)).push (.rows m 1 (fun i j => .int .i64 (h i j)) 0 true 0 true)) (.bool true) s1 R 0
theorem lp2_p (m : Nat) (c2 : Nat) (h : Nat → Nat → Int) (x : Int) (y : Int) (M7 : hM7 m) (m0 : hm0 m) : lpC_nil_row m c2 h x y := by
  exact sndY (r := lp2 m c2 h x y) (by delta lp2; exact Eq.refl _) smx lpK_ok (lp2_g m c2 h x y) ((lp2_o m c2 h x y).symm ▸ lpB2 m M7)
theorem lp3_p (m : Nat) (c2 : Nat) (h : Nat → Nat → Int) (x : Int) (y : Int) (M7_ : hM7_ m) (m0 : hm0 m) : lpC_nil_row m c2 h x y := by
  exact sndY (r := lp3 m c2 h x y) (by delta lp3; exact Eq.refl _) smx lpK_ok (lp3_g m c2 h x y) ((lp3_o m c2 h x y).symm ▸ lpB3 m h M7_ m0)
abbrev lpC_emp_nil (c : Nat) (x : Int) (y : Int) : Prop := ∃ s1 R, SndF Tryz.prog 3 #[.slice (some ⟨6, 0, none⟩) 0 c, .slice none 0 0, .agg #[.int .i64 x, .int .i64 y]] ((aw3S0.push (.hole)).push (.hole)) (.bool true) s1 R 0
theorem lp4_p (c : Nat) (x : Int) (y : Int)  : lpC_emp_nil c x y := by
  exact sndY (r := lp4 c x y) (by delta lp4; exact Eq.refl _) smx lpK_ok (lp4_g c x y) ((lp4_o c x y).symm ▸ lpB1 )
abbrev lpC_emp_emp (c : Nat) (c2 : Nat) (x : Int) (y : Int) : Prop := ∃ s1 R, SndF Tryz.prog 3 #[.slice (some ⟨6, 0, none⟩) 0 c, .slice (some ⟨7, 0, none⟩) 0 c2, .agg #[.int .i64 x, .int .i64 y]] ((aw3S0.push (.hole)).push (.hole)) (.bool true) s1 R 0
theorem lp5_p (c : Nat) (c2 : Nat) (x : Int) (y : Int)  : lpC_emp_emp c c2 x y := by
  exact sndY (r := lp5 c c2 x y) (by delta lp5; exact Eq.refl _) smx lpK_ok (lp5_g c c2 x y) ((lp5_o c c2 x y).symm ▸ lpB1 )
abbrev lpC_emp_row (c : Nat) (m : Nat) (c2 : Nat) (h : Nat → Nat → Int) (x : Int) (y : Int) : Prop := ∃ s1 R, SndF Tryz.prog 3 #[.slice (some ⟨6, 0, none⟩) 0 c, .slice (some ⟨7, 0, none⟩) m c2, .agg #[.int .i64 x, .int .i64 y]] ((aw3S0.push (.hole)).push (.rows m 1 (fun i j => .int .i64 (h i j)) 0 true 0 true)) (.bool true) s1 R 0
theorem lp6_p (c : Nat) (m : Nat) (c2 : Nat) (h : Nat → Nat → Int) (x : Int) (y : Int) (M7 : hM7 m) (m0 : hm0 m) : lpC_emp_row c m c2 h x y := by
  exact sndY (r := lp6 c m c2 h x y) (by delta lp6; exact Eq.refl _) smx lpK_ok (lp6_g c m c2 h x y) ((lp6_o c m c2 h x y).symm ▸ lpB2 m M7)
theorem lp7_p (c : Nat) (m : Nat) (c2 : Nat) (h : Nat → Nat → Int) (x : Int) (y : Int) (M7_ : hM7_ m) (m0 : hm0 m) : lpC_emp_row c m c2 h x y := by
  exact sndY (r := lp7 c m c2 h x y) (by delta lp7; exact Eq.refl _) smx lpK_ok (lp7_g c m c2 h x y) ((lp7_o c m c2 h x y).symm ▸ lpB3 m h M7_ m0)
abbrev lpC_row_nil (n : Nat) (c : Nat) (g : Nat → Nat → Int) (x : Int) (y : Int) : Prop := ∃ s1 R, SndF Tryz.prog 3 #[.slice (some ⟨6, 0, none⟩) n c, .slice none 0 0, .agg #[.int .i64 x, .int .i64 y]] ((aw3S0.push (.rows n 1 (fun i j => .int .i64 (g i j)) 0 true 0 true)).push (.hole)) (.bool true) s1 R 0
theorem lp8_p (n : Nat) (c : Nat) (g : Nat → Nat → Int) (x : Int) (y : Int) (N7 : hN7 n) (n0 : hn0 n) : lpC_row_nil n c g x y := by
  exact sndY (r := lp8 n c g x y) (by delta lp8; exact Eq.refl _) smx lpK_ok (lp8_g n c g x y) ((lp8_o n c g x y).symm ▸ lpB4 n N7)
theorem lp9_p (n : Nat) (c : Nat) (g : Nat → Nat → Int) (x : Int) (y : Int) (N7_ : hN7_ n) (A : hA n g) (P : hP x y) (n0 : hn0 n) : lpC_row_nil n c g x y := by
  have a1 := cpV_len3 A
  have X := ptE_x P
  have Y := ptE_y P
  have p5 := lpAP A P
  exact sndY (r := lp9 n c g x y) (by delta lp9; exact Eq.refl _) smx lpK_ok (lp9_g n c g x y) ((lp9_o n c g x y).symm ▸ lpB8 n g x y A N7_ P X Y a1 n0 p5)
theorem lp10_p (n : Nat) (c : Nat) (g : Nat → Nat → Int) (x : Int) (y : Int) (N7_ : hN7_ n) (A : hA n g) (P_ : hP_ x y) (X : hX x) (n0 : hn0 n) : lpC_row_nil n c g x y := by
  have a1 := cpV_len3 A
  have p1y : (ptE x y) = (Pl.cr y (-8 : Int) (8 : Int)) := if_pos X
  have Y_ : (Pl.cr y (-8 : Int) (8 : Int)) ≠ (0 : Int) := p1y ▸ P_
  exact sndY (r := lp10 n c g x y) (by delta lp10; exact Eq.refl _) smx lpK_ok (lp10_g n c g x y) ((lp10_o n c g x y).symm ▸ lpB10 n g x y A N7_ P_ X Y_ n0 p1y)
theorem lp11_p (n : Nat) (c : Nat) (g : Nat → Nat → Int) (x : Int) (y : Int) (N7_ : hN7_ n) (A : hA n g) (P_ : hP_ x y) (X_ : hX_ x) (n0 : hn0 n) : lpC_row_nil n c g x y := by
  have a1 := cpV_len3 A
  have p1x : (ptE x y) = (Pl.cr x (-8 : Int) (8 : Int)) := if_neg X_
  exact sndY (r := lp11 n c g x y) (by delta lp11; exact Eq.refl _) smx lpK_ok (lp11_g n c g x y) ((lp11_o n c g x y).symm ▸ lpB11 n g x y A N7_ P_ X_ n0 p1x)
theorem lp12_p (n : Nat) (c : Nat) (g : Nat → Nat → Int) (x : Int) (y : Int) (N7_ : hN7_ n) (A_ : hA_ n g) (n0 : hn0 n) : lpC_row_nil n c g x y := by
  exact sndY (r := lp12 n c g x y) (by delta lp12; exact Eq.refl _) smx lpK_ok (lp12_g n c g x y) ((lp12_o n c g x y).symm ▸ lpB12 n g A_ N7_ n0)
abbrev lpC_row_emp (n : Nat) (c : Nat) (g : Nat → Nat → Int) (c2 : Nat) (x : Int) (y : Int) : Prop := ∃ s1 R, SndF Tryz.prog 3 #[.slice (some ⟨6, 0, none⟩) n c, .slice (some ⟨7, 0, none⟩) 0 c2, .agg #[.int .i64 x, .int .i64 y]] ((aw3S0.push (.rows n 1 (fun i j => .int .i64 (g i j)) 0 true 0 true)).push (.hole)) (.bool true) s1 R 0
theorem lp13_p (n : Nat) (c : Nat) (g : Nat → Nat → Int) (c2 : Nat) (x : Int) (y : Int) (N7 : hN7 n) (n0 : hn0 n) : lpC_row_emp n c g c2 x y := by
  exact sndY (r := lp13 n c g c2 x y) (by delta lp13; exact Eq.refl _) smx lpK_ok (lp13_g n c g c2 x y) ((lp13_o n c g c2 x y).symm ▸ lpB4 n N7)
theorem lp14_p (n : Nat) (c : Nat) (g : Nat → Nat → Int) (c2 : Nat) (x : Int) (y : Int) (N7_ : hN7_ n) (A : hA n g) (P : hP x y) (n0 : hn0 n) : lpC_row_emp n c g c2 x y := by
  have a1 := cpV_len3 A
  have X := ptE_x P
  have Y := ptE_y P
  have p5 := lpAP A P
  exact sndY (r := lp14 n c g c2 x y) (by delta lp14; exact Eq.refl _) smx lpK_ok (lp14_g n c g c2 x y) ((lp14_o n c g c2 x y).symm ▸ lpB8 n g x y A N7_ P X Y a1 n0 p5)
theorem lp15_p (n : Nat) (c : Nat) (g : Nat → Nat → Int) (c2 : Nat) (x : Int) (y : Int) (N7_ : hN7_ n) (A : hA n g) (P_ : hP_ x y) (X : hX x) (n0 : hn0 n) : lpC_row_emp n c g c2 x y := by
  have a1 := cpV_len3 A
  have p1y : (ptE x y) = (Pl.cr y (-8 : Int) (8 : Int)) := if_pos X
  have Y_ : (Pl.cr y (-8 : Int) (8 : Int)) ≠ (0 : Int) := p1y ▸ P_
  exact sndY (r := lp15 n c g c2 x y) (by delta lp15; exact Eq.refl _) smx lpK_ok (lp15_g n c g c2 x y) ((lp15_o n c g c2 x y).symm ▸ lpB10 n g x y A N7_ P_ X Y_ n0 p1y)
theorem lp16_p (n : Nat) (c : Nat) (g : Nat → Nat → Int) (c2 : Nat) (x : Int) (y : Int) (N7_ : hN7_ n) (A : hA n g) (P_ : hP_ x y) (X_ : hX_ x) (n0 : hn0 n) : lpC_row_emp n c g c2 x y := by
  have a1 := cpV_len3 A
  have p1x : (ptE x y) = (Pl.cr x (-8 : Int) (8 : Int)) := if_neg X_
  exact sndY (r := lp16 n c g c2 x y) (by delta lp16; exact Eq.refl _) smx lpK_ok (lp16_g n c g c2 x y) ((lp16_o n c g c2 x y).symm ▸ lpB11 n g x y A N7_ P_ X_ n0 p1x)
theorem lp17_p (n : Nat) (c : Nat) (g : Nat → Nat → Int) (c2 : Nat) (x : Int) (y : Int) (N7_ : hN7_ n) (A_ : hA_ n g) (n0 : hn0 n) : lpC_row_emp n c g c2 x y := by
  exact sndY (r := lp17 n c g c2 x y) (by delta lp17; exact Eq.refl _) smx lpK_ok (lp17_g n c g c2 x y) ((lp17_o n c g c2 x y).symm ▸ lpB12 n g A_ N7_ n0)
abbrev lpC_row_row (n : Nat) (c : Nat) (g : Nat → Nat → Int) (m : Nat) (c2 : Nat) (h : Nat → Nat → Int) (x : Int) (y : Int) : Prop := ∃ s1 R, SndF Tryz.prog 3 #[.slice (some ⟨6, 0, none⟩) n c, .slice (some ⟨7, 0, none⟩) m c2, .agg #[.int .i64 x, .int .i64 y]] ((aw3S0.push (.rows n 1 (fun i j => .int .i64 (g i j)) 0 true 0 true)).push (.rows m 1 (fun i j => .int .i64 (h i j)) 0 true 0 true)) (.bool true) s1 R 0
theorem lp18_p (n : Nat) (c : Nat) (g : Nat → Nat → Int) (m : Nat) (c2 : Nat) (h : Nat → Nat → Int) (x : Int) (y : Int) (N7 : hN7 n) (n0 : hn0 n) (m0 : hm0 m) : lpC_row_row n c g m c2 h x y := by
  exact sndY (r := lp18 n c g m c2 h x y) (by delta lp18; exact Eq.refl _) smx lpK_ok (lp18_g n c g m c2 h x y) ((lp18_o n c g m c2 h x y).symm ▸ lpB4 n N7)
theorem lp19_p (n : Nat) (c : Nat) (g : Nat → Nat → Int) (m : Nat) (c2 : Nat) (h : Nat → Nat → Int) (x : Int) (y : Int) (N7_ : hN7_ n) (M7 : hM7 m) (n0 : hn0 n) (m0 : hm0 m) : lpC_row_row n c g m c2 h x y := by
  exact sndY (r := lp19 n c g m c2 h x y) (by delta lp19; exact Eq.refl _) smx lpK_ok (lp19_g n c g m c2 h x y) ((lp19_o n c g m c2 h x y).symm ▸ lpB13 n m M7 N7_)
theorem lp20_p (n : Nat) (c : Nat) (g : Nat → Nat → Int) (m : Nat) (c2 : Nat) (h : Nat → Nat → Int) (x : Int) (y : Int) (N7_ : hN7_ n) (M7_ : hM7_ m) (A : hA n g) (P : hP x y) (B : hB m h) (S : hS n g m h) (Q : hQ n m) (n0 : hn0 n) (m0 : hm0 m) : lpC_row_row n c g m c2 h x y := by
  have a1 := cpV_len3 A
  have X := ptE_x P
  have Y := ptE_y P
  have p5 := lpAP A P
  obtain ⟨b0, s1, s2, z1, z2, s3⟩ := lpAB A B
  have T := tS s1 S
  exact sndY (r := lp20 n c g m c2 h x y) (by delta lp20; exact Eq.refl _) smx lpK_ok (lp20_g n c g m c2 h x y) ((lp20_o n c g m c2 h x y).symm ▸ lpB19 n g m h x y A B M7_ N7_ P Q S T X Y a1 b0 m0 n0 p5)
theorem lp21_p (n : Nat) (c : Nat) (g : Nat → Nat → Int) (m : Nat) (c2 : Nat) (h : Nat → Nat → Int) (x : Int) (y : Int) (N7_ : hN7_ n) (M7_ : hM7_ m) (A : hA n g) (P : hP x y) (B : hB m h) (S : hS n g m h) (Q_ : hQ_ n m) (U : hU n g m h) (n0 : hn0 n) (m0 : hm0 m) : lpC_row_row n c g m c2 h x y := by
  have a1 := cpV_len3 A
  have X := ptE_x P
  have Y := ptE_y P
  have p5 := lpAP A P
  obtain ⟨b0, s1, s2, z1, z2, s3⟩ := lpAB A B
  have T := tS s1 S
  exact sndY (r := lp21 n c g m c2 h x y) (by delta lp21; exact Eq.refl _) smx lpK_ok (lp21_g n c g m c2 h x y) ((lp21_o n c g m c2 h x y).symm ▸ lpB21 n g m h x y A B M7_ N7_ P Q_ S T U X Y a1 b0 m0 n0 p5)
theorem lp22_p (n : Nat) (c : Nat) (g : Nat → Nat → Int) (m : Nat) (c2 : Nat) (h : Nat → Nat → Int) (x : Int) (y : Int) (N7_ : hN7_ n) (M7_ : hM7_ m) (A : hA n g) (P : hP x y) (B : hB m h) (S : hS n g m h) (Q_ : hQ_ n m) (U_ : hU_ n g m h) (n0 : hn0 n) (m0 : hm0 m) : lpC_row_row n c g m c2 h x y := by
  have a1 := cpV_len3 A
  have X := ptE_x P
  have Y := ptE_y P
  have p5 := lpAP A P
  obtain ⟨b0, s1, s2, z1, z2, s3⟩ := lpAB A B
  have T := tS s1 S
  exact sndY (r := lp22 n c g m c2 h x y) (by delta lp22; exact Eq.refl _) smx lpK_ok (lp22_g n c g m c2 h x y) ((lp22_o n c g m c2 h x y).symm ▸ lpB22 n g m h x y A B M7_ N7_ P Q_ S T U_ X Y a1 b0 m0 n0 p5)
theorem lp23_p (n : Nat) (c : Nat) (g : Nat → Nat → Int) (m : Nat) (c2 : Nat) (h : Nat → Nat → Int) (x : Int) (y : Int) (N7_ : hN7_ n) (M7_ : hM7_ m) (A : hA n g) (P : hP x y) (B : hB m h) (S_ : hS_ n g m h) (L : hL n g m h) (Q : hQ n m) (n0 : hn0 n) (m0 : hm0 m) : lpC_row_row n c g m c2 h x y := by
  have a1 := cpV_len3 A
  have X := ptE_x P
  have Y := ptE_y P
  have p5 := lpAP A P
  obtain ⟨b0, s1, s2, z1, z2, s3⟩ := lpAB A B
  have T_ := tSn s1 S_
  have K := s3.symm.trans L
  exact sndY (r := lp23 n c g m c2 h x y) (by delta lp23; exact Eq.refl _) smx lpK_ok (lp23_g n c g m c2 h x y) ((lp23_o n c g m c2 h x y).symm ▸ lpB25 n g m h x y A B K L M7_ N7_ P Q S_ T_ X Y a1 b0 m0 n0 p5 s1 s2 z1 z2)
theorem lp24_p (n : Nat) (c : Nat) (g : Nat → Nat → Int) (m : Nat) (c2 : Nat) (h : Nat → Nat → Int) (x : Int) (y : Int) (N7_ : hN7_ n) (M7_ : hM7_ m) (A : hA n g) (P : hP x y) (B : hB m h) (S_ : hS_ n g m h) (L : hL n g m h) (Q_ : hQ_ n m) (U : hU n g m h) (n0 : hn0 n) (m0 : hm0 m) : lpC_row_row n c g m c2 h x y := by
  have a1 := cpV_len3 A
  have X := ptE_x P
  have Y := ptE_y P
  have p5 := lpAP A P
  obtain ⟨b0, s1, s2, z1, z2, s3⟩ := lpAB A B
  have T_ := tSn s1 S_
  have K := s3.symm.trans L
  exact sndY (r := lp24 n c g m c2 h x y) (by delta lp24; exact Eq.refl _) smx lpK_ok (lp24_g n c g m c2 h x y) ((lp24_o n c g m c2 h x y).symm ▸ lpB27 n g m h x y A B K L M7_ N7_ P Q_ S_ T_ U X Y a1 b0 m0 n0 p5 s1 s2 z1 z2)
theorem lp25_p (n : Nat) (c : Nat) (g : Nat → Nat → Int) (m : Nat) (c2 : Nat) (h : Nat → Nat → Int) (x : Int) (y : Int) (N7_ : hN7_ n) (M7_ : hM7_ m) (A : hA n g) (P : hP x y) (B : hB m h) (S_ : hS_ n g m h) (L : hL n g m h) (Q_ : hQ_ n m) (U_ : hU_ n g m h) (n0 : hn0 n) (m0 : hm0 m) : lpC_row_row n c g m c2 h x y := by
  have a1 := cpV_len3 A
  have X := ptE_x P
  have Y := ptE_y P
  have p5 := lpAP A P
  obtain ⟨b0, s1, s2, z1, z2, s3⟩ := lpAB A B
  have T_ := tSn s1 S_
  have K := s3.symm.trans L
  exact sndY (r := lp25 n c g m c2 h x y) (by delta lp25; exact Eq.refl _) smx lpK_ok (lp25_g n c g m c2 h x y) ((lp25_o n c g m c2 h x y).symm ▸ lpB28 n g m h x y A B K L M7_ N7_ P Q_ S_ T_ U_ X Y a1 b0 m0 n0 p5 s1 s2 z1 z2)
theorem lp26_p (n : Nat) (c : Nat) (g : Nat → Nat → Int) (m : Nat) (c2 : Nat) (h : Nat → Nat → Int) (x : Int) (y : Int) (N7_ : hN7_ n) (M7_ : hM7_ m) (A : hA n g) (P : hP x y) (B : hB m h) (S_ : hS_ n g m h) (L_ : hL_ n g m h) (Q : hQ n m) (n0 : hn0 n) (m0 : hm0 m) : lpC_row_row n c g m c2 h x y := by
  have a1 := cpV_len3 A
  have X := ptE_x P
  have Y := ptE_y P
  have p5 := lpAP A P
  obtain ⟨b0, s1, s2, z1, z2, s3⟩ := lpAB A B
  have T_ := tSn s1 S_
  have K_ := fun e => L_ (s3.trans e)
  exact sndY (r := lp26 n c g m c2 h x y) (by delta lp26; exact Eq.refl _) smx lpK_ok (lp26_g n c g m c2 h x y) ((lp26_o n c g m c2 h x y).symm ▸ lpB30 n g m h x y A B K_ L_ M7_ N7_ P Q S_ T_ X Y a1 b0 m0 n0 p5 z1 z2)
theorem lp27_p (n : Nat) (c : Nat) (g : Nat → Nat → Int) (m : Nat) (c2 : Nat) (h : Nat → Nat → Int) (x : Int) (y : Int) (N7_ : hN7_ n) (M7_ : hM7_ m) (A : hA n g) (P : hP x y) (B : hB m h) (S_ : hS_ n g m h) (L_ : hL_ n g m h) (Q_ : hQ_ n m) (U : hU n g m h) (n0 : hn0 n) (m0 : hm0 m) : lpC_row_row n c g m c2 h x y := by
  have a1 := cpV_len3 A
  have X := ptE_x P
  have Y := ptE_y P
  have p5 := lpAP A P
  obtain ⟨b0, s1, s2, z1, z2, s3⟩ := lpAB A B
  have T_ := tSn s1 S_
  have K_ := fun e => L_ (s3.trans e)
  exact sndY (r := lp27 n c g m c2 h x y) (by delta lp27; exact Eq.refl _) smx lpK_ok (lp27_g n c g m c2 h x y) ((lp27_o n c g m c2 h x y).symm ▸ lpB32 n g m h x y A B K_ L_ M7_ N7_ P Q_ S_ T_ U X Y a1 b0 m0 n0 p5 z1 z2)
theorem lp28_p (n : Nat) (c : Nat) (g : Nat → Nat → Int) (m : Nat) (c2 : Nat) (h : Nat → Nat → Int) (x : Int) (y : Int) (N7_ : hN7_ n) (M7_ : hM7_ m) (A : hA n g) (P : hP x y) (B : hB m h) (S_ : hS_ n g m h) (L_ : hL_ n g m h) (Q_ : hQ_ n m) (U_ : hU_ n g m h) (n0 : hn0 n) (m0 : hm0 m) : lpC_row_row n c g m c2 h x y := by
  have a1 := cpV_len3 A
  have X := ptE_x P
  have Y := ptE_y P
  have p5 := lpAP A P
  obtain ⟨b0, s1, s2, z1, z2, s3⟩ := lpAB A B
  have T_ := tSn s1 S_
  have K_ := fun e => L_ (s3.trans e)
  exact sndY (r := lp28 n c g m c2 h x y) (by delta lp28; exact Eq.refl _) smx lpK_ok (lp28_g n c g m c2 h x y) ((lp28_o n c g m c2 h x y).symm ▸ lpB33 n g m h x y A B K_ L_ M7_ N7_ P Q_ S_ T_ U_ X Y a1 b0 m0 n0 p5 z1 z2)
theorem lp29_p (n : Nat) (c : Nat) (g : Nat → Nat → Int) (m : Nat) (c2 : Nat) (h : Nat → Nat → Int) (x : Int) (y : Int) (N7_ : hN7_ n) (M7_ : hM7_ m) (A : hA n g) (P : hP x y) (B_ : hB_ m h) (n0 : hn0 n) (m0 : hm0 m) : lpC_row_row n c g m c2 h x y := by
  have a1 := cpV_len3 A
  have X := ptE_x P
  have Y := ptE_y P
  have p5 := lpAP A P
  exact sndY (r := lp29 n c g m c2 h x y) (by delta lp29; exact Eq.refl _) smx lpK_ok (lp29_g n c g m c2 h x y) ((lp29_o n c g m c2 h x y).symm ▸ lpB34 n g m h x y A B_ M7_ N7_ P X Y a1 m0 n0 p5)
theorem lp30_p (n : Nat) (c : Nat) (g : Nat → Nat → Int) (m : Nat) (c2 : Nat) (h : Nat → Nat → Int) (x : Int) (y : Int) (N7_ : hN7_ n) (M7_ : hM7_ m) (A : hA n g) (P_ : hP_ x y) (B : hB m h) (S : hS n g m h) (Q : hQ n m) (X : hX x) (n0 : hn0 n) (m0 : hm0 m) : lpC_row_row n c g m c2 h x y := by
  have a1 := cpV_len3 A
  have p1y : (ptE x y) = (Pl.cr y (-8 : Int) (8 : Int)) := if_pos X
  have Y_ : (Pl.cr y (-8 : Int) (8 : Int)) ≠ (0 : Int) := p1y ▸ P_
  obtain ⟨b0, s1, s2, z1, z2, s3⟩ := lpAB A B
  have T := tS s1 S
  exact sndY (r := lp30 n c g m c2 h x y) (by delta lp30; exact Eq.refl _) smx lpK_ok (lp30_g n c g m c2 h x y) ((lp30_o n c g m c2 h x y).symm ▸ lpB39 n g m h x y A B M7_ N7_ P_ Q S T X Y_ b0 m0 n0 p1y)
theorem lp31_p (n : Nat) (c : Nat) (g : Nat → Nat → Int) (m : Nat) (c2 : Nat) (h : Nat → Nat → Int) (x : Int) (y : Int) (N7_ : hN7_ n) (M7_ : hM7_ m) (A : hA n g) (P_ : hP_ x y) (B : hB m h) (S : hS n g m h) (Q : hQ n m) (X_ : hX_ x) (n0 : hn0 n) (m0 : hm0 m) : lpC_row_row n c g m c2 h x y := by
  have a1 := cpV_len3 A
  have p1x : (ptE x y) = (Pl.cr x (-8 : Int) (8 : Int)) := if_neg X_
  obtain ⟨b0, s1, s2, z1, z2, s3⟩ := lpAB A B
  have T := tS s1 S
  exact sndY (r := lp31 n c g m c2 h x y) (by delta lp31; exact Eq.refl _) smx lpK_ok (lp31_g n c g m c2 h x y) ((lp31_o n c g m c2 h x y).symm ▸ lpB40 n g m h x y A B M7_ N7_ P_ Q S T X_ b0 m0 n0 p1x)
theorem lp32_p (n : Nat) (c : Nat) (g : Nat → Nat → Int) (m : Nat) (c2 : Nat) (h : Nat → Nat → Int) (x : Int) (y : Int) (N7_ : hN7_ n) (M7_ : hM7_ m) (A : hA n g) (P_ : hP_ x y) (B : hB m h) (S : hS n g m h) (Q_ : hQ_ n m) (U : hU n g m h) (X : hX x) (n0 : hn0 n) (m0 : hm0 m) : lpC_row_row n c g m c2 h x y := by
  have a1 := cpV_len3 A
  have p1y : (ptE x y) = (Pl.cr y (-8 : Int) (8 : Int)) := if_pos X
  have Y_ : (Pl.cr y (-8 : Int) (8 : Int)) ≠ (0 : Int) := p1y ▸ P_
  obtain ⟨b0, s1, s2, z1, z2, s3⟩ := lpAB A B
  have T := tS s1 S
  exact sndY (r := lp32 n c g m c2 h x y) (by delta lp32; exact Eq.refl _) smx lpK_ok (lp32_g n c g m c2 h x y) ((lp32_o n c g m c2 h x y).symm ▸ lpB43 n g m h x y A B M7_ N7_ P_ Q_ S T U X Y_ b0 m0 n0 p1y)
theorem lp33_p (n : Nat) (c : Nat) (g : Nat → Nat → Int) (m : Nat) (c2 : Nat) (h : Nat → Nat → Int) (x : Int) (y : Int) (N7_ : hN7_ n) (M7_ : hM7_ m) (A : hA n g) (P_ : hP_ x y) (B : hB m h) (S : hS n g m h) (Q_ : hQ_ n m) (U : hU n g m h) (X_ : hX_ x) (n0 : hn0 n) (m0 : hm0 m) : lpC_row_row n c g m c2 h x y := by
  have a1 := cpV_len3 A
  have p1x : (ptE x y) = (Pl.cr x (-8 : Int) (8 : Int)) := if_neg X_
  obtain ⟨b0, s1, s2, z1, z2, s3⟩ := lpAB A B
  have T := tS s1 S
  exact sndY (r := lp33 n c g m c2 h x y) (by delta lp33; exact Eq.refl _) smx lpK_ok (lp33_g n c g m c2 h x y) ((lp33_o n c g m c2 h x y).symm ▸ lpB44 n g m h x y A B M7_ N7_ P_ Q_ S T U X_ b0 m0 n0 p1x)
theorem lp34_p (n : Nat) (c : Nat) (g : Nat → Nat → Int) (m : Nat) (c2 : Nat) (h : Nat → Nat → Int) (x : Int) (y : Int) (N7_ : hN7_ n) (M7_ : hM7_ m) (A : hA n g) (P_ : hP_ x y) (B : hB m h) (S : hS n g m h) (Q_ : hQ_ n m) (U_ : hU_ n g m h) (X : hX x) (n0 : hn0 n) (m0 : hm0 m) : lpC_row_row n c g m c2 h x y := by
  have a1 := cpV_len3 A
  have p1y : (ptE x y) = (Pl.cr y (-8 : Int) (8 : Int)) := if_pos X
  have Y_ : (Pl.cr y (-8 : Int) (8 : Int)) ≠ (0 : Int) := p1y ▸ P_
  obtain ⟨b0, s1, s2, z1, z2, s3⟩ := lpAB A B
  have T := tS s1 S
  exact sndY (r := lp34 n c g m c2 h x y) (by delta lp34; exact Eq.refl _) smx lpK_ok (lp34_g n c g m c2 h x y) ((lp34_o n c g m c2 h x y).symm ▸ lpB46 n g m h x y A B M7_ N7_ P_ Q_ S T U_ X Y_ b0 m0 n0 p1y)
theorem lp35_p (n : Nat) (c : Nat) (g : Nat → Nat → Int) (m : Nat) (c2 : Nat) (h : Nat → Nat → Int) (x : Int) (y : Int) (N7_ : hN7_ n) (M7_ : hM7_ m) (A : hA n g) (P_ : hP_ x y) (B : hB m h) (S : hS n g m h) (Q_ : hQ_ n m) (U_ : hU_ n g m h) (X_ : hX_ x) (n0 : hn0 n) (m0 : hm0 m) : lpC_row_row n c g m c2 h x y := by
  have a1 := cpV_len3 A
  have p1x : (ptE x y) = (Pl.cr x (-8 : Int) (8 : Int)) := if_neg X_
  obtain ⟨b0, s1, s2, z1, z2, s3⟩ := lpAB A B
  have T := tS s1 S
  exact sndY (r := lp35 n c g m c2 h x y) (by delta lp35; exact Eq.refl _) smx lpK_ok (lp35_g n c g m c2 h x y) ((lp35_o n c g m c2 h x y).symm ▸ lpB47 n g m h x y A B M7_ N7_ P_ Q_ S T U_ X_ b0 m0 n0 p1x)
theorem lp36_p (n : Nat) (c : Nat) (g : Nat → Nat → Int) (m : Nat) (c2 : Nat) (h : Nat → Nat → Int) (x : Int) (y : Int) (N7_ : hN7_ n) (M7_ : hM7_ m) (A : hA n g) (P_ : hP_ x y) (B : hB m h) (S_ : hS_ n g m h) (L : hL n g m h) (Q : hQ n m) (X : hX x) (n0 : hn0 n) (m0 : hm0 m) : lpC_row_row n c g m c2 h x y := by
  have a1 := cpV_len3 A
  have p1y : (ptE x y) = (Pl.cr y (-8 : Int) (8 : Int)) := if_pos X
  have Y_ : (Pl.cr y (-8 : Int) (8 : Int)) ≠ (0 : Int) := p1y ▸ P_
  obtain ⟨b0, s1, s2, z1, z2, s3⟩ := lpAB A B
  have T_ := tSn s1 S_
  have K := s3.symm.trans L
  exact sndY (r := lp36 n c g m c2 h x y) (by delta lp36; exact Eq.refl _) smx lpK_ok (lp36_g n c g m c2 h x y) ((lp36_o n c g m c2 h x y).symm ▸ lpB51 n g m h x y A B K L M7_ N7_ P_ Q S_ T_ X Y_ b0 m0 n0 p1y s1 s2 z1 z2)
theorem lp37_p (n : Nat) (c : Nat) (g : Nat → Nat → Int) (m : Nat) (c2 : Nat) (h : Nat → Nat → Int) (x : Int) (y : Int) (N7_ : hN7_ n) (M7_ : hM7_ m) (A : hA n g) (P_ : hP_ x y) (B : hB m h) (S_ : hS_ n g m h) (L : hL n g m h) (Q : hQ n m) (X_ : hX_ x) (n0 : hn0 n) (m0 : hm0 m) : lpC_row_row n c g m c2 h x y := by
  have a1 := cpV_len3 A
  have p1x : (ptE x y) = (Pl.cr x (-8 : Int) (8 : Int)) := if_neg X_
  obtain ⟨b0, s1, s2, z1, z2, s3⟩ := lpAB A B
  have T_ := tSn s1 S_
  have K := s3.symm.trans L
  exact sndY (r := lp37 n c g m c2 h x y) (by delta lp37; exact Eq.refl _) smx lpK_ok (lp37_g n c g m c2 h x y) ((lp37_o n c g m c2 h x y).symm ▸ lpB52 n g m h x y A B K L M7_ N7_ P_ Q S_ T_ X_ b0 m0 n0 p1x s1 s2 z1 z2)
theorem lp38_p (n : Nat) (c : Nat) (g : Nat → Nat → Int) (m : Nat) (c2 : Nat) (h : Nat → Nat → Int) (x : Int) (y : Int) (N7_ : hN7_ n) (M7_ : hM7_ m) (A : hA n g) (P_ : hP_ x y) (B : hB m h) (S_ : hS_ n g m h) (L : hL n g m h) (Q_ : hQ_ n m) (U : hU n g m h) (X : hX x) (n0 : hn0 n) (m0 : hm0 m) : lpC_row_row n c g m c2 h x y := by
  have a1 := cpV_len3 A
  have p1y : (ptE x y) = (Pl.cr y (-8 : Int) (8 : Int)) := if_pos X
  have Y_ : (Pl.cr y (-8 : Int) (8 : Int)) ≠ (0 : Int) := p1y ▸ P_
  obtain ⟨b0, s1, s2, z1, z2, s3⟩ := lpAB A B
  have T_ := tSn s1 S_
  have K := s3.symm.trans L
  exact sndY (r := lp38 n c g m c2 h x y) (by delta lp38; exact Eq.refl _) smx lpK_ok (lp38_g n c g m c2 h x y) ((lp38_o n c g m c2 h x y).symm ▸ lpB55 n g m h x y A B K L M7_ N7_ P_ Q_ S_ T_ U X Y_ b0 m0 n0 p1y s1 s2 z1 z2)
theorem lp39_p (n : Nat) (c : Nat) (g : Nat → Nat → Int) (m : Nat) (c2 : Nat) (h : Nat → Nat → Int) (x : Int) (y : Int) (N7_ : hN7_ n) (M7_ : hM7_ m) (A : hA n g) (P_ : hP_ x y) (B : hB m h) (S_ : hS_ n g m h) (L : hL n g m h) (Q_ : hQ_ n m) (U : hU n g m h) (X_ : hX_ x) (n0 : hn0 n) (m0 : hm0 m) : lpC_row_row n c g m c2 h x y := by
  have a1 := cpV_len3 A
  have p1x : (ptE x y) = (Pl.cr x (-8 : Int) (8 : Int)) := if_neg X_
  obtain ⟨b0, s1, s2, z1, z2, s3⟩ := lpAB A B
  have T_ := tSn s1 S_
  have K := s3.symm.trans L
  exact sndY (r := lp39 n c g m c2 h x y) (by delta lp39; exact Eq.refl _) smx lpK_ok (lp39_g n c g m c2 h x y) ((lp39_o n c g m c2 h x y).symm ▸ lpB56 n g m h x y A B K L M7_ N7_ P_ Q_ S_ T_ U X_ b0 m0 n0 p1x s1 s2 z1 z2)
theorem lp40_p (n : Nat) (c : Nat) (g : Nat → Nat → Int) (m : Nat) (c2 : Nat) (h : Nat → Nat → Int) (x : Int) (y : Int) (N7_ : hN7_ n) (M7_ : hM7_ m) (A : hA n g) (P_ : hP_ x y) (B : hB m h) (S_ : hS_ n g m h) (L : hL n g m h) (Q_ : hQ_ n m) (U_ : hU_ n g m h) (X : hX x) (n0 : hn0 n) (m0 : hm0 m) : lpC_row_row n c g m c2 h x y := by
  have a1 := cpV_len3 A
  have p1y : (ptE x y) = (Pl.cr y (-8 : Int) (8 : Int)) := if_pos X
  have Y_ : (Pl.cr y (-8 : Int) (8 : Int)) ≠ (0 : Int) := p1y ▸ P_
  obtain ⟨b0, s1, s2, z1, z2, s3⟩ := lpAB A B
  have T_ := tSn s1 S_
  have K := s3.symm.trans L
  exact sndY (r := lp40 n c g m c2 h x y) (by delta lp40; exact Eq.refl _) smx lpK_ok (lp40_g n c g m c2 h x y) ((lp40_o n c g m c2 h x y).symm ▸ lpB58 n g m h x y A B K L M7_ N7_ P_ Q_ S_ T_ U_ X Y_ b0 m0 n0 p1y s1 s2 z1 z2)
theorem lp41_p (n : Nat) (c : Nat) (g : Nat → Nat → Int) (m : Nat) (c2 : Nat) (h : Nat → Nat → Int) (x : Int) (y : Int) (N7_ : hN7_ n) (M7_ : hM7_ m) (A : hA n g) (P_ : hP_ x y) (B : hB m h) (S_ : hS_ n g m h) (L : hL n g m h) (Q_ : hQ_ n m) (U_ : hU_ n g m h) (X_ : hX_ x) (n0 : hn0 n) (m0 : hm0 m) : lpC_row_row n c g m c2 h x y := by
  have a1 := cpV_len3 A
  have p1x : (ptE x y) = (Pl.cr x (-8 : Int) (8 : Int)) := if_neg X_
  obtain ⟨b0, s1, s2, z1, z2, s3⟩ := lpAB A B
  have T_ := tSn s1 S_
  have K := s3.symm.trans L
  exact sndY (r := lp41 n c g m c2 h x y) (by delta lp41; exact Eq.refl _) smx lpK_ok (lp41_g n c g m c2 h x y) ((lp41_o n c g m c2 h x y).symm ▸ lpB59 n g m h x y A B K L M7_ N7_ P_ Q_ S_ T_ U_ X_ b0 m0 n0 p1x s1 s2 z1 z2)
theorem lp42_p (n : Nat) (c : Nat) (g : Nat → Nat → Int) (m : Nat) (c2 : Nat) (h : Nat → Nat → Int) (x : Int) (y : Int) (N7_ : hN7_ n) (M7_ : hM7_ m) (A : hA n g) (P_ : hP_ x y) (B : hB m h) (S_ : hS_ n g m h) (L_ : hL_ n g m h) (Q : hQ n m) (X : hX x) (n0 : hn0 n) (m0 : hm0 m) : lpC_row_row n c g m c2 h x y := by
  have a1 := cpV_len3 A
  have p1y : (ptE x y) = (Pl.cr y (-8 : Int) (8 : Int)) := if_pos X
  have Y_ : (Pl.cr y (-8 : Int) (8 : Int)) ≠ (0 : Int) := p1y ▸ P_
  obtain ⟨b0, s1, s2, z1, z2, s3⟩ := lpAB A B
  have T_ := tSn s1 S_
  have K_ := fun e => L_ (s3.trans e)
  exact sndY (r := lp42 n c g m c2 h x y) (by delta lp42; exact Eq.refl _) smx lpK_ok (lp42_g n c g m c2 h x y) ((lp42_o n c g m c2 h x y).symm ▸ lpB62 n g m h x y A B K_ L_ M7_ N7_ P_ Q S_ T_ X Y_ b0 m0 n0 p1y z1 z2)
theorem lp43_p (n : Nat) (c : Nat) (g : Nat → Nat → Int) (m : Nat) (c2 : Nat) (h : Nat → Nat → Int) (x : Int) (y : Int) (N7_ : hN7_ n) (M7_ : hM7_ m) (A : hA n g) (P_ : hP_ x y) (B : hB m h) (S_ : hS_ n g m h) (L_ : hL_ n g m h) (Q : hQ n m) (X_ : hX_ x) (n0 : hn0 n) (m0 : hm0 m) : lpC_row_row n c g m c2 h x y := by
  have a1 := cpV_len3 A
  have p1x : (ptE x y) = (Pl.cr x (-8 : Int) (8 : Int)) := if_neg X_
  obtain ⟨b0, s1, s2, z1, z2, s3⟩ := lpAB A B
  have T_ := tSn s1 S_
  have K_ := fun e => L_ (s3.trans e)
  exact sndY (r := lp43 n c g m c2 h x y) (by delta lp43; exact Eq.refl _) smx lpK_ok (lp43_g n c g m c2 h x y) ((lp43_o n c g m c2 h x y).symm ▸ lpB63 n g m h x y A B K_ L_ M7_ N7_ P_ Q S_ T_ X_ b0 m0 n0 p1x z1 z2)
theorem lp44_p (n : Nat) (c : Nat) (g : Nat → Nat → Int) (m : Nat) (c2 : Nat) (h : Nat → Nat → Int) (x : Int) (y : Int) (N7_ : hN7_ n) (M7_ : hM7_ m) (A : hA n g) (P_ : hP_ x y) (B : hB m h) (S_ : hS_ n g m h) (L_ : hL_ n g m h) (Q_ : hQ_ n m) (U : hU n g m h) (X : hX x) (n0 : hn0 n) (m0 : hm0 m) : lpC_row_row n c g m c2 h x y := by
  have a1 := cpV_len3 A
  have p1y : (ptE x y) = (Pl.cr y (-8 : Int) (8 : Int)) := if_pos X
  have Y_ : (Pl.cr y (-8 : Int) (8 : Int)) ≠ (0 : Int) := p1y ▸ P_
  obtain ⟨b0, s1, s2, z1, z2, s3⟩ := lpAB A B
  have T_ := tSn s1 S_
  have K_ := fun e => L_ (s3.trans e)
  exact sndY (r := lp44 n c g m c2 h x y) (by delta lp44; exact Eq.refl _) smx lpK_ok (lp44_g n c g m c2 h x y) ((lp44_o n c g m c2 h x y).symm ▸ lpB66 n g m h x y A B K_ L_ M7_ N7_ P_ Q_ S_ T_ U X Y_ b0 m0 n0 p1y z1 z2)
theorem lp45_p (n : Nat) (c : Nat) (g : Nat → Nat → Int) (m : Nat) (c2 : Nat) (h : Nat → Nat → Int) (x : Int) (y : Int) (N7_ : hN7_ n) (M7_ : hM7_ m) (A : hA n g) (P_ : hP_ x y) (B : hB m h) (S_ : hS_ n g m h) (L_ : hL_ n g m h) (Q_ : hQ_ n m) (U : hU n g m h) (X_ : hX_ x) (n0 : hn0 n) (m0 : hm0 m) : lpC_row_row n c g m c2 h x y := by
  have a1 := cpV_len3 A
  have p1x : (ptE x y) = (Pl.cr x (-8 : Int) (8 : Int)) := if_neg X_
  obtain ⟨b0, s1, s2, z1, z2, s3⟩ := lpAB A B
  have T_ := tSn s1 S_
  have K_ := fun e => L_ (s3.trans e)
  exact sndY (r := lp45 n c g m c2 h x y) (by delta lp45; exact Eq.refl _) smx lpK_ok (lp45_g n c g m c2 h x y) ((lp45_o n c g m c2 h x y).symm ▸ lpB67 n g m h x y A B K_ L_ M7_ N7_ P_ Q_ S_ T_ U X_ b0 m0 n0 p1x z1 z2)
theorem lp46_p (n : Nat) (c : Nat) (g : Nat → Nat → Int) (m : Nat) (c2 : Nat) (h : Nat → Nat → Int) (x : Int) (y : Int) (N7_ : hN7_ n) (M7_ : hM7_ m) (A : hA n g) (P_ : hP_ x y) (B : hB m h) (S_ : hS_ n g m h) (L_ : hL_ n g m h) (Q_ : hQ_ n m) (U_ : hU_ n g m h) (X : hX x) (n0 : hn0 n) (m0 : hm0 m) : lpC_row_row n c g m c2 h x y := by
  have a1 := cpV_len3 A
  have p1y : (ptE x y) = (Pl.cr y (-8 : Int) (8 : Int)) := if_pos X
  have Y_ : (Pl.cr y (-8 : Int) (8 : Int)) ≠ (0 : Int) := p1y ▸ P_
  obtain ⟨b0, s1, s2, z1, z2, s3⟩ := lpAB A B
  have T_ := tSn s1 S_
  have K_ := fun e => L_ (s3.trans e)
  exact sndY (r := lp46 n c g m c2 h x y) (by delta lp46; exact Eq.refl _) smx lpK_ok (lp46_g n c g m c2 h x y) ((lp46_o n c g m c2 h x y).symm ▸ lpB69 n g m h x y A B K_ L_ M7_ N7_ P_ Q_ S_ T_ U_ X Y_ b0 m0 n0 p1y z1 z2)
theorem lp47_p (n : Nat) (c : Nat) (g : Nat → Nat → Int) (m : Nat) (c2 : Nat) (h : Nat → Nat → Int) (x : Int) (y : Int) (N7_ : hN7_ n) (M7_ : hM7_ m) (A : hA n g) (P_ : hP_ x y) (B : hB m h) (S_ : hS_ n g m h) (L_ : hL_ n g m h) (Q_ : hQ_ n m) (U_ : hU_ n g m h) (X_ : hX_ x) (n0 : hn0 n) (m0 : hm0 m) : lpC_row_row n c g m c2 h x y := by
  have a1 := cpV_len3 A
  have p1x : (ptE x y) = (Pl.cr x (-8 : Int) (8 : Int)) := if_neg X_
  obtain ⟨b0, s1, s2, z1, z2, s3⟩ := lpAB A B
  have T_ := tSn s1 S_
  have K_ := fun e => L_ (s3.trans e)
  exact sndY (r := lp47 n c g m c2 h x y) (by delta lp47; exact Eq.refl _) smx lpK_ok (lp47_g n c g m c2 h x y) ((lp47_o n c g m c2 h x y).symm ▸ lpB70 n g m h x y A B K_ L_ M7_ N7_ P_ Q_ S_ T_ U_ X_ b0 m0 n0 p1x z1 z2)
theorem lp48_p (n : Nat) (c : Nat) (g : Nat → Nat → Int) (m : Nat) (c2 : Nat) (h : Nat → Nat → Int) (x : Int) (y : Int) (N7_ : hN7_ n) (M7_ : hM7_ m) (A : hA n g) (P_ : hP_ x y) (B_ : hB_ m h) (X : hX x) (n0 : hn0 n) (m0 : hm0 m) : lpC_row_row n c g m c2 h x y := by
  have a1 := cpV_len3 A
  have p1y : (ptE x y) = (Pl.cr y (-8 : Int) (8 : Int)) := if_pos X
  have Y_ : (Pl.cr y (-8 : Int) (8 : Int)) ≠ (0 : Int) := p1y ▸ P_
  exact sndY (r := lp48 n c g m c2 h x y) (by delta lp48; exact Eq.refl _) smx lpK_ok (lp48_g n c g m c2 h x y) ((lp48_o n c g m c2 h x y).symm ▸ lpB72 n g m h x y A B_ M7_ N7_ P_ X Y_ m0 n0 p1y)
theorem lp49_p (n : Nat) (c : Nat) (g : Nat → Nat → Int) (m : Nat) (c2 : Nat) (h : Nat → Nat → Int) (x : Int) (y : Int) (N7_ : hN7_ n) (M7_ : hM7_ m) (A : hA n g) (P_ : hP_ x y) (B_ : hB_ m h) (X_ : hX_ x) (n0 : hn0 n) (m0 : hm0 m) : lpC_row_row n c g m c2 h x y := by
  have a1 := cpV_len3 A
  have p1x : (ptE x y) = (Pl.cr x (-8 : Int) (8 : Int)) := if_neg X_
  exact sndY (r := lp49 n c g m c2 h x y) (by delta lp49; exact Eq.refl _) smx lpK_ok (lp49_g n c g m c2 h x y) ((lp49_o n c g m c2 h x y).symm ▸ lpB73 n g m h x y A B_ M7_ N7_ P_ X_ m0 n0 p1x)
theorem lp50_p (n : Nat) (c : Nat) (g : Nat → Nat → Int) (m : Nat) (c2 : Nat) (h : Nat → Nat → Int) (x : Int) (y : Int) (N7_ : hN7_ n) (M7_ : hM7_ m) (A_ : hA_ n g) (n0 : hn0 n) (m0 : hm0 m) : lpC_row_row n c g m c2 h x y := by
  exact sndY (r := lp50 n c g m c2 h x y) (by delta lp50; exact Eq.refl _) smx lpK_ok (lp50_g n c g m c2 h x y) ((lp50_o n c g m c2 h x y).symm ▸ lpB74 n g m h A_ M7_ N7_ m0 n0)
theorem lpr_nil_nil (x : Int) (y : Int) : lpC_nil_nil x y := by
  exact lp0_p x y 
theorem lpr_nil_emp (c2 : Nat) (x : Int) (y : Int) : lpC_nil_emp c2 x y := by
  exact lp1_p c2 x y 
theorem lpr_nil_row (m : Nat) (c2 : Nat) (h : Nat → Nat → Int) (x : Int) (y : Int) (m0 : m ≠ 0) : lpC_nil_row m c2 h x y := by
  by_cases M7 : (7 : Int) < ((m : Nat) : Int)
  · exact lp2_p m c2 h x y M7 m0
  · have M7_ : ¬ (7 : Int) < ((m : Nat) : Int) := M7
    exact lp3_p m c2 h x y M7_ m0
theorem lpr_emp_nil (c : Nat) (x : Int) (y : Int) : lpC_emp_nil c x y := by
  exact lp4_p c x y 
theorem lpr_emp_emp (c : Nat) (c2 : Nat) (x : Int) (y : Int) : lpC_emp_emp c c2 x y := by
  exact lp5_p c c2 x y 
theorem lpr_emp_row (c : Nat) (m : Nat) (c2 : Nat) (h : Nat → Nat → Int) (x : Int) (y : Int) (m0 : m ≠ 0) : lpC_emp_row c m c2 h x y := by
  by_cases M7 : (7 : Int) < ((m : Nat) : Int)
  · exact lp6_p c m c2 h x y M7 m0
  · have M7_ : ¬ (7 : Int) < ((m : Nat) : Int) := M7
    exact lp7_p c m c2 h x y M7_ m0
theorem lpr_row_nil (n : Nat) (c : Nat) (g : Nat → Nat → Int) (x : Int) (y : Int) (n0 : n ≠ 0) : lpC_row_nil n c g x y := by
  by_cases N7 : (7 : Int) < ((n : Nat) : Int)
  · exact lp8_p n c g x y N7 n0
  · have N7_ : ¬ (7 : Int) < ((n : Nat) : Int) := N7
    by_cases A : (cpV n g) = (0 : Int)
    · by_cases P : (ptE x y) = (0 : Int)
      · exact lp9_p n c g x y N7_ A P n0
      · have P_ : (ptE x y) ≠ (0 : Int) := P
        by_cases X : (Pl.cr x (-8 : Int) (8 : Int)) = (0 : Int)
        · exact lp10_p n c g x y N7_ A P_ X n0
        · have X_ : (Pl.cr x (-8 : Int) (8 : Int)) ≠ (0 : Int) := X
          exact lp11_p n c g x y N7_ A P_ X_ n0
    · have A_ : (cpV n g) ≠ (0 : Int) := A
      exact lp12_p n c g x y N7_ A_ n0
theorem lpr_row_emp (n : Nat) (c : Nat) (g : Nat → Nat → Int) (c2 : Nat) (x : Int) (y : Int) (n0 : n ≠ 0) : lpC_row_emp n c g c2 x y := by
  by_cases N7 : (7 : Int) < ((n : Nat) : Int)
  · exact lp13_p n c g c2 x y N7 n0
  · have N7_ : ¬ (7 : Int) < ((n : Nat) : Int) := N7
    by_cases A : (cpV n g) = (0 : Int)
    · by_cases P : (ptE x y) = (0 : Int)
      · exact lp14_p n c g c2 x y N7_ A P n0
      · have P_ : (ptE x y) ≠ (0 : Int) := P
        by_cases X : (Pl.cr x (-8 : Int) (8 : Int)) = (0 : Int)
        · exact lp15_p n c g c2 x y N7_ A P_ X n0
        · have X_ : (Pl.cr x (-8 : Int) (8 : Int)) ≠ (0 : Int) := X
          exact lp16_p n c g c2 x y N7_ A P_ X_ n0
    · have A_ : (cpV n g) ≠ (0 : Int) := A
      exact lp17_p n c g c2 x y N7_ A_ n0
theorem lpr_row_row (n : Nat) (c : Nat) (g : Nat → Nat → Int) (m : Nat) (c2 : Nat) (h : Nat → Nat → Int) (x : Int) (y : Int) (n0 : n ≠ 0) (m0 : m ≠ 0) : lpC_row_row n c g m c2 h x y := by
  by_cases N7 : (7 : Int) < ((n : Nat) : Int)
  · exact lp18_p n c g m c2 h x y N7 n0 m0
  · have N7_ : ¬ (7 : Int) < ((n : Nat) : Int) := N7
    by_cases M7 : (7 : Int) < ((m : Nat) : Int)
    · exact lp19_p n c g m c2 h x y N7_ M7 n0 m0
    · have M7_ : ¬ (7 : Int) < ((m : Nat) : Int) := M7
      by_cases A : (cpV n g) = (0 : Int)
      · by_cases P : (ptE x y) = (0 : Int)
        · by_cases B : (cpV m h) = (0 : Int)
          · by_cases S : (((suN n m g h) : Nat) : Int) = (0 : Int)
            · by_cases Q : (5 : Int) < (((n + m - 1) : Nat) : Int)
              · exact lp20_p n c g m c2 h x y N7_ M7_ A P B S Q n0 m0
              · have Q_ : ¬ (5 : Int) < (((n + m - 1) : Nat) : Int) := Q
                by_cases U : (feN (fun i => (Pl.cr ((mulO g h m n) i 0) (-100 : Int) (100 : Int))) (n + m - 1) 0) = (0 : Int)
                · exact lp21_p n c g m c2 h x y N7_ M7_ A P B S Q_ U n0 m0
                · have U_ : (feN (fun i => (Pl.cr ((mulO g h m n) i 0) (-100 : Int) (100 : Int))) (n + m - 1) 0) ≠ (0 : Int) := U
                  exact lp22_p n c g m c2 h x y N7_ M7_ A P B S Q_ U_ n0 m0
            · have S_ : (((suN n m g h) : Nat) : Int) ≠ (0 : Int) := S
              by_cases L : (feN (fun i => (Pl.cr ((suG n m g h) i 0) (-100 : Int) (100 : Int))) (suN n m g h) 0) = (0 : Int)
              · by_cases Q : (5 : Int) < (((n + m - 1) : Nat) : Int)
                · exact lp23_p n c g m c2 h x y N7_ M7_ A P B S_ L Q n0 m0
                · have Q_ : ¬ (5 : Int) < (((n + m - 1) : Nat) : Int) := Q
                  by_cases U : (feN (fun i => (Pl.cr ((mulO g h m n) i 0) (-100 : Int) (100 : Int))) (n + m - 1) 0) = (0 : Int)
                  · exact lp24_p n c g m c2 h x y N7_ M7_ A P B S_ L Q_ U n0 m0
                  · have U_ : (feN (fun i => (Pl.cr ((mulO g h m n) i 0) (-100 : Int) (100 : Int))) (n + m - 1) 0) ≠ (0 : Int) := U
                    exact lp25_p n c g m c2 h x y N7_ M7_ A P B S_ L Q_ U_ n0 m0
              · have L_ : (feN (fun i => (Pl.cr ((suG n m g h) i 0) (-100 : Int) (100 : Int))) (suN n m g h) 0) ≠ (0 : Int) := L
                by_cases Q : (5 : Int) < (((n + m - 1) : Nat) : Int)
                · exact lp26_p n c g m c2 h x y N7_ M7_ A P B S_ L_ Q n0 m0
                · have Q_ : ¬ (5 : Int) < (((n + m - 1) : Nat) : Int) := Q
                  by_cases U : (feN (fun i => (Pl.cr ((mulO g h m n) i 0) (-100 : Int) (100 : Int))) (n + m - 1) 0) = (0 : Int)
                  · exact lp27_p n c g m c2 h x y N7_ M7_ A P B S_ L_ Q_ U n0 m0
                  · have U_ : (feN (fun i => (Pl.cr ((mulO g h m n) i 0) (-100 : Int) (100 : Int))) (n + m - 1) 0) ≠ (0 : Int) := U
                    exact lp28_p n c g m c2 h x y N7_ M7_ A P B S_ L_ Q_ U_ n0 m0
          · have B_ : (cpV m h) ≠ (0 : Int) := B
            exact lp29_p n c g m c2 h x y N7_ M7_ A P B_ n0 m0
        · have P_ : (ptE x y) ≠ (0 : Int) := P
          by_cases B : (cpV m h) = (0 : Int)
          · by_cases S : (((suN n m g h) : Nat) : Int) = (0 : Int)
            · by_cases Q : (5 : Int) < (((n + m - 1) : Nat) : Int)
              · by_cases X : (Pl.cr x (-8 : Int) (8 : Int)) = (0 : Int)
                · exact lp30_p n c g m c2 h x y N7_ M7_ A P_ B S Q X n0 m0
                · have X_ : (Pl.cr x (-8 : Int) (8 : Int)) ≠ (0 : Int) := X
                  exact lp31_p n c g m c2 h x y N7_ M7_ A P_ B S Q X_ n0 m0
              · have Q_ : ¬ (5 : Int) < (((n + m - 1) : Nat) : Int) := Q
                by_cases U : (feN (fun i => (Pl.cr ((mulO g h m n) i 0) (-100 : Int) (100 : Int))) (n + m - 1) 0) = (0 : Int)
                · by_cases X : (Pl.cr x (-8 : Int) (8 : Int)) = (0 : Int)
                  · exact lp32_p n c g m c2 h x y N7_ M7_ A P_ B S Q_ U X n0 m0
                  · have X_ : (Pl.cr x (-8 : Int) (8 : Int)) ≠ (0 : Int) := X
                    exact lp33_p n c g m c2 h x y N7_ M7_ A P_ B S Q_ U X_ n0 m0
                · have U_ : (feN (fun i => (Pl.cr ((mulO g h m n) i 0) (-100 : Int) (100 : Int))) (n + m - 1) 0) ≠ (0 : Int) := U
                  by_cases X : (Pl.cr x (-8 : Int) (8 : Int)) = (0 : Int)
                  · exact lp34_p n c g m c2 h x y N7_ M7_ A P_ B S Q_ U_ X n0 m0
                  · have X_ : (Pl.cr x (-8 : Int) (8 : Int)) ≠ (0 : Int) := X
                    exact lp35_p n c g m c2 h x y N7_ M7_ A P_ B S Q_ U_ X_ n0 m0
            · have S_ : (((suN n m g h) : Nat) : Int) ≠ (0 : Int) := S
              by_cases L : (feN (fun i => (Pl.cr ((suG n m g h) i 0) (-100 : Int) (100 : Int))) (suN n m g h) 0) = (0 : Int)
              · by_cases Q : (5 : Int) < (((n + m - 1) : Nat) : Int)
                · by_cases X : (Pl.cr x (-8 : Int) (8 : Int)) = (0 : Int)
                  · exact lp36_p n c g m c2 h x y N7_ M7_ A P_ B S_ L Q X n0 m0
                  · have X_ : (Pl.cr x (-8 : Int) (8 : Int)) ≠ (0 : Int) := X
                    exact lp37_p n c g m c2 h x y N7_ M7_ A P_ B S_ L Q X_ n0 m0
                · have Q_ : ¬ (5 : Int) < (((n + m - 1) : Nat) : Int) := Q
                  by_cases U : (feN (fun i => (Pl.cr ((mulO g h m n) i 0) (-100 : Int) (100 : Int))) (n + m - 1) 0) = (0 : Int)
                  · by_cases X : (Pl.cr x (-8 : Int) (8 : Int)) = (0 : Int)
                    · exact lp38_p n c g m c2 h x y N7_ M7_ A P_ B S_ L Q_ U X n0 m0
                    · have X_ : (Pl.cr x (-8 : Int) (8 : Int)) ≠ (0 : Int) := X
                      exact lp39_p n c g m c2 h x y N7_ M7_ A P_ B S_ L Q_ U X_ n0 m0
                  · have U_ : (feN (fun i => (Pl.cr ((mulO g h m n) i 0) (-100 : Int) (100 : Int))) (n + m - 1) 0) ≠ (0 : Int) := U
                    by_cases X : (Pl.cr x (-8 : Int) (8 : Int)) = (0 : Int)
                    · exact lp40_p n c g m c2 h x y N7_ M7_ A P_ B S_ L Q_ U_ X n0 m0
                    · have X_ : (Pl.cr x (-8 : Int) (8 : Int)) ≠ (0 : Int) := X
                      exact lp41_p n c g m c2 h x y N7_ M7_ A P_ B S_ L Q_ U_ X_ n0 m0
              · have L_ : (feN (fun i => (Pl.cr ((suG n m g h) i 0) (-100 : Int) (100 : Int))) (suN n m g h) 0) ≠ (0 : Int) := L
                by_cases Q : (5 : Int) < (((n + m - 1) : Nat) : Int)
                · by_cases X : (Pl.cr x (-8 : Int) (8 : Int)) = (0 : Int)
                  · exact lp42_p n c g m c2 h x y N7_ M7_ A P_ B S_ L_ Q X n0 m0
                  · have X_ : (Pl.cr x (-8 : Int) (8 : Int)) ≠ (0 : Int) := X
                    exact lp43_p n c g m c2 h x y N7_ M7_ A P_ B S_ L_ Q X_ n0 m0
                · have Q_ : ¬ (5 : Int) < (((n + m - 1) : Nat) : Int) := Q
                  by_cases U : (feN (fun i => (Pl.cr ((mulO g h m n) i 0) (-100 : Int) (100 : Int))) (n + m - 1) 0) = (0 : Int)
                  · by_cases X : (Pl.cr x (-8 : Int) (8 : Int)) = (0 : Int)
                    · exact lp44_p n c g m c2 h x y N7_ M7_ A P_ B S_ L_ Q_ U X n0 m0
                    · have X_ : (Pl.cr x (-8 : Int) (8 : Int)) ≠ (0 : Int) := X
                      exact lp45_p n c g m c2 h x y N7_ M7_ A P_ B S_ L_ Q_ U X_ n0 m0
                  · have U_ : (feN (fun i => (Pl.cr ((mulO g h m n) i 0) (-100 : Int) (100 : Int))) (n + m - 1) 0) ≠ (0 : Int) := U
                    by_cases X : (Pl.cr x (-8 : Int) (8 : Int)) = (0 : Int)
                    · exact lp46_p n c g m c2 h x y N7_ M7_ A P_ B S_ L_ Q_ U_ X n0 m0
                    · have X_ : (Pl.cr x (-8 : Int) (8 : Int)) ≠ (0 : Int) := X
                      exact lp47_p n c g m c2 h x y N7_ M7_ A P_ B S_ L_ Q_ U_ X_ n0 m0
          · have B_ : (cpV m h) ≠ (0 : Int) := B
            by_cases X : (Pl.cr x (-8 : Int) (8 : Int)) = (0 : Int)
            · exact lp48_p n c g m c2 h x y N7_ M7_ A P_ B_ X n0 m0
            · have X_ : (Pl.cr x (-8 : Int) (8 : Int)) ≠ (0 : Int) := X
              exact lp49_p n c g m c2 h x y N7_ M7_ A P_ B_ X_ n0 m0
      · have A_ : (cpV n g) ≠ (0 : Int) := A
        exact lp50_p n c g m c2 h x y N7_ M7_ A_ n0 m0
end Go.Proofs.YtbkpnhbcihcgaaaGreatDoor
end
section
namespace Go.Proofs.YtbkpnhbcihcgaaaGreatDoor
set_option linter.all false
open Go.ChangeShapes Go.WideShapes Go.RowKit
namespace Mini

def pairsK (g : TypeId → Option (List IntKind)) (P : Program) : Nat → List (Nat × TypeId) → Option (List IntKind)
  | _, [] => some []
  | off, x :: l => match g x.2 with
    | some ks => match (x.1 == off) && (P.cellsOf x.2 == ks.length) with
      | true => match pairsK g P (off + ks.length) l with
        | some r => some (ks ++ r)
        | none => none
      | false => none
    | none => none
def kindsT (P : Program) : Nat → TypeId → Option (List IntKind)
  | 0, _ => none
  | n + 1, t => match P.underlying t with
    | some (.int k) => some [k]
    | some (.array m e) => match pairsK (kindsT P n) P 0 ((List.range m).map fun i => (i * P.cellsOf e, e)) with
      | some ks => match P.cellsOf t == ks.length with
        | true => some ks
        | false => none
      | none => none
    | some (.struct fs) => match pairsK (kindsT P n) P 0 (fs.toList.map fun f => (f.offset, f.type)) with
      | some ks => match P.cellsOf t == ks.length with
        | true => some ks
        | false => none
      | none => none
    | _ => none
def wfs : List IntKind → List Int → Bool
  | k :: ks, n :: ns => (Lit.int k n).wf && wfs ks ns
  | _, _ => true
theorem backI_append : ∀ (ks ks' : List IntKind) (ns ns' : List Int), ns.length = ks.length → backI (ks ++ ks') (ns ++ ns') = backI ks ns ++ backI ks' ns'
  | [], ks', [], ns', _ => rfl
  | k :: ks, ks', n :: ns, ns', h => by
    show Value.int k n :: backI (ks ++ ks') (ns ++ ns') = _
    rw [backI_append ks ks' ns ns' (by simpa using h)]
    rfl
  | [], ks', n :: ns, ns', h => by cases h
  | k :: ks, ks', [], ns', h => by cases h
theorem wfs_append : ∀ (ks ks' : List IntKind) (ns ns' : List Int), ns.length = ks.length → wfs ks ns = true → wfs ks' ns' = true → wfs (ks ++ ks') (ns ++ ns') = true
  | [], ks', [], ns', _, _, h => h
  | k :: ks, ks', n :: ns, ns', h, h1, h2 => by
    simp only [wfs, Bool.and_eq_true] at h1
    show ((Lit.int k n).wf && wfs (ks ++ ks') (ns ++ ns')) = true
    rw [h1.1, wfs_append ks ks' ns ns' (by simpa using h) h1.2 h2]
    rfl
  | [], ks', n :: ns, ns', h, _, _ => by cases h
  | k :: ks, ks', [], ns', h, _, _ => by cases h
theorem mapM_map' {α β γ : Type} (f : α → β) (g : β → Option γ) : ∀ l : List α, (l.map f).mapM g = l.mapM fun a => g (f a)
  | [] => rfl
  | a :: l => by simp [List.mapM_cons, mapM_map' f g l]

section
variable {H : Type} {enc : TypeId × Value → H} {P : Program}

def Flat (enc : TypeId × Value → H) (P : Program) (fuel : Nat) (t : TypeId) (cs : List Value) (d : DataW H) (ks : List IntKind) : Prop :=
  ∃ ns, ns.length = ks.length ∧ cs = backI ks ns ∧ wfs ks ns = true ∧ ∀ w b sp held, DataW.trod enc P w b sp held fuel t cs = some (d, [])
theorem flat_pairs {n fuel : Nat} (IH : ∀ (t : TypeId) (ks : List IntKind), kindsT P n t = some ks → ∀ (cs : List Value) (d : DataW H) (p : List MemPlace) w b sp held, DataW.trod enc P w b sp held fuel t cs = some (d, p) → p = [] ∧ Flat enc P fuel t cs d ks) :
    ∀ (L : List (Nat × TypeId)) (off : Nat) (ks : List IntKind) (cs : List Value) (xs : List (DataW H × List MemPlace)) (w : World) (b : Nat) (sp : Nat → Bool) (held : Bool), pairsK (kindsT P n) P off L = some ks → off + ks.length ≤ cs.length →
      L.mapM (fun x => DataW.trod enc P w b sp held fuel x.2 ((cs.drop x.1).take (P.cellsOf x.2))) = some xs →
      xs.flatMap (·.2) = [] ∧ ∃ ns, ns.length = ks.length ∧ (cs.drop off).take ks.length = backI ks ns ∧ wfs ks ns = true ∧ ∀ w b sp held, L.mapM (fun x => DataW.trod enc P w b sp held fuel x.2 ((cs.drop x.1).take (P.cellsOf x.2))) = some xs
  | [], off, ks, cs, xs, w, b, sp, held, hk, hl, hm => by
    cases hk
    simp at hm
    subst hm
    exact ⟨rfl, [], rfl, by simp [backI], rfl, fun _ _ _ _ => rfl⟩
  | x :: L, off, ks, cs, xs, w, b, sp, held, hk, hl, hm => by
    simp only [pairsK] at hk
    split at hk
    · rename_i ks1 hk1
      split at hk
      · rename_i hc
        simp only [Bool.and_eq_true, beq_iff_eq] at hc
        obtain ⟨hx, hcell⟩ := hc
        split at hk
        · rename_i r hr
          cases hk
          simp only [List.length_append] at hl
          simp only [List.mapM_cons, Option.bind_eq_bind, Option.bind_eq_some_iff, Option.pure_def, Option.some.injEq] at hm
          obtain ⟨y, hy, ys, hys, rfl⟩ := hm
          obtain ⟨d, p⟩ := y
          obtain ⟨rfl, ns1, l1, c1, f1, t1⟩ := IH x.2 ks1 hk1 _ d p w b sp held hy
          obtain ⟨e2, ns2, l2, c2, f2, t2⟩ := flat_pairs IH L (off + ks1.length) r cs ys w b sp held hr (by omega) hys
          refine ⟨by simpa using e2, ns1 ++ ns2, by simp [l1, l2], ?_, wfs_append _ _ _ _ l1 f1 f2, fun w' b' sp' held' => ?_⟩
          · rw [backI_append _ _ _ _ l1, ← c2, List.length_append, List.take_add, List.drop_drop]
            rw [hx, hcell] at c1
            rw [c1]
          · simp only [List.mapM_cons, Option.bind_eq_bind, Option.pure_def]
            rw [t1 w' b' sp' held', t2 w' b' sp' held']
            rfl
        · cases hk
      · cases hk
    · cases hk
theorem open_kinds : ∀ (n : Nat) (t : TypeId) (ks : List IntKind), kindsT P n t = some ks → ∀ (fuel : Nat) (cs : List Value) (d : DataW H) (p : List MemPlace) w b sp held, DataW.trod enc P w b sp held fuel t cs = some (d, p) → p = [] ∧ Flat enc P fuel t cs d ks
  | 0, t, ks, hk, fuel, cs, d, p, w, b, sp, held, h => by cases hk
  | n + 1, t, ks, hk, fuel, cs, d, p, w, b, sp, held, h => by
    cases fuel with
    | zero => simp [DataW.trod] at h
    | succ fuel =>
      simp only [kindsT] at hk
      split at hk
      · rename_i k ht
        cases hk
        obtain ⟨z, rfl, hx, hw⟩ := DataW.trod_int ht h
        cases hx
        refine ⟨rfl, [z], rfl, rfl, by simp [wfs, hw], fun w' b' sp' held' => ?_⟩
        simp [DataW.trod, ht, hw]
      · rename_i m e ht
        split at hk
        · rename_i ks' hk'
          split at hk
          · rename_i hc
            cases hk
            have hc := beq_iff_eq.1 hc
            simp only [DataW.trod, ht] at h
            split at h
            · rename_i hl
              obtain ⟨xs, hm, hx⟩ := Option.map_eq_some_iff.1 h
              have hm2 : ((List.range m).map fun i => (i * P.cellsOf e, e)).mapM (fun x => DataW.trod enc P w b sp held fuel x.2 ((cs.drop x.1).take (P.cellsOf x.2))) = some xs := by rw [mapM_map']; exact hm
              obtain ⟨e1, ns, l1, c1, f1, t1⟩ := flat_pairs (fun t ks hk cs d p w b sp held h => open_kinds n t ks hk fuel cs d p w b sp held h) _ 0 ks cs xs w b sp held hk' (by omega) hm2
              simp only [Prod.mk.injEq] at hx
              obtain ⟨rfl, rfl⟩ := hx
              refine ⟨e1, ns, l1, ?_, f1, fun w' b' sp' held' => ?_⟩
              · rw [← c1, List.drop_zero, List.take_of_length_le (by omega)]
              · have := t1 w' b' sp' held'
                rw [mapM_map'] at this
                simp only [DataW.trod, ht, if_pos hl]
                rw [this]
                simp [e1]
            · cases h
          · cases hk
        · cases hk
      · rename_i fs ht
        split at hk
        · rename_i ks' hk'
          split at hk
          · rename_i hc
            cases hk
            have hc := beq_iff_eq.1 hc
            simp only [DataW.trod, ht] at h
            split at h
            · rename_i hl
              obtain ⟨xs, hm, hx⟩ := Option.map_eq_some_iff.1 h
              have hm2 : (fs.toList.map fun f => (f.offset, f.type)).mapM (fun x => DataW.trod enc P w b sp held fuel x.2 ((cs.drop x.1).take (P.cellsOf x.2))) = some xs := by rw [mapM_map']; exact hm
              obtain ⟨e1, ns, l1, c1, f1, t1⟩ := flat_pairs (fun t ks hk cs d p w b sp held h => open_kinds n t ks hk fuel cs d p w b sp held h) _ 0 ks cs xs w b sp held hk' (by omega) hm2
              simp only [Prod.mk.injEq] at hx
              obtain ⟨rfl, rfl⟩ := hx
              refine ⟨e1, ns, l1, ?_, f1, fun w' b' sp' held' => ?_⟩
              · rw [← c1, List.drop_zero, List.take_of_length_le (by omega)]
              · have := t1 w' b' sp' held'
                rw [mapM_map'] at this
                simp only [DataW.trod, ht, if_pos hl]
                rw [this]
                simp [e1]
            · cases h
          · cases hk
        · cases hk
      · cases hk
def isRow (P : Program) (t : TypeId) : Bool := match P.underlying t with
  | some (.struct _) | some (.array _ _) => true
  | _ => false
theorem open_agg {w : World} {base b0 n : Nat} {spare : Nat → Bool} {held : Bool} {r : Reach} {t : TypeId} {v : Value} {d : DataW H} {ps : List MemPlace} {ks : List IntKind} (hr : isRow P t = true) (hk : kindsT P n t = some ks) (hval : Value.okWide P w r b0 t v) (hd : DataW.Trod enc P w base spare held t v d ps) :
    ∃ ns, ns.length = ks.length ∧ v = .agg (backI ks ns).toArray ∧ ps = [] ∧ wfs ks ns = true ∧ ∀ w b sp held, DataW.Trod enc P w b sp held t v d [] := by
  obtain ⟨cs, rfl⟩ : ∃ cs, v = .agg cs := by
    unfold isRow at hr
    unfold Value.okWide at hval
    split at hr
    · rename_i h; rw [h] at hval; obtain ⟨cs, h1, _⟩ := hval; exact ⟨cs, h1⟩
    · rename_i h; rw [h] at hval; obtain ⟨cs, h1, _⟩ := hval; exact ⟨cs, h1⟩
    · cases hr
  obtain ⟨fuel, hf⟩ := hd
  obtain ⟨rfl, ns, l1, c1, f1, t1⟩ := open_kinds n t ks hk fuel _ d ps w base spare held hf
  refine ⟨ns, l1, ?_, rfl, f1, fun w b sp held => ⟨fuel, t1 w b sp held⟩⟩
  congr 1
  apply Array.ext'
  simpa [Value.cells] using c1
end
end Mini
end Go.Proofs.YtbkpnhbcihcgaaaGreatDoor
end
section
namespace Go.Proofs.YtbkpnhbcihcgaaaGreatDoor
set_option linter.all false
open Go.ChangeShapes Go.WideShapes Go.ChangeAt Go.RowKit

section
variable {H : Type} {enc : TypeId × Value → H} {P : Program}
theorem post_below {f : Func} {s : ChangeSpec} {W W' : World} {args : Array Value} {v : Value} {ds gs : List (DataW H)} {ps pa pv : List MemPlace} {apart fresh handsOn again : Bool} (hw : DataW.Whole enc P f.params.toList s.vars apart W args.toList ds gs ps)
    (ok : ∀ (j : Nat) (t : TypeId) (r : Value), f.resultTypes[j]? = some t → (v.resultList f.resultTypes.size)[j]? = some r → Value.okWide P W' .any 0 t r)
    (res : ∀ (b : Nat) (sp : Nat → Bool) (hd : Bool), DataW.TrodAll enc P W' b sp hd f.resultTypes.toList (v.resultList f.resultTypes.size) (s.fn H (ds ++ gs)).results [])
    (arg : ∀ sp : Nat → Bool, (∀ p ∈ ps, sp p.block = true) → DataW.TrodAll enc P W' 0 sp true f.params.toList args.toList (s.fn H (ds ++ gs)).args pa)
    (vrs : ∀ sp : Nat → Bool, (∀ p ∈ ps, sp p.block = true) → DataW.TrodVars enc P W' sp s.vars (s.fn H (ds ++ gs)).vars pv)
    (hps : ps = pa ++ pv) (hb : Below W.heap.size W W') : s.post enc P f apart fresh handsOn again W args v W' := by
  have hb' := hb
  have lt : ∀ p ∈ ps, p.block < W.heap.size := fun p hp => hw.lt p hp
  have old : ∀ p ∈ ps, (fun b => decide (b < W.heap.size)) p.block = true := fun p hp => by simpa using lt p hp
  have whole := hw
  obtain ⟨_, _, _, _, _, hz, hn⟩ := hw
  subst hps
  refine ⟨ds, gs, pa ++ pv, [], pa, pv, whole, res _ _ _, arg _ old, vrs _ old, World.keptBut_mono (fun p hp => ⟨hp, Or.inr (List.mem_append.1 hp)⟩) (hb'.frame (· ∈ pa ++ pv)), fun _ => ⟨ok, _, _, ([] ++ pa) ++ pv, ⟨[] ++ pa, pv, trodAll_append (arg _ (fun _ _ => rfl)) (res _ _ _), vrs _ (fun _ _ => rfl), rfl, fun b off hp => ?_, fun ha => ?_⟩, fun p hp _ => ?_⟩⟩
  · have hin : MemPlace.cell b off ∈ pa ++ pv := by simpa using hp
    exact (hb'.frozen (lt _ hin)).trans (hz b off hin)
  · simpa using hn ha
  · simpa using hp
end

section
open Go.Lib

theorem trod_lit {H : Type} {enc : TypeId × Value → H} {P : Program} {w : World} {base : Nat} {sp : Nat → Bool} {held : Bool} {fuel : Nat} {t : TypeId} {k : IntKind} {z : Int} {cs : List Value} {p : List MemPlace}
    (ht : P.underlying t = some (.int k)) (h : DataW.trod enc P w base sp held fuel t cs = some (.lit (.int k z), p)) : cs = [.int k z] := by
  obtain ⟨z', hc, hd, _⟩ := DataW.trod_int ht h
  cases hd
  exact hc
theorem cells_of_pairs {H : Type} {enc : TypeId × Value → H} {P : Program} {w : World} {base : Nat} {sp : Nat → Bool} {held : Bool} {fuel : Nat} {t e : TypeId} {n : Nat} {k : IntKind} {cs : List Value} {zs : List (Int × Int)} {p : List MemPlace} {fs : Array Field} {f0 f1 : Field}
    (ht : P.underlying t = some (.array n e)) (he : P.underlying e = some (.struct fs)) (hfs : fs.toList = [f0, f1]) (h0 : f0.offset = 0) (h1 : f1.offset = 1) (k0 : P.underlying f0.type = some (.int k)) (k1 : P.underlying f1.type = some (.int k))
    (c0 : P.cellsOf f0.type = 1) (c1 : P.cellsOf f1.type = 1) (hce : P.cellsOf e = 2)
    (h : DataW.trod enc P w base sp held fuel t cs = some (.agg (zs.map fun z => .agg [.lit (.int k z.1), .lit (.int k z.2)]), p)) :
    ∀ (i : Nat) (z : Int × Int), zs[i]? = some z → cs[i * 2]? = some (.int k z.1) ∧ cs[i * 2 + 1]? = some (.int k z.2) := by
  cases fuel with
  | zero => simp [DataW.trod] at h
  | succ fuel =>
    simp only [DataW.trod, ht, hce] at h
    split at h
    · rename_i hl
      obtain ⟨xs, hm, hx⟩ := Option.map_eq_some_iff.1 h
      have hxs : xs.map (·.1) = zs.map fun z => (DataW.agg [.lit (.int k z.1), .lit (.int k z.2)] : DataW H) := by
        have := congrArg Prod.fst hx
        simpa using this
      have hxl : xs.length = n := by simpa using mapM_length hm
      have hzl : zs.length = n := by
        have := congrArg List.length hxs
        simp at this
        omega
      intro i z hz
      have hi : i < n := by
        have := (List.getElem?_eq_some_iff.1 hz).1
        omega
      obtain ⟨b, hb, hf⟩ := mapM_at hm i i (by simp [hi])
      have h2 : (xs.map (·.1))[i]? = some b.1 := by simp [hb]
      rw [hxs] at h2
      simp only [List.getElem?_map, hz, Option.map_some, Option.some.injEq] at h2
      cases fuel with
      | zero => simp [DataW.trod] at hf
      | succ fuel =>
        simp only [DataW.trod, he] at hf
        split at hf
        · obtain ⟨ys, hy, hyb⟩ := Option.map_eq_some_iff.1 hf
          rw [hfs] at hy
          simp only [List.mapM_cons, List.mapM_nil, Option.bind_eq_bind, Option.bind_eq_some_iff, Option.pure_def, Option.some.injEq] at hy
          obtain ⟨y0, e0, l1, ⟨y1, e1, l2, rfl, rfl⟩, rfl⟩ := hy
          have hb1 := congrArg Prod.fst hyb
          simp only [List.map_cons, List.map_nil] at hb1
          rw [← h2] at hb1
          simp only [DataW.agg.injEq, List.cons.injEq, and_true] at hb1
          obtain ⟨q0, q1⟩ := hb1
          obtain ⟨d0, p0⟩ := y0
          obtain ⟨d1, p1⟩ := y1
          simp only at q0 q1
          subst q0 q1
          have g0 := trod_lit k0 e0
          have g1 := trod_lit k1 e1
          rw [h0, c0] at g0
          rw [h1, c1] at g1
          have a0 := congrArg (·[0]?) g0
          have a1 := congrArg (·[0]?) g1
          simp [List.getElem?_take, List.getElem?_drop] at a0 a1
          exact ⟨by simpa using a0, by simpa using a1⟩
        · cases hf
    · cases h
end
theorem pairs_of_laid {P : Program} {W : World} {name : String} {k : IntKind} {zs : List (Int × Int)} {g : Nat} {t e : TypeId} {n : Nat} {fs : Array Field} {f0 f1 : Field}
    (hg : P.globalNamed name = some g) (hty : (P.globals[g]?).map (·.type) = some t) (ht : P.underlying t = some (.array n e)) (he : P.underlying e = some (.struct fs)) (hfs : fs.toList = [f0, f1]) (h0 : f0.offset = 0) (h1 : f1.offset = 1) (k0 : P.underlying f0.type = some (.int k)) (k1 : P.underlying f1.type = some (.int k))
    (c0 : P.cellsOf f0.type = 1) (c1 : P.cellsOf f1.type = 1) (hce : P.cellsOf e = 2)
    (h : laidMet P [(name, .agg (zs.map fun z => .agg [.lit (.int k z.1), .lit (.int k z.2)]))] W) (i : Nat) (z : Int × Int) (hz : zs[i]? = some z) :
    W.cell? ⟨g, i * 2, none⟩ = some (.int k z.1) ∧ W.cell? ⟨g, i * 2 + 1, none⟩ = some (.int k z.2) := by
  obtain ⟨ps, ⟨g', t', cs, fuel, p, q, hg', ht', hvar, hd, _, _⟩, _⟩ := h
  obtain rfl := Option.some.inj (hg.symm.trans hg')
  obtain rfl := Option.some.inj (hty.symm.trans ht')
  obtain ⟨a, b⟩ := cells_of_pairs ht he hfs h0 h1 k0 k1 c0 c1 hce hd i z hz
  have r0 := World.var?_cell hg hvar (i * 2)
  have r1 := World.var?_cell hg hvar (i * 2 + 1)
  constructor
  · rw [r0]; simpa using a
  · rw [r1]; simpa using b
end Go.Proofs.YtbkpnhbcihcgaaaGreatDoor
end
section
namespace Go.Proofs.YtbkpnhbcihcgaaaGreatDoor
set_option linter.all false
open Go.ChangeShapes Go.WideShapes Go.ChangeAt Go.RowKit Go.Lib
end Go.Proofs.YtbkpnhbcihcgaaaGreatDoor
end
section
namespace Go.Proofs.YtbkpnhbcihcgaaaGreatDoor
set_option linter.all false
open Go.RowKit
namespace Mini
variable {P : Program} {s s1 : St} {R W : Nat}

def rhoX (P : Program) (w : World) (ext : Nat → Option Loc) : Ren := fun b =>
  if b < P.globals.size then some ⟨b, 0, true, 0, match w.heap[b]? with | some (.cells cs _ _) => cs.size | _ => 0⟩ else ext b
theorem calls_ofX {f : FuncId} {args args' : Array Value} {v : Value} {w : World} {ext : Nat → Option Loc} (h : SndF P f args s v s1 R W) (hg : ground 8 v = true) (hn : P.globals.size ≤ s.next)
    (hh : ∀ b, b < P.globals.size → s.get b = .hole ∨ ∃ c e, s.get b = .cells c e true 0 true ∧ c ≠ [] ∧ c.all (ground 8) = true ∧ ∀ (i : Nat) (v : Value), c[i]? = some v → w.cell? ⟨b, i, none⟩ = some v)
    (hx : ∀ b, P.globals.size ≤ b → b < s.next → s.get b ≠ .hole → ∃ L o', ext b = some L ∧ (roO (s.get b) = false → P.globals.size ≤ L.blk) ∧ w.heap[L.blk]? = some o' ∧ OR (rhoX P w ext) L (s.get b) o')
    (hb : ∀ b, s.next ≤ b → ext b = none) (hi : ∀ b b' L L', P.globals.size ≤ b → P.globals.size ≤ b' → s.get b ≠ .hole → s.get b' ≠ .hole → (roO (s.get b) && roO (s.get b')) = false → ext b = some L → ext b' = some L' → L.blk = L'.blk → b = b')
    (ha : VRs (rhoX P w ext) args args') (hw : ∀ b, b < s.next → W.testBit b = false) : Calls P f args' w fun e w' => e = .returned v ∧ Below w.heap.size w w' := by
  have hG : Glob P (rhoX P w ext) := fun g hg => ⟨_, if_pos hg, rfl, rfl⟩
  have hlt : ∀ b, s.get b ≠ .hole → b < s.next := fun b hb => St.lt_of_live hb
  have hblk : ∀ b L, s.get b ≠ .hole → rhoX P w ext b = some L → (b < P.globals.size ∧ L.blk = b) ∨ (P.globals.size ≤ b ∧ ext b = some L ∧ (roO (s.get b) = false → P.globals.size ≤ L.blk)) := fun b L hb hL => by
    unfold rhoX at hL
    split at hL
    · rename_i c; cases hL; exact .inl ⟨c, rfl⟩
    · rename_i c
      obtain ⟨L2, o2, e1, e2, _⟩ := hx b (by omega) (hlt b hb) hb
      rw [hL] at e1
      cases e1
      exact .inr ⟨by omega, hL, e2⟩
  have hp : Pre P none s s1 R W none (rhoX P w ext) s.get w := by
    refine ⟨hG, trivial, fun _ _ _ => rfl, fun b h1 h2 => ⟨?_, St.get_beyond s b h1⟩, fun b hb => ?_, fun b b' L L' h1 h2 hq e1 e2 he => ?_⟩
    · show (if b < P.globals.size then _ else ext b) = none
      rw [if_neg (by omega)]
      exact hb b h1
    · by_cases c : b < P.globals.size
      · rcases hh b c with k | ⟨cs0, e, k1, k2, k3, k4⟩
        · exact absurd k hb
        · obtain ⟨cs, e', fr, q1, q2, q3⟩ := cells_of k2 k4
          refine ⟨_, .cells cs e' fr, if_pos c, q1, ?_⟩
          rw [k1]
          refine ⟨rfl, rfl, fun h => (by cases h), ?_, ?_, fun i u hi => ⟨u, by simpa using q3 i u hi, ground_refl 8 (List.all_eq_true.1 k3 u (List.mem_of_getElem? hi))⟩, fun h => (by cases h), fun h => (by cases h)⟩
          · simp only [q1]
          · simp only [q1, Nat.zero_add]; exact q2
      · obtain ⟨L, o', e1, _, e3, e4⟩ := hx b (by omega) (hlt b hb) hb
        exact ⟨L, o', by show (if b < P.globals.size then _ else ext b) = _; rw [if_neg c]; exact e1, e3, e4⟩
    · have htab : ∀ b, b < P.globals.size → s.get b ≠ .hole → roO (s.get b) = true := fun b hb hn => by
        rcases hh b hb with k | ⟨c, e, k1, _⟩
        · exact absurd k hn
        · rw [k1]; rfl
      rcases hblk b L h1 e1 with ⟨a1, a2⟩ | ⟨a1, a2, a3⟩ <;> rcases hblk b' L' h2 e2 with ⟨c1, c2⟩ | ⟨c1, c2, c3⟩
      · omega
      · rw [htab b a1 h1, Bool.true_and] at hq
        have := c3 hq
        omega
      · rw [htab b' c1 h2, Bool.and_true] at hq
        have := a3 hq
        omega
      · exact hi b b' L L' a1 c1 h1 h2 hq a2 c2 he
  refine callsIn_wide.1 (h.2 0 (rhoX P w ext) s.get args' w _ hp ha fun ρ1 v' w1 p1 _ hv => ?_)
  have hv' := ground_eq 8 hg hv
  subst hv'
  refine ⟨rfl, p1.os, p1.tape, p1.output, p1.size, fun k hk => p1.frame k hk fun b L hb hlt hL => ?_⟩
  have := hw b hlt
  rw [hb] at this
  cases this
theorem or_read {ρ : Ren} {n k : Nat} {g : Nat → Nat → Value} {e : TypeId} {cs : Array Value} {e' : TypeId} {fr : Nat × Nat} {blk base : Nat} (hl : base + n * k ≤ cs.size) (hg : ∀ i j, i < n → j < k → ground 8 (g i j) = true)
    (h : ∀ i j, i < n → j < k → cs[base + (i * k + j)]? = some (g i j)) : OR ρ ⟨blk, base, true, 0, cs.size⟩ (.rows n k g e true 0 true) (.cells cs e' fr) := by
  refine ⟨rfl, rfl, fun h => (by cases h), rfl, by rw [rowsL_len]; exact hl, fun i v hi => ?_, fun h => (by cases h), fun h => (by cases h)⟩
  have hlt : i < n * k := by
    have := (List.getElem?_eq_some_iff.1 hi).1
    rwa [rowsL_len] at this
  rw [rowsL_at hlt] at hi
  cases hi
  have hk : 0 < k := by
    rcases Nat.eq_zero_or_pos k with z | z
    · subst z; simp at hlt
    · exact z
  have h1 := (Nat.div_lt_iff_lt_mul hk).2 hlt
  have h2 := Nat.mod_lt i hk
  have h3 := h _ _ h1 h2
  rw [Nat.mul_comm, Nat.div_add_mod] at h3
  exact ⟨_, h3, ground_refl 8 (hg _ _ h1 h2)⟩
end Mini
end Go.Proofs.YtbkpnhbcihcgaaaGreatDoor
end
section
namespace Go.Proofs.YtbkpnhbcihcgaaaGreatDoor
set_option linter.all false
open Go.ChangeShapes Go.WideShapes Go.ChangeAt Go.RowKit Go.Lib Go.Deep
namespace Mini
def RowsAt (W : World) (ks : List IntKind) (v : Value) : Prop := v = .slice none 0 0 ∨ ∃ (b off len cap : Nat) (g : Nat → Nat → Int), v = .slice (some ⟨b, off, none⟩) len cap ∧ len ≤ cap ∧ cap ≤ maxLen ∧
  ∀ i j, i < len → j < ks.length → W.cell? ⟨b, off + (i * ks.length + j), none⟩ = some (.int (ks.getD j .i64) (g i j)) ∧ (Lit.int (ks.getD j .i64) (g i j)).wf = true
theorem wfs_at : ∀ {ks : List IntKind} {ns : List Int} {j : Nat}, ns.length = ks.length → wfs ks ns = true → j < ks.length → (Lit.int (ks.getD j .i64) (ns.getD j 0)).wf = true
  | [], _, j, _, _, h => absurd h (by simp)
  | k :: ks, [], j, h, _, _ => by cases h
  | k :: ks, n :: ns, 0, _, h, _ => by simp only [wfs, Bool.and_eq_true] at h; exact h.1
  | k :: ks, n :: ns, j + 1, hl, h, hj => by
    simp only [wfs, Bool.and_eq_true] at h
    have := wfs_at (ks := ks) (ns := ns) (j := j) (by simpa using hl) h.2 (by simpa using hj)
    simpa using this
theorem backI_at : ∀ {ks : List IntKind} {ns : List Int} {j : Nat}, ns.length = ks.length → j < ks.length → (backI ks ns)[j]? = some (.int (ks.getD j .i64) (ns.getD j 0))
  | [], _, j, _, h => absurd h (by simp)
  | k :: ks, [], j, h, _ => by cases h
  | k :: ks, n :: ns, 0, _, _ => rfl
  | k :: ks, n :: ns, j + 1, hl, hj => by
    have := backI_at (ks := ks) (ns := ns) (j := j) (by simpa using hl) (by simpa using hj)
    simpa [backI] using this
theorem rows_of {H : Type} {enc : TypeId × Value → H} {P : Program} {W : World} {base m : Nat} {t e : TypeId} {v : Value} {d : DataW H} {p : List MemPlace} {ks : List IntKind} (ht : P.underlying t = some (.slice e)) (hk : kindsT P m e = some ks) (hc : P.cellsOf e = ks.length)
    (hv : Value.okWide P W .any base t v) (h : DataW.Trod enc P W 0 (fun _ => true) true t v d p) : RowsAt W ks v := by
  obtain ⟨a, len, cap, rfl⟩ := okWide_slice ht hv
  obtain ⟨fuel, hf⟩ := h
  rcases open_slice ht hf with ⟨hcs, _⟩ | ⟨a', len', cap', m', n, D, Pl, hcs, _, hl, hmx, hm, _, hx⟩
  · left
    simpa [Value.cells] using hcs
  · right
    have hcs : Value.slice a len cap = .slice (some a') len' cap' := by simpa [Value.cells] using hcs
    cases hcs
    simp only [Value.okWide, ht, Cell.okWide, Cell.ok, World.has] at hv
    obtain ⟨b, off, spot⟩ := a'
    have hs : spot = none := hv.2.2.2.1
    subst hs
    have hm' : len ≤ m' := by rw [hm]; exact hl
    have z0 : ∀ i, ∃ ns : List Int, i < len → ns.length = ks.length ∧ wfs ks ns = true ∧ ∀ j, j < ks.length → W.cell? ⟨b, off + (i * ks.length + j), none⟩ = (backI ks ns)[j]? := fun i => by
      by_cases hi : i < len
      · obtain ⟨cs', q1, q2⟩ := hx i (by omega)
        rw [hc] at q1
        obtain ⟨_, hlen, hcell⟩ := World.cells?_some q1
        obtain ⟨_, ns, l1, c1, f1, _⟩ := open_kinds m e ks hk n cs' (D i) (Pl i) W 0 (fun _ => true) true q2
        refine ⟨ns, fun _ => ⟨l1, f1, fun j hj => ?_⟩⟩
        have h2 := hcell j hj
        rw [Go.WideShapes.add_plain, Go.WideShapes.add_plain] at h2
        rw [← c1, ← h2]
        congr 2
        omega
      · exact ⟨[], fun h => absurd h hi⟩
    refine ⟨b, off, len, cap, fun i j => (Classical.choose (z0 i)).getD j 0, rfl, hl, hmx, fun i j hi hj => ?_⟩
    obtain ⟨e1, e2, e3⟩ := Classical.choose_spec (z0 i) hi
    exact ⟨(e3 j hj).trans (backI_at e1 hj), wfs_at e1 e2 hj⟩
def extAt (N b off sz : Nat) : Nat → Option Mini.Loc := fun x => if x = N then some ⟨b, off, true, 0, sz⟩ else none
theorem cell_obj {W : World} {b off : Nat} {v : Value} (h : W.cell? ⟨b, off, none⟩ = some v) : ∃ cs e fr, W.heap[b]? = some (.cells cs e fr) ∧ cs[off]? = some v := by
  unfold World.cell? at h
  split at h
  · rename_i c e fr hc
    exact ⟨c, e, fr, hc, by simpa using h⟩
  · cases h
theorem vrs_one {ρ : Ren} {pre post : List Value} {u u' : Value} (h1 : pre.all (ground 8) = true) (h2 : post.all (ground 8) = true) (hu : VR ρ u u') : VRs ρ (pre ++ u :: post).toArray (pre ++ u' :: post).toArray := by
  refine ⟨by simp, fun i x x' e1 e2 => ?_⟩
  simp only [List.getElem?_toArray] at e1 e2
  rw [List.all_eq_true] at h1 h2
  rcases Nat.lt_trichotomy i pre.length with c | c | c
  · rw [List.getElem?_append_left c] at e1 e2
    rw [e1] at e2
    cases e2
    exact ground_refl 8 (h1 _ (List.mem_of_getElem? e1))
  · rw [List.getElem?_append_right (by omega)] at e1 e2
    rw [c, Nat.sub_self] at e1 e2
    cases e1
    cases e2
    exact hu
  · rw [List.getElem?_append_right (by omega)] at e1 e2
    obtain ⟨q, hq⟩ : ∃ q, i - pre.length = q + 1 := ⟨i - pre.length - 1, by omega⟩
    rw [hq] at e1 e2
    simp only [List.getElem?_cons_succ] at e1 e2
    rw [e1] at e2
    cases e2
    exact ground_refl 8 (h2 _ (List.mem_of_getElem? e1))
theorem calls_row1 {P : Program} {f : FuncId} {S0 : St} {W : World} {ks : List IntKind} {pre post : List Value} {v0 : Value} {G : (Nat → Nat → Int) → Nat → Nat → Value} (hh : Holds P S0 W) (hn : S0.next = P.globals.size) (hw0 : ∀ b, b < P.globals.size → b < S0.next)
    (hp1 : pre.all (ground 8) = true) (hp2 : post.all (ground 8) = true) (hG : ∀ g i j, j < ks.length → G g i j = .int (ks.getD j .i64) (g i j)) (hk : 0 < ks.length) (hv : RowsAt W ks v0)
    (hnil : ∃ s1 R, SndF P f (pre ++ .slice none 0 0 :: post).toArray S0 (.bool true) s1 R 0)
    (hemp : ∀ c, ∃ s1 R, SndF P f (pre ++ .slice (some ⟨S0.next, 0, none⟩) 0 c :: post).toArray (S0.push .hole) (.bool true) s1 R 0)
    (hrow : ∀ n c g, 0 < n → n ≤ c → c ≤ maxLen → (∀ i j, i < n → j < ks.length → (Lit.int (ks.getD j .i64) (g i j)).wf = true) → ∃ s1 R, SndF P f (pre ++ .slice (some ⟨S0.next, 0, none⟩) n c :: post).toArray (S0.push (.rows n ks.length (G g) 0 true 0 true)) (.bool true) s1 R 0) :
    Calls P f (pre ++ v0 :: post).toArray W fun e W' => e = .returned (.bool true) ∧ Below W.heap.size W W' := by
  have hold : ∀ (o : MObj) b, b < P.globals.size → (S0.push o).get b = S0.get b := fun o b hb => St.get_push_old S0 o b (hw0 b hb)
  have hnx : ∀ o : MObj, (S0.push o).next = S0.next + 1 := fun o => rfl
  have hnew : ∀ o : MObj, (S0.push o).get S0.next = o := fun o => St.get_push_new S0 o
  rcases hv with rfl | ⟨b, off, len, cap, g, rfl, hl, hmx, hc⟩
  · obtain ⟨s1, R, h⟩ := hnil
    exact calls_of h rfl (by simp only [List.all_append, List.all_cons, hp1, hp2, ground, Bool.and_self]) (fun b _ => by simp) hh
  · rcases Nat.eq_zero_or_pos len with z | z
    · subst z
      obtain ⟨s1, R, h⟩ := hemp cap
      refine calls_ofX (ext := extAt S0.next b off 0) h rfl (by rw [hnx]; omega) (fun x hx => by rw [hold _ x hx]; exact hh.holds x hx) (fun x h1 h2 h3 => ?_) (fun x hx => if_neg (by rw [hnx] at hx; omega)) (fun x y L L' h1 h2 h3 h4 _ h5 h6 _ => ?_) (vrs_one hp1 hp2 ?_) (fun x _ => by simp)
      · rw [hnx] at h2
        have : x = S0.next := by omega
        subst this
        exact absurd (hnew _) h3
      · unfold extAt at h5 h6
        split at h5
        · split at h6
          · omega
          · cases h6
        · cases h5
      · exact .slice S0.next 0 0 cap cap ⟨b, off, true, 0, 0⟩ (by unfold rhoX; rw [if_neg (by omega)]; exact if_pos rfl) (.inl rfl)
    · obtain ⟨s1, R, h⟩ := hrow len cap g z hl hmx (fun i j hi hj => (hc i j hi hj).2)
      have c0 := (hc 0 0 z hk).1
      obtain ⟨cs, e', fr, ho, _⟩ := cell_obj c0
      have hcs : ∀ i j, i < len → j < ks.length → cs[off + (i * ks.length + j)]? = some (G g i j) := fun i j hi hj => by
        obtain ⟨c1, e1, f1, o1, r1⟩ := cell_obj (hc i j hi hj).1
        rw [ho] at o1
        cases o1
        rw [hG g i j hj]
        exact r1
      have hsize : off + len * ks.length ≤ cs.size := by
        have := (Array.getElem?_eq_some_iff.1 (hcs (len - 1) (ks.length - 1) (by omega) (by omega))).1
        have e1 : (len - 1) * ks.length + ks.length = len * ks.length := by
          obtain ⟨q, rfl⟩ : ∃ q, len = q + 1 := ⟨len - 1, by omega⟩
          simp [Nat.succ_mul]
        omega
      refine calls_ofX (ext := extAt S0.next b off cs.size) h rfl (by rw [hnx]; omega) (fun x hx => by rw [hold _ x hx]; exact hh.holds x hx) (fun x h1 h2 h3 => ?_) (fun x hx => if_neg (by rw [hnx] at hx; omega)) (fun x y L L' h1 h2 h3 h4 _ h5 h6 _ => ?_) (vrs_one hp1 hp2 ?_) (fun x _ => by simp)
      · rw [hnx] at h2
        have : x = S0.next := by omega
        subst this
        have hr := hnew (.rows len ks.length (G g) 0 true 0 true)
        refine ⟨⟨b, off, true, 0, cs.size⟩, .cells cs e' fr, if_pos rfl, fun h => ?_, ho, ?_⟩
        · rw [hr] at h; cases h
        · rw [hr]
          exact or_read hsize (fun i j _ hj => by rw [hG g i j hj]; rfl) fun i j hi hj => hcs i j hi hj
      · unfold extAt at h5 h6
        split at h5
        · split at h6
          · omega
          · cases h6
        · cases h5
      · exact .slice S0.next 0 len cap cap ⟨b, off, true, 0, cs.size⟩ (by unfold rhoX; rw [if_neg (by omega)]; exact if_pos rfl) (.inl rfl)
theorem calls_row1o {P : Program} {f : FuncId} {S0 : St} {W : World} {ks : List IntKind} {pre post : List Value} {v0 : Value} {G : (Nat → Nat → Int) → Nat → Nat → Value} (hh : Holds P S0 W) (hn : S0.next = P.globals.size) (hw0 : ∀ b, b < P.globals.size → b < S0.next)
    (hp1 : pre.all (ground 8) = true) (hp2 : post.all (ground 8) = true) (hG : ∀ g i j, j < ks.length → G g i j = .int (ks.getD j .i64) (g i j)) (hk : 0 < ks.length) (hv : RowsAt W ks v0)
    (hnil : ∃ s1 R, SndF P f (pre ++ .slice none 0 0 :: post).toArray S0 (.bool true) s1 R 0)
    (hemp : ∀ c, ∃ s1 R, SndF P f (pre ++ .slice (some ⟨S0.next, 0, none⟩) 0 c :: post).toArray (S0.push .hole) (.bool true) s1 R 0)
    (hrow : ∀ n c g, 0 < n → n ≤ c → c ≤ maxLen → (∀ i j, i < n → j < ks.length → (Lit.int (ks.getD j .i64) (g i j)).wf = true) → ∃ o s1 R, (o = .rows n ks.length (G g) 0 true 0 true ∨ o = .cells (rowsL n ks.length (G g)) 0 true 0 true) ∧ SndF P f (pre ++ .slice (some ⟨S0.next, 0, none⟩) n c :: post).toArray (S0.push o) (.bool true) s1 R 0) :
    Calls P f (pre ++ v0 :: post).toArray W fun e W' => e = .returned (.bool true) ∧ Below W.heap.size W W' := by
  have hold : ∀ (o : MObj) b, b < P.globals.size → (S0.push o).get b = S0.get b := fun o b hb => St.get_push_old S0 o b (hw0 b hb)
  have hnx : ∀ o : MObj, (S0.push o).next = S0.next + 1 := fun o => rfl
  have hnew : ∀ o : MObj, (S0.push o).get S0.next = o := fun o => St.get_push_new S0 o
  rcases hv with rfl | ⟨b, off, len, cap, g, rfl, hl, hmx, hc⟩
  · obtain ⟨s1, R, h⟩ := hnil
    exact calls_of h rfl (by simp only [List.all_append, List.all_cons, hp1, hp2, ground, Bool.and_self]) (fun b _ => by simp) hh
  · rcases Nat.eq_zero_or_pos len with z | z
    · subst z
      obtain ⟨s1, R, h⟩ := hemp cap
      refine calls_ofX (ext := extAt S0.next b off 0) h rfl (by rw [hnx]; omega) (fun x hx => by rw [hold _ x hx]; exact hh.holds x hx) (fun x h1 h2 h3 => ?_) (fun x hx => if_neg (by rw [hnx] at hx; omega)) (fun x y L L' h1 h2 h3 h4 _ h5 h6 _ => ?_) (vrs_one hp1 hp2 ?_) (fun x _ => by simp)
      · rw [hnx] at h2
        have : x = S0.next := by omega
        subst this
        exact absurd (hnew _) h3
      · unfold extAt at h5 h6
        split at h5
        · split at h6
          · omega
          · cases h6
        · cases h5
      · exact .slice S0.next 0 0 cap cap ⟨b, off, true, 0, 0⟩ (by unfold rhoX; rw [if_neg (by omega)]; exact if_pos rfl) (.inl rfl)
    · obtain ⟨o, s1, R, hobj, h⟩ := hrow len cap g z hl hmx (fun i j hi hj => (hc i j hi hj).2)
      have c0 := (hc 0 0 z hk).1
      obtain ⟨cs, e', fr, ho, _⟩ := cell_obj c0
      have hcs : ∀ i j, i < len → j < ks.length → cs[off + (i * ks.length + j)]? = some (G g i j) := fun i j hi hj => by
        obtain ⟨c1, e1, f1, o1, r1⟩ := cell_obj (hc i j hi hj).1
        rw [ho] at o1
        cases o1
        rw [hG g i j hj]
        exact r1
      have hsize : off + len * ks.length ≤ cs.size := by
        have := (Array.getElem?_eq_some_iff.1 (hcs (len - 1) (ks.length - 1) (by omega) (by omega))).1
        have e1 : (len - 1) * ks.length + ks.length = len * ks.length := by
          obtain ⟨q, rfl⟩ : ∃ q, len = q + 1 := ⟨len - 1, by omega⟩
          simp [Nat.succ_mul]
        omega
      refine calls_ofX (ext := extAt S0.next b off cs.size) h rfl (by rw [hnx]; omega) (fun x hx => by rw [hold _ x hx]; exact hh.holds x hx) (fun x h1 h2 h3 => ?_) (fun x hx => if_neg (by rw [hnx] at hx; omega)) (fun x y L L' h1 h2 h3 h4 _ h5 h6 _ => ?_) (vrs_one hp1 hp2 ?_) (fun x _ => by simp)
      · rw [hnx] at h2
        have : x = S0.next := by omega
        subst this
        have hr := hnew o
        have hro := or_read (ρ := rhoX P W (extAt S0.next b off cs.size)) (e := 0) (blk := b) (e' := e') (fr := fr) hsize (fun i j _ hj => by rw [hG g i j hj]; rfl) fun i j hi hj => hcs i j hi hj
        refine ⟨⟨b, off, true, 0, cs.size⟩, .cells cs e' fr, if_pos rfl, fun h => ?_, ho, ?_⟩
        · rw [hr] at h
          rcases hobj with rfl | rfl <;> cases h
        · rw [hr]
          rcases hobj with rfl | rfl
          · exact hro
          · exact Mini.or_congr (show nrm (.rows len ks.length (G g) 0 true 0 true) = nrm (.cells (rowsL len ks.length (G g)) 0 true 0 true) from rfl) hro
      · unfold extAt at h5 h6
        split at h5
        · split at h6
          · omega
          · cases h6
        · cases h5
      · exact .slice S0.next 0 len cap cap ⟨b, off, true, 0, cs.size⟩ (by unfold rhoX; rw [if_neg (by omega)]; exact if_pos rfl) (.inl rfl)
end Mini
end Go.Proofs.YtbkpnhbcihcgaaaGreatDoor
end
section
namespace Go.Proofs.YtbkpnhbcihcgaaaGreatDoor
set_option linter.all false
open Go.ChangeShapes Go.WideShapes Go.ChangeAt Go.RowKit Go.Lib Go.Deep
namespace Mini
inductive RA where
  | nil
  | emp (c : Nat)
  | row (n c : Nat) (g : Nat → Nat → Int)
def RA.val (x : Nat) : RA → Value
  | .nil => .slice none 0 0
  | .emp c => .slice (some ⟨x, 0, none⟩) 0 c
  | .row n c _ => .slice (some ⟨x, 0, none⟩) n c
def RA.obj (k : Nat) (G : (Nat → Nat → Int) → Nat → Nat → Value) : RA → MObj
  | .row n _ g => .rows n k (G g) 0 true 0 true
  | _ => .hole
def RA.ok (ks : List IntKind) : RA → Prop
  | .row n c g => 0 < n ∧ n ≤ c ∧ c ≤ maxLen ∧ ∀ i j, i < n → j < ks.length → (Lit.int (ks.getD j .i64) (g i j)).wf = true
  | _ => True
theorem row_arg {W : World} {ks : List IntKind} {v : Value} {G : (Nat → Nat → Int) → Nat → Nat → Value} (hv : RowsAt W ks v) (hk : 0 < ks.length) (hG : ∀ g i j, j < ks.length → G g i j = .int (ks.getD j .i64) (g i j)) :
    ∃ (a : RA) (L : Mini.Loc), a.ok ks ∧ (∀ (ρ : Ren) (x : Nat), ρ x = some L → VR ρ (a.val x) v) ∧ (a.obj ks.length G ≠ .hole → roO (a.obj ks.length G) = true ∧ ∀ ρ : Ren, ∃ o', W.heap[L.blk]? = some o' ∧ OR ρ L (a.obj ks.length G) o') := by
  rcases hv with rfl | ⟨b, off, len, cap, g, rfl, hl, hmx, hc⟩
  · exact ⟨.nil, ⟨0, 0, true, 0, 0⟩, trivial, fun ρ x _ => .slice0 0 0, fun h => absurd rfl h⟩
  · rcases Nat.eq_zero_or_pos len with z | z
    · subst z
      exact ⟨.emp cap, ⟨b, off, true, 0, 0⟩, trivial, fun ρ x hx => .slice x 0 0 cap cap ⟨b, off, true, 0, 0⟩ hx (.inl rfl), fun h => absurd rfl h⟩
    · have c0 := (hc 0 0 z hk).1
      obtain ⟨cs, e', fr, ho, _⟩ := cell_obj c0
      have hcs : ∀ i j, i < len → j < ks.length → cs[off + (i * ks.length + j)]? = some (G g i j) := fun i j hi hj => by
        obtain ⟨c1, e1, f1, o1, r1⟩ := cell_obj (hc i j hi hj).1
        rw [ho] at o1
        cases o1
        rw [hG g i j hj]
        exact r1
      have hsize : off + len * ks.length ≤ cs.size := by
        have := (Array.getElem?_eq_some_iff.1 (hcs (len - 1) (ks.length - 1) (by omega) (by omega))).1
        have e1 : (len - 1) * ks.length + ks.length = len * ks.length := by
          obtain ⟨q, rfl⟩ : ∃ q, len = q + 1 := ⟨len - 1, by omega⟩
          simp [Nat.succ_mul]
        omega
      exact ⟨.row len cap g, ⟨b, off, true, 0, cs.size⟩, ⟨z, hl, hmx, fun i j hi hj => (hc i j hi hj).2⟩, fun ρ x hx => .slice x 0 len cap cap ⟨b, off, true, 0, cs.size⟩ hx (.inl rfl),
        fun _ => ⟨rfl, fun ρ => ⟨.cells cs e' fr, ho, or_read hsize (fun i j _ hj => by rw [hG g i j hj]; rfl) fun i j hi hj => hcs i j hi hj⟩⟩⟩
theorem calls_row2 {P : Program} {f : FuncId} {S0 : St} {W : World} {ks0 ks1 : List IntKind} {pre mid post : List Value} {v0 v1 : Value} {G0 G1 : (Nat → Nat → Int) → Nat → Nat → Value} (hh : Holds P S0 W) (hn : S0.next = P.globals.size)
    (hp1 : pre.all (ground 8) = true) (hp2 : mid.all (ground 8) = true) (hp3 : post.all (ground 8) = true) (hG0 : ∀ g i j, j < ks0.length → G0 g i j = .int (ks0.getD j .i64) (g i j)) (hG1 : ∀ g i j, j < ks1.length → G1 g i j = .int (ks1.getD j .i64) (g i j)) (hk0 : 0 < ks0.length) (hk1 : 0 < ks1.length) (hv0 : RowsAt W ks0 v0) (hv1 : RowsAt W ks1 v1)
    (hlaw : ∀ a0 a1 : RA, a0.ok ks0 → a1.ok ks1 → ∃ s1 R, SndF P f (pre ++ a0.val S0.next :: (mid ++ a1.val (S0.next + 1) :: post)).toArray ((S0.push (a0.obj ks0.length G0)).push (a1.obj ks1.length G1)) (.bool true) s1 R 0) :
    Calls P f (pre ++ v0 :: (mid ++ v1 :: post)).toArray W fun e W' => e = .returned (.bool true) ∧ Below W.heap.size W W' := by
  obtain ⟨a0, L0, ok0, r0, o0⟩ := row_arg (G := G0) hv0 hk0 hG0
  obtain ⟨a1, L1, ok1, r1, o1⟩ := row_arg (G := G1) hv1 hk1 hG1
  obtain ⟨s1, R, h⟩ := hlaw a0 a1 ok0 ok1
  have hnx : ((S0.push (a0.obj ks0.length G0)).push (a1.obj ks1.length G1)).next = S0.next + 2 := rfl
  have g0 : ((S0.push (a0.obj ks0.length G0)).push (a1.obj ks1.length G1)).get S0.next = a0.obj ks0.length G0 := by
    rw [St.get_push_old _ _ _ (show S0.next < (S0.push _).next from Nat.lt_succ_self _)]
    exact St.get_push_new S0 _
  have g1 : ((S0.push (a0.obj ks0.length G0)).push (a1.obj ks1.length G1)).get (S0.next + 1) = a1.obj ks1.length G1 := St.get_push_new (S0.push _) _
  have hold : ∀ b, b < P.globals.size → ((S0.push (a0.obj ks0.length G0)).push (a1.obj ks1.length G1)).get b = S0.get b := fun b hb => by
    rw [St.get_push_old _ _ _ (show b < (S0.push _).next from by show b < S0.next + 1; omega), St.get_push_old S0 _ b (by omega)]
  let ext : Nat → Option Mini.Loc := fun x => if x = S0.next then some L0 else if x = S0.next + 1 then some L1 else none
  have e0 : rhoX P W ext S0.next = some L0 := by
    unfold rhoX
    rw [if_neg (by omega)]
    exact if_pos rfl
  have e1 : rhoX P W ext (S0.next + 1) = some L1 := by
    unfold rhoX
    rw [if_neg (by omega)]
    show (if S0.next + 1 = S0.next then _ else _) = _
    rw [if_neg (by omega), if_pos rfl]
  refine calls_ofX (ext := ext) h rfl (by rw [hnx]; omega) (fun x hx => by rw [hold _ hx]; exact hh.holds x hx) (fun x h1 h2 h3 => ?_) (fun x hx => ?_) (fun x y L L' h1 h2 h3 h4 hro h5 h6 _ => ?_) ?_ (fun x _ => by simp)
  · rw [hnx] at h2
    have : x = S0.next ∨ x = S0.next + 1 := by omega
    rcases this with rfl | rfl
    · rw [g0] at h3 ⊢
      obtain ⟨q1, q2⟩ := o0 h3
      obtain ⟨o', q3, q4⟩ := q2 (rhoX P W ext)
      exact ⟨L0, o', if_pos rfl, (by intro h; rw [q1] at h; cases h), q3, q4⟩
    · rw [g1] at h3 ⊢
      obtain ⟨q1, q2⟩ := o1 h3
      obtain ⟨o', q3, q4⟩ := q2 (rhoX P W ext)
      exact ⟨L1, o', (by show (if S0.next + 1 = S0.next then _ else _) = _; rw [if_neg (by omega), if_pos rfl]), (by intro h; rw [q1] at h; cases h), q3, q4⟩
  · rw [hnx] at hx
    show (if x = S0.next then _ else _) = _
    rw [if_neg (by omega), if_neg (by omega)]
  · have key : ∀ z, P.globals.size ≤ z → ((S0.push (a0.obj ks0.length G0)).push (a1.obj ks1.length G1)).get z ≠ .hole → roO (((S0.push (a0.obj ks0.length G0)).push (a1.obj ks1.length G1)).get z) = true := fun z hz hl => by
      have hlt := St.lt_of_live hl
      rw [hnx] at hlt
      have : z = S0.next ∨ z = S0.next + 1 := by omega
      rcases this with rfl | rfl
      · rw [g0] at hl ⊢; exact (o0 hl).1
      · rw [g1] at hl ⊢; exact (o1 hl).1
    rw [key x h1 h3, key y h2 h4] at hro
    cases hro
  · refine ⟨by simp, fun i u u' q1 q2 => ?_⟩
    have gr : ∀ {l : List Value}, l.all (ground 8) = true → ∀ {x : Value}, x ∈ l → VR (rhoX P W ext) x x := fun hl x hx => ground_refl 8 (List.all_eq_true.1 hl _ hx)
    simp only [List.getElem?_toArray] at q1 q2
    rcases Nat.lt_trichotomy i pre.length with c | c | c
    · rw [List.getElem?_append_left c] at q1 q2
      rw [q1] at q2
      cases q2
      exact gr hp1 (List.mem_of_getElem? q1)
    · rw [List.getElem?_append_right (by omega)] at q1 q2
      rw [c, Nat.sub_self] at q1 q2
      cases q1
      cases q2
      exact r0 _ _ e0
    · rw [List.getElem?_append_right (by omega)] at q1 q2
      obtain ⟨q, hq⟩ : ∃ q, i - pre.length = q + 1 := ⟨i - pre.length - 1, by omega⟩
      rw [hq] at q1 q2
      simp only [List.getElem?_cons_succ] at q1 q2
      rcases Nat.lt_trichotomy q mid.length with d | d | d
      · rw [List.getElem?_append_left d] at q1 q2
        rw [q1] at q2
        cases q2
        exact gr hp2 (List.mem_of_getElem? q1)
      · rw [List.getElem?_append_right (by omega)] at q1 q2
        rw [d, Nat.sub_self] at q1 q2
        cases q1
        cases q2
        exact r1 _ _ e1
      · rw [List.getElem?_append_right (by omega)] at q1 q2
        obtain ⟨q', hq'⟩ : ∃ q', q - mid.length = q' + 1 := ⟨q - mid.length - 1, by omega⟩
        rw [hq'] at q1 q2
        simp only [List.getElem?_cons_succ] at q1 q2
        rw [q1] at q2
        cases q2
        exact gr hp3 (List.mem_of_getElem? q1)
end Mini
end Go.Proofs.YtbkpnhbcihcgaaaGreatDoor
end
section
set_option linter.all false
set_option maxRecDepth 1000000
open Go.RowKit
namespace Go.Proofs.YtbkpnhbcihcgaaaGreatDoor
open Mini
theorem awn3p : aw3S0.next = Tryz.prog.globals.size := by kernel_rfl
theorem lp_calls {W : World} (hh : Holds Tryz.prog aw3S0 W) (v0 v1 : Value) (x y : Int) (hv : RowsAt W [.i64] v0) (hw : RowsAt W [.i64] v1) :
    Calls Tryz.prog 3 #[v0, v1, .agg #[.int .i64 x, .int .i64 y]] W fun e W' => e = .returned (.bool true) ∧ Below W.heap.size W W' := by
  refine calls_row2 (pre := []) (mid := []) (post := [.agg #[.int .i64 x, .int .i64 y]]) (G0 := fun g i j => .int .i64 (g i j)) (G1 := fun g i j => .int .i64 (g i j)) hh awn3p rfl rfl rfl (fun g i j hj => ?_) (fun g i j hj => ?_) (by decide) (by decide) hv hw (fun a0 a1 h0 h1 => ?_)
  · match j, hj with
    | 0, _ => rfl
  · match j, hj with
    | 0, _ => rfl
  · match a0, a1, h0, h1 with
    | .nil, .nil, _, _ => exact lpr_nil_nil x y
    | .nil, .emp c2, _, _ => exact lpr_nil_emp c2 x y
    | .nil, .row m c2 h, _, h1 => exact lpr_nil_row m c2 h x y (Nat.pos_iff_ne_zero.1 h1.1)
    | .emp c, .nil, _, _ => exact lpr_emp_nil c x y
    | .emp c, .emp c2, _, _ => exact lpr_emp_emp c c2 x y
    | .emp c, .row m c2 h, _, h1 => exact lpr_emp_row c m c2 h x y (Nat.pos_iff_ne_zero.1 h1.1)
    | .row n c g, .nil, h0, _ => exact lpr_row_nil n c g x y (Nat.pos_iff_ne_zero.1 h0.1)
    | .row n c g, .emp c2, h0, _ => exact lpr_row_emp n c g c2 x y (Nat.pos_iff_ne_zero.1 h0.1)
    | .row n c g, .row m c2 h, h0, h1 => exact lpr_row_row n c g m c2 h x y (Nat.pos_iff_ne_zero.1 h0.1) (Nat.pos_iff_ne_zero.1 h1.1)
end Go.Proofs.YtbkpnhbcihcgaaaGreatDoor
end
section
namespace Go.Proofs.YtbkpnhbcihcgaaaGreatDoor
set_option linter.all false
open Go.ChangeShapes Go.WideShapes Go.ChangeAt Go.RowKit
section
open Go.Lib
theorem cells_of_strs {H : Type} {enc : TypeId × Value → H} {P : Program} {w : World} {base : Nat} {sp : Nat → Bool} {held : Bool} {fuel : Nat} {t e : TypeId} {n : Nat} {cs : List Value} {zs : List (List UInt8)} {p : List MemPlace}
    (ht : P.underlying t = some (.array n e)) (he : P.underlying e = some .string) (hce : P.cellsOf e = 1)
    (h : DataW.trod enc P w base sp held fuel t cs = some (.agg (zs.map fun z => .lit (.string z)), p)) (i : Nat) (z : List UInt8) (hz : zs[i]? = some z) : cs[i]? = some (.string ⟨z.toArray⟩) := by
  cases fuel with
  | zero => simp [DataW.trod] at h
  | succ fuel =>
    simp only [DataW.trod, ht, hce, Nat.mul_one] at h
    split at h
    · rename_i hl
      obtain ⟨xs, hm, hx⟩ := Option.map_eq_some_iff.1 h
      have hxs : xs.map (·.1) = zs.map fun z => (DataW.lit (.string z) : DataW H) := by
        have := congrArg Prod.fst hx
        simpa using this
      have hxl : xs.length = n := by simpa using mapM_length hm
      have hzl : zs.length = n := by
        have := congrArg List.length hxs
        simp at this
        omega
      have hi : i < n := by
        have := (List.getElem?_eq_some_iff.1 hz).1
        omega
      obtain ⟨b, hb, hf⟩ := mapM_at hm i i (by simp [hi])
      obtain ⟨s, hc, rfl, _⟩ := DataW.trod_string he hf
      have h1 : cs[i]? = some (.string s) := by
        have := congrArg (·[0]?) hc
        simpa [List.getElem?_take, List.getElem?_drop] using this
      have h2 : (xs.map (·.1))[i]? = some (DataW.lit (.string s.data.toList) : DataW H) := by simp [hb]
      rw [hxs] at h2
      simp only [List.getElem?_map, hz, Option.map_some, Option.some.injEq, DataW.lit.injEq, Lit.string.injEq] at h2
      subst h2
      exact h1
    · cases h
end
theorem strs_of_laid {P : Program} {W : World} {name : String} {zs : List (List UInt8)} {g : Nat} {t e : TypeId} {n : Nat}
    (hg : P.globalNamed name = some g) (hty : (P.globals[g]?).map (·.type) = some t) (ht : P.underlying t = some (.array n e)) (he : P.underlying e = some .string) (hce : P.cellsOf e = 1)
    (h : laidMet P [(name, .agg (zs.map fun z => .lit (.string z)))] W) (i : Nat) (z : List UInt8) (hz : zs[i]? = some z) : W.cell? ⟨g, i, none⟩ = some (.string ⟨z.toArray⟩) := by
  obtain ⟨ps, ⟨g', t', cs, fuel, p, q, hg', ht', hvar, hd, _, _⟩, _⟩ := h
  obtain rfl := Option.some.inj (hg.symm.trans hg')
  obtain rfl := Option.some.inj (hty.symm.trans ht')
  have r0 := World.var?_cell hg hvar i
  rw [r0]
  simpa using cells_of_strs ht he hce hd i z hz
end Go.Proofs.YtbkpnhbcihcgaaaGreatDoor
end
section
set_option linter.all false
namespace Go.Proofs.YtbkpnhbcihcgaaaGreatDoor.loopPolys
open Go.ChangeShapes Go.WideShapes Go.ChangeAt Go.RowKit Mini

theorem own : ownKnob Tryz.prog.godebug = none := by kernel_rfl
theorem gt0N : Tryz.prog.globalNamed "bipole/loop.quarters" = some 0 := by kernel_rfl
theorem gt0T : (Tryz.prog.globals[0]?).map (·.type) = some 150 := by kernel_rfl
def t0 : List (Int × Int) := [(1, 0), (0, 1), (-1, 0), (0, -1)]
theorem onet0 : (Rows.loopPolysRow.laid.filter fun x => x.1 == "bipole/loop.quarters") = [("bipole/loop.quarters", .agg (t0.map fun z => .agg [.lit (.int .i64 z.1), .lit (.int .i64 z.2)]))] := by kernel_rfl
theorem cellst0 {W : World} (h : laidMetH Tryz.prog Rows.loopPolysRow.laid W) (i : Nat) (z : Int × Int) (hz : t0[i]? = some z) : W.cell? ⟨0, i * 2, none⟩ = some (.int .i64 z.1) ∧ W.cell? ⟨0, i * 2 + 1, none⟩ = some (.int .i64 z.2) := by
  have h1 := laidMetH.filter (P := Tryz.prog) (fun x => x.1 == "bipole/loop.quarters") h
  rw [onet0] at h1
  exact pairs_of_laid gt0N gt0T Tryz.underlying150 Tryz.underlying24 rfl rfl rfl Tryz.underlying3 Tryz.underlying3 (by kernel_rfl) (by kernel_rfl) (by kernel_rfl) h1 i z hz
theorem s0t0 : aw3S0.get 0 = .cells ((t0.flatMap fun z => [z.1, z.2]).map fun n => Value.int .i64 n) 150 true 0 true := by kernel_rfl
theorem gt1N : Tryz.prog.globalNamed "bipole/loop.words" = some 1 := by kernel_rfl
theorem gt1T : (Tryz.prog.globals[1]?).map (·.type) = some 166 := by kernel_rfl
def t1 : List (List UInt8) := [[112, 108, 97, 110, 116, 110, 117, 109], [112, 108, 97, 110, 116, 100, 101, 110], [99, 111, 110, 116, 114, 111, 108, 108, 101, 114, 110, 117, 109], [99, 111, 110, 116, 114, 111, 108, 108, 101, 114, 100, 101, 110]]
theorem onet1 : (Rows.loopPolysRow.laid.filter fun x => x.1 == "bipole/loop.words") = [("bipole/loop.words", .agg (t1.map fun z => .lit (.string z)))] := by kernel_rfl
theorem cellst1 {W : World} (h : laidMetH Tryz.prog Rows.loopPolysRow.laid W) (i : Nat) (z : List UInt8) (hz : t1[i]? = some z) : W.cell? ⟨1, i, none⟩ = some (.string ⟨z.toArray⟩) := by
  have h1 := laidMetH.filter (P := Tryz.prog) (fun x => x.1 == "bipole/loop.words") h
  rw [onet1] at h1
  exact strs_of_laid gt1N gt1T Tryz.underlying166 Tryz.underlying9 (by kernel_rfl) h1 i z hz
theorem s0t1 : aw3S0.get 1 = .cells (t1.map fun z => Value.string ⟨z.toArray⟩) 166 true 0 true := by kernel_rfl
theorem gt2N : Tryz.prog.globalNamed "internal/strconv.uint64pow10" = some 2 := by kernel_rfl
theorem gt2T : (Tryz.prog.globals[2]?).map (·.type) = some 231 := by kernel_rfl
def t2 : List Int := (List.range 20).map fun i => ((10 ^ i : Nat) : Int)
theorem onet2 : (Rows.loopPolysRow.laid.filter fun x => x.1 == "internal/strconv.uint64pow10") = [("internal/strconv.uint64pow10", Lib.tabData .u64 t2)] := by kernel_rfl
theorem cellst2 {W : World} (h : laidMetH Tryz.prog Rows.loopPolysRow.laid W) (i : Nat) (hi : i < 20) : W.cell? ⟨2, i, none⟩ = some (.int .u64 (t2.getD i 0)) := by
  have h1 := laidMetH.filter (P := Tryz.prog) (fun x => x.1 == "internal/strconv.uint64pow10") h
  rw [onet2] at h1
  exact (Lib.tabIs_of_head (rest := []) gt2N gt2T Tryz.underlying231 Tryz.underlying213 (by kernel_rfl) (by kernel_rfl) h1).cell gt2N i (by simpa [t2] using hi)
theorem s0t2 : aw3S0.get 2 = .cells (t2.map fun n => Value.int .u64 n) 231 true 0 true := by kernel_rfl
theorem holds0 {W : World} (h : laidMetH Tryz.prog Rows.loopPolysRow.laid W) : Holds Tryz.prog aw3S0 W := by
  refine ⟨by kernel_rfl, fun b hb => ?_⟩
  rw [show Tryz.prog.globals.size = 6 by kernel_rfl] at hb
  match b, hb with
  | 0, _ =>
    refine .inr ⟨_, _, s0t0, by simp [t0], by kernel_rfl, fun i v hi => ?_⟩
    have p0 := cellst0 h 0 (1, 0) rfl
    have p1 := cellst0 h 1 (0, 1) rfl
    have p2 := cellst0 h 2 (-1, 0) rfl
    have p3 := cellst0 h 3 (0, -1) rfl
    match i, hi with
    | 0, hi => simp [t0] at hi; subst hi; exact p0.1
    | 1, hi => simp [t0] at hi; subst hi; exact p0.2
    | 2, hi => simp [t0] at hi; subst hi; exact p1.1
    | 3, hi => simp [t0] at hi; subst hi; exact p1.2
    | 4, hi => simp [t0] at hi; subst hi; exact p2.1
    | 5, hi => simp [t0] at hi; subst hi; exact p2.2
    | 6, hi => simp [t0] at hi; subst hi; exact p3.1
    | 7, hi => simp [t0] at hi; subst hi; exact p3.2
    | i + 8, hi => simp [t0] at hi
  | 1, _ =>
    refine .inr ⟨_, _, s0t1, by simp [t1], by kernel_rfl, fun i v hi => ?_⟩
    simp only [List.getElem?_map, Option.map_eq_some_iff] at hi
    obtain ⟨a, h1, rfl⟩ := hi
    exact cellst1 h i a h1
  | 2, _ =>
    refine .inr ⟨_, _, s0t2, by simp [t2], by kernel_rfl, fun i v hi => ?_⟩
    have hlt : i < 20 := by
      have := (List.getElem?_eq_some_iff.1 hi).1
      simpa [t2] using this
    rw [cellst2 h i hlt]
    simp only [List.getElem?_map, Option.map_eq_some_iff] at hi
    obtain ⟨a, h1, rfl⟩ := hi
    simp [List.getD, h1]
  | 3, _ => exact .inl (by kernel_rfl)
  | 4, _ => exact .inl (by kernel_rfl)
  | 5, _ => exact .inl (by kernel_rfl)
  | b + 6, hb => omega

set_option maxRecDepth 100000 in
theorem contract (H : Type) (enc : TypeId × Value → H) (W : World) (base : Nat) (args : Array Value) (ds gs : List (DataW H)) (before : List MemPlace)
    (hval : ∀ (j : Nat) t v, Tryz.f3.params[j]? = some t → args[j]? = some v → Value.okWide Tryz.prog W .any base t v)
    (hW : DataW.Whole enc Tryz.prog Tryz.f3.params.toList Rows.loopPolysSpec.vars false W args.toList ds gs before) (hL : laidMetH Tryz.prog Rows.loopPolysRow.laid W) :
    Calls Tryz.prog 3 args W fun e W' => ∃ v, e = .returned v ∧ Rows.loopPolysSpec.post enc Tryz.prog Tryz.f3 false true false false W args v W' := by
  have hW' := hW
  obtain ⟨p, q, hA0, hV, rfl, hfz, hnd⟩ := hW
  have hA : DataW.TrodAll enc Tryz.prog W 0 (fun _ => true) true Tryz.f3.params.toList args.toList ds p := hA0
  rw [Tryz.params3] at hA hval
  obtain ⟨v0, vs0, d0, ds0, p0, q0, hargs, rfl, rfl, h0, r0⟩ := trodAll_cons hA
  obtain ⟨v1, vs1, d1, ds1, p1, q1, rfl, rfl, rfl, h1, r1⟩ := trodAll_cons r0
  obtain ⟨v2, vs2, d2, ds2, p2, q2, rfl, rfl, rfl, h2, r2⟩ := trodAll_cons r1
  obtain ⟨rfl, rfl, rfl⟩ := trodAll_nil r2
  obtain rfl : args = #[v0, v1, v2] := by apply Array.ext'; simpa using hargs
  obtain ⟨rfl, rfl⟩ := trodVars_none hV
  have hk0 := h0
  have o0 := rows_of (P := Tryz.prog) (m := 6) (ks := [.i64]) Tryz.underlying22 (by kernel_rfl) (by kernel_rfl) (hval 0 22 v0 rfl rfl) h0
  have hk1 := h1
  have o1 := rows_of (P := Tryz.prog) (m := 6) (ks := [.i64]) Tryz.underlying22 (by kernel_rfl) (by kernel_rfl) (hval 1 22 v1 rfl rfl) h1
  obtain ⟨ns2, l2, rfl, rfl, f2, t2⟩ := open_agg (n := 6) (ks := [.i64, .i64]) (by kernel_rfl) (by kernel_rfl) (hval 2 24 v2 rfl rfl) h2
  have l2_0 : ns2.length = 2 := l2
  clear l2
  obtain ⟨x2_0, ns2_0, rfl, l2_1⟩ := len_cons l2_0
  obtain ⟨x2_1, ns2_1, rfl, l2_2⟩ := len_cons l2_1
  obtain rfl := len_nil l2_2
  clear hA0
  simp only [List.append_nil] at hW'
  refine (lp_calls (holds0 hL) v0 v1 x2_0 x2_1 o0 o1).mono fun e W' ⟨he, hb⟩ => ?_
  subst he
  exact ⟨_, rfl, post_below (pa := p0 ++ (p1 ++ ([] ++ []))) (pv := []) hW' (ok_one (by kernel_rfl) rfl (okWide_bool_mk Tryz.underlying4 _)) (fun _ _ _ => trodAll_cons_mk (shut_bool Tryz.underlying4 _) trodAll_mk0)
    (fun sp hsp => trodAll_cons_mk (WideElems.Trod_stays (P := Tryz.prog) (by kernel_rfl) (by kernel_rfl) (of_decide_eq_true (by kernel_rfl)) hk0 (fun x hx => hb.same (hW'.lt x (by simp [hx]))) (fun x hx => hsp x (by simp [hx]))) (trodAll_cons_mk (WideElems.Trod_stays (P := Tryz.prog) (by kernel_rfl) (by kernel_rfl) (of_decide_eq_true (by kernel_rfl)) hk1 (fun x hx => hb.same (hW'.lt x (by simp [hx]))) (fun x hx => hsp x (by simp [hx]))) (trodAll_cons_mk (t2 _ _ _ _) (trodAll_mk0))))
    (fun _ _ => rfl) (by simp) hb⟩

def setTab (b : Nat) (cs : Array Value) (h : Array Obj) : Array Obj := h.modify b fun
  | .cells _ t frozen => .cells cs t frozen
  | o => o
noncomputable def laidWorld (os : Os) : World :=
  { World.holding Tryz.prog os ⟨#[], #[], []⟩ with heap := setTab 5 #[.int .u8 (0), .int .u8 (1), .int .u8 (56), .int .u8 (2), .int .u8 (57), .int .u8 (49), .int .u8 (28), .int .u8 (3), .int .u8 (61), .int .u8 (58), .int .u8 (42), .int .u8 (50), .int .u8 (38), .int .u8 (29), .int .u8 (17), .int .u8 (4), .int .u8 (62), .int .u8 (47), .int .u8 (59), .int .u8 (36), .int .u8 (45), .int .u8 (43), .int .u8 (51), .int .u8 (22), .int .u8 (53), .int .u8 (39), .int .u8 (33), .int .u8 (30), .int .u8 (24), .int .u8 (18), .int .u8 (12), .int .u8 (5), .int .u8 (63), .int .u8 (55), .int .u8 (48), .int .u8 (27), .int .u8 (60), .int .u8 (41), .int .u8 (37), .int .u8 (16), .int .u8 (46), .int .u8 (35), .int .u8 (44), .int .u8 (21), .int .u8 (52), .int .u8 (32), .int .u8 (23), .int .u8 (11), .int .u8 (54), .int .u8 (26), .int .u8 (40), .int .u8 (15), .int .u8 (34), .int .u8 (20), .int .u8 (31), .int .u8 (10), .int .u8 (25), .int .u8 (14), .int .u8 (19), .int .u8 (9), .int .u8 (13), .int .u8 (8), .int .u8 (7), .int .u8 (6)] (setTab 4 #[.int .u8 (0), .int .u8 (1), .int .u8 (28), .int .u8 (2), .int .u8 (29), .int .u8 (14), .int .u8 (24), .int .u8 (3), .int .u8 (30), .int .u8 (22), .int .u8 (20), .int .u8 (15), .int .u8 (25), .int .u8 (17), .int .u8 (4), .int .u8 (8), .int .u8 (31), .int .u8 (27), .int .u8 (13), .int .u8 (23), .int .u8 (21), .int .u8 (19), .int .u8 (16), .int .u8 (7), .int .u8 (26), .int .u8 (12), .int .u8 (18), .int .u8 (6), .int .u8 (11), .int .u8 (5), .int .u8 (10), .int .u8 (9)] (setTab 2 #[.int .u64 (1), .int .u64 (10), .int .u64 (100), .int .u64 (1000), .int .u64 (10000), .int .u64 (100000), .int .u64 (1000000), .int .u64 (10000000), .int .u64 (100000000), .int .u64 (1000000000), .int .u64 (10000000000), .int .u64 (100000000000), .int .u64 (1000000000000), .int .u64 (10000000000000), .int .u64 (100000000000000), .int .u64 (1000000000000000), .int .u64 (10000000000000000), .int .u64 (100000000000000000), .int .u64 (1000000000000000000), .int .u64 (10000000000000000000)] (setTab 1 #[.string ⟨#[112, 108, 97, 110, 116, 110, 117, 109]⟩, .string ⟨#[112, 108, 97, 110, 116, 100, 101, 110]⟩, .string ⟨#[99, 111, 110, 116, 114, 111, 108, 108, 101, 114, 110, 117, 109]⟩, .string ⟨#[99, 111, 110, 116, 114, 111, 108, 108, 101, 114, 100, 101, 110]⟩] (setTab 0 #[.int .i64 (1), .int .i64 (0), .int .i64 (0), .int .i64 (1), .int .i64 (-1), .int .i64 (0), .int .i64 (0), .int .i64 (-1)] ((World.holding Tryz.prog os ⟨#[], #[], []⟩).heap))))) }
def wArgs : Array Value := #[.slice none 0 0, .slice none 0 0, .agg #[.int .i64 0, .int .i64 0]]
theorem laid_met (os : Os) : laidMet Tryz.prog Rows.loopPolysRow.laid ((laidWorld os).forCall (fun _ _ => 0) ⟨#[], wArgs, []⟩).memory :=
  laidMet_of_run' 8 (by kernel_rfl) (by kernel_rfl)
theorem reads (os : Os) {H : Type} (enc : TypeId × Value → H) : ∃ places, DataW.whole enc Tryz.prog ((laidWorld os).forCall (fun _ _ => 0) ⟨#[], wArgs, []⟩).memory Tryz.f3.params.toList Rows.loopPolysSpec.vars false wArgs.toList 8 = some ([.nil, .nil, .agg [.lit (.int .i64 0), .lit (.int .i64 0)]], [], places) :=
  ⟨[], by kernel_rfl⟩
set_option maxRecDepth 100000 in
theorem lifted (os : Os) (started : os.Started) (H : Type) (enc : TypeId × Value → H) (F : Stop.Interp) :
    ReturnsInHanded {} Tryz.checked os 3 .any ((OpenSpec.ofChange Rows.loopPolysSpec).preRow enc Tryz.prog Tryz.f3 Rows.loopPolysRow.domain false Rows.loopPolysRow.laid) (((OpenSpec.ofChange Rows.loopPolysSpec).at F).post enc Tryz.prog Tryz.f3 false true false false) := by
  obtain ⟨places, hx⟩ := reads os enc
  refine returnsInHanded_of_row (C := Tryz.checked) (s := OpenSpec.ofChange Rows.loopPolysSpec) own started (by kernel_rfl) Tryz.func3
    (witness_row_at (enc := enc) (C := Tryz.checked) false (laidWorld os) wArgs rfl (by kernel_rfl) (by kernel_rfl) (by kernel_rfl)
      (OpenSpec.preRow_of_cond 8 hx (by kernel_rfl) (fun k hk => by cases hk) (by kernel_rfl) (laid_met os))) ?_
  intro W base args ds gs before hval hW _ _ _ hL _ _
  exact contract H enc W base args ds gs before hval hW hL
theorem said : Rows.LoopPolysSaid :=
  OpenClaim.holds_of_cond 3 Tryz.f3 rfl rfl rfl rfl rfl rfl rfl ⟨rfl, rfl, rfl, rfl, rfl⟩ rfl rfl rfl rfl rfl (by kernel_rfl) Tryz.func3 (by kernel_rfl)
    (of_decide_eq_true (by kernel_rfl)) (by unfold Func.isWrapper; first | (rw [if_pos (by decide +kernel)]; kernel_rfl) | (rw [if_neg (by decide +kernel)]; exact ⟨rfl, rfl⟩))
    (fun os started H enc _ F => by rw [OpenClaim.pre_eq_preRow]; exact lifted os started H enc F)
theorem plain (f : FuncId) (fn : Func) (hf : Tryz.pinned.checked.prog.funcNamed "bipole/bipolelaw03.LoopPolys" = some f) (hfn : Tryz.pinned.checked.prog.funcs[f]? = some fn) :
    false = Tryz.pinned.checked.prog.looks [] ∧ ∀ (j : Nat) t, fn.params[j]? = some t → Tryz.pinned.checked.prog.wantsStandIn t = false := by
  obtain rfl : f = 3 := Option.some.inj ((show Tryz.prog.funcNamed "bipole/bipolelaw03.LoopPolys" = some 3 by kernel_rfl).symm.trans hf) |>.symm
  obtain rfl : fn = Tryz.f3 := (Option.some.inj (Tryz.func3.symm.trans hfn)).symm
  refine ⟨by kernel_rfl, fun j t ht => ?_⟩
  rw [Tryz.params3] at ht
  have hm : t = 22 ∨ t = 22 ∨ t = 24 := by simpa using Array.mem_of_getElem? ht
  rcases hm with rfl | rfl | rfl
  · exact (show Tryz.prog.wantsStandIn 22 = false by kernel_rfl)
  · exact (show Tryz.prog.wantsStandIn 22 = false by kernel_rfl)
  · exact (show Tryz.prog.wantsStandIn 24 = false by kernel_rfl)
theorem card : Rows.LoopPolysCardSaid :=
  Claim7.holds_tied_plain_at .later [] _ _ _ _ said (fun _ h => by cases h) (by kernel_rfl) (fun _ h => by cases h) loopPolys_row_tie rfl ⟨rfl, rfl⟩ (by kernel_rfl) rfl plain (by kernel_rfl)
end Go.Proofs.YtbkpnhbcihcgaaaGreatDoor.loopPolys
end
