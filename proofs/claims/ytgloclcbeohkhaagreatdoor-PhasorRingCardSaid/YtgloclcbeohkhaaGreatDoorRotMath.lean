/-
  Plain facts on turning numbers: no program is used here but for the functions of the contracts.
-/
import Derived.Test.YtgloclcbeohkhaaGreatDoorBal
import Derived.Test.YtgloclcbeohkhaaGreatDoorPower
import Derived.Test.YtgloclcbeohkhaaGreatDoorSpec
namespace Go.Proofs.YtgloclcbeohkhaaGreatDoor
set_option linter.all false

theorem turnN_add (m n : Nat) (p : Int × Int) : Pl.turnN (m + n) p = Pl.turnN m (Pl.turnN n p) := by
  induction m with
  | zero => simp [Pl.turnN]
  | succ m ih => rw [Nat.succ_add]; show Pl.sixth _ = Pl.sixth _; rw [ih]
theorem turnN_two (p : Int × Int) : Pl.turnN 2 p = (-p.2, p.1 - p.2) := by
  show (p.1 - p.2 - p.1, p.1 - p.2) = _
  exact Prod.ext (by simp only; omega) rfl
theorem turnN_three (p : Int × Int) : Pl.turnN 3 p = (-p.1, -p.2) := by
  rw [show (3 : Nat) = 1 + 2 from rfl, turnN_add, turnN_two]
  show (-p.2 - (p.1 - p.2), -p.2) = _
  exact Prod.ext (by simp only; omega) rfl
theorem turnN_four (p : Int × Int) : Pl.turnN 4 p = (p.2 - p.1, -p.1) := by
  rw [show (4 : Nat) = 1 + 3 from rfl, turnN_add, turnN_three]
  show (-p.1 - -p.2, -p.1) = _
  exact Prod.ext (by simp only; omega) rfl
theorem turnN_five (p : Int × Int) : Pl.turnN 5 p = (p.2, p.2 - p.1) := by
  rw [show (5 : Nat) = 1 + 4 from rfl, turnN_add, turnN_four]
  show (p.2 - p.1 - -p.1, p.2 - p.1) = _
  exact Prod.ext (by simp only; omega) rfl
theorem turnN_six (p : Int × Int) : Pl.turnN 6 p = p := by
  rw [show (6 : Nat) = 3 + 3 from rfl, turnN_add, turnN_three, turnN_three]
  exact Prod.ext (by simp only; omega) (by simp only; omega)
theorem turnN_six_mul (q r : Nat) (p : Int × Int) : Pl.turnN (6 * q + r) p = Pl.turnN r p := by
  induction q with
  | zero => simp
  | succ q ih => rw [show 6 * (q + 1) + r = 6 + (6 * q + r) by omega, turnN_add, turnN_six, ih]
theorem turnN_mod (k : Nat) (p : Int × Int) : Pl.turnN k p = Pl.turnN (k % 6) p := by
  have h := turnN_six_mul (k / 6) (k % 6) p
  rwa [show 6 * (k / 6) + k % 6 = k by omega] at h
/-- A turned number is turned again. -/
theorem turn_turn (p : Int × Int) (m n : Int) : Pl.turn (Pl.turn p m) n = Pl.turn p (m + n) := by
  unfold Pl.turn
  rw [← turnN_add, turnN_mod]
  congr 1
  omega
theorem turn_mod (p : Int × Int) (m n : Int) (h : m % 6 = n % 6) : Pl.turn p m = Pl.turn p n := by unfold Pl.turn; rw [h]
theorem turn_0 (p : Int × Int) (n : Int) (h : n % 6 = 0) : Pl.turn p n = p := by unfold Pl.turn; rw [h]; rfl
theorem turn_1 (p : Int × Int) (n : Int) (h : n % 6 = 1) : Pl.turn p n = (p.1 - p.2, p.1) := by unfold Pl.turn; rw [h]; rfl
theorem turn_2 (p : Int × Int) (n : Int) (h : n % 6 = 2) : Pl.turn p n = (-p.2, p.1 - p.2) := by unfold Pl.turn; rw [h]; exact turnN_two p
theorem turn_3 (p : Int × Int) (n : Int) (h : n % 6 = 3) : Pl.turn p n = (-p.1, -p.2) := by unfold Pl.turn; rw [h]; exact turnN_three p
theorem turn_4 (p : Int × Int) (n : Int) (h : n % 6 = 4) : Pl.turn p n = (p.2 - p.1, -p.1) := by unfold Pl.turn; rw [h]; exact turnN_four p
theorem turn_5 (p : Int × Int) (n : Int) (h : n % 6 = 5) : Pl.turn p n = (p.2, p.2 - p.1) := by unfold Pl.turn; rw [h]; exact turnN_five p
theorem turn_cases (p : Int × Int) (n : Int) :
    (n % 6 = 0 ∧ Pl.turn p n = p) ∨ (n % 6 = 1 ∧ Pl.turn p n = (p.1 - p.2, p.1)) ∨ (n % 6 = 2 ∧ Pl.turn p n = (-p.2, p.1 - p.2)) ∨ (n % 6 = 3 ∧ Pl.turn p n = (-p.1, -p.2)) ∨
    (n % 6 = 4 ∧ Pl.turn p n = (p.2 - p.1, -p.1)) ∨ (n % 6 = 5 ∧ Pl.turn p n = (p.2, p.2 - p.1)) := by
  have h : n % 6 = 0 ∨ n % 6 = 1 ∨ n % 6 = 2 ∨ n % 6 = 3 ∨ n % 6 = 4 ∨ n % 6 = 5 := by omega
  rcases h with h | h | h | h | h | h
  · exact .inl ⟨h, turn_0 p n h⟩
  · exact .inr (.inl ⟨h, turn_1 p n h⟩)
  · exact .inr (.inr (.inl ⟨h, turn_2 p n h⟩))
  · exact .inr (.inr (.inr (.inl ⟨h, turn_3 p n h⟩)))
  · exact .inr (.inr (.inr (.inr (.inl ⟨h, turn_4 p n h⟩))))
  · exact .inr (.inr (.inr (.inr (.inr ⟨h, turn_5 p n h⟩))))
theorem turn_in (p : Int × Int) (n m : Int) (h : Pl.inB m p) : Pl.inB (2 * m) (Pl.turn p n) := by
  obtain ⟨h1, h2, h3, h4⟩ := h
  rcases turn_cases p n with ⟨g, e⟩ | ⟨g, e⟩ | ⟨g, e⟩ | ⟨g, e⟩ | ⟨g, e⟩ | ⟨g, e⟩ <;> rw [e] <;> (refine ⟨?_, ?_, ?_, ?_⟩ <;> (try simp only) <;> omega)

/-- Phases of one positive component: the components 0 and 2 are 0. -/
theorem bal_rot (x : Int × Int) : balB (cmp x (Pl.turn x (-2)) (Pl.turn x 2)) = true := by
  unfold balB cmp
  simp only [Tr, f3, turn_turn, Pl.add]
  simp (decide := true) only [turn_0, turn_1, turn_2, turn_3, turn_4, turn_5]
  simp only [Bool.and_eq_true, beq_iff_eq]
  refine ⟨?_, ?_, ?_, ?_⟩ <;> omega

/-- The power of voltages and currents that turn alike. -/
theorem pow_rot (x y : Int × Int) : Pw (f3 x (Pl.turn x (-2)) (Pl.turn x 2)) (f3 y (Pl.turn y (-2)) (Pl.turn y 2)) 3 = (3 * (Pl.mul x (Pl.bar y)).1, 3 * (Pl.mul x (Pl.bar y)).2) := by
  unfold Pw Pw Pw Pw
  simp only [f3, Pl.add]
  rw [turn_4 x (-2) (by decide), turn_2 x 2 (by decide), turn_4 y (-2) (by decide), turn_2 y 2 (by decide)]
  simp only [Pl.mul, Pl.bar]
  obtain ⟨a, b⟩ := x
  obtain ⟨c, d⟩ := y
  simp only [Prod.mk.injEq]
  constructor <;> simp only [Int.mul_sub, Int.sub_mul, Int.mul_neg, Int.neg_mul, Int.neg_neg] <;> omega
/-- Turned alike, a product with a conjugate stays. -/
theorem mul_bar_turn (x y : Int × Int) (n : Int) : Pl.mul (Pl.turn x n) (Pl.bar (Pl.turn y n)) = Pl.mul x (Pl.bar y) := by
  obtain ⟨a, b⟩ := x
  obtain ⟨c, d⟩ := y
  rcases turn_cases (a, b) n with ⟨g, e⟩ | ⟨g, e⟩ | ⟨g, e⟩ | ⟨g, e⟩ | ⟨g, e⟩ | ⟨g, e⟩ <;> rw [e]
  · rw [turn_0 _ _ g]
  · rw [turn_1 _ _ g]; simp only [Pl.mul, Pl.bar, Prod.mk.injEq]; constructor <;> simp only [Int.mul_sub, Int.sub_mul, Int.mul_neg, Int.neg_mul, Int.neg_neg] <;> omega
  · rw [turn_2 _ _ g]; simp only [Pl.mul, Pl.bar, Prod.mk.injEq]; constructor <;> simp only [Int.mul_sub, Int.sub_mul, Int.mul_neg, Int.neg_mul, Int.neg_neg] <;> omega
  · rw [turn_3 _ _ g]; simp only [Pl.mul, Pl.bar, Prod.mk.injEq]; constructor <;> simp only [Int.mul_sub, Int.sub_mul, Int.mul_neg, Int.neg_mul, Int.neg_neg] <;> omega
  · rw [turn_4 _ _ g]; simp only [Pl.mul, Pl.bar, Prod.mk.injEq]; constructor <;> simp only [Int.mul_sub, Int.sub_mul, Int.mul_neg, Int.neg_mul, Int.neg_neg] <;> omega
  · rw [turn_5 _ _ g]; simp only [Pl.mul, Pl.bar, Prod.mk.injEq]; constructor <;> simp only [Int.mul_sub, Int.sub_mul, Int.mul_neg, Int.neg_mul, Int.neg_neg] <;> omega

/-- The spectrum of a number that turns by n sixths: one element alone. -/
theorem spc_rot (a : Int × Int) (n : Int) (k : Nat) (hk : k < 6) :
    spc (Pl.turn a (0 * n)) (Pl.turn a (1 * n)) (Pl.turn a (2 * n)) (Pl.turn a (3 * n)) (Pl.turn a (4 * n)) (Pl.turn a (5 * n)) k = if (k : Int) = n % 6 then (6 * a.1, 6 * a.2) else (0, 0) := by
  unfold spc
  simp only [Tr, f6, turn_turn, Pl.add]
  have h0 := Int.emod_nonneg n (b := 6) (by omega)
  have h1 := Int.emod_lt_of_pos n (b := 6) (by omega)
  have h : n % 6 = 0 ∨ n % 6 = 1 ∨ n % 6 = 2 ∨ n % 6 = 3 ∨ n % 6 = 4 ∨ n % 6 = 5 := by omega
  match k, hk with
  | 0, _ => rcases h with h | h | h | h | h | h <;> simp (disch := omega) only [turn_0, turn_1, turn_2, turn_3, turn_4, turn_5] <;> rw [h] <;> simp <;> (try constructor) <;> omega
  | 1, _ => rcases h with h | h | h | h | h | h <;> simp (disch := omega) only [turn_0, turn_1, turn_2, turn_3, turn_4, turn_5] <;> rw [h] <;> simp <;> (try constructor) <;> omega
  | 2, _ => rcases h with h | h | h | h | h | h <;> simp (disch := omega) only [turn_0, turn_1, turn_2, turn_3, turn_4, turn_5] <;> rw [h] <;> simp <;> (try constructor) <;> omega
  | 3, _ => rcases h with h | h | h | h | h | h <;> simp (disch := omega) only [turn_0, turn_1, turn_2, turn_3, turn_4, turn_5] <;> rw [h] <;> simp <;> (try constructor) <;> omega
  | 4, _ => rcases h with h | h | h | h | h | h <;> simp (disch := omega) only [turn_0, turn_1, turn_2, turn_3, turn_4, turn_5] <;> rw [h] <;> simp <;> (try constructor) <;> omega
  | 5, _ => rcases h with h | h | h | h | h | h <;> simp (disch := omega) only [turn_0, turn_1, turn_2, turn_3, turn_4, turn_5] <;> rw [h] <;> simp <;> (try constructor) <;> omega
end Go.Proofs.YtgloclcbeohkhaaGreatDoor
