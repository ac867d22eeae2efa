/-
  Plain facts on sums, products and norms of numbers.
-/
import Derived.Test.YtgloclcbeohkhaaGreatDoorRotMath
import Derived.Test.YtgloclcbeohkhaaGreatDoorAddMul
import Derived.Test.YtgloclcbeohkhaaGreatDoorNorm
namespace Go.Proofs.YtgloclcbeohkhaaGreatDoor
set_option linter.all false

theorem sq_nn (x : Int) : 0 ≤ x * x := by
  rcases Int.le_total 0 x with h | h
  · exact Int.mul_nonneg h h
  · have e : x * x = (-x) * (-x) := (Int.neg_mul_neg x x).symm
    rw [e]; exact Int.mul_nonneg (by omega) (by omega)
theorem norm4 (a b : Int) : 4 * Pl.norm (a, b) = (2 * a - b) * (2 * a - b) + 3 * (b * b) := by
  unfold Pl.norm; simp only; grind
theorem norm_nn (a b : Int) : 0 ≤ Pl.norm (a, b) := by
  have h := norm4 a b
  have h1 := sq_nn (2 * a - b)
  have h2 := sq_nn b
  omega
theorem norm_zero (a b : Int) : Pl.norm (a, b) = 0 ↔ a = 0 ∧ b = 0 := by
  constructor
  · intro h0
    have h := norm4 a b
    have h1 := sq_nn (2 * a - b)
    have h2 := sq_nn b
    have hb : b * b = 0 := by omega
    have hb0 : b = 0 := by rcases Int.mul_eq_zero.1 hb with h | h <;> exact h
    subst hb0
    have ha : a * a = 0 := by unfold Pl.norm at h0; simpa using h0
    exact ⟨by rcases Int.mul_eq_zero.1 ha with h | h <;> exact h, rfl⟩
  · rintro ⟨rfl, rfl⟩; rfl
theorem norm_mul (a b : Int × Int) : Pl.norm (Pl.mul a b) = Pl.norm a * Pl.norm b := by
  obtain ⟨a, b⟩ := a
  rename_i q
  obtain ⟨c, d⟩ := q
  unfold Pl.norm Pl.mul; simp only; grind
theorem mul_comm' (a b : Int × Int) : Pl.mul a b = Pl.mul b a := by
  obtain ⟨a, b⟩ := a
  rename_i q
  obtain ⟨c, d⟩ := q
  unfold Pl.mul; simp only [Prod.mk.injEq]; constructor <;> grind
theorem add_comm' (a b : Int × Int) : Pl.add a b = Pl.add b a := by
  unfold Pl.add; simp only [Prod.mk.injEq]; omega
theorem mul_add' (a b c : Int × Int) : Pl.mul (Pl.add a b) c = Pl.add (Pl.mul a c) (Pl.mul b c) := by
  obtain ⟨a1, a2⟩ := a
  obtain ⟨b1, b2⟩ := b
  obtain ⟨c1, c2⟩ := c
  unfold Pl.mul Pl.add; simp only [Prod.mk.injEq]; constructor <;> grind
theorem norm_turn (a : Int × Int) (n : Int) : Pl.norm (Pl.turn a n) = Pl.norm a := by
  obtain ⟨x, y⟩ := a
  rcases turn_cases (x, y) n with ⟨g, e⟩ | ⟨g, e⟩ | ⟨g, e⟩ | ⟨g, e⟩ | ⟨g, e⟩ | ⟨g, e⟩ <;> rw [e] <;> unfold Pl.norm <;> simp only <;> grind
theorem mul_turn2 (a b : Int × Int) (n : Int) : Pl.mul (Pl.turn a n) (Pl.turn b 2) = Pl.turn (Pl.mul a b) (n + 2) := by
  rw [← turn_turn, turn_2 b 2 (by decide), turn_2 _ 2 (by decide)]
  obtain ⟨a1, a2⟩ := a
  obtain ⟨b1, b2⟩ := b
  rcases turn_cases (a1, a2) n with ⟨g, e⟩ | ⟨g, e⟩ | ⟨g, e⟩ | ⟨g, e⟩ | ⟨g, e⟩ | ⟨g, e⟩ <;> rw [e]
  · rw [turn_0 _ _ g]; unfold Pl.mul; simp only [Prod.mk.injEq]; constructor <;> grind
  · rw [turn_1 _ _ g]; unfold Pl.mul; simp only [Prod.mk.injEq]; constructor <;> grind
  · rw [turn_2 _ _ g]; unfold Pl.mul; simp only [Prod.mk.injEq]; constructor <;> grind
  · rw [turn_3 _ _ g]; unfold Pl.mul; simp only [Prod.mk.injEq]; constructor <;> grind
  · rw [turn_4 _ _ g]; unfold Pl.mul; simp only [Prod.mk.injEq]; constructor <;> grind
  · rw [turn_5 _ _ g]; unfold Pl.mul; simp only [Prod.mk.injEq]; constructor <;> grind
theorem turn_add3 (a : Int × Int) (n : Int) : Pl.turn a (n + 3) = (-(Pl.turn a n).1, -(Pl.turn a n).2) := by
  rw [← turn_turn, turn_3 _ 3 (by decide)]
theorem turn_add6 (a : Int × Int) (n : Int) : Pl.turn a (n + 6) = Pl.turn a n := turn_mod _ _ _ (by omega)
theorem mul_one1 (a : Int × Int) : Pl.mul a (1, 1) = Pl.turn a 1 := by
  rw [turn_1 a 1 (by decide)]; unfold Pl.mul; simp

theorem inB_mono {m k : Int} {p : Int × Int} (h : Pl.inB m p) (hk : m ≤ k) : Pl.inB k p := by
  obtain ⟨h1, h2, h3, h4⟩ := h; exact ⟨by omega, by omega, by omega, by omega⟩
theorem inB_add {m k : Int} {p q : Int × Int} (h : Pl.inB m p) (g : Pl.inB k q) : Pl.inB (m + k) (Pl.add p q) := by
  obtain ⟨h1, h2, h3, h4⟩ := h; obtain ⟨g1, g2, g3, g4⟩ := g
  unfold Pl.add; refine ⟨?_, ?_, ?_, ?_⟩ <;> simp only <;> omega
theorem mul_bd2 (m k x y : Int) (hm : 0 ≤ m) (hk : 0 ≤ k) (h1 : -m ≤ x) (h2 : x ≤ m) (h3 : -k ≤ y) (h4 : y ≤ k) : -(m * k) ≤ x * y ∧ x * y ≤ m * k := by
  have e : (x * y).natAbs ≤ (m * k).natAbs := by
    rw [Int.natAbs_mul, Int.natAbs_mul]; exact Nat.mul_le_mul (by omega) (by omega)
  have : 0 ≤ m * k := Int.mul_nonneg hm hk
  omega
theorem inB_mul {m k : Int} {p q : Int × Int} (hm : 0 ≤ m) (hk : 0 ≤ k) (h : Pl.inB m p) (g : Pl.inB k q) : Pl.inB (3 * (m * k)) (Pl.mul p q) := by
  obtain ⟨h1, h2, h3, h4⟩ := h; obtain ⟨g1, g2, g3, g4⟩ := g
  have a := mul_bd2 m k _ _ hm hk h1 h2 g1 g2
  have b := mul_bd2 m k _ _ hm hk h3 h4 g3 g4
  have c := mul_bd2 m k _ _ hm hk h1 h2 g3 g4
  have d := mul_bd2 m k _ _ hm hk h3 h4 g1 g2
  unfold Pl.mul; refine ⟨?_, ?_, ?_, ?_⟩ <;> simp only <;> omega

theorem parts0 {p : Int × Int} (h : Pl.inB 1048576 p) : Pl.parts p.1 p.2 1048576 = 0 := parts_ok.2 h
theorem addV_eq {p q : Int × Int} (hp : Pl.inB 1048576 p) (hq : Pl.inB 1048576 q) (hr : Pl.inB 1048576 (Pl.add p q)) :
    addV p.1 p.2 q.1 q.2 = .tuple #[.agg #[.int .i64 (Pl.add p q).1, .int .i64 (Pl.add p q).2], .int .i64 0] := by
  unfold addV
  rw [parts0 hp, parts0 hq, if_pos (by rfl)]
  have e : Pl.lim (Pl.add (p.1, p.2) (q.1, q.2)) = (Pl.add p q, 0) := lim_in hr
  rw [e]
theorem mulV_eq {p q : Int × Int} (hp : Pl.inB 1048576 p) (hq : Pl.inB 1048576 q) (hr : Pl.inB 1048576 (Pl.mul p q)) :
    mulV p.1 p.2 q.1 q.2 = .tuple #[.agg #[.int .i64 (Pl.mul p q).1, .int .i64 (Pl.mul p q).2], .int .i64 0] := by
  unfold mulV
  rw [parts0 hp, parts0 hq, if_pos (by rfl)]
  have e : Pl.lim (Pl.mul (p.1, p.2) (q.1, q.2)) = (Pl.mul p q, 0) := lim_in hr
  rw [e]
theorem turnedV_eq {p : Int × Int} {n : Int} (hp : Pl.inB 1048576 p) (hn : -1000000 ≤ n ∧ n ≤ 1000000) (hr : Pl.inB 1048576 (Pl.turn p n)) :
    turnedV p.1 p.2 n = .tuple #[.agg #[.int .i64 (Pl.turn p n).1, .int .i64 (Pl.turn p n).2], .int .i64 0] := by
  unfold turnedV
  rw [parts0 hp, cr_ok.2 hn, if_pos (by rfl)]
  have e : Pl.lim (Pl.turn (p.1, p.2) n) = (Pl.turn p n, 0) := lim_in hr
  rw [e]
theorem normV_eq {p : Int × Int} (hp : Pl.inB 1048576 p) : normV p.1 p.2 = .tuple #[.int .i64 (Pl.norm p), .int .i64 0] := by
  unfold normV
  rw [if_pos (parts0 hp)]
end Go.Proofs.YtgloclcbeohkhaaGreatDoor
