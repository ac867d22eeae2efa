/-
  loop.Basin.
  CheckPhase of the reference; Locks.
  The reference's Locks.
  loop.falling.
  The reference's CheckRing.
  loop.CheckRing.
  The contract of bipole.check.Index.
  The contract of bipole.bipoleref01.CheckRange.
  The contract of bipole.check.Range.
  Contracts: what is answered.
  What all texts of the pieces between worlds told anew ask: bodies, the loops of a function by their number, rows that are told by their numbers.
  What all texts of a seat ask of its program; rows of numbers.
  Plain facts on numbers: turns, norms, products, bounds. No program is used here.
-/
import Derived.Test.YtecabbbjdnambaaGreatDoorGR2
import Derived.WalkKit
import Derived.Test.YtecabbbjdnambaaGreatDoorProg
section
namespace Go.Proofs.YtecabbbjdnambaaGreatDoor
set_option linter.all false

theorem turnN_add (m n : Nat) (p : Int × Int) : Pl.turnN (m + n) p = Pl.turnN m (Pl.turnN n p) := by
  induction m with
  | zero => simp [Pl.turnN]
  | succ m ih => rw [Nat.succ_add]; show Pl.sixth _ = Pl.sixth _; rw [ih]
theorem turnN_two (p : Int × Int) : Pl.turnN 2 p = (-p.2, p.1 - p.2) := by
  show (p.1 - p.2 - p.1, p.1 - p.2) = _
  exact Prod.ext (by simp only; omega) rfl
theorem turnN_three (p : Int × Int) : Pl.turnN 3 p = (-p.1, -p.2) := by
  rw [show (3 : Nat) = 1 + 2 from rfl, turnN_add, turnN_two]
  show (-p.2 - (p.1 - p.2), -p.2) = _
  exact Prod.ext (by simp only; omega) rfl
theorem turnN_four (p : Int × Int) : Pl.turnN 4 p = (p.2 - p.1, -p.1) := by
  rw [show (4 : Nat) = 1 + 3 from rfl, turnN_add, turnN_three]
  show (-p.1 - -p.2, -p.1) = _
  exact Prod.ext (by simp only; omega) rfl
theorem turnN_five (p : Int × Int) : Pl.turnN 5 p = (p.2, p.2 - p.1) := by
  rw [show (5 : Nat) = 1 + 4 from rfl, turnN_add, turnN_four]
  show (p.2 - p.1 - -p.1, p.2 - p.1) = _
  exact Prod.ext (by simp only; omega) rfl
theorem turnN_six (p : Int × Int) : Pl.turnN 6 p = p := by
  rw [show (6 : Nat) = 3 + 3 from rfl, turnN_add, turnN_three, turnN_three]
  exact Prod.ext (by simp only; omega) (by simp only; omega)
theorem turnN_six_mul (q r : Nat) (p : Int × Int) : Pl.turnN (6 * q + r) p = Pl.turnN r p := by
  induction q with
  | zero => simp
  | succ q ih => rw [show 6 * (q + 1) + r = 6 + (6 * q + r) by omega, turnN_add, turnN_six, ih]
theorem turnN_mod (k : Nat) (p : Int × Int) : Pl.turnN k p = Pl.turnN (k % 6) p := by
  have h := turnN_six_mul (k / 6) (k % 6) p
  rwa [show 6 * (k / 6) + k % 6 = k by omega] at h
theorem turn_turn (p : Int × Int) (m n : Int) : Pl.turn (Pl.turn p m) n = Pl.turn p (m + n) := by
  unfold Pl.turn
  rw [← turnN_add, turnN_mod]
  congr 1
  omega
theorem turn_mod (p : Int × Int) (m n : Int) (h : m % 6 = n % 6) : Pl.turn p m = Pl.turn p n := by unfold Pl.turn; rw [h]
theorem turn_0 (p : Int × Int) (n : Int) (h : n % 6 = 0) : Pl.turn p n = p := by unfold Pl.turn; rw [h]; rfl
theorem turn_1 (p : Int × Int) (n : Int) (h : n % 6 = 1) : Pl.turn p n = (p.1 - p.2, p.1) := by unfold Pl.turn; rw [h]; rfl
theorem turn_2 (p : Int × Int) (n : Int) (h : n % 6 = 2) : Pl.turn p n = (-p.2, p.1 - p.2) := by unfold Pl.turn; rw [h]; exact turnN_two p
theorem turn_3 (p : Int × Int) (n : Int) (h : n % 6 = 3) : Pl.turn p n = (-p.1, -p.2) := by unfold Pl.turn; rw [h]; exact turnN_three p
theorem turn_4 (p : Int × Int) (n : Int) (h : n % 6 = 4) : Pl.turn p n = (p.2 - p.1, -p.1) := by unfold Pl.turn; rw [h]; exact turnN_four p
theorem turn_5 (p : Int × Int) (n : Int) (h : n % 6 = 5) : Pl.turn p n = (p.2, p.2 - p.1) := by unfold Pl.turn; rw [h]; exact turnN_five p
theorem turn_cases (p : Int × Int) (n : Int) :
    (n % 6 = 0 ∧ Pl.turn p n = p) ∨ (n % 6 = 1 ∧ Pl.turn p n = (p.1 - p.2, p.1)) ∨ (n % 6 = 2 ∧ Pl.turn p n = (-p.2, p.1 - p.2)) ∨ (n % 6 = 3 ∧ Pl.turn p n = (-p.1, -p.2)) ∨
    (n % 6 = 4 ∧ Pl.turn p n = (p.2 - p.1, -p.1)) ∨ (n % 6 = 5 ∧ Pl.turn p n = (p.2, p.2 - p.1)) := by
  have h : n % 6 = 0 ∨ n % 6 = 1 ∨ n % 6 = 2 ∨ n % 6 = 3 ∨ n % 6 = 4 ∨ n % 6 = 5 := by omega
  rcases h with h | h | h | h | h | h
  · exact .inl ⟨h, turn_0 p n h⟩
  · exact .inr (.inl ⟨h, turn_1 p n h⟩)
  · exact .inr (.inr (.inl ⟨h, turn_2 p n h⟩))
  · exact .inr (.inr (.inr (.inl ⟨h, turn_3 p n h⟩)))
  · exact .inr (.inr (.inr (.inr (.inl ⟨h, turn_4 p n h⟩))))
  · exact .inr (.inr (.inr (.inr (.inr ⟨h, turn_5 p n h⟩))))
theorem turn_in (p : Int × Int) (n m : Int) (h : Pl.inB m p) : Pl.inB (2 * m) (Pl.turn p n) := by
  obtain ⟨h1, h2, h3, h4⟩ := h
  rcases turn_cases p n with ⟨g, e⟩ | ⟨g, e⟩ | ⟨g, e⟩ | ⟨g, e⟩ | ⟨g, e⟩ | ⟨g, e⟩ <;> rw [e] <;> (refine ⟨?_, ?_, ?_, ?_⟩ <;> (try simp only) <;> omega)

theorem sq_nn (x : Int) : 0 ≤ x * x := by
  rcases Int.le_total 0 x with h | h
  · exact Int.mul_nonneg h h
  · have e : x * x = (-x) * (-x) := (Int.neg_mul_neg x x).symm
    rw [e]; exact Int.mul_nonneg (by omega) (by omega)
theorem norm4 (a b : Int) : 4 * Pl.norm (a, b) = (2 * a - b) * (2 * a - b) + 3 * (b * b) := by
  unfold Pl.norm; simp only; grind
theorem norm_nn (a b : Int) : 0 ≤ Pl.norm (a, b) := by
  have h := norm4 a b
  have h1 := sq_nn (2 * a - b)
  have h2 := sq_nn b
  omega
theorem norm_zero (a b : Int) : Pl.norm (a, b) = 0 ↔ a = 0 ∧ b = 0 := by
  constructor
  · intro h0
    have h := norm4 a b
    have h1 := sq_nn (2 * a - b)
    have h2 := sq_nn b
    have hb : b * b = 0 := by omega
    have hb0 : b = 0 := by rcases Int.mul_eq_zero.1 hb with h | h <;> exact h
    subst hb0
    have ha : a * a = 0 := by unfold Pl.norm at h0; simpa using h0
    exact ⟨by rcases Int.mul_eq_zero.1 ha with h | h <;> exact h, rfl⟩
  · rintro ⟨rfl, rfl⟩; rfl
theorem norm_mul (a b : Int × Int) : Pl.norm (Pl.mul a b) = Pl.norm a * Pl.norm b := by
  obtain ⟨a, b⟩ := a
  rename_i q
  obtain ⟨c, d⟩ := q
  unfold Pl.norm Pl.mul; simp only; grind
theorem mul_comm' (a b : Int × Int) : Pl.mul a b = Pl.mul b a := by
  obtain ⟨a, b⟩ := a
  rename_i q
  obtain ⟨c, d⟩ := q
  unfold Pl.mul; simp only [Prod.mk.injEq]; constructor <;> grind
theorem add_comm' (a b : Int × Int) : Pl.add a b = Pl.add b a := by
  unfold Pl.add; simp only [Prod.mk.injEq]; omega
theorem mul_add' (a b c : Int × Int) : Pl.mul (Pl.add a b) c = Pl.add (Pl.mul a c) (Pl.mul b c) := by
  obtain ⟨a1, a2⟩ := a
  obtain ⟨b1, b2⟩ := b
  obtain ⟨c1, c2⟩ := c
  unfold Pl.mul Pl.add; simp only [Prod.mk.injEq]; constructor <;> grind
theorem norm_turn (a : Int × Int) (n : Int) : Pl.norm (Pl.turn a n) = Pl.norm a := by
  obtain ⟨x, y⟩ := a
  rcases turn_cases (x, y) n with ⟨g, e⟩ | ⟨g, e⟩ | ⟨g, e⟩ | ⟨g, e⟩ | ⟨g, e⟩ | ⟨g, e⟩ <;> rw [e] <;> unfold Pl.norm <;> simp only <;> grind
theorem mul_turn2 (a b : Int × Int) (n : Int) : Pl.mul (Pl.turn a n) (Pl.turn b 2) = Pl.turn (Pl.mul a b) (n + 2) := by
  rw [← turn_turn, turn_2 b 2 (by decide), turn_2 _ 2 (by decide)]
  obtain ⟨a1, a2⟩ := a
  obtain ⟨b1, b2⟩ := b
  rcases turn_cases (a1, a2) n with ⟨g, e⟩ | ⟨g, e⟩ | ⟨g, e⟩ | ⟨g, e⟩ | ⟨g, e⟩ | ⟨g, e⟩ <;> rw [e]
  · rw [turn_0 _ _ g]; unfold Pl.mul; simp only [Prod.mk.injEq]; constructor <;> grind
  · rw [turn_1 _ _ g]; unfold Pl.mul; simp only [Prod.mk.injEq]; constructor <;> grind
  · rw [turn_2 _ _ g]; unfold Pl.mul; simp only [Prod.mk.injEq]; constructor <;> grind
  · rw [turn_3 _ _ g]; unfold Pl.mul; simp only [Prod.mk.injEq]; constructor <;> grind
  · rw [turn_4 _ _ g]; unfold Pl.mul; simp only [Prod.mk.injEq]; constructor <;> grind
  · rw [turn_5 _ _ g]; unfold Pl.mul; simp only [Prod.mk.injEq]; constructor <;> grind
theorem turn_add3 (a : Int × Int) (n : Int) : Pl.turn a (n + 3) = (-(Pl.turn a n).1, -(Pl.turn a n).2) := by
  rw [← turn_turn, turn_3 _ 3 (by decide)]
theorem turn_add6 (a : Int × Int) (n : Int) : Pl.turn a (n + 6) = Pl.turn a n := turn_mod _ _ _ (by omega)
theorem mul_one1 (a : Int × Int) : Pl.mul a (1, 1) = Pl.turn a 1 := by
  rw [turn_1 a 1 (by decide)]; unfold Pl.mul; simp

theorem inB_mono {m k : Int} {p : Int × Int} (h : Pl.inB m p) (hk : m ≤ k) : Pl.inB k p := by
  obtain ⟨h1, h2, h3, h4⟩ := h; exact ⟨by omega, by omega, by omega, by omega⟩
theorem inB_add {m k : Int} {p q : Int × Int} (h : Pl.inB m p) (g : Pl.inB k q) : Pl.inB (m + k) (Pl.add p q) := by
  obtain ⟨h1, h2, h3, h4⟩ := h; obtain ⟨g1, g2, g3, g4⟩ := g
  unfold Pl.add; refine ⟨?_, ?_, ?_, ?_⟩ <;> simp only <;> omega
theorem mul_bd2 (m k x y : Int) (hm : 0 ≤ m) (hk : 0 ≤ k) (h1 : -m ≤ x) (h2 : x ≤ m) (h3 : -k ≤ y) (h4 : y ≤ k) : -(m * k) ≤ x * y ∧ x * y ≤ m * k := by
  have e : (x * y).natAbs ≤ (m * k).natAbs := by
    rw [Int.natAbs_mul, Int.natAbs_mul]; exact Nat.mul_le_mul (by omega) (by omega)
  have : 0 ≤ m * k := Int.mul_nonneg hm hk
  omega
theorem inB_mul {m k : Int} {p q : Int × Int} (hm : 0 ≤ m) (hk : 0 ≤ k) (h : Pl.inB m p) (g : Pl.inB k q) : Pl.inB (3 * (m * k)) (Pl.mul p q) := by
  obtain ⟨h1, h2, h3, h4⟩ := h; obtain ⟨g1, g2, g3, g4⟩ := g
  have a := mul_bd2 m k _ _ hm hk h1 h2 g1 g2
  have b := mul_bd2 m k _ _ hm hk h3 h4 g3 g4
  have c := mul_bd2 m k _ _ hm hk h1 h2 g3 g4
  have d := mul_bd2 m k _ _ hm hk h3 h4 g1 g2
  unfold Pl.mul; refine ⟨?_, ?_, ?_, ?_⟩ <;> simp only <;> omega

end Go.Proofs.YtecabbbjdnambaaGreatDoor
end
section
set_option linter.all false
set_option maxRecDepth 1000000
open Go.RowKit
namespace Go.Proofs.YtecabbbjdnambaaGreatDoor
open Mini
theorem smx : Tryz.prog.follows .mixedOrders = true := by kernel_rfl
theorem sng : 6 = Tryz.prog.globals.size := by kernel_rfl
def rowI (k n : Nat) (g : Nat → Nat → Int) (e : TypeId) (opn : Bool) (sz : Nat) (ro : Bool) : MObj := .rows n k (fun i j => .int .i64 (g i j)) e opn sz ro
theorem rowI_keep {N : Nat → Bool} (k n : Nat) (g : Nat → Nat → Int) (e : TypeId) (opn : Bool) (sz : Nat) (ro : Bool) : keepO N (rowI k n g e opn sz ro) := fun i j => rfl
theorem wnext {i n : Nat} (h : i < n) (hn : (n : Int) ≤ 9223372036854775807) : IntKind.i64.wrap ((i : Int) + 1) = ((i + 1 : Nat) : Int) := by
  rw [IntWalk.i64_in _ (by omega)]; rfl
theorem wnextV {i n : Nat} (h : i < n) (hn : (n : Int) ≤ 9223372036854775807) : Value.int .i64 (IntKind.i64.wrap ((i : Int) + 1)) = .int .i64 ((i + 1 : Nat) : Int) := by rw [wnext h hn]
def feN (g : Nat → Int) : Nat → Nat → Int
  | 0, _ => 0
  | m + 1, i => if g i = 0 then feN g m (i + 1) else g i
theorem feN_all {g : Nat → Int} : ∀ {m i : Nat}, (∀ k, i ≤ k → k < i + m → g k = 0) → feN g m i = 0
  | 0, i, h => rfl
  | m + 1, i, h => by
    rw [feN, if_pos (h i (Nat.le_refl _) (by omega))]
    exact feN_all fun k h1 h2 => h k (by omega) (by omega)
theorem feN_first {g : Nat → Int} : ∀ {m i j : Nat}, i ≤ j → j < i + m → (∀ k, i ≤ k → k < j → g k = 0) → g j ≠ 0 → feN g m i = g j
  | 0, i, j, h1, h2, h, hj => by omega
  | m + 1, i, j, h1, h2, h, hj => by
    rw [feN]
    rcases Nat.eq_or_lt_of_le h1 with e | e
    · subst e; rw [if_neg hj]
    · rw [if_pos (h i (Nat.le_refl _) e)]
      exact feN_first (by omega) (by omega) (fun k h1 h2 => h k (by omega) h2) hj
theorem rowI_keep1 {B k n : Nat} {g : Nat → Nat → Int} {e : TypeId} {opn : Bool} {sz : Nat} {ro : Bool} : ∀ o, o ∈ [rowI k n g e opn sz ro] → keepO (below B) o := fun o ho => by
  rw [List.mem_singleton.1 ho]; exact rowI_keep _ _ _ _ _ _ _
theorem rowI_keep2 {B k n k2 n2 : Nat} {g g2 : Nat → Nat → Int} {e e2 : TypeId} {opn opn2 : Bool} {sz sz2 : Nat} {ro ro2 : Bool} : ∀ o, o ∈ [rowI k n g e opn sz ro, rowI k2 n2 g2 e2 opn2 sz2 ro2] → keepO (below B) o := fun o ho => by
  rcases List.mem_cons.1 ho with h | h
  · rw [h]; exact rowI_keep _ _ _ _ _ _ _
  · exact rowI_keep1 o h
theorem wvs_one {f : Nm} {a a2 : Value} (h1 : WV f a a2) : WVs f #[a] #[a2] := ⟨rfl, fun i v u e1 e2 => by
  cases i with
  | zero => simp at e1 e2; subst e1 e2; exact h1
  | succ i => simp at e1⟩
def wldOf (r : Option OutS) : St := match r with
  | some (_, s, _) => s
  | none => ⟨0, .leaf, []⟩
theorem wv_tuple {f : Nm} {xs bs : Array Value} (h : WVs f xs bs) : WV f (.tuple xs) (.tuple bs) := fun ρ ρ' hr v' hv => by
  cases hv with
  | tuple _ cs' h1 h2 =>
    refine .tuple bs cs' (h.1.symm.trans h1) fun i v w e1 e2 => ?_
    have hlt : i < xs.size := h.1 ▸ (Array.getElem?_eq_some_iff.1 e1).1
    have e0 : xs[i]? = some xs[i] := Array.getElem?_eq_getElem hlt
    exact h.2 i _ _ e0 e1 ρ ρ' hr w (h2 i _ _ e0 e2)
theorem feN_zero {g : Nat → Int} {n : Nat} (h : feN g n 0 = 0) : ∀ i, i < n → g i = 0 := by
  have key : ∀ m i, feN g m i = 0 → ∀ k, i ≤ k → k < i + m → g k = 0 := fun m => by
    induction m with
    | zero => intro i _ k h1 h2; omega
    | succ m ih =>
      intro i hi k h1 h2
      rw [feN] at hi
      split at hi
      · rename_i h0
        rcases Nat.eq_or_lt_of_le h1 with e | e
        · subst e; exact h0
        · exact ih (i + 1) hi k (by omega) (by omega)
      · rename_i h0; exact absurd hi h0
  exact fun i hi => key n 0 h i (Nat.zero_le _) (by omega)
def fillG (z : List Value) (w : Nat → List Value) (i : Nat) : Nat → Nat → Value := fun a j => (if a < i then w a else z).getD j (.chan none)
theorem fill_set {z : List Value} {w : Nat → List Value} {i : Nat} (h : (w i).length = z.length) : setRow (fillG z w i) i 0 (w i) = fillG z w (i + 1) := by
  funext a j
  unfold setRow fillG
  by_cases c : a = i
  · subst c
    rw [if_pos (Nat.lt_succ_self a), if_neg (Nat.lt_irrefl a)]
    by_cases hj : j < (w a).length
    · rw [if_pos ⟨rfl, Nat.zero_le _, by omega⟩, Nat.sub_zero]
    · rw [if_neg (fun q => hj (by omega))]
      simp [List.getD, List.getElem?_eq_none (Nat.le_of_not_lt hj), List.getElem?_eq_none (show z.length ≤ j by omega)]
  · rw [if_neg (fun q => c q.1)]
    by_cases c2 : a < i
    · rw [if_pos c2, if_pos (by omega)]
    · rw [if_neg c2, if_neg (by omega)]
theorem fill_zero (z : List Value) (w : Nat → List Value) : (fun (_ j : Nat) => z.getD j (.chan none)) = fillG z w 0 := by
  funext a j
  unfold fillG
  rw [if_neg (by omega)]
theorem fill_push {w : Nat → List Value} {k i : Nat} (h : (w i).length = k) (hk : 0 < k) : pushRow i k (fillG [] w i) (w i) = fillG [] w (i + 1) := by
  funext a j
  unfold pushRow fillG
  by_cases c : a < i
  · rw [if_pos c, if_pos c, if_pos (by omega)]
  · rw [if_neg c]
    by_cases c2 : a = i
    · subst c2
      rw [if_pos (by omega), Nat.sub_self, Nat.zero_mul, Nat.zero_add]
    · rw [if_neg (by omega)]
      have : k ≤ (a - i) * k := Nat.le_mul_of_pos_left k (by omega)
      simp [List.getD, List.getElem?_eq_none (show (w i).length ≤ (a - i) * k + j by omega)]
def isInts (l : List Value) : Bool := l.all fun v => match v with
  | .int .i64 _ => true
  | _ => false
theorem fill_keep {N : Nat → Bool} {z : List Value} {w : Nat → List Value} {i n k : Nat} {e : TypeId} {opn : Bool} {sz : Nat} {ro : Bool} (hz : isInts z = true) (hw : ∀ a, isInts (w a) = true) : keepO N (.rows n k (fillG z w i) e opn sz ro) := fun a j => by
  have key : ∀ l : List Value, isInts l = true → keepB N 8 (l.getD j (.chan none)) = true := fun l hl => by
    rw [List.getD_eq_getElem?_getD]
    cases hq : l[j]? with
    | none => rfl
    | some v =>
      have := (List.all_eq_true.1 hl) v (List.mem_of_getElem? hq)
      cases v <;> first | rfl | (simp at this)
  unfold fillG
  split
  · exact key _ (hw a)
  · exact key _ hz
end Go.Proofs.YtecabbbjdnambaaGreatDoor
end
section
set_option linter.all false
set_option maxRecDepth 1000000
open Go.RowKit
namespace Go.Proofs.YtecabbbjdnambaaGreatDoor
open Mini
namespace Mini
variable {P : Program} {rd : Option Nat} {s s1 s2 : St} {B W : Nat}
def loopsOf : Code → List Code
  | .seq x y => loopsOf x ++ loopsOf y
  | .cond _ x y => loopsOf x ++ loopsOf y
  | .block _ x => loopsOf x
  | .scope x => loopsOf x
  | .loop x => x :: loopsOf x
  | _ => []
def loopAt (P : Program) (f : FuncId) (i : Nat) : Code := (loopsOf (bodyOf P f)).getD i .skip
theorem KT.toldAs {T : Tr} {a a1 : Act} {e : Exit} {N : Nat} {L L2 : List MObj} (h : KT P rd T a s e a1 (wS N L) B W) (hl : L.map nrm = L2.map nrm) : KT P rd T a s e a1 (wS N L2) B W := fun n ro ρ a' w Q hs hQ => by
  have hlen : L.length = L2.length := by simpa using congrArg List.length hl
  have hget : ∀ b, nrm ((wS N L).get b) = nrm ((wS N L2).get b) := fun b => by
    rcases Nat.lt_or_ge b N with c | c
    · rw [wS_low _ _ c, wS_low _ _ c]
    · rw [show b = N + (b - N) from by omega, wS_get, wS_get]
      rcases Nat.lt_or_ge (b - N) L.length with c2 | c2
      · have e1 : (L.map nrm)[b - N]? = (L2.map nrm)[b - N]? := by rw [hl]
        simp only [List.getElem?_map, List.getElem?_eq_getElem c2, List.getElem?_eq_getElem (hlen ▸ c2), Option.map_some, Option.some.injEq] at e1
        simpa [List.getD, List.getElem?_eq_getElem c2, List.getElem?_eq_getElem (show b - N < L2.length by omega)] using e1
      · simp [List.getD, List.getElem?_eq_none c2, List.getElem?_eq_none (show L2.length ≤ b - N by omega)]
  have hhole : ∀ b, (wS N L2).get b ≠ .hole → (wS N L).get b ≠ .hole := fun b hb he => by
    have := hget b
    rw [he] at this
    generalize (wS N L2).get b = o at this hb
    cases o <;> simp [Mini.nrm] at this hb
  refine h n ro ρ a' w Q hs fun ρ2 a2' w2 l2 s2' => hQ ρ2 a2' w2 l2 ⟨s2'.glob, s2'.round, fun b hb => s2'.dom b (by rw [wS_next] at hb ⊢; omega), ⟨fun b hb => ?_, fun b b' M M' h1 h2 hq e1 e2 he => ?_⟩, s2'.ar⟩
  · obtain ⟨M, o', q1, q2, q3⟩ := s2'.rel.1 b (hhole b hb)
    exact ⟨M, o', q1, q2, or_congr (hget b) q3⟩
  · exact s2'.rel.2 b b' M M' (hhole b h1) (hhole b' h2) (by rw [nrm_ro (hget b), nrm_ro (hget b')]; exact hq) e1 e2 he
theorem rows_nrm {n k : Nat} {G G2 : Nat → Nat → Value} {e : TypeId} {opn : Bool} {sz : Nat} {ro : Bool} (h : ∀ i j, i < n → j < k → G i j = G2 i j) : nrm (.rows n k G e opn sz ro) = nrm (.rows n k G2 e opn sz ro) :=
  congrArg (fun l => MObj.cells l e opn sz ro) (rowsL_congrY fun i j hi hj => h i j hi hj)
def pushI (n : Nat) (g : Nat → Nat → Int) (l : List Int) : Nat → Nat → Int := fun i j => if i < n then g i j else l.getD j 0
def setI (g : Nat → Nat → Int) (i k : Nat) (l : List Int) : Nat → Nat → Int := fun a j => if a = i ∧ k ≤ j ∧ j < k + l.length then l.getD (j - k) 0 else g a j
theorem push_told {f : Nat → Option Nat} {n : Nat} {kd : IntKind} {g : Nat → Nat → Int} {v : Int} {i j : Nat} (hi : i < n + 1) (hj : j < 1) : tellV f 8 (pushRow n 1 (fun i j => .int kd (g i j)) [.int kd v] i j) = .int kd (pushI n g [v] i j) := by
  have : j = 0 := by omega
  subst this
  simp only [pushRow, pushI]
  by_cases c : i < n
  · rw [if_pos c, if_pos c]; rfl
  · rw [if_neg c, if_neg c, show i - n = 0 from by omega]; rfl
theorem set_told {f : Nat → Option Nat} {kd : IntKind} {g : Nat → Nat → Int} {v : Int} {a k i j : Nat} : tellV f 8 (setRow (fun i j => .int kd (g i j)) a k [.int kd v] i j) = .int kd (setI g a k [v] i j) := by
  simp only [setRow, setI, List.length_cons, List.length_nil]
  by_cases c : i = a ∧ k ≤ j ∧ j < k + (0 + 1)
  · rw [if_pos c, if_pos c, show j - k = 0 from by omega]; rfl
  · rw [if_neg c, if_neg c]; rfl
theorem toNatO {a : Int} (h : 0 ≤ a) : a = Int.ofNat a.toNat := (Int.toNat_of_nonneg h).symm
theorem toNatC {a : Int} (h : 0 ≤ a) : a = ((a.toNat : Nat) : Int) := (Int.toNat_of_nonneg h).symm
theorem wnextW {i : Nat} (h : (i : Int) < 9223372036854775807) : Value.int .i64 (IntKind.i64.wrap (((i : Nat) : Int) + (1 : Int))) = .int .i64 ((i + 1 : Nat) : Int) := by rw [IntWalk.i64_in _ (by omega)]; rfl
theorem wsub1 {n : Nat} (h : 0 < n) (hn : (n : Int) ≤ 9223372036854775807) : Value.int .i64 (IntKind.i64.wrap (((n : Nat) : Int) - (1 : Int))) = .int .i64 ((n - 1 : Nat) : Int) := by rw [IntWalk.i64_in _ (by omega)]; congr 1; omega
theorem wvs_three {f : Nm} {a b c a2 b2 c2 : Value} (h1 : WV f a a2) (h2 : WV f b b2) (h3 : WV f c c2) : WVs f #[a, b, c] #[a2, b2, c2] := ⟨rfl, fun i v u e1 e2 => by
  match i with
  | 0 => simp at e1 e2; subst e1 e2; exact h1
  | 1 => simp at e1 e2; subst e1 e2; exact h2
  | 2 => simp at e1 e2; subst e1 e2; exact h3
  | i + 3 => simp at e1⟩
def cntF (q : Nat → Bool) : Nat → Nat
  | 0 => 0
  | k + 1 => match q k with
    | true => cntF q k + 1
    | false => cntF q k
def growI (c : Nat) (g : Nat → Nat → Int) (x : Int) : Nat → Nat → Int := match c with
  | 0 => fun i j => ([x] : List Int).getD (i * 1 + j) 0
  | m + 1 => pushI (m + 1) g [x]
def selG (q : Nat → Bool) (v : Nat → Int) : Nat → Nat → Nat → Int
  | 0 => fun _ _ => 0
  | k + 1 => match q k with
    | true => growI (cntF q k) (selG q v k) (v k)
    | false => selG q v k
theorem cntF_le (q : Nat → Bool) : ∀ n, cntF q n ≤ n
  | 0 => Nat.le_refl _
  | n + 1 => by
    have := cntF_le q n
    simp only [cntF]
    split <;> omega
theorem cntF_pos {q : Nat → Bool} {j : Nat} (h : q j = true) : ∀ n, j < n → 0 < cntF q n
  | 0, hj => by omega
  | n + 1, hj => by
    simp only [cntF]
    rcases Nat.lt_or_ge j n with c | c
    · have := cntF_pos h n c
      split <;> omega
    · have : j = n := by omega
      subst this
      rw [h]
      exact Nat.succ_pos _
theorem cntF_yes {q : Nat → Bool} {k : Nat} (h : q k = true) : cntF q (k + 1) = cntF q k + 1 := by simp [cntF, h]
theorem cntF_no {q : Nat → Bool} {k : Nat} (h : q k = false) : cntF q (k + 1) = cntF q k := by simp [cntF, h]
theorem selG_yes {q : Nat → Bool} {v : Nat → Int} {k : Nat} (h : q k = true) : selG q v (k + 1) = growI (cntF q k) (selG q v k) (v k) := by simp [selG, h]
theorem selG_no {q : Nat → Bool} {v : Nat → Int} {k : Nat} (h : q k = false) : selG q v (k + 1) = selG q v k := by simp [selG, h]
def firstI (q : Nat → Bool) : Nat → Nat → Nat
  | 0, i => i
  | m + 1, i => match q i with
    | true => i
    | false => firstI q m (i + 1)
theorem firstI_none {q : Nat → Bool} : ∀ {m i : Nat}, (∀ k, i ≤ k → k < i + m → q k = false) → firstI q m i = i + m
  | 0, i, h => rfl
  | m + 1, i, h => by
    rw [firstI, h i (Nat.le_refl _) (by omega)]
    have := firstI_none (m := m) (i := i + 1) fun k h1 h2 => h k (by omega) (by omega)
    simp only [this]; omega
theorem firstI_some {q : Nat → Bool} : ∀ {m i j : Nat}, i ≤ j → j < i + m → (∀ k, i ≤ k → k < j → q k = false) → q j = true → firstI q m i = j
  | 0, i, j, h1, h2, h, hj => by omega
  | m + 1, i, j, h1, h2, h, hj => by
    rw [firstI]
    rcases Nat.eq_or_lt_of_le h1 with e | e
    · subst e; rw [hj]
    · rw [h i (Nat.le_refl _) e]
      exact firstI_some (by omega) (by omega) (fun k h1 h2 => h k (by omega) h2) hj
theorem first_or {p : Nat → Prop} (hd : ∀ i, Decidable (p i)) : ∀ n : Nat, (∀ i, i < n → ¬ p i) ∨ ∃ j, j < n ∧ p j ∧ ∀ i, i < j → ¬ p i
  | 0 => .inl fun i hi => absurd hi (by omega)
  | n + 1 => by
    rcases first_or hd n with h | ⟨j, h1, h2, h3⟩
    · by_cases c : p n
      · exact .inr ⟨n, by omega, c, h⟩
      · exact .inl fun i hi => by
          rcases Nat.lt_or_ge i n with k | k
          · exact h i k
          · rw [show i = n from by omega]; exact c
    · exact .inr ⟨j, by omega, h2, h3⟩
end Mini
end Go.Proofs.YtecabbbjdnambaaGreatDoor
end
section
set_option linter.all false
set_option maxRecDepth 1000000
open Go.RowKit
namespace Go.Proofs.YtecabbbjdnambaaGreatDoor
open Mini
theorem gsz : Tryz.prog.globals.size = 6 := by kernel_rfl
theorem gfol : Tryz.prog.follows .mixedOrders = true := by kernel_rfl
theorem bl (w : World) : Holds Tryz.prog (noTabs 6) w := gsz ▸ noTabs_holds w

def ixE (a n : Int) : Int := if a < 0 ∨ n ≤ a then 10 else 0

def c_range : Con := ⟨96, [.int .i64, .int .i64, .int .i64], fun ns => match ns with | [n, lo, hi] => .int .i64 (Pl.cr n lo hi) | _ => .bool true, fun ns => match ns with | [n, lo, hi] => True | _ => True⟩
def c_rrange : Con := ⟨20, [.int .i64, .int .i64, .int .i64], fun ns => match ns with | [n, lo, hi] => .int .i64 (Pl.cr n lo hi) | _ => .bool true, fun ns => match ns with | [n, lo, hi] => True | _ => True⟩
def c_index : Con := ⟨103, [.int .i64, .int .i64], fun ns => match ns with | [a, n] => .int .i64 (ixE a n) | _ => .bool true, fun ns => match ns with | [a, n] => True | _ => True⟩
noncomputable def x_range : CallS := kAll []
noncomputable def range_e0 (n lo hi : Int) : Option OutS := evFS Tryz.prog x_range 1000 96 #[.int .i64 n, .int .i64 lo, .int .i64 hi] (noTabs 6) ⟨[1, 1, 1, 0, 1], True⟩
noncomputable def range_e1 (n lo hi : Int) : Option OutS := evFS Tryz.prog x_range 1000 96 #[.int .i64 n, .int .i64 lo, .int .i64 hi] (noTabs 6) ⟨[1, 1, 1, 0, 0], True⟩
noncomputable def range_e2 (n lo hi : Int) : Option OutS := evFS Tryz.prog x_range 1000 96 #[.int .i64 n, .int .i64 lo, .int .i64 hi] (noTabs 6) ⟨[0, 0, 0, 1, 1], True⟩
noncomputable def x_rrange : CallS := kAll []
noncomputable def rrange_e0 (n lo hi : Int) : Option OutS := evFS Tryz.prog x_rrange 1000 20 #[.int .i64 n, .int .i64 lo, .int .i64 hi] (noTabs 6) ⟨[0, 0, 0, 1, 1], True⟩
noncomputable def rrange_e1 (n lo hi : Int) : Option OutS := evFS Tryz.prog x_rrange 1000 20 #[.int .i64 n, .int .i64 lo, .int .i64 hi] (noTabs 6) ⟨[1, 1, 1, 0, 1], True⟩
noncomputable def rrange_e2 (n lo hi : Int) : Option OutS := evFS Tryz.prog x_rrange 1000 20 #[.int .i64 n, .int .i64 lo, .int .i64 hi] (noTabs 6) ⟨[1, 1, 1, 0, 0], True⟩
noncomputable def x_index : CallS := kAll []
noncomputable def index_e0 (a n : Int) : Option OutS := evFS Tryz.prog x_index 1000 103 #[.int .i64 a, .int .i64 n] (noTabs 6) ⟨[1, 1, 1, 0, 1], True⟩
noncomputable def index_e1 (a n : Int) : Option OutS := evFS Tryz.prog x_index 1000 103 #[.int .i64 a, .int .i64 n] (noTabs 6) ⟨[0, 0, 0, 1, 1], True⟩
noncomputable def index_e2 (a n : Int) : Option OutS := evFS Tryz.prog x_index 1000 103 #[.int .i64 a, .int .i64 n] (noTabs 6) ⟨[1, 1, 1, 0, 0], True⟩
end Go.Proofs.YtecabbbjdnambaaGreatDoor
end
section
set_option linter.all false
set_option maxRecDepth 1000000
set_option maxHeartbeats 2000000
open Go.RowKit
namespace Go.Proofs.YtecabbbjdnambaaGreatDoor
open Mini

def range_val (n lo hi : Int) : Value := .int .i64 (Pl.cr n lo hi)
theorem range_X : FOkS Tryz.prog x_range := noXS_ok
theorem range_args (n lo hi : Int) : (#[.int .i64 n, .int .i64 lo, .int .i64 hi] : Array Value).toList.all (ground 8) = true := by kernel_rfl
def range_c0 (n lo hi : Int) : Bool := (decide (n < lo))
def range_c1 (n lo hi : Int) : Bool := (decide (n > hi))
theorem range_g4 : (true = true) := by first | rfl | trivial | decide | omega
def range_w0 (n lo hi : Int) : Value := .int .i64 (3 : Int)
def range_r0 (n lo hi : Int) : Prop := (((((True ∧ (range_c0 n lo hi = false)) ∧ (range_c0 n lo hi = false)) ∧ (range_c0 n lo hi = false)) ∧ (range_c0 n lo hi = false)) ∧ (range_c1 n lo hi = true))
theorem range_o0 (n lo hi : Int) : obOf (range_e0 n lo hi) = range_r0 n lo hi := by kernel_rfl
theorem range_v0 (n lo hi : Int) : resOf (range_e0 n lo hi) = range_w0 n lo hi := by kernel_rfl
theorem range_k0 (n lo hi : Int) : cleanOf Tryz.prog.globals.size (range_e0 n lo hi) = true := by kernel_rfl
theorem range_q0 (n lo hi : Int) : range_e0 n lo hi = evFS Tryz.prog x_range 1000 96 #[.int .i64 n, .int .i64 lo, .int .i64 hi] (noTabs 6) ⟨[1, 1, 1, 0, 1], True⟩ := by
  delta range_e0
  exact Eq.refl _
theorem range_p0 (n lo hi : Int) (h : range_r0 n lo hi) (w : World) : Calls Tryz.prog 96 #[.int .i64 n, .int .i64 lo, .int .i64 hi] w fun en w' => en = .returned (range_w0 n lo hi) ∧ Below w.heap.size w w' := by
  have hv := range_v0 n lo hi
  have hc := range_k0 n lo hi
  have he := range_q0 n lo hi
  have ho := range_o0 n lo hi
  generalize range_e0 n lo hi = r at *
  exact calls_way he gfol range_X hv rfl (range_args n lo hi) hc ho h (bl w)
def range_w1 (n lo hi : Int) : Value := .int .i64 (0 : Int)
def range_r1 (n lo hi : Int) : Prop := (((((True ∧ (range_c0 n lo hi = false)) ∧ (range_c0 n lo hi = false)) ∧ (range_c0 n lo hi = false)) ∧ (range_c0 n lo hi = false)) ∧ (range_c1 n lo hi = false))
theorem range_o1 (n lo hi : Int) : obOf (range_e1 n lo hi) = range_r1 n lo hi := by kernel_rfl
theorem range_v1 (n lo hi : Int) : resOf (range_e1 n lo hi) = range_w1 n lo hi := by kernel_rfl
theorem range_k1 (n lo hi : Int) : cleanOf Tryz.prog.globals.size (range_e1 n lo hi) = true := by kernel_rfl
theorem range_q1 (n lo hi : Int) : range_e1 n lo hi = evFS Tryz.prog x_range 1000 96 #[.int .i64 n, .int .i64 lo, .int .i64 hi] (noTabs 6) ⟨[1, 1, 1, 0, 0], True⟩ := by
  delta range_e1
  exact Eq.refl _
theorem range_p1 (n lo hi : Int) (h : range_r1 n lo hi) (w : World) : Calls Tryz.prog 96 #[.int .i64 n, .int .i64 lo, .int .i64 hi] w fun en w' => en = .returned (range_w1 n lo hi) ∧ Below w.heap.size w w' := by
  have hv := range_v1 n lo hi
  have hc := range_k1 n lo hi
  have he := range_q1 n lo hi
  have ho := range_o1 n lo hi
  generalize range_e1 n lo hi = r at *
  exact calls_way he gfol range_X hv rfl (range_args n lo hi) hc ho h (bl w)
def range_w2 (n lo hi : Int) : Value := .int .i64 (3 : Int)
def range_r2 (n lo hi : Int) : Prop := (((((True ∧ (range_c0 n lo hi = true)) ∧ (range_c0 n lo hi = true)) ∧ (range_c0 n lo hi = true)) ∧ (range_c0 n lo hi = true)) ∧ ((true = true)))
theorem range_o2 (n lo hi : Int) : obOf (range_e2 n lo hi) = range_r2 n lo hi := by kernel_rfl
theorem range_v2 (n lo hi : Int) : resOf (range_e2 n lo hi) = range_w2 n lo hi := by kernel_rfl
theorem range_k2 (n lo hi : Int) : cleanOf Tryz.prog.globals.size (range_e2 n lo hi) = true := by kernel_rfl
theorem range_q2 (n lo hi : Int) : range_e2 n lo hi = evFS Tryz.prog x_range 1000 96 #[.int .i64 n, .int .i64 lo, .int .i64 hi] (noTabs 6) ⟨[0, 0, 0, 1, 1], True⟩ := by
  delta range_e2
  exact Eq.refl _
theorem range_p2 (n lo hi : Int) (h : range_r2 n lo hi) (w : World) : Calls Tryz.prog 96 #[.int .i64 n, .int .i64 lo, .int .i64 hi] w fun en w' => en = .returned (range_w2 n lo hi) ∧ Below w.heap.size w w' := by
  have hv := range_v2 n lo hi
  have hc := range_k2 n lo hi
  have he := range_q2 n lo hi
  have ho := range_o2 n lo hi
  generalize range_e2 n lo hi = r at *
  exact calls_way he gfol range_X hv rfl (range_args n lo hi) hc ho h (bl w)
theorem range_any (n lo hi : Int) (hpre : True) (w : World) : Calls Tryz.prog 96 #[.int .i64 n, .int .i64 lo, .int .i64 hi] w fun en w' => en = .returned (range_val n lo hi) ∧ Below w.heap.size w w' := by
  rcases Bool.eq_false_or_eq_true (range_c0 n lo hi) with h0 | h0
  ·
    unfold range_c0 at h0
    have hp := range_p2 n lo hi ⟨⟨⟨⟨⟨trivial, h0⟩, h0⟩, h0⟩, h0⟩, range_g4⟩ w
    have hv : range_w2 n lo hi = (range_val n lo hi) := by
      clear hp
      unfold range_w2 range_val
      (try simp only [Pl.cr, ixE, decide_eq_true_eq, decide_eq_false_iff_not] at *)
      first | rfl | grind
    exact hv ▸ hp
  ·
    unfold range_c0 at h0
    rcases Bool.eq_false_or_eq_true (range_c1 n lo hi) with h1 | h1
    ·
      unfold range_c1 at h1
      have hp := range_p0 n lo hi ⟨⟨⟨⟨⟨trivial, h0⟩, h0⟩, h0⟩, h0⟩, h1⟩ w
      have hv : range_w0 n lo hi = (range_val n lo hi) := by
        clear hp
        unfold range_w0 range_val
        (try simp only [Pl.cr, ixE, decide_eq_true_eq, decide_eq_false_iff_not] at *)
        first | rfl | grind
      exact hv ▸ hp
    ·
      unfold range_c1 at h1
      have hp := range_p1 n lo hi ⟨⟨⟨⟨⟨trivial, h0⟩, h0⟩, h0⟩, h0⟩, h1⟩ w
      have hv : range_w1 n lo hi = (range_val n lo hi) := by
        clear hp
        unfold range_w1 range_val
        (try simp only [Pl.cr, ixE, decide_eq_true_eq, decide_eq_false_iff_not] at *)
        first | rfl | grind
      exact hv ▸ hp
theorem k_range : ConOk Tryz.prog c_range := fun ns hl => by
  have hl0 : ns.length = 3 := hl
  clear hl
  obtain ⟨n, ns0, rfl, hl1⟩ := len_cons hl0
  obtain ⟨lo, ns1, rfl, hl2⟩ := len_cons hl1
  obtain ⟨hi, ns2, rfl, hl3⟩ := len_cons hl2
  obtain rfl := len_nil hl3
  exact ⟨rfl, fun h w => range_any n lo hi h w⟩
end Go.Proofs.YtecabbbjdnambaaGreatDoor
end
section
set_option linter.all false
set_option maxRecDepth 1000000
set_option maxHeartbeats 2000000
open Go.RowKit
namespace Go.Proofs.YtecabbbjdnambaaGreatDoor
open Mini

def rrange_val (n lo hi : Int) : Value := .int .i64 (Pl.cr n lo hi)
theorem rrange_X : FOkS Tryz.prog x_rrange := noXS_ok
theorem rrange_args (n lo hi : Int) : (#[.int .i64 n, .int .i64 lo, .int .i64 hi] : Array Value).toList.all (ground 8) = true := by kernel_rfl
def rrange_c0 (n lo hi : Int) : Bool := (decide (n < lo))
theorem rrange_g1 : (true = true) := by first | rfl | trivial | decide | omega
def rrange_c1 (n lo hi : Int) : Bool := (decide (n > hi))
def rrange_w0 (n lo hi : Int) : Value := .int .i64 (3 : Int)
def rrange_r0 (n lo hi : Int) : Prop := (((((True ∧ (rrange_c0 n lo hi = true)) ∧ (rrange_c0 n lo hi = true)) ∧ (rrange_c0 n lo hi = true)) ∧ (rrange_c0 n lo hi = true)) ∧ ((true = true)))
theorem rrange_o0 (n lo hi : Int) : obOf (rrange_e0 n lo hi) = rrange_r0 n lo hi := by kernel_rfl
theorem rrange_v0 (n lo hi : Int) : resOf (rrange_e0 n lo hi) = rrange_w0 n lo hi := by kernel_rfl
theorem rrange_k0 (n lo hi : Int) : cleanOf Tryz.prog.globals.size (rrange_e0 n lo hi) = true := by kernel_rfl
theorem rrange_q0 (n lo hi : Int) : rrange_e0 n lo hi = evFS Tryz.prog x_rrange 1000 20 #[.int .i64 n, .int .i64 lo, .int .i64 hi] (noTabs 6) ⟨[0, 0, 0, 1, 1], True⟩ := by
  delta rrange_e0
  exact Eq.refl _
theorem rrange_p0 (n lo hi : Int) (h : rrange_r0 n lo hi) (w : World) : Calls Tryz.prog 20 #[.int .i64 n, .int .i64 lo, .int .i64 hi] w fun en w' => en = .returned (rrange_w0 n lo hi) ∧ Below w.heap.size w w' := by
  have hv := rrange_v0 n lo hi
  have hc := rrange_k0 n lo hi
  have he := rrange_q0 n lo hi
  have ho := rrange_o0 n lo hi
  generalize rrange_e0 n lo hi = r at *
  exact calls_way he gfol rrange_X hv rfl (rrange_args n lo hi) hc ho h (bl w)
def rrange_w1 (n lo hi : Int) : Value := .int .i64 (3 : Int)
def rrange_r1 (n lo hi : Int) : Prop := (((((True ∧ (rrange_c0 n lo hi = false)) ∧ (rrange_c0 n lo hi = false)) ∧ (rrange_c0 n lo hi = false)) ∧ (rrange_c0 n lo hi = false)) ∧ (rrange_c1 n lo hi = true))
theorem rrange_o1 (n lo hi : Int) : obOf (rrange_e1 n lo hi) = rrange_r1 n lo hi := by kernel_rfl
theorem rrange_v1 (n lo hi : Int) : resOf (rrange_e1 n lo hi) = rrange_w1 n lo hi := by kernel_rfl
theorem rrange_k1 (n lo hi : Int) : cleanOf Tryz.prog.globals.size (rrange_e1 n lo hi) = true := by kernel_rfl
theorem rrange_q1 (n lo hi : Int) : rrange_e1 n lo hi = evFS Tryz.prog x_rrange 1000 20 #[.int .i64 n, .int .i64 lo, .int .i64 hi] (noTabs 6) ⟨[1, 1, 1, 0, 1], True⟩ := by
  delta rrange_e1
  exact Eq.refl _
theorem rrange_p1 (n lo hi : Int) (h : rrange_r1 n lo hi) (w : World) : Calls Tryz.prog 20 #[.int .i64 n, .int .i64 lo, .int .i64 hi] w fun en w' => en = .returned (rrange_w1 n lo hi) ∧ Below w.heap.size w w' := by
  have hv := rrange_v1 n lo hi
  have hc := rrange_k1 n lo hi
  have he := rrange_q1 n lo hi
  have ho := rrange_o1 n lo hi
  generalize rrange_e1 n lo hi = r at *
  exact calls_way he gfol rrange_X hv rfl (rrange_args n lo hi) hc ho h (bl w)
def rrange_w2 (n lo hi : Int) : Value := .int .i64 (0 : Int)
def rrange_r2 (n lo hi : Int) : Prop := (((((True ∧ (rrange_c0 n lo hi = false)) ∧ (rrange_c0 n lo hi = false)) ∧ (rrange_c0 n lo hi = false)) ∧ (rrange_c0 n lo hi = false)) ∧ (rrange_c1 n lo hi = false))
theorem rrange_o2 (n lo hi : Int) : obOf (rrange_e2 n lo hi) = rrange_r2 n lo hi := by kernel_rfl
theorem rrange_v2 (n lo hi : Int) : resOf (rrange_e2 n lo hi) = rrange_w2 n lo hi := by kernel_rfl
theorem rrange_k2 (n lo hi : Int) : cleanOf Tryz.prog.globals.size (rrange_e2 n lo hi) = true := by kernel_rfl
theorem rrange_q2 (n lo hi : Int) : rrange_e2 n lo hi = evFS Tryz.prog x_rrange 1000 20 #[.int .i64 n, .int .i64 lo, .int .i64 hi] (noTabs 6) ⟨[1, 1, 1, 0, 0], True⟩ := by
  delta rrange_e2
  exact Eq.refl _
theorem rrange_p2 (n lo hi : Int) (h : rrange_r2 n lo hi) (w : World) : Calls Tryz.prog 20 #[.int .i64 n, .int .i64 lo, .int .i64 hi] w fun en w' => en = .returned (rrange_w2 n lo hi) ∧ Below w.heap.size w w' := by
  have hv := rrange_v2 n lo hi
  have hc := rrange_k2 n lo hi
  have he := rrange_q2 n lo hi
  have ho := rrange_o2 n lo hi
  generalize rrange_e2 n lo hi = r at *
  exact calls_way he gfol rrange_X hv rfl (rrange_args n lo hi) hc ho h (bl w)
theorem rrange_any (n lo hi : Int) (hpre : True) (w : World) : Calls Tryz.prog 20 #[.int .i64 n, .int .i64 lo, .int .i64 hi] w fun en w' => en = .returned (rrange_val n lo hi) ∧ Below w.heap.size w w' := by
  rcases Bool.eq_false_or_eq_true (rrange_c0 n lo hi) with h0 | h0
  ·
    unfold rrange_c0 at h0
    have hp := rrange_p0 n lo hi ⟨⟨⟨⟨⟨trivial, h0⟩, h0⟩, h0⟩, h0⟩, rrange_g1⟩ w
    have hv : rrange_w0 n lo hi = (rrange_val n lo hi) := by
      clear hp
      unfold rrange_w0 rrange_val
      (try simp only [Pl.cr, ixE, decide_eq_true_eq, decide_eq_false_iff_not] at *)
      first | rfl | grind
    exact hv ▸ hp
  ·
    unfold rrange_c0 at h0
    rcases Bool.eq_false_or_eq_true (rrange_c1 n lo hi) with h1 | h1
    ·
      unfold rrange_c1 at h1
      have hp := rrange_p1 n lo hi ⟨⟨⟨⟨⟨trivial, h0⟩, h0⟩, h0⟩, h0⟩, h1⟩ w
      have hv : rrange_w1 n lo hi = (rrange_val n lo hi) := by
        clear hp
        unfold rrange_w1 rrange_val
        (try simp only [Pl.cr, ixE, decide_eq_true_eq, decide_eq_false_iff_not] at *)
        first | rfl | grind
      exact hv ▸ hp
    ·
      unfold rrange_c1 at h1
      have hp := rrange_p2 n lo hi ⟨⟨⟨⟨⟨trivial, h0⟩, h0⟩, h0⟩, h0⟩, h1⟩ w
      have hv : rrange_w2 n lo hi = (rrange_val n lo hi) := by
        clear hp
        unfold rrange_w2 rrange_val
        (try simp only [Pl.cr, ixE, decide_eq_true_eq, decide_eq_false_iff_not] at *)
        first | rfl | grind
      exact hv ▸ hp
theorem k_rrange : ConOk Tryz.prog c_rrange := fun ns hl => by
  have hl0 : ns.length = 3 := hl
  clear hl
  obtain ⟨n, ns0, rfl, hl1⟩ := len_cons hl0
  obtain ⟨lo, ns1, rfl, hl2⟩ := len_cons hl1
  obtain ⟨hi, ns2, rfl, hl3⟩ := len_cons hl2
  obtain rfl := len_nil hl3
  exact ⟨rfl, fun h w => rrange_any n lo hi h w⟩
end Go.Proofs.YtecabbbjdnambaaGreatDoor
end
section
set_option linter.all false
set_option maxRecDepth 1000000
set_option maxHeartbeats 2000000
open Go.RowKit
namespace Go.Proofs.YtecabbbjdnambaaGreatDoor
open Mini

def index_val (a n : Int) : Value := .int .i64 (ixE a n)
theorem index_X : FOkS Tryz.prog x_index := noXS_ok
theorem index_args (a n : Int) : (#[.int .i64 a, .int .i64 n] : Array Value).toList.all (ground 8) = true := by kernel_rfl
def index_c0 (a n : Int) : Bool := (decide (a < (0 : Int)))
def index_c1 (a n : Int) : Bool := (decide (a ≥ n))
theorem index_g3 : (true = true) := by first | rfl | trivial | decide | omega
def index_w0 (a n : Int) : Value := .int .i64 (10 : Int)
def index_r0 (a n : Int) : Prop := (((((True ∧ (index_c0 a n = false)) ∧ (index_c0 a n = false)) ∧ (index_c0 a n = false)) ∧ (index_c0 a n = false)) ∧ (index_c1 a n = true))
theorem index_o0 (a n : Int) : obOf (index_e0 a n) = index_r0 a n := by kernel_rfl
theorem index_v0 (a n : Int) : resOf (index_e0 a n) = index_w0 a n := by kernel_rfl
theorem index_k0 (a n : Int) : cleanOf Tryz.prog.globals.size (index_e0 a n) = true := by kernel_rfl
theorem index_q0 (a n : Int) : index_e0 a n = evFS Tryz.prog x_index 1000 103 #[.int .i64 a, .int .i64 n] (noTabs 6) ⟨[1, 1, 1, 0, 1], True⟩ := by
  delta index_e0
  exact Eq.refl _
theorem index_p0 (a n : Int) (h : index_r0 a n) (w : World) : Calls Tryz.prog 103 #[.int .i64 a, .int .i64 n] w fun en w' => en = .returned (index_w0 a n) ∧ Below w.heap.size w w' := by
  have hv := index_v0 a n
  have hc := index_k0 a n
  have he := index_q0 a n
  have ho := index_o0 a n
  generalize index_e0 a n = r at *
  exact calls_way he gfol index_X hv rfl (index_args a n) hc ho h (bl w)
def index_w1 (a n : Int) : Value := .int .i64 (10 : Int)
def index_r1 (a n : Int) : Prop := (((((True ∧ (index_c0 a n = true)) ∧ (index_c0 a n = true)) ∧ (index_c0 a n = true)) ∧ (index_c0 a n = true)) ∧ ((true = true)))
theorem index_o1 (a n : Int) : obOf (index_e1 a n) = index_r1 a n := by kernel_rfl
theorem index_v1 (a n : Int) : resOf (index_e1 a n) = index_w1 a n := by kernel_rfl
theorem index_k1 (a n : Int) : cleanOf Tryz.prog.globals.size (index_e1 a n) = true := by kernel_rfl
theorem index_q1 (a n : Int) : index_e1 a n = evFS Tryz.prog x_index 1000 103 #[.int .i64 a, .int .i64 n] (noTabs 6) ⟨[0, 0, 0, 1, 1], True⟩ := by
  delta index_e1
  exact Eq.refl _
theorem index_p1 (a n : Int) (h : index_r1 a n) (w : World) : Calls Tryz.prog 103 #[.int .i64 a, .int .i64 n] w fun en w' => en = .returned (index_w1 a n) ∧ Below w.heap.size w w' := by
  have hv := index_v1 a n
  have hc := index_k1 a n
  have he := index_q1 a n
  have ho := index_o1 a n
  generalize index_e1 a n = r at *
  exact calls_way he gfol index_X hv rfl (index_args a n) hc ho h (bl w)
def index_w2 (a n : Int) : Value := .int .i64 (0 : Int)
def index_r2 (a n : Int) : Prop := (((((True ∧ (index_c0 a n = false)) ∧ (index_c0 a n = false)) ∧ (index_c0 a n = false)) ∧ (index_c0 a n = false)) ∧ (index_c1 a n = false))
theorem index_o2 (a n : Int) : obOf (index_e2 a n) = index_r2 a n := by kernel_rfl
theorem index_v2 (a n : Int) : resOf (index_e2 a n) = index_w2 a n := by kernel_rfl
theorem index_k2 (a n : Int) : cleanOf Tryz.prog.globals.size (index_e2 a n) = true := by kernel_rfl
theorem index_q2 (a n : Int) : index_e2 a n = evFS Tryz.prog x_index 1000 103 #[.int .i64 a, .int .i64 n] (noTabs 6) ⟨[1, 1, 1, 0, 0], True⟩ := by
  delta index_e2
  exact Eq.refl _
theorem index_p2 (a n : Int) (h : index_r2 a n) (w : World) : Calls Tryz.prog 103 #[.int .i64 a, .int .i64 n] w fun en w' => en = .returned (index_w2 a n) ∧ Below w.heap.size w w' := by
  have hv := index_v2 a n
  have hc := index_k2 a n
  have he := index_q2 a n
  have ho := index_o2 a n
  generalize index_e2 a n = r at *
  exact calls_way he gfol index_X hv rfl (index_args a n) hc ho h (bl w)
theorem index_any (a n : Int) (hpre : True) (w : World) : Calls Tryz.prog 103 #[.int .i64 a, .int .i64 n] w fun en w' => en = .returned (index_val a n) ∧ Below w.heap.size w w' := by
  rcases Bool.eq_false_or_eq_true (index_c0 a n) with h0 | h0
  ·
    unfold index_c0 at h0
    have hp := index_p1 a n ⟨⟨⟨⟨⟨trivial, h0⟩, h0⟩, h0⟩, h0⟩, index_g3⟩ w
    have hv : index_w1 a n = (index_val a n) := by
      clear hp
      unfold index_w1 index_val
      (try simp only [Pl.cr, ixE, decide_eq_true_eq, decide_eq_false_iff_not] at *)
      first | rfl | grind
    exact hv ▸ hp
  ·
    unfold index_c0 at h0
    rcases Bool.eq_false_or_eq_true (index_c1 a n) with h1 | h1
    ·
      unfold index_c1 at h1
      have hp := index_p0 a n ⟨⟨⟨⟨⟨trivial, h0⟩, h0⟩, h0⟩, h0⟩, h1⟩ w
      have hv : index_w0 a n = (index_val a n) := by
        clear hp
        unfold index_w0 index_val
        (try simp only [Pl.cr, ixE, decide_eq_true_eq, decide_eq_false_iff_not] at *)
        first | rfl | grind
      exact hv ▸ hp
    ·
      unfold index_c1 at h1
      have hp := index_p2 a n ⟨⟨⟨⟨⟨trivial, h0⟩, h0⟩, h0⟩, h0⟩, h1⟩ w
      have hv : index_w2 a n = (index_val a n) := by
        clear hp
        unfold index_w2 index_val
        (try simp only [Pl.cr, ixE, decide_eq_true_eq, decide_eq_false_iff_not] at *)
        first | rfl | grind
      exact hv ▸ hp
theorem k_index : ConOk Tryz.prog c_index := fun ns hl => by
  have hl0 : ns.length = 2 := hl
  clear hl
  obtain ⟨a, ns0, rfl, hl1⟩ := len_cons hl0
  obtain ⟨n, ns1, rfl, hl2⟩ := len_cons hl1
  obtain rfl := len_nil hl2
  exact ⟨rfl, fun h w => index_any a n h w⟩
end Go.Proofs.YtecabbbjdnambaaGreatDoor
end
section
set_option linter.all false
set_option maxRecDepth 1000000
open Go.RowKit
namespace Go.Proofs.YtecabbbjdnambaaGreatDoor
open Mini
noncomputable def ceX : Code := loopAt Tryz.prog 115 0
noncomputable def ceK : CallS := kAll [c_range, c_rrange, c_index]
def ceA (n : Nat) (c : Nat) (g : Nat → Nat → Int) (e : TypeId) (opn : Bool) (sz : Nat) (ro : Bool) (i10 : Nat) : MA := MA.ofL 21 [.chan none, .func (.func 105) #[] #[.pointer (some ⟨7, 0, none⟩)], .chan none, .chan none, .chan none, .chan none, .chan none, .chan none, .slice (some ⟨6, 0, none⟩) n c, .int .i64 ((n : Nat) : Int), .int .i64 ((i10 : Nat) : Int), .chan none, .chan none, .chan none, .chan none, .chan none, .chan none, .chan none, .chan none, .chan none, .chan none] []
def ceL (n : Nat) (c : Nat) (g : Nat → Nat → Int) (e : TypeId) (opn : Bool) (sz : Nat) (ro : Bool) (i10 : Nat) : List MObj := [.rows n 1 (fun i j => .int .i64 (g i j)) e opn sz ro, .cells [.slice (some ⟨6, 0, none⟩) n c] 94 false 0 false]
noncomputable def cer0 (n : Nat) (c : Nat) (g : Nat → Nat → Int) (e : TypeId) (opn : Bool) (sz : Nat) (ro : Bool) (i10 : Nat) : Option OutCS := evK Tryz.prog ceK 1000 false ceX (ceA n c g e opn sz ro i10) (wS 6 (ceL n c g e opn sz ro i10)) ⟨[1, .row i10 0, .row i10 0, .azz (.int .i64 (Pl.cr (g i10 0) (0 : Int) (((n - 1) : Nat) : Int))), .azz (.int .i64 ((n : Nat) : Int)), .azz (.int .i64 (((n - 1) : Nat) : Int)), 0, .azz (.int .i64 ((i10 + 1 : Nat) : Int))], True⟩
noncomputable def cer1 (n : Nat) (c : Nat) (g : Nat → Nat → Int) (e : TypeId) (opn : Bool) (sz : Nat) (ro : Bool) (i10 : Nat) : Option OutCS := evK Tryz.prog ceK 1000 false ceX (ceA n c g e opn sz ro i10) (wS 6 (ceL n c g e opn sz ro i10)) ⟨[1, .row i10 0, .row i10 0, .azz (.int .i64 (Pl.cr (g i10 0) (0 : Int) (((n - 1) : Nat) : Int))), .azz (.int .i64 ((n : Nat) : Int)), .azz (.int .i64 (((n - 1) : Nat) : Int)), 1], True⟩
def cer1E (n : Nat) (c : Nat) (g : Nat → Nat → Int) (e : TypeId) (opn : Bool) (sz : Nat) (ro : Bool) (i10 : Nat) : MA := MA.ofL 21 [.chan none, .chan none, .chan none, .chan none, .int .i64 (Pl.cr (g i10 0) (0 : Int) (((n - 1) : Nat) : Int)), .chan none, .chan none, .chan none, .chan none, .chan none, .chan none, .chan none, .chan none, .chan none, .chan none, .chan none, .chan none, .chan none, .chan none, .chan none, .chan none] []
noncomputable def cer2 (n : Nat) (c : Nat) (g : Nat → Nat → Int) (e : TypeId) (opn : Bool) (sz : Nat) (ro : Bool) (i10 : Nat) : Option OutCS := evK Tryz.prog ceK 1000 false ceX (ceA n c g e opn sz ro i10) (wS 6 (ceL n c g e opn sz ro i10)) ⟨[0], True⟩
def cer2E (n : Nat) (c : Nat) (g : Nat → Nat → Int) (e : TypeId) (opn : Bool) (sz : Nat) (ro : Bool) (i10 : Nat) : MA := MA.ofL 21 [.chan none, .chan none, .chan none, .chan none, .chan none, .chan none, .chan none, .chan none, .chan none, .chan none, .chan none, .chan none, .chan none, .chan none, .chan none, .chan none, .chan none, .chan none, .chan none, .chan none, .chan none] []
def ceArgs (n : Nat) (c : Nat) (g : Nat → Nat → Int) (e : TypeId) (opn : Bool) (sz : Nat) (ro : Bool) : Array Value := #[.slice (some ⟨6, 0, none⟩) n c]
def ceS (n : Nat) (c : Nat) (g : Nat → Nat → Int) (e : TypeId) (opn : Bool) (sz : Nat) (ro : Bool) : List MObj := [.rows n 1 (fun i j => .int .i64 (g i j)) e opn sz ro]
noncomputable def cef0 (n : Nat) (c : Nat) (g : Nat → Nat → Int) (e : TypeId) (opn : Bool) (sz : Nat) (ro : Bool) : Option OutCS := evK Tryz.prog ceK 1000 false (bodyOf Tryz.prog 60) (startM Tryz.f60 (ceArgs n c g e opn sz ro)) (wS 6 (ceS n c g e opn sz ro)) ⟨[1], True⟩
noncomputable def cef1 (n : Nat) (c : Nat) (g : Nat → Nat → Int) (e : TypeId) (opn : Bool) (sz : Nat) (ro : Bool) : Option OutCS := evK Tryz.prog ceK 1000 false (bodyOf Tryz.prog 60) (startM Tryz.f60 (ceArgs n c g e opn sz ro)) (wS 6 (ceS n c g e opn sz ro)) ⟨[0, 1], True⟩
noncomputable def cef2 (n : Nat) (c : Nat) (g : Nat → Nat → Int) (e : TypeId) (opn : Bool) (sz : Nat) (ro : Bool) (jj : Nat) : Option OutCS := evK Tryz.prog ceK 1000 false (bodyOf Tryz.prog 60) (startM Tryz.f60 (ceArgs n c g e opn sz ro)) (wS 6 (ceS n c g e opn sz ro)) ⟨[0, 0, .lp 1794 (ceA n c g e opn sz ro 0) 6 (ceL n c g e opn sz ro 0) .ret (cer1E n c g e opn sz ro jj) (ceL n c g e opn sz ro 0) 192 0], True⟩
noncomputable def cef3 (n : Nat) (c : Nat) (g : Nat → Nat → Int) (e : TypeId) (opn : Bool) (sz : Nat) (ro : Bool) : Option OutCS := evK Tryz.prog ceK 1000 false (bodyOf Tryz.prog 60) (startM Tryz.f60 (ceArgs n c g e opn sz ro)) (wS 6 (ceS n c g e opn sz ro)) ⟨[0, 0, .lp 1794 (ceA n c g e opn sz ro 0) 6 (ceL n c g e opn sz ro 0) (.exit 0) (cer2E n c g e opn sz ro n) (ceL n c g e opn sz ro 0) 192 0], True⟩
theorem ceK_ok : FOkS Tryz.prog ceK := kAll_ok _ ⟨k_range, k_rrange, k_index, trivial⟩
theorem cer0_eq (n : Nat) (c : Nat) (g : Nat → Nat → Int) (e : TypeId) (opn : Bool) (sz : Nat) (ro : Bool) (i10 : Nat) : seenK 6 2 [] 1794 0 (cer0 n c g e opn sz ro i10) = some (.normal, ceA n c g e opn sz ro (i10 + 1), [.rows n 1 (fun i j => .int .i64 (g i j)) e opn sz ro, .cells [.slice (some ⟨6, 0, none⟩) n c] 94 false 0 false], 0, ⟨[], (((((((((True ∧ ((decide ((((i10 : Nat)) : Int) < (((n : Nat)) : Int))) = true)) ∧ (((((i10 : Nat)) : Int) = (Int.ofNat i10)) ∧ (i10 < n))) ∧ (((0 + (i10 * 1)) = ((i10 * 1) + 0)) ∧ (i10 < n))) ∧ (((.int .i64 (((n : Nat)) : Int)) : Value) = (.int .i64 (((n : Nat)) : Int)))) ∧ (((.int .i64 (IntKind.i64.wrap ((((n : Nat)) : Int) - (1 : Int)))) : Value) = (.int .i64 ((((n - 1) : Nat)) : Int)))) ∧ True) ∧ (((.int .i64 (Pl.cr (g i10 0) (0 : Int) ((((n - 1) : Nat)) : Int))) : Value) = (.int .i64 (Pl.cr (g i10 0) (0 : Int) ((((n - 1) : Nat)) : Int))))) ∧ (((Pl.cr (g i10 0) (0 : Int) ((((n - 1) : Nat)) : Int)) != (0 : Int)) = false)) ∧ (((.int .i64 (IntKind.i64.wrap ((((i10 : Nat)) : Int) + (1 : Int)))) : Value) = (.int .i64 ((((i10 + 1) : Nat)) : Int))))⟩) := by kernel_rfl
theorem cer0_k (n : Nat) (c : Nat) (g : Nat → Nat → Int) (e : TypeId) (opn : Bool) (sz : Nat) (ro : Bool) (i10 : Nat) (hx : 0 < n ∧ (n : Int) ≤ 9223372036854775807) (h0 : ((i10 : Nat) : Int) < ((n : Nat) : Int)) (h1 : (Pl.cr (g i10 0) (0 : Int) (((n - 1) : Nat) : Int)) = (0 : Int)) : KC Tryz.prog none ceX (ceA n c g e opn sz ro i10).act (wS 6 (ceL n c g e opn sz ro i10)) .normal (ceA n c g e opn sz ro (i10 + 1)).act (wS 6 (ceL n c g e opn sz ro (i10 + 1))) 8 0 := by
  refine seenK_ok smx ceK_ok sng (cer0_eq n c g e opn sz ro i10) ?_
  · skip
    repeat' (first | (with_reducible assumption) | exact (fun _ _ _ _ => rfl) | apply And.intro)
    all_goals first | trivial | rfl | assumption | exact decide_eq_true (by omega) | exact decide_eq_false (by omega) | exact bne_iff_ne.2 (by assumption) | exact bne_eq_false_iff_eq.2 (by assumption) | exact beq_iff_eq.2 (by assumption) | exact beq_eq_false_iff_ne.2 (by assumption) | exact wnextW (by omega) | exact wsub1 (by omega) (by omega) | exact toNatO (by omega) | exact congrArg Bool.not (by assumption) | omega
theorem cer1_eq (n : Nat) (c : Nat) (g : Nat → Nat → Int) (e : TypeId) (opn : Bool) (sz : Nat) (ro : Bool) (i10 : Nat) : seenK 6 2 [] 16 0 (cer1 n c g e opn sz ro i10) = some (.ret, cer1E n c g e opn sz ro i10, [.rows n 1 (fun i j => .int .i64 (g i j)) e opn sz ro, .cells [.slice (some ⟨6, 0, none⟩) n c] 94 false 0 false], 0, ⟨[], ((((((((True ∧ ((decide ((((i10 : Nat)) : Int) < (((n : Nat)) : Int))) = true)) ∧ (((((i10 : Nat)) : Int) = (Int.ofNat i10)) ∧ (i10 < n))) ∧ (((0 + (i10 * 1)) = ((i10 * 1) + 0)) ∧ (i10 < n))) ∧ (((.int .i64 (((n : Nat)) : Int)) : Value) = (.int .i64 (((n : Nat)) : Int)))) ∧ (((.int .i64 (IntKind.i64.wrap ((((n : Nat)) : Int) - (1 : Int)))) : Value) = (.int .i64 ((((n - 1) : Nat)) : Int)))) ∧ True) ∧ (((.int .i64 (Pl.cr (g i10 0) (0 : Int) ((((n - 1) : Nat)) : Int))) : Value) = (.int .i64 (Pl.cr (g i10 0) (0 : Int) ((((n - 1) : Nat)) : Int))))) ∧ (((Pl.cr (g i10 0) (0 : Int) ((((n - 1) : Nat)) : Int)) != (0 : Int)) = true))⟩) := by kernel_rfl
theorem cer1_k (n : Nat) (c : Nat) (g : Nat → Nat → Int) (e : TypeId) (opn : Bool) (sz : Nat) (ro : Bool) (i10 : Nat) (hx : 0 < n ∧ (n : Int) ≤ 9223372036854775807) (h0 : ((i10 : Nat) : Int) < ((n : Nat) : Int)) (h1 : (Pl.cr (g i10 0) (0 : Int) (((n - 1) : Nat) : Int)) ≠ (0 : Int)) : KC Tryz.prog none ceX (ceA n c g e opn sz ro i10).act (wS 6 (ceL n c g e opn sz ro i10)) .ret (cer1E n c g e opn sz ro i10).act (wS 6 [.rows n 1 (fun i j => .int .i64 (g i j)) e opn sz ro, .cells [.slice (some ⟨6, 0, none⟩) n c] 94 false 0 false]) 8 0 := by
  refine seenK_ok smx ceK_ok sng (cer1_eq n c g e opn sz ro i10) ?_
  · skip
    repeat' (first | (with_reducible assumption) | exact (fun _ _ _ _ => rfl) | apply And.intro)
    all_goals first | trivial | rfl | assumption | exact decide_eq_true (by omega) | exact decide_eq_false (by omega) | exact bne_iff_ne.2 (by assumption) | exact bne_eq_false_iff_eq.2 (by assumption) | exact beq_iff_eq.2 (by assumption) | exact beq_eq_false_iff_ne.2 (by assumption) | exact wnextW (by omega) | exact wsub1 (by omega) (by omega) | exact toNatO (by omega) | exact congrArg Bool.not (by assumption) | omega
theorem cer2_eq (n : Nat) (c : Nat) (g : Nat → Nat → Int) (e : TypeId) (opn : Bool) (sz : Nat) (ro : Bool) (i10 : Nat) : seenK 6 2 [] 0 0 (cer2 n c g e opn sz ro i10) = some ((.exit 0), cer2E n c g e opn sz ro i10, [.rows n 1 (fun i j => .int .i64 (g i j)) e opn sz ro, .cells [.slice (some ⟨6, 0, none⟩) n c] 94 false 0 false], 0, ⟨[], (True ∧ ((decide ((((i10 : Nat)) : Int) < (((n : Nat)) : Int))) = false))⟩) := by kernel_rfl
theorem cer2_k (n : Nat) (c : Nat) (g : Nat → Nat → Int) (e : TypeId) (opn : Bool) (sz : Nat) (ro : Bool) (i10 : Nat) (hx : 0 < n ∧ (n : Int) ≤ 9223372036854775807) (h0 : ¬ ((i10 : Nat) : Int) < ((n : Nat) : Int)) : KC Tryz.prog none ceX (ceA n c g e opn sz ro i10).act (wS 6 (ceL n c g e opn sz ro i10)) (.exit 0) (cer2E n c g e opn sz ro i10).act (wS 6 [.rows n 1 (fun i j => .int .i64 (g i j)) e opn sz ro, .cells [.slice (some ⟨6, 0, none⟩) n c] 94 false 0 false]) 8 0 := by
  refine seenK_ok smx ceK_ok sng (cer2_eq n c g e opn sz ro i10) ?_
  · skip
    repeat' (first | (with_reducible assumption) | exact (fun _ _ _ _ => rfl) | apply And.intro)
    all_goals first | trivial | rfl | assumption | exact decide_eq_true (by omega) | exact decide_eq_false (by omega) | exact bne_iff_ne.2 (by assumption) | exact bne_eq_false_iff_eq.2 (by assumption) | exact beq_iff_eq.2 (by assumption) | exact beq_eq_false_iff_ne.2 (by assumption) | exact wnextW (by omega) | exact wsub1 (by omega) (by omega) | exact toNatO (by omega) | exact congrArg Bool.not (by assumption) | omega
theorem ce_ret (n : Nat) (c : Nat) (g : Nat → Nat → Int) (e : TypeId) (opn : Bool) (sz : Nat) (ro : Bool) (jj : Nat) (hx : 0 < n ∧ (n : Int) ≤ 9223372036854775807) (hj : jj < n) (h1 : ∀ i, i < jj → (Pl.cr (g i 0) (0 : Int) ((n - 1 : Nat) : Int)) = 0) (h2 : (Pl.cr (g jj 0) (0 : Int) ((n - 1 : Nat) : Int)) ≠ 0) : KC Tryz.prog none (.loop ceX) (ceA n c g e opn sz ro 0).act (wS 6 (ceL n c g e opn sz ro 0)) .ret (cer1E n c g e opn sz ro jj).act (wS 6 [.rows n 1 (fun i j => .int .i64 (g i j)) e opn sz ro, .cells [.slice (some ⟨6, 0, none⟩) n c] 94 false 0 false]) 8 0 := by
  exact K_rounds (A := fun i => (ceA n c g e opn sz ro i).act) (S := fun i => wS 6 (ceL n c g e opn sz ro i)) (jj) (fun i hi => cer0_k n c g e opn sz ro i hx (by omega) (h1 i hi)) (cer1_k n c g e opn sz ro jj hx (by omega) h2) (by simp)
theorem ce_ret_s (n : Nat) (c : Nat) (g : Nat → Nat → Int) (e : TypeId) (opn : Bool) (sz : Nat) (ro : Bool) (jj : Nat) (hx : 0 < n ∧ (n : Int) ≤ 9223372036854775807) (hj : jj < n) (h1 : ∀ i, i < jj → (Pl.cr (g i 0) (0 : Int) ((n - 1 : Nat) : Int)) = 0) (h2 : (Pl.cr (g jj 0) (0 : Int) ((n - 1 : Nat) : Int)) ≠ 0) : SndC Tryz.prog none (.loop ceX) (ceA n c g e opn sz ro 0).act (wS 6 (ceL n c g e opn sz ro 0)) .ret (cer1E n c g e opn sz ro jj).act (wS 6 (ceL n c g e opn sz ro 0)) 192 0 :=
  KT.snd (a := ceA n c g e opn sz ro 0) (a2 := cer1E n c g e opn sz ro jj) (L := ceL n c g e opn sz ro 0) (ce_ret n c g e opn sz ro jj hx hj h1 h2) sng (Nat.le_refl _) (fun b _ => by simp) rfl rfl (by kernel_rfl) (by kernel_rfl) (fun o ho => by
    simp only [ceL, List.mem_cons, List.not_mem_nil, or_false] at ho
    rcases ho with rfl | rfl
    all_goals first | rfl | exact fun i j => rfl)
theorem ce_all (n : Nat) (c : Nat) (g : Nat → Nat → Int) (e : TypeId) (opn : Bool) (sz : Nat) (ro : Bool)  (hx : 0 < n ∧ (n : Int) ≤ 9223372036854775807) (h1 : ∀ i, i < n → (Pl.cr (g i 0) (0 : Int) ((n - 1 : Nat) : Int)) = 0) : KC Tryz.prog none (.loop ceX) (ceA n c g e opn sz ro 0).act (wS 6 (ceL n c g e opn sz ro 0)) (.exit 0) (cer2E n c g e opn sz ro n).act (wS 6 [.rows n 1 (fun i j => .int .i64 (g i j)) e opn sz ro, .cells [.slice (some ⟨6, 0, none⟩) n c] 94 false 0 false]) 8 0 := by
  exact K_rounds (A := fun i => (ceA n c g e opn sz ro i).act) (S := fun i => wS 6 (ceL n c g e opn sz ro i)) (n) (fun i hi => cer0_k n c g e opn sz ro i hx (by omega) (h1 i hi)) (cer2_k n c g e opn sz ro n hx (by omega)) (by simp)
theorem ce_all_s (n : Nat) (c : Nat) (g : Nat → Nat → Int) (e : TypeId) (opn : Bool) (sz : Nat) (ro : Bool)  (hx : 0 < n ∧ (n : Int) ≤ 9223372036854775807) (h1 : ∀ i, i < n → (Pl.cr (g i 0) (0 : Int) ((n - 1 : Nat) : Int)) = 0) : SndC Tryz.prog none (.loop ceX) (ceA n c g e opn sz ro 0).act (wS 6 (ceL n c g e opn sz ro 0)) (.exit 0) (cer2E n c g e opn sz ro n).act (wS 6 (ceL n c g e opn sz ro 0)) 192 0 :=
  KT.snd (a := ceA n c g e opn sz ro 0) (a2 := cer2E n c g e opn sz ro n) (L := ceL n c g e opn sz ro 0) (ce_all n c g e opn sz ro hx h1) sng (Nat.le_refl _) (fun b _ => by simp) rfl rfl (by kernel_rfl) (by kernel_rfl) (fun o ho => by
    simp only [ceL, List.mem_cons, List.not_mem_nil, or_false] at ho
    rcases ho with rfl | rfl
    all_goals first | rfl | exact fun i j => rfl)
theorem cef0_eq (n : Nat) (c : Nat) (g : Nat → Nat → Int) (e : TypeId) (opn : Bool) (sz : Nat) (ro : Bool) : seenF' Tryz.prog Tryz.f60 6 1 [] (cef0 n c g e opn sz ro) = some (.int .i64 (12 : Int), ceS n c g e opn sz ro ++ [], ⟨[], (True ∧ (((((n : Nat)) : Int) == (0 : Int)) = true))⟩) := by kernel_rfl
theorem cef0_s (n : Nat) (c : Nat) (g : Nat → Nat → Int) (e : TypeId) (opn : Bool) (sz : Nat) (ro : Bool) (h0 : ((n : Nat) : Int) = (0 : Int)) : SndF Tryz.prog 60 (ceArgs n c g e opn sz ro) (wS 6 (ceS n c g e opn sz ro)) (.int .i64 (12 : Int)) (wS 6 (ceS n c g e opn sz ro)) 64 0 :=
  sndF_K (L := ceS n c g e opn sz ro) (L2 := []) (ms := []) smx ceK_ok sng (by kernel_rfl) (by kernel_rfl) (cef0_eq n c g e opn sz ro) (by
    repeat' (first | (with_reducible assumption) | exact (fun _ _ _ _ => rfl) | apply And.intro)
    all_goals first | trivial | rfl | assumption | exact decide_eq_true (by omega) | exact decide_eq_false (by omega) | exact bne_iff_ne.2 (by assumption) | exact bne_eq_false_iff_eq.2 (by assumption) | exact beq_iff_eq.2 (by assumption) | exact beq_eq_false_iff_ne.2 (by assumption) | exact wnextW (by omega) | exact wsub1 (by omega) (by omega) | exact toNatO (by omega) | exact congrArg Bool.not (by assumption) | omega) (by kernel_rfl) (fun o ho => by
      simp only [ceS, List.mem_cons, List.not_mem_nil, or_false] at ho
      rcases ho with rfl
      all_goals first | rfl | exact fun i j => rfl) (fun o ho => by cases ho) (by kernel_rfl)
theorem cef1_eq (n : Nat) (c : Nat) (g : Nat → Nat → Int) (e : TypeId) (opn : Bool) (sz : Nat) (ro : Bool) : seenF' Tryz.prog Tryz.f60 6 1 [] (cef1 n c g e opn sz ro) = some (.int .i64 (5 : Int), ceS n c g e opn sz ro ++ [], ⟨[], ((True ∧ (((((n : Nat)) : Int) == (0 : Int)) = false)) ∧ ((decide ((((n : Nat)) : Int) > (64 : Int))) = true))⟩) := by kernel_rfl
theorem cef1_s (n : Nat) (c : Nat) (g : Nat → Nat → Int) (e : TypeId) (opn : Bool) (sz : Nat) (ro : Bool) (h0 : ((n : Nat) : Int) ≠ (0 : Int)) (h1 : (64 : Int) < ((n : Nat) : Int)) : SndF Tryz.prog 60 (ceArgs n c g e opn sz ro) (wS 6 (ceS n c g e opn sz ro)) (.int .i64 (5 : Int)) (wS 6 (ceS n c g e opn sz ro)) 64 0 :=
  sndF_K (L := ceS n c g e opn sz ro) (L2 := []) (ms := []) smx ceK_ok sng (by kernel_rfl) (by kernel_rfl) (cef1_eq n c g e opn sz ro) (by
    repeat' (first | (with_reducible assumption) | exact (fun _ _ _ _ => rfl) | apply And.intro)
    all_goals first | trivial | rfl | assumption | exact decide_eq_true (by omega) | exact decide_eq_false (by omega) | exact bne_iff_ne.2 (by assumption) | exact bne_eq_false_iff_eq.2 (by assumption) | exact beq_iff_eq.2 (by assumption) | exact beq_eq_false_iff_ne.2 (by assumption) | exact wnextW (by omega) | exact wsub1 (by omega) (by omega) | exact toNatO (by omega) | exact congrArg Bool.not (by assumption) | omega) (by kernel_rfl) (fun o ho => by
      simp only [ceS, List.mem_cons, List.not_mem_nil, or_false] at ho
      rcases ho with rfl
      all_goals first | rfl | exact fun i j => rfl) (fun o ho => by cases ho) (by kernel_rfl)
theorem cef2_eq (n : Nat) (c : Nat) (g : Nat → Nat → Int) (e : TypeId) (opn : Bool) (sz : Nat) (ro : Bool) (jj : Nat) : seenF' Tryz.prog Tryz.f60 6 1 [] (cef2 n c g e opn sz ro jj) = some (.int .i64 (Pl.cr (g jj 0) (0 : Int) (((n - 1) : Nat) : Int)), ceS n c g e opn sz ro ++ [], ⟨[], (((True ∧ (((((n : Nat)) : Int) == (0 : Int)) = false)) ∧ ((decide ((((n : Nat)) : Int) > (64 : Int))) = false)) ∧ ((((ceA n c g e opn sz ro (0 : Nat)) = (ceA n c g e opn sz ro (0 : Nat))) ∧ ((8 = (6 + 2)) ∧ ((HAppend.hAppend (List.replicate (6 : Nat) MObj.hole) (ceL n c g e opn sz ro (0 : Nat))) = (HAppend.hAppend (List.replicate (6 : Nat) MObj.hole) (ceL n c g e opn sz ro (0 : Nat)))))) ∧ SndC Tryz.prog none (.loop ceX) (ceA n c g e opn sz ro 0).act (wS 6 (ceL n c g e opn sz ro 0)) .ret (cer1E n c g e opn sz ro jj).act (wS 6 (ceL n c g e opn sz ro 0)) 192 0))⟩) := by kernel_rfl
theorem cef2_s (n : Nat) (c : Nat) (g : Nat → Nat → Int) (e : TypeId) (opn : Bool) (sz : Nat) (ro : Bool) (jj : Nat) (h0 : ((n : Nat) : Int) ≠ (0 : Int)) (h1 : ¬ (64 : Int) < ((n : Nat) : Int)) (l0 : SndC Tryz.prog none (.loop ceX) (ceA n c g e opn sz ro 0).act (wS 6 (ceL n c g e opn sz ro 0)) .ret (cer1E n c g e opn sz ro jj).act (wS 6 (ceL n c g e opn sz ro 0)) 192 0) : SndF Tryz.prog 60 (ceArgs n c g e opn sz ro) (wS 6 (ceS n c g e opn sz ro)) (.int .i64 (Pl.cr (g jj 0) (0 : Int) (((n - 1) : Nat) : Int))) (wS 6 (ceS n c g e opn sz ro)) 64 0 :=
  sndF_K (L := ceS n c g e opn sz ro) (L2 := []) (ms := []) smx ceK_ok sng (by kernel_rfl) (by kernel_rfl) (cef2_eq n c g e opn sz ro jj) (by
    repeat' (first | (with_reducible assumption) | exact (fun _ _ _ _ => rfl) | apply And.intro)
    all_goals first | trivial | rfl | assumption | exact decide_eq_true (by omega) | exact decide_eq_false (by omega) | exact bne_iff_ne.2 (by assumption) | exact bne_eq_false_iff_eq.2 (by assumption) | exact beq_iff_eq.2 (by assumption) | exact beq_eq_false_iff_ne.2 (by assumption) | exact wnextW (by omega) | exact wsub1 (by omega) (by omega) | exact toNatO (by omega) | exact congrArg Bool.not (by assumption) | omega) (by kernel_rfl) (fun o ho => by
      simp only [ceS, List.mem_cons, List.not_mem_nil, or_false] at ho
      rcases ho with rfl
      all_goals first | rfl | exact fun i j => rfl) (fun o ho => by cases ho) (by kernel_rfl)
theorem cef3_eq (n : Nat) (c : Nat) (g : Nat → Nat → Int) (e : TypeId) (opn : Bool) (sz : Nat) (ro : Bool) : seenF' Tryz.prog Tryz.f60 6 1 [] (cef3 n c g e opn sz ro) = some (.int .i64 (0 : Int), ceS n c g e opn sz ro ++ [], ⟨[], (((True ∧ (((((n : Nat)) : Int) == (0 : Int)) = false)) ∧ ((decide ((((n : Nat)) : Int) > (64 : Int))) = false)) ∧ ((((ceA n c g e opn sz ro (0 : Nat)) = (ceA n c g e opn sz ro (0 : Nat))) ∧ ((8 = (6 + 2)) ∧ ((HAppend.hAppend (List.replicate (6 : Nat) MObj.hole) (ceL n c g e opn sz ro (0 : Nat))) = (HAppend.hAppend (List.replicate (6 : Nat) MObj.hole) (ceL n c g e opn sz ro (0 : Nat)))))) ∧ SndC Tryz.prog none (.loop ceX) (ceA n c g e opn sz ro 0).act (wS 6 (ceL n c g e opn sz ro 0)) (.exit 0) (cer2E n c g e opn sz ro n).act (wS 6 (ceL n c g e opn sz ro 0)) 192 0))⟩) := by kernel_rfl
theorem cef3_s (n : Nat) (c : Nat) (g : Nat → Nat → Int) (e : TypeId) (opn : Bool) (sz : Nat) (ro : Bool) (h0 : ((n : Nat) : Int) ≠ (0 : Int)) (h1 : ¬ (64 : Int) < ((n : Nat) : Int)) (l0 : SndC Tryz.prog none (.loop ceX) (ceA n c g e opn sz ro 0).act (wS 6 (ceL n c g e opn sz ro 0)) (.exit 0) (cer2E n c g e opn sz ro n).act (wS 6 (ceL n c g e opn sz ro 0)) 192 0) : SndF Tryz.prog 60 (ceArgs n c g e opn sz ro) (wS 6 (ceS n c g e opn sz ro)) (.int .i64 (0 : Int)) (wS 6 (ceS n c g e opn sz ro)) 64 0 :=
  sndF_K (L := ceS n c g e opn sz ro) (L2 := []) (ms := []) smx ceK_ok sng (by kernel_rfl) (by kernel_rfl) (cef3_eq n c g e opn sz ro) (by
    repeat' (first | (with_reducible assumption) | exact (fun _ _ _ _ => rfl) | apply And.intro)
    all_goals first | trivial | rfl | assumption | exact decide_eq_true (by omega) | exact decide_eq_false (by omega) | exact bne_iff_ne.2 (by assumption) | exact bne_eq_false_iff_eq.2 (by assumption) | exact beq_iff_eq.2 (by assumption) | exact beq_eq_false_iff_ne.2 (by assumption) | exact wnextW (by omega) | exact wsub1 (by omega) (by omega) | exact toNatO (by omega) | exact congrArg Bool.not (by assumption) | omega) (by kernel_rfl) (fun o ho => by
      simp only [ceS, List.mem_cons, List.not_mem_nil, or_false] at ho
      rcases ho with rfl
      all_goals first | rfl | exact fun i j => rfl) (fun o ho => by cases ho) (by kernel_rfl)
def crV (n : Nat) (g : Nat → Nat → Int) : Int := if n = 0 then 12 else if 64 < n then 5 else feN (fun i => Pl.cr (g i 0) 0 ((n - 1 : Nat) : Int)) n 0
theorem cr_sndF (n : Nat) (c : Nat) (g : Nat → Nat → Int) (e : TypeId) (opn : Bool) (sz : Nat) (ro : Bool) (hn : (n : Int) ≤ 9223372036854775807) : SndF Tryz.prog 60 (ceArgs n c g e opn sz ro) (wS 6 (ceS n c g e opn sz ro)) (.int .i64 (crV n g)) (wS 6 (ceS n c g e opn sz ro)) 64 0 := by
  unfold crV
  by_cases h0 : n = 0
  · rw [if_pos h0]; exact cef0_s n c g e opn sz ro (by omega)
  · rw [if_neg h0]
    by_cases h1 : 64 < n
    · rw [if_pos h1]; exact cef1_s n c g e opn sz ro (by omega) (by omega)
    · rw [if_neg h1]
      rcases first_or (p := fun i => Pl.cr (g i 0) 0 ((n - 1 : Nat) : Int) ≠ 0) (fun _ => inferInstance) n with h2 | ⟨j, hj, h2, h3⟩
      · have h4 : ∀ i, i < n → Pl.cr (g i 0) 0 ((n - 1 : Nat) : Int) = 0 := fun i hi => Decidable.not_not.1 (h2 i hi)
        rw [feN_all fun k _ hk => h4 k (by omega)]
        exact cef3_s n c g e opn sz ro (by omega) (by omega) (ce_all_s n c g e opn sz ro ⟨by omega, hn⟩ h4)
      · have h4 : ∀ i, i < j → Pl.cr (g i 0) 0 ((n - 1 : Nat) : Int) = 0 := fun i hi => Decidable.not_not.1 (h3 i hi)
        rw [feN_first (Nat.zero_le j) (by omega) (fun k _ hk => h4 k hk) h2]
        exact cef2_s n c g e opn sz ro j (by omega) (by omega) (ce_ret_s n c g e opn sz ro j ⟨by omega, hn⟩ hj h4 h2)
def kCr : CallS := fun f xs s q => match decide (f = 60) with
  | true => match xs.toList with
    | [.slice (some ⟨b, 0, none⟩) n c] => match Nat.ble 6 b, rowK 1 .i64 s b n with
      | true, some (g, _, _, _, _, p) => some (.int .i64 (crV n g), s, 2 ^ b, 0, ⟨q.rest, q.ob ∧ (p ∧ ((n : Int) ≤ 9223372036854775807))⟩)
      | _, _ => none
    | _ => none
  | false => none
theorem kCr_ok : FOkS Tryz.prog kCr := fun f xs s q u s1 R W q1 he => by
  unfold kCr at he
  split at he
  · rename_i hf
    have hf := of_decide_eq_true hf
    subst hf
    split at he
    · rename_i b n c hx0
      split at he
      · rename_i g e opn sz ro p hb hr
        have hb := Nat.le_of_ble_eq_true hb
        have hxs : xs = #[.slice (some ⟨b, 0, none⟩) n c] := by apply Array.ext'; exact hx0
        subst hxs
        cases he
        refine ⟨fun hq => hq.1, fun hq => ?_⟩
        obtain ⟨hp, hx⟩ := hq.2
        obtain ⟨l1, w1⟩ := rowK_wo hr hp
        exact SndF.row (N := 6) sng (cr_sndF n c g e opn sz ro hx) rfl hb l1 w1 (fun f _ hf => wvs_one (slice_wv hf))
      · cases he
    · cases he
  · cases he
end Go.Proofs.YtecabbbjdnambaaGreatDoor
end
section
set_option linter.all false
set_option maxRecDepth 1000000
open Go.RowKit
namespace Go.Proofs.YtecabbbjdnambaaGreatDoor
open Mini
noncomputable def cnX : Code := loopAt Tryz.prog 78 0
noncomputable def cnK : CallS := kAll [c_range, c_rrange, c_index]
def cnA (n : Nat) (c : Nat) (g : Nat → Nat → Int) (e : TypeId) (opn : Bool) (sz : Nat) (ro : Bool) (i7 : Nat) : MA := MA.ofL 25 [.slice (some ⟨6, 0, none⟩) n c, .int .i64 (0 : Int), .int .i64 (((n - 1) : Nat) : Int), .chan none, .chan none, .chan none, .chan none, .int .i64 ((i7 : Nat) : Int), .chan none, .chan none, .chan none, .chan none, .chan none, .chan none, .chan none, .chan none, .chan none, .chan none, .chan none, .chan none, .chan none, .chan none, .chan none, .chan none, .chan none] []
def cnL (n : Nat) (c : Nat) (g : Nat → Nat → Int) (e : TypeId) (opn : Bool) (sz : Nat) (ro : Bool) (i7 : Nat) : List MObj := [.rows n 1 (fun i j => .int .i64 (g i j)) e opn sz ro]
noncomputable def cnr0 (n : Nat) (c : Nat) (g : Nat → Nat → Int) (e : TypeId) (opn : Bool) (sz : Nat) (ro : Bool) (i7 : Nat) : Option OutCS := evK Tryz.prog cnK 1000 false cnX (cnA n c g e opn sz ro i7) (wS 6 (cnL n c g e opn sz ro i7)) ⟨[1, .row i7 0, .row i7 0, 0, .azz (.int .i64 ((i7 + 1 : Nat) : Int))], True⟩
noncomputable def cnr1 (n : Nat) (c : Nat) (g : Nat → Nat → Int) (e : TypeId) (opn : Bool) (sz : Nat) (ro : Bool) (i7 : Nat) : Option OutCS := evK Tryz.prog cnK 1000 false cnX (cnA n c g e opn sz ro i7) (wS 6 (cnL n c g e opn sz ro i7)) ⟨[1, .row i7 0, .row i7 0, 1], True⟩
def cnr1E (n : Nat) (c : Nat) (g : Nat → Nat → Int) (e : TypeId) (opn : Bool) (sz : Nat) (ro : Bool) (i7 : Nat) : MA := MA.ofL 25 [.chan none, .chan none, .chan none, .chan none, .chan none, .chan none, .int .i64 (Pl.cr (g i7 0) (0 : Int) (((n - 1) : Nat) : Int)), .chan none, .chan none, .chan none, .chan none, .chan none, .chan none, .chan none, .chan none, .chan none, .chan none, .chan none, .chan none, .chan none, .chan none, .chan none, .chan none, .chan none, .chan none] []
noncomputable def cnr2 (n : Nat) (c : Nat) (g : Nat → Nat → Int) (e : TypeId) (opn : Bool) (sz : Nat) (ro : Bool) (i7 : Nat) : Option OutCS := evK Tryz.prog cnK 1000 false cnX (cnA n c g e opn sz ro i7) (wS 6 (cnL n c g e opn sz ro i7)) ⟨[0], True⟩
def cnr2E (n : Nat) (c : Nat) (g : Nat → Nat → Int) (e : TypeId) (opn : Bool) (sz : Nat) (ro : Bool) (i7 : Nat) : MA := MA.ofL 25 [.chan none, .chan none, .chan none, .chan none, .chan none, .chan none, .chan none, .chan none, .chan none, .chan none, .chan none, .chan none, .chan none, .chan none, .chan none, .chan none, .chan none, .chan none, .chan none, .chan none, .chan none, .chan none, .chan none, .chan none, .chan none] []
def cnArgs (n : Nat) (c : Nat) (g : Nat → Nat → Int) (e : TypeId) (opn : Bool) (sz : Nat) (ro : Bool) : Array Value := #[.slice (some ⟨6, 0, none⟩) n c]
def cnS (n : Nat) (c : Nat) (g : Nat → Nat → Int) (e : TypeId) (opn : Bool) (sz : Nat) (ro : Bool) : List MObj := [.rows n 1 (fun i j => .int .i64 (g i j)) e opn sz ro]
noncomputable def cnf0 (n : Nat) (c : Nat) (g : Nat → Nat → Int) (e : TypeId) (opn : Bool) (sz : Nat) (ro : Bool) : Option OutCS := evK Tryz.prog cnK 1000 false (bodyOf Tryz.prog 61) (startM Tryz.f61 (cnArgs n c g e opn sz ro)) (wS 6 (cnS n c g e opn sz ro)) ⟨[1], True⟩
noncomputable def cnf1 (n : Nat) (c : Nat) (g : Nat → Nat → Int) (e : TypeId) (opn : Bool) (sz : Nat) (ro : Bool) : Option OutCS := evK Tryz.prog cnK 1000 false (bodyOf Tryz.prog 61) (startM Tryz.f61 (cnArgs n c g e opn sz ro)) (wS 6 (cnS n c g e opn sz ro)) ⟨[0, 1], True⟩
noncomputable def cnf2 (n : Nat) (c : Nat) (g : Nat → Nat → Int) (e : TypeId) (opn : Bool) (sz : Nat) (ro : Bool) (jj : Nat) : Option OutCS := evK Tryz.prog cnK 1000 false (bodyOf Tryz.prog 61) (startM Tryz.f61 (cnArgs n c g e opn sz ro)) (wS 6 (cnS n c g e opn sz ro)) ⟨[0, 0, .azz (.int .i64 ((n : Nat) : Int)), .azz (.int .i64 (((n - 1) : Nat) : Int)), .lp 135 (cnA n c g e opn sz ro 0) 6 (cnL n c g e opn sz ro 0) .ret (cnr1E n c g e opn sz ro jj) (cnL n c g e opn sz ro 0) 64 0], True⟩
noncomputable def cnf3 (n : Nat) (c : Nat) (g : Nat → Nat → Int) (e : TypeId) (opn : Bool) (sz : Nat) (ro : Bool) : Option OutCS := evK Tryz.prog cnK 1000 false (bodyOf Tryz.prog 61) (startM Tryz.f61 (cnArgs n c g e opn sz ro)) (wS 6 (cnS n c g e opn sz ro)) ⟨[0, 0, .azz (.int .i64 ((n : Nat) : Int)), .azz (.int .i64 (((n - 1) : Nat) : Int)), .lp 135 (cnA n c g e opn sz ro 0) 6 (cnL n c g e opn sz ro 0) (.exit 0) (cnr2E n c g e opn sz ro n) (cnL n c g e opn sz ro 0) 64 0], True⟩
theorem cnK_ok : FOkS Tryz.prog cnK := kAll_ok _ ⟨k_range, k_rrange, k_index, trivial⟩
theorem cnr0_eq (n : Nat) (c : Nat) (g : Nat → Nat → Int) (e : TypeId) (opn : Bool) (sz : Nat) (ro : Bool) (i7 : Nat) : seenK 6 1 [] 135 0 (cnr0 n c g e opn sz ro i7) = some (.normal, cnA n c g e opn sz ro (i7 + 1), [.rows n 1 (fun i j => .int .i64 (g i j)) e opn sz ro], 0, ⟨[], ((((((True ∧ ((decide ((((i7 : Nat)) : Int) < (((n : Nat)) : Int))) = true)) ∧ (((((i7 : Nat)) : Int) = (Int.ofNat i7)) ∧ (i7 < n))) ∧ (((0 + (i7 * 1)) = ((i7 * 1) + 0)) ∧ (i7 < n))) ∧ True) ∧ (((Pl.cr (g i7 0) (0 : Int) ((((n - 1) : Nat)) : Int)) != (0 : Int)) = false)) ∧ (((.int .i64 (IntKind.i64.wrap ((((i7 : Nat)) : Int) + (1 : Int)))) : Value) = (.int .i64 ((((i7 + 1) : Nat)) : Int))))⟩) := by kernel_rfl
theorem cnr0_k (n : Nat) (c : Nat) (g : Nat → Nat → Int) (e : TypeId) (opn : Bool) (sz : Nat) (ro : Bool) (i7 : Nat) (hx : 0 < n ∧ (n : Int) ≤ 9223372036854775807) (h0 : ((i7 : Nat) : Int) < ((n : Nat) : Int)) (h1 : (Pl.cr (g i7 0) (0 : Int) (((n - 1) : Nat) : Int)) = (0 : Int)) : KC Tryz.prog none cnX (cnA n c g e opn sz ro i7).act (wS 6 (cnL n c g e opn sz ro i7)) .normal (cnA n c g e opn sz ro (i7 + 1)).act (wS 6 (cnL n c g e opn sz ro (i7 + 1))) 7 0 := by
  refine seenK_ok smx cnK_ok sng (cnr0_eq n c g e opn sz ro i7) ?_
  · skip
    repeat' (first | (with_reducible assumption) | exact (fun _ _ _ _ => rfl) | apply And.intro)
    all_goals first | trivial | rfl | assumption | exact decide_eq_true (by omega) | exact decide_eq_false (by omega) | exact bne_iff_ne.2 (by assumption) | exact bne_eq_false_iff_eq.2 (by assumption) | exact beq_iff_eq.2 (by assumption) | exact beq_eq_false_iff_ne.2 (by assumption) | exact wnextW (by omega) | exact wsub1 (by omega) (by omega) | exact toNatO (by omega) | exact congrArg Bool.not (by assumption) | omega
theorem cnr1_eq (n : Nat) (c : Nat) (g : Nat → Nat → Int) (e : TypeId) (opn : Bool) (sz : Nat) (ro : Bool) (i7 : Nat) : seenK 6 1 [] 64 0 (cnr1 n c g e opn sz ro i7) = some (.ret, cnr1E n c g e opn sz ro i7, [.rows n 1 (fun i j => .int .i64 (g i j)) e opn sz ro], 0, ⟨[], (((((True ∧ ((decide ((((i7 : Nat)) : Int) < (((n : Nat)) : Int))) = true)) ∧ (((((i7 : Nat)) : Int) = (Int.ofNat i7)) ∧ (i7 < n))) ∧ (((0 + (i7 * 1)) = ((i7 * 1) + 0)) ∧ (i7 < n))) ∧ True) ∧ (((Pl.cr (g i7 0) (0 : Int) ((((n - 1) : Nat)) : Int)) != (0 : Int)) = true))⟩) := by kernel_rfl
theorem cnr1_k (n : Nat) (c : Nat) (g : Nat → Nat → Int) (e : TypeId) (opn : Bool) (sz : Nat) (ro : Bool) (i7 : Nat) (hx : 0 < n ∧ (n : Int) ≤ 9223372036854775807) (h0 : ((i7 : Nat) : Int) < ((n : Nat) : Int)) (h1 : (Pl.cr (g i7 0) (0 : Int) (((n - 1) : Nat) : Int)) ≠ (0 : Int)) : KC Tryz.prog none cnX (cnA n c g e opn sz ro i7).act (wS 6 (cnL n c g e opn sz ro i7)) .ret (cnr1E n c g e opn sz ro i7).act (wS 6 [.rows n 1 (fun i j => .int .i64 (g i j)) e opn sz ro]) 7 0 := by
  refine seenK_ok smx cnK_ok sng (cnr1_eq n c g e opn sz ro i7) ?_
  · skip
    repeat' (first | (with_reducible assumption) | exact (fun _ _ _ _ => rfl) | apply And.intro)
    all_goals first | trivial | rfl | assumption | exact decide_eq_true (by omega) | exact decide_eq_false (by omega) | exact bne_iff_ne.2 (by assumption) | exact bne_eq_false_iff_eq.2 (by assumption) | exact beq_iff_eq.2 (by assumption) | exact beq_eq_false_iff_ne.2 (by assumption) | exact wnextW (by omega) | exact wsub1 (by omega) (by omega) | exact toNatO (by omega) | exact congrArg Bool.not (by assumption) | omega
theorem cnr2_eq (n : Nat) (c : Nat) (g : Nat → Nat → Int) (e : TypeId) (opn : Bool) (sz : Nat) (ro : Bool) (i7 : Nat) : seenK 6 1 [] 0 0 (cnr2 n c g e opn sz ro i7) = some ((.exit 0), cnr2E n c g e opn sz ro i7, [.rows n 1 (fun i j => .int .i64 (g i j)) e opn sz ro], 0, ⟨[], (True ∧ ((decide ((((i7 : Nat)) : Int) < (((n : Nat)) : Int))) = false))⟩) := by kernel_rfl
theorem cnr2_k (n : Nat) (c : Nat) (g : Nat → Nat → Int) (e : TypeId) (opn : Bool) (sz : Nat) (ro : Bool) (i7 : Nat) (hx : 0 < n ∧ (n : Int) ≤ 9223372036854775807) (h0 : ¬ ((i7 : Nat) : Int) < ((n : Nat) : Int)) : KC Tryz.prog none cnX (cnA n c g e opn sz ro i7).act (wS 6 (cnL n c g e opn sz ro i7)) (.exit 0) (cnr2E n c g e opn sz ro i7).act (wS 6 [.rows n 1 (fun i j => .int .i64 (g i j)) e opn sz ro]) 7 0 := by
  refine seenK_ok smx cnK_ok sng (cnr2_eq n c g e opn sz ro i7) ?_
  · skip
    repeat' (first | (with_reducible assumption) | exact (fun _ _ _ _ => rfl) | apply And.intro)
    all_goals first | trivial | rfl | assumption | exact decide_eq_true (by omega) | exact decide_eq_false (by omega) | exact bne_iff_ne.2 (by assumption) | exact bne_eq_false_iff_eq.2 (by assumption) | exact beq_iff_eq.2 (by assumption) | exact beq_eq_false_iff_ne.2 (by assumption) | exact wnextW (by omega) | exact wsub1 (by omega) (by omega) | exact toNatO (by omega) | exact congrArg Bool.not (by assumption) | omega
theorem cn_ret (n : Nat) (c : Nat) (g : Nat → Nat → Int) (e : TypeId) (opn : Bool) (sz : Nat) (ro : Bool) (jj : Nat) (hx : 0 < n ∧ (n : Int) ≤ 9223372036854775807) (hj : jj < n) (h1 : ∀ i, i < jj → (Pl.cr (g i 0) (0 : Int) ((n - 1 : Nat) : Int)) = 0) (h2 : (Pl.cr (g jj 0) (0 : Int) ((n - 1 : Nat) : Int)) ≠ 0) : KC Tryz.prog none (.loop cnX) (cnA n c g e opn sz ro 0).act (wS 6 (cnL n c g e opn sz ro 0)) .ret (cnr1E n c g e opn sz ro jj).act (wS 6 [.rows n 1 (fun i j => .int .i64 (g i j)) e opn sz ro]) 7 0 := by
  exact K_rounds (A := fun i => (cnA n c g e opn sz ro i).act) (S := fun i => wS 6 (cnL n c g e opn sz ro i)) (jj) (fun i hi => cnr0_k n c g e opn sz ro i hx (by omega) (h1 i hi)) (cnr1_k n c g e opn sz ro jj hx (by omega) h2) (by simp)
theorem cn_ret_s (n : Nat) (c : Nat) (g : Nat → Nat → Int) (e : TypeId) (opn : Bool) (sz : Nat) (ro : Bool) (jj : Nat) (hx : 0 < n ∧ (n : Int) ≤ 9223372036854775807) (hj : jj < n) (h1 : ∀ i, i < jj → (Pl.cr (g i 0) (0 : Int) ((n - 1 : Nat) : Int)) = 0) (h2 : (Pl.cr (g jj 0) (0 : Int) ((n - 1 : Nat) : Int)) ≠ 0) : SndC Tryz.prog none (.loop cnX) (cnA n c g e opn sz ro 0).act (wS 6 (cnL n c g e opn sz ro 0)) .ret (cnr1E n c g e opn sz ro jj).act (wS 6 (cnL n c g e opn sz ro 0)) 64 0 :=
  KT.snd (a := cnA n c g e opn sz ro 0) (a2 := cnr1E n c g e opn sz ro jj) (L := cnL n c g e opn sz ro 0) (cn_ret n c g e opn sz ro jj hx hj h1 h2) sng (Nat.le_refl _) (fun b _ => by simp) rfl rfl (by kernel_rfl) (by kernel_rfl) (fun o ho => by
    simp only [cnL, List.mem_cons, List.not_mem_nil, or_false] at ho
    rcases ho with rfl
    all_goals first | rfl | exact fun i j => rfl)
theorem cn_all (n : Nat) (c : Nat) (g : Nat → Nat → Int) (e : TypeId) (opn : Bool) (sz : Nat) (ro : Bool)  (hx : 0 < n ∧ (n : Int) ≤ 9223372036854775807) (h1 : ∀ i, i < n → (Pl.cr (g i 0) (0 : Int) ((n - 1 : Nat) : Int)) = 0) : KC Tryz.prog none (.loop cnX) (cnA n c g e opn sz ro 0).act (wS 6 (cnL n c g e opn sz ro 0)) (.exit 0) (cnr2E n c g e opn sz ro n).act (wS 6 [.rows n 1 (fun i j => .int .i64 (g i j)) e opn sz ro]) 7 0 := by
  exact K_rounds (A := fun i => (cnA n c g e opn sz ro i).act) (S := fun i => wS 6 (cnL n c g e opn sz ro i)) (n) (fun i hi => cnr0_k n c g e opn sz ro i hx (by omega) (h1 i hi)) (cnr2_k n c g e opn sz ro n hx (by omega)) (by simp)
theorem cn_all_s (n : Nat) (c : Nat) (g : Nat → Nat → Int) (e : TypeId) (opn : Bool) (sz : Nat) (ro : Bool)  (hx : 0 < n ∧ (n : Int) ≤ 9223372036854775807) (h1 : ∀ i, i < n → (Pl.cr (g i 0) (0 : Int) ((n - 1 : Nat) : Int)) = 0) : SndC Tryz.prog none (.loop cnX) (cnA n c g e opn sz ro 0).act (wS 6 (cnL n c g e opn sz ro 0)) (.exit 0) (cnr2E n c g e opn sz ro n).act (wS 6 (cnL n c g e opn sz ro 0)) 64 0 :=
  KT.snd (a := cnA n c g e opn sz ro 0) (a2 := cnr2E n c g e opn sz ro n) (L := cnL n c g e opn sz ro 0) (cn_all n c g e opn sz ro hx h1) sng (Nat.le_refl _) (fun b _ => by simp) rfl rfl (by kernel_rfl) (by kernel_rfl) (fun o ho => by
    simp only [cnL, List.mem_cons, List.not_mem_nil, or_false] at ho
    rcases ho with rfl
    all_goals first | rfl | exact fun i j => rfl)
theorem cnf0_eq (n : Nat) (c : Nat) (g : Nat → Nat → Int) (e : TypeId) (opn : Bool) (sz : Nat) (ro : Bool) : seenF' Tryz.prog Tryz.f61 6 1 [] (cnf0 n c g e opn sz ro) = some (.int .i64 (12 : Int), cnS n c g e opn sz ro ++ [], ⟨[], (True ∧ (((((n : Nat)) : Int) == (0 : Int)) = true))⟩) := by kernel_rfl
theorem cnf0_s (n : Nat) (c : Nat) (g : Nat → Nat → Int) (e : TypeId) (opn : Bool) (sz : Nat) (ro : Bool) (h0 : ((n : Nat) : Int) = (0 : Int)) : SndF Tryz.prog 61 (cnArgs n c g e opn sz ro) (wS 6 (cnS n c g e opn sz ro)) (.int .i64 (12 : Int)) (wS 6 (cnS n c g e opn sz ro)) 64 0 :=
  sndF_K (L := cnS n c g e opn sz ro) (L2 := []) (ms := []) smx cnK_ok sng (by kernel_rfl) (by kernel_rfl) (cnf0_eq n c g e opn sz ro) (by
    repeat' (first | (with_reducible assumption) | exact (fun _ _ _ _ => rfl) | apply And.intro)
    all_goals first | trivial | rfl | assumption | exact decide_eq_true (by omega) | exact decide_eq_false (by omega) | exact bne_iff_ne.2 (by assumption) | exact bne_eq_false_iff_eq.2 (by assumption) | exact beq_iff_eq.2 (by assumption) | exact beq_eq_false_iff_ne.2 (by assumption) | exact wnextW (by omega) | exact wsub1 (by omega) (by omega) | exact toNatO (by omega) | exact congrArg Bool.not (by assumption) | omega) (by kernel_rfl) (fun o ho => by
      simp only [cnS, List.mem_cons, List.not_mem_nil, or_false] at ho
      rcases ho with rfl
      all_goals first | rfl | exact fun i j => rfl) (fun o ho => by cases ho) (by kernel_rfl)
theorem cnf1_eq (n : Nat) (c : Nat) (g : Nat → Nat → Int) (e : TypeId) (opn : Bool) (sz : Nat) (ro : Bool) : seenF' Tryz.prog Tryz.f61 6 1 [] (cnf1 n c g e opn sz ro) = some (.int .i64 (5 : Int), cnS n c g e opn sz ro ++ [], ⟨[], ((True ∧ (((((n : Nat)) : Int) == (0 : Int)) = false)) ∧ ((decide ((((n : Nat)) : Int) > (64 : Int))) = true))⟩) := by kernel_rfl
theorem cnf1_s (n : Nat) (c : Nat) (g : Nat → Nat → Int) (e : TypeId) (opn : Bool) (sz : Nat) (ro : Bool) (h0 : ((n : Nat) : Int) ≠ (0 : Int)) (h1 : (64 : Int) < ((n : Nat) : Int)) : SndF Tryz.prog 61 (cnArgs n c g e opn sz ro) (wS 6 (cnS n c g e opn sz ro)) (.int .i64 (5 : Int)) (wS 6 (cnS n c g e opn sz ro)) 64 0 :=
  sndF_K (L := cnS n c g e opn sz ro) (L2 := []) (ms := []) smx cnK_ok sng (by kernel_rfl) (by kernel_rfl) (cnf1_eq n c g e opn sz ro) (by
    repeat' (first | (with_reducible assumption) | exact (fun _ _ _ _ => rfl) | apply And.intro)
    all_goals first | trivial | rfl | assumption | exact decide_eq_true (by omega) | exact decide_eq_false (by omega) | exact bne_iff_ne.2 (by assumption) | exact bne_eq_false_iff_eq.2 (by assumption) | exact beq_iff_eq.2 (by assumption) | exact beq_eq_false_iff_ne.2 (by assumption) | exact wnextW (by omega) | exact wsub1 (by omega) (by omega) | exact toNatO (by omega) | exact congrArg Bool.not (by assumption) | omega) (by kernel_rfl) (fun o ho => by
      simp only [cnS, List.mem_cons, List.not_mem_nil, or_false] at ho
      rcases ho with rfl
      all_goals first | rfl | exact fun i j => rfl) (fun o ho => by cases ho) (by kernel_rfl)
theorem cnf2_eq (n : Nat) (c : Nat) (g : Nat → Nat → Int) (e : TypeId) (opn : Bool) (sz : Nat) (ro : Bool) (jj : Nat) : seenF' Tryz.prog Tryz.f61 6 1 [] (cnf2 n c g e opn sz ro jj) = some (.int .i64 (Pl.cr (g jj 0) (0 : Int) (((n - 1) : Nat) : Int)), cnS n c g e opn sz ro ++ [], ⟨[], (((((True ∧ (((((n : Nat)) : Int) == (0 : Int)) = false)) ∧ ((decide ((((n : Nat)) : Int) > (64 : Int))) = false)) ∧ (((.int .i64 (((n : Nat)) : Int)) : Value) = (.int .i64 (((n : Nat)) : Int)))) ∧ (((.int .i64 (IntKind.i64.wrap ((((n : Nat)) : Int) - (1 : Int)))) : Value) = (.int .i64 ((((n - 1) : Nat)) : Int)))) ∧ ((((cnA n c g e opn sz ro (0 : Nat)) = (cnA n c g e opn sz ro (0 : Nat))) ∧ ((7 = (6 + 1)) ∧ ((HAppend.hAppend (List.replicate (6 : Nat) MObj.hole) (cnL n c g e opn sz ro (0 : Nat))) = (HAppend.hAppend (List.replicate (6 : Nat) MObj.hole) (cnL n c g e opn sz ro (0 : Nat)))))) ∧ SndC Tryz.prog none (.loop cnX) (cnA n c g e opn sz ro 0).act (wS 6 (cnL n c g e opn sz ro 0)) .ret (cnr1E n c g e opn sz ro jj).act (wS 6 (cnL n c g e opn sz ro 0)) 64 0))⟩) := by kernel_rfl
theorem cnf2_s (n : Nat) (c : Nat) (g : Nat → Nat → Int) (e : TypeId) (opn : Bool) (sz : Nat) (ro : Bool) (jj : Nat) (h0 : ((n : Nat) : Int) ≠ (0 : Int)) (h1 : ¬ (64 : Int) < ((n : Nat) : Int)) (l0 : SndC Tryz.prog none (.loop cnX) (cnA n c g e opn sz ro 0).act (wS 6 (cnL n c g e opn sz ro 0)) .ret (cnr1E n c g e opn sz ro jj).act (wS 6 (cnL n c g e opn sz ro 0)) 64 0) : SndF Tryz.prog 61 (cnArgs n c g e opn sz ro) (wS 6 (cnS n c g e opn sz ro)) (.int .i64 (Pl.cr (g jj 0) (0 : Int) (((n - 1) : Nat) : Int))) (wS 6 (cnS n c g e opn sz ro)) 64 0 :=
  sndF_K (L := cnS n c g e opn sz ro) (L2 := []) (ms := []) smx cnK_ok sng (by kernel_rfl) (by kernel_rfl) (cnf2_eq n c g e opn sz ro jj) (by
    repeat' (first | (with_reducible assumption) | exact (fun _ _ _ _ => rfl) | apply And.intro)
    all_goals first | trivial | rfl | assumption | exact decide_eq_true (by omega) | exact decide_eq_false (by omega) | exact bne_iff_ne.2 (by assumption) | exact bne_eq_false_iff_eq.2 (by assumption) | exact beq_iff_eq.2 (by assumption) | exact beq_eq_false_iff_ne.2 (by assumption) | exact wnextW (by omega) | exact wsub1 (by omega) (by omega) | exact toNatO (by omega) | exact congrArg Bool.not (by assumption) | omega) (by kernel_rfl) (fun o ho => by
      simp only [cnS, List.mem_cons, List.not_mem_nil, or_false] at ho
      rcases ho with rfl
      all_goals first | rfl | exact fun i j => rfl) (fun o ho => by cases ho) (by kernel_rfl)
theorem cnf3_eq (n : Nat) (c : Nat) (g : Nat → Nat → Int) (e : TypeId) (opn : Bool) (sz : Nat) (ro : Bool) : seenF' Tryz.prog Tryz.f61 6 1 [] (cnf3 n c g e opn sz ro) = some (.int .i64 (0 : Int), cnS n c g e opn sz ro ++ [], ⟨[], (((((True ∧ (((((n : Nat)) : Int) == (0 : Int)) = false)) ∧ ((decide ((((n : Nat)) : Int) > (64 : Int))) = false)) ∧ (((.int .i64 (((n : Nat)) : Int)) : Value) = (.int .i64 (((n : Nat)) : Int)))) ∧ (((.int .i64 (IntKind.i64.wrap ((((n : Nat)) : Int) - (1 : Int)))) : Value) = (.int .i64 ((((n - 1) : Nat)) : Int)))) ∧ ((((cnA n c g e opn sz ro (0 : Nat)) = (cnA n c g e opn sz ro (0 : Nat))) ∧ ((7 = (6 + 1)) ∧ ((HAppend.hAppend (List.replicate (6 : Nat) MObj.hole) (cnL n c g e opn sz ro (0 : Nat))) = (HAppend.hAppend (List.replicate (6 : Nat) MObj.hole) (cnL n c g e opn sz ro (0 : Nat)))))) ∧ SndC Tryz.prog none (.loop cnX) (cnA n c g e opn sz ro 0).act (wS 6 (cnL n c g e opn sz ro 0)) (.exit 0) (cnr2E n c g e opn sz ro n).act (wS 6 (cnL n c g e opn sz ro 0)) 64 0))⟩) := by kernel_rfl
theorem cnf3_s (n : Nat) (c : Nat) (g : Nat → Nat → Int) (e : TypeId) (opn : Bool) (sz : Nat) (ro : Bool) (h0 : ((n : Nat) : Int) ≠ (0 : Int)) (h1 : ¬ (64 : Int) < ((n : Nat) : Int)) (l0 : SndC Tryz.prog none (.loop cnX) (cnA n c g e opn sz ro 0).act (wS 6 (cnL n c g e opn sz ro 0)) (.exit 0) (cnr2E n c g e opn sz ro n).act (wS 6 (cnL n c g e opn sz ro 0)) 64 0) : SndF Tryz.prog 61 (cnArgs n c g e opn sz ro) (wS 6 (cnS n c g e opn sz ro)) (.int .i64 (0 : Int)) (wS 6 (cnS n c g e opn sz ro)) 64 0 :=
  sndF_K (L := cnS n c g e opn sz ro) (L2 := []) (ms := []) smx cnK_ok sng (by kernel_rfl) (by kernel_rfl) (cnf3_eq n c g e opn sz ro) (by
    repeat' (first | (with_reducible assumption) | exact (fun _ _ _ _ => rfl) | apply And.intro)
    all_goals first | trivial | rfl | assumption | exact decide_eq_true (by omega) | exact decide_eq_false (by omega) | exact bne_iff_ne.2 (by assumption) | exact bne_eq_false_iff_eq.2 (by assumption) | exact beq_iff_eq.2 (by assumption) | exact beq_eq_false_iff_ne.2 (by assumption) | exact wnextW (by omega) | exact wsub1 (by omega) (by omega) | exact toNatO (by omega) | exact congrArg Bool.not (by assumption) | omega) (by kernel_rfl) (fun o ho => by
      simp only [cnS, List.mem_cons, List.not_mem_nil, or_false] at ho
      rcases ho with rfl
      all_goals first | rfl | exact fun i j => rfl) (fun o ho => by cases ho) (by kernel_rfl)
theorem rcr_sndF (n : Nat) (c : Nat) (g : Nat → Nat → Int) (e : TypeId) (opn : Bool) (sz : Nat) (ro : Bool) (hn : (n : Int) ≤ 9223372036854775807) : SndF Tryz.prog 61 (cnArgs n c g e opn sz ro) (wS 6 (cnS n c g e opn sz ro)) (.int .i64 (crV n g)) (wS 6 (cnS n c g e opn sz ro)) 64 0 := by
  unfold crV
  by_cases h0 : n = 0
  · rw [if_pos h0]; exact cnf0_s n c g e opn sz ro (by omega)
  · rw [if_neg h0]
    by_cases h1 : 64 < n
    · rw [if_pos h1]; exact cnf1_s n c g e opn sz ro (by omega) (by omega)
    · rw [if_neg h1]
      rcases first_or (p := fun i => Pl.cr (g i 0) 0 ((n - 1 : Nat) : Int) ≠ 0) (fun _ => inferInstance) n with h2 | ⟨j, hj, h2, h3⟩
      · have h4 : ∀ i, i < n → Pl.cr (g i 0) 0 ((n - 1 : Nat) : Int) = 0 := fun i hi => Decidable.not_not.1 (h2 i hi)
        rw [feN_all fun k _ hk => h4 k (by omega)]
        exact cnf3_s n c g e opn sz ro (by omega) (by omega) (cn_all_s n c g e opn sz ro ⟨by omega, hn⟩ h4)
      · have h4 : ∀ i, i < j → Pl.cr (g i 0) 0 ((n - 1 : Nat) : Int) = 0 := fun i hi => Decidable.not_not.1 (h3 i hi)
        rw [feN_first (Nat.zero_le j) (by omega) (fun k _ hk => h4 k hk) h2]
        exact cnf2_s n c g e opn sz ro j (by omega) (by omega) (cn_ret_s n c g e opn sz ro j ⟨by omega, hn⟩ hj h4 h2)
def kRCr : CallS := fun f xs s q => match decide (f = 61) with
  | true => match xs.toList with
    | [.slice (some ⟨b, 0, none⟩) n c] => match Nat.ble 6 b, rowK 1 .i64 s b n with
      | true, some (g, _, _, _, _, p) => some (.int .i64 (crV n g), s, 2 ^ b, 0, ⟨q.rest, q.ob ∧ (p ∧ ((n : Int) ≤ 9223372036854775807))⟩)
      | _, _ => none
    | _ => none
  | false => none
theorem kRCr_ok : FOkS Tryz.prog kRCr := fun f xs s q u s1 R W q1 he => by
  unfold kRCr at he
  split at he
  · rename_i hf
    have hf := of_decide_eq_true hf
    subst hf
    split at he
    · rename_i b n c hx0
      split at he
      · rename_i g e opn sz ro p hb hr
        have hb := Nat.le_of_ble_eq_true hb
        have hxs : xs = #[.slice (some ⟨b, 0, none⟩) n c] := by apply Array.ext'; exact hx0
        subst hxs
        cases he
        refine ⟨fun hq => hq.1, fun hq => ?_⟩
        obtain ⟨hp, hx⟩ := hq.2
        obtain ⟨l1, w1⟩ := rowK_wo hr hp
        exact SndF.row (N := 6) sng (rcr_sndF n c g e opn sz ro hx) rfl hb l1 w1 (fun f _ hf => wvs_one (slice_wv hf))
      · cases he
    · cases he
  · cases he
end Go.Proofs.YtecabbbjdnambaaGreatDoor
end
section
set_option linter.all false
set_option maxRecDepth 1000000
open Go.RowKit
namespace Go.Proofs.YtecabbbjdnambaaGreatDoor
open Mini
def itR (g : Nat → Nat → Int) (fr : Int) : Nat → Int
  | 0 => fr
  | k + 1 => g (Int.toNat (itR g fr k)) 0
theorem itR_in {n : Nat} {g : Nat → Nat → Int} {fr : Int} (hg : ∀ i, i < n → 0 ≤ g i 0 ∧ g i 0 < (n : Int)) (hf : 0 ≤ fr ∧ fr < (n : Int)) : ∀ k, 0 ≤ itR g fr k ∧ itR g fr k < (n : Int)
  | 0 => hf
  | k + 1 => hg _ (by have := itR_in hg hf k; omega)
theorem itR_add (g : Nat → Nat → Int) (fr : Int) (i : Nat) : ∀ d, itR g fr (i + d) = itR g (itR g fr i) d
  | 0 => rfl
  | d + 1 => by rw [show i + (d + 1) = (i + d) + 1 from by omega]; show g (Int.toNat (itR g fr (i + d))) 0 = _; rw [itR_add g fr i d]; rfl
theorem pigeon : ∀ (m : Nat) (f : Nat → Nat), (∀ k, k ≤ m → f k < m) → ∃ i j, i < j ∧ j ≤ m ∧ f i = f j
  | 0, f, h => absurd (h 0 (Nat.le_refl _)) (by omega)
  | m + 1, f, h => by
    by_cases c : ∃ i, i < m + 1 ∧ f i = f (m + 1)
    · obtain ⟨i, h1, h2⟩ := c
      exact ⟨i, m + 1, h1, Nat.le_refl _, h2⟩
    · have hne : ∀ k, k ≤ m → f k ≠ f (m + 1) := fun k hk e => c ⟨k, by omega, e⟩
      have h0 := h (m + 1) (Nat.le_refl _)
      obtain ⟨i, j, h1, h2, h3⟩ := pigeon m (fun k => if f (m + 1) < f k then f k - 1 else f k) (fun k hk => by
        have := h k (by omega)
        have := hne k hk
        show (if f (m + 1) < f k then f k - 1 else f k) < m
        split <;> omega)
      refine ⟨i, j, h1, by omega, ?_⟩
      have a1 := hne i (by omega)
      have a2 := hne j h2
      have h3 : (if f (m + 1) < f i then f i - 1 else f i) = (if f (m + 1) < f j then f j - 1 else f j) := h3
      split at h3 <;> split at h3 <;> omega
theorem itR_far {n : Nat} {g : Nat → Nat → Int} {fr ph : Int} (hg : ∀ i, i < n → 0 ≤ g i 0 ∧ g i 0 < (n : Int)) (hf : 0 ≤ fr ∧ fr < (n : Int)) (h : ∀ k, k < n → itR g fr k ≠ ph) : itR g fr n ≠ ph := fun he => by
  have hin := itR_in hg hf
  have hn : 0 < n := by omega
  have hph := hin n
  rw [he] at hph
  obtain ⟨i, j, h1, h2, h3⟩ := pigeon (n - 1) (fun k => if ph < itR g fr k then Int.toNat (itR g fr k) - 1 else Int.toNat (itR g fr k)) (fun k hk => by
    have a := hin k
    have b := h k (by omega)
    show (if ph < itR g fr k then Int.toNat (itR g fr k) - 1 else Int.toNat (itR g fr k)) < n - 1
    split <;> omega)
  have h3 : (if ph < itR g fr i then Int.toNat (itR g fr i) - 1 else Int.toNat (itR g fr i)) = (if ph < itR g fr j then Int.toNat (itR g fr j) - 1 else Int.toNat (itR g fr j)) := h3
  have a1 := hin i
  have a2 := hin j
  have b1 := h i (by omega)
  have b2 := h j (by omega)
  have e : itR g fr i = itR g fr j := by split at h3 <;> split at h3 <;> omega
  have e1 := itR_add g fr j (n - j)
  rw [show j + (n - j) = n from by omega, he, ← e, ← itR_add g fr i (n - j)] at e1
  exact h (i + (n - j)) (by omega) e1.symm
def fallN (n : Nat) (g : Nat → Nat → Int) (fr ph : Int) : Nat := firstI (fun k => decide (itR g fr k = ph)) n 0
def fallB (n : Nat) (g : Nat → Nat → Int) (fr ph : Int) : Bool := decide (fallN n g fr ph < n)
def fallC (n : Nat) (g : Nat → Nat → Int) (fr ph : Int) : Int := if fallN n g fr ph < n then ((fallN n g fr ph : Nat) : Int) else 0
def fallV (n : Nat) (g : Nat → Nat → Int) (fr ph : Int) : Value := .tuple #[.int .i64 (fallC n g fr ph), .bool (fallB n g fr ph)]
theorem fl_some {n : Nat} {g : Nat → Nat → Int} {fr ph : Int} {j : Nat} (hj : j < n) (h1 : ∀ i, i < j → itR g fr i ≠ ph) (h2 : itR g fr j = ph) : fallC n g fr ph = ((j : Nat) : Int) ∧ fallB n g fr ph = true := by
  have e : fallN n g fr ph = j := firstI_some (Nat.zero_le _) (by omega) (fun k _ hk => decide_eq_false (h1 k hk)) (decide_eq_true h2)
  unfold fallC fallB
  rw [e, if_pos hj]
  exact ⟨rfl, decide_eq_true hj⟩
theorem fl_none {n : Nat} {g : Nat → Nat → Int} {fr ph : Int} (h1 : ∀ i, i < n → itR g fr i ≠ ph) : fallC n g fr ph = 0 ∧ fallB n g fr ph = false := by
  have e : fallN n g fr ph = 0 + n := firstI_none fun k _ hk => decide_eq_false (h1 k (by omega))
  unfold fallC fallB
  rw [e, if_neg (by omega)]
  exact ⟨rfl, decide_eq_false (by omega)⟩
noncomputable def flX : Code := loopAt Tryz.prog 104 0
noncomputable def flK : CallS := noXS
def flA (n : Nat) (c : Nat) (g : Nat → Nat → Int) (e : TypeId) (opn : Bool) (sz : Nat) (ro : Bool) (fr : Int) (ph : Int) (a8 : Int) (i13 : Nat) : MA := MA.ofL 25 [.slice (some ⟨6, 0, none⟩) n c, .chan none, .int .i64 ph, .chan none, .chan none, .chan none, .chan none, .chan none, .int .i64 a8, .chan none, .chan none, .chan none, .int .i64 ((n : Nat) : Int), .int .i64 ((i13 : Nat) : Int), .chan none, .chan none, .chan none, .chan none, .chan none, .chan none, .chan none, .chan none, .chan none, .chan none, .chan none] []
def flL (n : Nat) (c : Nat) (g : Nat → Nat → Int) (e : TypeId) (opn : Bool) (sz : Nat) (ro : Bool) (fr : Int) (ph : Int) (a8 : Int) (i13 : Nat) : List MObj := [.rows n 1 (fun i j => .int .i64 (g i j)) e opn sz ro]
noncomputable def flr0 (n : Nat) (c : Nat) (g : Nat → Nat → Int) (e : TypeId) (opn : Bool) (sz : Nat) (ro : Bool) (fr : Int) (ph : Int) (a8 : Int) (i13 : Nat) : Option OutCS := evK Tryz.prog flK 1000 false flX (flA n c g e opn sz ro fr ph a8 i13) (wS 6 (flL n c g e opn sz ro fr ph a8 i13)) ⟨[1, 1], True⟩
def flr0E (n : Nat) (c : Nat) (g : Nat → Nat → Int) (e : TypeId) (opn : Bool) (sz : Nat) (ro : Bool) (fr : Int) (ph : Int) (a8 : Int) (i13 : Nat) : MA := MA.ofL 25 [.chan none, .chan none, .chan none, .chan none, .chan none, .chan none, .int .i64 ((i13 : Nat) : Int), .bool true, .chan none, .chan none, .chan none, .chan none, .chan none, .chan none, .chan none, .chan none, .chan none, .chan none, .chan none, .chan none, .chan none, .chan none, .chan none, .chan none, .chan none] []
noncomputable def flr1 (n : Nat) (c : Nat) (g : Nat → Nat → Int) (e : TypeId) (opn : Bool) (sz : Nat) (ro : Bool) (fr : Int) (ph : Int) (a8 : Int) (i13 : Nat) : Option OutCS := evK Tryz.prog flK 1000 false flX (flA n c g e opn sz ro fr ph a8 i13) (wS 6 (flL n c g e opn sz ro fr ph a8 i13)) ⟨[1, 0, .row (Int.toNat a8) 0, .row (Int.toNat a8) 0, .azz (.int .i64 ((i13 + 1 : Nat) : Int))], True⟩
noncomputable def flr2 (n : Nat) (c : Nat) (g : Nat → Nat → Int) (e : TypeId) (opn : Bool) (sz : Nat) (ro : Bool) (fr : Int) (ph : Int) (a8 : Int) (i13 : Nat) : Option OutCS := evK Tryz.prog flK 1000 false flX (flA n c g e opn sz ro fr ph a8 i13) (wS 6 (flL n c g e opn sz ro fr ph a8 i13)) ⟨[0], True⟩
def flr2E (n : Nat) (c : Nat) (g : Nat → Nat → Int) (e : TypeId) (opn : Bool) (sz : Nat) (ro : Bool) (fr : Int) (ph : Int) (a8 : Int) (i13 : Nat) : MA := MA.ofL 25 [.chan none, .chan none, .chan none, .chan none, .chan none, .chan none, .chan none, .chan none, .chan none, .chan none, .chan none, .chan none, .chan none, .chan none, .chan none, .chan none, .chan none, .chan none, .chan none, .chan none, .chan none, .chan none, .chan none, .chan none, .chan none] []
def flArgs (n : Nat) (c : Nat) (g : Nat → Nat → Int) (e : TypeId) (opn : Bool) (sz : Nat) (ro : Bool) (fr : Int) (ph : Int) : Array Value := #[.slice (some ⟨6, 0, none⟩) n c, .int .i64 fr, .int .i64 ph]
def flS (n : Nat) (c : Nat) (g : Nat → Nat → Int) (e : TypeId) (opn : Bool) (sz : Nat) (ro : Bool) (fr : Int) (ph : Int) : List MObj := [.rows n 1 (fun i j => .int .i64 (g i j)) e opn sz ro]
noncomputable def flf0 (n : Nat) (c : Nat) (g : Nat → Nat → Int) (e : TypeId) (opn : Bool) (sz : Nat) (ro : Bool) (fr : Int) (ph : Int) (jj : Nat) : Option OutCS := evK Tryz.prog flK 1000 false (bodyOf Tryz.prog 104) (startM Tryz.f104 (flArgs n c g e opn sz ro fr ph)) (wS 6 (flS n c g e opn sz ro fr ph)) ⟨[.lp 12549 (flA n c g e opn sz ro fr ph fr 0) 6 (flL n c g e opn sz ro fr ph fr 0) .ret (flr0E n c g e opn sz ro fr ph (itR g fr jj) jj) [.rows n 1 (fun i j => .int .i64 (g i j)) e opn sz ro] 7 0], True⟩
noncomputable def flf1 (n : Nat) (c : Nat) (g : Nat → Nat → Int) (e : TypeId) (opn : Bool) (sz : Nat) (ro : Bool) (fr : Int) (ph : Int) : Option OutCS := evK Tryz.prog flK 1000 false (bodyOf Tryz.prog 104) (startM Tryz.f104 (flArgs n c g e opn sz ro fr ph)) (wS 6 (flS n c g e opn sz ro fr ph)) ⟨[.lp 12549 (flA n c g e opn sz ro fr ph fr 0) 6 (flL n c g e opn sz ro fr ph fr 0) (.exit 0) (flr2E n c g e opn sz ro fr ph (itR g fr n) n) [.rows n 1 (fun i j => .int .i64 (g i j)) e opn sz ro] 7 0], True⟩
theorem flK_ok : FOkS Tryz.prog flK := noXS_ok
theorem flr0_eq (n : Nat) (c : Nat) (g : Nat → Nat → Int) (e : TypeId) (opn : Bool) (sz : Nat) (ro : Bool) (fr : Int) (ph : Int) (a8 : Int) (i13 : Nat) : seenK 6 1 [] 192 0 (flr0 n c g e opn sz ro fr ph a8 i13) = some (.ret, flr0E n c g e opn sz ro fr ph a8 i13, [.rows n 1 (fun i j => .int .i64 (g i j)) e opn sz ro], 0, ⟨[], ((True ∧ ((decide ((((i13 : Nat)) : Int) < (((n : Nat)) : Int))) = true)) ∧ ((a8 == ph) = true))⟩) := by kernel_rfl
theorem flr0_k (n : Nat) (c : Nat) (g : Nat → Nat → Int) (e : TypeId) (opn : Bool) (sz : Nat) (ro : Bool) (fr : Int) (ph : Int) (a8 : Int) (i13 : Nat) (hx : (n : Int) ≤ 9223372036854775807 ∧ 0 ≤ a8 ∧ a8 < (n : Int)) (h0 : ((i13 : Nat) : Int) < ((n : Nat) : Int)) (h1 : a8 = ph) : KC Tryz.prog none flX (flA n c g e opn sz ro fr ph a8 i13).act (wS 6 (flL n c g e opn sz ro fr ph a8 i13)) .ret (flr0E n c g e opn sz ro fr ph a8 i13).act (wS 6 [.rows n 1 (fun i j => .int .i64 (g i j)) e opn sz ro]) 7 0 := by
  refine seenK_ok smx flK_ok sng (flr0_eq n c g e opn sz ro fr ph a8 i13) ?_
  · skip
    repeat' (first | (with_reducible assumption) | exact (fun _ _ _ _ => rfl) | apply And.intro)
    all_goals first | trivial | rfl | assumption | exact decide_eq_true (by omega) | exact decide_eq_false (by omega) | exact bne_iff_ne.2 (by assumption) | exact bne_eq_false_iff_eq.2 (by assumption) | exact beq_iff_eq.2 (by assumption) | exact beq_eq_false_iff_ne.2 (by assumption) | exact wnextW (by omega) | exact wsub1 (by omega) (by omega) | exact toNatO (by omega) | exact congrArg Bool.not (by assumption) | omega
theorem flr1_eq (n : Nat) (c : Nat) (g : Nat → Nat → Int) (e : TypeId) (opn : Bool) (sz : Nat) (ro : Bool) (fr : Int) (ph : Int) (a8 : Int) (i13 : Nat) : seenK 6 1 [] 12549 0 (flr1 n c g e opn sz ro fr ph a8 i13) = some (.normal, flA n c g e opn sz ro fr ph (g (Int.toNat a8) 0) (i13 + 1), [.rows n 1 (fun i j => .int .i64 (g i j)) e opn sz ro], 0, ⟨[], (((((True ∧ ((decide ((((i13 : Nat)) : Int) < (((n : Nat)) : Int))) = true)) ∧ ((a8 == ph) = false)) ∧ ((a8 = (Int.ofNat (Int.toNat a8))) ∧ ((Int.toNat a8) < n))) ∧ (((0 + ((Int.toNat a8) * 1)) = (((Int.toNat a8) * 1) + 0)) ∧ ((Int.toNat a8) < n))) ∧ (((.int .i64 (IntKind.i64.wrap ((((i13 : Nat)) : Int) + (1 : Int)))) : Value) = (.int .i64 ((((i13 + 1) : Nat)) : Int))))⟩) := by kernel_rfl
theorem flr1_k (n : Nat) (c : Nat) (g : Nat → Nat → Int) (e : TypeId) (opn : Bool) (sz : Nat) (ro : Bool) (fr : Int) (ph : Int) (a8 : Int) (i13 : Nat) (hx : (n : Int) ≤ 9223372036854775807 ∧ 0 ≤ a8 ∧ a8 < (n : Int)) (h0 : ((i13 : Nat) : Int) < ((n : Nat) : Int)) (h1 : a8 ≠ ph) : KC Tryz.prog none flX (flA n c g e opn sz ro fr ph a8 i13).act (wS 6 (flL n c g e opn sz ro fr ph a8 i13)) .normal (flA n c g e opn sz ro fr ph (g (Int.toNat a8) 0) (i13 + 1)).act (wS 6 (flL n c g e opn sz ro fr ph (g (Int.toNat a8) 0) (i13 + 1))) 7 0 := by
  refine seenK_ok smx flK_ok sng (flr1_eq n c g e opn sz ro fr ph a8 i13) ?_
  · skip
    repeat' (first | (with_reducible assumption) | exact (fun _ _ _ _ => rfl) | apply And.intro)
    all_goals first | trivial | rfl | assumption | exact decide_eq_true (by omega) | exact decide_eq_false (by omega) | exact bne_iff_ne.2 (by assumption) | exact bne_eq_false_iff_eq.2 (by assumption) | exact beq_iff_eq.2 (by assumption) | exact beq_eq_false_iff_ne.2 (by assumption) | exact wnextW (by omega) | exact wsub1 (by omega) (by omega) | exact toNatO (by omega) | exact congrArg Bool.not (by assumption) | omega
theorem flr2_eq (n : Nat) (c : Nat) (g : Nat → Nat → Int) (e : TypeId) (opn : Bool) (sz : Nat) (ro : Bool) (fr : Int) (ph : Int) (a8 : Int) (i13 : Nat) : seenK 6 1 [] 0 0 (flr2 n c g e opn sz ro fr ph a8 i13) = some ((.exit 0), flr2E n c g e opn sz ro fr ph a8 i13, [.rows n 1 (fun i j => .int .i64 (g i j)) e opn sz ro], 0, ⟨[], (True ∧ ((decide ((((i13 : Nat)) : Int) < (((n : Nat)) : Int))) = false))⟩) := by kernel_rfl
theorem flr2_k (n : Nat) (c : Nat) (g : Nat → Nat → Int) (e : TypeId) (opn : Bool) (sz : Nat) (ro : Bool) (fr : Int) (ph : Int) (a8 : Int) (i13 : Nat) (hx : (n : Int) ≤ 9223372036854775807 ∧ 0 ≤ a8 ∧ a8 < (n : Int)) (h0 : ¬ ((i13 : Nat) : Int) < ((n : Nat) : Int)) : KC Tryz.prog none flX (flA n c g e opn sz ro fr ph a8 i13).act (wS 6 (flL n c g e opn sz ro fr ph a8 i13)) (.exit 0) (flr2E n c g e opn sz ro fr ph a8 i13).act (wS 6 [.rows n 1 (fun i j => .int .i64 (g i j)) e opn sz ro]) 7 0 := by
  refine seenK_ok smx flK_ok sng (flr2_eq n c g e opn sz ro fr ph a8 i13) ?_
  · skip
    repeat' (first | (with_reducible assumption) | exact (fun _ _ _ _ => rfl) | apply And.intro)
    all_goals first | trivial | rfl | assumption | exact decide_eq_true (by omega) | exact decide_eq_false (by omega) | exact bne_iff_ne.2 (by assumption) | exact bne_eq_false_iff_eq.2 (by assumption) | exact beq_iff_eq.2 (by assumption) | exact beq_eq_false_iff_ne.2 (by assumption) | exact wnextW (by omega) | exact wsub1 (by omega) (by omega) | exact toNatO (by omega) | exact congrArg Bool.not (by assumption) | omega
theorem flf0_eq (n : Nat) (c : Nat) (g : Nat → Nat → Int) (e : TypeId) (opn : Bool) (sz : Nat) (ro : Bool) (fr : Int) (ph : Int) (jj : Nat) : seenF' Tryz.prog Tryz.f104 6 1 [] (flf0 n c g e opn sz ro fr ph jj) = some (.tuple #[.int .i64 ((jj : Nat) : Int), .bool true], flS n c g e opn sz ro fr ph ++ [], ⟨[], (True ∧ ((((flA n c g e opn sz ro fr ph fr (0 : Nat)) = (flA n c g e opn sz ro fr ph fr (0 : Nat))) ∧ ((7 = (6 + 1)) ∧ ((HAppend.hAppend (List.replicate (6 : Nat) MObj.hole) (flL n c g e opn sz ro fr ph fr (0 : Nat))) = (HAppend.hAppend (List.replicate (6 : Nat) MObj.hole) (flL n c g e opn sz ro fr ph fr (0 : Nat)))))) ∧ KC Tryz.prog none (.loop flX) (flA n c g e opn sz ro fr ph fr 0).act (wS 6 (flL n c g e opn sz ro fr ph fr 0)) .ret (flr0E n c g e opn sz ro fr ph (itR g fr jj) jj).act (wS 6 [.rows n 1 (fun i j => .int .i64 (g i j)) e opn sz ro]) 7 0))⟩) := by kernel_rfl
theorem flf0_s (n : Nat) (c : Nat) (g : Nat → Nat → Int) (e : TypeId) (opn : Bool) (sz : Nat) (ro : Bool) (fr : Int) (ph : Int) (jj : Nat) (l0 : KC Tryz.prog none (.loop flX) (flA n c g e opn sz ro fr ph fr 0).act (wS 6 (flL n c g e opn sz ro fr ph fr 0)) .ret (flr0E n c g e opn sz ro fr ph (itR g fr jj) jj).act (wS 6 [.rows n 1 (fun i j => .int .i64 (g i j)) e opn sz ro]) 7 0) : SndF Tryz.prog 104 (flArgs n c g e opn sz ro fr ph) (wS 6 (flS n c g e opn sz ro fr ph)) (.tuple #[.int .i64 ((jj : Nat) : Int), .bool true]) (wS 6 (flS n c g e opn sz ro fr ph)) 64 0 :=
  sndF_K (L := flS n c g e opn sz ro fr ph) (L2 := []) (ms := []) smx flK_ok sng (by kernel_rfl) (by kernel_rfl) (flf0_eq n c g e opn sz ro fr ph jj) (by
    repeat' (first | (with_reducible assumption) | exact (fun _ _ _ _ => rfl) | apply And.intro)
    all_goals first | trivial | rfl | assumption | exact decide_eq_true (by omega) | exact decide_eq_false (by omega) | exact bne_iff_ne.2 (by assumption) | exact bne_eq_false_iff_eq.2 (by assumption) | exact beq_iff_eq.2 (by assumption) | exact beq_eq_false_iff_ne.2 (by assumption) | exact wnextW (by omega) | exact wsub1 (by omega) (by omega) | exact toNatO (by omega) | exact congrArg Bool.not (by assumption) | omega) (by kernel_rfl) (fun o ho => by
      simp only [flS, List.mem_cons, List.not_mem_nil, or_false] at ho
      rcases ho with rfl
      all_goals first | rfl | exact fun i j => rfl) (fun o ho => by cases ho) (by kernel_rfl)
theorem flf1_eq (n : Nat) (c : Nat) (g : Nat → Nat → Int) (e : TypeId) (opn : Bool) (sz : Nat) (ro : Bool) (fr : Int) (ph : Int) : seenF' Tryz.prog Tryz.f104 6 1 [] (flf1 n c g e opn sz ro fr ph) = some (.tuple #[.int .i64 (0 : Int), .bool false], flS n c g e opn sz ro fr ph ++ [], ⟨[], (True ∧ ((((flA n c g e opn sz ro fr ph fr (0 : Nat)) = (flA n c g e opn sz ro fr ph fr (0 : Nat))) ∧ ((7 = (6 + 1)) ∧ ((HAppend.hAppend (List.replicate (6 : Nat) MObj.hole) (flL n c g e opn sz ro fr ph fr (0 : Nat))) = (HAppend.hAppend (List.replicate (6 : Nat) MObj.hole) (flL n c g e opn sz ro fr ph fr (0 : Nat)))))) ∧ KC Tryz.prog none (.loop flX) (flA n c g e opn sz ro fr ph fr 0).act (wS 6 (flL n c g e opn sz ro fr ph fr 0)) (.exit 0) (flr2E n c g e opn sz ro fr ph (itR g fr n) n).act (wS 6 [.rows n 1 (fun i j => .int .i64 (g i j)) e opn sz ro]) 7 0))⟩) := by kernel_rfl
theorem flf1_s (n : Nat) (c : Nat) (g : Nat → Nat → Int) (e : TypeId) (opn : Bool) (sz : Nat) (ro : Bool) (fr : Int) (ph : Int) (l0 : KC Tryz.prog none (.loop flX) (flA n c g e opn sz ro fr ph fr 0).act (wS 6 (flL n c g e opn sz ro fr ph fr 0)) (.exit 0) (flr2E n c g e opn sz ro fr ph (itR g fr n) n).act (wS 6 [.rows n 1 (fun i j => .int .i64 (g i j)) e opn sz ro]) 7 0) : SndF Tryz.prog 104 (flArgs n c g e opn sz ro fr ph) (wS 6 (flS n c g e opn sz ro fr ph)) (.tuple #[.int .i64 (0 : Int), .bool false]) (wS 6 (flS n c g e opn sz ro fr ph)) 64 0 :=
  sndF_K (L := flS n c g e opn sz ro fr ph) (L2 := []) (ms := []) smx flK_ok sng (by kernel_rfl) (by kernel_rfl) (flf1_eq n c g e opn sz ro fr ph) (by
    repeat' (first | (with_reducible assumption) | exact (fun _ _ _ _ => rfl) | apply And.intro)
    all_goals first | trivial | rfl | assumption | exact decide_eq_true (by omega) | exact decide_eq_false (by omega) | exact bne_iff_ne.2 (by assumption) | exact bne_eq_false_iff_eq.2 (by assumption) | exact beq_iff_eq.2 (by assumption) | exact beq_eq_false_iff_ne.2 (by assumption) | exact wnextW (by omega) | exact wsub1 (by omega) (by omega) | exact toNatO (by omega) | exact congrArg Bool.not (by assumption) | omega) (by kernel_rfl) (fun o ho => by
      simp only [flS, List.mem_cons, List.not_mem_nil, or_false] at ho
      rcases ho with rfl
      all_goals first | rfl | exact fun i j => rfl) (fun o ho => by cases ho) (by kernel_rfl)
theorem fl_ret (n : Nat) (c : Nat) (g : Nat → Nat → Int) (e : TypeId) (opn : Bool) (sz : Nat) (ro : Bool) (fr : Int) (ph : Int) (jj : Nat) (hg : ∀ i, i < n → 0 ≤ g i 0 ∧ g i 0 < (n : Int)) (hf : 0 ≤ fr ∧ fr < (n : Int)) (hn : (n : Int) ≤ 9223372036854775807) (hj : jj < n) (h1 : ∀ i, i < jj → itR g fr i ≠ ph) (h2 : itR g fr jj = ph) : KC Tryz.prog none (.loop flX) (flA n c g e opn sz ro fr ph fr 0).act (wS 6 (flL n c g e opn sz ro fr ph fr 0)) .ret (flr0E n c g e opn sz ro fr ph (itR g fr jj) jj).act (wS 6 [.rows n 1 (fun i j => .int .i64 (g i j)) e opn sz ro]) 7 0 := by
  have hi2 := itR_in hg hf
  exact K_rounds (A := fun i => (flA n c g e opn sz ro fr ph (itR g fr i) i).act) (S := fun i => wS 6 (flL n c g e opn sz ro fr ph (itR g fr i) i)) (jj) (fun i hi => flr1_k n c g e opn sz ro fr ph (itR g fr i) i ⟨hn, hi2 i⟩ (by omega) (h1 i hi)) (flr0_k n c g e opn sz ro fr ph (itR g fr jj) jj ⟨hn, hi2 jj⟩ (by omega) h2) (by simp)
theorem fl_all (n : Nat) (c : Nat) (g : Nat → Nat → Int) (e : TypeId) (opn : Bool) (sz : Nat) (ro : Bool) (fr : Int) (ph : Int)  (hg : ∀ i, i < n → 0 ≤ g i 0 ∧ g i 0 < (n : Int)) (hf : 0 ≤ fr ∧ fr < (n : Int)) (hn : (n : Int) ≤ 9223372036854775807) (h1 : ∀ i, i < n → itR g fr i ≠ ph) : KC Tryz.prog none (.loop flX) (flA n c g e opn sz ro fr ph fr 0).act (wS 6 (flL n c g e opn sz ro fr ph fr 0)) (.exit 0) (flr2E n c g e opn sz ro fr ph (itR g fr n) n).act (wS 6 [.rows n 1 (fun i j => .int .i64 (g i j)) e opn sz ro]) 7 0 := by
  have hi2 := itR_in hg hf
  exact K_rounds (A := fun i => (flA n c g e opn sz ro fr ph (itR g fr i) i).act) (S := fun i => wS 6 (flL n c g e opn sz ro fr ph (itR g fr i) i)) (n) (fun i hi => flr1_k n c g e opn sz ro fr ph (itR g fr i) i ⟨hn, hi2 i⟩ (by omega) (h1 i hi)) (flr2_k n c g e opn sz ro fr ph (itR g fr n) n ⟨hn, hi2 n⟩ (by omega)) (by simp)
theorem fl_sndF (n : Nat) (c : Nat) (g : Nat → Nat → Int) (e : TypeId) (opn : Bool) (sz : Nat) (ro : Bool) (fr : Int) (ph : Int) (hg : ∀ i, i < n → 0 ≤ g i 0 ∧ g i 0 < (n : Int)) (hf : 0 ≤ fr ∧ fr < (n : Int)) (hn : (n : Int) ≤ 9223372036854775807) : SndF Tryz.prog 104 (flArgs n c g e opn sz ro fr ph) (wS 6 (flS n c g e opn sz ro fr ph)) (fallV n g fr ph) (wS 6 (flS n c g e opn sz ro fr ph)) 64 0 := by
  unfold fallV
  rcases first_or (p := fun i => itR g fr i = ph) (fun _ => inferInstance) n with h2 | ⟨j, hj, h2, h3⟩
  · obtain ⟨e1, e2⟩ := fl_none h2
    rw [e1, e2]; exact flf1_s n c g e opn sz ro fr ph (fl_all n c g e opn sz ro fr ph hg hf hn h2)
  · obtain ⟨e1, e2⟩ := fl_some hj h3 h2
    rw [e1, e2]; exact flf0_s n c g e opn sz ro fr ph j (fl_ret n c g e opn sz ro fr ph j hg hf hn hj h3 h2)
def kFl : CallS := fun f xs s q => match decide (f = 104) with
  | true => match xs.toList with
    | [.slice (some ⟨b, 0, none⟩) n c, .int .i64 fr, .int .i64 ph] => match Nat.ble 6 b, rowK 1 .i64 s b n with
      | true, some (g, _, _, _, _, p) => some (fallV n g fr ph, s, 2 ^ b, 0, ⟨q.rest, q.ob ∧ (p ∧ ((∀ i, i < n → 0 ≤ g i 0 ∧ g i 0 < (n : Int)) ∧ (0 ≤ fr ∧ fr < (n : Int)) ∧ (n : Int) ≤ 9223372036854775807))⟩)
      | _, _ => none
    | _ => none
  | false => none
theorem kFl_ok : FOkS Tryz.prog kFl := fun f xs s q u s1 R W q1 he => by
  unfold kFl at he
  split at he
  · rename_i hf
    have hf := of_decide_eq_true hf
    subst hf
    split at he
    · rename_i b n c fr ph hx0
      split at he
      · rename_i g e opn sz ro p hb hr
        have hb := Nat.le_of_ble_eq_true hb
        have hxs : xs = #[.slice (some ⟨b, 0, none⟩) n c, .int .i64 fr, .int .i64 ph] := by apply Array.ext'; exact hx0
        subst hxs
        cases he
        refine ⟨fun hq => hq.1, fun hq => ?_⟩
        obtain ⟨hp, hx⟩ := hq.2
        obtain ⟨l1, w1⟩ := rowK_wo hr hp
        exact SndF.row (N := 6) sng (fl_sndF n c g e opn sz ro fr ph hx.1 hx.2.1 hx.2.2) rfl hb l1 w1 (fun f _ hf => wvs_three (slice_wv hf) (ground_wv (n := 8) rfl) (ground_wv (n := 8) rfl))
      · cases he
    · cases he
  · cases he
end Go.Proofs.YtecabbbjdnambaaGreatDoor
end
section
set_option linter.all false
set_option maxRecDepth 1000000
open Go.RowKit
namespace Go.Proofs.YtecabbbjdnambaaGreatDoor
open Mini
noncomputable def rlX : Code := loopAt Tryz.prog 59 0
noncomputable def rlK : CallS := noXS
def rlA (n : Nat) (c : Nat) (g : Nat → Nat → Int) (e : TypeId) (opn : Bool) (sz : Nat) (ro : Bool) (fr : Int) (ph : Int) (a8 : Int) (i9 : Nat) : MA := MA.ofL 25 [.slice (some ⟨6, 0, none⟩) n c, .chan none, .int .i64 ph, .chan none, .chan none, .chan none, .chan none, .chan none, .int .i64 a8, .int .i64 ((i9 : Nat) : Int), .chan none, .chan none, .chan none, .chan none, .chan none, .chan none, .chan none, .chan none, .chan none, .chan none, .chan none, .chan none, .chan none, .chan none, .chan none] []
def rlL (n : Nat) (c : Nat) (g : Nat → Nat → Int) (e : TypeId) (opn : Bool) (sz : Nat) (ro : Bool) (fr : Int) (ph : Int) (a8 : Int) (i9 : Nat) : List MObj := [.rows n 1 (fun i j => .int .i64 (g i j)) e opn sz ro]
noncomputable def rlr0 (n : Nat) (c : Nat) (g : Nat → Nat → Int) (e : TypeId) (opn : Bool) (sz : Nat) (ro : Bool) (fr : Int) (ph : Int) (a8 : Int) (i9 : Nat) : Option OutCS := evK Tryz.prog rlK 1000 false rlX (rlA n c g e opn sz ro fr ph a8 i9) (wS 6 (rlL n c g e opn sz ro fr ph a8 i9)) ⟨[0], True⟩
def rlr0E (n : Nat) (c : Nat) (g : Nat → Nat → Int) (e : TypeId) (opn : Bool) (sz : Nat) (ro : Bool) (fr : Int) (ph : Int) (a8 : Int) (i9 : Nat) : MA := MA.ofL 25 [.chan none, .chan none, .chan none, .chan none, .chan none, .chan none, .chan none, .chan none, .chan none, .chan none, .chan none, .chan none, .chan none, .chan none, .chan none, .chan none, .chan none, .chan none, .chan none, .chan none, .chan none, .chan none, .chan none, .chan none, .chan none] []
noncomputable def rlr1 (n : Nat) (c : Nat) (g : Nat → Nat → Int) (e : TypeId) (opn : Bool) (sz : Nat) (ro : Bool) (fr : Int) (ph : Int) (a8 : Int) (i9 : Nat) : Option OutCS := evK Tryz.prog rlK 1000 false rlX (rlA n c g e opn sz ro fr ph a8 i9) (wS 6 (rlL n c g e opn sz ro fr ph a8 i9)) ⟨[1, 1], True⟩
def rlr1E (n : Nat) (c : Nat) (g : Nat → Nat → Int) (e : TypeId) (opn : Bool) (sz : Nat) (ro : Bool) (fr : Int) (ph : Int) (a8 : Int) (i9 : Nat) : MA := MA.ofL 25 [.chan none, .chan none, .chan none, .chan none, .chan none, .chan none, .int .i64 ((i9 : Nat) : Int), .bool true, .chan none, .chan none, .chan none, .chan none, .chan none, .chan none, .chan none, .chan none, .chan none, .chan none, .chan none, .chan none, .chan none, .chan none, .chan none, .chan none, .chan none] []
noncomputable def rlr2 (n : Nat) (c : Nat) (g : Nat → Nat → Int) (e : TypeId) (opn : Bool) (sz : Nat) (ro : Bool) (fr : Int) (ph : Int) (a8 : Int) (i9 : Nat) : Option OutCS := evK Tryz.prog rlK 1000 false rlX (rlA n c g e opn sz ro fr ph a8 i9) (wS 6 (rlL n c g e opn sz ro fr ph a8 i9)) ⟨[1, 0, .row (Int.toNat a8) 0, .row (Int.toNat a8) 0, .azz (.int .i64 ((i9 + 1 : Nat) : Int))], True⟩
def rlArgs (n : Nat) (c : Nat) (g : Nat → Nat → Int) (e : TypeId) (opn : Bool) (sz : Nat) (ro : Bool) (fr : Int) (ph : Int) : Array Value := #[.slice (some ⟨6, 0, none⟩) n c, .int .i64 fr, .int .i64 ph]
def rlS (n : Nat) (c : Nat) (g : Nat → Nat → Int) (e : TypeId) (opn : Bool) (sz : Nat) (ro : Bool) (fr : Int) (ph : Int) : List MObj := [.rows n 1 (fun i j => .int .i64 (g i j)) e opn sz ro]
noncomputable def rlf0 (n : Nat) (c : Nat) (g : Nat → Nat → Int) (e : TypeId) (opn : Bool) (sz : Nat) (ro : Bool) (fr : Int) (ph : Int) (jj : Nat) : Option OutCS := evK Tryz.prog rlK 1000 false (bodyOf Tryz.prog 59) (startM Tryz.f59 (rlArgs n c g e opn sz ro fr ph)) (wS 6 (rlS n c g e opn sz ro fr ph)) ⟨[.lp 773 (rlA n c g e opn sz ro fr ph fr 0) 6 (rlL n c g e opn sz ro fr ph fr 0) .ret (rlr1E n c g e opn sz ro fr ph (itR g fr jj) jj) [.rows n 1 (fun i j => .int .i64 (g i j)) e opn sz ro] 7 0], True⟩
noncomputable def rlf1 (n : Nat) (c : Nat) (g : Nat → Nat → Int) (e : TypeId) (opn : Bool) (sz : Nat) (ro : Bool) (fr : Int) (ph : Int) : Option OutCS := evK Tryz.prog rlK 1000 false (bodyOf Tryz.prog 59) (startM Tryz.f59 (rlArgs n c g e opn sz ro fr ph)) (wS 6 (rlS n c g e opn sz ro fr ph)) ⟨[.lp 773 (rlA n c g e opn sz ro fr ph fr 0) 6 (rlL n c g e opn sz ro fr ph fr 0) (.exit 0) (rlr0E n c g e opn sz ro fr ph (itR g fr (n + 1)) (n + 1)) [.rows n 1 (fun i j => .int .i64 (g i j)) e opn sz ro] 7 0], True⟩
theorem rlK_ok : FOkS Tryz.prog rlK := noXS_ok
theorem rlr0_eq (n : Nat) (c : Nat) (g : Nat → Nat → Int) (e : TypeId) (opn : Bool) (sz : Nat) (ro : Bool) (fr : Int) (ph : Int) (a8 : Int) (i9 : Nat) : seenK 6 1 [] 0 0 (rlr0 n c g e opn sz ro fr ph a8 i9) = some ((.exit 0), rlr0E n c g e opn sz ro fr ph a8 i9, [.rows n 1 (fun i j => .int .i64 (g i j)) e opn sz ro], 0, ⟨[], (True ∧ ((decide ((((i9 : Nat)) : Int) ≤ (((n : Nat)) : Int))) = false))⟩) := by kernel_rfl
theorem rlr0_k (n : Nat) (c : Nat) (g : Nat → Nat → Int) (e : TypeId) (opn : Bool) (sz : Nat) (ro : Bool) (fr : Int) (ph : Int) (a8 : Int) (i9 : Nat) (hx : (n : Int) ≤ 1048576 ∧ 0 ≤ a8 ∧ a8 < (n : Int)) (h0 : ((n : Nat) : Int) < ((i9 : Nat) : Int)) : KC Tryz.prog none rlX (rlA n c g e opn sz ro fr ph a8 i9).act (wS 6 (rlL n c g e opn sz ro fr ph a8 i9)) (.exit 0) (rlr0E n c g e opn sz ro fr ph a8 i9).act (wS 6 [.rows n 1 (fun i j => .int .i64 (g i j)) e opn sz ro]) 7 0 := by
  refine seenK_ok smx rlK_ok sng (rlr0_eq n c g e opn sz ro fr ph a8 i9) ?_
  · skip
    repeat' (first | (with_reducible assumption) | exact (fun _ _ _ _ => rfl) | apply And.intro)
    all_goals first | trivial | rfl | assumption | exact decide_eq_true (by omega) | exact decide_eq_false (by omega) | exact bne_iff_ne.2 (by assumption) | exact bne_eq_false_iff_eq.2 (by assumption) | exact beq_iff_eq.2 (by assumption) | exact beq_eq_false_iff_ne.2 (by assumption) | exact wnextW (by omega) | exact wsub1 (by omega) (by omega) | exact toNatO (by omega) | exact congrArg Bool.not (by assumption) | omega
theorem rlr1_eq (n : Nat) (c : Nat) (g : Nat → Nat → Int) (e : TypeId) (opn : Bool) (sz : Nat) (ro : Bool) (fr : Int) (ph : Int) (a8 : Int) (i9 : Nat) : seenK 6 1 [] 192 0 (rlr1 n c g e opn sz ro fr ph a8 i9) = some (.ret, rlr1E n c g e opn sz ro fr ph a8 i9, [.rows n 1 (fun i j => .int .i64 (g i j)) e opn sz ro], 0, ⟨[], ((True ∧ ((decide ((((i9 : Nat)) : Int) ≤ (((n : Nat)) : Int))) = true)) ∧ ((a8 == ph) = true))⟩) := by kernel_rfl
theorem rlr1_k (n : Nat) (c : Nat) (g : Nat → Nat → Int) (e : TypeId) (opn : Bool) (sz : Nat) (ro : Bool) (fr : Int) (ph : Int) (a8 : Int) (i9 : Nat) (hx : (n : Int) ≤ 1048576 ∧ 0 ≤ a8 ∧ a8 < (n : Int)) (h0 : ¬ ((n : Nat) : Int) < ((i9 : Nat) : Int)) (h1 : a8 = ph) : KC Tryz.prog none rlX (rlA n c g e opn sz ro fr ph a8 i9).act (wS 6 (rlL n c g e opn sz ro fr ph a8 i9)) .ret (rlr1E n c g e opn sz ro fr ph a8 i9).act (wS 6 [.rows n 1 (fun i j => .int .i64 (g i j)) e opn sz ro]) 7 0 := by
  refine seenK_ok smx rlK_ok sng (rlr1_eq n c g e opn sz ro fr ph a8 i9) ?_
  · skip
    repeat' (first | (with_reducible assumption) | exact (fun _ _ _ _ => rfl) | apply And.intro)
    all_goals first | trivial | rfl | assumption | exact decide_eq_true (by omega) | exact decide_eq_false (by omega) | exact bne_iff_ne.2 (by assumption) | exact bne_eq_false_iff_eq.2 (by assumption) | exact beq_iff_eq.2 (by assumption) | exact beq_eq_false_iff_ne.2 (by assumption) | exact wnextW (by omega) | exact wsub1 (by omega) (by omega) | exact toNatO (by omega) | exact congrArg Bool.not (by assumption) | omega
theorem rlr2_eq (n : Nat) (c : Nat) (g : Nat → Nat → Int) (e : TypeId) (opn : Bool) (sz : Nat) (ro : Bool) (fr : Int) (ph : Int) (a8 : Int) (i9 : Nat) : seenK 6 1 [] 773 0 (rlr2 n c g e opn sz ro fr ph a8 i9) = some (.normal, rlA n c g e opn sz ro fr ph (g (Int.toNat a8) 0) (i9 + 1), [.rows n 1 (fun i j => .int .i64 (g i j)) e opn sz ro], 0, ⟨[], (((((True ∧ ((decide ((((i9 : Nat)) : Int) ≤ (((n : Nat)) : Int))) = true)) ∧ ((a8 == ph) = false)) ∧ ((a8 = (Int.ofNat (Int.toNat a8))) ∧ ((Int.toNat a8) < n))) ∧ (((0 + ((Int.toNat a8) * 1)) = (((Int.toNat a8) * 1) + 0)) ∧ ((Int.toNat a8) < n))) ∧ (((.int .i64 (IntKind.i64.wrap ((((i9 : Nat)) : Int) + (1 : Int)))) : Value) = (.int .i64 ((((i9 + 1) : Nat)) : Int))))⟩) := by kernel_rfl
theorem rlr2_k (n : Nat) (c : Nat) (g : Nat → Nat → Int) (e : TypeId) (opn : Bool) (sz : Nat) (ro : Bool) (fr : Int) (ph : Int) (a8 : Int) (i9 : Nat) (hx : (n : Int) ≤ 1048576 ∧ 0 ≤ a8 ∧ a8 < (n : Int)) (h0 : ¬ ((n : Nat) : Int) < ((i9 : Nat) : Int)) (h1 : a8 ≠ ph) : KC Tryz.prog none rlX (rlA n c g e opn sz ro fr ph a8 i9).act (wS 6 (rlL n c g e opn sz ro fr ph a8 i9)) .normal (rlA n c g e opn sz ro fr ph (g (Int.toNat a8) 0) (i9 + 1)).act (wS 6 (rlL n c g e opn sz ro fr ph (g (Int.toNat a8) 0) (i9 + 1))) 7 0 := by
  refine seenK_ok smx rlK_ok sng (rlr2_eq n c g e opn sz ro fr ph a8 i9) ?_
  · skip
    repeat' (first | (with_reducible assumption) | exact (fun _ _ _ _ => rfl) | apply And.intro)
    all_goals first | trivial | rfl | assumption | exact decide_eq_true (by omega) | exact decide_eq_false (by omega) | exact bne_iff_ne.2 (by assumption) | exact bne_eq_false_iff_eq.2 (by assumption) | exact beq_iff_eq.2 (by assumption) | exact beq_eq_false_iff_ne.2 (by assumption) | exact wnextW (by omega) | exact wsub1 (by omega) (by omega) | exact toNatO (by omega) | exact congrArg Bool.not (by assumption) | omega
theorem rlf0_eq (n : Nat) (c : Nat) (g : Nat → Nat → Int) (e : TypeId) (opn : Bool) (sz : Nat) (ro : Bool) (fr : Int) (ph : Int) (jj : Nat) : seenF' Tryz.prog Tryz.f59 6 1 [] (rlf0 n c g e opn sz ro fr ph jj) = some (.tuple #[.int .i64 ((jj : Nat) : Int), .bool true], rlS n c g e opn sz ro fr ph ++ [], ⟨[], (True ∧ ((((rlA n c g e opn sz ro fr ph fr (0 : Nat)) = (rlA n c g e opn sz ro fr ph fr (0 : Nat))) ∧ ((7 = (6 + 1)) ∧ ((HAppend.hAppend (List.replicate (6 : Nat) MObj.hole) (rlL n c g e opn sz ro fr ph fr (0 : Nat))) = (HAppend.hAppend (List.replicate (6 : Nat) MObj.hole) (rlL n c g e opn sz ro fr ph fr (0 : Nat)))))) ∧ KC Tryz.prog none (.loop rlX) (rlA n c g e opn sz ro fr ph fr 0).act (wS 6 (rlL n c g e opn sz ro fr ph fr 0)) .ret (rlr1E n c g e opn sz ro fr ph (itR g fr jj) jj).act (wS 6 [.rows n 1 (fun i j => .int .i64 (g i j)) e opn sz ro]) 7 0))⟩) := by kernel_rfl
theorem rlf0_s (n : Nat) (c : Nat) (g : Nat → Nat → Int) (e : TypeId) (opn : Bool) (sz : Nat) (ro : Bool) (fr : Int) (ph : Int) (jj : Nat) (l0 : KC Tryz.prog none (.loop rlX) (rlA n c g e opn sz ro fr ph fr 0).act (wS 6 (rlL n c g e opn sz ro fr ph fr 0)) .ret (rlr1E n c g e opn sz ro fr ph (itR g fr jj) jj).act (wS 6 [.rows n 1 (fun i j => .int .i64 (g i j)) e opn sz ro]) 7 0) : SndF Tryz.prog 59 (rlArgs n c g e opn sz ro fr ph) (wS 6 (rlS n c g e opn sz ro fr ph)) (.tuple #[.int .i64 ((jj : Nat) : Int), .bool true]) (wS 6 (rlS n c g e opn sz ro fr ph)) 64 0 :=
  sndF_K (L := rlS n c g e opn sz ro fr ph) (L2 := []) (ms := []) smx rlK_ok sng (by kernel_rfl) (by kernel_rfl) (rlf0_eq n c g e opn sz ro fr ph jj) (by
    repeat' (first | (with_reducible assumption) | exact (fun _ _ _ _ => rfl) | apply And.intro)
    all_goals first | trivial | rfl | assumption | exact decide_eq_true (by omega) | exact decide_eq_false (by omega) | exact bne_iff_ne.2 (by assumption) | exact bne_eq_false_iff_eq.2 (by assumption) | exact beq_iff_eq.2 (by assumption) | exact beq_eq_false_iff_ne.2 (by assumption) | exact wnextW (by omega) | exact wsub1 (by omega) (by omega) | exact toNatO (by omega) | exact congrArg Bool.not (by assumption) | omega) (by kernel_rfl) (fun o ho => by
      simp only [rlS, List.mem_cons, List.not_mem_nil, or_false] at ho
      rcases ho with rfl
      all_goals first | rfl | exact fun i j => rfl) (fun o ho => by cases ho) (by kernel_rfl)
theorem rlf1_eq (n : Nat) (c : Nat) (g : Nat → Nat → Int) (e : TypeId) (opn : Bool) (sz : Nat) (ro : Bool) (fr : Int) (ph : Int) : seenF' Tryz.prog Tryz.f59 6 1 [] (rlf1 n c g e opn sz ro fr ph) = some (.tuple #[.int .i64 (0 : Int), .bool false], rlS n c g e opn sz ro fr ph ++ [], ⟨[], (True ∧ ((((rlA n c g e opn sz ro fr ph fr (0 : Nat)) = (rlA n c g e opn sz ro fr ph fr (0 : Nat))) ∧ ((7 = (6 + 1)) ∧ ((HAppend.hAppend (List.replicate (6 : Nat) MObj.hole) (rlL n c g e opn sz ro fr ph fr (0 : Nat))) = (HAppend.hAppend (List.replicate (6 : Nat) MObj.hole) (rlL n c g e opn sz ro fr ph fr (0 : Nat)))))) ∧ KC Tryz.prog none (.loop rlX) (rlA n c g e opn sz ro fr ph fr 0).act (wS 6 (rlL n c g e opn sz ro fr ph fr 0)) (.exit 0) (rlr0E n c g e opn sz ro fr ph (itR g fr (n + 1)) (n + 1)).act (wS 6 [.rows n 1 (fun i j => .int .i64 (g i j)) e opn sz ro]) 7 0))⟩) := by kernel_rfl
theorem rlf1_s (n : Nat) (c : Nat) (g : Nat → Nat → Int) (e : TypeId) (opn : Bool) (sz : Nat) (ro : Bool) (fr : Int) (ph : Int) (l0 : KC Tryz.prog none (.loop rlX) (rlA n c g e opn sz ro fr ph fr 0).act (wS 6 (rlL n c g e opn sz ro fr ph fr 0)) (.exit 0) (rlr0E n c g e opn sz ro fr ph (itR g fr (n + 1)) (n + 1)).act (wS 6 [.rows n 1 (fun i j => .int .i64 (g i j)) e opn sz ro]) 7 0) : SndF Tryz.prog 59 (rlArgs n c g e opn sz ro fr ph) (wS 6 (rlS n c g e opn sz ro fr ph)) (.tuple #[.int .i64 (0 : Int), .bool false]) (wS 6 (rlS n c g e opn sz ro fr ph)) 64 0 :=
  sndF_K (L := rlS n c g e opn sz ro fr ph) (L2 := []) (ms := []) smx rlK_ok sng (by kernel_rfl) (by kernel_rfl) (rlf1_eq n c g e opn sz ro fr ph) (by
    repeat' (first | (with_reducible assumption) | exact (fun _ _ _ _ => rfl) | apply And.intro)
    all_goals first | trivial | rfl | assumption | exact decide_eq_true (by omega) | exact decide_eq_false (by omega) | exact bne_iff_ne.2 (by assumption) | exact bne_eq_false_iff_eq.2 (by assumption) | exact beq_iff_eq.2 (by assumption) | exact beq_eq_false_iff_ne.2 (by assumption) | exact wnextW (by omega) | exact wsub1 (by omega) (by omega) | exact toNatO (by omega) | exact congrArg Bool.not (by assumption) | omega) (by kernel_rfl) (fun o ho => by
      simp only [rlS, List.mem_cons, List.not_mem_nil, or_false] at ho
      rcases ho with rfl
      all_goals first | rfl | exact fun i j => rfl) (fun o ho => by cases ho) (by kernel_rfl)
theorem rl_ret (n : Nat) (c : Nat) (g : Nat → Nat → Int) (e : TypeId) (opn : Bool) (sz : Nat) (ro : Bool) (fr : Int) (ph : Int) (jj : Nat) (hg : ∀ i, i < n → 0 ≤ g i 0 ∧ g i 0 < (n : Int)) (hf : 0 ≤ fr ∧ fr < (n : Int)) (hn : n ≤ 1048576) (hj : jj < n) (h1 : ∀ i, i < jj → itR g fr i ≠ ph) (h2 : itR g fr jj = ph) : KC Tryz.prog none (.loop rlX) (rlA n c g e opn sz ro fr ph fr 0).act (wS 6 (rlL n c g e opn sz ro fr ph fr 0)) .ret (rlr1E n c g e opn sz ro fr ph (itR g fr jj) jj).act (wS 6 [.rows n 1 (fun i j => .int .i64 (g i j)) e opn sz ro]) 7 0 := by
  have hi2 := itR_in hg hf
  exact K_rounds (A := fun i => (rlA n c g e opn sz ro fr ph (itR g fr i) i).act) (S := fun i => wS 6 (rlL n c g e opn sz ro fr ph (itR g fr i) i)) (jj) (fun i hi => rlr2_k n c g e opn sz ro fr ph (itR g fr i) i ⟨by omega, hi2 i⟩ (by omega) (h1 i hi)) (rlr1_k n c g e opn sz ro fr ph (itR g fr jj) jj ⟨by omega, hi2 jj⟩ (by omega) h2) (by simp)
theorem rl_all (n : Nat) (c : Nat) (g : Nat → Nat → Int) (e : TypeId) (opn : Bool) (sz : Nat) (ro : Bool) (fr : Int) (ph : Int)  (hg : ∀ i, i < n → 0 ≤ g i 0 ∧ g i 0 < (n : Int)) (hf : 0 ≤ fr ∧ fr < (n : Int)) (hn : n ≤ 1048576) (h1 : ∀ i, i < n → itR g fr i ≠ ph) : KC Tryz.prog none (.loop rlX) (rlA n c g e opn sz ro fr ph fr 0).act (wS 6 (rlL n c g e opn sz ro fr ph fr 0)) (.exit 0) (rlr0E n c g e opn sz ro fr ph (itR g fr (n + 1)) (n + 1)).act (wS 6 [.rows n 1 (fun i j => .int .i64 (g i j)) e opn sz ro]) 7 0 := by
  have hi2 := itR_in hg hf
  exact K_rounds (A := fun i => (rlA n c g e opn sz ro fr ph (itR g fr i) i).act) (S := fun i => wS 6 (rlL n c g e opn sz ro fr ph (itR g fr i) i)) ((n + 1)) (fun i hi => rlr2_k n c g e opn sz ro fr ph (itR g fr i) i ⟨by omega, hi2 i⟩ (by omega) (by rcases Nat.lt_or_ge i n with c | c; exact h1 i c; rw [show i = n from by omega]; exact itR_far hg hf h1)) (rlr0_k n c g e opn sz ro fr ph (itR g fr (n + 1)) (n + 1) ⟨by omega, hi2 (n + 1)⟩ (by omega)) (by simp)
theorem rl_sndF (n : Nat) (c : Nat) (g : Nat → Nat → Int) (e : TypeId) (opn : Bool) (sz : Nat) (ro : Bool) (fr : Int) (ph : Int) (hg : ∀ i, i < n → 0 ≤ g i 0 ∧ g i 0 < (n : Int)) (hf : 0 ≤ fr ∧ fr < (n : Int)) (hn : n ≤ 1048576) : SndF Tryz.prog 59 (rlArgs n c g e opn sz ro fr ph) (wS 6 (rlS n c g e opn sz ro fr ph)) (fallV n g fr ph) (wS 6 (rlS n c g e opn sz ro fr ph)) 64 0 := by
  unfold fallV
  rcases first_or (p := fun i => itR g fr i = ph) (fun _ => inferInstance) n with h2 | ⟨j, hj, h2, h3⟩
  · obtain ⟨e1, e2⟩ := fl_none h2
    rw [e1, e2]; exact rlf1_s n c g e opn sz ro fr ph (rl_all n c g e opn sz ro fr ph hg hf hn h2)
  · obtain ⟨e1, e2⟩ := fl_some hj h3 h2
    rw [e1, e2]; exact rlf0_s n c g e opn sz ro fr ph j (rl_ret n c g e opn sz ro fr ph j hg hf hn hj h3 h2)
def kRl : CallS := fun f xs s q => match decide (f = 59) with
  | true => match xs.toList with
    | [.slice (some ⟨b, 0, none⟩) n c, .int .i64 fr, .int .i64 ph] => match Nat.ble 6 b, rowK 1 .i64 s b n with
      | true, some (g, _, _, _, _, p) => some (fallV n g fr ph, s, 2 ^ b, 0, ⟨q.rest, q.ob ∧ (p ∧ ((∀ i, i < n → 0 ≤ g i 0 ∧ g i 0 < (n : Int)) ∧ (0 ≤ fr ∧ fr < (n : Int)) ∧ n ≤ 1048576))⟩)
      | _, _ => none
    | _ => none
  | false => none
theorem kRl_ok : FOkS Tryz.prog kRl := fun f xs s q u s1 R W q1 he => by
  unfold kRl at he
  split at he
  · rename_i hf
    have hf := of_decide_eq_true hf
    subst hf
    split at he
    · rename_i b n c fr ph hx0
      split at he
      · rename_i g e opn sz ro p hb hr
        have hb := Nat.le_of_ble_eq_true hb
        have hxs : xs = #[.slice (some ⟨b, 0, none⟩) n c, .int .i64 fr, .int .i64 ph] := by apply Array.ext'; exact hx0
        subst hxs
        cases he
        refine ⟨fun hq => hq.1, fun hq => ?_⟩
        obtain ⟨hp, hx⟩ := hq.2
        obtain ⟨l1, w1⟩ := rowK_wo hr hp
        exact SndF.row (N := 6) sng (rl_sndF n c g e opn sz ro fr ph hx.1 hx.2.1 hx.2.2) rfl hb l1 w1 (fun f _ hf => wvs_three (slice_wv hf) (ground_wv (n := 8) rfl) (ground_wv (n := 8) rfl))
      · cases he
    · cases he
  · cases he
end Go.Proofs.YtecabbbjdnambaaGreatDoor
end
section
set_option linter.all false
set_option maxRecDepth 1000000
open Go.RowKit
namespace Go.Proofs.YtecabbbjdnambaaGreatDoor
open Mini
noncomputable def cpK : CallS := bothX kCr (bothX kRCr (bothX kFl (bothX kRl (kAll [c_range, c_rrange, c_index]))))
def cpArgs (n : Nat) (c : Nat) (g : Nat → Nat → Int) (e : TypeId) (opn : Bool) (sz : Nat) (ro : Bool) (ph : Int) : Array Value := #[.slice (some ⟨6, 0, none⟩) n c, .int .i64 ph]
def cpS (n : Nat) (c : Nat) (g : Nat → Nat → Int) (e : TypeId) (opn : Bool) (sz : Nat) (ro : Bool) (ph : Int) : List MObj := [.rows n 1 (fun i j => .int .i64 (g i j)) e opn sz ro]
noncomputable def cpf0 (n : Nat) (c : Nat) (g : Nat → Nat → Int) (e : TypeId) (opn : Bool) (sz : Nat) (ro : Bool) (ph : Int) : Option OutCS := evK Tryz.prog cpK 1000 false (bodyOf Tryz.prog 57) (startM Tryz.f57 (cpArgs n c g e opn sz ro ph)) (wS 6 (cpS n c g e opn sz ro ph)) ⟨[0, 0, 0, 0, 0, 1, 1], True⟩
noncomputable def cpf1 (n : Nat) (c : Nat) (g : Nat → Nat → Int) (e : TypeId) (opn : Bool) (sz : Nat) (ro : Bool) (ph : Int) : Option OutCS := evK Tryz.prog cpK 1000 false (bodyOf Tryz.prog 57) (startM Tryz.f57 (cpArgs n c g e opn sz ro ph)) (wS 6 (cpS n c g e opn sz ro ph)) ⟨[0, 1, 1, 1, 1, 0, 0], True⟩
noncomputable def cpf2 (n : Nat) (c : Nat) (g : Nat → Nat → Int) (e : TypeId) (opn : Bool) (sz : Nat) (ro : Bool) (ph : Int) : Option OutCS := evK Tryz.prog cpK 1000 false (bodyOf Tryz.prog 57) (startM Tryz.f57 (cpArgs n c g e opn sz ro ph)) (wS 6 (cpS n c g e opn sz ro ph)) ⟨[0, 1, 1, 1, 1, 0, 1], True⟩
noncomputable def cpf3 (n : Nat) (c : Nat) (g : Nat → Nat → Int) (e : TypeId) (opn : Bool) (sz : Nat) (ro : Bool) (ph : Int) : Option OutCS := evK Tryz.prog cpK 1000 false (bodyOf Tryz.prog 57) (startM Tryz.f57 (cpArgs n c g e opn sz ro ph)) (wS 6 (cpS n c g e opn sz ro ph)) ⟨[1], True⟩
def lkArgs (n : Nat) (c : Nat) (g : Nat → Nat → Int) (e : TypeId) (opn : Bool) (sz : Nat) (ro : Bool) (fr : Int) (ph : Int) : Array Value := #[.slice (some ⟨6, 0, none⟩) n c, .int .i64 fr, .int .i64 ph]
def lkS (n : Nat) (c : Nat) (g : Nat → Nat → Int) (e : TypeId) (opn : Bool) (sz : Nat) (ro : Bool) (fr : Int) (ph : Int) : List MObj := [.rows n 1 (fun i j => .int .i64 (g i j)) e opn sz ro]
noncomputable def lkf0 (n : Nat) (c : Nat) (g : Nat → Nat → Int) (e : TypeId) (opn : Bool) (sz : Nat) (ro : Bool) (fr : Int) (ph : Int) : Option OutCS := evK Tryz.prog cpK 1000 false (bodyOf Tryz.prog 55) (startM Tryz.f55 (lkArgs n c g e opn sz ro fr ph)) (wS 6 (lkS n c g e opn sz ro fr ph)) ⟨[1, 0, 0, 1, 1, 0, 1, 2, 0, 0, 0, 0], True⟩
noncomputable def lkf1 (n : Nat) (c : Nat) (g : Nat → Nat → Int) (e : TypeId) (opn : Bool) (sz : Nat) (ro : Bool) (fr : Int) (ph : Int) : Option OutCS := evK Tryz.prog cpK 1000 false (bodyOf Tryz.prog 55) (startM Tryz.f55 (lkArgs n c g e opn sz ro fr ph)) (wS 6 (lkS n c g e opn sz ro fr ph)) ⟨[1, 0, 0, 1, 1, 0, 1, 2, 0, 0, 0, 1], True⟩
noncomputable def lkf2 (n : Nat) (c : Nat) (g : Nat → Nat → Int) (e : TypeId) (opn : Bool) (sz : Nat) (ro : Bool) (fr : Int) (ph : Int) : Option OutCS := evK Tryz.prog cpK 1000 false (bodyOf Tryz.prog 55) (startM Tryz.f55 (lkArgs n c g e opn sz ro fr ph)) (wS 6 (lkS n c g e opn sz ro fr ph)) ⟨[1, 0, 0, 1, 1, 0, 1, 2, 1, 1], True⟩
noncomputable def lkf3 (n : Nat) (c : Nat) (g : Nat → Nat → Int) (e : TypeId) (opn : Bool) (sz : Nat) (ro : Bool) (fr : Int) (ph : Int) : Option OutCS := evK Tryz.prog cpK 1000 false (bodyOf Tryz.prog 55) (startM Tryz.f55 (lkArgs n c g e opn sz ro fr ph)) (wS 6 (lkS n c g e opn sz ro fr ph)) ⟨[1, 0, 0, 1, 1, 1, 1], True⟩
noncomputable def lkf4 (n : Nat) (c : Nat) (g : Nat → Nat → Int) (e : TypeId) (opn : Bool) (sz : Nat) (ro : Bool) (fr : Int) (ph : Int) : Option OutCS := evK Tryz.prog cpK 1000 false (bodyOf Tryz.prog 55) (startM Tryz.f55 (lkArgs n c g e opn sz ro fr ph)) (wS 6 (lkS n c g e opn sz ro fr ph)) ⟨[1, 0, 1, 1], True⟩
theorem cpK_ok : FOkS Tryz.prog cpK := bothX_ok kCr_ok (bothX_ok kRCr_ok (bothX_ok kFl_ok (bothX_ok kRl_ok (kAll_ok _ ⟨k_range, k_rrange, k_index, trivial⟩))))
theorem cpf0_eq (n : Nat) (c : Nat) (g : Nat → Nat → Int) (e : TypeId) (opn : Bool) (sz : Nat) (ro : Bool) (ph : Int) : seenF' Tryz.prog Tryz.f57 6 1 [] (cpf0 n c g e opn sz ro ph) = some (.int .i64 (10 : Int), cpS n c g e opn sz ro ph ++ [], ⟨[], ((((((((True ∧ (((n = n) ∧ (∀ (i : Nat), ((i < n) → (∀ (j : Nat), ((j < (1 : Nat)) → ((Value.int .i64 (g i j)) = (Value.int .i64 (gI (Value.int .i64 (g i j)))))))))) ∧ ((((n : Nat)) : Int) ≤ (9223372036854775807 : Int)))) ∧ (((crV n (fun (i : Nat) => (fun (j : Nat) => (gI (Value.int .i64 (g i j)))))) != (0 : Int)) = false)) ∧ ((decide (ph < (0 : Int))) = true)) ∧ ((decide (ph < (0 : Int))) = true)) ∧ ((decide (ph < (0 : Int))) = true)) ∧ ((decide (ph < (0 : Int))) = true)) ∧ ((decide (ph < (0 : Int))) = true)) ∧ (true = true))⟩) := by kernel_rfl
theorem cpf0_s (n : Nat) (c : Nat) (g : Nat → Nat → Int) (e : TypeId) (opn : Bool) (sz : Nat) (ro : Bool) (ph : Int) (hx : (n : Int) ≤ 9223372036854775807) (h0 : (crV n g) = (0 : Int)) (h1 : ph < (0 : Int)) : SndF Tryz.prog 57 (cpArgs n c g e opn sz ro ph) (wS 6 (cpS n c g e opn sz ro ph)) (.int .i64 (10 : Int)) (wS 6 (cpS n c g e opn sz ro ph)) 64 0 :=
  sndF_K (L := cpS n c g e opn sz ro ph) (L2 := []) (ms := []) smx cpK_ok sng (by kernel_rfl) (by kernel_rfl) (cpf0_eq n c g e opn sz ro ph) (by
    repeat' (first | (with_reducible assumption) | exact (fun _ _ _ _ => rfl) | apply And.intro)
    all_goals first | trivial | rfl | assumption | exact decide_eq_true (by omega) | exact decide_eq_false (by omega) | exact bne_iff_ne.2 (by assumption) | exact bne_eq_false_iff_eq.2 (by assumption) | exact beq_iff_eq.2 (by assumption) | exact beq_eq_false_iff_ne.2 (by assumption) | exact wnextW (by omega) | exact wsub1 (by omega) (by omega) | exact toNatO (by omega) | exact congrArg Bool.not (by assumption) | exact congrArg Bool.not (decide_eq_true (by omega)) | exact congrArg Bool.not (decide_eq_false (by omega)) | exact congrArg Bool.not (beq_iff_eq.2 (by assumption)) | exact congrArg Bool.not (beq_eq_false_iff_ne.2 (by assumption)) | exact beq_eq_false_iff_ne.2 (by omega) | exact beq_iff_eq.2 (by omega) | exact bne_iff_ne.2 (by omega) | exact bne_eq_false_iff_eq.2 (by omega) | omega) (by kernel_rfl) (fun o ho => by
      simp only [cpS, List.mem_cons, List.not_mem_nil, or_false] at ho
      rcases ho with rfl
      all_goals first | rfl | exact fun i j => rfl) (fun o ho => by cases ho) (by kernel_rfl)
theorem cpf1_eq (n : Nat) (c : Nat) (g : Nat → Nat → Int) (e : TypeId) (opn : Bool) (sz : Nat) (ro : Bool) (ph : Int) : seenF' Tryz.prog Tryz.f57 6 1 [] (cpf1 n c g e opn sz ro ph) = some (.int .i64 (0 : Int), cpS n c g e opn sz ro ph ++ [], ⟨[], ((((((((True ∧ (((n = n) ∧ (∀ (i : Nat), ((i < n) → (∀ (j : Nat), ((j < (1 : Nat)) → ((Value.int .i64 (g i j)) = (Value.int .i64 (gI (Value.int .i64 (g i j)))))))))) ∧ ((((n : Nat)) : Int) ≤ (9223372036854775807 : Int)))) ∧ (((crV n (fun (i : Nat) => (fun (j : Nat) => (gI (Value.int .i64 (g i j)))))) != (0 : Int)) = false)) ∧ ((decide (ph < (0 : Int))) = false)) ∧ ((decide (ph < (0 : Int))) = false)) ∧ ((decide (ph < (0 : Int))) = false)) ∧ ((decide (ph < (0 : Int))) = false)) ∧ ((decide (ph < (0 : Int))) = false)) ∧ ((decide (ph ≥ (((n : Nat)) : Int))) = false))⟩) := by kernel_rfl
theorem cpf1_s (n : Nat) (c : Nat) (g : Nat → Nat → Int) (e : TypeId) (opn : Bool) (sz : Nat) (ro : Bool) (ph : Int) (hx : (n : Int) ≤ 9223372036854775807) (h0 : (crV n g) = (0 : Int)) (h1 : ¬ ph < (0 : Int)) (h2 : ph < ((n : Nat) : Int)) : SndF Tryz.prog 57 (cpArgs n c g e opn sz ro ph) (wS 6 (cpS n c g e opn sz ro ph)) (.int .i64 (0 : Int)) (wS 6 (cpS n c g e opn sz ro ph)) 64 0 :=
  sndF_K (L := cpS n c g e opn sz ro ph) (L2 := []) (ms := []) smx cpK_ok sng (by kernel_rfl) (by kernel_rfl) (cpf1_eq n c g e opn sz ro ph) (by
    repeat' (first | (with_reducible assumption) | exact (fun _ _ _ _ => rfl) | apply And.intro)
    all_goals first | trivial | rfl | assumption | exact decide_eq_true (by omega) | exact decide_eq_false (by omega) | exact bne_iff_ne.2 (by assumption) | exact bne_eq_false_iff_eq.2 (by assumption) | exact beq_iff_eq.2 (by assumption) | exact beq_eq_false_iff_ne.2 (by assumption) | exact wnextW (by omega) | exact wsub1 (by omega) (by omega) | exact toNatO (by omega) | exact congrArg Bool.not (by assumption) | exact congrArg Bool.not (decide_eq_true (by omega)) | exact congrArg Bool.not (decide_eq_false (by omega)) | exact congrArg Bool.not (beq_iff_eq.2 (by assumption)) | exact congrArg Bool.not (beq_eq_false_iff_ne.2 (by assumption)) | exact beq_eq_false_iff_ne.2 (by omega) | exact beq_iff_eq.2 (by omega) | exact bne_iff_ne.2 (by omega) | exact bne_eq_false_iff_eq.2 (by omega) | omega) (by kernel_rfl) (fun o ho => by
      simp only [cpS, List.mem_cons, List.not_mem_nil, or_false] at ho
      rcases ho with rfl
      all_goals first | rfl | exact fun i j => rfl) (fun o ho => by cases ho) (by kernel_rfl)
theorem cpf2_eq (n : Nat) (c : Nat) (g : Nat → Nat → Int) (e : TypeId) (opn : Bool) (sz : Nat) (ro : Bool) (ph : Int) : seenF' Tryz.prog Tryz.f57 6 1 [] (cpf2 n c g e opn sz ro ph) = some (.int .i64 (10 : Int), cpS n c g e opn sz ro ph ++ [], ⟨[], ((((((((True ∧ (((n = n) ∧ (∀ (i : Nat), ((i < n) → (∀ (j : Nat), ((j < (1 : Nat)) → ((Value.int .i64 (g i j)) = (Value.int .i64 (gI (Value.int .i64 (g i j)))))))))) ∧ ((((n : Nat)) : Int) ≤ (9223372036854775807 : Int)))) ∧ (((crV n (fun (i : Nat) => (fun (j : Nat) => (gI (Value.int .i64 (g i j)))))) != (0 : Int)) = false)) ∧ ((decide (ph < (0 : Int))) = false)) ∧ ((decide (ph < (0 : Int))) = false)) ∧ ((decide (ph < (0 : Int))) = false)) ∧ ((decide (ph < (0 : Int))) = false)) ∧ ((decide (ph < (0 : Int))) = false)) ∧ ((decide (ph ≥ (((n : Nat)) : Int))) = true))⟩) := by kernel_rfl
theorem cpf2_s (n : Nat) (c : Nat) (g : Nat → Nat → Int) (e : TypeId) (opn : Bool) (sz : Nat) (ro : Bool) (ph : Int) (hx : (n : Int) ≤ 9223372036854775807) (h0 : (crV n g) = (0 : Int)) (h1 : ¬ ph < (0 : Int)) (h2 : ¬ ph < ((n : Nat) : Int)) : SndF Tryz.prog 57 (cpArgs n c g e opn sz ro ph) (wS 6 (cpS n c g e opn sz ro ph)) (.int .i64 (10 : Int)) (wS 6 (cpS n c g e opn sz ro ph)) 64 0 :=
  sndF_K (L := cpS n c g e opn sz ro ph) (L2 := []) (ms := []) smx cpK_ok sng (by kernel_rfl) (by kernel_rfl) (cpf2_eq n c g e opn sz ro ph) (by
    repeat' (first | (with_reducible assumption) | exact (fun _ _ _ _ => rfl) | apply And.intro)
    all_goals first | trivial | rfl | assumption | exact decide_eq_true (by omega) | exact decide_eq_false (by omega) | exact bne_iff_ne.2 (by assumption) | exact bne_eq_false_iff_eq.2 (by assumption) | exact beq_iff_eq.2 (by assumption) | exact beq_eq_false_iff_ne.2 (by assumption) | exact wnextW (by omega) | exact wsub1 (by omega) (by omega) | exact toNatO (by omega) | exact congrArg Bool.not (by assumption) | exact congrArg Bool.not (decide_eq_true (by omega)) | exact congrArg Bool.not (decide_eq_false (by omega)) | exact congrArg Bool.not (beq_iff_eq.2 (by assumption)) | exact congrArg Bool.not (beq_eq_false_iff_ne.2 (by assumption)) | exact beq_eq_false_iff_ne.2 (by omega) | exact beq_iff_eq.2 (by omega) | exact bne_iff_ne.2 (by omega) | exact bne_eq_false_iff_eq.2 (by omega) | omega) (by kernel_rfl) (fun o ho => by
      simp only [cpS, List.mem_cons, List.not_mem_nil, or_false] at ho
      rcases ho with rfl
      all_goals first | rfl | exact fun i j => rfl) (fun o ho => by cases ho) (by kernel_rfl)
theorem cpf3_eq (n : Nat) (c : Nat) (g : Nat → Nat → Int) (e : TypeId) (opn : Bool) (sz : Nat) (ro : Bool) (ph : Int) : seenF' Tryz.prog Tryz.f57 6 1 [] (cpf3 n c g e opn sz ro ph) = some (.int .i64 (crV n g), cpS n c g e opn sz ro ph ++ [], ⟨[], ((True ∧ (((n = n) ∧ (∀ (i : Nat), ((i < n) → (∀ (j : Nat), ((j < (1 : Nat)) → ((Value.int .i64 (g i j)) = (Value.int .i64 (gI (Value.int .i64 (g i j)))))))))) ∧ ((((n : Nat)) : Int) ≤ (9223372036854775807 : Int)))) ∧ (((crV n (fun (i : Nat) => (fun (j : Nat) => (gI (Value.int .i64 (g i j)))))) != (0 : Int)) = true))⟩) := by kernel_rfl
theorem cpf3_s (n : Nat) (c : Nat) (g : Nat → Nat → Int) (e : TypeId) (opn : Bool) (sz : Nat) (ro : Bool) (ph : Int) (hx : (n : Int) ≤ 9223372036854775807) (h0 : (crV n g) ≠ (0 : Int)) : SndF Tryz.prog 57 (cpArgs n c g e opn sz ro ph) (wS 6 (cpS n c g e opn sz ro ph)) (.int .i64 (crV n g)) (wS 6 (cpS n c g e opn sz ro ph)) 64 0 :=
  sndF_K (L := cpS n c g e opn sz ro ph) (L2 := []) (ms := []) smx cpK_ok sng (by kernel_rfl) (by kernel_rfl) (cpf3_eq n c g e opn sz ro ph) (by
    repeat' (first | (with_reducible assumption) | exact (fun _ _ _ _ => rfl) | apply And.intro)
    all_goals first | trivial | rfl | assumption | exact decide_eq_true (by omega) | exact decide_eq_false (by omega) | exact bne_iff_ne.2 (by assumption) | exact bne_eq_false_iff_eq.2 (by assumption) | exact beq_iff_eq.2 (by assumption) | exact beq_eq_false_iff_ne.2 (by assumption) | exact wnextW (by omega) | exact wsub1 (by omega) (by omega) | exact toNatO (by omega) | exact congrArg Bool.not (by assumption) | exact congrArg Bool.not (decide_eq_true (by omega)) | exact congrArg Bool.not (decide_eq_false (by omega)) | exact congrArg Bool.not (beq_iff_eq.2 (by assumption)) | exact congrArg Bool.not (beq_eq_false_iff_ne.2 (by assumption)) | exact beq_eq_false_iff_ne.2 (by omega) | exact beq_iff_eq.2 (by omega) | exact bne_iff_ne.2 (by omega) | exact bne_eq_false_iff_eq.2 (by omega) | omega) (by kernel_rfl) (fun o ho => by
      simp only [cpS, List.mem_cons, List.not_mem_nil, or_false] at ho
      rcases ho with rfl
      all_goals first | rfl | exact fun i j => rfl) (fun o ho => by cases ho) (by kernel_rfl)
theorem lkf0_eq (n : Nat) (c : Nat) (g : Nat → Nat → Int) (e : TypeId) (opn : Bool) (sz : Nat) (ro : Bool) (fr : Int) (ph : Int) : seenF' Tryz.prog Tryz.f55 6 1 [] (lkf0 n c g e opn sz ro fr ph) = some (.tuple #[.int .i64 (fallC n g fr ph), .int .i64 (0 : Int)], lkS n c g e opn sz ro fr ph ++ [], ⟨[], ((((((((((((((((True ∧ (((n = n) ∧ (∀ (i : Nat), ((i < n) → (∀ (j : Nat), ((j < (1 : Nat)) → ((Value.int .i64 (g i j)) = (Value.int .i64 (gI (Value.int .i64 (g i j)))))))))) ∧ ((((n : Nat)) : Int) ≤ (9223372036854775807 : Int)))) ∧ True) ∧ True) ∧ ((decide ((0 : Int) < (((3 : Nat)) : Int))) = true)) ∧ ((0 : Int) = (Int.ofNat 0))) ∧ (((crV n (fun (i : Nat) => (fun (j : Nat) => (gI (Value.int .i64 (g i j)))))) != (0 : Int)) = false)) ∧ ((decide ((IntKind.i64.wrap ((0 : Int) + (1 : Int))) < (((3 : Nat)) : Int))) = true)) ∧ ((IntKind.i64.wrap ((0 : Int) + (1 : Int))) = (Int.ofNat 1))) ∧ (((ixE fr (((n : Nat)) : Int)) != (0 : Int)) = false)) ∧ ((decide ((IntKind.i64.wrap ((IntKind.i64.wrap ((0 : Int) + (1 : Int))) + (1 : Int))) < (((3 : Nat)) : Int))) = true)) ∧ ((IntKind.i64.wrap ((IntKind.i64.wrap ((0 : Int) + (1 : Int))) + (1 : Int))) = (Int.ofNat 2))) ∧ (((ixE ph (((n : Nat)) : Int)) != (0 : Int)) = false)) ∧ ((decide ((IntKind.i64.wrap ((IntKind.i64.wrap ((IntKind.i64.wrap ((0 : Int) + (1 : Int))) + (1 : Int))) + (1 : Int))) < (((3 : Nat)) : Int))) = false)) ∧ (((0 : Int) != (0 : Int)) = false)) ∧ (((n = n) ∧ (∀ (i : Nat), ((i < n) → (∀ (j : Nat), ((j < (1 : Nat)) → ((Value.int .i64 (g i j)) = (Value.int .i64 (gI (Value.int .i64 (g i j)))))))))) ∧ ((∀ (i : Nat), ((i < n) → (((0 : Int) ≤ (gI (Value.int .i64 (g i 0)))) ∧ ((gI (Value.int .i64 (g i 0))) < (((n : Nat)) : Int))))) ∧ ((((0 : Int) ≤ fr) ∧ (fr < (((n : Nat)) : Int))) ∧ ((((n : Nat)) : Int) ≤ (9223372036854775807 : Int)))))) ∧ ((Bool.not (fallB n (fun (i : Nat) => (fun (j : Nat) => (gI (Value.int .i64 (g i j))))) fr ph)) = false))⟩) := by kernel_rfl
theorem lkf0_s (n : Nat) (c : Nat) (g : Nat → Nat → Int) (e : TypeId) (opn : Bool) (sz : Nat) (ro : Bool) (fr : Int) (ph : Int) (hg : (crV n g = 0 ∧ ixE fr ((n : Nat) : Int) = 0) → (∀ i, i < n → 0 ≤ g i 0 ∧ g i 0 < (n : Int)) ∧ (0 ≤ fr ∧ fr < (n : Int))) (hn : (n : Int) ≤ 9223372036854775807) (h0 : (crV n g) = (0 : Int)) (h1 : (ixE fr ((n : Nat) : Int)) = (0 : Int)) (h2 : (ixE ph ((n : Nat) : Int)) = (0 : Int)) (h3 : (fallB n g fr ph) = true) : SndF Tryz.prog 55 (lkArgs n c g e opn sz ro fr ph) (wS 6 (lkS n c g e opn sz ro fr ph)) (.tuple #[.int .i64 (fallC n g fr ph), .int .i64 (0 : Int)]) (wS 6 (lkS n c g e opn sz ro fr ph)) 64 0 :=
  sndF_K (L := lkS n c g e opn sz ro fr ph) (L2 := []) (ms := []) smx cpK_ok sng (by kernel_rfl) (by kernel_rfl) (lkf0_eq n c g e opn sz ro fr ph) (by
    repeat' (first | (with_reducible assumption) | exact (fun _ _ _ _ => rfl) | exact (hg ⟨by assumption, by assumption⟩).1 | exact (hg ⟨by assumption, by assumption⟩).2 | apply And.intro)
    all_goals first | trivial | rfl | assumption | exact decide_eq_true (by omega) | exact decide_eq_false (by omega) | exact bne_iff_ne.2 (by assumption) | exact bne_eq_false_iff_eq.2 (by assumption) | exact beq_iff_eq.2 (by assumption) | exact beq_eq_false_iff_ne.2 (by assumption) | exact wnextW (by omega) | exact wsub1 (by omega) (by omega) | exact toNatO (by omega) | exact congrArg Bool.not (by assumption) | exact congrArg Bool.not (decide_eq_true (by omega)) | exact congrArg Bool.not (decide_eq_false (by omega)) | exact congrArg Bool.not (beq_iff_eq.2 (by assumption)) | exact congrArg Bool.not (beq_eq_false_iff_ne.2 (by assumption)) | exact beq_eq_false_iff_ne.2 (by omega) | exact beq_iff_eq.2 (by omega) | exact bne_iff_ne.2 (by omega) | exact bne_eq_false_iff_eq.2 (by omega) | omega) (by kernel_rfl) (fun o ho => by
      simp only [lkS, List.mem_cons, List.not_mem_nil, or_false] at ho
      rcases ho with rfl
      all_goals first | rfl | exact fun i j => rfl) (fun o ho => by cases ho) (by kernel_rfl)
theorem lkf1_eq (n : Nat) (c : Nat) (g : Nat → Nat → Int) (e : TypeId) (opn : Bool) (sz : Nat) (ro : Bool) (fr : Int) (ph : Int) : seenF' Tryz.prog Tryz.f55 6 1 [] (lkf1 n c g e opn sz ro fr ph) = some (.tuple #[.int .i64 (0 : Int), .int .i64 (7 : Int)], lkS n c g e opn sz ro fr ph ++ [], ⟨[], ((((((((((((((((True ∧ (((n = n) ∧ (∀ (i : Nat), ((i < n) → (∀ (j : Nat), ((j < (1 : Nat)) → ((Value.int .i64 (g i j)) = (Value.int .i64 (gI (Value.int .i64 (g i j)))))))))) ∧ ((((n : Nat)) : Int) ≤ (9223372036854775807 : Int)))) ∧ True) ∧ True) ∧ ((decide ((0 : Int) < (((3 : Nat)) : Int))) = true)) ∧ ((0 : Int) = (Int.ofNat 0))) ∧ (((crV n (fun (i : Nat) => (fun (j : Nat) => (gI (Value.int .i64 (g i j)))))) != (0 : Int)) = false)) ∧ ((decide ((IntKind.i64.wrap ((0 : Int) + (1 : Int))) < (((3 : Nat)) : Int))) = true)) ∧ ((IntKind.i64.wrap ((0 : Int) + (1 : Int))) = (Int.ofNat 1))) ∧ (((ixE fr (((n : Nat)) : Int)) != (0 : Int)) = false)) ∧ ((decide ((IntKind.i64.wrap ((IntKind.i64.wrap ((0 : Int) + (1 : Int))) + (1 : Int))) < (((3 : Nat)) : Int))) = true)) ∧ ((IntKind.i64.wrap ((IntKind.i64.wrap ((0 : Int) + (1 : Int))) + (1 : Int))) = (Int.ofNat 2))) ∧ (((ixE ph (((n : Nat)) : Int)) != (0 : Int)) = false)) ∧ ((decide ((IntKind.i64.wrap ((IntKind.i64.wrap ((IntKind.i64.wrap ((0 : Int) + (1 : Int))) + (1 : Int))) + (1 : Int))) < (((3 : Nat)) : Int))) = false)) ∧ (((0 : Int) != (0 : Int)) = false)) ∧ (((n = n) ∧ (∀ (i : Nat), ((i < n) → (∀ (j : Nat), ((j < (1 : Nat)) → ((Value.int .i64 (g i j)) = (Value.int .i64 (gI (Value.int .i64 (g i j)))))))))) ∧ ((∀ (i : Nat), ((i < n) → (((0 : Int) ≤ (gI (Value.int .i64 (g i 0)))) ∧ ((gI (Value.int .i64 (g i 0))) < (((n : Nat)) : Int))))) ∧ ((((0 : Int) ≤ fr) ∧ (fr < (((n : Nat)) : Int))) ∧ ((((n : Nat)) : Int) ≤ (9223372036854775807 : Int)))))) ∧ ((Bool.not (fallB n (fun (i : Nat) => (fun (j : Nat) => (gI (Value.int .i64 (g i j))))) fr ph)) = true))⟩) := by kernel_rfl
theorem lkf1_s (n : Nat) (c : Nat) (g : Nat → Nat → Int) (e : TypeId) (opn : Bool) (sz : Nat) (ro : Bool) (fr : Int) (ph : Int) (hg : (crV n g = 0 ∧ ixE fr ((n : Nat) : Int) = 0) → (∀ i, i < n → 0 ≤ g i 0 ∧ g i 0 < (n : Int)) ∧ (0 ≤ fr ∧ fr < (n : Int))) (hn : (n : Int) ≤ 9223372036854775807) (h0 : (crV n g) = (0 : Int)) (h1 : (ixE fr ((n : Nat) : Int)) = (0 : Int)) (h2 : (ixE ph ((n : Nat) : Int)) = (0 : Int)) (h3 : (fallB n g fr ph) = false) : SndF Tryz.prog 55 (lkArgs n c g e opn sz ro fr ph) (wS 6 (lkS n c g e opn sz ro fr ph)) (.tuple #[.int .i64 (0 : Int), .int .i64 (7 : Int)]) (wS 6 (lkS n c g e opn sz ro fr ph)) 64 0 :=
  sndF_K (L := lkS n c g e opn sz ro fr ph) (L2 := []) (ms := []) smx cpK_ok sng (by kernel_rfl) (by kernel_rfl) (lkf1_eq n c g e opn sz ro fr ph) (by
    repeat' (first | (with_reducible assumption) | exact (fun _ _ _ _ => rfl) | exact (hg ⟨by assumption, by assumption⟩).1 | exact (hg ⟨by assumption, by assumption⟩).2 | apply And.intro)
    all_goals first | trivial | rfl | assumption | exact decide_eq_true (by omega) | exact decide_eq_false (by omega) | exact bne_iff_ne.2 (by assumption) | exact bne_eq_false_iff_eq.2 (by assumption) | exact beq_iff_eq.2 (by assumption) | exact beq_eq_false_iff_ne.2 (by assumption) | exact wnextW (by omega) | exact wsub1 (by omega) (by omega) | exact toNatO (by omega) | exact congrArg Bool.not (by assumption) | exact congrArg Bool.not (decide_eq_true (by omega)) | exact congrArg Bool.not (decide_eq_false (by omega)) | exact congrArg Bool.not (beq_iff_eq.2 (by assumption)) | exact congrArg Bool.not (beq_eq_false_iff_ne.2 (by assumption)) | exact beq_eq_false_iff_ne.2 (by omega) | exact beq_iff_eq.2 (by omega) | exact bne_iff_ne.2 (by omega) | exact bne_eq_false_iff_eq.2 (by omega) | omega) (by kernel_rfl) (fun o ho => by
      simp only [lkS, List.mem_cons, List.not_mem_nil, or_false] at ho
      rcases ho with rfl
      all_goals first | rfl | exact fun i j => rfl) (fun o ho => by cases ho) (by kernel_rfl)
theorem lkf2_eq (n : Nat) (c : Nat) (g : Nat → Nat → Int) (e : TypeId) (opn : Bool) (sz : Nat) (ro : Bool) (fr : Int) (ph : Int) : seenF' Tryz.prog Tryz.f55 6 1 [] (lkf2 n c g e opn sz ro fr ph) = some (.tuple #[.int .i64 (0 : Int), .int .i64 (ixE ph ((n : Nat) : Int))], lkS n c g e opn sz ro fr ph ++ [], ⟨[], (((((((((((((True ∧ (((n = n) ∧ (∀ (i : Nat), ((i < n) → (∀ (j : Nat), ((j < (1 : Nat)) → ((Value.int .i64 (g i j)) = (Value.int .i64 (gI (Value.int .i64 (g i j)))))))))) ∧ ((((n : Nat)) : Int) ≤ (9223372036854775807 : Int)))) ∧ True) ∧ True) ∧ ((decide ((0 : Int) < (((3 : Nat)) : Int))) = true)) ∧ ((0 : Int) = (Int.ofNat 0))) ∧ (((crV n (fun (i : Nat) => (fun (j : Nat) => (gI (Value.int .i64 (g i j)))))) != (0 : Int)) = false)) ∧ ((decide ((IntKind.i64.wrap ((0 : Int) + (1 : Int))) < (((3 : Nat)) : Int))) = true)) ∧ ((IntKind.i64.wrap ((0 : Int) + (1 : Int))) = (Int.ofNat 1))) ∧ (((ixE fr (((n : Nat)) : Int)) != (0 : Int)) = false)) ∧ ((decide ((IntKind.i64.wrap ((IntKind.i64.wrap ((0 : Int) + (1 : Int))) + (1 : Int))) < (((3 : Nat)) : Int))) = true)) ∧ ((IntKind.i64.wrap ((IntKind.i64.wrap ((0 : Int) + (1 : Int))) + (1 : Int))) = (Int.ofNat 2))) ∧ (((ixE ph (((n : Nat)) : Int)) != (0 : Int)) = true)) ∧ (((ixE ph (((n : Nat)) : Int)) != (0 : Int)) = true))⟩) := by kernel_rfl
theorem lkf2_s (n : Nat) (c : Nat) (g : Nat → Nat → Int) (e : TypeId) (opn : Bool) (sz : Nat) (ro : Bool) (fr : Int) (ph : Int) (hg : (crV n g = 0 ∧ ixE fr ((n : Nat) : Int) = 0) → (∀ i, i < n → 0 ≤ g i 0 ∧ g i 0 < (n : Int)) ∧ (0 ≤ fr ∧ fr < (n : Int))) (hn : (n : Int) ≤ 9223372036854775807) (h0 : (crV n g) = (0 : Int)) (h1 : (ixE fr ((n : Nat) : Int)) = (0 : Int)) (h2 : (ixE ph ((n : Nat) : Int)) ≠ (0 : Int)) : SndF Tryz.prog 55 (lkArgs n c g e opn sz ro fr ph) (wS 6 (lkS n c g e opn sz ro fr ph)) (.tuple #[.int .i64 (0 : Int), .int .i64 (ixE ph ((n : Nat) : Int))]) (wS 6 (lkS n c g e opn sz ro fr ph)) 64 0 :=
  sndF_K (L := lkS n c g e opn sz ro fr ph) (L2 := []) (ms := []) smx cpK_ok sng (by kernel_rfl) (by kernel_rfl) (lkf2_eq n c g e opn sz ro fr ph) (by
    repeat' (first | (with_reducible assumption) | exact (fun _ _ _ _ => rfl) | exact (hg ⟨by assumption, by assumption⟩).1 | exact (hg ⟨by assumption, by assumption⟩).2 | apply And.intro)
    all_goals first | trivial | rfl | assumption | exact decide_eq_true (by omega) | exact decide_eq_false (by omega) | exact bne_iff_ne.2 (by assumption) | exact bne_eq_false_iff_eq.2 (by assumption) | exact beq_iff_eq.2 (by assumption) | exact beq_eq_false_iff_ne.2 (by assumption) | exact wnextW (by omega) | exact wsub1 (by omega) (by omega) | exact toNatO (by omega) | exact congrArg Bool.not (by assumption) | exact congrArg Bool.not (decide_eq_true (by omega)) | exact congrArg Bool.not (decide_eq_false (by omega)) | exact congrArg Bool.not (beq_iff_eq.2 (by assumption)) | exact congrArg Bool.not (beq_eq_false_iff_ne.2 (by assumption)) | exact beq_eq_false_iff_ne.2 (by omega) | exact beq_iff_eq.2 (by omega) | exact bne_iff_ne.2 (by omega) | exact bne_eq_false_iff_eq.2 (by omega) | omega) (by kernel_rfl) (fun o ho => by
      simp only [lkS, List.mem_cons, List.not_mem_nil, or_false] at ho
      rcases ho with rfl
      all_goals first | rfl | exact fun i j => rfl) (fun o ho => by cases ho) (by kernel_rfl)
theorem lkf3_eq (n : Nat) (c : Nat) (g : Nat → Nat → Int) (e : TypeId) (opn : Bool) (sz : Nat) (ro : Bool) (fr : Int) (ph : Int) : seenF' Tryz.prog Tryz.f55 6 1 [] (lkf3 n c g e opn sz ro fr ph) = some (.tuple #[.int .i64 (0 : Int), .int .i64 (ixE fr ((n : Nat) : Int))], lkS n c g e opn sz ro fr ph ++ [], ⟨[], ((((((((((True ∧ (((n = n) ∧ (∀ (i : Nat), ((i < n) → (∀ (j : Nat), ((j < (1 : Nat)) → ((Value.int .i64 (g i j)) = (Value.int .i64 (gI (Value.int .i64 (g i j)))))))))) ∧ ((((n : Nat)) : Int) ≤ (9223372036854775807 : Int)))) ∧ True) ∧ True) ∧ ((decide ((0 : Int) < (((3 : Nat)) : Int))) = true)) ∧ ((0 : Int) = (Int.ofNat 0))) ∧ (((crV n (fun (i : Nat) => (fun (j : Nat) => (gI (Value.int .i64 (g i j)))))) != (0 : Int)) = false)) ∧ ((decide ((IntKind.i64.wrap ((0 : Int) + (1 : Int))) < (((3 : Nat)) : Int))) = true)) ∧ ((IntKind.i64.wrap ((0 : Int) + (1 : Int))) = (Int.ofNat 1))) ∧ (((ixE fr (((n : Nat)) : Int)) != (0 : Int)) = true)) ∧ (((ixE fr (((n : Nat)) : Int)) != (0 : Int)) = true))⟩) := by kernel_rfl
theorem lkf3_s (n : Nat) (c : Nat) (g : Nat → Nat → Int) (e : TypeId) (opn : Bool) (sz : Nat) (ro : Bool) (fr : Int) (ph : Int) (hg : (crV n g = 0 ∧ ixE fr ((n : Nat) : Int) = 0) → (∀ i, i < n → 0 ≤ g i 0 ∧ g i 0 < (n : Int)) ∧ (0 ≤ fr ∧ fr < (n : Int))) (hn : (n : Int) ≤ 9223372036854775807) (h0 : (crV n g) = (0 : Int)) (h1 : (ixE fr ((n : Nat) : Int)) ≠ (0 : Int)) : SndF Tryz.prog 55 (lkArgs n c g e opn sz ro fr ph) (wS 6 (lkS n c g e opn sz ro fr ph)) (.tuple #[.int .i64 (0 : Int), .int .i64 (ixE fr ((n : Nat) : Int))]) (wS 6 (lkS n c g e opn sz ro fr ph)) 64 0 :=
  sndF_K (L := lkS n c g e opn sz ro fr ph) (L2 := []) (ms := []) smx cpK_ok sng (by kernel_rfl) (by kernel_rfl) (lkf3_eq n c g e opn sz ro fr ph) (by
    repeat' (first | (with_reducible assumption) | exact (fun _ _ _ _ => rfl) | exact (hg ⟨by assumption, by assumption⟩).1 | exact (hg ⟨by assumption, by assumption⟩).2 | apply And.intro)
    all_goals first | trivial | rfl | assumption | exact decide_eq_true (by omega) | exact decide_eq_false (by omega) | exact bne_iff_ne.2 (by assumption) | exact bne_eq_false_iff_eq.2 (by assumption) | exact beq_iff_eq.2 (by assumption) | exact beq_eq_false_iff_ne.2 (by assumption) | exact wnextW (by omega) | exact wsub1 (by omega) (by omega) | exact toNatO (by omega) | exact congrArg Bool.not (by assumption) | exact congrArg Bool.not (decide_eq_true (by omega)) | exact congrArg Bool.not (decide_eq_false (by omega)) | exact congrArg Bool.not (beq_iff_eq.2 (by assumption)) | exact congrArg Bool.not (beq_eq_false_iff_ne.2 (by assumption)) | exact beq_eq_false_iff_ne.2 (by omega) | exact beq_iff_eq.2 (by omega) | exact bne_iff_ne.2 (by omega) | exact bne_eq_false_iff_eq.2 (by omega) | omega) (by kernel_rfl) (fun o ho => by
      simp only [lkS, List.mem_cons, List.not_mem_nil, or_false] at ho
      rcases ho with rfl
      all_goals first | rfl | exact fun i j => rfl) (fun o ho => by cases ho) (by kernel_rfl)
theorem lkf4_eq (n : Nat) (c : Nat) (g : Nat → Nat → Int) (e : TypeId) (opn : Bool) (sz : Nat) (ro : Bool) (fr : Int) (ph : Int) : seenF' Tryz.prog Tryz.f55 6 1 [] (lkf4 n c g e opn sz ro fr ph) = some (.tuple #[.int .i64 (0 : Int), .int .i64 (crV n g)], lkS n c g e opn sz ro fr ph ++ [], ⟨[], (((((((True ∧ (((n = n) ∧ (∀ (i : Nat), ((i < n) → (∀ (j : Nat), ((j < (1 : Nat)) → ((Value.int .i64 (g i j)) = (Value.int .i64 (gI (Value.int .i64 (g i j)))))))))) ∧ ((((n : Nat)) : Int) ≤ (9223372036854775807 : Int)))) ∧ True) ∧ True) ∧ ((decide ((0 : Int) < (((3 : Nat)) : Int))) = true)) ∧ ((0 : Int) = (Int.ofNat 0))) ∧ (((crV n (fun (i : Nat) => (fun (j : Nat) => (gI (Value.int .i64 (g i j)))))) != (0 : Int)) = true)) ∧ (((crV n (fun (i : Nat) => (fun (j : Nat) => (gI (Value.int .i64 (g i j)))))) != (0 : Int)) = true))⟩) := by kernel_rfl
theorem lkf4_s (n : Nat) (c : Nat) (g : Nat → Nat → Int) (e : TypeId) (opn : Bool) (sz : Nat) (ro : Bool) (fr : Int) (ph : Int) (hg : (crV n g = 0 ∧ ixE fr ((n : Nat) : Int) = 0) → (∀ i, i < n → 0 ≤ g i 0 ∧ g i 0 < (n : Int)) ∧ (0 ≤ fr ∧ fr < (n : Int))) (hn : (n : Int) ≤ 9223372036854775807) (h0 : (crV n g) ≠ (0 : Int)) : SndF Tryz.prog 55 (lkArgs n c g e opn sz ro fr ph) (wS 6 (lkS n c g e opn sz ro fr ph)) (.tuple #[.int .i64 (0 : Int), .int .i64 (crV n g)]) (wS 6 (lkS n c g e opn sz ro fr ph)) 64 0 :=
  sndF_K (L := lkS n c g e opn sz ro fr ph) (L2 := []) (ms := []) smx cpK_ok sng (by kernel_rfl) (by kernel_rfl) (lkf4_eq n c g e opn sz ro fr ph) (by
    repeat' (first | (with_reducible assumption) | exact (fun _ _ _ _ => rfl) | exact (hg ⟨by assumption, by assumption⟩).1 | exact (hg ⟨by assumption, by assumption⟩).2 | apply And.intro)
    all_goals first | trivial | rfl | assumption | exact decide_eq_true (by omega) | exact decide_eq_false (by omega) | exact bne_iff_ne.2 (by assumption) | exact bne_eq_false_iff_eq.2 (by assumption) | exact beq_iff_eq.2 (by assumption) | exact beq_eq_false_iff_ne.2 (by assumption) | exact wnextW (by omega) | exact wsub1 (by omega) (by omega) | exact toNatO (by omega) | exact congrArg Bool.not (by assumption) | exact congrArg Bool.not (decide_eq_true (by omega)) | exact congrArg Bool.not (decide_eq_false (by omega)) | exact congrArg Bool.not (beq_iff_eq.2 (by assumption)) | exact congrArg Bool.not (beq_eq_false_iff_ne.2 (by assumption)) | exact beq_eq_false_iff_ne.2 (by omega) | exact beq_iff_eq.2 (by omega) | exact bne_iff_ne.2 (by omega) | exact bne_eq_false_iff_eq.2 (by omega) | omega) (by kernel_rfl) (fun o ho => by
      simp only [lkS, List.mem_cons, List.not_mem_nil, or_false] at ho
      rcases ho with rfl
      all_goals first | rfl | exact fun i j => rfl) (fun o ho => by cases ho) (by kernel_rfl)
def th2 (a b : Int) : Int := if a = 0 then b else a
theorem crV_ok {n : Nat} {g : Nat → Nat → Int} (h : crV n g = 0) : (0 < n ∧ n ≤ 64) ∧ ∀ i, i < n → 0 ≤ g i 0 ∧ g i 0 < (n : Int) := by
  unfold crV at h
  split at h
  · exact absurd h (by decide)
  · split at h
    · exact absurd h (by decide)
    · refine ⟨by omega, fun i hi => ?_⟩
      have := feN_zero h i hi
      simp only [Pl.cr] at this
      split at this <;> omega
theorem ixE_ok {a n : Int} (h : ixE a n = 0) : 0 ≤ a ∧ a < n := by
  unfold ixE at h
  split at h <;> omega
theorem cp_sndF (n : Nat) (c : Nat) (g : Nat → Nat → Int) (e : TypeId) (opn : Bool) (sz : Nat) (ro : Bool) (ph : Int) (hn : (n : Int) ≤ 9223372036854775807) : SndF Tryz.prog 57 (cpArgs n c g e opn sz ro ph) (wS 6 (cpS n c g e opn sz ro ph)) (.int .i64 (th2 (crV n g) (ixE ph n))) (wS 6 (cpS n c g e opn sz ro ph)) 64 0 := by
  unfold th2
  by_cases h0 : crV n g = 0
  · rw [if_pos h0]
    unfold ixE
    by_cases h1 : ph < 0
    · rw [if_pos (.inl h1)]; exact cpf0_s n c g e opn sz ro ph hn h0 h1
    · by_cases h2 : ph < (n : Int)
      · rw [if_neg (by omega)]; exact cpf1_s n c g e opn sz ro ph hn h0 h1 h2
      · rw [if_pos (.inr (by omega))]; exact cpf2_s n c g e opn sz ro ph hn h0 h1 h2
  · rw [if_neg h0]; exact cpf3_s n c g e opn sz ro ph hn h0
def lkE (n : Nat) (g : Nat → Nat → Int) (fr ph : Int) : Int := th2 (th2 (crV n g) (ixE fr n)) (ixE ph n)
def lkV (n : Nat) (g : Nat → Nat → Int) (fr ph : Int) : Value := if lkE n g fr ph = 0 then (if fallB n g fr ph = true then .tuple #[.int .i64 (fallC n g fr ph), .int .i64 0] else .tuple #[.int .i64 0, .int .i64 7]) else .tuple #[.int .i64 0, .int .i64 (lkE n g fr ph)]
theorem lk_sndF (n : Nat) (c : Nat) (g : Nat → Nat → Int) (e : TypeId) (opn : Bool) (sz : Nat) (ro : Bool) (fr : Int) (ph : Int) (hn : (n : Int) ≤ 9223372036854775807) : SndF Tryz.prog 55 (lkArgs n c g e opn sz ro fr ph) (wS 6 (lkS n c g e opn sz ro fr ph)) (lkV n g fr ph) (wS 6 (lkS n c g e opn sz ro fr ph)) 64 0 := by
  have hg : (crV n g = 0 ∧ ixE fr ((n : Nat) : Int) = 0) → (∀ i, i < n → 0 ≤ g i 0 ∧ g i 0 < (n : Int)) ∧ (0 ≤ fr ∧ fr < (n : Int)) := fun h => ⟨(crV_ok h.1).2, ixE_ok h.2⟩
  unfold lkV lkE th2
  by_cases h0 : crV n g = 0
  · rw [if_pos h0]
    by_cases h1 : ixE fr (n : Int) = 0
    · rw [if_pos h1]
      by_cases h2 : ixE ph (n : Int) = 0
      · rw [if_pos h2]
        by_cases h3 : fallB n g fr ph = true
        · rw [if_pos h3]; exact lkf0_s n c g e opn sz ro fr ph hg hn h0 h1 h2 h3
        · rw [if_neg h3]; exact lkf1_s n c g e opn sz ro fr ph hg hn h0 h1 h2 (by simpa using h3)
      · rw [if_neg h2]; exact lkf2_s n c g e opn sz ro fr ph hg hn h0 h1 h2
    · rw [if_neg h1, if_neg h1]; exact lkf3_s n c g e opn sz ro fr ph hg hn h0 h1
  · rw [if_neg h0, if_neg h0, if_neg h0]; exact lkf4_s n c g e opn sz ro fr ph hg hn h0
def lkC (n : Nat) (g : Nat → Nat → Int) (fr ph : Int) : Int := if lkE n g fr ph = 0 then (if fallB n g fr ph = true then fallC n g fr ph else 0) else 0
def lkX (n : Nat) (g : Nat → Nat → Int) (fr ph : Int) : Int := if lkE n g fr ph = 0 then (if fallB n g fr ph = true then 0 else 7) else lkE n g fr ph
theorem lkV_eq (n : Nat) (g : Nat → Nat → Int) (fr ph : Int) : lkV n g fr ph = .tuple #[.int .i64 (lkC n g fr ph), .int .i64 (lkX n g fr ph)] := by
  unfold lkV lkC lkX
  split
  · split <;> rfl
  · rfl
def kLk : CallS := fun f xs s q => match decide (f = 55) with
  | true => match xs.toList with
    | [.slice (some ⟨b, 0, none⟩) n c, .int .i64 fr, .int .i64 ph] => match Nat.ble 6 b, rowK 1 .i64 s b n with
      | true, some (g, _, _, _, _, p) => some (.tuple #[.int .i64 (lkC n g fr ph), .int .i64 (lkX n g fr ph)], s, 2 ^ b, 0, ⟨q.rest, q.ob ∧ (p ∧ ((n : Int) ≤ 9223372036854775807))⟩)
      | _, _ => none
    | _ => none
  | false => none
theorem kLk_ok : FOkS Tryz.prog kLk := fun f xs s q u s1 R W q1 he => by
  unfold kLk at he
  split at he
  · rename_i hf
    have hf := of_decide_eq_true hf
    subst hf
    split at he
    · rename_i b n c fr ph hx0
      split at he
      · rename_i g e opn sz ro p hb hr
        have hb := Nat.le_of_ble_eq_true hb
        have hxs : xs = #[.slice (some ⟨b, 0, none⟩) n c, .int .i64 fr, .int .i64 ph] := by apply Array.ext'; exact hx0
        subst hxs
        cases he
        refine ⟨fun hq => hq.1, fun hq => ?_⟩
        obtain ⟨hp, hx⟩ := hq.2
        obtain ⟨l1, w1⟩ := rowK_wo hr hp
        exact SndF.row (N := 6) sng (lkV_eq n g fr ph ▸ lk_sndF n c g e opn sz ro fr ph hx) rfl hb l1 w1 (fun f _ hf => wvs_three (slice_wv hf) (ground_wv (n := 8) rfl) (ground_wv (n := 8) rfl))
      · cases he
    · cases he
  · cases he
def kCp : CallS := fun f xs s q => match decide (f = 57) with
  | true => match xs.toList with
    | [.slice (some ⟨b, 0, none⟩) n c, .int .i64 ph] => match Nat.ble 6 b, rowK 1 .i64 s b n with
      | true, some (g, _, _, _, _, p) => some (.int .i64 (th2 (crV n g) (ixE ph n)), s, 2 ^ b, 0, ⟨q.rest, q.ob ∧ (p ∧ ((n : Int) ≤ 9223372036854775807))⟩)
      | _, _ => none
    | _ => none
  | false => none
theorem kCp_ok : FOkS Tryz.prog kCp := fun f xs s q u s1 R W q1 he => by
  unfold kCp at he
  split at he
  · rename_i hf
    have hf := of_decide_eq_true hf
    subst hf
    split at he
    · rename_i b n c ph hx0
      split at he
      · rename_i g e opn sz ro p hb hr
        have hb := Nat.le_of_ble_eq_true hb
        have hxs : xs = #[.slice (some ⟨b, 0, none⟩) n c, .int .i64 ph] := by apply Array.ext'; exact hx0
        subst hxs
        cases he
        refine ⟨fun hq => hq.1, fun hq => ?_⟩
        obtain ⟨hp, hx⟩ := hq.2
        obtain ⟨l1, w1⟩ := rowK_wo hr hp
        exact SndF.row (N := 6) sng (cp_sndF n c g e opn sz ro ph hx) rfl hb l1 w1 (fun f _ hf => wvs_two (slice_wv hf) (ground_wv (n := 8) rfl))
      · cases he
    · cases he
  · cases he
end Go.Proofs.YtecabbbjdnambaaGreatDoor
end
section
set_option linter.all false
set_option maxRecDepth 1000000
open Go.RowKit
namespace Go.Proofs.YtecabbbjdnambaaGreatDoor
open Mini
def basQ (n : Nat) (g : Nat → Nat → Int) (ph : Int) : Nat → Bool := fun k => fallB n g ((k : Nat) : Int) ph
def basN (n : Nat) (g : Nat → Nat → Int) (ph : Int) : Nat := cntF (basQ n g ph) n
def basG (n : Nat) (g : Nat → Nat → Int) (ph : Int) : Nat → Nat → Int := selG (basQ n g ph) (fun k => ((k : Nat) : Int)) n
theorem basN_pos {n : Nat} {g : Nat → Nat → Int} {ph : Int} (hp : 0 ≤ ph ∧ ph < (n : Int)) : ∃ m, basN n g ph = m + 1 := by
  have h : basQ n g ph (Int.toNat ph) = true := by
    have e : ((Int.toNat ph : Nat) : Int) = ph := Int.toNat_of_nonneg hp.1
    show fallB n g ((Int.toNat ph : Nat) : Int) ph = true
    rw [e]
    exact (fl_some (j := 0) (by omega) (fun i hi => absurd hi (by omega)) rfl).2
  have := cntF_pos h n (by omega)
  exact ⟨basN n g ph - 1, by unfold basN; omega⟩
noncomputable def baX : Code := loopAt Tryz.prog 53 0
noncomputable def baK : CallS := bothX kCr (bothX kRCr (bothX kFl (bothX kRl (kAll [c_range, c_rrange, c_index]))))
def baA (n : Nat) (c : Nat) (g : Nat → Nat → Int) (e : TypeId) (opn : Bool) (sz : Nat) (ro : Bool) (ph : Int) (i24 : Nat) : MA := MA.ofL 41 [.slice (some ⟨6, 0, none⟩) n c, .int .i64 ph, .chan none, .chan none, .chan none, .chan none, .chan none, .slice none 0 0, .chan none, .chan none, .chan none, .chan none, .chan none, .chan none, .chan none, .chan none, .chan none, .chan none, .chan none, .chan none, .chan none, .chan none, .chan none, .int .i64 ((n : Nat) : Int), .int .i64 ((i24 : Nat) : Int), .chan none, .chan none, .chan none, .chan none, .chan none, .chan none, .chan none, .chan none, .chan none, .chan none, .chan none, .chan none, .chan none, .chan none, .chan none, .chan none] []
def baL (n : Nat) (c : Nat) (g : Nat → Nat → Int) (e : TypeId) (opn : Bool) (sz : Nat) (ro : Bool) (ph : Int) (i24 : Nat) : List MObj := [.rows n 1 (fun i j => .int .i64 (g i j)) e opn sz ro, .cells [.int .i64 (crV n g), .int .i64 (ixE ph ((n : Nat) : Int))] 26 false 0 false]
def baA1 (n : Nat) (c : Nat) (g : Nat → Nat → Int) (e : TypeId) (opn : Bool) (sz : Nat) (ro : Bool) (ph : Int) (i24 : Nat) (g2 : Nat → Nat → Int) (m7 : Nat) : MA := MA.ofL 41 [.slice (some ⟨6, 0, none⟩) n c, .int .i64 ph, .chan none, .chan none, .chan none, .chan none, .chan none, .slice (some ⟨8, 0, none⟩) (m7 + 1) (m7 + 1), .chan none, .chan none, .chan none, .chan none, .chan none, .chan none, .chan none, .chan none, .chan none, .chan none, .chan none, .chan none, .chan none, .chan none, .chan none, .int .i64 ((n : Nat) : Int), .int .i64 ((i24 : Nat) : Int), .chan none, .chan none, .chan none, .chan none, .chan none, .chan none, .chan none, .chan none, .chan none, .chan none, .chan none, .chan none, .chan none, .chan none, .chan none, .chan none] []
def baL1 (n : Nat) (c : Nat) (g : Nat → Nat → Int) (e : TypeId) (opn : Bool) (sz : Nat) (ro : Bool) (ph : Int) (i24 : Nat) (g2 : Nat → Nat → Int) (m7 : Nat) : List MObj := [.rows n 1 (fun i j => .int .i64 (g i j)) e opn sz ro, .cells [.int .i64 (crV n g), .int .i64 (ixE ph ((n : Nat) : Int))] 26 false 0 false, .rows (m7 + 1) 1 (fun i j => .int .i64 (g2 i j)) 3 true 1 false]
noncomputable def bar0 (n : Nat) (c : Nat) (g : Nat → Nat → Int) (e : TypeId) (opn : Bool) (sz : Nat) (ro : Bool) (ph : Int) (i24 : Nat) : Option OutCS := evK Tryz.prog baK 1000 false baX (baA n c g e opn sz ro ph i24) (wS 6 (baL n c g e opn sz ro ph i24)) ⟨[1, 1, .azz (.slice (some ⟨9, 0, none⟩) 1 1), .azz (.int .i64 ((i24 + 1 : Nat) : Int))], True⟩
noncomputable def bar1 (n : Nat) (c : Nat) (g : Nat → Nat → Int) (e : TypeId) (opn : Bool) (sz : Nat) (ro : Bool) (ph : Int) (i24 : Nat) : Option OutCS := evK Tryz.prog baK 1000 false baX (baA n c g e opn sz ro ph i24) (wS 6 (baL n c g e opn sz ro ph i24)) ⟨[1, 0, .azz (.int .i64 ((i24 + 1 : Nat) : Int))], True⟩
noncomputable def bar2 (n : Nat) (c : Nat) (g : Nat → Nat → Int) (e : TypeId) (opn : Bool) (sz : Nat) (ro : Bool) (ph : Int) (i24 : Nat) : Option OutCS := evK Tryz.prog baK 1000 false baX (baA n c g e opn sz ro ph i24) (wS 6 (baL n c g e opn sz ro ph i24)) ⟨[0], True⟩
def bar2E (n : Nat) (c : Nat) (g : Nat → Nat → Int) (e : TypeId) (opn : Bool) (sz : Nat) (ro : Bool) (ph : Int) (i24 : Nat) : MA := MA.ofL 41 [.chan none, .chan none, .chan none, .chan none, .chan none, .chan none, .chan none, .slice none 0 0, .chan none, .chan none, .chan none, .chan none, .chan none, .chan none, .chan none, .chan none, .chan none, .chan none, .chan none, .chan none, .chan none, .chan none, .chan none, .chan none, .chan none, .chan none, .chan none, .chan none, .chan none, .chan none, .chan none, .chan none, .chan none, .chan none, .chan none, .chan none, .chan none, .chan none, .chan none, .chan none, .chan none] []
noncomputable def bar3 (n : Nat) (c : Nat) (g : Nat → Nat → Int) (e : TypeId) (opn : Bool) (sz : Nat) (ro : Bool) (ph : Int) (i24 : Nat) (g2 : Nat → Nat → Int) (m7 : Nat) : Option OutCS := evK Tryz.prog baK 1000 false baX (baA1 n c g e opn sz ro ph i24 g2 m7) (wS 6 (baL1 n c g e opn sz ro ph i24 g2 m7)) ⟨[1, 1, .row 0 0, .azz (.int .i64 ((i24 + 1 : Nat) : Int))], True⟩
noncomputable def bar4 (n : Nat) (c : Nat) (g : Nat → Nat → Int) (e : TypeId) (opn : Bool) (sz : Nat) (ro : Bool) (ph : Int) (i24 : Nat) (g2 : Nat → Nat → Int) (m7 : Nat) : Option OutCS := evK Tryz.prog baK 1000 false baX (baA1 n c g e opn sz ro ph i24 g2 m7) (wS 6 (baL1 n c g e opn sz ro ph i24 g2 m7)) ⟨[1, 0, .azz (.int .i64 ((i24 + 1 : Nat) : Int))], True⟩
noncomputable def bar5 (n : Nat) (c : Nat) (g : Nat → Nat → Int) (e : TypeId) (opn : Bool) (sz : Nat) (ro : Bool) (ph : Int) (i24 : Nat) (g2 : Nat → Nat → Int) (m7 : Nat) : Option OutCS := evK Tryz.prog baK 1000 false baX (baA1 n c g e opn sz ro ph i24 g2 m7) (wS 6 (baL1 n c g e opn sz ro ph i24 g2 m7)) ⟨[0], True⟩
def bar5E (n : Nat) (c : Nat) (g : Nat → Nat → Int) (e : TypeId) (opn : Bool) (sz : Nat) (ro : Bool) (ph : Int) (i24 : Nat) (g2 : Nat → Nat → Int) (m7 : Nat) : MA := MA.ofL 41 [.chan none, .chan none, .chan none, .chan none, .chan none, .chan none, .chan none, .slice (some ⟨8, 0, none⟩) (m7 + 1) (m7 + 1), .chan none, .chan none, .chan none, .chan none, .chan none, .chan none, .chan none, .chan none, .chan none, .chan none, .chan none, .chan none, .chan none, .chan none, .chan none, .chan none, .chan none, .chan none, .chan none, .chan none, .chan none, .chan none, .chan none, .chan none, .chan none, .chan none, .chan none, .chan none, .chan none, .chan none, .chan none, .chan none, .chan none] []
def baAA (n : Nat) (c : Nat) (g : Nat → Nat → Int) (e : TypeId) (opn : Bool) (sz : Nat) (ro : Bool) (ph : Int) (i c' : Nat) (G : Nat → Nat → Int) : MA := match c' with
  | 0 => baA n c g e opn sz ro ph i
  | m + 1 => baA1 n c g e opn sz ro ph i G m
def baLL (n : Nat) (c : Nat) (g : Nat → Nat → Int) (e : TypeId) (opn : Bool) (sz : Nat) (ro : Bool) (ph : Int) (i c' : Nat) (G : Nat → Nat → Int) : List MObj := match c' with
  | 0 => baL n c g e opn sz ro ph i
  | m + 1 => baL1 n c g e opn sz ro ph i G m
def baQ (n : Nat) (c : Nat) (g : Nat → Nat → Int) (e : TypeId) (opn : Bool) (sz : Nat) (ro : Bool) (ph : Int) : Nat → Bool := fun k => fallB n g ((k : Nat) : Int) ph
def baV : Nat → Int := fun k => ((k : Nat) : Int)
def baArgs (n : Nat) (c : Nat) (g : Nat → Nat → Int) (e : TypeId) (opn : Bool) (sz : Nat) (ro : Bool) (ph : Int) : Array Value := #[.slice (some ⟨6, 0, none⟩) n c, .int .i64 ph]
def baS (n : Nat) (c : Nat) (g : Nat → Nat → Int) (e : TypeId) (opn : Bool) (sz : Nat) (ro : Bool) (ph : Int) : List MObj := [.rows n 1 (fun i j => .int .i64 (g i j)) e opn sz ro]
noncomputable def baf0 (n : Nat) (c : Nat) (g : Nat → Nat → Int) (e : TypeId) (opn : Bool) (sz : Nat) (ro : Bool) (ph : Int) (mm : Nat) : Option OutCS := evK Tryz.prog baK 1000 false (bodyOf Tryz.prog 53) (startM Tryz.f53 (baArgs n c g e opn sz ro ph)) (wS 6 (baS n c g e opn sz ro ph)) ⟨[1, 0, 0, 1, 1, 0, 0, 0, .lp 25165955 (baA n c g e opn sz ro ph 0) 6 (baL n c g e opn sz ro ph 0) (.exit 0) (bar5E n c g e opn sz ro ph n (selG (baQ n c g e opn sz ro ph) baV n) mm) [.rows n 1 (fun i j => .int .i64 (g i j)) e opn sz ro, .cells [.int .i64 (crV n g), .int .i64 (ixE ph ((n : Nat) : Int))] 26 false 0 false, .rows (mm + 1) 1 (fun i j => .int .i64 ((selG (baQ n c g e opn sz ro ph) baV n) i j)) 3 true 1 false] 8 256], True⟩
noncomputable def baf1 (n : Nat) (c : Nat) (g : Nat → Nat → Int) (e : TypeId) (opn : Bool) (sz : Nat) (ro : Bool) (ph : Int) : Option OutCS := evK Tryz.prog baK 1000 false (bodyOf Tryz.prog 53) (startM Tryz.f53 (baArgs n c g e opn sz ro ph)) (wS 6 (baS n c g e opn sz ro ph)) ⟨[1, 0, 0, 1, 1, 1, 1], True⟩
noncomputable def baf2 (n : Nat) (c : Nat) (g : Nat → Nat → Int) (e : TypeId) (opn : Bool) (sz : Nat) (ro : Bool) (ph : Int) : Option OutCS := evK Tryz.prog baK 1000 false (bodyOf Tryz.prog 53) (startM Tryz.f53 (baArgs n c g e opn sz ro ph)) (wS 6 (baS n c g e opn sz ro ph)) ⟨[1, 0, 1, 1], True⟩
theorem baK_ok : FOkS Tryz.prog baK := bothX_ok kCr_ok (bothX_ok kRCr_ok (bothX_ok kFl_ok (bothX_ok kRl_ok (kAll_ok _ ⟨k_range, k_rrange, k_index, trivial⟩))))
theorem bar0_eq (n : Nat) (c : Nat) (g : Nat → Nat → Int) (e : TypeId) (opn : Bool) (sz : Nat) (ro : Bool) (ph : Int) (i24 : Nat) : seenK 6 2 [9] 25165955 256 (bar0 n c g e opn sz ro ph i24) = some (.normal, baA1 n c g e opn sz ro ph (i24 + 1) (fun i j => ([((i24 : Nat) : Int)] : List Int).getD (i * 1 + j) 0) 0, [.rows n 1 (fun i j => .int .i64 (g i j)) e opn sz ro, .cells [.int .i64 (crV n g), .int .i64 (ixE ph ((n : Nat) : Int))] 26 false 0 false, .cells [.int .i64 ((i24 : Nat) : Int)] 3 true 1 false], 256, ⟨[], (((((True ∧ ((decide ((((i24 : Nat)) : Int) < (((n : Nat)) : Int))) = true)) ∧ (((n = n) ∧ (∀ (i : Nat), ((i < n) → (∀ (j : Nat), ((j < (1 : Nat)) → ((Value.int .i64 (g i j)) = (Value.int .i64 (gI (Value.int .i64 (g i j)))))))))) ∧ ((∀ (i : Nat), ((i < n) → (((0 : Int) ≤ (gI (Value.int .i64 (g i 0)))) ∧ ((gI (Value.int .i64 (g i 0))) < (((n : Nat)) : Int))))) ∧ ((((0 : Int) ≤ (((i24 : Nat)) : Int)) ∧ ((((i24 : Nat)) : Int) < (((n : Nat)) : Int))) ∧ ((((n : Nat)) : Int) ≤ (9223372036854775807 : Int)))))) ∧ ((fallB n (fun (i : Nat) => (fun (j : Nat) => (gI (Value.int .i64 (g i j))))) (((i24 : Nat)) : Int) ph) = true)) ∧ (((.slice (some ⟨9, 0, none⟩) 1 1) : Value) = (.slice (some ⟨9, 0, none⟩) (1 : Nat) (1 : Nat)))) ∧ (((.int .i64 (IntKind.i64.wrap ((((i24 : Nat)) : Int) + (1 : Int)))) : Value) = (.int .i64 ((((i24 + 1) : Nat)) : Int))))⟩) := by kernel_rfl
theorem bar0_k (n : Nat) (c : Nat) (g : Nat → Nat → Int) (e : TypeId) (opn : Bool) (sz : Nat) (ro : Bool) (ph : Int) (i24 : Nat) (hg : ∀ i, i < n → 0 ≤ g i 0 ∧ g i 0 < (n : Int)) (hf : ((i24 : Nat) : Int) ≤ (n : Int)) (hn : n ≤ 1048576) (h0 : ((i24 : Nat) : Int) < ((n : Nat) : Int)) (h1 : (fallB n g ((i24 : Nat) : Int) ph) = true) : KC Tryz.prog none baX (baA n c g e opn sz ro ph i24).act (wS 6 (baL n c g e opn sz ro ph i24)) .normal (baA1 n c g e opn sz ro ph (i24 + 1) (fun i j => ([((i24 : Nat) : Int)] : List Int).getD (i * 1 + j) 0) 0).act (wS 6 (baL1 n c g e opn sz ro ph (i24 + 1) (fun i j => ([((i24 : Nat) : Int)] : List Int).getD (i * 1 + j) 0) 0)) 8 256 := by
  refine KT.toldAs (L := [.rows n 1 (fun i j => .int .i64 (g i j)) e opn sz ro, .cells [.int .i64 (crV n g), .int .i64 (ixE ph ((n : Nat) : Int))] 26 false 0 false, .cells [.int .i64 ((i24 : Nat) : Int)] 3 true 1 false]) ?_ (by
    simp only [List.map_cons, List.map_nil, baL, baL1]
    repeat' (first | rfl | exact rows_nrm (fun i j hi hj => push_told hi hj) | exact rows_nrm (fun i j hi hj => set_told) | exact rows_nrm (fun i j hi hj => rfl) | refine congr (congrArg List.cons ?_) ?_))
  refine seenK_ok smx baK_ok sng (bar0_eq n c g e opn sz ro ph i24) ?_
  · skip
    repeat' (first | (with_reducible assumption) | exact (fun _ _ _ _ => rfl) | apply And.intro)
    all_goals first | trivial | rfl | assumption | exact decide_eq_true (by omega) | exact decide_eq_false (by omega) | exact bne_iff_ne.2 (by assumption) | exact bne_eq_false_iff_eq.2 (by assumption) | exact beq_iff_eq.2 (by assumption) | exact beq_eq_false_iff_ne.2 (by assumption) | exact wnextW (by omega) | exact wsub1 (by omega) (by omega) | exact toNatO (by omega) | exact congrArg Bool.not (by assumption) | exact congrArg Bool.not (decide_eq_true (by omega)) | exact congrArg Bool.not (decide_eq_false (by omega)) | exact congrArg Bool.not (beq_iff_eq.2 (by assumption)) | exact congrArg Bool.not (beq_eq_false_iff_ne.2 (by assumption)) | exact beq_eq_false_iff_ne.2 (by omega) | exact beq_iff_eq.2 (by omega) | exact bne_iff_ne.2 (by omega) | exact bne_eq_false_iff_eq.2 (by omega) | omega
theorem bar1_eq (n : Nat) (c : Nat) (g : Nat → Nat → Int) (e : TypeId) (opn : Bool) (sz : Nat) (ro : Bool) (ph : Int) (i24 : Nat) : seenK 6 2 [] 25165955 256 (bar1 n c g e opn sz ro ph i24) = some (.normal, baA n c g e opn sz ro ph (i24 + 1), [.rows n 1 (fun i j => .int .i64 (g i j)) e opn sz ro, .cells [.int .i64 (crV n g), .int .i64 (ixE ph ((n : Nat) : Int))] 26 false 0 false], 256, ⟨[], ((((True ∧ ((decide ((((i24 : Nat)) : Int) < (((n : Nat)) : Int))) = true)) ∧ (((n = n) ∧ (∀ (i : Nat), ((i < n) → (∀ (j : Nat), ((j < (1 : Nat)) → ((Value.int .i64 (g i j)) = (Value.int .i64 (gI (Value.int .i64 (g i j)))))))))) ∧ ((∀ (i : Nat), ((i < n) → (((0 : Int) ≤ (gI (Value.int .i64 (g i 0)))) ∧ ((gI (Value.int .i64 (g i 0))) < (((n : Nat)) : Int))))) ∧ ((((0 : Int) ≤ (((i24 : Nat)) : Int)) ∧ ((((i24 : Nat)) : Int) < (((n : Nat)) : Int))) ∧ ((((n : Nat)) : Int) ≤ (9223372036854775807 : Int)))))) ∧ ((fallB n (fun (i : Nat) => (fun (j : Nat) => (gI (Value.int .i64 (g i j))))) (((i24 : Nat)) : Int) ph) = false)) ∧ (((.int .i64 (IntKind.i64.wrap ((((i24 : Nat)) : Int) + (1 : Int)))) : Value) = (.int .i64 ((((i24 + 1) : Nat)) : Int))))⟩) := by kernel_rfl
theorem bar1_k (n : Nat) (c : Nat) (g : Nat → Nat → Int) (e : TypeId) (opn : Bool) (sz : Nat) (ro : Bool) (ph : Int) (i24 : Nat) (hg : ∀ i, i < n → 0 ≤ g i 0 ∧ g i 0 < (n : Int)) (hf : ((i24 : Nat) : Int) ≤ (n : Int)) (hn : n ≤ 1048576) (h0 : ((i24 : Nat) : Int) < ((n : Nat) : Int)) (h1 : (fallB n g ((i24 : Nat) : Int) ph) = false) : KC Tryz.prog none baX (baA n c g e opn sz ro ph i24).act (wS 6 (baL n c g e opn sz ro ph i24)) .normal (baA n c g e opn sz ro ph (i24 + 1)).act (wS 6 (baL n c g e opn sz ro ph (i24 + 1))) 8 256 := by
  refine seenK_ok smx baK_ok sng (bar1_eq n c g e opn sz ro ph i24) ?_
  · skip
    repeat' (first | (with_reducible assumption) | exact (fun _ _ _ _ => rfl) | apply And.intro)
    all_goals first | trivial | rfl | assumption | exact decide_eq_true (by omega) | exact decide_eq_false (by omega) | exact bne_iff_ne.2 (by assumption) | exact bne_eq_false_iff_eq.2 (by assumption) | exact beq_iff_eq.2 (by assumption) | exact beq_eq_false_iff_ne.2 (by assumption) | exact wnextW (by omega) | exact wsub1 (by omega) (by omega) | exact toNatO (by omega) | exact congrArg Bool.not (by assumption) | exact congrArg Bool.not (decide_eq_true (by omega)) | exact congrArg Bool.not (decide_eq_false (by omega)) | exact congrArg Bool.not (beq_iff_eq.2 (by assumption)) | exact congrArg Bool.not (beq_eq_false_iff_ne.2 (by assumption)) | exact beq_eq_false_iff_ne.2 (by omega) | exact beq_iff_eq.2 (by omega) | exact bne_iff_ne.2 (by omega) | exact bne_eq_false_iff_eq.2 (by omega) | omega
theorem bar2_eq (n : Nat) (c : Nat) (g : Nat → Nat → Int) (e : TypeId) (opn : Bool) (sz : Nat) (ro : Bool) (ph : Int) (i24 : Nat) : seenK 6 2 [] 128 256 (bar2 n c g e opn sz ro ph i24) = some ((.exit 0), bar2E n c g e opn sz ro ph i24, [.rows n 1 (fun i j => .int .i64 (g i j)) e opn sz ro, .cells [.int .i64 (crV n g), .int .i64 (ixE ph ((n : Nat) : Int))] 26 false 0 false], 256, ⟨[], (True ∧ ((decide ((((i24 : Nat)) : Int) < (((n : Nat)) : Int))) = false))⟩) := by kernel_rfl
theorem bar2_k (n : Nat) (c : Nat) (g : Nat → Nat → Int) (e : TypeId) (opn : Bool) (sz : Nat) (ro : Bool) (ph : Int) (i24 : Nat) (hg : ∀ i, i < n → 0 ≤ g i 0 ∧ g i 0 < (n : Int)) (hf : ((i24 : Nat) : Int) ≤ (n : Int)) (hn : n ≤ 1048576) (h0 : ¬ ((i24 : Nat) : Int) < ((n : Nat) : Int)) : KC Tryz.prog none baX (baA n c g e opn sz ro ph i24).act (wS 6 (baL n c g e opn sz ro ph i24)) (.exit 0) (bar2E n c g e opn sz ro ph i24).act (wS 6 [.rows n 1 (fun i j => .int .i64 (g i j)) e opn sz ro, .cells [.int .i64 (crV n g), .int .i64 (ixE ph ((n : Nat) : Int))] 26 false 0 false]) 8 256 := by
  refine seenK_ok smx baK_ok sng (bar2_eq n c g e opn sz ro ph i24) ?_
  · skip
    repeat' (first | (with_reducible assumption) | exact (fun _ _ _ _ => rfl) | apply And.intro)
    all_goals first | trivial | rfl | assumption | exact decide_eq_true (by omega) | exact decide_eq_false (by omega) | exact bne_iff_ne.2 (by assumption) | exact bne_eq_false_iff_eq.2 (by assumption) | exact beq_iff_eq.2 (by assumption) | exact beq_eq_false_iff_ne.2 (by assumption) | exact wnextW (by omega) | exact wsub1 (by omega) (by omega) | exact toNatO (by omega) | exact congrArg Bool.not (by assumption) | exact congrArg Bool.not (decide_eq_true (by omega)) | exact congrArg Bool.not (decide_eq_false (by omega)) | exact congrArg Bool.not (beq_iff_eq.2 (by assumption)) | exact congrArg Bool.not (beq_eq_false_iff_ne.2 (by assumption)) | exact beq_eq_false_iff_ne.2 (by omega) | exact beq_iff_eq.2 (by omega) | exact bne_iff_ne.2 (by omega) | exact bne_eq_false_iff_eq.2 (by omega) | omega
theorem bar3_eq (n : Nat) (c : Nat) (g : Nat → Nat → Int) (e : TypeId) (opn : Bool) (sz : Nat) (ro : Bool) (ph : Int) (i24 : Nat) (g2 : Nat → Nat → Int) (m7 : Nat) : seenK 6 2 [10] 25165955 256 (bar3 n c g e opn sz ro ph i24 g2 m7) = some (.normal, baA1 n c g e opn sz ro ph (i24 + 1) (pushI (m7 + 1) g2 [((i24 : Nat) : Int)]) (m7 + 1), [.rows n 1 (fun i j => .int .i64 (g i j)) e opn sz ro, .cells [.int .i64 (crV n g), .int .i64 (ixE ph ((n : Nat) : Int))] 26 false 0 false, .rows (m7 + 2) 1 (fun i j => tellV (invN 8 [10]) 8 ((pushRow (m7 + 1) 1 (fun i j => .int .i64 (g2 i j)) [.int .i64 ((i24 : Nat) : Int)]) i j)) 3 true 1 false], 256, ⟨[], (((((True ∧ ((decide ((((i24 : Nat)) : Int) < (((n : Nat)) : Int))) = true)) ∧ (((n = n) ∧ (∀ (i : Nat), ((i < n) → (∀ (j : Nat), ((j < (1 : Nat)) → ((Value.int .i64 (g i j)) = (Value.int .i64 (gI (Value.int .i64 (g i j)))))))))) ∧ ((∀ (i : Nat), ((i < n) → (((0 : Int) ≤ (gI (Value.int .i64 (g i 0)))) ∧ ((gI (Value.int .i64 (g i 0))) < (((n : Nat)) : Int))))) ∧ ((((0 : Int) ≤ (((i24 : Nat)) : Int)) ∧ ((((i24 : Nat)) : Int) < (((n : Nat)) : Int))) ∧ ((((n : Nat)) : Int) ≤ (9223372036854775807 : Int)))))) ∧ ((fallB n (fun (i : Nat) => (fun (j : Nat) => (gI (Value.int .i64 (g i j))))) (((i24 : Nat)) : Int) ph) = true)) ∧ (((m7 + 1) = (m7 + 1)) ∧ (((m7 + 1) = (m7 + 1)) ∧ ((((m7 + 1) + 1) * 8) ≤ (140737488355328 : Nat))))) ∧ (((.int .i64 (IntKind.i64.wrap ((((i24 : Nat)) : Int) + (1 : Int)))) : Value) = (.int .i64 ((((i24 + 1) : Nat)) : Int))))⟩) := by kernel_rfl
theorem bar3_k (n : Nat) (c : Nat) (g : Nat → Nat → Int) (e : TypeId) (opn : Bool) (sz : Nat) (ro : Bool) (ph : Int) (i24 : Nat) (g2 : Nat → Nat → Int) (m7 : Nat) (hg : ∀ i, i < n → 0 ≤ g i 0 ∧ g i 0 < (n : Int)) (hf : ((i24 : Nat) : Int) ≤ (n : Int)) (hn : n ≤ 1048576) (hm : m7 + 1 ≤ i24) (h0 : ((i24 : Nat) : Int) < ((n : Nat) : Int)) (h1 : (fallB n g ((i24 : Nat) : Int) ph) = true) : KC Tryz.prog none baX (baA1 n c g e opn sz ro ph i24 g2 m7).act (wS 6 (baL1 n c g e opn sz ro ph i24 g2 m7)) .normal (baA1 n c g e opn sz ro ph (i24 + 1) (pushI (m7 + 1) g2 [((i24 : Nat) : Int)]) (m7 + 1)).act (wS 6 (baL1 n c g e opn sz ro ph (i24 + 1) (pushI (m7 + 1) g2 [((i24 : Nat) : Int)]) (m7 + 1))) 8 256 := by
  refine KT.toldAs (L := [.rows n 1 (fun i j => .int .i64 (g i j)) e opn sz ro, .cells [.int .i64 (crV n g), .int .i64 (ixE ph ((n : Nat) : Int))] 26 false 0 false, .rows (m7 + 2) 1 (fun i j => tellV (invN 8 [10]) 8 ((pushRow (m7 + 1) 1 (fun i j => .int .i64 (g2 i j)) [.int .i64 ((i24 : Nat) : Int)]) i j)) 3 true 1 false]) ?_ (by
    simp only [List.map_cons, List.map_nil, baL, baL1]
    repeat' (first | rfl | exact rows_nrm (fun i j hi hj => push_told hi hj) | exact rows_nrm (fun i j hi hj => set_told) | exact rows_nrm (fun i j hi hj => rfl) | refine congr (congrArg List.cons ?_) ?_))
  refine seenK_ok smx baK_ok sng (bar3_eq n c g e opn sz ro ph i24 g2 m7) ?_
  · skip
    repeat' (first | (with_reducible assumption) | exact (fun _ _ _ _ => rfl) | apply And.intro)
    all_goals first | trivial | rfl | assumption | exact decide_eq_true (by omega) | exact decide_eq_false (by omega) | exact bne_iff_ne.2 (by assumption) | exact bne_eq_false_iff_eq.2 (by assumption) | exact beq_iff_eq.2 (by assumption) | exact beq_eq_false_iff_ne.2 (by assumption) | exact wnextW (by omega) | exact wsub1 (by omega) (by omega) | exact toNatO (by omega) | exact congrArg Bool.not (by assumption) | exact congrArg Bool.not (decide_eq_true (by omega)) | exact congrArg Bool.not (decide_eq_false (by omega)) | exact congrArg Bool.not (beq_iff_eq.2 (by assumption)) | exact congrArg Bool.not (beq_eq_false_iff_ne.2 (by assumption)) | exact beq_eq_false_iff_ne.2 (by omega) | exact beq_iff_eq.2 (by omega) | exact bne_iff_ne.2 (by omega) | exact bne_eq_false_iff_eq.2 (by omega) | omega
theorem bar4_eq (n : Nat) (c : Nat) (g : Nat → Nat → Int) (e : TypeId) (opn : Bool) (sz : Nat) (ro : Bool) (ph : Int) (i24 : Nat) (g2 : Nat → Nat → Int) (m7 : Nat) : seenK 6 2 [8] 25165955 256 (bar4 n c g e opn sz ro ph i24 g2 m7) = some (.normal, baA1 n c g e opn sz ro ph (i24 + 1) g2 m7, [.rows n 1 (fun i j => .int .i64 (g i j)) e opn sz ro, .cells [.int .i64 (crV n g), .int .i64 (ixE ph ((n : Nat) : Int))] 26 false 0 false, .rows (m7 + 1) 1 (fun i j => .int .i64 (g2 i j)) 3 true 1 false], 256, ⟨[], ((((True ∧ ((decide ((((i24 : Nat)) : Int) < (((n : Nat)) : Int))) = true)) ∧ (((n = n) ∧ (∀ (i : Nat), ((i < n) → (∀ (j : Nat), ((j < (1 : Nat)) → ((Value.int .i64 (g i j)) = (Value.int .i64 (gI (Value.int .i64 (g i j)))))))))) ∧ ((∀ (i : Nat), ((i < n) → (((0 : Int) ≤ (gI (Value.int .i64 (g i 0)))) ∧ ((gI (Value.int .i64 (g i 0))) < (((n : Nat)) : Int))))) ∧ ((((0 : Int) ≤ (((i24 : Nat)) : Int)) ∧ ((((i24 : Nat)) : Int) < (((n : Nat)) : Int))) ∧ ((((n : Nat)) : Int) ≤ (9223372036854775807 : Int)))))) ∧ ((fallB n (fun (i : Nat) => (fun (j : Nat) => (gI (Value.int .i64 (g i j))))) (((i24 : Nat)) : Int) ph) = false)) ∧ (((.int .i64 (IntKind.i64.wrap ((((i24 : Nat)) : Int) + (1 : Int)))) : Value) = (.int .i64 ((((i24 + 1) : Nat)) : Int))))⟩) := by kernel_rfl
theorem bar4_k (n : Nat) (c : Nat) (g : Nat → Nat → Int) (e : TypeId) (opn : Bool) (sz : Nat) (ro : Bool) (ph : Int) (i24 : Nat) (g2 : Nat → Nat → Int) (m7 : Nat) (hg : ∀ i, i < n → 0 ≤ g i 0 ∧ g i 0 < (n : Int)) (hf : ((i24 : Nat) : Int) ≤ (n : Int)) (hn : n ≤ 1048576) (hm : m7 + 1 ≤ i24) (h0 : ((i24 : Nat) : Int) < ((n : Nat) : Int)) (h1 : (fallB n g ((i24 : Nat) : Int) ph) = false) : KC Tryz.prog none baX (baA1 n c g e opn sz ro ph i24 g2 m7).act (wS 6 (baL1 n c g e opn sz ro ph i24 g2 m7)) .normal (baA1 n c g e opn sz ro ph (i24 + 1) g2 m7).act (wS 6 (baL1 n c g e opn sz ro ph (i24 + 1) g2 m7)) 8 256 := by
  refine KT.toldAs (L := [.rows n 1 (fun i j => .int .i64 (g i j)) e opn sz ro, .cells [.int .i64 (crV n g), .int .i64 (ixE ph ((n : Nat) : Int))] 26 false 0 false, .rows (m7 + 1) 1 (fun i j => .int .i64 (g2 i j)) 3 true 1 false]) ?_ (by
    simp only [List.map_cons, List.map_nil, baL, baL1]
    repeat' (first | rfl | exact rows_nrm (fun i j hi hj => push_told hi hj) | exact rows_nrm (fun i j hi hj => set_told) | exact rows_nrm (fun i j hi hj => rfl) | refine congr (congrArg List.cons ?_) ?_))
  refine seenK_ok smx baK_ok sng (bar4_eq n c g e opn sz ro ph i24 g2 m7) ?_
  · skip
    repeat' (first | (with_reducible assumption) | exact (fun _ _ _ _ => rfl) | apply And.intro)
    all_goals first | trivial | rfl | assumption | exact decide_eq_true (by omega) | exact decide_eq_false (by omega) | exact bne_iff_ne.2 (by assumption) | exact bne_eq_false_iff_eq.2 (by assumption) | exact beq_iff_eq.2 (by assumption) | exact beq_eq_false_iff_ne.2 (by assumption) | exact wnextW (by omega) | exact wsub1 (by omega) (by omega) | exact toNatO (by omega) | exact congrArg Bool.not (by assumption) | exact congrArg Bool.not (decide_eq_true (by omega)) | exact congrArg Bool.not (decide_eq_false (by omega)) | exact congrArg Bool.not (beq_iff_eq.2 (by assumption)) | exact congrArg Bool.not (beq_eq_false_iff_ne.2 (by assumption)) | exact beq_eq_false_iff_ne.2 (by omega) | exact beq_iff_eq.2 (by omega) | exact bne_iff_ne.2 (by omega) | exact bne_eq_false_iff_eq.2 (by omega) | omega
theorem bar5_eq (n : Nat) (c : Nat) (g : Nat → Nat → Int) (e : TypeId) (opn : Bool) (sz : Nat) (ro : Bool) (ph : Int) (i24 : Nat) (g2 : Nat → Nat → Int) (m7 : Nat) : seenK 6 2 [8] 128 256 (bar5 n c g e opn sz ro ph i24 g2 m7) = some ((.exit 0), bar5E n c g e opn sz ro ph i24 g2 m7, [.rows n 1 (fun i j => .int .i64 (g i j)) e opn sz ro, .cells [.int .i64 (crV n g), .int .i64 (ixE ph ((n : Nat) : Int))] 26 false 0 false, .rows (m7 + 1) 1 (fun i j => .int .i64 (g2 i j)) 3 true 1 false], 256, ⟨[], (True ∧ ((decide ((((i24 : Nat)) : Int) < (((n : Nat)) : Int))) = false))⟩) := by kernel_rfl
theorem bar5_k (n : Nat) (c : Nat) (g : Nat → Nat → Int) (e : TypeId) (opn : Bool) (sz : Nat) (ro : Bool) (ph : Int) (i24 : Nat) (g2 : Nat → Nat → Int) (m7 : Nat) (hg : ∀ i, i < n → 0 ≤ g i 0 ∧ g i 0 < (n : Int)) (hf : ((i24 : Nat) : Int) ≤ (n : Int)) (hn : n ≤ 1048576) (hm : m7 + 1 ≤ i24) (h0 : ¬ ((i24 : Nat) : Int) < ((n : Nat) : Int)) : KC Tryz.prog none baX (baA1 n c g e opn sz ro ph i24 g2 m7).act (wS 6 (baL1 n c g e opn sz ro ph i24 g2 m7)) (.exit 0) (bar5E n c g e opn sz ro ph i24 g2 m7).act (wS 6 [.rows n 1 (fun i j => .int .i64 (g i j)) e opn sz ro, .cells [.int .i64 (crV n g), .int .i64 (ixE ph ((n : Nat) : Int))] 26 false 0 false, .rows (m7 + 1) 1 (fun i j => .int .i64 (g2 i j)) 3 true 1 false]) 8 256 := by
  refine KT.toldAs (L := [.rows n 1 (fun i j => .int .i64 (g i j)) e opn sz ro, .cells [.int .i64 (crV n g), .int .i64 (ixE ph ((n : Nat) : Int))] 26 false 0 false, .rows (m7 + 1) 1 (fun i j => .int .i64 (g2 i j)) 3 true 1 false]) ?_ (by
    simp only [List.map_cons, List.map_nil, baL, baL1]
    repeat' (first | rfl | exact rows_nrm (fun i j hi hj => push_told hi hj) | exact rows_nrm (fun i j hi hj => set_told) | exact rows_nrm (fun i j hi hj => rfl) | refine congr (congrArg List.cons ?_) ?_))
  refine seenK_ok smx baK_ok sng (bar5_eq n c g e opn sz ro ph i24 g2 m7) ?_
  · skip
    repeat' (first | (with_reducible assumption) | exact (fun _ _ _ _ => rfl) | apply And.intro)
    all_goals first | trivial | rfl | assumption | exact decide_eq_true (by omega) | exact decide_eq_false (by omega) | exact bne_iff_ne.2 (by assumption) | exact bne_eq_false_iff_eq.2 (by assumption) | exact beq_iff_eq.2 (by assumption) | exact beq_eq_false_iff_ne.2 (by assumption) | exact wnextW (by omega) | exact wsub1 (by omega) (by omega) | exact toNatO (by omega) | exact congrArg Bool.not (by assumption) | exact congrArg Bool.not (decide_eq_true (by omega)) | exact congrArg Bool.not (decide_eq_false (by omega)) | exact congrArg Bool.not (beq_iff_eq.2 (by assumption)) | exact congrArg Bool.not (beq_eq_false_iff_ne.2 (by assumption)) | exact beq_eq_false_iff_ne.2 (by omega) | exact beq_iff_eq.2 (by omega) | exact bne_iff_ne.2 (by omega) | exact bne_eq_false_iff_eq.2 (by omega) | omega
theorem ba_yes (n : Nat) (c : Nat) (g : Nat → Nat → Int) (e : TypeId) (opn : Bool) (sz : Nat) (ro : Bool) (ph : Int) (hg : ∀ i, i < n → 0 ≤ g i 0 ∧ g i 0 < (n : Int)) (hn : n ≤ 1048576) {i : Nat} (c' : Nat) (G : Nat → Nat → Int) (hc : c' ≤ i) (hi : i < n) (hq : baQ n c g e opn sz ro ph i = true) : KC Tryz.prog none baX (baAA n c g e opn sz ro ph i c' G).act (wS 6 (baLL n c g e opn sz ro ph i c' G)) .normal (baAA n c g e opn sz ro ph (i + 1) (c' + 1) (growI c' G (baV i))).act (wS 6 (baLL n c g e opn sz ro ph (i + 1) (c' + 1) (growI c' G (baV i)))) 8 256 := by
  cases c' with
  | zero => exact bar0_k n c g e opn sz ro ph i hg (by omega) hn (by omega) hq
  | succ m => exact bar3_k n c g e opn sz ro ph i G m hg (by omega) hn hc (by omega) hq
theorem ba_no (n : Nat) (c : Nat) (g : Nat → Nat → Int) (e : TypeId) (opn : Bool) (sz : Nat) (ro : Bool) (ph : Int) (hg : ∀ i, i < n → 0 ≤ g i 0 ∧ g i 0 < (n : Int)) (hn : n ≤ 1048576) {i : Nat} (c' : Nat) (G : Nat → Nat → Int) (hc : c' ≤ i) (hi : i < n) (hq : baQ n c g e opn sz ro ph i = false) : KC Tryz.prog none baX (baAA n c g e opn sz ro ph i c' G).act (wS 6 (baLL n c g e opn sz ro ph i c' G)) .normal (baAA n c g e opn sz ro ph (i + 1) c' G).act (wS 6 (baLL n c g e opn sz ro ph (i + 1) c' G)) 8 256 := by
  cases c' with
  | zero => exact bar1_k n c g e opn sz ro ph i hg (by omega) hn (by omega) hq
  | succ m => exact bar4_k n c g e opn sz ro ph i G m hg (by omega) hn hc (by omega) hq
theorem ba_loop (n : Nat) (c : Nat) (g : Nat → Nat → Int) (e : TypeId) (opn : Bool) (sz : Nat) (ro : Bool) (ph : Int) (hg : ∀ i, i < n → 0 ≤ g i 0 ∧ g i 0 < (n : Int)) (hn : n ≤ 1048576) (mm : Nat) (hm : cntF (baQ n c g e opn sz ro ph) n = mm + 1) : KC Tryz.prog none (.loop baX) (baA n c g e opn sz ro ph 0).act (wS 6 (baL n c g e opn sz ro ph 0)) (.exit 0) (bar5E n c g e opn sz ro ph n (selG (baQ n c g e opn sz ro ph) baV n) mm).act (wS 6 [.rows n 1 (fun i j => .int .i64 (g i j)) e opn sz ro, .cells [.int .i64 (crV n g), .int .i64 (ixE ph ((n : Nat) : Int))] 26 false 0 false, .rows (mm + 1) 1 (fun i j => .int .i64 ((selG (baQ n c g e opn sz ro ph) baV n) i j)) 3 true 1 false]) 8 256 := by
  refine K_rounds (A := fun i => (baAA n c g e opn sz ro ph i (cntF (baQ n c g e opn sz ro ph) i) (selG (baQ n c g e opn sz ro ph) baV i)).act) (S := fun i => wS 6 (baLL n c g e opn sz ro ph i (cntF (baQ n c g e opn sz ro ph) i) (selG (baQ n c g e opn sz ro ph) baV i))) n (fun i hi => ?_) ?_ (by simp)
  · cases hq : baQ n c g e opn sz ro ph i with
    | true =>
      simp only [cntF_yes hq, selG_yes hq]
      exact ba_yes n c g e opn sz ro ph hg hn _ _ (cntF_le _ i) hi hq
    | false =>
      simp only [cntF_no hq, selG_no hq]
      exact ba_no n c g e opn sz ro ph hg hn _ _ (cntF_le _ i) hi hq
  · simp only [hm]
    exact bar5_k n c g e opn sz ro ph n (selG (baQ n c g e opn sz ro ph) baV n) mm hg (by omega) hn (hm ▸ cntF_le _ n) (by omega)
theorem baf0_eq (n : Nat) (c : Nat) (g : Nat → Nat → Int) (e : TypeId) (opn : Bool) (sz : Nat) (ro : Bool) (ph : Int) (mm : Nat) : seenF' Tryz.prog Tryz.f53 6 1 [8] (baf0 n c g e opn sz ro ph mm) = some (.tuple #[.slice (some ⟨7, 0, none⟩) (mm + 1) (mm + 1), .int .i64 (0 : Int)], baS n c g e opn sz ro ph ++ [.rows (mm + 1) 1 (fun i j => .int .i64 ((selG (baQ n c g e opn sz ro ph) baV n) i j)) 3 true 1 false], ⟨[], (((((((((((True ∧ (((n = n) ∧ (∀ (i : Nat), ((i < n) → (∀ (j : Nat), ((j < (1 : Nat)) → ((Value.int .i64 (g i j)) = (Value.int .i64 (gI (Value.int .i64 (g i j)))))))))) ∧ ((((n : Nat)) : Int) ≤ (9223372036854775807 : Int)))) ∧ True) ∧ ((decide ((0 : Int) < (((2 : Nat)) : Int))) = true)) ∧ ((0 : Int) = (Int.ofNat 0))) ∧ (((crV n (fun (i : Nat) => (fun (j : Nat) => (gI (Value.int .i64 (g i j)))))) != (0 : Int)) = false)) ∧ ((decide ((IntKind.i64.wrap ((0 : Int) + (1 : Int))) < (((2 : Nat)) : Int))) = true)) ∧ ((IntKind.i64.wrap ((0 : Int) + (1 : Int))) = (Int.ofNat 1))) ∧ (((ixE ph (((n : Nat)) : Int)) != (0 : Int)) = false)) ∧ ((decide ((IntKind.i64.wrap ((IntKind.i64.wrap ((0 : Int) + (1 : Int))) + (1 : Int))) < (((2 : Nat)) : Int))) = false)) ∧ (((0 : Int) != (0 : Int)) = false)) ∧ ((((baA n c g e opn sz ro ph (0 : Nat)) = (baA n c g e opn sz ro ph (0 : Nat))) ∧ ((8 = (6 + 2)) ∧ ((HAppend.hAppend (List.replicate (6 : Nat) MObj.hole) (baL n c g e opn sz ro ph (0 : Nat))) = (HAppend.hAppend (List.replicate (6 : Nat) MObj.hole) (baL n c g e opn sz ro ph (0 : Nat)))))) ∧ KC Tryz.prog none (.loop baX) (baA n c g e opn sz ro ph 0).act (wS 6 (baL n c g e opn sz ro ph 0)) (.exit 0) (bar5E n c g e opn sz ro ph n (selG (baQ n c g e opn sz ro ph) baV n) mm).act (wS 6 [.rows n 1 (fun i j => .int .i64 (g i j)) e opn sz ro, .cells [.int .i64 (crV n g), .int .i64 (ixE ph ((n : Nat) : Int))] 26 false 0 false, .rows (mm + 1) 1 (fun i j => .int .i64 ((selG (baQ n c g e opn sz ro ph) baV n) i j)) 3 true 1 false]) 8 256))⟩) := by kernel_rfl
theorem baf0_s (n : Nat) (c : Nat) (g : Nat → Nat → Int) (e : TypeId) (opn : Bool) (sz : Nat) (ro : Bool) (ph : Int) (mm : Nat) (hx : (n : Int) ≤ 9223372036854775807) (h0 : (crV n g) = (0 : Int)) (h1 : (ixE ph ((n : Nat) : Int)) = (0 : Int)) (l0 : KC Tryz.prog none (.loop baX) (baA n c g e opn sz ro ph 0).act (wS 6 (baL n c g e opn sz ro ph 0)) (.exit 0) (bar5E n c g e opn sz ro ph n (selG (baQ n c g e opn sz ro ph) baV n) mm).act (wS 6 [.rows n 1 (fun i j => .int .i64 (g i j)) e opn sz ro, .cells [.int .i64 (crV n g), .int .i64 (ixE ph ((n : Nat) : Int))] 26 false 0 false, .rows (mm + 1) 1 (fun i j => .int .i64 ((selG (baQ n c g e opn sz ro ph) baV n) i j)) 3 true 1 false]) 8 256) : SndF Tryz.prog 53 (baArgs n c g e opn sz ro ph) (wS 6 (baS n c g e opn sz ro ph)) (.tuple #[.slice (some ⟨7, 0, none⟩) (mm + 1) (mm + 1), .int .i64 (0 : Int)]) (wS 6 (baS n c g e opn sz ro ph ++ [.rows (mm + 1) 1 (fun i j => .int .i64 ((selG (baQ n c g e opn sz ro ph) baV n) i j)) 3 true 1 false])) 64 0 :=
  sndF_K (L := baS n c g e opn sz ro ph) (L2 := [.rows (mm + 1) 1 (fun i j => .int .i64 ((selG (baQ n c g e opn sz ro ph) baV n) i j)) 3 true 1 false]) (ms := [8]) smx baK_ok sng (by kernel_rfl) (by kernel_rfl) (baf0_eq n c g e opn sz ro ph mm) (by
    repeat' (first | (with_reducible assumption) | exact (fun _ _ _ _ => rfl) | apply And.intro)
    all_goals first | trivial | rfl | assumption | exact decide_eq_true (by omega) | exact decide_eq_false (by omega) | exact bne_iff_ne.2 (by assumption) | exact bne_eq_false_iff_eq.2 (by assumption) | exact beq_iff_eq.2 (by assumption) | exact beq_eq_false_iff_ne.2 (by assumption) | exact wnextW (by omega) | exact wsub1 (by omega) (by omega) | exact toNatO (by omega) | exact congrArg Bool.not (by assumption) | exact congrArg Bool.not (decide_eq_true (by omega)) | exact congrArg Bool.not (decide_eq_false (by omega)) | exact congrArg Bool.not (beq_iff_eq.2 (by assumption)) | exact congrArg Bool.not (beq_eq_false_iff_ne.2 (by assumption)) | exact beq_eq_false_iff_ne.2 (by omega) | exact beq_iff_eq.2 (by omega) | exact bne_iff_ne.2 (by omega) | exact bne_eq_false_iff_eq.2 (by omega) | omega) (by kernel_rfl) (fun o ho => by
      simp only [baS, List.mem_cons, List.not_mem_nil, or_false] at ho
      rcases ho with rfl
      all_goals first | rfl | exact fun i j => rfl) (fun o ho => by
      simp only [List.mem_cons, List.not_mem_nil, or_false] at ho
      rcases ho with rfl
      all_goals first | rfl | exact fun i j => rfl) (by kernel_rfl)
theorem baf1_eq (n : Nat) (c : Nat) (g : Nat → Nat → Int) (e : TypeId) (opn : Bool) (sz : Nat) (ro : Bool) (ph : Int) : seenF' Tryz.prog Tryz.f53 6 1 [] (baf1 n c g e opn sz ro ph) = some (.tuple #[.slice none 0 0, .int .i64 (ixE ph ((n : Nat) : Int))], baS n c g e opn sz ro ph ++ [], ⟨[], (((((((((True ∧ (((n = n) ∧ (∀ (i : Nat), ((i < n) → (∀ (j : Nat), ((j < (1 : Nat)) → ((Value.int .i64 (g i j)) = (Value.int .i64 (gI (Value.int .i64 (g i j)))))))))) ∧ ((((n : Nat)) : Int) ≤ (9223372036854775807 : Int)))) ∧ True) ∧ ((decide ((0 : Int) < (((2 : Nat)) : Int))) = true)) ∧ ((0 : Int) = (Int.ofNat 0))) ∧ (((crV n (fun (i : Nat) => (fun (j : Nat) => (gI (Value.int .i64 (g i j)))))) != (0 : Int)) = false)) ∧ ((decide ((IntKind.i64.wrap ((0 : Int) + (1 : Int))) < (((2 : Nat)) : Int))) = true)) ∧ ((IntKind.i64.wrap ((0 : Int) + (1 : Int))) = (Int.ofNat 1))) ∧ (((ixE ph (((n : Nat)) : Int)) != (0 : Int)) = true)) ∧ (((ixE ph (((n : Nat)) : Int)) != (0 : Int)) = true))⟩) := by kernel_rfl
theorem baf1_s (n : Nat) (c : Nat) (g : Nat → Nat → Int) (e : TypeId) (opn : Bool) (sz : Nat) (ro : Bool) (ph : Int) (hx : (n : Int) ≤ 9223372036854775807) (h0 : (crV n g) = (0 : Int)) (h1 : (ixE ph ((n : Nat) : Int)) ≠ (0 : Int)) : SndF Tryz.prog 53 (baArgs n c g e opn sz ro ph) (wS 6 (baS n c g e opn sz ro ph)) (.tuple #[.slice none 0 0, .int .i64 (ixE ph ((n : Nat) : Int))]) (wS 6 (baS n c g e opn sz ro ph)) 64 0 :=
  sndF_K (L := baS n c g e opn sz ro ph) (L2 := []) (ms := []) smx baK_ok sng (by kernel_rfl) (by kernel_rfl) (baf1_eq n c g e opn sz ro ph) (by
    repeat' (first | (with_reducible assumption) | exact (fun _ _ _ _ => rfl) | apply And.intro)
    all_goals first | trivial | rfl | assumption | exact decide_eq_true (by omega) | exact decide_eq_false (by omega) | exact bne_iff_ne.2 (by assumption) | exact bne_eq_false_iff_eq.2 (by assumption) | exact beq_iff_eq.2 (by assumption) | exact beq_eq_false_iff_ne.2 (by assumption) | exact wnextW (by omega) | exact wsub1 (by omega) (by omega) | exact toNatO (by omega) | exact congrArg Bool.not (by assumption) | exact congrArg Bool.not (decide_eq_true (by omega)) | exact congrArg Bool.not (decide_eq_false (by omega)) | exact congrArg Bool.not (beq_iff_eq.2 (by assumption)) | exact congrArg Bool.not (beq_eq_false_iff_ne.2 (by assumption)) | exact beq_eq_false_iff_ne.2 (by omega) | exact beq_iff_eq.2 (by omega) | exact bne_iff_ne.2 (by omega) | exact bne_eq_false_iff_eq.2 (by omega) | omega) (by kernel_rfl) (fun o ho => by
      simp only [baS, List.mem_cons, List.not_mem_nil, or_false] at ho
      rcases ho with rfl
      all_goals first | rfl | exact fun i j => rfl) (fun o ho => by cases ho) (by kernel_rfl)
theorem baf2_eq (n : Nat) (c : Nat) (g : Nat → Nat → Int) (e : TypeId) (opn : Bool) (sz : Nat) (ro : Bool) (ph : Int) : seenF' Tryz.prog Tryz.f53 6 1 [] (baf2 n c g e opn sz ro ph) = some (.tuple #[.slice none 0 0, .int .i64 (crV n g)], baS n c g e opn sz ro ph ++ [], ⟨[], ((((((True ∧ (((n = n) ∧ (∀ (i : Nat), ((i < n) → (∀ (j : Nat), ((j < (1 : Nat)) → ((Value.int .i64 (g i j)) = (Value.int .i64 (gI (Value.int .i64 (g i j)))))))))) ∧ ((((n : Nat)) : Int) ≤ (9223372036854775807 : Int)))) ∧ True) ∧ ((decide ((0 : Int) < (((2 : Nat)) : Int))) = true)) ∧ ((0 : Int) = (Int.ofNat 0))) ∧ (((crV n (fun (i : Nat) => (fun (j : Nat) => (gI (Value.int .i64 (g i j)))))) != (0 : Int)) = true)) ∧ (((crV n (fun (i : Nat) => (fun (j : Nat) => (gI (Value.int .i64 (g i j)))))) != (0 : Int)) = true))⟩) := by kernel_rfl
theorem baf2_s (n : Nat) (c : Nat) (g : Nat → Nat → Int) (e : TypeId) (opn : Bool) (sz : Nat) (ro : Bool) (ph : Int) (hx : (n : Int) ≤ 9223372036854775807) (h0 : (crV n g) ≠ (0 : Int)) : SndF Tryz.prog 53 (baArgs n c g e opn sz ro ph) (wS 6 (baS n c g e opn sz ro ph)) (.tuple #[.slice none 0 0, .int .i64 (crV n g)]) (wS 6 (baS n c g e opn sz ro ph)) 64 0 :=
  sndF_K (L := baS n c g e opn sz ro ph) (L2 := []) (ms := []) smx baK_ok sng (by kernel_rfl) (by kernel_rfl) (baf2_eq n c g e opn sz ro ph) (by
    repeat' (first | (with_reducible assumption) | exact (fun _ _ _ _ => rfl) | apply And.intro)
    all_goals first | trivial | rfl | assumption | exact decide_eq_true (by omega) | exact decide_eq_false (by omega) | exact bne_iff_ne.2 (by assumption) | exact bne_eq_false_iff_eq.2 (by assumption) | exact beq_iff_eq.2 (by assumption) | exact beq_eq_false_iff_ne.2 (by assumption) | exact wnextW (by omega) | exact wsub1 (by omega) (by omega) | exact toNatO (by omega) | exact congrArg Bool.not (by assumption) | exact congrArg Bool.not (decide_eq_true (by omega)) | exact congrArg Bool.not (decide_eq_false (by omega)) | exact congrArg Bool.not (beq_iff_eq.2 (by assumption)) | exact congrArg Bool.not (beq_eq_false_iff_ne.2 (by assumption)) | exact beq_eq_false_iff_ne.2 (by omega) | exact beq_iff_eq.2 (by omega) | exact bne_iff_ne.2 (by omega) | exact bne_eq_false_iff_eq.2 (by omega) | omega) (by kernel_rfl) (fun o ho => by
      simp only [baS, List.mem_cons, List.not_mem_nil, or_false] at ho
      rcases ho with rfl
      all_goals first | rfl | exact fun i j => rfl) (fun o ho => by cases ho) (by kernel_rfl)
theorem ba_sndF1 (n : Nat) (c : Nat) (g : Nat → Nat → Int) (e : TypeId) (opn : Bool) (sz : Nat) (ro : Bool) (ph : Int) (hn : n ≤ 1048576) (h0 : crV n g = 0) (h1 : ixE ph (n : Int) = 0) : SndF Tryz.prog 53 (baArgs n c g e opn sz ro ph) (wS 6 (baS n c g e opn sz ro ph)) (.tuple #[.slice (some ⟨7, 0, none⟩) (basN n g ph) (basN n g ph), .int .i64 0]) (wS 6 (baS n c g e opn sz ro ph ++ [.rows (basN n g ph) 1 (fun i j => .int .i64 (basG n g ph i j)) 3 true 1 false])) 64 0 := by
  obtain ⟨m, hm⟩ := basN_pos (g := g) (ixE_ok h1)
  have hg := (crV_ok h0).2
  rw [hm]
  exact baf0_s n c g e opn sz ro ph m (by omega) h0 h1 (ba_loop n c g e opn sz ro ph hg hn m hm)
theorem ba_sndF0 (n : Nat) (c : Nat) (g : Nat → Nat → Int) (e : TypeId) (opn : Bool) (sz : Nat) (ro : Bool) (ph : Int) (hn : n ≤ 1048576) (h : th2 (crV n g) (ixE ph n) ≠ 0) : SndF Tryz.prog 53 (baArgs n c g e opn sz ro ph) (wS 6 (baS n c g e opn sz ro ph)) (.tuple #[.slice none 0 0, .int .i64 (th2 (crV n g) (ixE ph n))]) (wS 6 (baS n c g e opn sz ro ph)) 64 0 := by
  unfold th2 at h ⊢
  by_cases h0 : crV n g = 0
  · rw [if_pos h0] at h ⊢; exact baf1_s n c g e opn sz ro ph (by omega) h0 h
  · rw [if_neg h0]; exact baf2_s n c g e opn sz ro ph (by omega) h0
def kBa : CallS := fun f xs s q => match decide (f = 53) with
  | true => match xs.toList, q.rest with
    | [.slice (some ⟨b, 0, none⟩) n c, .int .i64 ph], .n d :: rest => match Nat.ble 6 b, rowK 1 .i64 s b n, (d == 1) with
      | true, some (g, _, _, _, _, p), true => some (.tuple #[.slice (some ⟨s.next, 0, none⟩) (basN n g ph) (basN n g ph), .int .i64 0], s.push (.rows (basN n g ph) 1 (fun i j => .int .i64 (basG n g ph i j)) 3 true 1 false), 2 ^ b, 0, ⟨rest, q.ob ∧ (p ∧ (n ≤ 1048576 ∧ crV n g = 0 ∧ ixE ph (n : Int) = 0))⟩)
      | true, some (g, _, _, _, _, p), false => some (.tuple #[.slice none 0 0, .int .i64 (th2 (crV n g) (ixE ph n))], s, 2 ^ b, 0, ⟨rest, q.ob ∧ (p ∧ (n ≤ 1048576 ∧ th2 (crV n g) (ixE ph n) ≠ 0))⟩)
      | _, _, _ => none
    | _, _ => none
  | false => none
theorem kBa_ok : FOkS Tryz.prog kBa := fun f xs s q u s1 R W q1 he => by
  unfold kBa at he
  split at he
  · rename_i hf
    have hf := of_decide_eq_true hf
    subst hf
    split at he
    · rename_i b n c ph d rest hx0 hrest
      have hxs : xs = #[.slice (some ⟨b, 0, none⟩) n c, .int .i64 ph] := by apply Array.ext'; exact hx0
      subst hxs
      split at he
      · rename_i g e opn sz ro p hb hr hd
        have hb := Nat.le_of_ble_eq_true hb
        cases he
        refine ⟨fun hq => hq.1, fun hq => ?_⟩
        obtain ⟨hp, hx⟩ := hq.2
        obtain ⟨l1, w1⟩ := rowK_wo hr hp
        refine SndF.rowsNew (N := 6) (bs := [b]) (s0 := wS 6 [rowI 1 n g e opn sz ro]) (o1 := .rows (basN n g ph) 1 (fun i j => .int .i64 (basG n g ph i j)) 3 true 1 false) sng (ba_sndF1 n c g e opn sz ro ph hx.1 hx.2.1 hx.2.2) rfl (fun x hx => ?_) (by simp) (by omega) (fun x hx _ => ?_) (fun x hx => ?_) (fun f j hj => ?_) (fun f hl hf => wvs_two (slice_wv (hf 0 (by simp))) (ground_wv (n := 8) rfl)) (fun f _ hf hn => ⟨wv_tuple (wvs_two (slice_wv hn) (ground_wv (n := 8) rfl)), keep_wo (N := fun _ => false) (fun b hb => by cases hb) (fun i j => rfl)⟩)
        · simp at hx; subst hx; omega
        · rcases Nat.lt_or_ge x 6 with k | k
          · have hz := (by decide : ∀ b, b < 6 → Nat.testBit 64 b = false) x k
            rw [hz] at hx; cases hx
          · exact k
        · simp at hx; subst hx; exact bit_self _
        · match j, hj with
          | 0, _ => exact w1 f
      · rename_i g e opn sz ro p hb hr hd
        have hb := Nat.le_of_ble_eq_true hb
        cases he
        refine ⟨fun hq => hq.1, fun hq => ?_⟩
        obtain ⟨hp, hx⟩ := hq.2
        obtain ⟨l1, w1⟩ := rowK_wo hr hp
        exact SndF.row (N := 6) sng (ba_sndF0 n c g e opn sz ro ph hx.1 hx.2) (by kernel_rfl) hb l1 w1 (fun f _ hf => wvs_two (slice_wv hf) (ground_wv (n := 8) rfl))
      · cases he
    · cases he
  · cases he
end Go.Proofs.YtecabbbjdnambaaGreatDoor
end
