/-
  The reckoner of the small world: regions, code, functions; what it reckons holds in the real world.
-/
import Derived.Test.YtgloclcbeohkhaaGreatDoorMiniN
namespace Go.Proofs.YtgloclcbeohkhaaGreatDoor
set_option linter.all false
namespace Mini
variable {P : Program} {rd : Option Nat} {s s1 : St} {R W : Nat}

/-! ### Which operation must stand ahead of which -/
def predOne (l : List Nat) (o : Oper) : Nat := o.after.toList.foldl (fun acc e => if Region.binds .any e = true then acc ||| (2 ^ e.on ||| l.getD e.on 0) else acc) 0
def predsL : List Oper → List Nat → List Nat
  | [], l => l
  | o :: os, l => predsL os (l ++ [predOne l o])
def preds (ops : Array Oper) : List Nat := predsL ops.toList []
def edgesL : List Oper → Nat → Bool
  | [], _ => true
  | o :: os, i => o.after.toList.all (fun e => !Region.binds .any e || decide (e.on < i)) && edgesL os (i + 1)
def edgesOk (ops : Array Oper) : Bool := edgesL ops.toList 0
def ordOf (ops : Array Oper) (j i : Nat) : Prop := ((preds ops).getD i 0).testBit j = true

theorem predsL_len : ∀ (os : List Oper) (l : List Nat), (predsL os l).length = l.length + os.length
  | [], l => rfl
  | o :: os, l => by simp only [predsL]; rw [predsL_len]; simp; omega
theorem predsL_old : ∀ (os : List Oper) (l : List Nat) (i : Nat), i < l.length → (predsL os l).getD i 0 = l.getD i 0
  | [], l, i, h => rfl
  | o :: os, l, i, h => by
    simp only [predsL]
    rw [predsL_old os _ i (by simp; omega)]
    simp [List.getD_eq_getElem?_getD, List.getElem?_append_left h]
theorem predsL_at : ∀ (os : List Oper) (l : List Nat) (k : Nat) (o : Oper), os[k]? = some o → ∃ l', l'.length = l.length + k ∧ (predsL os l).getD (l.length + k) 0 = predOne l' o ∧ ∀ i, i < l'.length → l'.getD i 0 = (predsL os l).getD i 0
  | [], l, k, o, h => by simp at h
  | o' :: os, l, 0, o, h => by
    simp at h
    subst h
    refine ⟨l, rfl, ?_, fun i hi => (predsL_old (o' :: os) l i hi).symm⟩
    simp only [predsL, Nat.add_zero]
    rw [predsL_old os _ l.length (by simp)]
    simp [List.getD_eq_getElem?_getD]
  | o' :: os, l, k + 1, o, h => by
    obtain ⟨l', h1, h2, h3⟩ := predsL_at os (l ++ [predOne l o']) k o (by simpa using h)
    refine ⟨l', by simp at h1; omega, ?_, h3⟩
    simp only [predsL]
    rw [← h2]
    congr 1
    simp
    omega
theorem fold_bit (l : List Nat) (j : Nat) : ∀ (es : List Edge) (acc : Nat), (es.foldl (fun acc e => if Region.binds .any e = true then acc ||| (2 ^ e.on ||| l.getD e.on 0) else acc) acc).testBit j = true →
    acc.testBit j = true ∨ ∃ e, e ∈ es ∧ Region.binds .any e = true ∧ (e.on = j ∨ (l.getD e.on 0).testBit j = true)
  | [], acc, h => .inl h
  | e :: es, acc, h => by
    simp only [List.foldl_cons] at h
    rcases fold_bit l j es _ h with g | ⟨e', g1, g2, g3⟩
    · by_cases hb : Region.binds .any e = true
      · rw [if_pos hb, or_bit, or_bit, Bool.or_eq_true, Bool.or_eq_true] at g
        rcases g with g | g | g
        · exact .inl g
        · exact .inr ⟨e, by simp, hb, .inl (bit_iff.1 g).symm⟩
        · exact .inr ⟨e, by simp, hb, .inr g⟩
      · rw [if_neg hb] at g; exact .inl g
    · exact .inr ⟨e', by simp [g1], g2, g3⟩
theorem edgesL_at : ∀ (os : List Oper) (n k : Nat) (o : Oper), edgesL os n = true → os[k]? = some o → ∀ e, e ∈ o.after.toList → Region.binds .any e = true → e.on < n + k
  | [], n, k, o, h, ho => by simp at ho
  | o' :: os, n, 0, o, h, ho => fun e he hb => by
    simp at ho
    subst ho
    simp only [edgesL, Bool.and_eq_true] at h
    have := List.all_eq_true.1 h.1 e he
    rw [hb] at this
    simpa using this
  | o' :: os, n, k + 1, o, h, ho => fun e he hb => by
    simp only [edgesL, Bool.and_eq_true] at h
    have := edgesL_at os (n + 1) k o h.2 (by simpa using ho) e he hb
    omega
theorem ord_cases {ops : Array Oper} (he : edgesOk ops = true) {i j : Nat} {o : Oper} (ho : ops[i]? = some o) (h : ordOf ops j i) : ∃ e, e ∈ o.after.toList ∧ Region.binds .any e = true ∧ e.on < i ∧ (e.on = j ∨ ordOf ops j e.on) := by
  have ho' : ops.toList[i]? = some o := by simpa using ho
  obtain ⟨l', h1, h2, h3⟩ := predsL_at ops.toList [] i o ho'
  simp only [List.length_nil, Nat.zero_add] at h1 h2
  unfold ordOf preds at h
  rw [h2] at h
  rcases fold_bit l' j _ _ h with g | ⟨e, g1, g2, g3⟩
  · simp at g
  · have hlt := edgesL_at ops.toList 0 i o he ho' e g1 g2
    refine ⟨e, g1, g2, by omega, ?_⟩
    rcases g3 with g | g
    · exact .inl g
    · refine .inr ?_
      unfold ordOf preds
      rw [← h3 e.on (by omega)]
      exact g
theorem ord_size {ops : Array Oper} {i j : Nat} (h : ordOf ops j i) : i < ops.size := by
  rcases Nat.lt_or_ge i ops.size with c | c
  · exact c
  · unfold ordOf preds at h
    rw [List.getD_eq_getElem?_getD, List.getElem?_eq_none (by rw [predsL_len]; simpa using c)] at h
    simp at h
theorem ord_lt {ops : Array Oper} (he : edgesOk ops = true) : ∀ (i j : Nat), ordOf ops j i → j < i := by
  intro i
  induction i using Nat.strongRecOn with
  | _ i ih =>
    intro j h
    obtain ⟨e, _, _, h1, h2⟩ := ord_cases he (Array.getElem?_eq_getElem (ord_size h)) h
    rcases h2 with rfl | h2
    · exact h1
    · exact Nat.lt_trans (ih e.on h1 j h2) h1
theorem ords_of {ops : Array Oper} (he : edgesOk ops = true) : Ords ops (ordOf ops) :=
  ⟨fun E i o ho hD hd j hj => by
    obtain ⟨e, h1, h2, h3, h4⟩ := ord_cases he ho hj
    have := hd e h1 h2
    rcases h4 with rfl | h4
    · exact this
    · exact hD e.on this j h4,
  fun i o ho e h1 h2 => by
    have := edgesL_at ops.toList 0 i o he (by simpa using ho) e h1 h2
    omega⟩

/-! ### Pairs of steps -/
def pairsAt (x : Nat × Nat) (pre : Nat) : Nat → List (Nat × Nat) → Bool
  | _, [] => true
  | j, y :: l => (((y.1 &&& x.2) == 0 && (x.1 &&& y.2) == 0) || pre.testBit j) && pairsAt x pre (j + 1) l
def pairsOk : List (Nat × Nat) → Nat → Nat → List (Nat × Nat) → List Nat → Bool
  | _, _, _, [], _ => true
  | prev, aw, aa, x :: l, pre => (((aw &&& x.2) == 0 && (x.1 &&& aa) == 0) || pairsAt x (pre.headD 0) 0 prev) && pairsOk (prev ++ [x]) (aw ||| x.1) (aa ||| x.2) l pre.tail
theorem pairsAt_get {x : Nat × Nat} {pre : Nat} : ∀ (l : List (Nat × Nat)) (j k : Nat) (y : Nat × Nat), pairsAt x pre j l = true → l[k]? = some y → ((y.1 &&& x.2) = 0 ∧ (x.1 &&& y.2) = 0) ∨ pre.testBit (j + k) = true
  | [], j, k, y, h, hy => by simp at hy
  | z :: l, j, 0, y, h, hy => by
    simp at hy
    subst hy
    simp only [pairsAt, Bool.and_eq_true, Bool.or_eq_true, beq_iff_eq] at h
    exact h.1
  | z :: l, j, k + 1, y, h, hy => by
    simp only [pairsAt, Bool.and_eq_true] at h
    have := pairsAt_get l (j + 1) k y h.2 (by simpa using hy)
    rwa [show j + 1 + k = j + (k + 1) from by omega] at this
theorem and_zero_bit {a b : Nat} (h : a &&& b = 0) (x : Nat) : ¬ (a.testBit x = true ∧ b.testBit x = true) := fun ⟨h1, h2⟩ => by
  have : (a &&& b).testBit x = true := by rw [Nat.testBit_and, h1, h2]; rfl
  rw [h] at this
  simp at this
theorem pairsOk_get : ∀ (l prev : List (Nat × Nat)) (aw aa : Nat) (pre : List Nat), pairsOk prev aw aa l pre = true → (∀ (k : Nat) (y : Nat × Nat), prev[k]? = some y → (∀ b, y.1.testBit b = true → aw.testBit b = true) ∧ (∀ b, y.2.testBit b = true → aa.testBit b = true)) →
    ∀ (i j : Nat) (x y : Nat × Nat), j < i → prev.length ≤ i → (prev ++ l)[i]? = some x → (prev ++ l)[j]? = some y →
      (∀ b, ¬ (y.1.testBit b = true ∧ x.2.testBit b = true)) ∧ (∀ b, ¬ (x.1.testBit b = true ∧ y.2.testBit b = true)) ∨ (pre.getD (i - prev.length) 0).testBit j = true
  | [], prev, aw, aa, pre, h, hacc, i, j, x, y, hji, hpi, hx, hy => by
    rw [List.append_nil, List.getElem?_eq_none hpi] at hx; cases hx
  | z :: l, prev, aw, aa, pre, h, hacc, i, j, x, y, hji, hpi, hx, hy => by
    simp only [pairsOk, Bool.and_eq_true] at h
    obtain ⟨h1, h2⟩ := h
    by_cases e : i = prev.length
    · subst e
      rw [List.getElem?_append_right (Nat.le_refl _)] at hx
      simp at hx
      subst hx
      have hy' : prev[j]? = some y := by rwa [List.getElem?_append_left hji] at hy
      simp only [Bool.or_eq_true, Bool.and_eq_true, beq_iff_eq] at h1
      rcases h1 with ⟨g1, g2⟩ | g
      · left
        obtain ⟨a1, a2⟩ := hacc j y hy'
        exact ⟨fun b hb => and_zero_bit g1 b ⟨a1 b hb.1, hb.2⟩, fun b hb => and_zero_bit g2 b ⟨hb.1, a2 b hb.2⟩⟩
      · rcases pairsAt_get prev 0 j y g hy' with ⟨k1, k2⟩ | k
        · left
          exact ⟨fun b hb => and_zero_bit k1 b hb, fun b hb => and_zero_bit k2 b hb⟩
        · right
          simp only [Nat.sub_self]
          rw [Nat.zero_add] at k
          cases pre with
          | nil => simp at k
          | cons p ps => simpa using k
    · have := pairsOk_get l (prev ++ [z]) (aw ||| z.1) (aa ||| z.2) pre.tail h2 (fun k y' hk => by
        by_cases c : k < prev.length
        · rw [List.getElem?_append_left c] at hk
          obtain ⟨a1, a2⟩ := hacc k y' hk
          exact ⟨fun b hb => by rw [or_bit, a1 b hb]; rfl, fun b hb => by rw [or_bit, a2 b hb]; rfl⟩
        · rw [List.getElem?_append_right (by omega)] at hk
          have hk0 : k - prev.length = 0 := by
            rcases Nat.eq_zero_or_pos (k - prev.length) with h0 | h0
            · exact h0
            · rw [List.getElem?_eq_none (by simp; omega)] at hk; cases hk
          rw [hk0] at hk
          simp at hk
          subst hk
          exact ⟨fun b hb => by rw [or_bit, hb]; simp, fun b hb => by rw [or_bit, hb]; simp⟩)
        i j x y hji (by simp; omega) (by rw [List.append_assoc]; exact hx) (by rw [List.append_assoc]; exact hy)
      rcases this with g | g
      · exact .inl g
      · right
        simp only [List.length_append, List.length_cons, List.length_nil] at g
        rw [show i - prev.length = (i - (prev.length + (0 + 1))) + 1 from by omega]
        cases pre with
        | nil => simp at g
        | cons p ps => simpa using g
end Mini
end Go.Proofs.YtgloclcbeohkhaaGreatDoor
