/-
  A region whose order is drawn: where no operation touches what another one writes but behind or ahead of it, every order leads to what the text's order leads to.
-/
import Derived.Test.YtgloclcbeohkhaaGreatDoorMiniC
namespace Go.Proofs.YtgloclcbeohkhaaGreatDoor
set_option linter.all false
namespace Mini
variable {P : Program} {rd : Option Nat}

/-- What the k-th step writes or makes. -/
def wrN (S : Nat → St) (W : Nat → Nat) (k b : Nat) : Prop := ((S k).next ≤ b ∧ b < (S (k + 1)).next) ∨ ((W k).testBit b = true ∧ b < (S k).next)
instance (S : Nat → St) (W : Nat → Nat) (k b : Nat) : Decidable (wrN S W k b) := by unfold wrN; infer_instance

/-- What lies in a block when just the steps of E have been done. -/
def VN (C0 : Nat → MObj) (S : Nat → St) (W : Nat → Nat) (E : Nat → Bool) (b : Nat) : Nat → MObj
  | 0 => C0 b
  | k + 1 => if E k = true ∧ wrN S W k b then (S (k + 1)).get b else VN C0 S W E b k
/-- What stands in a temporary. -/
def VT (A : Nat → Act) (D : Nat → Option Tmp) (E : Nat → Bool) (t : Nat) : Nat → Value
  | 0 => (A 0).tmps.getD t undef
  | k + 1 => if E k = true ∧ D k = some t then (A (k + 1)).tmps.getD t undef else VT A D E t k

/-- The steps of a region in the text's order. -/
structure Sq (P : Program) (rd : Option Nat) (ops : Array Oper) (A : Nat → Act) (S : Nat → St) (R W : Nat → Nat) : Prop where
  step : ∀ i, i < ops.size → ∃ o v, ops[i]? = some o ∧ A (i + 1) = (A i).put o.dst v ∧ o.op.operands.toList.all (okOp P) = true ∧
    ((Region.wanted o (yielded ops (A i).tmps) = true ∧ SndO P rd o (A i).eval (S i) v (S (i + 1)) (R i) (W i)) ∨ (Region.wanted o (yielded ops (A i).tmps) = false ∧ v = undef ∧ S (i + 1) = S i ∧ W i = 0))

def dstOf (ops : Array Oper) (k : Nat) : Option Tmp := (ops[k]?).bind (·.dst)
/-- The temporaries that an operation looks at. -/
def looks (ops : Array Oper) (i t : Nat) : Prop := ∃ o, ops[i]? = some o ∧ t ∈ o.looksAt ops

/-- One step's writes and another one's reads and writes, by 'ord' the one behind the other. -/
structure Apart (ops : Array Oper) (S : Nat → St) (R W : Nat → Nat) (ord : Nat → Nat → Prop) : Prop where
  lt : ∀ j i, ord j i → j < i
  tmps : ∀ j i t, i < ops.size → j < ops.size → i ≠ j → dstOf ops j = some t → (looks ops i t ∨ dstOf ops i = some t) → ord j i ∨ ord i j
  names : ∀ j i b, i < ops.size → j < ops.size → i ≠ j → wrN S W j b → (((R i ||| W i).testBit b = true ∧ b < (S i).next) ∨ ((S i).next ≤ b ∧ b < (S (i + 1)).next)) → ord j i ∨ ord i j

section
variable {ops : Array Oper} {A : Nat → Act} {S : Nat → St} {R W : Nat → Nat} {ord : Nat → Nat → Prop} {E : Nat → Bool} {C0 : Nat → MObj}

theorem Sq.stat (h : Sq P rd ops A S R W) (i : Nat) (hi : i < ops.size) : Stat (S i) (S (i + 1)) (W i) := by
  obtain ⟨o, v, h1, h2, h3, ⟨h4, h5⟩ | ⟨h4, h5, h6, h7⟩⟩ := h.step i hi
  · exact h5.1
  · rw [h6, h7]; exact Stat.refl _
theorem Sq.mono (h : Sq P rd ops A S R W) : ∀ (j i : Nat), i ≤ j → j ≤ ops.size → (S i).next ≤ (S j).next
  | 0, i, h1, _ => by rw [Nat.le_zero.1 h1]; exact Nat.le_refl _
  | j + 1, i, h1, h2 => by
    rcases Nat.lt_or_ge i (j + 1) with c | c
    · exact Nat.le_trans (h.mono j i (by omega) (by omega)) (h.stat j (by omega)).1
    · rw [show i = j + 1 from by omega]; exact Nat.le_refl _
theorem Sq.keep (h : Sq P rd ops A S R W) (k b : Nat) (hk : k < ops.size) (hb : ¬ wrN S W k b) : (S (k + 1)).get b = (S k).get b := by
  have hs := h.stat k hk
  by_cases c : b < (S k).next
  · refine hs.2 b c ?_
    cases hw : (W k).testBit b with
    | false => rfl
    | true => exact absurd (.inr ⟨hw, c⟩) hb
  · have c2 : ¬ b < (S (k + 1)).next := fun hlt => hb (.inl ⟨by omega, hlt⟩)
    rw [St.get_beyond _ _ (by omega), St.get_beyond _ _ (by omega)]

/-- Ready: not done, and all that must stand ahead is done. -/
def Rdy (ord : Nat → Nat → Prop) (E : Nat → Bool) (i : Nat) : Prop := E i = false ∧ ∀ j, ord j i → E j = true
def Down (ord : Nat → Nat → Prop) (E : Nat → Bool) : Prop := ∀ i, E i = true → ∀ j, ord j i → E j = true

theorem vn_at (hq : Sq P rd ops A S R W) (hA : Apart ops S R W ord) (hD : Down ord E) {i b : Nat} (hi : i < ops.size) (hr : Rdy ord E i) (hE : ∀ k, E k = true → k < ops.size)
    (hacc : ((R i ||| W i).testBit b = true ∧ b < (S i).next) ∨ ((S i).next ≤ b ∧ b < (S (i + 1)).next)) (h0 : C0 b = (S 0).get b) : ∀ k, k ≤ ops.size → VN C0 S W E b k = (S (min k i)).get b
  | 0, _ => by rw [Nat.zero_min]; exact h0
  | k + 1, hk => by
    have ih := vn_at hq hA hD hi hr hE hacc h0 k (by omega)
    simp only [VN]
    rcases Nat.lt_or_ge k i with c | c
    · rw [show min (k + 1) i = k + 1 from by omega]
      by_cases hw : wrN S W k b
      · have : E k = true := by
          rcases hA.names k i b hi (by omega) (by omega) hw hacc with g | g
          · exact hr.2 k g
          · have := hA.lt i k g; omega
        rw [if_pos ⟨this, hw⟩]
      · rw [if_neg (fun h => hw h.2), ih, show min k i = k from by omega]
        exact (hq.keep k b (by omega) hw).symm
    · rw [show min (k + 1) i = i from by omega]
      rw [show min k i = i from by omega] at ih
      by_cases hw : E k = true ∧ wrN S W k b
      · exfalso
        have hki : k ≠ i := fun e => by rw [e, hr.1] at hw; cases hw.1
        rcases hA.names k i b hi (by omega) (Ne.symm hki) hw.2 hacc with g | g
        · have := hA.lt k i g; omega
        · have := hD k hw.1 i g; rw [hr.1] at this; cases this
      · rw [if_neg hw]; exact ih
theorem vt_at (hq : Sq P rd ops A S R W) (hA : Apart ops S R W ord) (hD : Down ord E) {i t : Nat} (hi : i < ops.size) (hr : Rdy ord E i)
    (hacc : looks ops i t ∨ dstOf ops i = some t) : ∀ k, k ≤ ops.size → VT A (dstOf ops) E t k = (A (min k i)).tmps.getD t undef
  | 0, _ => by rw [Nat.zero_min]; rfl
  | k + 1, hk => by
    have ih := vt_at hq hA hD hi hr hacc k (by omega)
    simp only [VT]
    rcases Nat.lt_or_ge k i with c | c
    · rw [show min (k + 1) i = k + 1 from by omega]
      by_cases hw : dstOf ops k = some t
      · have : E k = true := by
          rcases hA.tmps k i t hi (by omega) (by omega) hw hacc with g | g
          · exact hr.2 k g
          · have := hA.lt i k g; omega
        rw [if_pos ⟨this, hw⟩]
      · rw [if_neg (fun h => hw h.2), ih, show min k i = k from by omega]
        obtain ⟨o, v, h1, h2, _⟩ := hq.step k (by omega)
        rw [h2]
        have hd : dstOf ops k = o.dst := by simp [dstOf, h1]
        rw [hd] at hw
        cases ho : o.dst with
        | none => rfl
        | some d =>
          have hne : d ≠ t := fun e => hw (by rw [ho, e])
          simp [Act.put, Array.getElem?_setIfInBounds, hne]
    · rw [show min (k + 1) i = i from by omega]
      rw [show min k i = i from by omega] at ih
      by_cases hw : E k = true ∧ dstOf ops k = some t
      · exfalso
        have hki : k ≠ i := fun e => by rw [e, hr.1] at hw; cases hw.1
        rcases hA.tmps k i t hi (by omega) (Ne.symm hki) hw.2 hacc with g | g
        · have := hA.lt k i g; omega
        · have := hD k hw.1 i g; rw [hr.1] at this; cases this
      · rw [if_neg hw]; exact ih

/-- One step more. -/
def ins (E : Nat → Bool) (i : Nat) : Nat → Bool := fun k => if k = i then true else E k
theorem vn_ins (hA : Apart ops S R W ord) (hD : Down ord E) {i b : Nat} (hi : i < ops.size) (hr : Rdy ord E i) (hwi : ∀ b, (W i).testBit b = true → (R i ||| W i).testBit b = true) : ∀ k, k ≤ ops.size →
    VN C0 S W (ins E i) b k = if i < k ∧ wrN S W i b then (S (i + 1)).get b else VN C0 S W E b k
  | 0, _ => by rw [if_neg (by omega)]; rfl
  | k + 1, hk => by
    have ih := vn_ins (b := b) hA hD hi hr hwi k (by omega)
    simp only [VN]
    by_cases hki : k = i
    · subst hki
      simp only [ins, if_true, true_and]
      rw [hr.1]
      simp only [Bool.false_eq_true, false_and, if_false]
      by_cases hw : wrN S W k b
      · rw [if_pos hw, if_pos ⟨by omega, hw⟩]
      · rw [if_neg hw, if_neg (fun h => hw h.2), ih, if_neg (by omega)]
    · simp only [ins, if_neg hki]
      by_cases hw : E k = true ∧ wrN S W k b
      · rw [if_pos hw]
        by_cases hw2 : i < k + 1 ∧ wrN S W i b
        · exfalso
          have hacc : ((R i ||| W i).testBit b = true ∧ b < (S i).next) ∨ ((S i).next ≤ b ∧ b < (S (i + 1)).next) := by
            rcases hw2.2 with h | ⟨h, g⟩
            · exact .inr h
            · exact .inl ⟨hwi b h, g⟩
          rcases hA.names k i b hi (by omega) (Ne.symm hki) hw.2 hacc with g | g
          · have := hA.lt k i g; omega
          · have := hD k hw.1 i g; rw [hr.1] at this; cases this
        · rw [if_neg hw2, if_pos hw]
      · rw [if_neg hw, ih]
        by_cases hw2 : wrN S W i b
        · by_cases c : i < k
          · rw [if_pos ⟨c, hw2⟩, if_pos ⟨by omega, hw2⟩]
          · rw [if_neg (fun h => c h.1), if_neg (fun h => c (by omega)), if_neg hw]
        · rw [if_neg (fun h => hw2 h.2), if_neg (fun h => hw2 h.2), if_neg hw]
theorem vt_ins (hA : Apart ops S R W ord) (hD : Down ord E) {i t : Nat} (hi : i < ops.size) (hr : Rdy ord E i) : ∀ k, k ≤ ops.size →
    VT A (dstOf ops) (ins E i) t k = if i < k ∧ dstOf ops i = some t then (A (i + 1)).tmps.getD t undef else VT A (dstOf ops) E t k
  | 0, _ => by rw [if_neg (by omega)]; rfl
  | k + 1, hk => by
    have ih := vt_ins (t := t) hA hD hi hr k (by omega)
    simp only [VT]
    by_cases hki : k = i
    · subst hki
      simp only [ins, if_true, true_and]
      rw [hr.1]
      simp only [Bool.false_eq_true, false_and, if_false]
      by_cases hw : dstOf ops k = some t
      · rw [if_pos hw, if_pos ⟨by omega, hw⟩]
      · rw [if_neg hw, if_neg (fun h => hw h.2), ih, if_neg (by omega)]
    · simp only [ins, if_neg hki]
      by_cases hw : E k = true ∧ dstOf ops k = some t
      · rw [if_pos hw]
        by_cases hw2 : i < k + 1 ∧ dstOf ops i = some t
        · exfalso
          rcases hA.tmps k i t hi (by omega) (Ne.symm hki) hw.2 (.inr hw2.2) with g | g
          · have := hA.lt k i g; omega
          · have := hD k hw.1 i g; rw [hr.1] at this; cases this
        · rw [if_neg hw2, if_pos hw]
      · rw [if_neg hw, ih]
        by_cases hw2 : dstOf ops i = some t
        · by_cases c : i < k
          · rw [if_pos ⟨c, hw2⟩, if_pos ⟨by omega, hw2⟩]
          · rw [if_neg (fun h => c h.1), if_neg (fun h => c (by omega)), if_neg hw]
        · rw [if_neg (fun h => hw2 h.2), if_neg (fun h => hw2 h.2), if_neg hw]

/-- All writes up to a step. -/
def orUpto (W : Nat → Nat) : Nat → Nat
  | 0 => 0
  | k + 1 => orUpto W k ||| W k
theorem orUpto_bit (W : Nat → Nat) : ∀ (k i b : Nat), i < k → (W i).testBit b = true → (orUpto W k).testBit b = true
  | 0, i, b, h, _ => by omega
  | k + 1, i, b, h, hb => by
    simp only [orUpto, or_bit, Bool.or_eq_true]
    rcases Nat.lt_or_ge i k with c | c
    · exact .inl (orUpto_bit W k i b c hb)
    · rw [show k = i from by omega]; exact .inr hb
theorem Sq.statUpto (h : Sq P rd ops A S R W) : ∀ k, k ≤ ops.size → Stat (S 0) (S k) (orUpto W k)
  | 0, _ => Stat.refl _
  | k + 1, hk => (h.statUpto k (by omega)).trans (h.stat k (by omega))
theorem vn_all (h : Sq P rd ops A S R W) (hE : ∀ k, k < ops.size → E k = true) (b : Nat) : ∀ k, k ≤ ops.size → VN C0 S W E b k = upd C0 (S 0) (S k) (orUpto W k) b
  | 0, _ => by simp only [VN, orUpto, upd_zero]
  | k + 1, hk => by
    have ih := vn_all h hE b k (by omega)
    have ht := congrFun (upd_trans C0 (h.statUpto k (by omega)) (h.stat k (by omega))) b
    show _ = upd C0 (S 0) (S (k + 1)) (orUpto W k ||| W k) b
    rw [← ht]
    simp only [VN, upd]
    rw [hE k (by omega)]
    simp only [true_and, wrN]
    split
    · rfl
    · rw [ih]; rfl
theorem vt_all (h : Sq P rd ops A S R W) (hE : ∀ k, k < ops.size → E k = true) (t : Nat) : ∀ k, k ≤ ops.size → VT A (dstOf ops) E t k = (A k).tmps.getD t undef
  | 0, _ => rfl
  | k + 1, hk => by
    have ih := vt_all h hE t k (by omega)
    simp only [VT]
    rw [hE k (by omega)]
    by_cases hw : dstOf ops k = some t
    · rw [if_pos ⟨rfl, hw⟩]
    · rw [if_neg (fun g => hw g.2), ih]
      obtain ⟨o, v, h1, h2, _⟩ := h.step k (by omega)
      rw [h2]
      have hd : dstOf ops k = o.dst := by simp [dstOf, h1]
      rw [hd] at hw
      cases ho : o.dst with
      | none => rfl
      | some d =>
        have hne : d ≠ t := fun e => hw (by rw [ho, e])
        simp [Act.put, Array.getElem?_setIfInBounds, hne]
end
end Mini
end Go.Proofs.YtgloclcbeohkhaaGreatDoor
