/-
  A region whose order is drawn, in the real world.
-/
import Derived.Test.YtgloclcbeohkhaaGreatDoorMiniJ
namespace Go.Proofs.YtgloclcbeohkhaaGreatDoor
set_option linter.all false
namespace Mini
variable {P : Program} {rd : Option Nat}

/-- A step in the midst of others. -/
theorem Post.step {ρ0 ρ ρ1 : Ren} {s0 s1 si sj : St} {Wt Wi : Nat} {w0 w w1 : World} (hlo : s0.next ≤ si.next) (hhi : sj.next ≤ s1.next) (hW : ∀ b, Wi.testBit b = true → Wt.testBit b = true) (hij : si.next ≤ sj.next)
    (hN : ∀ b, s0.next ≤ b → b < s1.next → ρ0 b = none) (h : Post ρ0 s0 s1 Wt w0 ρ w) (g : Post ρ si sj Wi w ρ1 w1) : Post ρ0 s0 s1 Wt w0 ρ1 w1 := by
  have old : ∀ b, b < s0.next → ρ b = ρ0 b := fun b hb => by
    by_cases e : ρ b = ρ0 b
    · exact e
    · have := h.dom b e; omega
  refine ⟨Ren.le_trans h.sub g.sub, fun b hb => ?_, fun b L hb hL => ?_, Nat.le_trans h.size g.size, fun x hx hf => ?_, g.os.trans h.os, g.tape.trans h.tape, g.output.trans h.output⟩
  · by_cases e : ρ1 b = ρ b
    · exact h.dom b (by rw [← e]; exact hb)
    · have := g.dom b e; omega
  · cases e : ρ b with
    | some L' =>
      have e2 := g.sub b L' e
      rw [hL] at e2
      cases e2
      exact h.fresh b L hb e
    | none =>
      rcases g.fresh b L e hL with k | ⟨b0, L0, k1, k2, k3, k4⟩
      · exact .inl (Nat.le_trans h.size k)
      · by_cases c : b0 < s0.next
        · exact .inr ⟨b0, L0, hW _ k1, c, (old b0 c) ▸ k3, k4⟩
        · rcases h.fresh b0 L0 (hN b0 (by omega) (by omega)) k3 with m | ⟨b1, L1, m1, m2, m3, m4⟩
          · exact .inl (by omega)
          · exact .inr ⟨b1, L1, m1, m2, m3, m4.trans k4⟩
  · have a : w.heap[x]? = w0.heap[x]? := h.frame x hx hf
    rw [← a]
    refine g.frame x (Nat.lt_of_lt_of_le hx h.size) fun b L hb hlt hL => ?_
    by_cases c : b < s0.next
    · exact hf b L (hW _ hb) c ((old b c) ▸ hL)
    · rcases h.fresh b L (hN b (by omega) (by omega)) hL with m | ⟨b1, L1, m1, m2, m3, m4⟩
      · omega
      · rw [← m4]; exact hf b1 L1 m1 m2 m3

section
variable {ops : Array Oper} {A : Nat → Act} {S : Nat → St} {R W : Nat → Nat} {ord : Nat → Nat → Prop} {C0 : Nat → MObj} {ρ0 : Ren} {w0 : World} {ro : Option Nat}

structure RInv (ops : Array Oper) (A : Nat → Act) (S : Nat → St) (W : Nat → Nat) (C0 : Nat → MObj) (ρ0 : Ren) (w0 : World) (ds : List Deferred) (E : Nat → Bool) (ρ : Ren) (a' : Act) (w : World) : Prop where
  post : Post ρ0 (S 0) (S ops.size) (orUpto W ops.size) w0 ρ w
  none : ∀ k, k < ops.size → E k = false → ∀ b, (S k).next ≤ b → b < (S (k + 1)).next → ρ b = none
  rel : WRel ρ (fun b => VN C0 S W E b ops.size) w
  tmps : ∀ t, VR ρ (VT A (dstOf ops) E t ops.size) (a'.tmps.getD t undef)
  size : a'.tmps.size = (A 0).tmps.size
  defs : a'.defers = ds

theorem getD_put {a : Act} {d : Option Tmp} {v : Value} (t : Nat) : (a.put d v).tmps.getD t undef = if d = some t ∧ t < a.tmps.size then v else a.tmps.getD t undef := by
  cases d with
  | none => simp [Act.put]
  | some d =>
    by_cases e : d = t
    · subst e
      rcases Nat.lt_or_ge d a.tmps.size with c | c
      · rw [if_pos ⟨rfl, c⟩]
        simp [Act.put, Array.getElem?_setIfInBounds, c]
      · rw [if_neg (fun h => by omega)]
        simp [Act.put, Array.getElem?_setIfInBounds, Nat.not_lt.2 c]
    · rw [if_neg (fun h => e (Option.some.inj h.1))]
      simp [Act.put, Array.getElem?_setIfInBounds, e]
theorem size_put (a : Act) (d : Option Tmp) (v : Value) : (a.put d v).tmps.size = a.tmps.size := by cases d <;> simp [Act.put]
theorem defs_put (a : Act) (d : Option Tmp) (v : Value) : (a.put d v).defers = a.defers := by cases d <;> rfl
theorem Sq.sizes (h : Sq P rd ops A S R W) : ∀ k, k ≤ ops.size → (A k).tmps.size = (A 0).tmps.size
  | 0, _ => rfl
  | k + 1, hk => by
    obtain ⟨o, v, h1, h2, _⟩ := h.step k (by omega)
    rw [h2, size_put]; exact h.sizes k (by omega)
theorem Sq.defs (h : Sq P rd ops A S R W) : ∀ k, k ≤ ops.size → (A k).defers = (A 0).defers
  | 0, _ => rfl
  | k + 1, hk => by
    obtain ⟨o, v, h1, h2, _⟩ := h.step k (by omega)
    rw [h2, defs_put]; exact h.defs k (by omega)

def boolOf : Value → Option Bool
  | .bool b => some b
  | _ => none
theorem bool_vr {ρ : Ren} {v v' : Value} (h : VR ρ v v') : boolOf v' = boolOf v := by cases h <;> rfl
theorem yielded_getD (ops : Array Oper) (t : Array Value) (j : Nat) : yielded ops t j = (dstOf ops j).bind fun d => boolOf (t.getD d undef) := by
  unfold yielded dstOf
  cases (ops[j]?).bind (·.dst) with
  | none => rfl
  | some d =>
    simp only [Option.bind_some]
    rcases Nat.lt_or_ge d t.size with c | c
    · rw [Array.getElem?_eq_getElem c, show t.getD d undef = t[d] from by simp [Array.getD, c]]
      generalize t[d] = v
      cases v <;> rfl
    · rw [Array.getElem?_eq_none c, show t.getD d undef = undef from by simp [Array.getD, Nat.not_lt.2 c]]
      rfl
theorem wanted_congr {o : Oper} {y y' : Nat → Option Bool} (h : ∀ g b, o.guard = some (g, b) → y' g = y g) : Region.wanted o y' = Region.wanted o y := by
  unfold Region.wanted
  cases hg : o.guard with
  | none => rfl
  | some q => obtain ⟨g, b⟩ := q; simp only; rw [h g b hg]

/-- One step, in whatever order it comes. -/
theorem region_step {E : Nat → Bool} {ρ : Ren} {a' : Act} {w : World} {ds : List Deferred} {Q : Exit → Act → World → Prop} {K : Act → World → Prop} {n i : Nat} (hq : Sq P rd ops A S R W) (hA : Apart ops S R W ord) (hD : Down ord E) (hr : Rdy ord E i) (hi : i < ops.size) (hE : ∀ k, E k = true → k < ops.size)
    (hp : Pre P rd (S 0) (S ops.size) (orUpto R ops.size) (orUpto W ops.size) ro ρ0 C0 w0) (hI : RInv ops A S W C0 ρ0 w0 ds E ρ a' w)
    (hK : ∀ ρ1 a1' w1, RInv ops A S W C0 ρ0 w0 ds (ins E i) ρ1 a1' w1 → K a1' w1) : wpOpIn (Fw ro) n P ops Q i K a' w := by
  obtain ⟨o, v, h1, h2, h3, hor⟩ := hq.step i hi
  have hdst : dstOf ops i = o.dst := by simp [dstOf, h1]
  have m0 := hq.mono i 0 (Nat.zero_le _) (by omega)
  have m1 := hq.mono ops.size (i + 1) (by omega) (Nat.le_refl _)
  have mi := (hq.stat i hi).1
  have wi : ∀ b, (W i).testBit b = true → (R i ||| W i).testBit b = true := fun b hb => by rw [or_bit, hb]; simp
  have look : ∀ t, t ∈ o.looksAt ops → VR ρ ((A i).tmps.getD t undef) (a'.tmps.getD t undef) := fun t ht => by
    have := hI.tmps t
    rw [vt_at hq hA hD hi hr (.inl ⟨o, h1, ht⟩) ops.size (Nat.le_refl _), show min ops.size i = i from by omega] at this
    exact this
  have hw : Region.wanted o (yielded ops a'.tmps) = Region.wanted o (yielded ops (A i).tmps) := wanted_congr fun g b hg => by
    rw [yielded_getD, yielded_getD]
    cases hd : dstOf ops g with
    | none => rfl
    | some d =>
      simp only [Option.bind_some]
      exact bool_vr (look d (by
        unfold Oper.looksAt
        rw [hg]
        simp only [List.mem_append]
        refine .inr ?_
        unfold dstOf at hd
        rw [hd]; simp))
  have hC : ∀ b, ((R i ||| W i).testBit b = true ∧ b < (S i).next) ∨ ((S i).next ≤ b ∧ b < (S (i + 1)).next) → VN C0 S W E b ops.size = (S i).get b := fun b hb => by
    have h0 : C0 b = (S 0).get b := by
      by_cases c : b < (S 0).next
      · rcases hb with ⟨hb, _⟩ | hb
        · refine hp.agree b ?_ c
          simp only [or_bit, Bool.or_eq_true] at hb ⊢
          rcases hb with k | k
          · exact .inl (orUpto_bit R _ i b hi k)
          · exact .inr (orUpto_bit W _ i b hi k)
        · omega
      · rw [(hp.free b (by omega) (by rcases hb with h | h <;> omega)).2, St.get_beyond _ _ (by omega)]
    have := vn_at hq hA hD hi hr hE hb h0 ops.size (Nat.le_refl _)
    rwa [show min ops.size i = i from by omega] at this
  have fin : ∀ (ρ1 : Ren) (v' : Value) (w1 : World), Post ρ (S i) (S (i + 1)) (W i) w ρ1 w1 → WRel ρ1 (upd (fun b => VN C0 S W E b ops.size) (S i) (S (i + 1)) (W i)) w1 → VR ρ1 v v' → RInv ops A S W C0 ρ0 w0 ds (ins E i) ρ1 (a'.put o.dst v') w1 := fun ρ1 v' w1 p1 r1 hv => by
    refine ⟨Post.step m0 m1 (fun b hb => orUpto_bit W _ i b hi hb) mi (fun b k1 k2 => (hp.free b k1 k2).1) hI.post p1, fun k hk hEk b k1 k2 => ?_, ?_, fun t => ?_, by rw [size_put]; exact hI.size, by rw [defs_put]; exact hI.defs⟩
    · have hki : k ≠ i := fun e => by rw [e] at hEk; simp [ins] at hEk
      have hEk' : E k = false := by simpa [ins, hki] using hEk
      have hn := hI.none k hk hEk' b k1 k2
      by_cases e : ρ1 b = ρ b
      · rw [e]; exact hn
      · have := p1.dom b e
        rcases Nat.lt_or_ge k i with c | c
        · have := hq.mono i (k + 1) (by omega) (by omega); omega
        · have := hq.mono k (i + 1) (by omega) (by omega); omega
    · have he : upd (fun b => VN C0 S W E b ops.size) (S i) (S (i + 1)) (W i) = fun b => VN C0 S W (ins E i) b ops.size := by
        funext b
        rw [vn_ins hA hD hi hr wi ops.size (Nat.le_refl _)]
        have hu : upd (fun b => VN C0 S W E b ops.size) (S i) (S (i + 1)) (W i) b = if wrN S W i b then (S (i + 1)).get b else VN C0 S W E b ops.size := rfl
        rw [hu]
        by_cases c : wrN S W i b
        · rw [if_pos c, if_pos ⟨hi, c⟩]
        · rw [if_neg c, if_neg (fun h => c h.2)]
      rw [← he]; exact r1
    · rw [vt_ins hA hD hi hr ops.size (Nat.le_refl _), getD_put]
      by_cases c : dstOf ops i = some t
      · rw [if_pos ⟨hi, c⟩, h2, getD_put, hdst.symm.trans c, hI.size, hq.sizes i (by omega)]
        simp only [true_and]
        split
        · exact hv
        · have hn : (A i).tmps.getD t undef = undef := by
            have hs := hq.sizes i (by omega)
            simp [Array.getD, show ¬ t < (A i).tmps.size from by omega]
          have hn' : a'.tmps.getD t undef = undef := by simp [Array.getD, show ¬ t < a'.tmps.size from by rw [hI.size]; assumption]
          rw [hn, hn']
          exact undef_vr ρ1
      · rw [if_neg (fun h => c h.2), if_neg (fun h => c (hdst.trans h.1))]
        exact (hI.tmps t).mono p1.sub
  unfold wpOpIn
  rw [h1]
  simp only
  rw [hw]
  rcases hor with ⟨g1, g2⟩ | ⟨g1, g2, g3, g4⟩
  · rw [if_pos g1]
    refine g2.2 n ro ρ (fun b => VN C0 S W E b ops.size) a' w K Q ⟨hp.glob.mono hI.post.sub, hp.round.mono hI.post.sub, fun b hb hlt => hC b (.inl ⟨hb, hlt⟩), fun b k1 k2 => ⟨hI.none i hi hr.1 b k1 k2, ?_⟩, hI.rel⟩ (fun x hx => ?_) fun ρ1 v' w1 p1 r1 hv => hK _ _ _ (fin ρ1 v' w1 p1 r1 hv)
    · show VN C0 S W E b ops.size = .hole
      rw [hC b (.inr ⟨k1, k2⟩), St.get_beyond _ _ k1]
    · have hok : okOp P x = true := by rw [List.all_eq_true] at h3; exact h3 x (by simpa using hx)
      cases x with
      | tmp t => exact look t (by unfold Oper.looksAt; rw [List.mem_append]; exact .inl (by simp only [List.mem_filterMap]; exact ⟨.tmp t, by simpa using hx, rfl⟩))
      | const u => exact ground_refl 8 hok
      | global g =>
        simp only [okOp, decide_eq_true_eq] at hok
        obtain ⟨L, q1, q2, q3⟩ := (hp.glob.mono hI.post.sub) g hok
        have h := VR.ptr g 0 L q1
        rw [q2, q3] at h
        exact h
      | func f => exact .func _ _ _ _ _ rfl rfl rfl (fun i v v' h => by simp at h) (fun i v v' h => by simp at h)
  · rw [if_neg (by rw [g1]; simp)]
    refine ⟨fun f _ => Fw_fn ro f, hK ρ _ w (fin ρ undef w ?_ ?_ (by rw [g2]; exact undef_vr ρ))⟩
    · rw [g3, g4]; exact Post.refl ρ (S i) w
    · rw [g3, g4, upd_zero]; exact hI.rel

/-- What is known of the order that a region's edges ask. -/
structure Ords (ops : Array Oper) (ord : Nat → Nat → Prop) : Prop where
  ready : ∀ (E : Nat → Bool) i o, ops[i]? = some o → Down ord E → (∀ e, e ∈ o.after.toList → Region.binds .any e = true → E e.on = true) → ∀ j, ord j i → E j = true
  edges : ∀ i o, ops[i]? = some o → ∀ e, e ∈ o.after.toList → Region.binds .any e = true → e.on < i

def listE (listed : Array Bool) : Nat → Bool := fun k => listed.getD k false
theorem listE_set (listed : Array Bool) (i : Nat) (hi : i < listed.size) : listE (listed.setIfInBounds i true) = ins (listE listed) i := by
  funext k
  unfold listE ins
  by_cases e : k = i
  · subst e
    rw [if_pos rfl]
    simp [Array.getElem?_setIfInBounds, hi]
  · rw [if_neg e]
    simp [Array.getElem?_setIfInBounds, Ne.symm e]
theorem getD_lt (listed : Array Bool) (i : Nat) (hi : i < listed.size) (d : Bool) : listed.getD i d = listE listed i := by
  simp [listE, Array.getD, hi]
theorem mem_ready {listed : Array Bool} (hs : listed.size = ops.size) {i : Nat} (h : i ∈ Region.ready .any ops listed) :
    i < ops.size ∧ listE listed i = false ∧ ∃ o, ops[i]? = some o ∧ ∀ e, e ∈ o.after.toList → Region.binds .any e = true → listE listed e.on = true := by
  unfold Region.ready at h
  rw [List.mem_filter, List.mem_range] at h
  obtain ⟨h1, h2⟩ := h
  rw [Bool.and_eq_true] at h2
  refine ⟨h1, ?_, ?_⟩
  · have := h2.1
    rw [getD_lt listed i (by omega)] at this
    simpa using this
  · have ho : ops[i]? = some ops[i] := Array.getElem?_eq_getElem h1
    refine ⟨ops[i], ho, fun e he hb => ?_⟩
    have h3 := h2.2
    rw [ho] at h3
    simp only [Option.map_some, Option.getD_some] at h3
    rw [← Array.all_toList, List.all_eq_true] at h3
    have := h3 e he
    rw [hb] at this
    simpa [listE] using this
theorem ready_of {listed : Array Bool} (hs : listed.size = ops.size) {i : Nat} {o : Oper} (h1 : i < ops.size) (h2 : listE listed i = false) (ho : ops[i]? = some o) (h3 : ∀ e, e ∈ o.after.toList → Region.binds .any e = true → listE listed e.on = true) : i ∈ Region.ready .any ops listed := by
  unfold Region.ready
  rw [List.mem_filter, List.mem_range]
  refine ⟨h1, ?_⟩
  rw [Bool.and_eq_true]
  refine ⟨by rw [getD_lt listed i (by omega), h2]; rfl, ?_⟩
  rw [ho]
  simp only [Option.map_some, Option.getD_some]
  rw [← Array.all_toList, List.all_eq_true]
  intro e he
  cases hb : Region.binds .any e with
  | false => rfl
  | true => simpa [listE] using h3 e he hb
theorem all_of_none {listed : Array Bool} (hO : Ords ops ord) (hs : listed.size = ops.size) (h : Region.ready .any ops listed = []) : ∀ k, k < ops.size → listE listed k = true := by
  intro k
  induction k using Nat.strongRecOn with
  | _ k ih =>
    intro hk
    cases hl : listE listed k with
    | true => rfl
    | false =>
      exfalso
      have ho : ops[k]? = some ops[k] := Array.getElem?_eq_getElem hk
      have := ready_of hs hk hl ho fun e he hb => ih e.on (hO.edges k _ ho e he hb) (Nat.lt_trans (hO.edges k _ ho e he hb) hk)
      rw [h] at this
      cases this
/-- How many are left. -/
def left (n : Nat) (E : Nat → Bool) : Nat := ((List.range n).filter fun k => !E k).length
theorem left_ins {n i : Nat} {E : Nat → Bool} (hi : i < n) (hE : E i = false) : left n (ins E i) < left n E := by
  unfold left
  have hself : ins E i i = true := if_pos rfl
  have hoth : ∀ x, x ≠ i → ins E i x = E x := fun x e => if_neg e
  have h1 : ∀ (l : List Nat), (l.filter fun k => !ins E i k).length ≤ (l.filter fun k => !E k).length := fun l => by
    induction l with
    | nil => exact Nat.le_refl _
    | cons x l ih =>
      rw [List.filter_cons, List.filter_cons]
      by_cases e : x = i
      · rw [e, hself, hE, if_neg (by simp), if_pos (by rfl : (!false) = true), List.length_cons]
        exact Nat.le_succ_of_le ih
      · rw [hoth x e]
        split
        · rw [List.length_cons, List.length_cons]; exact Nat.succ_le_succ ih
        · exact ih
  have h2 : ∀ (l : List Nat), i ∈ l → (l.filter fun k => !ins E i k).length < (l.filter fun k => !E k).length := fun l => by
    induction l with
    | nil => intro h; cases h
    | cons x l ih =>
      intro h
      rw [List.filter_cons, List.filter_cons]
      by_cases e : x = i
      · rw [e, hself, hE, if_neg (by simp), if_pos (by rfl : (!false) = true), List.length_cons]
        exact Nat.lt_succ_of_le (h1 l)
      · have hm : i ∈ l := by
          rcases List.mem_cons.1 h with h | h
          · exact absurd h.symm e
          · exact h
        rw [hoth x e]
        split
        · rw [List.length_cons, List.length_cons]; exact Nat.succ_lt_succ (ih hm)
        · exact ih hm
  exact h2 _ (List.mem_range.2 hi)

theorem region_any {ds : List Deferred} {Q : Exit → Act → World → Prop} {n : Nat} (hq : Sq P rd ops A S R W) (hA : Apart ops S R W ord) (hO : Ords ops ord)
    (hp : Pre P rd (S 0) (S ops.size) (orUpto R ops.size) (orUpto W ops.size) ro ρ0 C0 w0)
    (hQ : ∀ (E : Nat → Bool) ρ1 a1' w1, (∀ k, k < ops.size → E k = true) → RInv ops A S W C0 ρ0 w0 ds E ρ1 a1' w1 → Q .normal a1' w1) :
    ∀ (fuel : Nat) (listed : Array Bool) (ρ : Ren) (a' : Act) (w : World), listed.size = ops.size → Down ord (listE listed) → left ops.size (listE listed) ≤ fuel → RInv ops A S W C0 ρ0 w0 ds (listE listed) ρ a' w → wpAnyIn (Fw ro) n P .any ops Q fuel listed a' w := by
  intro fuel
  induction fuel with
  | zero =>
    intro listed ρ a' w hs hD hl hI
    have hall : ∀ k, k < ops.size → listE listed k = true := fun k hk => by
      cases h : listE listed k with
      | true => rfl
      | false =>
        exfalso
        have : k ∈ (List.range ops.size).filter fun k => !listE listed k := by simp [hk, h]
        have hl0 : left ops.size (listE listed) = 0 := Nat.le_zero.1 hl
        unfold left at hl0
        rw [List.length_eq_zero_iff.1 hl0] at this
        cases this
    refine ⟨?_, hQ _ ρ a' w hall hI⟩
    cases hr : Region.ready .any ops listed with
    | nil => rfl
    | cons x xs =>
      have hx := mem_ready (ops := ops) hs (i := x) (by rw [hr]; simp)
      rw [hall x hx.1] at hx
      cases hx.2.1
  | succ fuel ih =>
    intro listed ρ a' w hs hD hl hI
    refine ⟨fun hn => hQ _ ρ a' w (all_of_none hO hs hn) hI, fun i hi => ?_⟩
    obtain ⟨h1, h2, o, ho, h3⟩ := mem_ready hs hi
    have hr : Rdy ord (listE listed) i := ⟨h2, hO.ready _ i o ho hD h3⟩
    have hEs : ∀ k, listE listed k = true → k < ops.size := fun k hk => by
      rcases Nat.lt_or_ge k listed.size with c | c
      · omega
      · simp [listE, Array.getD, Nat.not_lt.2 c] at hk
    refine region_step hq hA hD hr h1 hEs hp hI fun ρ1 a1' w1 hI1 => ?_
    rw [← listE_set listed i (by omega)] at hI1
    refine ih _ ρ1 a1' w1 (by simpa using hs) (fun x hx j hj => ?_) ?_ hI1
    · rw [listE_set listed i (by omega)] at hx ⊢
      unfold ins at hx ⊢
      by_cases ej : j = i
      · rw [if_pos ej]
      · rw [if_neg ej]
        by_cases ex : x = i
        · subst ex; exact hr.2 j hj
        · rw [if_neg ex] at hx; exact hD x hx j hj
    · rw [listE_set listed i (by omega)]
      have := left_ins h1 h2
      omega

/-- A REGION WHOSE ORDER IS DRAWN. -/
theorem sndC_draw {id : Nat} (hm : P.follows .mixedOrders = true) (hq : Sq P rd ops A S R W) (hA : Apart ops S R W ord) (hO : Ords ops ord) :
    SndC P rd (.region id ops true) (A 0) (S 0) .normal (A ops.size) (S ops.size) (orUpto R ops.size) (orUpto W ops.size) := by
  refine ⟨hq.statUpto ops.size (Nat.le_refl _), fun n ro ρ0 C0 a0' w Q hp ha hQ => ?_⟩
  refine wpIn_region_draw fun t => ?_
  simp only [Region.schedule, hm, Bool.true_or, if_true]
  have hw0 : ({ w with drawn := w.drawn + 1 } : World) = w.drew := rfl
  rw [hw0]
  have hp' : Pre P rd (S 0) (S ops.size) (orUpto R ops.size) (orUpto W ops.size) ro ρ0 C0 w.drew := ⟨hp.glob, hp.round, hp.agree, hp.free, hp.rel⟩
  refine wpAnyIn_sound ops.size t _ a0' _ (region_any (ds := a0'.defers) hq hA hO hp' (fun E ρ1 a1' w1 hall hI => ?_) ops.size _ ρ0 a0' _ (by simp) ?_ ?_ ?_)
  · have hpost : Post ρ0 (S 0) (S ops.size) (orUpto W ops.size) w ρ1 w1 := ⟨hI.post.sub, hI.post.dom, hI.post.fresh, hI.post.size, hI.post.frame, hI.post.os, hI.post.tape, hI.post.output⟩
    refine hQ ρ1 a1' w1 hpost ?_ ⟨⟨?_, fun t v v' g1 g2 => ?_⟩, ?_⟩
    · have := hI.rel
      rwa [show (fun b => VN C0 S W E b ops.size) = upd C0 (S 0) (S ops.size) (orUpto W ops.size) from funext fun b => vn_all hq hall b ops.size (Nat.le_refl _)] at this
    · rw [hq.sizes ops.size (Nat.le_refl _), hI.size]
    · have := hI.tmps t
      rw [vt_all hq hall t ops.size (Nat.le_refl _)] at this
      simpa [Array.getD_eq_getD_getElem?, g1, g2] using this
    · rw [hI.defs, hq.defs ops.size (Nat.le_refl _)]
      exact ha.defs.mono hI.post.sub
  · intro x hx
    simp [listE, Array.getD] at hx
  · unfold left
    have : ((List.range ops.size).filter fun k => !listE (Array.replicate ops.size false) k).length ≤ (List.range ops.size).length := List.length_filter_le _ _
    simpa using this
  · have hv0 : ∀ (b k : Nat), VN C0 S W (listE (Array.replicate ops.size false)) b k = C0 b := fun b k => by
      induction k with
      | zero => rfl
      | succ k ih =>
        simp only [VN]
        rw [if_neg (fun h => by have := h.1; simp [listE, Array.getD] at this), ih]
    have ht0 : ∀ (t k : Nat), VT A (dstOf ops) (listE (Array.replicate ops.size false)) t k = (A 0).tmps.getD t undef := fun t k => by
      induction k with
      | zero => rfl
      | succ k ih =>
        simp only [VT]
        rw [if_neg (fun h => by have := h.1; simp [listE, Array.getD] at this), ih]
    refine ⟨⟨Ren.le_refl _, fun b h => absurd rfl h, fun b L h g => (by rw [h] at g; cases g), Nat.le_refl _, fun _ _ _ => rfl, rfl, rfl, rfl⟩, fun k hk _ b k1 k2 => ?_, ?_, fun t => ?_, ha.tmps.1.symm, rfl⟩
    · have g1 := hq.mono k 0 (Nat.zero_le _) (by omega)
      have g2 := hq.mono ops.size (k + 1) (by omega) (Nat.le_refl _)
      exact (hp.free b (by omega) (by omega)).1
    · simp only [hv0]; exact hp.rel
    · rw [ht0]; exact ha.tmps.getD t
end
end Mini
end Go.Proofs.YtgloclcbeohkhaaGreatDoor
