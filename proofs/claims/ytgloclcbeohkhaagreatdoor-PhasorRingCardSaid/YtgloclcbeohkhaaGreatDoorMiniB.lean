/-
  What it is for a piece of code to do in the real world what it does in the small one; the rules for sequences, tests, blocks and loops.
-/
import Derived.Test.YtgloclcbeohkhaaGreatDoorMiniA
namespace Go.Proofs.YtgloclcbeohkhaaGreatDoor
set_option linter.all false
namespace Mini

/-- The walks' fence: none, in a round or outside of any. -/
def Fw (ro : Option Nat) : Fence := { Fence.wide with round := ro }
theorem Fw_fn (ro : Option Nat) (f : FuncId) : (Fw ro).fn f := trivial
theorem Fw_room (ro : Option Nat) (n : Nat) : (Fw ro).room n := fun _ h => by simp [Fw, Fence.wide] at h
theorem Fw_depth (ro : Option Nat) : (Fw ro).depth.isSome = true → 1 ≤ 0 := fun h => by simp [Fw, Fence.wide] at h

/-- The round that a frame is in: none, or by the name of its loop. -/
def RoR (ρ : Ren) : Option Nat → Option Nat → Prop
  | none, none => True
  | some l, some l' => ∃ L, ρ l = some L ∧ L.blk = l'
  | _, _ => False
theorem RoR.mono {ρ ρ1 : Ren} (hs : ρ.le ρ1) : ∀ {a b : Option Nat}, RoR ρ a b → RoR ρ1 a b
  | none, none, _ => trivial
  | some l, some l', ⟨L, h, e⟩ => ⟨L, hs _ _ h, e⟩
  | none, some _, h => h.elim
  | some _, none, h => h.elim

/-- The mark that a range over a function leaves among the deferred calls. -/
def mark (r : Nat) : Deferred := { target := .collected r, args := #[] }
def DR (ρ : Ren) : List Deferred → List Deferred → Prop
  | [], [] => True
  | d :: ds, d' :: ds' => (∃ r L, d = mark r ∧ ρ r = some L ∧ d' = mark L.blk) ∧ DR ρ ds ds'
  | _, _ => False
theorem DR.mono {ρ ρ1 : Ren} (hs : ρ.le ρ1) : ∀ {a b : List Deferred}, DR ρ a b → DR ρ1 a b
  | [], [], _ => trivial
  | _ :: _, _ :: _, ⟨⟨r, L, h1, h2, h3⟩, h⟩ => ⟨⟨r, L, h1, hs _ _ h2, h3⟩, h.mono hs⟩
  | [], _ :: _, h => h.elim
  | _ :: _, [], h => h.elim

structure AR (ρ : Ren) (a a' : Act) : Prop where
  tmps : VRs ρ a.tmps a'.tmps
  defs : DR ρ a.defers a'.defers
theorem AR.mono {ρ ρ1 : Ren} (hs : ρ.le ρ1) {a a' : Act} (h : AR ρ a a') : AR ρ1 a a' := ⟨h.tmps.mono hs, h.defs.mono hs⟩

/-- The package-level variables are named by their numbers. -/
def Glob (P : Program) (ρ : Ren) : Prop := ∀ g, g < P.globals.size → ∃ L, ρ g = some L ∧ L.blk = g ∧ L.base = 0
theorem Glob.mono {P : Program} {ρ ρ1 : Ren} (hs : ρ.le ρ1) (h : Glob P ρ) : Glob P ρ1 := fun g hg => let ⟨L, a, b⟩ := h g hg; ⟨L, hs _ _ a, b⟩

theorem undef_vr (ρ : Ren) : VR ρ undef undef := .tuple #[] #[] rfl (fun i v v' h => by simp at h)
theorem VRs.getD {ρ : Ren} {a b : Array Value} (h : VRs ρ a b) (t : Nat) : VR ρ (a.getD t undef) (b.getD t undef) := by
  by_cases ht : t < a.size
  · have hb : t < b.size := h.1 ▸ ht
    have e1 : a[t]? = some a[t] := Array.getElem?_eq_getElem ht
    have e2 : b[t]? = some b[t] := Array.getElem?_eq_getElem hb
    have g1 : a.getD t undef = a[t] := by simp [Array.getD, ht]
    have g2 : b.getD t undef = b[t] := by simp [Array.getD, hb]
    rw [g1, g2]
    exact h.2 t _ _ e1 e2
  · have hb : ¬ t < b.size := h.1 ▸ ht
    have g1 : a.getD t undef = undef := by simp [Array.getD, ht]
    have g2 : b.getD t undef = undef := by simp [Array.getD, hb]
    rw [g1, g2]
    exact undef_vr ρ
theorem VRs.set {ρ : Ren} {a b : Array Value} (h : VRs ρ a b) (t : Nat) {v v' : Value} (hv : VR ρ v v') : VRs ρ (a.setIfInBounds t v) (b.setIfInBounds t v') := by
  refine ⟨by simp [h.1], fun i x x' h1 h2 => ?_⟩
  by_cases e : t = i
  · subst e
    by_cases ht : t < a.size
    · have hb : t < b.size := h.1 ▸ ht
      simp [Array.getElem?_setIfInBounds, ht] at h1
      simp [Array.getElem?_setIfInBounds, hb] at h2
      rw [← h1, ← h2]; exact hv
    · simp [Array.getElem?_setIfInBounds, ht] at h1
  · simp [Array.getElem?_setIfInBounds, e] at h1 h2
    exact h.2 i _ _ h1 h2
theorem AR.put {ρ : Ren} {a a' : Act} (h : AR ρ a a') (d : Option Tmp) {v v' : Value} (hv : VR ρ v v') : AR ρ (a.put d v) (a'.put d v') := by
  cases d with
  | none => exact h
  | some d => exact ⟨h.tmps.set d hv, h.defs⟩

/-- Operands that the small world can read. -/
def okOp (P : Program) : Operand → Bool
  | .tmp _ => true
  | .const v => ground 8 v
  | .global g => decide (g < P.globals.size)
  | .func _ => true
theorem okOp_vr {P : Program} {ρ : Ren} (hG : Glob P ρ) {a a' : Act} (ha : VRs ρ a.tmps a'.tmps) {x : Operand} (hx : okOp P x = true) : VR ρ (a.eval x) (a'.eval x) := by
  cases x with
  | tmp t => exact ha.getD t
  | const v => exact ground_refl 8 hx
  | global g =>
    simp only [okOp, decide_eq_true_eq] at hx
    obtain ⟨L, h1, h2, h3⟩ := hG g hx
    have h := VR.ptr g 0 L h1
    rw [h2, h3] at h
    exact h
  | func f => exact .func _ _ _ _ _ rfl rfl rfl (fun i v v' h => by simp at h) (fun i v v' h => by simp at h)

abbrev Tr := Fence → Nat → (Exit → Act → World → Prop) → Act → World → Prop

/-- What must hold where a step begins. -/
structure Pre (P : Program) (rd : Option Nat) (s s1 : St) (R W : Nat) (ro : Option Nat) (ρ : Ren) (C : Nat → MObj) (w : World) : Prop where
  glob : Glob P ρ
  round : RoR ρ rd ro
  agree : ∀ b, (R ||| W).testBit b = true → b < s.next → C b = s.get b
  free : ∀ b, s.next ≤ b → b < s1.next → ρ b = none ∧ C b = .hole
  rel : WRel ρ C w

/-- A piece of code that leads from one small world to another one does so in each real world that holds the first one. -/
def Snd (P : Program) (rd : Option Nat) (T : Tr) (a : Act) (s : St) (e : Exit) (a1 : Act) (s1 : St) (R W : Nat) : Prop :=
  Stat s s1 W ∧ ∀ (n : Nat) (ro : Option Nat) (ρ : Ren) (C : Nat → MObj) (a' : Act) (w : World) (Q : Exit → Act → World → Prop), Pre P rd s s1 R W ro ρ C w → AR ρ a a' →
    (∀ ρ1 a1' w1, Post ρ s s1 W w ρ1 w1 → WRel ρ1 (upd C s s1 W) w1 → AR ρ1 a1 a1' → Q e a1' w1) → T (Fw ro) n Q a' w

theorem Pre.left {P : Program} {rd : Option Nat} {s s1 s2 : St} {R1 W1 R2 W2 : Nat} {ro : Option Nat} {ρ : Ren} {C : Nat → MObj} {w : World} (hS : Stat s1 s2 W2)
    (h : Pre P rd s s2 (R1 ||| R2) (W1 ||| W2) ro ρ C w) : Pre P rd s s1 R1 W1 ro ρ C w :=
  ⟨h.glob, h.round, fun b hb hlt => h.agree b (by simp only [or_bit, Bool.or_eq_true] at hb ⊢; rcases hb with h | h <;> simp [h]) hlt,
    fun b h1 h2 => h.free b h1 (Nat.lt_of_lt_of_le h2 hS.1), h.rel⟩

theorem Pre.right {P : Program} {rd : Option Nat} {s s1 s2 : St} {R1 W1 R2 W2 : Nat} {ro : Option Nat} {ρ ρ1 : Ren} {C : Nat → MObj} {w w1 : World} (hS1 : Stat s s1 W1) (hS : Stat s1 s2 W2)
    (h : Pre P rd s s2 (R1 ||| R2) (W1 ||| W2) ro ρ C w) (hp : Post ρ s s1 W1 w ρ1 w1) (hr : WRel ρ1 (upd C s s1 W1) w1) : Pre P rd s1 s2 R2 W2 ro ρ1 (upd C s s1 W1) w1 := by
  have l1 := hS1.1
  refine ⟨h.glob.mono hp.sub, h.round.mono hp.sub, fun b hb hlt => ?_, fun b h1 h2 => ?_, hr⟩
  · by_cases c : s.next ≤ b
    · exact if_pos (.inl ⟨c, hlt⟩)
    · by_cases c2 : W1.testBit b = true
      · exact if_pos (.inr ⟨c2, by omega⟩)
      · have e1 : upd C s s1 W1 b = C b := if_neg (by rintro (k | k); omega; exact c2 k.1)
        rw [e1, h.agree b (by simp only [or_bit, Bool.or_eq_true] at hb ⊢; rcases hb with k | k <;> simp [k]) (by omega)]
        exact (hS1.2 b (by omega) (by simpa using c2)).symm
  · obtain ⟨k1, k2⟩ := h.free b (by omega) h2
    refine ⟨?_, ?_⟩
    · by_cases e : ρ1 b = ρ b
      · rw [e]; exact k1
      · have := hp.dom b e; omega
    · rw [show upd C s s1 W1 b = C b from if_neg (by rintro (k | k) <;> omega)]; exact k2

/-- One step behind the other. -/
theorem Snd.bind {P : Program} {rd : Option Nat} {T1 T2 T : Tr} (hT : ∀ F n Q a w, T1 F n (Exit.then (T2 F n Q) Q) a w → T F n Q a w) {a a1 a2 : Act} {s s1 s2 : St} {e : Exit} {R1 W1 R2 W2 : Nat}
    (h : Snd P rd T1 a s .normal a1 s1 R1 W1) (g : Snd P rd T2 a1 s1 e a2 s2 R2 W2) : Snd P rd T a s e a2 s2 (R1 ||| R2) (W1 ||| W2) := by
  obtain ⟨hS, h⟩ := h
  obtain ⟨gS, g⟩ := g
  refine ⟨hS.trans gS, fun n ro ρ C a' w Q hp ha hQ => hT _ _ _ _ _ ?_⟩
  refine h n ro ρ C a' w _ (hp.left gS) ha fun ρ1 a1' w1 p1 r1 ha1 => ?_
  show T2 (Fw ro) n Q a1' w1
  refine g n ro ρ1 _ a1' w1 Q (hp.right hS gS p1 r1) ha1 fun ρ2 a2' w2 p2 r2 ha2 => ?_
  refine hQ ρ2 a2' w2 (p1.trans hS gS (fun b k1 k2 => (hp.free b k1 (Nat.lt_of_lt_of_le k2 gS.1)).1) p2) ?_ ha2
  rw [upd_trans C hS gS] at r2
  exact r2

/-- The first step leaves. -/
theorem Snd.stop {P : Program} {rd : Option Nat} {T1 T : Tr} {K : Fence → Nat → (Exit → Act → World → Prop) → Act → World → Prop} (hT : ∀ F n Q a w, T1 F n (Exit.then (K F n Q) Q) a w → T F n Q a w)
    {a a1 : Act} {s s1 : St} {e : Exit} {R W : Nat} (he : e ≠ .normal) (h : Snd P rd T1 a s e a1 s1 R W) : Snd P rd T a s e a1 s1 R W := by
  obtain ⟨hS, h⟩ := h
  refine ⟨hS, fun n ro ρ C a' w Q hp ha hQ => hT _ _ _ _ _ ?_⟩
  refine h n ro ρ C a' w _ hp ha fun ρ1 a1' w1 p1 r1 ha1 => ?_
  have := hQ ρ1 a1' w1 p1 r1 ha1
  cases e with
  | normal => exact absurd rfl he
  | _ => exact this

theorem Snd.map {P : Program} {rd : Option Nat} {T1 T : Tr} {a a1 : Act} {s s1 : St} {e e' : Exit} {R W : Nat}
    (hT : ∀ F n Q a w, T1 F n (fun x b v => x = e → Q e' b v) a w → T F n Q a w) (h : Snd P rd T1 a s e a1 s1 R W) : Snd P rd T a s e' a1 s1 R W := by
  obtain ⟨hS, h⟩ := h
  exact ⟨hS, fun n ro ρ C a' w Q hp ha hQ => hT _ _ _ _ _ (h n ro ρ C a' w _ hp ha fun ρ1 a1' w1 p1 r1 ha1 _ => hQ ρ1 a1' w1 p1 r1 ha1)⟩

/-- Where nothing turns. -/
theorem Snd.still {P : Program} {rd : Option Nat} {T : Tr} {a : Act} {s : St} {e : Exit} (hT : ∀ F n Q a w, Q e a w → T F n Q a w) : Snd P rd T a s e a s 0 0 :=
  ⟨Stat.refl s, fun n ro ρ C a' w Q hp ha hQ => hT _ _ _ _ _ (hQ ρ a' w (Post.refl ρ s w) (by
    rw [show upd C s s 0 = C from funext fun b => if_neg (by rintro (h | h); omega; simp at h)]; exact hp.rel) ha)⟩

/-- More may be said to be read. -/
theorem Snd.weaken {P : Program} {rd : Option Nat} {T : Tr} {a a1 : Act} {s s1 : St} {e : Exit} {R R' W : Nat} (h : Snd P rd T a s e a1 s1 R W) (hR : ∀ b, R.testBit b = true → R'.testBit b = true) : Snd P rd T a s e a1 s1 R' W :=
  ⟨h.1, fun n ro ρ C a' w Q hp ha hQ => h.2 n ro ρ C a' w Q ⟨hp.glob, hp.round, fun b hb hlt => hp.agree b (by
    simp only [or_bit, Bool.or_eq_true] at hb ⊢; rcases hb with k | k
    · exact .inl (hR b k)
    · exact .inr k) hlt, hp.free, hp.rel⟩ ha hQ⟩

def TC (P : Program) (c : Code) : Tr := fun F n Q a w => c.wpIn F n P Q a w
abbrev SndC (P : Program) (rd : Option Nat) (c : Code) := Snd P rd (TC P c)

section
variable {P : Program} {rd : Option Nat} {a a1 a2 : Act} {s s1 s2 : St} {e : Exit} {R W R1 W1 R2 W2 : Nat}
theorem sndC_skip : SndC P rd .skip a s .normal a s 0 0 := Snd.still fun _ _ _ _ _ h => wpIn_skip h
theorem sndC_label {l : Nat} : SndC P rd (.label l) a s .normal a s 0 0 := Snd.still fun _ _ _ _ _ h => wpIn_label h
theorem sndC_exit {l : Nat} : SndC P rd (.exit l) a s (.exit l) a s 0 0 := Snd.still fun _ _ _ _ _ h => wpIn_exit h
theorem sndC_ret : SndC P rd .ret a s .ret a s 0 0 := Snd.still fun _ _ _ _ _ h => wpIn_ret h
theorem sndC_seq {x y : Code} (h : SndC P rd x a s .normal a1 s1 R1 W1) (g : SndC P rd y a1 s1 e a2 s2 R2 W2) : SndC P rd (.seq x y) a s e a2 s2 (R1 ||| R2) (W1 ||| W2) :=
  Snd.bind (fun _ _ _ _ _ h => wpIn_seq h) h g
theorem sndC_seq_stop {x y : Code} (he : e ≠ .normal) (h : SndC P rd x a s e a1 s1 R W) : SndC P rd (.seq x y) a s e a1 s1 R W :=
  Snd.stop (K := fun F n Q a w => y.wpIn F n P Q a w) (fun _ _ _ _ _ h => wpIn_seq h) he h
theorem sndC_cond {x y : Code} {c : Operand} {t : Bool} (hx : okOp P c = true) (hc : a.eval c = .bool t) (h : SndC P rd (if t then x else y) a s e a1 s1 R W) : SndC P rd (.cond c x y) a s e a1 s1 R W := by
  obtain ⟨hS, h⟩ := h
  refine ⟨hS, fun n ro ρ C a' w Q hp ha hQ => ?_⟩
  have hv := okOp_vr hp.glob ha.tmps hx
  rw [hc] at hv
  have he : a'.eval c = .bool t := by generalize a'.eval c = z at hv; cases hv; rfl
  exact wpIn_cond he (h n ro ρ C a' w Q hp ha hQ)
/-- How a block is left. -/
def outOf (id : Nat) : Exit → Exit
  | .exit i => if i = id then .normal else .exit i
  | x => x
theorem sndC_block {id : Nat} {c : Code} (h : SndC P rd c a s e a1 s1 R W) : SndC P rd (.block id c) a s (outOf id e) a1 s1 R W := by
  obtain ⟨hS, h⟩ := h
  refine ⟨hS, fun n ro ρ C a' w Q hp ha hQ => wpIn_block (h n ro ρ C a' w _ hp ha fun ρ1 a1' w1 p1 r1 ha1 => ?_)⟩
  have hq := hQ ρ1 a1' w1 p1 r1 ha1
  cases e with
  | exit i =>
    simp only [outOf] at hq
    simp only [Exit.inBlock]
    by_cases c : i = id
    · rw [if_pos c] at hq ⊢; exact hq
    · rw [if_neg c] at hq ⊢; exact hq
  | _ => exact hq

/-- A loop, from its body on. -/
def LoopFrom (P : Program) (c : Code) : Tr := fun F n Q a w => ∀ (b : Frame) (k : List Item) (cs : List Frame), b.roundOf = F.round → F.fn b.fn → F.room (cs.length + 1 + n) →
    ∃ e a' w', Q e a' w' ∧ ArrivesIn (Machine.fenced P F) P (lone (b.atR a (.code c :: .inLoop c :: k)) cs w) b k cs e a' w'
theorem loopFrom_step {F : Fence} {n : Nat} {c : Code} {Q : Exit → Act → World → Prop} {a : Act} {w : World} (h : c.wpIn F n P (Exit.then (LoopFrom P c F n Q) Q) a w) : LoopFrom P c F n Q a w := by
  intro b k cs hro hb hr
  obtain ⟨e, a₁, w₁, hq, harr⟩ := h b (.inLoop c :: k) cs hro hb hr
  cases e with
  | normal =>
    obtain ⟨e₂, a₂, w₂, hq₂, harr₂⟩ := hq b k cs hro hb hr
    exact ⟨e₂, a₂, w₂, hq₂, .of_steps (StepsIn.trans harr (.one (fenced_calm hb hr rfl) stepR_inLoop)) harr₂⟩
  | exit id => exact ⟨_, a₁, w₁, hq, .pass (x := .inLoop c) rfl (fun _ _ => .inl (by simp)) harr⟩
  | goto l => exact ⟨_, a₁, w₁, hq, .pass (x := .inLoop c) rfl (fun _ _ => .inl (by simp)) harr⟩
  | ret => exact ⟨_, a₁, w₁, hq, .pass (x := .inLoop c) rfl (fun _ _ => .inl (by simp)) harr⟩
  | panic ch => exact ⟨_, a₁, w₁, hq, .pass (x := .inLoop c) rfl (fun _ _ => .inl (by simp)) harr⟩
  | outgrown => exact ⟨_, a₁, w₁, hq, .pass (x := .inLoop c) rfl (fun _ _ => .inl (by simp)) harr⟩
theorem loop_of_from {F : Fence} {n : Nat} {c : Code} {Q : Exit → Act → World → Prop} {a : Act} {w : World} (h : LoopFrom P c F n Q a w) : (Code.loop c).wpIn F n P Q a w := by
  intro b k cs hro hb hr
  obtain ⟨e, a', w', hq, harr⟩ := h b k cs hro hb hr
  exact ⟨e, a', w', hq, .of_steps (.one (fenced_calm hb hr rfl) stepR_loop) harr⟩
theorem snd_from_on {c : Code} (h : SndC P rd c a s .normal a1 s1 R1 W1) (g : Snd P rd (LoopFrom P c) a1 s1 e a2 s2 R2 W2) : Snd P rd (LoopFrom P c) a s e a2 s2 (R1 ||| R2) (W1 ||| W2) :=
  Snd.bind (fun _ _ _ _ _ h => loopFrom_step h) h g
theorem snd_from_stop {c : Code} (he : e ≠ .normal) (h : SndC P rd c a s e a1 s1 R W) : Snd P rd (LoopFrom P c) a s e a1 s1 R W :=
  Snd.stop (K := fun F n Q a w => LoopFrom P c F n Q a w) (fun _ _ _ _ _ h => loopFrom_step h) he h
theorem sndC_loop {c : Code} (h : Snd P rd (LoopFrom P c) a s e a1 s1 R W) : SndC P rd (.loop c) a s e a1 s1 R W :=
  ⟨h.1, fun n ro ρ C a' w Q hp ha hQ => loop_of_from (h.2 n ro ρ C a' w Q hp ha hQ)⟩

/-- An operation by itself: the value that it gives. -/
def SndO (P : Program) (rd : Option Nat) (o : Oper) (vals : Operand → Value) (s : St) (v : Value) (s1 : St) (R W : Nat) : Prop :=
  Stat s s1 W ∧ ∀ (n : Nat) (ro : Option Nat) (ρ : Ren) (C : Nat → MObj) (a' : Act) (w : World) (next : Act → World → Prop) (Q : Exit → Act → World → Prop), Pre P rd s s1 R W ro ρ C w →
    (∀ x, x ∈ o.op.operands → VR ρ (vals x) (a'.eval x)) →
    (∀ ρ1 v' w1, Post ρ s s1 W w ρ1 w1 → WRel ρ1 (upd C s s1 W) w1 → VR ρ1 v v' → next (a'.put o.dst v') w1) → o.wpIn (Fw ro) n P a' w next Q

def TOps (P : Program) (ops : Array Oper) (l : List Nat) : Tr := fun F n Q a w => wpOpsIn F n P ops Q l a w
theorem yielded_eq {ρ : Ren} {ops : Array Oper} {t t' : Array Value} (h : VRs ρ t t') : yielded ops t' = yielded ops t := by
  funext j
  unfold yielded
  cases (ops[j]?).bind (·.dst) with
  | none => rfl
  | some d =>
    simp only [Option.bind_some]
    rcases Nat.lt_or_ge d t.size with hd | hd
    · have hd' : d < t'.size := h.1 ▸ hd
      have e1 : t[d]? = some t[d] := Array.getElem?_eq_getElem hd
      have e2 : t'[d]? = some t'[d] := Array.getElem?_eq_getElem hd'
      have hv := h.2 d _ _ e1 e2
      rw [e1, e2]
      generalize t[d] = x at hv
      generalize t'[d] = y at hv
      cases hv <;> rfl
    · rw [Array.getElem?_eq_none hd, Array.getElem?_eq_none (h.1 ▸ hd)]

theorem snd_ops_nil {ops : Array Oper} : Snd P rd (TOps P ops []) a s .normal a s 0 0 := Snd.still fun _ _ _ _ _ h => h
theorem Act.put_eq (a : Act) (d : Option Tmp) (v : Value) : (a.put d v).defers = a.defers := by cases d <;> rfl
theorem snd_ops_yes {ops : Array Oper} {i : Nat} {rest : List Nat} {o : Oper} {v : Value} (ho : ops[i]? = some o) (hw : Region.wanted o (yielded ops a.tmps) = true) (hx : o.op.operands.toList.all (okOp P) = true)
    (h : SndO P rd o a.eval s v s1 R1 W1) (g : Snd P rd (TOps P ops rest) (a.put o.dst v) s1 e a2 s2 R2 W2) : Snd P rd (TOps P ops (i :: rest)) a s e a2 s2 (R1 ||| R2) (W1 ||| W2) := by
  obtain ⟨hS, h⟩ := h
  obtain ⟨gS, g⟩ := g
  refine ⟨hS.trans gS, fun n ro ρ C a' w Q hp ha hQ => ?_⟩
  show wpOpsIn (Fw ro) n P ops Q (i :: rest) a' w
  simp only [wpOpsIn, ho]
  rw [yielded_eq ha.tmps, if_pos hw]
  refine h n ro ρ C a' w _ Q (hp.left gS) (fun x hm => okOp_vr hp.glob ha.tmps (by rw [List.all_eq_true] at hx; exact hx x (by simpa using hm))) fun ρ1 v' w1 p1 r1 hv => ?_
  refine g n ro ρ1 _ _ w1 Q (hp.right hS gS p1 r1) ((ha.mono p1.sub).put o.dst hv) fun ρ2 a2' w2 p2 r2 ha2 => ?_
  refine hQ ρ2 a2' w2 (p1.trans hS gS (fun b k1 k2 => (hp.free b k1 (Nat.lt_of_lt_of_le k2 gS.1)).1) p2) ?_ ha2
  rw [upd_trans C hS gS] at r2
  exact r2
theorem snd_ops_no {ops : Array Oper} {i : Nat} {rest : List Nat} {o : Oper} (ho : ops[i]? = some o) (hw : Region.wanted o (yielded ops a.tmps) = false)
    (g : Snd P rd (TOps P ops rest) (a.put o.dst undef) s e a2 s2 R2 W2) : Snd P rd (TOps P ops (i :: rest)) a s e a2 s2 R2 W2 := by
  obtain ⟨gS, g⟩ := g
  refine ⟨gS, fun n ro ρ C a' w Q hp ha hQ => ?_⟩
  show wpOpsIn (Fw ro) n P ops Q (i :: rest) a' w
  simp only [wpOpsIn, ho]
  rw [yielded_eq ha.tmps, if_neg (by rw [hw]; simp)]
  exact ⟨fun f _ => Fw_fn ro f, g n ro ρ C _ w Q hp (ha.put o.dst (undef_vr ρ)) hQ⟩
theorem sndC_region {id : Nat} {ops : Array Oper} (h : Snd P rd (TOps P ops (List.range ops.size)) a s e a1 s1 R W) : SndC P rd (.region id ops false) a s e a1 s1 R W :=
  ⟨h.1, fun n ro ρ C a' w Q hp ha hQ => wpIn_region (h.2 n ro ρ C a' w Q hp ha hQ)⟩
end
end Mini
end Go.Proofs.YtgloclcbeohkhaaGreatDoor
