/-
  A small world beside the real one: values, blocks and their relation. Blocks have names; a renaming tells where each lies.
-/
import Derived.OrdersIn
import Derived.RangeFuncLeaves
namespace Go.Proofs.YtgloclcbeohkhaaGreatDoor
set_option linter.all false
namespace Mini

/-- Where a named block lies: its block, the offset of its first cell, whether more room may lie behind it, the size of its elements and the number of its cells. -/
structure Loc where
  blk : Nat
  base : Nat
  opn : Bool
  sz : Nat
  lim : Nat

abbrev Ren := Nat → Option Loc

/-- Function values that name no block. -/
def plainFn : Fn → Bool
  | .yield _ => false
  | _ => true

/-- A value of the small world and the real one. -/
inductive VR (ρ : Ren) : Value → Value → Prop
  | bool (b) : VR ρ (.bool b) (.bool b)
  | int (k n) : VR ρ (.int k n) (.int k n)
  | float (k n) : VR ρ (.float k n) (.float k n)
  | complex (k a b) : VR ρ (.complex k a b) (.complex k a b)
  | string (s) : VR ρ (.string s) (.string s)
  | ptr0 : VR ρ (.pointer none) (.pointer none)
  | ptr (b o L) (h : ρ b = some L) : VR ρ (.pointer (some ⟨b, o, none⟩)) (.pointer (some ⟨L.blk, L.base + o, none⟩))
  | slice0 (n c) : VR ρ (.slice none n c) (.slice none n c)
  | empty (a a') : VR ρ (.slice (some a) 0 0) (.slice (some a') 0 0)
  | slice (b o n c c' L) (h : ρ b = some L) (hc : c' = c ∨ (L.opn = true ∧ c ≤ c' ∧ L.base + o + c' * L.sz ≤ L.lim)) :
      VR ρ (.slice (some ⟨b, o, none⟩) n c) (.slice (some ⟨L.blk, L.base + o, none⟩) n c')
  | map0 : VR ρ (.map none) (.map none)
  | map (b L) (h : ρ b = some L) : VR ρ (.map (some b)) (.map (some L.blk))
  | func (fn as bs as' bs') (hf : plainFn fn = true) (h1 : as.size = as'.size) (h2 : bs.size = bs'.size)
      (h3 : ∀ (i : Nat) (v v' : Value), as[i]? = some v → as'[i]? = some v' → VR ρ v v') (h4 : ∀ (i : Nat) (v v' : Value), bs[i]? = some v → bs'[i]? = some v' → VR ρ v v') :
      VR ρ (.func fn as bs) (.func fn as' bs')
  | yield (l L) (h : ρ l = some L) : VR ρ (.func (.yield l) #[] #[]) (.func (.yield L.blk) #[] #[])
  | nilFunc : VR ρ .nilFunc .nilFunc
  | nilIface : VR ρ .nilIface .nilIface
  | iface (t v v') (h : VR ρ v v') : VR ρ (.iface t v) (.iface t v')
  | agg (cs cs') (h1 : cs.size = cs'.size) (h2 : ∀ (i : Nat) (v v' : Value), cs[i]? = some v → cs'[i]? = some v' → VR ρ v v') : VR ρ (.agg cs) (.agg cs')
  | tuple (cs cs') (h1 : cs.size = cs'.size) (h2 : ∀ (i : Nat) (v v' : Value), cs[i]? = some v → cs'[i]? = some v' → VR ρ v v') : VR ρ (.tuple cs) (.tuple cs')

def Ren.le (ρ ρ1 : Ren) : Prop := ∀ b L, ρ b = some L → ρ1 b = some L
theorem Ren.le_refl (ρ : Ren) : ρ.le ρ := fun _ _ h => h
theorem Ren.le_trans {a b c : Ren} (h : a.le b) (g : b.le c) : a.le c := fun x L hx => g x L (h x L hx)

theorem VR.mono {ρ ρ1 : Ren} (hs : ρ.le ρ1) {v v' : Value} (h : VR ρ v v') : VR ρ1 v v' := by
  induction h with
  | bool b => exact .bool b
  | int k n => exact .int k n
  | float k n => exact .float k n
  | complex k a b => exact .complex k a b
  | string s => exact .string s
  | ptr0 => exact .ptr0
  | ptr b o L h => exact .ptr b o L (hs _ _ h)
  | slice0 n c => exact .slice0 n c
  | empty a a' => exact .empty a a'
  | slice b o n c c' L h hc => exact .slice b o n c c' L (hs _ _ h) hc
  | map0 => exact .map0
  | map b L h => exact .map b L (hs _ _ h)
  | func fn as bs as' bs' hf h1 h2 h3 h4 i3 i4 => exact .func fn as bs as' bs' hf h1 h2 i3 i4
  | yield l L h => exact .yield l L (hs _ _ h)
  | nilFunc => exact .nilFunc
  | nilIface => exact .nilIface
  | iface t v v' h ih => exact .iface t v v' ih
  | agg cs cs' h1 h2 ih => exact .agg cs cs' h1 ih
  | tuple cs cs' h1 h2 ih => exact .tuple cs cs' h1 ih

/-- Rows of values, element by element. -/
def VRs (ρ : Ren) (cs cs' : Array Value) : Prop := cs.size = cs'.size ∧ ∀ (i : Nat) (v v' : Value), cs[i]? = some v → cs'[i]? = some v' → VR ρ v v'
theorem VRs.mono {ρ ρ1 : Ren} (hs : ρ.le ρ1) {a b : Array Value} (h : VRs ρ a b) : VRs ρ1 a b := ⟨h.1, fun i v v' h1 h2 => (h.2 i v v' h1 h2).mono hs⟩

/-- A value that names no block (to a depth of n). -/
def ground : Nat → Value → Bool
  | _, .bool _ | _, .int _ _ | _, .float _ _ | _, .complex _ _ _ | _, .string _ | _, .pointer none | _, .slice none _ _ | _, .map none | _, .nilFunc | _, .nilIface => true
  | n + 1, .func fn as bs => plainFn fn && as.toList.all (ground n) && bs.toList.all (ground n)
  | n + 1, .iface _ v => ground n v
  | n + 1, .agg cs => cs.toList.all (ground n)
  | n + 1, .tuple cs => cs.toList.all (ground n)
  | _, _ => false

theorem arr_eq {P : Value → Bool} {Q : Value → Value → Prop} (hq : ∀ v v', P v = true → Q v v' → v' = v) (a b : Array Value) (hs : a.size = b.size) (ha : a.toList.all P = true)
    (h : ∀ (i : Nat) (v v' : Value), a[i]? = some v → b[i]? = some v' → Q v v') : b = a := by
  apply Array.ext hs.symm
  intro i h1 h2
  have e1 : a[i]? = some a[i] := Array.getElem?_eq_getElem h2
  have e2 : b[i]? = some b[i] := Array.getElem?_eq_getElem h1
  refine hq _ _ ?_ (h i _ _ e1 e2)
  rw [List.all_eq_true] at ha
  exact ha _ (by simp)

theorem ground_eq {ρ : Ren} : ∀ (n : Nat) {v v' : Value}, ground n v = true → VR ρ v v' → v' = v := by
  intro n
  induction n with
  | zero =>
    intro v v' hg h
    cases h <;> first | rfl | (simp [ground] at hg)
  | succ n ih =>
    intro v v' hg h
    cases h with
    | func fn as bs as' bs' hf h1 h2 h3 h4 =>
      simp only [ground, Bool.and_eq_true] at hg
      rw [arr_eq (fun v v' => ih) as as' h1 hg.1.2 h3, arr_eq (fun v v' => ih) bs bs' h2 hg.2 h4]
    | iface t v v' h => simp only [ground] at hg; rw [ih hg h]
    | agg cs cs' h1 h2 => simp only [ground] at hg; rw [arr_eq (fun v v' => ih) cs cs' h1 hg h2]
    | tuple cs cs' h1 h2 => simp only [ground] at hg; rw [arr_eq (fun v v' => ih) cs cs' h1 hg h2]
    | ptr b o L h => simp [ground] at hg
    | empty a a' => simp [ground] at hg
    | slice b o n c c' L h hc => simp [ground] at hg
    | map b L h => simp [ground] at hg
    | yield l L h => simp [ground, plainFn] at hg
    | _ => rfl

theorem arr_self {P : Value → Bool} {Q : Value → Value → Prop} (hq : ∀ v, P v = true → Q v v) (a : Array Value) (ha : a.toList.all P = true)
    (i : Nat) (v v' : Value) (h1 : a[i]? = some v) (h2 : a[i]? = some v') : Q v v' := by
  rw [h1] at h2
  cases h2
  rw [List.all_eq_true] at ha
  exact hq _ (ha _ (by rw [Array.mem_toList_iff]; exact Array.mem_of_getElem? h1))

theorem ground_refl {ρ : Ren} : ∀ (n : Nat) {v : Value}, ground n v = true → VR ρ v v := by
  intro n
  induction n with
  | zero =>
    intro v hg
    cases v with
    | bool b => exact .bool b
    | int k m => exact .int k m
    | float k b => exact .float k b
    | complex k a b => exact .complex k a b
    | string s => exact .string s
    | pointer a => cases a with
      | none => exact .ptr0
      | some a => simp [ground] at hg
    | slice a l c => cases a with
      | none => exact .slice0 l c
      | some a => simp [ground] at hg
    | map a => cases a with
      | none => exact .map0
      | some a => simp [ground] at hg
    | nilFunc => exact .nilFunc
    | nilIface => exact .nilIface
    | _ => simp [ground] at hg
  | succ n ih =>
    intro v hg
    cases v with
    | bool b => exact .bool b
    | int k m => exact .int k m
    | float k b => exact .float k b
    | complex k a b => exact .complex k a b
    | string s => exact .string s
    | pointer a => cases a with
      | none => exact .ptr0
      | some a => simp [ground] at hg
    | slice a l c => cases a with
      | none => exact .slice0 l c
      | some a => simp [ground] at hg
    | map a => cases a with
      | none => exact .map0
      | some a => simp [ground] at hg
    | nilFunc => exact .nilFunc
    | nilIface => exact .nilIface
    | func fn as bs =>
      simp only [ground, Bool.and_eq_true] at hg
      exact .func fn as bs as bs hg.1.1 rfl rfl (arr_self (fun v h => ih h) as hg.1.2) (arr_self (fun v h => ih h) bs hg.2)
    | iface t v => simp only [ground] at hg; exact .iface t v v (ih hg)
    | agg cs => simp only [ground] at hg; exact .agg cs cs rfl (arr_self (fun v h => ih h) cs hg)
    | tuple cs => simp only [ground] at hg; exact .tuple cs cs rfl (arr_self (fun v h => ih h) cs hg)
    | chan r => simp [ground] at hg

/-- What lies in a named block. -/
inductive MObj where
  | hole
  | cells (c : List Value) (elem : TypeId) (opn : Bool) (sz : Nat) (ro : Bool)
  | map (es : List MapEntry) (clock : Nat)
  | iter (s : ByteArray) (pos : Nat)
  | loop (l : Loop)
  | marks

/-- A block of the small world and the real one. -/
def OR (ρ : Ren) (L : Loc) : MObj → Obj → Prop
  | .hole, _ => True
  | .cells c e opn sz ro, .cells c' e' fr => L.opn = opn ∧ L.sz = sz ∧ (ro = false → e' = e) ∧ c'.size = L.lim ∧ L.base + c.length ≤ L.lim ∧
      (∀ (i : Nat) (v : Value), c[i]? = some v → ∃ v', c'[L.base + i]? = some v' ∧ VR ρ v v') ∧
      (ro = false → fr.1 = fr.2 ∨ L.lim ≤ fr.1) ∧ (opn = false → L.base = 0 ∧ L.lim = c.length)
  | .map es k, .map es' k' => k' = k ∧ es'.size = es.length ∧ ∀ (i : Nat) (e : MapEntry), es[i]? = some e → ∃ e', es'[i]? = some e' ∧ e'.born = e.born ∧ VR ρ e.key e'.key ∧ VR ρ e.val e'.val
  | .iter s p, .stringIter s' p' => s' = s ∧ p' = p ∧ L.base = 0
  | .loop l, .loop l' => l'.state = l.state ∧ l'.pending = l.pending ∧ l'.fn = l.fn ∧ VRs ρ l.tmps l'.tmps ∧ l'.params = l.params ∧ l'.assign = l.assign ∧ l'.body = l.body ∧
      ∃ L, ρ l.defers = some L ∧ l'.defers = L.blk
  | .marks, .deferred ds => ds.map List.length = some 0
  | _, _ => False

theorem unfrozen {fr : Nat × Nat} {n j : Nat} (h : fr.1 = fr.2 ∨ n ≤ fr.1) (hj : j < n) : ¬ (fr.1 ≤ j ∧ j < fr.2) := by omega
theorem OR.mono {ρ ρ1 : Ren} (hs : ρ.le ρ1) {L : Loc} {o : MObj} {o' : Obj} (h : OR ρ L o o') : OR ρ1 L o o' := by
  cases o <;> cases o' <;> simp only [OR] at h ⊢
  · obtain ⟨h1, h2, h3, h4, h5, h6, h7⟩ := h
    exact ⟨h1, h2, h3, h4, h5, fun i v hi => let ⟨v', a, b⟩ := h6 i v hi; ⟨v', a, b.mono hs⟩, h7⟩
  · obtain ⟨h1, h2, h3⟩ := h
    exact ⟨h1, h2, fun i e hi => let ⟨e', a, b, c, d⟩ := h3 i e hi; ⟨e', a, b, c.mono hs, d.mono hs⟩⟩
  · exact h
  · obtain ⟨h1, h2, h3, h4, h5, h6, h7, L', h8, h9⟩ := h
    exact ⟨h1, h2, h3, h4.mono hs, h5, h6, h7, L', hs _ _ h8, h9⟩
  · exact h

/-- The small world: the newest block first. -/
structure St where
  next : Nat
  heap : List MObj

def nth : List MObj → Nat → MObj
  | [], _ => .hole
  | o :: _, 0 => o
  | _ :: l, n + 1 => nth l n
def setNth : List MObj → Nat → MObj → List MObj
  | [], _, _ => []
  | _ :: l, 0, x => x :: l
  | o :: l, n + 1, x => o :: setNth l n x
theorem nth_set_same : ∀ (l : List MObj) (n : Nat) (x : MObj), nth l n ≠ .hole → nth (setNth l n x) n = x
  | [], n, x, h => absurd rfl h
  | o :: l, 0, x, h => rfl
  | o :: l, n + 1, x, h => nth_set_same l n x h
theorem nth_set_other : ∀ (l : List MObj) (n m : Nat) (x : MObj), n ≠ m → nth (setNth l n x) m = nth l m
  | [], n, m, x, h => rfl
  | o :: l, 0, 0, x, h => absurd rfl h
  | o :: l, 0, m + 1, x, h => rfl
  | o :: l, n + 1, 0, x, h => rfl
  | o :: l, n + 1, m + 1, x, h => nth_set_other l n m x (fun e => h (by rw [e]))

def St.get (s : St) (n : Nat) : MObj := if n < s.next then nth s.heap (s.next - 1 - n) else .hole
def St.push (s : St) (o : MObj) : St := ⟨s.next + 1, o :: s.heap⟩
def St.put (s : St) (n : Nat) (o : MObj) : St := ⟨s.next, setNth s.heap (s.next - 1 - n) o⟩
theorem St.get_push_new (s : St) (o : MObj) : (s.push o).get s.next = o := by
  simp [St.get, St.push, nth]
theorem St.get_push_old (s : St) (o : MObj) (n : Nat) (h : n < s.next) : (s.push o).get n = s.get n := by
  have e1 : (s.push o).get n = nth (o :: s.heap) (s.next + 1 - 1 - n) := if_pos (show n < s.next + 1 by omega)
  have e2 : s.get n = nth s.heap (s.next - 1 - n) := if_pos h
  rw [e1, e2, show s.next + 1 - 1 - n = (s.next - 1 - n) + 1 from by omega]
  rfl
theorem St.get_put_same (s : St) (n : Nat) (o : MObj) (h : s.get n ≠ .hole) : (s.put n o).get n = o := by
  by_cases hn : n < s.next
  · have e1 : (s.put n o).get n = nth (setNth s.heap (s.next - 1 - n) o) (s.next - 1 - n) := if_pos hn
    have e2 : s.get n = nth s.heap (s.next - 1 - n) := if_pos hn
    rw [e2] at h
    rw [e1]
    exact nth_set_same _ _ _ h
  · have e2 : s.get n = .hole := if_neg hn
    exact absurd e2 h
theorem St.get_put_other (s : St) (n m : Nat) (o : MObj) (hn : n < s.next) (h : n ≠ m) : (s.put n o).get m = s.get m := by
  by_cases hm : m < s.next
  · have e1 : (s.put n o).get m = nth (setNth s.heap (s.next - 1 - n) o) (s.next - 1 - m) := if_pos hm
    have e2 : s.get m = nth s.heap (s.next - 1 - m) := if_pos hm
    rw [e1, e2]
    exact nth_set_other _ _ _ _ (by omega)
  · have e1 : (s.put n o).get m = .hole := if_neg hm
    have e2 : s.get m = .hole := if_neg hm
    rw [e1, e2]
theorem St.get_beyond (s : St) (n : Nat) (h : s.next ≤ n) : s.get n = .hole := if_neg (by omega)
theorem St.lt_of_live {s : St} {n : Nat} (h : s.get n ≠ .hole) : n < s.next := by
  rcases Nat.lt_or_ge n s.next with g | g
  · exact g
  · exact absurd (s.get_beyond n g) h

/-- The real world holds what the small one says, each block apart. -/
def WRel (ρ : Ren) (C : Nat → MObj) (w : World) : Prop :=
  (∀ b, C b ≠ .hole → ∃ L o', ρ b = some L ∧ w.heap[L.blk]? = some o' ∧ OR ρ L (C b) o') ∧
  (∀ b b' L L', C b ≠ .hole → C b' ≠ .hole → ρ b = some L → ρ b' = some L' → L.blk = L'.blk → b = b')

/-- What was, with what the step has written and made. -/
def upd (C : Nat → MObj) (s s1 : St) (W : Nat) : Nat → MObj := fun b => if (s.next ≤ b ∧ b < s1.next) ∨ (W.testBit b = true ∧ b < s.next) then s1.get b else C b

/-- What a step leaves in the real world. -/
structure Post (ρ : Ren) (s s1 : St) (W : Nat) (w : World) (ρ1 : Ren) (w1 : World) : Prop where
  sub : ρ.le ρ1
  dom : ∀ b, ρ1 b ≠ ρ b → s.next ≤ b ∧ b < s1.next
  fresh : ∀ b L, ρ b = none → ρ1 b = some L → w.heap.size ≤ L.blk ∨ ∃ b0 L0, W.testBit b0 = true ∧ b0 < s.next ∧ ρ b0 = some L0 ∧ L0.blk = L.blk
  size : w.heap.size ≤ w1.heap.size
  frame : ∀ x, x < w.heap.size → (∀ b L, W.testBit b = true → b < s.next → ρ b = some L → L.blk ≠ x) → w1.heap[x]? = w.heap[x]?
  os : w1.os = w.os
  tape : w1.tape = w.tape
  output : w1.output = w.output

/-- What a step does not touch stays as it is in the small world. -/
def Stat (s s1 : St) (W : Nat) : Prop := s.next ≤ s1.next ∧ ∀ b, b < s.next → W.testBit b = false → s1.get b = s.get b

theorem Stat.refl (s : St) : Stat s s 0 := ⟨Nat.le_refl _, fun _ _ _ => rfl⟩
theorem or_bit {a b n : Nat} : (a ||| b).testBit n = (a.testBit n || b.testBit n) := Nat.testBit_or a b n
theorem Stat.trans {s s1 s2 : St} {W1 W2 : Nat} (h : Stat s s1 W1) (g : Stat s1 s2 W2) : Stat s s2 (W1 ||| W2) :=
  ⟨Nat.le_trans h.1 g.1, fun b hb hw => by
    rw [or_bit, Bool.or_eq_false_iff] at hw
    rw [g.2 b (Nat.lt_of_lt_of_le hb h.1) hw.2, h.2 b hb hw.1]⟩

theorem upd_trans (C : Nat → MObj) {s s1 s2 : St} {W1 W2 : Nat} (h : Stat s s1 W1) (g : Stat s1 s2 W2) :
    upd (upd C s s1 W1) s1 s2 W2 = upd C s s2 (W1 ||| W2) := by
  funext b
  have h1 := h.1
  have g1 := g.1
  simp only [upd, or_bit, Bool.or_eq_true]
  by_cases c1 : s1.next ≤ b
  · by_cases c2 : b < s2.next
    · rw [if_pos (.inl ⟨c1, c2⟩), if_pos (.inl ⟨by omega, c2⟩)]
    · rw [if_neg (by rintro (h | h) <;> omega), if_neg (by rintro (h | h) <;> omega), if_neg (by rintro (h | h) <;> omega)]
  · by_cases c3 : s.next ≤ b
    · by_cases c4 : W2.testBit b = true
      · rw [if_pos (.inr ⟨c4, by omega⟩), if_pos (.inl ⟨c3, by omega⟩)]
      · rw [if_neg (by rintro (h | h); omega; exact c4 h.1), if_pos (.inl ⟨c3, by omega⟩), if_pos (.inl ⟨c3, by omega⟩)]
        exact (g.2 b (by omega) (by simpa using c4)).symm
    · by_cases c4 : W2.testBit b = true
      · rw [if_pos (.inr ⟨c4, by omega⟩), if_pos (.inr ⟨.inr c4, by omega⟩)]
      · rw [if_neg (by rintro (h | h); omega; exact c4 h.1)]
        by_cases c5 : W1.testBit b = true
        · rw [if_pos (.inr ⟨c5, by omega⟩), if_pos (.inr ⟨.inl c5, by omega⟩)]
          exact (g.2 b (by omega) (by simpa using c4)).symm
        · rw [if_neg (by rintro (h | h); omega; exact c5 h.1), if_neg (by rintro (h | ⟨h | h, _⟩); omega; exact c5 h; exact c4 h)]

theorem Post.refl (ρ : Ren) (s : St) (w : World) : Post ρ s s 0 w ρ w :=
  ⟨Ren.le_refl _, fun b h => absurd rfl h, fun b L h g => (by rw [h] at g; cases g), Nat.le_refl _, fun _ _ _ => rfl, rfl, rfl, rfl⟩

theorem Post.trans {ρ ρ1 ρ2 : Ren} {s s1 s2 : St} {W1 W2 : Nat} {w w1 w2 : World} (hS : Stat s s1 W1) (gS : Stat s1 s2 W2) (hN : ∀ b, s.next ≤ b → b < s1.next → ρ b = none)
    (h : Post ρ s s1 W1 w ρ1 w1) (g : Post ρ1 s1 s2 W2 w1 ρ2 w2) : Post ρ s s2 (W1 ||| W2) w ρ2 w2 := by
  have h1 := hS.1
  have g1 := gS.1
  have old : ∀ b, b < s.next → ρ1 b = ρ b := fun b hb => by
    by_cases e : ρ1 b = ρ b
    · exact e
    · have := h.dom b e; omega
  have bits : ∀ b, W1.testBit b = true ∨ W2.testBit b = true → (W1 ||| W2).testBit b = true := fun b hb => by rw [or_bit, Bool.or_eq_true]; exact hb
  refine ⟨Ren.le_trans h.sub g.sub, fun b hb => ?_, fun b L hb hL => ?_, Nat.le_trans h.size g.size, fun x hx hf => ?_, g.os.trans h.os, g.tape.trans h.tape, g.output.trans h.output⟩
  · by_cases e : ρ1 b = ρ b
    · have := g.dom b (by rw [e]; exact hb); omega
    · have := h.dom b e; omega
  · cases e : ρ1 b with
    | some L' =>
      have e2 := g.sub b L' e
      rw [hL] at e2
      cases e2
      rcases h.fresh b L hb e with k | ⟨b0, L0, k1, k2, k3, k4⟩
      · exact .inl k
      · exact .inr ⟨b0, L0, bits _ (.inl k1), k2, k3, k4⟩
    | none =>
      rcases g.fresh b L e hL with k | ⟨b0, L0, k1, k2, k3, k4⟩
      · exact .inl (Nat.le_trans h.size k)
      · by_cases c : b0 < s.next
        · exact .inr ⟨b0, L0, bits _ (.inr k1), c, (old b0 c) ▸ k3, k4⟩
        · rcases h.fresh b0 L0 (hN b0 (by omega) k2) k3 with m | ⟨b1, L1, m1, m2, m3, m4⟩
          · exact .inl (by omega)
          · exact .inr ⟨b1, L1, bits _ (.inl m1), m2, m3, m4.trans k4⟩
  · have a : w1.heap[x]? = w.heap[x]? := h.frame x hx fun b L hb hlt hL => hf b L (bits _ (.inl hb)) hlt hL
    rw [← a]
    refine g.frame x (Nat.lt_of_lt_of_le hx h.size) fun b L hb hlt hL => ?_
    by_cases c : b < s.next
    · exact hf b L (bits _ (.inr hb)) c ((old b c) ▸ hL)
    · rcases h.fresh b L (hN b (by omega) hlt) hL with m | ⟨b1, L1, m1, m2, m3, m4⟩
      · omega
      · rw [← m4]; exact hf b1 L1 (bits _ (.inl m1)) m2 m3

end Mini
end Go.Proofs.YtgloclcbeohkhaaGreatDoor
