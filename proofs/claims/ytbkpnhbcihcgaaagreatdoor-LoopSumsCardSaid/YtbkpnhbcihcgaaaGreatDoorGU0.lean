/-
  The reckoner of the small world: operations.
  Calls: a function's body, its results; loads by the small world's words.
  A region whose order is drawn, in the real world.
  A region whose order is drawn: where no operation touches what another one writes but behind or ahead of it, every order leads to what the text's order leads to.
  Operations: copy, bytes and strings, comparisons with nil, ranges over strings.
  Operations: append, copy, bytes and strings, by the small world's words.
  Operations: append, copy, bytes and strings.
  Operations: parts of slices; append; copy; bytes and strings; comparisons with nil.
  Operations: structs, arrays, slices, their making.
  Operations on memory: addresses, loads, stores.
  Operations: those on plain values, new blocks, loads and stores.
  What it is for a piece of code to do in the real world what it does in the small one; the rules for sequences, tests, blocks and loops.
  A small world beside the real one: values, blocks and their relation. Blocks have names; a renaming tells where each lies.
-/
import Derived.OrdersIn
import Derived.RangeFuncLeaves
import Derived.ChangeKeysEq
import Derived.Laws.NewFold
import Derived.Laws.Tables
import Derived.Great.BuildSlice
import Derived.Laws.MakeOwn
import Derived.Laws.Append
import Derived.Laws.IdiomStrings
import Derived.Laws.Cover3
section
namespace Go.Proofs.YtbkpnhbcihcgaaaGreatDoor
set_option linter.all false
namespace Mini

structure Loc where
  blk : Nat
  base : Nat
  opn : Bool
  sz : Nat
  lim : Nat

abbrev Ren := Nat → Option Loc

def plainFn : Fn → Bool
  | .yield _ => false
  | _ => true

inductive VR (ρ : Ren) : Value → Value → Prop
  | bool (b) : VR ρ (.bool b) (.bool b)
  | int (k n) : VR ρ (.int k n) (.int k n)
  | float (k n) : VR ρ (.float k n) (.float k n)
  | complex (k a b) : VR ρ (.complex k a b) (.complex k a b)
  | string (s) : VR ρ (.string s) (.string s)
  | ptr0 : VR ρ (.pointer none) (.pointer none)
  | ptr (b o L) (h : ρ b = some L) : VR ρ (.pointer (some ⟨b, o, none⟩)) (.pointer (some ⟨L.blk, L.base + o, none⟩))
  | slice0 (n c) : VR ρ (.slice none n c) (.slice none n c)
  | empty (a a') : VR ρ (.slice (some a) 0 0) (.slice (some a') 0 0)
  | slice (b o n c c' L) (h : ρ b = some L) (hc : c' = c ∨ (L.opn = true ∧ c ≤ c' ∧ L.base + o + c' * L.sz ≤ L.lim)) :
      VR ρ (.slice (some ⟨b, o, none⟩) n c) (.slice (some ⟨L.blk, L.base + o, none⟩) n c')
  | map0 : VR ρ (.map none) (.map none)
  | map (b L) (h : ρ b = some L) : VR ρ (.map (some b)) (.map (some L.blk))
  | func (fn azz bs as' bs') (hf : plainFn fn = true) (h1 : azz.size = as'.size) (h2 : bs.size = bs'.size)
      (h3 : ∀ (i : Nat) (v v' : Value), azz[i]? = some v → as'[i]? = some v' → VR ρ v v') (h4 : ∀ (i : Nat) (v v' : Value), bs[i]? = some v → bs'[i]? = some v' → VR ρ v v') :
      VR ρ (.func fn azz bs) (.func fn as' bs')
  | yield (l L) (h : ρ l = some L) : VR ρ (.func (.yield l) #[] #[]) (.func (.yield L.blk) #[] #[])
  | nilFunc : VR ρ .nilFunc .nilFunc
  | nilIface : VR ρ .nilIface .nilIface
  | iface (t v v') (h : VR ρ v v') : VR ρ (.iface t v) (.iface t v')
  | agg (cs cs') (h1 : cs.size = cs'.size) (h2 : ∀ (i : Nat) (v v' : Value), cs[i]? = some v → cs'[i]? = some v' → VR ρ v v') : VR ρ (.agg cs) (.agg cs')
  | tuple (cs cs') (h1 : cs.size = cs'.size) (h2 : ∀ (i : Nat) (v v' : Value), cs[i]? = some v → cs'[i]? = some v' → VR ρ v v') : VR ρ (.tuple cs) (.tuple cs')
  | junk (r v') : VR ρ (.chan r) v'

def Ren.le (ρ ρ1 : Ren) : Prop := ∀ b L, ρ b = some L → ρ1 b = some L
theorem Ren.le_refl (ρ : Ren) : ρ.le ρ := fun _ _ h => h
theorem Ren.le_trans {a b c : Ren} (h : a.le b) (g : b.le c) : a.le c := fun x L hx => g x L (h x L hx)

theorem VR.mono {ρ ρ1 : Ren} (hs : ρ.le ρ1) {v v' : Value} (h : VR ρ v v') : VR ρ1 v v' := by
  induction h with
  | bool b => exact .bool b
  | int k n => exact .int k n
  | float k n => exact .float k n
  | complex k a b => exact .complex k a b
  | string s => exact .string s
  | ptr0 => exact .ptr0
  | ptr b o L h => exact .ptr b o L (hs _ _ h)
  | slice0 n c => exact .slice0 n c
  | empty a a' => exact .empty a a'
  | slice b o n c c' L h hc => exact .slice b o n c c' L (hs _ _ h) hc
  | map0 => exact .map0
  | map b L h => exact .map b L (hs _ _ h)
  | func fn azz bs as' bs' hf h1 h2 h3 h4 i3 i4 => exact .func fn azz bs as' bs' hf h1 h2 i3 i4
  | yield l L h => exact .yield l L (hs _ _ h)
  | nilFunc => exact .nilFunc
  | nilIface => exact .nilIface
  | iface t v v' h ih => exact .iface t v v' ih
  | agg cs cs' h1 h2 ih => exact .agg cs cs' h1 ih
  | tuple cs cs' h1 h2 ih => exact .tuple cs cs' h1 ih
  | junk r v' => exact .junk r v'

def VRs (ρ : Ren) (cs cs' : Array Value) : Prop := cs.size = cs'.size ∧ ∀ (i : Nat) (v v' : Value), cs[i]? = some v → cs'[i]? = some v' → VR ρ v v'
theorem VRs.mono {ρ ρ1 : Ren} (hs : ρ.le ρ1) {a b : Array Value} (h : VRs ρ a b) : VRs ρ1 a b := ⟨h.1, fun i v v' h1 h2 => (h.2 i v v' h1 h2).mono hs⟩

def ground : Nat → Value → Bool
  | _, .bool _ | _, .int _ _ | _, .float _ _ | _, .complex _ _ _ | _, .string _ | _, .pointer none | _, .slice none _ _ | _, .map none | _, .nilFunc | _, .nilIface => true
  | n + 1, .func fn azz bs => plainFn fn && azz.toList.all (ground n) && bs.toList.all (ground n)
  | n + 1, .iface _ v => ground n v
  | n + 1, .agg cs => cs.toList.all (ground n)
  | n + 1, .tuple cs => cs.toList.all (ground n)
  | _, _ => false

theorem arr_eq {P : Value → Bool} {Q : Value → Value → Prop} (hq : ∀ v v', P v = true → Q v v' → v' = v) (a b : Array Value) (hs : a.size = b.size) (ha : a.toList.all P = true)
    (h : ∀ (i : Nat) (v v' : Value), a[i]? = some v → b[i]? = some v' → Q v v') : b = a := by
  apply Array.ext hs.symm
  intro i h1 h2
  have e1 : a[i]? = some a[i] := Array.getElem?_eq_getElem h2
  have e2 : b[i]? = some b[i] := Array.getElem?_eq_getElem h1
  refine hq _ _ ?_ (h i _ _ e1 e2)
  rw [List.all_eq_true] at ha
  exact ha _ (by simp)

theorem ground_eq {ρ : Ren} : ∀ (n : Nat) {v v' : Value}, ground n v = true → VR ρ v v' → v' = v := by
  intro n
  induction n with
  | zero =>
    intro v v' hg h
    cases h <;> first | rfl | (simp [ground] at hg)
  | succ n ih =>
    intro v v' hg h
    cases h with
    | func fn azz bs as' bs' hf h1 h2 h3 h4 =>
      simp only [ground, Bool.and_eq_true] at hg
      rw [arr_eq (fun v v' => ih) azz as' h1 hg.1.2 h3, arr_eq (fun v v' => ih) bs bs' h2 hg.2 h4]
    | iface t v v' h => simp only [ground] at hg; rw [ih hg h]
    | agg cs cs' h1 h2 => simp only [ground] at hg; rw [arr_eq (fun v v' => ih) cs cs' h1 hg h2]
    | tuple cs cs' h1 h2 => simp only [ground] at hg; rw [arr_eq (fun v v' => ih) cs cs' h1 hg h2]
    | ptr b o L h => simp [ground] at hg
    | empty a a' => simp [ground] at hg
    | slice b o n c c' L h hc => simp [ground] at hg
    | map b L h => simp [ground] at hg
    | yield l L h => simp [ground, plainFn] at hg
    | junk r v' => simp [ground] at hg
    | _ => rfl

theorem arr_self {P : Value → Bool} {Q : Value → Value → Prop} (hq : ∀ v, P v = true → Q v v) (a : Array Value) (ha : a.toList.all P = true)
    (i : Nat) (v v' : Value) (h1 : a[i]? = some v) (h2 : a[i]? = some v') : Q v v' := by
  rw [h1] at h2
  cases h2
  rw [List.all_eq_true] at ha
  exact hq _ (ha _ (by rw [Array.mem_toList_iff]; exact Array.mem_of_getElem? h1))

theorem ground_refl {ρ : Ren} : ∀ (n : Nat) {v : Value}, ground n v = true → VR ρ v v := by
  intro n
  induction n with
  | zero =>
    intro v hg
    cases v with
    | bool b => exact .bool b
    | int k m => exact .int k m
    | float k b => exact .float k b
    | complex k a b => exact .complex k a b
    | string s => exact .string s
    | pointer a => cases a with
      | none => exact .ptr0
      | some a => simp [ground] at hg
    | slice a l c => cases a with
      | none => exact .slice0 l c
      | some a => simp [ground] at hg
    | map a => cases a with
      | none => exact .map0
      | some a => simp [ground] at hg
    | nilFunc => exact .nilFunc
    | nilIface => exact .nilIface
    | _ => simp [ground] at hg
  | succ n ih =>
    intro v hg
    cases v with
    | bool b => exact .bool b
    | int k m => exact .int k m
    | float k b => exact .float k b
    | complex k a b => exact .complex k a b
    | string s => exact .string s
    | pointer a => cases a with
      | none => exact .ptr0
      | some a => simp [ground] at hg
    | slice a l c => cases a with
      | none => exact .slice0 l c
      | some a => simp [ground] at hg
    | map a => cases a with
      | none => exact .map0
      | some a => simp [ground] at hg
    | nilFunc => exact .nilFunc
    | nilIface => exact .nilIface
    | func fn azz bs =>
      simp only [ground, Bool.and_eq_true] at hg
      exact .func fn azz bs azz bs hg.1.1 rfl rfl (arr_self (fun v h => ih h) azz hg.1.2) (arr_self (fun v h => ih h) bs hg.2)
    | iface t v => simp only [ground] at hg; exact .iface t v v (ih hg)
    | agg cs => simp only [ground] at hg; exact .agg cs cs rfl (arr_self (fun v h => ih h) cs hg)
    | tuple cs => simp only [ground] at hg; exact .tuple cs cs rfl (arr_self (fun v h => ih h) cs hg)
    | chan r => simp [ground] at hg

inductive MObj where
  | hole
  | cells (c : List Value) (elem : TypeId) (opn : Bool) (sz : Nat) (ro : Bool)
  | rows (n k : Nat) (g : Nat → Nat → Value) (elem : TypeId) (opn : Bool) (sz : Nat) (ro : Bool)
  | map (es : List MapEntry) (clock : Nat)
  | iter (s : ByteArray) (pos : Nat)
  | loop (l : Loop)
  | marks
  | miter (m since : Nat) (seen : List Nat) (last : Nat)

def rowsL (n k : Nat) (g : Nat → Nat → Value) : List Value := (List.range (n * k)).map fun j => g (j / k) (j % k)
theorem rowsL_len (n k : Nat) (g : Nat → Nat → Value) : (rowsL n k g).length = n * k := by simp [rowsL]
theorem rowsL_at {n k : Nat} {g : Nat → Nat → Value} {j : Nat} (h : j < n * k) : (rowsL n k g)[j]? = some (g (j / k) (j % k)) := by simp [rowsL, h]

def OR (ρ : Ren) (L : Loc) : MObj → Obj → Prop
  | .hole, _ => True
  | .cells c e opn sz ro, .cells c' e' fr => L.opn = opn ∧ L.sz = sz ∧ (ro = false → e' = e) ∧ c'.size = L.lim ∧ L.base + c.length ≤ L.lim ∧
      (∀ (i : Nat) (v : Value), c[i]? = some v → ∃ v', c'[L.base + i]? = some v' ∧ VR ρ v v') ∧
      (ro = false → fr.1 = fr.2 ∨ L.lim ≤ fr.1) ∧ (opn = false → L.base = 0 ∧ L.lim = c.length)
  | .rows n k g e opn sz ro, .cells c' e' fr => L.opn = opn ∧ L.sz = sz ∧ (ro = false → e' = e) ∧ c'.size = L.lim ∧ L.base + (rowsL n k g).length ≤ L.lim ∧
      (∀ (i : Nat) (v : Value), (rowsL n k g)[i]? = some v → ∃ v', c'[L.base + i]? = some v' ∧ VR ρ v v') ∧
      (ro = false → fr.1 = fr.2 ∨ L.lim ≤ fr.1) ∧ (opn = false → L.base = 0 ∧ L.lim = (rowsL n k g).length)
  | .map es k, .map es' k' => k' = k ∧ es'.size = es.length ∧ ∀ (i : Nat) (e : MapEntry), es[i]? = some e → ∃ e', es'[i]? = some e' ∧ e'.born = e.born ∧ VR ρ e.key e'.key ∧ VR ρ e.val e'.val
  | .iter s p, .stringIter s' p' => s' = s ∧ p' = p ∧ L.base = 0
  | .loop l, .loop l' => l'.state = l.state ∧ l'.pending = l.pending ∧ VRs ρ l.tmps l'.tmps ∧ l'.params = l.params ∧ l'.assign = l.assign ∧ l'.body = l.body ∧
      ∃ L, ρ l.defers = some L ∧ l'.defers = L.blk
  | .marks, .deferred ds => ds.map List.length = some 0
  | .miter m si sn la, .mapIter m' si' sn' la' => si' = si ∧ sn'.toList = sn ∧ la' = la ∧ L.base = 0 ∧ ∃ L', ρ m = some L' ∧ m' = some L'.blk
  | _, _ => False

theorem unfrozen {fr : Nat × Nat} {n j : Nat} (h : fr.1 = fr.2 ∨ n ≤ fr.1) (hj : j < n) : ¬ (fr.1 ≤ j ∧ j < fr.2) := by omega
theorem OR.mono {ρ ρ1 : Ren} (hs : ρ.le ρ1) {L : Loc} {o : MObj} {o' : Obj} (h : OR ρ L o o') : OR ρ1 L o o' := by
  cases o <;> cases o' <;> simp only [OR] at h ⊢
  · obtain ⟨h1, h2, h3, h4, h5, h6, h7⟩ := h
    exact ⟨h1, h2, h3, h4, h5, fun i v hi => let ⟨v', a, b⟩ := h6 i v hi; ⟨v', a, b.mono hs⟩, h7⟩
  · obtain ⟨h1, h2, h3, h4, h5, h6, h7⟩ := h
    exact ⟨h1, h2, h3, h4, h5, fun i v hi => let ⟨v', a, b⟩ := h6 i v hi; ⟨v', a, b.mono hs⟩, h7⟩
  · obtain ⟨h1, h2, h3⟩ := h
    exact ⟨h1, h2, fun i e hi => let ⟨e', a, b, c, d⟩ := h3 i e hi; ⟨e', a, b, c.mono hs, d.mono hs⟩⟩
  · exact h
  · obtain ⟨h1, h2, h4, h5, h6, h7, L', h8, h9⟩ := h
    exact ⟨h1, h2, h4.mono hs, h5, h6, h7, L', hs _ _ h8, h9⟩
  · exact h
  · obtain ⟨h1, h2, h3, h6, L', h4, h5⟩ := h
    exact ⟨h1, h2, h3, h6, L', hs _ _ h4, h5⟩

inductive Tri where
  | leaf
  | one (o : MObj)
  | node (l r : Tri)
def Tri.left : Tri → Tri
  | .node l _ => l
  | _ => .leaf
def Tri.right : Tri → Tri
  | .node _ r => r
  | _ => .leaf
def lookT : Nat → Tri → Nat → MObj
  | 0, t, _ => match t with
    | .one o => o
    | _ => .hole
  | h + 1, t, n => match t with
    | .node l r => match Nat.ble (2 ^ h) n with
      | true => lookT h r (n - 2 ^ h)
      | false => lookT h l n
    | _ => .hole
def setT : Nat → Tri → Nat → MObj → Tri
  | 0, _, _, x => .one x
  | h + 1, t, n, x => match Nat.ble (2 ^ h) n with
    | true => .node t.left (setT h t.right (n - 2 ^ h) x)
    | false => .node (setT h t.left n x) t.right
def cutT : Nat → Tri → Nat → Tri
  | 0, t, lo => match Nat.ble 1 lo with
    | true => t
    | false => .leaf
  | h + 1, t, lo => match t with
    | .node l r => match Nat.ble (2 ^ h) lo with
      | true => .node l (cutT h r (lo - 2 ^ h))
      | false => .node (cutT h l lo) .leaf
    | _ => .leaf
theorem ble_no {a b : Nat} (h : Nat.ble a b = false) : b < a := by
  rcases Nat.lt_or_ge b a with c | c
  · exact c
  · rw [Nat.ble_eq_true_of_le c] at h; cases h
theorem lookT_node (h : Nat) (t : Tri) (n : Nat) : lookT (h + 1) t n = match Nat.ble (2 ^ h) n with
    | true => lookT h t.right (n - 2 ^ h)
    | false => lookT h t.left n := by
  have e : ∀ h n, lookT h .leaf n = .hole := fun h n => by cases h <;> rfl
  cases t with
  | node l r => rfl
  | _ => simp only [lookT, Tri.left, Tri.right, e]; split <;> rfl
theorem look_set_same : ∀ (h : Nat) (t : Tri) (n : Nat) (x : MObj), lookT h (setT h t n x) n = x
  | 0, t, n, x => rfl
  | h + 1, t, n, x => by
    rw [lookT_node]
    simp only [setT]
    cases hb : Nat.ble (2 ^ h) n with
    | true => exact look_set_same h _ _ x
    | false => exact look_set_same h _ _ x
theorem look_set_other : ∀ (h : Nat) (t : Tri) (n m : Nat) (x : MObj), n < 2 ^ h → m < 2 ^ h → n ≠ m → lookT h (setT h t n x) m = lookT h t m
  | 0, t, n, m, x, h1, h2, hne => absurd (by simp at h1 h2; omega) hne
  | h + 1, t, n, m, x, h1, h2, hne => by
    rw [lookT_node, lookT_node]
    simp only [setT]
    rw [Nat.pow_succ] at h1 h2
    cases hn : Nat.ble (2 ^ h) n with
    | true =>
      have hn' := Nat.le_of_ble_eq_true hn
      cases hm : Nat.ble (2 ^ h) m with
      | true =>
        have hm' := Nat.le_of_ble_eq_true hm
        exact look_set_other h _ _ _ x (by omega) (by omega) (by omega)
      | false => rfl
    | false =>
      have hn' := ble_no hn
      cases hm : Nat.ble (2 ^ h) m with
      | true => rfl
      | false => exact look_set_other h _ _ _ x hn' (ble_no hm) hne
theorem look_cut : ∀ (h : Nat) (t : Tri) (lo m : Nat), m < 2 ^ h → lookT h (cutT h t lo) m = if m < lo then lookT h t m else .hole
  | 0, t, lo, m, h1 => by
    simp at h1
    subst h1
    simp only [cutT]
    cases hb : Nat.ble 1 lo with
    | true => rw [if_pos (show 0 < lo from Nat.le_of_ble_eq_true hb)]
    | false => rw [if_neg (show ¬ 0 < lo by have := ble_no hb; omega)]; rfl
  | h + 1, t, lo, m, h1 => by
    rw [Nat.pow_succ] at h1
    have e : ∀ h n, lookT h .leaf n = .hole := fun h n => by cases h <;> rfl
    cases t with
    | node l r =>
      simp only [cutT]
      rw [lookT_node (t := .node l r)]
      cases hl : Nat.ble (2 ^ h) lo with
      | true =>
        have hl' := Nat.le_of_ble_eq_true hl
        rw [lookT_node]
        cases hm : Nat.ble (2 ^ h) m with
        | true =>
          have hm' := Nat.le_of_ble_eq_true hm
          simp only [Tri.right]
          rw [look_cut h r _ _ (by omega)]
          by_cases c : m < lo
          · rw [if_pos c, if_pos (by omega)]
          · rw [if_neg c, if_neg (by omega)]
        | false =>
          have hm' := ble_no hm
          rw [if_pos (by omega)]
          rfl
      | false =>
        have hl' := ble_no hl
        rw [lookT_node]
        cases hm : Nat.ble (2 ^ h) m with
        | true =>
          have hm' := Nat.le_of_ble_eq_true hm
          rw [if_neg (by omega)]
          exact e _ _
        | false =>
          simp only [Tri.left]
          exact look_cut h l lo m (ble_no hm)
    | leaf => simp only [cutT, e]; split <;> rfl
    | one o => simp only [cutT, e]; split <;> rfl

def look : List (Nat × MObj) → Nat → MObj
  | [], _ => .hole
  | (m, o) :: l, n => match Nat.beq m n with
    | true => o
    | false => look l n
structure St where
  next : Nat
  heap : Tri
  over : List (Nat × MObj)
abbrev HT : Nat := 22
def St.get (s : St) (n : Nat) : MObj := match Nat.ble (n + 1) s.next with
  | true => match Nat.ble (n + 1) (2 ^ HT) with
    | true => lookT HT s.heap n
    | false => look s.over n
  | false => .hole
def sH (t : Tri) (n : Nat) (o : MObj) : Tri := match Nat.ble (n + 1) (2 ^ HT) with
  | true => setT HT t n o
  | false => t
def sO (l : List (Nat × MObj)) (n : Nat) (o : MObj) : List (Nat × MObj) := match Nat.ble (n + 1) (2 ^ HT) with
  | true => l
  | false => (n, o) :: l
def St.push (s : St) (o : MObj) : St := ⟨s.next + 1, sH s.heap s.next o, sO s.over s.next o⟩
def St.put (s : St) (n : Nat) (o : MObj) : St := ⟨s.next, sH s.heap n o, sO s.over n o⟩
def St.raw (s : St) (n : Nat) : MObj := match Nat.ble (n + 1) (2 ^ HT) with
  | true => lookT HT s.heap n
  | false => look s.over n
theorem St.get_lt {s : St} {n : Nat} (h : n < s.next) : s.get n = s.raw n := by
  unfold St.get St.raw
  rw [Nat.ble_eq_true_of_le h]
theorem St.get_ge {s : St} {n : Nat} (h : s.next ≤ n) : s.get n = .hole := by
  unfold St.get
  have : Nat.ble (n + 1) s.next = false := by
    cases hb : Nat.ble (n + 1) s.next with
    | false => rfl
    | true => have := Nat.le_of_ble_eq_true hb; omega
  rw [this]
theorem raw_set_same (t : Tri) (l : List (Nat × MObj)) (k n : Nat) (o : MObj) : St.raw ⟨k, sH t n o, sO l n o⟩ n = o := by
  unfold St.raw sH sO
  cases hb : Nat.ble (n + 1) (2 ^ HT) with
  | true => exact look_set_same HT _ _ _
  | false => simp only [look, Nat.beq_refl]
theorem raw_set_other (t : Tri) (l : List (Nat × MObj)) (k k' n m : Nat) (o : MObj) (h : n ≠ m) : St.raw ⟨k, sH t n o, sO l n o⟩ m = St.raw ⟨k', t, l⟩ m := by
  unfold St.raw sH sO
  cases hb : Nat.ble (n + 1) (2 ^ HT) with
  | true =>
    cases hm : Nat.ble (m + 1) (2 ^ HT) with
    | true => exact look_set_other HT _ _ _ _ (Nat.le_of_ble_eq_true hb) (Nat.le_of_ble_eq_true hm) h
    | false => rfl
  | false =>
    have hq : Nat.beq n m = false := by
      cases hc : Nat.beq n m with
      | false => rfl
      | true => exact absurd (Nat.eq_of_beq_eq_true hc) h
    cases hm : Nat.ble (m + 1) (2 ^ HT) with
    | true => rfl
    | false => simp only [look, hq]
theorem St.get_push_new (s : St) (o : MObj) : (s.push o).get s.next = o := by
  rw [St.get_lt (show s.next < (s.push o).next from Nat.lt_succ_self _)]
  exact raw_set_same _ _ _ _ _
theorem St.get_push_old (s : St) (o : MObj) (n : Nat) (h : n < s.next) : (s.push o).get n = s.get n := by
  rw [St.get_lt (show n < (s.push o).next from Nat.lt_succ_of_lt h), St.get_lt h]
  exact raw_set_other _ _ _ s.next _ _ _ (by omega)
theorem St.get_put_same (s : St) (n : Nat) (o : MObj) (h : s.get n ≠ .hole) : (s.put n o).get n = o := by
  by_cases hn : n < s.next
  · rw [St.get_lt (show n < (s.put n o).next from hn)]
    exact raw_set_same _ _ _ _ _
  · exact absurd (St.get_ge (by omega)) h
theorem St.get_put_other (s : St) (n m : Nat) (o : MObj) (hn : n < s.next) (h : n ≠ m) : (s.put n o).get m = s.get m := by
  by_cases hm : m < s.next
  · rw [St.get_lt (show m < (s.put n o).next from hm), St.get_lt hm]
    exact raw_set_other _ _ _ s.next _ _ _ h
  · rw [St.get_ge (show (s.put n o).next ≤ m from Nat.le_of_not_lt hm), St.get_ge (by omega)]
def St.gc (s s1 : St) : St := ⟨s1.next, cutT HT s.heap s.next, s.over.filter fun p => Nat.ble (p.1 + 1) s.next⟩
theorem look_filter (lo n : Nat) : ∀ (l : List (Nat × MObj)), look (l.filter fun p => Nat.ble (p.1 + 1) lo) n = if n < lo then look l n else .hole
  | [] => by simp [look]
  | (m, o) :: l => by
    rw [List.filter_cons]
    cases hb : Nat.ble (m + 1) lo with
    | true =>
      have hle : m < lo := Nat.le_of_ble_eq_true hb
      simp only [hb, if_true, look]
      cases hc : Nat.beq m n with
      | true => rw [if_pos (by have := Nat.eq_of_beq_eq_true hc; omega)]
      | false => exact look_filter lo n l
    | false =>
      have hle := ble_no hb
      simp only [hb, Bool.false_eq_true, if_false, look]
      rw [look_filter lo n l]
      cases hc : Nat.beq m n with
      | true => rw [if_neg (by have := Nat.eq_of_beq_eq_true hc; omega), if_neg (by have := Nat.eq_of_beq_eq_true hc; omega)]
      | false => rfl
theorem St.gc_get {s s1 : St} (h : s.next ≤ s1.next) (b : Nat) : (s.gc s1).get b = if b < s.next then s.get b else .hole := by
  by_cases c : b < s1.next
  · rw [St.get_lt (show b < (s.gc s1).next from c)]
    have key : (s.gc s1).raw b = if b < s.next then s.raw b else .hole := by
      unfold St.raw St.gc
      simp only
      cases hb : Nat.ble (b + 1) (2 ^ HT) with
      | true => exact look_cut HT _ _ _ (Nat.le_of_ble_eq_true hb)
      | false => exact look_filter _ _ _
    rw [key]
    by_cases c2 : b < s.next
    · rw [if_pos c2, if_pos c2, St.get_lt c2]
    · rw [if_neg c2, if_neg c2]
  · rw [St.get_ge (show (s.gc s1).next ≤ b from Nat.le_of_not_lt c), if_neg (by omega)]
theorem St.get_beyond (s : St) (n : Nat) (h : s.next ≤ n) : s.get n = .hole := St.get_ge h
theorem St.lt_of_live {s : St} {n : Nat} (h : s.get n ≠ .hole) : n < s.next := by
  rcases Nat.lt_or_ge n s.next with g | g
  · exact g
  · exact absurd (s.get_beyond n g) h

def roO : MObj → Bool
  | .cells _ _ opn sz ro => ro && opn && Nat.beq sz 0
  | .rows _ _ _ _ opn sz ro => ro && opn && Nat.beq sz 0
  | _ => false
def WRel (ρ : Ren) (C : Nat → MObj) (w : World) : Prop :=
  (∀ b, C b ≠ .hole → ∃ L o', ρ b = some L ∧ w.heap[L.blk]? = some o' ∧ OR ρ L (C b) o') ∧
  (∀ b b' L L', C b ≠ .hole → C b' ≠ .hole → (roO (C b) && roO (C b')) = false → ρ b = some L → ρ b' = some L' → L.blk = L'.blk → b = b')

def upd (C : Nat → MObj) (s s1 : St) (W : Nat) : Nat → MObj := fun b => if (s.next ≤ b ∧ b < s1.next) ∨ (W.testBit b = true ∧ b < s.next) then s1.get b else C b

structure Post (ρ : Ren) (s s1 : St) (W : Nat) (w : World) (ρ1 : Ren) (w1 : World) : Prop where
  sub : ρ.le ρ1
  dom : ∀ b, ρ1 b ≠ ρ b → s.next ≤ b ∧ b < s1.next
  fresh : ∀ b L, ρ b = none → ρ1 b = some L → w.heap.size ≤ L.blk ∨ ∃ b0 L0, W.testBit b0 = true ∧ b0 < s.next ∧ ρ b0 = some L0 ∧ L0.blk = L.blk
  size : w.heap.size ≤ w1.heap.size
  frame : ∀ x, x < w.heap.size → (∀ b L, W.testBit b = true → b < s.next → ρ b = some L → L.blk ≠ x) → w1.heap[x]? = w.heap[x]?
  os : w1.os = w.os
  tape : w1.tape = w.tape
  output : w1.output = w.output

def Stat (s s1 : St) (W : Nat) : Prop := s.next ≤ s1.next ∧ ∀ b, b < s.next → W.testBit b = false → s1.get b = s.get b

theorem Stat.refl (s : St) : Stat s s 0 := ⟨Nat.le_refl _, fun _ _ _ => rfl⟩
theorem or_bit {a b n : Nat} : (a ||| b).testBit n = (a.testBit n || b.testBit n) := Nat.testBit_or a b n
theorem Stat.trans {s s1 s2 : St} {W1 W2 : Nat} (h : Stat s s1 W1) (g : Stat s1 s2 W2) : Stat s s2 (W1 ||| W2) :=
  ⟨Nat.le_trans h.1 g.1, fun b hb hw => by
    rw [or_bit, Bool.or_eq_false_iff] at hw
    rw [g.2 b (Nat.lt_of_lt_of_le hb h.1) hw.2, h.2 b hb hw.1]⟩

theorem upd_trans (C : Nat → MObj) {s s1 s2 : St} {W1 W2 : Nat} (h : Stat s s1 W1) (g : Stat s1 s2 W2) :
    upd (upd C s s1 W1) s1 s2 W2 = upd C s s2 (W1 ||| W2) := by
  funext b
  have h1 := h.1
  have g1 := g.1
  simp only [upd, or_bit, Bool.or_eq_true]
  by_cases c1 : s1.next ≤ b
  · by_cases c2 : b < s2.next
    · rw [if_pos (.inl ⟨c1, c2⟩), if_pos (.inl ⟨by omega, c2⟩)]
    · rw [if_neg (by rintro (h | h) <;> omega), if_neg (by rintro (h | h) <;> omega), if_neg (by rintro (h | h) <;> omega)]
  · by_cases c3 : s.next ≤ b
    · by_cases c4 : W2.testBit b = true
      · rw [if_pos (.inr ⟨c4, by omega⟩), if_pos (.inl ⟨c3, by omega⟩)]
      · rw [if_neg (by rintro (h | h); omega; exact c4 h.1), if_pos (.inl ⟨c3, by omega⟩), if_pos (.inl ⟨c3, by omega⟩)]
        exact (g.2 b (by omega) (by simpa using c4)).symm
    · by_cases c4 : W2.testBit b = true
      · rw [if_pos (.inr ⟨c4, by omega⟩), if_pos (.inr ⟨.inr c4, by omega⟩)]
      · rw [if_neg (by rintro (h | h); omega; exact c4 h.1)]
        by_cases c5 : W1.testBit b = true
        · rw [if_pos (.inr ⟨c5, by omega⟩), if_pos (.inr ⟨.inl c5, by omega⟩)]
          exact (g.2 b (by omega) (by simpa using c4)).symm
        · rw [if_neg (by rintro (h | h); omega; exact c5 h.1), if_neg (by rintro (h | ⟨h | h, _⟩); omega; exact c5 h; exact c4 h)]

theorem Post.refl (ρ : Ren) (s : St) (w : World) : Post ρ s s 0 w ρ w :=
  ⟨Ren.le_refl _, fun b h => absurd rfl h, fun b L h g => (by rw [h] at g; cases g), Nat.le_refl _, fun _ _ _ => rfl, rfl, rfl, rfl⟩

theorem Post.trans {ρ ρ1 ρ2 : Ren} {s s1 s2 : St} {W1 W2 : Nat} {w w1 w2 : World} (hS : Stat s s1 W1) (gS : Stat s1 s2 W2) (hN : ∀ b, s.next ≤ b → b < s1.next → ρ b = none)
    (h : Post ρ s s1 W1 w ρ1 w1) (g : Post ρ1 s1 s2 W2 w1 ρ2 w2) : Post ρ s s2 (W1 ||| W2) w ρ2 w2 := by
  have h1 := hS.1
  have g1 := gS.1
  have old : ∀ b, b < s.next → ρ1 b = ρ b := fun b hb => by
    by_cases e : ρ1 b = ρ b
    · exact e
    · have := h.dom b e; omega
  have bits : ∀ b, W1.testBit b = true ∨ W2.testBit b = true → (W1 ||| W2).testBit b = true := fun b hb => by rw [or_bit, Bool.or_eq_true]; exact hb
  refine ⟨Ren.le_trans h.sub g.sub, fun b hb => ?_, fun b L hb hL => ?_, Nat.le_trans h.size g.size, fun x hx hf => ?_, g.os.trans h.os, g.tape.trans h.tape, g.output.trans h.output⟩
  · by_cases e : ρ1 b = ρ b
    · have := g.dom b (by rw [e]; exact hb); omega
    · have := h.dom b e; omega
  · cases e : ρ1 b with
    | some L' =>
      have e2 := g.sub b L' e
      rw [hL] at e2
      cases e2
      rcases h.fresh b L hb e with k | ⟨b0, L0, k1, k2, k3, k4⟩
      · exact .inl k
      · exact .inr ⟨b0, L0, bits _ (.inl k1), k2, k3, k4⟩
    | none =>
      rcases g.fresh b L e hL with k | ⟨b0, L0, k1, k2, k3, k4⟩
      · exact .inl (Nat.le_trans h.size k)
      · by_cases c : b0 < s.next
        · exact .inr ⟨b0, L0, bits _ (.inr k1), c, (old b0 c) ▸ k3, k4⟩
        · rcases h.fresh b0 L0 (hN b0 (by omega) k2) k3 with m | ⟨b1, L1, m1, m2, m3, m4⟩
          · exact .inl (by omega)
          · exact .inr ⟨b1, L1, bits _ (.inl m1), m2, m3, m4.trans k4⟩
  · have a : w1.heap[x]? = w.heap[x]? := h.frame x hx fun b L hb hlt hL => hf b L (bits _ (.inl hb)) hlt hL
    rw [← a]
    refine g.frame x (Nat.lt_of_lt_of_le hx h.size) fun b L hb hlt hL => ?_
    by_cases c : b < s.next
    · exact hf b L (bits _ (.inr hb)) c ((old b c) ▸ hL)
    · rcases h.fresh b L (hN b (by omega) hlt) hL with m | ⟨b1, L1, m1, m2, m3, m4⟩
      · omega
      · rw [← m4]; exact hf b1 L1 (bits _ (.inl m1)) m2 m3

end Mini
end Go.Proofs.YtbkpnhbcihcgaaaGreatDoor
end
section
namespace Go.Proofs.YtbkpnhbcihcgaaaGreatDoor
set_option linter.all false
namespace Mini

def Fw (ro : Option Nat) : Fence := { Fence.wide with round := ro }
theorem Fw_fn (ro : Option Nat) (f : FuncId) : (Fw ro).fn f := trivial
def RoR (ρ : Ren) : Option Nat → Option Nat → Prop
  | none, none => True
  | some l, some l' => ∃ L, ρ l = some L ∧ L.blk = l'
  | _, _ => False
theorem RoR.mono {ρ ρ1 : Ren} (hs : ρ.le ρ1) : ∀ {a b : Option Nat}, RoR ρ a b → RoR ρ1 a b
  | none, none, _ => trivial
  | some l, some l', ⟨L, h, e⟩ => ⟨L, hs _ _ h, e⟩
  | none, some _, h => h.elim
  | some _, none, h => h.elim

def mark (r : Nat) : Deferred := { target := .collected r, args := #[] }
def DR (ρ : Ren) : List Deferred → List Deferred → Prop
  | [], [] => True
  | d :: ds, d' :: ds' => (∃ r L, d = mark r ∧ ρ r = some L ∧ d' = mark L.blk) ∧ DR ρ ds ds'
  | _, _ => False
theorem DR.mono {ρ ρ1 : Ren} (hs : ρ.le ρ1) : ∀ {a b : List Deferred}, DR ρ a b → DR ρ1 a b
  | [], [], _ => trivial
  | _ :: _, _ :: _, ⟨⟨r, L, h1, h2, h3⟩, h⟩ => ⟨⟨r, L, h1, hs _ _ h2, h3⟩, h.mono hs⟩
  | [], _ :: _, h => h.elim
  | _ :: _, [], h => h.elim

structure AR (ρ : Ren) (a a' : Act) : Prop where
  tmps : VRs ρ a.tmps a'.tmps
  defs : DR ρ a.defers a'.defers
theorem AR.mono {ρ ρ1 : Ren} (hs : ρ.le ρ1) {a a' : Act} (h : AR ρ a a') : AR ρ1 a a' := ⟨h.tmps.mono hs, h.defs.mono hs⟩

def Glob (P : Program) (ρ : Ren) : Prop := ∀ g, g < P.globals.size → ∃ L, ρ g = some L ∧ L.blk = g ∧ L.base = 0
theorem Glob.mono {P : Program} {ρ ρ1 : Ren} (hs : ρ.le ρ1) (h : Glob P ρ) : Glob P ρ1 := fun g hg => let ⟨L, a, b⟩ := h g hg; ⟨L, hs _ _ a, b⟩

theorem undef_vr (ρ : Ren) : VR ρ undef undef := .tuple #[] #[] rfl (fun i v v' h => by simp at h)
theorem VRs.getD {ρ : Ren} {a b : Array Value} (h : VRs ρ a b) (t : Nat) : VR ρ (a.getD t undef) (b.getD t undef) := by
  by_cases ht : t < a.size
  · have hb : t < b.size := h.1 ▸ ht
    have e1 : a[t]? = some a[t] := Array.getElem?_eq_getElem ht
    have e2 : b[t]? = some b[t] := Array.getElem?_eq_getElem hb
    have g1 : a.getD t undef = a[t] := by simp [Array.getD, ht]
    have g2 : b.getD t undef = b[t] := by simp [Array.getD, hb]
    rw [g1, g2]
    exact h.2 t _ _ e1 e2
  · have hb : ¬ t < b.size := h.1 ▸ ht
    have g1 : a.getD t undef = undef := by simp [Array.getD, ht]
    have g2 : b.getD t undef = undef := by simp [Array.getD, hb]
    rw [g1, g2]
    exact undef_vr ρ
theorem VRs.set {ρ : Ren} {a b : Array Value} (h : VRs ρ a b) (t : Nat) {v v' : Value} (hv : VR ρ v v') : VRs ρ (a.setIfInBounds t v) (b.setIfInBounds t v') := by
  refine ⟨by simp [h.1], fun i x x' h1 h2 => ?_⟩
  by_cases e : t = i
  · subst e
    by_cases ht : t < a.size
    · have hb : t < b.size := h.1 ▸ ht
      simp [Array.getElem?_setIfInBounds, ht] at h1
      simp [Array.getElem?_setIfInBounds, hb] at h2
      rw [← h1, ← h2]; exact hv
    · simp [Array.getElem?_setIfInBounds, ht] at h1
  · simp [Array.getElem?_setIfInBounds, e] at h1 h2
    exact h.2 i _ _ h1 h2
theorem AR.put {ρ : Ren} {a a' : Act} (h : AR ρ a a') (d : Option Tmp) {v v' : Value} (hv : VR ρ v v') : AR ρ (a.put d v) (a'.put d v') := by
  cases d with
  | none => exact h
  | some d => exact ⟨h.tmps.set d hv, h.defs⟩

def okOp (P : Program) : Operand → Bool
  | .tmp _ => true
  | .const v => ground 8 v
  | .global g => decide (g < P.globals.size)
  | .func _ => true
theorem okOp_vr {P : Program} {ρ : Ren} (hG : Glob P ρ) {a a' : Act} (ha : VRs ρ a.tmps a'.tmps) {x : Operand} (hx : okOp P x = true) : VR ρ (a.eval x) (a'.eval x) := by
  cases x with
  | tmp t => exact ha.getD t
  | const v => exact ground_refl 8 hx
  | global g =>
    simp only [okOp, decide_eq_true_eq] at hx
    obtain ⟨L, h1, h2, h3⟩ := hG g hx
    have h := VR.ptr g 0 L h1
    rw [h2, h3] at h
    exact h
  | func f => exact .func _ _ _ _ _ rfl rfl rfl (fun i v v' h => by simp at h) (fun i v v' h => by simp at h)

abbrev Tr := Fence → Nat → (Exit → Act → World → Prop) → Act → World → Prop

structure Pre (P : Program) (rd : Option Nat) (s s1 : St) (R W : Nat) (ro : Option Nat) (ρ : Ren) (C : Nat → MObj) (w : World) : Prop where
  glob : Glob P ρ
  round : RoR ρ rd ro
  agree : ∀ b, (R ||| W).testBit b = true → b < s.next → C b = s.get b
  free : ∀ b, s.next ≤ b → b < s1.next → ρ b = none ∧ C b = .hole
  rel : WRel ρ C w

def Snd (P : Program) (rd : Option Nat) (T : Tr) (a : Act) (s : St) (e : Exit) (a1 : Act) (s1 : St) (R W : Nat) : Prop :=
  Stat s s1 W ∧ ∀ (n : Nat) (ro : Option Nat) (ρ : Ren) (C : Nat → MObj) (a' : Act) (w : World) (Q : Exit → Act → World → Prop), Pre P rd s s1 R W ro ρ C w → AR ρ a a' →
    (∀ ρ1 a1' w1, Post ρ s s1 W w ρ1 w1 → WRel ρ1 (upd C s s1 W) w1 → AR ρ1 a1 a1' → Q e a1' w1) → T (Fw ro) n Q a' w

theorem Pre.left {P : Program} {rd : Option Nat} {s s1 s2 : St} {R1 W1 R2 W2 : Nat} {ro : Option Nat} {ρ : Ren} {C : Nat → MObj} {w : World} (hS : Stat s1 s2 W2)
    (h : Pre P rd s s2 (R1 ||| R2) (W1 ||| W2) ro ρ C w) : Pre P rd s s1 R1 W1 ro ρ C w :=
  ⟨h.glob, h.round, fun b hb hlt => h.agree b (by simp only [or_bit, Bool.or_eq_true] at hb ⊢; rcases hb with h | h <;> simp [h]) hlt,
    fun b h1 h2 => h.free b h1 (Nat.lt_of_lt_of_le h2 hS.1), h.rel⟩

theorem Pre.right {P : Program} {rd : Option Nat} {s s1 s2 : St} {R1 W1 R2 W2 : Nat} {ro : Option Nat} {ρ ρ1 : Ren} {C : Nat → MObj} {w w1 : World} (hS1 : Stat s s1 W1) (hS : Stat s1 s2 W2)
    (h : Pre P rd s s2 (R1 ||| R2) (W1 ||| W2) ro ρ C w) (hp : Post ρ s s1 W1 w ρ1 w1) (hr : WRel ρ1 (upd C s s1 W1) w1) : Pre P rd s1 s2 R2 W2 ro ρ1 (upd C s s1 W1) w1 := by
  have l1 := hS1.1
  refine ⟨h.glob.mono hp.sub, h.round.mono hp.sub, fun b hb hlt => ?_, fun b h1 h2 => ?_, hr⟩
  · by_cases c : s.next ≤ b
    · exact if_pos (.inl ⟨c, hlt⟩)
    · by_cases c2 : W1.testBit b = true
      · exact if_pos (.inr ⟨c2, by omega⟩)
      · have e1 : upd C s s1 W1 b = C b := if_neg (by rintro (k | k); omega; exact c2 k.1)
        rw [e1, h.agree b (by simp only [or_bit, Bool.or_eq_true] at hb ⊢; rcases hb with k | k <;> simp [k]) (by omega)]
        exact (hS1.2 b (by omega) (by simpa using c2)).symm
  · obtain ⟨k1, k2⟩ := h.free b (by omega) h2
    refine ⟨?_, ?_⟩
    · by_cases e : ρ1 b = ρ b
      · rw [e]; exact k1
      · have := hp.dom b e; omega
    · rw [show upd C s s1 W1 b = C b from if_neg (by rintro (k | k) <;> omega)]; exact k2

theorem Snd.bind {P : Program} {rd : Option Nat} {T1 T2 T : Tr} (hT : ∀ F n Q a w, T1 F n (Exit.then (T2 F n Q) Q) a w → T F n Q a w) {a a1 a2 : Act} {s s1 s2 : St} {e : Exit} {R1 W1 R2 W2 : Nat}
    (h : Snd P rd T1 a s .normal a1 s1 R1 W1) (g : Snd P rd T2 a1 s1 e a2 s2 R2 W2) : Snd P rd T a s e a2 s2 (R1 ||| R2) (W1 ||| W2) := by
  obtain ⟨hS, h⟩ := h
  obtain ⟨gS, g⟩ := g
  refine ⟨hS.trans gS, fun n ro ρ C a' w Q hp ha hQ => hT _ _ _ _ _ ?_⟩
  refine h n ro ρ C a' w _ (hp.left gS) ha fun ρ1 a1' w1 p1 r1 ha1 => ?_
  show T2 (Fw ro) n Q a1' w1
  refine g n ro ρ1 _ a1' w1 Q (hp.right hS gS p1 r1) ha1 fun ρ2 a2' w2 p2 r2 ha2 => ?_
  refine hQ ρ2 a2' w2 (p1.trans hS gS (fun b k1 k2 => (hp.free b k1 (Nat.lt_of_lt_of_le k2 gS.1)).1) p2) ?_ ha2
  rw [upd_trans C hS gS] at r2
  exact r2

theorem Snd.stop {P : Program} {rd : Option Nat} {T1 T : Tr} {K : Fence → Nat → (Exit → Act → World → Prop) → Act → World → Prop} (hT : ∀ F n Q a w, T1 F n (Exit.then (K F n Q) Q) a w → T F n Q a w)
    {a a1 : Act} {s s1 : St} {e : Exit} {R W : Nat} (he : e ≠ .normal) (h : Snd P rd T1 a s e a1 s1 R W) : Snd P rd T a s e a1 s1 R W := by
  obtain ⟨hS, h⟩ := h
  refine ⟨hS, fun n ro ρ C a' w Q hp ha hQ => hT _ _ _ _ _ ?_⟩
  refine h n ro ρ C a' w _ hp ha fun ρ1 a1' w1 p1 r1 ha1 => ?_
  have := hQ ρ1 a1' w1 p1 r1 ha1
  cases e with
  | normal => exact absurd rfl he
  | _ => exact this

theorem Snd.map {P : Program} {rd : Option Nat} {T1 T : Tr} {a a1 : Act} {s s1 : St} {e e' : Exit} {R W : Nat}
    (hT : ∀ F n Q a w, T1 F n (fun x b v => x = e → Q e' b v) a w → T F n Q a w) (h : Snd P rd T1 a s e a1 s1 R W) : Snd P rd T a s e' a1 s1 R W := by
  obtain ⟨hS, h⟩ := h
  exact ⟨hS, fun n ro ρ C a' w Q hp ha hQ => hT _ _ _ _ _ (h n ro ρ C a' w _ hp ha fun ρ1 a1' w1 p1 r1 ha1 _ => hQ ρ1 a1' w1 p1 r1 ha1)⟩

theorem Snd.still {P : Program} {rd : Option Nat} {T : Tr} {a : Act} {s : St} {e : Exit} (hT : ∀ F n Q a w, Q e a w → T F n Q a w) : Snd P rd T a s e a s 0 0 :=
  ⟨Stat.refl s, fun n ro ρ C a' w Q hp ha hQ => hT _ _ _ _ _ (hQ ρ a' w (Post.refl ρ s w) (by
    rw [show upd C s s 0 = C from funext fun b => if_neg (by rintro (h | h); omega; simp at h)]; exact hp.rel) ha)⟩

theorem Snd.weaken {P : Program} {rd : Option Nat} {T : Tr} {a a1 : Act} {s s1 : St} {e : Exit} {R R' W : Nat} (h : Snd P rd T a s e a1 s1 R W) (hR : ∀ b, R.testBit b = true → R'.testBit b = true) : Snd P rd T a s e a1 s1 R' W :=
  ⟨h.1, fun n ro ρ C a' w Q hp ha hQ => h.2 n ro ρ C a' w Q ⟨hp.glob, hp.round, fun b hb hlt => hp.agree b (by
    simp only [or_bit, Bool.or_eq_true] at hb ⊢; rcases hb with k | k
    · exact .inl (hR b k)
    · exact .inr k) hlt, hp.free, hp.rel⟩ ha hQ⟩

def TC (P : Program) (c : Code) : Tr := fun F n Q a w => c.wpIn F n P Q a w
abbrev SndC (P : Program) (rd : Option Nat) (c : Code) := Snd P rd (TC P c)

section
variable {P : Program} {rd : Option Nat} {a a1 a2 : Act} {s s1 s2 : St} {e : Exit} {R W R1 W1 R2 W2 : Nat}
theorem sndC_skip : SndC P rd .skip a s .normal a s 0 0 := Snd.still fun _ _ _ _ _ h => wpIn_skip h
theorem sndC_label {l : Nat} : SndC P rd (.label l) a s .normal a s 0 0 := Snd.still fun _ _ _ _ _ h => wpIn_label h
theorem sndC_exit {l : Nat} : SndC P rd (.exit l) a s (.exit l) a s 0 0 := Snd.still fun _ _ _ _ _ h => wpIn_exit h
theorem sndC_ret : SndC P rd .ret a s .ret a s 0 0 := Snd.still fun _ _ _ _ _ h => wpIn_ret h
theorem sndC_seq {x y : Code} (h : SndC P rd x a s .normal a1 s1 R1 W1) (g : SndC P rd y a1 s1 e a2 s2 R2 W2) : SndC P rd (.seq x y) a s e a2 s2 (R1 ||| R2) (W1 ||| W2) :=
  Snd.bind (fun _ _ _ _ _ h => wpIn_seq h) h g
theorem sndC_seq_stop {x y : Code} (he : e ≠ .normal) (h : SndC P rd x a s e a1 s1 R W) : SndC P rd (.seq x y) a s e a1 s1 R W :=
  Snd.stop (K := fun F n Q a w => y.wpIn F n P Q a w) (fun _ _ _ _ _ h => wpIn_seq h) he h
theorem sndC_cond {x y : Code} {c : Operand} {t : Bool} (hx : okOp P c = true) (hc : a.eval c = .bool t) (h : SndC P rd (if t then x else y) a s e a1 s1 R W) : SndC P rd (.cond c x y) a s e a1 s1 R W := by
  obtain ⟨hS, h⟩ := h
  refine ⟨hS, fun n ro ρ C a' w Q hp ha hQ => ?_⟩
  have hv := okOp_vr hp.glob ha.tmps hx
  rw [hc] at hv
  have he : a'.eval c = .bool t := by generalize a'.eval c = z at hv; cases hv; rfl
  exact wpIn_cond he (h n ro ρ C a' w Q hp ha hQ)
def outOf (id : Nat) : Exit → Exit
  | .exit i => if i = id then .normal else .exit i
  | x => x
theorem sndC_block {id : Nat} {c : Code} (h : SndC P rd c a s e a1 s1 R W) : SndC P rd (.block id c) a s (outOf id e) a1 s1 R W := by
  obtain ⟨hS, h⟩ := h
  refine ⟨hS, fun n ro ρ C a' w Q hp ha hQ => wpIn_block (h n ro ρ C a' w _ hp ha fun ρ1 a1' w1 p1 r1 ha1 => ?_)⟩
  have hq := hQ ρ1 a1' w1 p1 r1 ha1
  cases e with
  | exit i =>
    simp only [outOf] at hq
    simp only [Exit.inBlock]
    by_cases c : i = id
    · rw [if_pos c] at hq ⊢; exact hq
    · rw [if_neg c] at hq ⊢; exact hq
  | _ => exact hq

def LoopFrom (P : Program) (c : Code) : Tr := fun F n Q a w => ∀ (b : Frame) (k : List Item) (cs : List Frame), b.roundOf = F.round → F.fn b.fn → F.room (cs.length + 1 + n) →
    ∃ e a' w', Q e a' w' ∧ ArrivesIn (Machine.fenced P F) P (lone (b.atR a (.code c :: .inLoop c :: k)) cs w) b k cs e a' w'
theorem loopFrom_step {F : Fence} {n : Nat} {c : Code} {Q : Exit → Act → World → Prop} {a : Act} {w : World} (h : c.wpIn F n P (Exit.then (LoopFrom P c F n Q) Q) a w) : LoopFrom P c F n Q a w := by
  intro b k cs hro hb hr
  obtain ⟨e, a₁, w₁, hq, harr⟩ := h b (.inLoop c :: k) cs hro hb hr
  cases e with
  | normal =>
    obtain ⟨e₂, a₂, w₂, hq₂, harr₂⟩ := hq b k cs hro hb hr
    exact ⟨e₂, a₂, w₂, hq₂, .of_steps (StepsIn.trans harr (.one (fenced_calm hb hr rfl) stepR_inLoop)) harr₂⟩
  | exit id => exact ⟨_, a₁, w₁, hq, .pass (x := .inLoop c) rfl (fun _ _ => .inl (by simp)) harr⟩
  | goto l => exact ⟨_, a₁, w₁, hq, .pass (x := .inLoop c) rfl (fun _ _ => .inl (by simp)) harr⟩
  | ret => exact ⟨_, a₁, w₁, hq, .pass (x := .inLoop c) rfl (fun _ _ => .inl (by simp)) harr⟩
  | panic ch => exact ⟨_, a₁, w₁, hq, .pass (x := .inLoop c) rfl (fun _ _ => .inl (by simp)) harr⟩
  | outgrown => exact ⟨_, a₁, w₁, hq, .pass (x := .inLoop c) rfl (fun _ _ => .inl (by simp)) harr⟩
theorem loop_of_from {F : Fence} {n : Nat} {c : Code} {Q : Exit → Act → World → Prop} {a : Act} {w : World} (h : LoopFrom P c F n Q a w) : (Code.loop c).wpIn F n P Q a w := by
  intro b k cs hro hb hr
  obtain ⟨e, a', w', hq, harr⟩ := h b k cs hro hb hr
  exact ⟨e, a', w', hq, .of_steps (.one (fenced_calm hb hr rfl) stepR_loop) harr⟩
theorem snd_from_on {c : Code} (h : SndC P rd c a s .normal a1 s1 R1 W1) (g : Snd P rd (LoopFrom P c) a1 s1 e a2 s2 R2 W2) : Snd P rd (LoopFrom P c) a s e a2 s2 (R1 ||| R2) (W1 ||| W2) :=
  Snd.bind (fun _ _ _ _ _ h => loopFrom_step h) h g
theorem snd_from_stop {c : Code} (he : e ≠ .normal) (h : SndC P rd c a s e a1 s1 R W) : Snd P rd (LoopFrom P c) a s e a1 s1 R W :=
  Snd.stop (K := fun F n Q a w => LoopFrom P c F n Q a w) (fun _ _ _ _ _ h => loopFrom_step h) he h
theorem sndC_loop {c : Code} (h : Snd P rd (LoopFrom P c) a s e a1 s1 R W) : SndC P rd (.loop c) a s e a1 s1 R W :=
  ⟨h.1, fun n ro ρ C a' w Q hp ha hQ => loop_of_from (h.2 n ro ρ C a' w Q hp ha hQ)⟩

def SndO (P : Program) (rd : Option Nat) (o : Oper) (vals : Operand → Value) (s : St) (v : Value) (s1 : St) (R W : Nat) : Prop :=
  Stat s s1 W ∧ ∀ (n : Nat) (ro : Option Nat) (ρ : Ren) (C : Nat → MObj) (a' : Act) (w : World) (next : Act → World → Prop) (Q : Exit → Act → World → Prop), Pre P rd s s1 R W ro ρ C w →
    (∀ x, x ∈ o.op.operands → VR ρ (vals x) (a'.eval x)) →
    (∀ ρ1 v' w1, Post ρ s s1 W w ρ1 w1 → WRel ρ1 (upd C s s1 W) w1 → VR ρ1 v v' → next (a'.put o.dst v') w1) → o.wpIn (Fw ro) n P a' w next Q

def TOps (P : Program) (ops : Array Oper) (l : List Nat) : Tr := fun F n Q a w => wpOpsIn F n P ops Q l a w
def liveB : Value → Bool
  | .chan _ => false
  | _ => true
def guardOk (ops : Array Oper) (o : Oper) (t : Array Value) : Bool := match o.guard with
  | none => true
  | some (g, _) => match (ops[g]?).bind (·.dst) with
    | none => true
    | some d => liveB (t.getD d undef)
def okAll (P : Program) (ops : Array Oper) (o : Oper) (a : Act) : Bool := o.op.operands.toList.all (okOp P) && guardOk ops o a.tmps
theorem okAll_ops {ops : Array Oper} {o : Oper} (h : okAll P ops o a = true) : o.op.operands.toList.all (okOp P) = true := by
  simp only [okAll, Bool.and_eq_true] at h; exact h.1
theorem okAll_guard {ops : Array Oper} {o : Oper} (h : okAll P ops o a = true) : guardOk ops o a.tmps = true := by
  simp only [okAll, Bool.and_eq_true] at h; exact h.2
theorem wanted_congr {o : Oper} {y y' : Nat → Option Bool} (h : ∀ g b, o.guard = some (g, b) → y' g = y g) : Region.wanted o y' = Region.wanted o y := by
  unfold Region.wanted
  cases hg : o.guard with
  | none => rfl
  | some q => obtain ⟨g, b⟩ := q; simp only; rw [h g b hg]
theorem yielded_live {ρ : Ren} {ops : Array Oper} {t t' : Array Value} {j : Nat} (h : VRs ρ t t') (hs : ∀ d, (ops[j]?).bind (·.dst) = some d → liveB (t.getD d undef) = true) : yielded ops t' j = yielded ops t j := by
  unfold yielded
  cases hd : (ops[j]?).bind (·.dst) with
  | none => rfl
  | some d =>
    have hs := hs d hd
    simp only [Option.bind_some]
    rcases Nat.lt_or_ge d t.size with hd | hd
    · have hd' : d < t'.size := h.1 ▸ hd
      have e1 : t[d]? = some t[d] := Array.getElem?_eq_getElem hd
      have e2 : t'[d]? = some t'[d] := Array.getElem?_eq_getElem hd'
      have hv := h.2 d _ _ e1 e2
      rw [show t.getD d undef = t[d] from by simp [Array.getD, hd]] at hs
      rw [e1, e2]
      generalize t[d] = x at hv hs
      generalize t'[d] = y at hv
      cases hv <;> first | rfl | (simp [liveB] at hs)
    · rw [Array.getElem?_eq_none hd, Array.getElem?_eq_none (h.1 ▸ hd)]
theorem wanted_eq {ρ : Ren} {ops : Array Oper} {o : Oper} {t t' : Array Value} (h : VRs ρ t t') (hg : guardOk ops o t = true) : Region.wanted o (yielded ops t') = Region.wanted o (yielded ops t) :=
  wanted_congr fun g b e => yielded_live h fun d hd => by
    unfold guardOk at hg
    rw [e] at hg
    simp only at hg
    rw [hd] at hg
    exact hg

theorem snd_ops_nil {ops : Array Oper} : Snd P rd (TOps P ops []) a s .normal a s 0 0 := Snd.still fun _ _ _ _ _ h => h
theorem snd_ops_yes {ops : Array Oper} {i : Nat} {rest : List Nat} {o : Oper} {v : Value} (ho : ops[i]? = some o) (hw : Region.wanted o (yielded ops a.tmps) = true) (hx : okAll P ops o a = true)
    (h : SndO P rd o a.eval s v s1 R1 W1) (g : Snd P rd (TOps P ops rest) (a.put o.dst v) s1 e a2 s2 R2 W2) : Snd P rd (TOps P ops (i :: rest)) a s e a2 s2 (R1 ||| R2) (W1 ||| W2) := by
  obtain ⟨hS, h⟩ := h
  obtain ⟨gS, g⟩ := g
  refine ⟨hS.trans gS, fun n ro ρ C a' w Q hp ha hQ => ?_⟩
  show wpOpsIn (Fw ro) n P ops Q (i :: rest) a' w
  simp only [wpOpsIn, ho]
  rw [wanted_eq ha.tmps (okAll_guard hx), if_pos hw]
  have hx := okAll_ops hx
  refine h n ro ρ C a' w _ Q (hp.left gS) (fun x hm => okOp_vr hp.glob ha.tmps (by rw [List.all_eq_true] at hx; exact hx x (by simpa using hm))) fun ρ1 v' w1 p1 r1 hv => ?_
  refine g n ro ρ1 _ _ w1 Q (hp.right hS gS p1 r1) ((ha.mono p1.sub).put o.dst hv) fun ρ2 a2' w2 p2 r2 ha2 => ?_
  refine hQ ρ2 a2' w2 (p1.trans hS gS (fun b k1 k2 => (hp.free b k1 (Nat.lt_of_lt_of_le k2 gS.1)).1) p2) ?_ ha2
  rw [upd_trans C hS gS] at r2
  exact r2
theorem snd_ops_no {ops : Array Oper} {i : Nat} {rest : List Nat} {o : Oper} (ho : ops[i]? = some o) (hw : Region.wanted o (yielded ops a.tmps) = false) (hx : okAll P ops o a = true)
    (g : Snd P rd (TOps P ops rest) (a.put o.dst undef) s e a2 s2 R2 W2) : Snd P rd (TOps P ops (i :: rest)) a s e a2 s2 R2 W2 := by
  obtain ⟨gS, g⟩ := g
  refine ⟨gS, fun n ro ρ C a' w Q hp ha hQ => ?_⟩
  show wpOpsIn (Fw ro) n P ops Q (i :: rest) a' w
  simp only [wpOpsIn, ho]
  rw [wanted_eq ha.tmps (okAll_guard hx), if_neg (by rw [hw]; simp)]
  exact ⟨fun f _ => Fw_fn ro f, g n ro ρ C _ w Q hp (ha.put o.dst (undef_vr ρ)) hQ⟩
theorem sndC_region {id : Nat} {ops : Array Oper} (h : Snd P rd (TOps P ops (List.range ops.size)) a s e a1 s1 R W) : SndC P rd (.region id ops false) a s e a1 s1 R W :=
  ⟨h.1, fun n ro ρ C a' w Q hp ha hQ => wpIn_region (h.2 n ro ρ C a' w Q hp ha hQ)⟩
end
end Mini
end Go.Proofs.YtbkpnhbcihcgaaaGreatDoor
end
section
namespace Go.Proofs.YtbkpnhbcihcgaaaGreatDoor
set_option linter.all false
namespace Mini
variable {P : Program} {rd : Option Nat} {s s1 : St} {R W : Nat} {ro : Option Nat} {ρ : Ren} {C : Nat → MObj} {w : World}

theorem upd_zero (C : Nat → MObj) (s : St) : upd C s s 0 = C := funext fun b => if_neg (by rintro (h | h); omega; simp at h)

theorem sndO_of {o : Oper} {vals : Operand → Value} {v : Value} (hd : ∀ c, o.op ≠ .defer c) (hS : Stat s s1 W)
    (h : ∀ (ro : Option Nat) (ρ : Ren) (C : Nat → MObj) (ev : Operand → Value) (w : World), Pre P rd s s1 R W ro ρ C w → (∀ x, x ∈ o.op.operands → VR ρ (vals x) (ev x)) →
      ∃ ρ1 v' w1, ((execOp ev o).run P w = .ok (.value v') w1 ∨ ((execOp ev o).run P w = .ok .skip w1 ∧ v' = undef)) ∧ Post ρ s s1 W w ρ1 w1 ∧ WRel ρ1 (upd C s s1 W) w1 ∧ VR ρ1 v v') :
    SndO P rd o vals s v s1 R W := by
  refine ⟨hS, fun n ro ρ C a' w next Q hp hv hn => ?_⟩
  obtain ⟨ρ1, v', w1, hr, p1, r1, h1⟩ := h ro ρ C a'.eval w hp hv
  refine ⟨fun f _ => Fw_fn ro f, ?_⟩
  rw [Oper.semAt_eq _ _ _ hd]
  rcases hr with hr | ⟨hr, rfl⟩
  · rw [hr]; exact hn ρ1 v' w1 p1 r1 h1
  · rw [hr]; exact hn ρ1 undef w1 p1 r1 h1

theorem sndO_still {o : Oper} {vals : Operand → Value} {v : Value} (hd : ∀ c, o.op ≠ .defer c)
    (h : ∀ (ρ : Ren) (C : Nat → MObj) (ev : Operand → Value) (w : World), Glob P ρ → (∀ b, R.testBit b = true → b < s.next → C b = s.get b) → WRel ρ C w → (∀ x, x ∈ o.op.operands → VR ρ (vals x) (ev x)) →
      ∃ v', (execOp ev o).run P w = .ok (.value v') w ∧ VR ρ v v') :
    SndO P rd o vals s v s R 0 :=
  sndO_of hd (Stat.refl s) fun ro ρ C ev w hp hv =>
    let ⟨v', hr, h1⟩ := h ρ C ev w hp.glob (fun b hb => hp.agree b (by rw [or_bit, hb]; rfl)) hp.rel hv
    ⟨ρ, v', w, .inl hr, Post.refl ρ s w, by rw [upd_zero]; exact hp.rel, h1⟩

def pureRun (P : Program) {α : Type} : Sem α → Option α
  | .pure a => some a
  | .program k => pureRun P (k P)
  | .choose q k => if q.forced then pureRun P (k 0) else none
  | .mark _ k => pureRun P k
  | _ => none
theorem pureRun_run {α : Type} {x : Sem α} {v : α} (h : pureRun P x = some v) (w : World) : x.run P w = .ok v w := by
  induction x with
  | pure a => simp only [pureRun, Option.some.injEq] at h; rw [h]; rfl
  | program k ih => simp only [pureRun] at h; exact ih P h
  | choose q k ih =>
    simp only [pureRun] at h
    by_cases hq : q.forced = true
    · rw [if_pos hq] at h; simp only [Sem.run, hq, if_true]; exact ih 0 h
    · rw [if_neg hq] at h; simp at h
  | mark m k ih => simp only [pureRun] at h; exact ih h
  | _ => simp [pureRun] at h

theorem sndO_ground {o : Oper} {vals : Operand → Value} {v : Value} (hd : ∀ c, o.op ≠ .defer c) (hs : ∀ cs b, o.op ≠ .select cs b) (hg : o.op.operands.toList.all (fun x => ground 12 (vals x)) = true)
    (h : pureRun P (execOp vals o) = some (.value v)) (hv : ground 12 v = true) : SndO P rd o vals s v s 0 0 :=
  sndO_still hd fun ρ C ev w _ _ _ hx => ⟨v, by
    have e : execOp ev o = execOp vals o := execOp_congr o hs fun x hm => by
      rw [List.all_eq_true] at hg
      exact ground_eq 12 (hg x (by simpa using hm)) (hx x hm)
    rw [e]; exact pureRun_run h w, ground_refl 12 hv⟩

theorem sndO_move {o : Oper} {vals : Operand → Value} {x : Operand} (h : o.op = .move x ∨ o.op = .assign x) : SndO P rd o vals s (vals x) s 0 0 :=
  sndO_still (fun c => by rcases h with h | h <;> rw [h] <;> simp) fun ρ C ev w _ _ _ hx => ⟨ev x, by
    rcases h with h | h <;> simp [execOp, h], hx x (by rcases h with h | h <;> simp [h, Op.operands])⟩
theorem sndO_pick {o : Oper} {vals : Operand → Value} {c x y : Operand} {t : Bool} (h : o.op = .pick c x y) (hc : vals c = .bool t) : SndO P rd o vals s (if t then vals x else vals y) s 0 0 :=
  sndO_still (fun c => by rw [h]; simp) fun ρ C ev w _ _ _ hx => by
    have h1 := hx c (by simp [h, Op.operands])
    rw [hc] at h1
    have e : ev c = .bool t := by generalize ev c = z at h1; cases h1; rfl
    refine ⟨if t then ev x else ev y, by simp [execOp, h, e, asBool], ?_⟩
    cases t
    · exact hx y (by simp [h, Op.operands])
    · exact hx x (by simp [h, Op.operands])

def Ren.add (ρ : Ren) (b : Nat) (L : Loc) : Ren := fun x => if x = b then some L else ρ x
theorem stat_push (s : St) (o : MObj) : Stat s (s.push o) 0 := ⟨Nat.le_succ _, fun b hb _ => s.get_push_old o b hb⟩
theorem alloc_old (w : World) (o : Obj) (i : Nat) (h : i < w.heap.size) : (w.alloc o).heap[i]? = w.heap[i]? := by
  show (w.heap.push o)[i]? = w.heap[i]?
  rw [Array.getElem?_push, if_neg (by omega)]
theorem alloc_new (w : World) (o : Obj) : (w.alloc o).heap[w.heap.size]? = some o := by
  show (w.heap.push o)[w.heap.size]? = some o
  rw [Array.getElem?_push, if_pos rfl]
theorem upd_push (C : Nat → MObj) (s : St) (o : MObj) (b : Nat) : upd C s (s.push o) 0 b = if b = s.next then o else C b := by
  unfold upd
  by_cases e : b = s.next
  · subst e
    rw [if_pos (.inl ⟨Nat.le_refl _, Nat.lt_succ_self _⟩), if_pos rfl, s.get_push_new]
  · rw [if_neg (by
      rintro (h | h)
      · have : (s.push o).next = s.next + 1 := rfl
        omega
      · simp at h), if_neg e]
theorem lt_of_some {w : World} {i : Nat} {o : Obj} (h : w.heap[i]? = some o) : i < w.heap.size := by
  rcases Nat.lt_or_ge i w.heap.size with g | g
  · exact g
  · rw [Array.getElem?_eq_none g] at h; cases h

theorem step_new {o : MObj} {o' : Obj} {L : Loc} (hp : Pre P rd s (s.push o) R 0 ro ρ C w) (hL : L.blk = w.heap.size) (ho : OR ρ L o o') :
    Post ρ s (s.push o) 0 w (ρ.add s.next L) (w.alloc o') ∧ WRel (ρ.add s.next L) (upd C s (s.push o) 0) (w.alloc o') ∧ (ρ.add s.next L) s.next = some L := by
  have hfree := hp.free s.next (Nat.le_refl _) (Nat.lt_succ_self _)
  have hself : (ρ.add s.next L) s.next = some L := if_pos rfl
  have hsub : ρ.le (ρ.add s.next L) := fun b L' hb => by
    by_cases e : b = s.next
    · subst e; rw [hfree.1] at hb; cases hb
    · exact (if_neg e).trans hb
  have hoth : ∀ b, b ≠ s.next → (ρ.add s.next L) b = ρ b := fun b e => if_neg e
  refine ⟨⟨hsub, fun b hb => ?_, fun b L' h1 h2 => ?_, by simp, fun x hx _ => alloc_old w o' x hx, rfl, rfl, rfl⟩, ⟨fun b hb => ?_, fun b b' L1 L2 h1 h2 hq h3 h4 e => ?_⟩, hself⟩
  · by_cases e : b = s.next
    · subst e; exact ⟨Nat.le_refl _, Nat.lt_succ_self _⟩
    · exact absurd (hoth b e) hb
  · by_cases e : b = s.next
    · subst e; rw [hself] at h2; cases h2; exact .inl (by omega)
    · rw [hoth b e, h1] at h2; cases h2
  · rw [upd_push] at hb ⊢
    by_cases e : b = s.next
    · subst e
      rw [if_pos rfl]
      exact ⟨L, o', hself, by rw [hL]; exact alloc_new w o', ho.mono hsub⟩
    · rw [if_neg e] at hb ⊢
      obtain ⟨L', o2, g1, g2, g3⟩ := hp.rel.1 b hb
      exact ⟨L', o2, hsub _ _ g1, (alloc_old w o' _ (lt_of_some g2)).trans g2, g3.mono hsub⟩
  · rw [upd_push] at h1 h2
    by_cases e1 : b = s.next
    · by_cases e2 : b' = s.next
      · rw [e1, e2]
      · rw [if_neg e2] at h2
        obtain ⟨L', o2, g1, g2, g3⟩ := hp.rel.1 b' h2
        rw [hoth b' e2, g1] at h4
        cases h4
        rw [e1, hself] at h3
        cases h3
        have := lt_of_some g2
        omega
    · rw [if_neg e1] at h1
      rw [hoth b e1] at h3
      by_cases e2 : b' = s.next
      · obtain ⟨L', o2, g1, g2, g3⟩ := hp.rel.1 b h1
        rw [g1] at h3
        cases h3
        rw [e2, hself] at h4
        cases h4
        have := lt_of_some g2
        omega
      · rw [if_neg e2] at h2
        rw [hoth b' e2] at h4
        rw [upd_push, upd_push, if_neg e1, if_neg e2] at hq
        exact hp.rel.2 b b' L1 L2 h1 h2 hq h3 h4 e

theorem sndO_new {o : Oper} {vals : Operand → Value} {m : MObj} (hd : ∀ c, o.op ≠ .defer c)
    (h : ∀ (ρ : Ren) (ev : Operand → Value) (w : World), (∀ x, x ∈ o.op.operands → VR ρ (vals x) (ev x)) →
      ∃ (o' : Obj) (L : Loc), (execOp ev o).run P w = .ok (.value (.pointer (some ⟨w.heap.size, 0, none⟩))) (w.alloc o') ∧ L.blk = w.heap.size ∧ L.base = 0 ∧ OR ρ L m o') :
    SndO P rd o vals s (.pointer (some ⟨s.next, 0, none⟩)) (s.push m) 0 0 :=
  sndO_of hd (stat_push s m) fun ro ρ C ev w hp hv => by
    obtain ⟨o', L, hr, hL, hb, ho⟩ := h ρ ev w hv
    obtain ⟨p1, r1, hs⟩ := step_new hp hL ho
    refine ⟨_, _, _, .inl hr, p1, r1, ?_⟩
    have := VR.ptr (ρ := ρ.add s.next L) s.next 0 L hs
    rw [hL, hb] at this
    exact this

def live : Value → Bool
  | .chan _ => false
  | _ => true
def oneL (v : Value) : Bool := v.oneCell' && live v
theorem ground_live : ∀ {n : Nat} {v : Value}, ground n v = true → live v = true := by
  intro n v h
  cases v with
  | chan r => cases n <;> simp [ground] at h
  | _ => rfl
theorem cells_vrs {ρ : Ren} {v v' : Value} (h : VR ρ v v') (hl : live v = true) : VRs ρ v.cells v'.cells := by
  cases h with
  | agg cs cs' h1 h2 => exact ⟨h1, h2⟩
  | junk r v' => simp [live] at hl
  | _ =>
    refine ⟨rfl, fun i x x' g1 g2 => ?_⟩
    match i, g1, g2 with
    | 0, g1, g2 => simp [Value.cells] at g1 g2; subst g1 g2; (first | exact .bool _ | exact .int _ _ | exact .float _ _ | exact .complex _ _ _ | exact .string _ | exact .ptr0 | exact .ptr _ _ _ ‹_› | exact .slice0 _ _ | exact .empty _ _ | exact .slice _ _ _ _ _ _ ‹_› ‹_› | exact .map0 | exact .map _ _ ‹_› | exact .func _ _ _ _ _ ‹_› ‹_› ‹_› ‹_› ‹_› | exact .yield _ _ ‹_› | exact .nilFunc | exact .nilIface | exact .iface _ _ _ ‹_› | exact .tuple _ _ ‹_› ‹_›)
    | i + 1, g1, g2 => simp [Value.cells] at g1
theorem or_cells {ρ : Ren} {cs cs' : Array Value} (h : VRs ρ cs cs') (t : TypeId) (n : Nat) (b : Bool) (hb : b = false) : OR ρ ⟨n, 0, b, 0, cs'.size⟩ (.cells cs.toList t b 0 false) (.cells cs' t (0, 0)) := by
  subst hb
  refine ⟨rfl, rfl, fun _ => rfl, rfl, by simp [h.1], fun i v hi => ?_, fun _ => .inl rfl, fun _ => ⟨rfl, by simp [h.1]⟩⟩
  have hi' : cs[i]? = some v := by simpa using hi
  have hlt : i < cs.size := by
    rcases Nat.lt_or_ge i cs.size with g | g
    · exact g
    · rw [Array.getElem?_eq_none g] at hi'; cases hi'
  have hlt' : i < cs'.size := h.1 ▸ hlt
  exact ⟨cs'[i], by simp [Array.getElem?_eq_getElem hlt'], h.2 i v _ hi' (Array.getElem?_eq_getElem hlt')⟩

theorem sndO_box {o : Oper} {vals : Operand → Value} {t : TypeId} {x : Operand} (h : o.op = .box t x) (hl : live (vals x) = true) :
    SndO P rd o vals s (.pointer (some ⟨s.next, 0, none⟩)) (s.push (.cells (vals x).cells.toList t false 0 false)) 0 0 :=
  sndO_new (fun c => by rw [h]; simp) fun ρ ev w hx => by
    have hv := cells_vrs (hx x (by simp [h, Op.operands])) hl
    exact ⟨.cells (ev x).cells t, ⟨w.heap.size, 0, false, 0, (ev x).cells.size⟩, by simp [execOp, h, Instr.box, newVar, newRow], rfl, rfl, or_cells hv t _ false rfl⟩
theorem sndO_alloc {o : Oper} {vals : Operand → Value} {t : TypeId} {i : TypeInfo} {z : Value} (h : o.op = .alloc t) (hi : P.info? t = some i) (hz : i.zero = some z) (hg : ground 12 z = true) :
    SndO P rd o vals s (.pointer (some ⟨s.next, 0, none⟩)) (s.push (.cells z.cells.toList t false 0 false)) 0 0 :=
  sndO_new (fun c => by rw [h]; simp) fun ρ ev w hx => by
    have hv := cells_vrs (ground_refl (ρ := ρ) 12 hg) (ground_live hg)
    have hzr : (zeroValue t).run P w = .ok z w := by simp [zeroValue, run_typeInfo w hi, hz]
    exact ⟨.cells z.cells t, ⟨w.heap.size, 0, false, 0, z.cells.size⟩, by simp [execOp, h, Instr.alloc, newVar, newRow, hzr], rfl, rfl, or_cells hv t _ false rfl⟩
end Mini
end Go.Proofs.YtbkpnhbcihcgaaaGreatDoor
end
section
namespace Go.Proofs.YtbkpnhbcihcgaaaGreatDoor
set_option linter.all false
namespace Mini
variable {P : Program} {rd : Option Nat} {s s1 : St} {R W : Nat} {ro : Option Nat} {ρ : Ren} {C : Nat → MObj} {w : World}

theorem add_mk (b o n : Nat) : Addr.add ⟨b, o, none⟩ n = ⟨b, o + n, none⟩ := Addr.add_lit b o n
theorem bit_self (b : Nat) : (2 ^ b).testBit b = true := by rw [Nat.testBit_two_pow]; simp
theorem bit_iff {b x : Nat} : (2 ^ b).testBit x = true ↔ x = b := by rw [Nat.testBit_two_pow]; simp; exact eq_comm

def elemAt (w : World) (k : Nat) : TypeId := match w.heap[k]? with
  | some (.cells _ e _) => e
  | _ => 0
theorem row_of {b : Nat} {c : List Value} {e : TypeId} {opn ro : Bool} {sz : Nat} (hr : WRel ρ C w) (hc : C b = .cells c e opn sz ro) :
    ∃ L cs fr, ρ b = some L ∧ w.heap[L.blk]? = some (.cells cs (elemAt w L.blk) fr) ∧ OR ρ L (.cells c e opn sz ro) (.cells cs (elemAt w L.blk) fr) := by
  obtain ⟨L, o', h1, h2, h3⟩ := hr.1 b (by rw [hc]; simp)
  rw [hc] at h3
  cases o' with
  | cells cs e' fr =>
    have he : elemAt w L.blk = e' := by unfold elemAt; rw [h2]
    exact ⟨L, cs, fr, h1, by rw [he]; exact h2, by rw [he]; exact h3⟩
  | _ => simp [OR] at h3
theorem row_wr {b : Nat} {c : List Value} {e : TypeId} {opn : Bool} {sz : Nat} (hr : WRel ρ C w) (hc : C b = .cells c e opn sz false) :
    ∃ L cs fr, ρ b = some L ∧ w.heap[L.blk]? = some (.cells cs e fr) ∧ OR ρ L (.cells c e opn sz false) (.cells cs e fr) := by
  obtain ⟨L, o', h1, h2, h3⟩ := hr.1 b (by rw [hc]; simp)
  rw [hc] at h3
  cases o' with
  | cells cs e' fr =>
    have he : e' = e := h3.2.2.1 rfl
    subst he
    exact ⟨L, cs, fr, h1, h2, h3⟩
  | _ => simp [OR] at h3
theorem cell_row {k : Nat} {cs : Array Value} {e : TypeId} {fr : Nat × Nat} (h : w.heap[k]? = some (.cells cs e fr)) (i : Nat) : w.cell? ⟨k, i, none⟩ = cs[i]? := by
  simp [World.cell?, h]
theorem ptr_inv {b o : Nat} {v' : Value} (h : VR ρ (.pointer (some ⟨b, o, none⟩)) v') : ∃ L, ρ b = some L ∧ v' = .pointer (some ⟨L.blk, L.base + o, none⟩) := by
  cases h with
  | ptr b o L h => exact ⟨L, h, rfl⟩
theorem slice_inv {b o n c : Nat} {v' : Value} (hn : n ≠ 0) (h : VR ρ (.slice (some ⟨b, o, none⟩) n c) v') :
    ∃ L c', ρ b = some L ∧ v' = .slice (some ⟨L.blk, L.base + o, none⟩) n c' ∧ (c' = c ∨ (L.opn = true ∧ c ≤ c' ∧ L.base + o + c' * L.sz ≤ L.lim)) := by
  cases h with
  | slice b o n c c' L h hc => exact ⟨L, c', h, rfl, hc⟩
  | empty a a' => exact absurd rfl hn
theorem int_inv {k : IntKind} {n : Int} {v' : Value} (h : VR ρ (.int k n) v') : v' = .int k n := by cases h; rfl

theorem sndO_nilCheck {o : Oper} {vals : Operand → Value} {x : Operand} (h : o.op = .nilCheck x)
    (hv : match vals x with | .pointer (some _) => True | .iface _ _ => True | .func fn _ _ => (match fn with | .method _ => False | _ => True) | _ => False) : SndO P rd o vals s (vals x) s 0 0 :=
  sndO_still (fun c => by rw [h]; simp) fun ρ C ev w _ _ _ hx => by
    have h1 := hx x (by simp [h, Op.operands])
    refine ⟨ev x, ?_, h1⟩
    generalize vals x = z at hv h1
    generalize he : ev x = y at h1
    cases h1 with
    | ptr b o L h2 => simp [execOp, h, he]
    | iface t v v' h2 => simp [execOp, h, he]
    | func fn azz bs as' bs' hf _ _ _ _ => cases fn <;> first | (simp at hv; done) | simp [execOp, h, he]
    | yield l L _ => simp [execOp, h, he]
    | _ => simp at hv

theorem sndO_fieldAddr {o : Oper} {vals : Operand → Value} {t : TypeId} {x : Operand} {k : Nat} {fs : Array Field} {f : Field} {i : TypeInfo} {b off : Nat} (h : o.op = .fieldAddr t x k)
    (ht : P.underlying t = some (.struct fs)) (hf : fs[k]? = some f) (hi : P.info? f.type = some i) (hz : i.size ≠ 0) (hv : vals x = .pointer (some ⟨b, off, none⟩)) :
    SndO P rd o vals s (.pointer (some ⟨b, off + f.offset, none⟩)) s 0 0 :=
  sndO_still (fun c => by rw [h]; simp) fun ρ C ev w _ _ _ hx => by
    have h1 := hx x (by simp [h, Op.operands])
    rw [hv] at h1
    obtain ⟨L, h2, he⟩ := ptr_inv h1
    have hsz : (sizeOf f.type).run P w = .ok i.size w := by simp [sizeOf, run_typeInfo w hi]
    refine ⟨.pointer (some ⟨L.blk, L.base + off + f.offset, none⟩), ?_, ?_⟩
    · simp [execOp, h, he, Instr.fieldAt, run_underlying ht, hf, Instr.sureAddr, fieldPlace, hsz, hz, add_mk]
    · rw [Nat.add_assoc]; exact .ptr b (off + f.offset) L h2

theorem sndO_indexArr {o : Oper} {vals : Operand → Value} {t e : TypeId} {n : Nat} {x y : Operand} {i : TypeInfo} {k : IntKind} {j : Int} {b off : Nat} (h : o.op = .indexAddr t x y)
    (ht : P.underlying t = some (.array n e)) (hi : P.info? e = some i) (hy : vals y = .int k j) (hj : 0 ≤ j ∧ j < n) (hv : vals x = .pointer (some ⟨b, off, none⟩)) :
    SndO P rd o vals s (.pointer (some ⟨b, off + j.toNat * i.size, none⟩)) s 0 0 :=
  sndO_still (fun c => by rw [h]; simp) fun ρ C ev w _ _ _ hx => by
    have h1 := hx x (by simp [h, Op.operands])
    have h3 := hx y (by simp [h, Op.operands])
    rw [hv] at h1
    rw [hy] at h3
    obtain ⟨L, h2, he⟩ := ptr_inv h1
    have hey := int_inv h3
    have hsz : (sizeOf e).run P w = .ok i.size w := by simp [sizeOf, run_typeInfo w hi]
    refine ⟨.pointer (some ⟨L.blk, L.base + off + j.toNat * i.size, none⟩), ?_, ?_⟩
    · simp [execOp, h, he, hey, Instr.indexAt, run_underlying ht, asIntOf, Instr.sureAddr, hsz, hj.1, hj.2, add_mk]
    · rw [Nat.add_assoc]; exact .ptr b _ L h2
theorem sndO_indexSlice {o : Oper} {vals : Operand → Value} {t e : TypeId} {n c : Nat} {x y : Operand} {i : TypeInfo} {k : IntKind} {j : Int} {b off : Nat} (h : o.op = .indexAddr t x y)
    (ht : P.underlying t = some (.slice e)) (hi : P.info? e = some i) (hy : vals y = .int k j) (hj : 0 ≤ j ∧ j < n) (hv : vals x = .slice (some ⟨b, off, none⟩) n c) :
    SndO P rd o vals s (.pointer (some ⟨b, off + j.toNat * i.size, none⟩)) s 0 0 :=
  sndO_still (fun c => by rw [h]; simp) fun ρ C ev w _ _ _ hx => by
    have h1 := hx x (by simp [h, Op.operands])
    have h3 := hx y (by simp [h, Op.operands])
    rw [hv] at h1
    rw [hy] at h3
    obtain ⟨L, c', h2, he, _⟩ := slice_inv (by omega) h1
    have hey := int_inv h3
    have hsz : (sizeOf e).run P w = .ok i.size w := by simp [sizeOf, run_typeInfo w hi]
    refine ⟨.pointer (some ⟨L.blk, L.base + off + j.toNat * i.size, none⟩), ?_, ?_⟩
    · simp [execOp, h, he, hey, Instr.indexAt, run_underlying ht, asIntOf, hsz, hj.1, hj.2, add_mk]
    · rw [Nat.add_assoc]; exact .ptr b _ L h2

theorem loadCells_run {k base : Nat} {cs : Array Value} {e : TypeId} {fr : Nat × Nat} (h : w.heap[k]? = some (.cells cs e fr)) :
    ∀ (n i : Nat) (acc : Array Value), base + i + n ≤ cs.size → (loadCellsFrom ⟨k, base, none⟩ i n acc).run P w = .ok (acc ++ ((cs.toList.drop (base + i)).take n).toArray) w
  | 0, i, acc, hn => by simp [loadCellsFrom]
  | n + 1, i, acc, hn => by
    have hlt : base + i < cs.size := by omega
    have hc : w.cell? ⟨k, base + i, none⟩ = some cs[base + i] := by rw [cell_row h, Array.getElem?_eq_getElem hlt]
    have ih := loadCells_run (base := base) h n (i + 1) (acc.push cs[base + i]) (by omega)
    simp only [loadCellsFrom, Sem.run_bind, add_mk, run_load, hc, Result.andThen_ok]
    rw [ih]
    congr 1
    rw [show (cs.toList.drop (base + i)).take (n + 1) = cs[base + i] :: (cs.toList.drop (base + (i + 1))).take n from by
      rw [List.drop_eq_getElem_cons (by simpa using hlt), List.take_succ_cons]
      simp [Nat.add_assoc]]
    apply Array.ext'
    simp

def cut (c : List Value) (o n : Nat) : Array Value := ((c.drop o).take n).toArray
theorem cut_vrs {L : Loc} {c : List Value} {cs : Array Value} {o n : Nat} (hn : o + n ≤ c.length) (hb : L.base + c.length ≤ cs.size)
    (hv : ∀ (i : Nat) (v : Value), c[i]? = some v → ∃ v', cs[L.base + i]? = some v' ∧ VR ρ v v') : VRs ρ (cut c o n) (cut cs.toList (L.base + o) n) := by
  refine ⟨by simp [cut]; omega, fun i v v' h1 h2 => ?_⟩
  simp only [cut, List.getElem?_toArray, List.getElem?_take, List.getElem?_drop] at h1 h2
  by_cases hi : i < n
  · rw [if_pos hi] at h1 h2
    obtain ⟨v'', g1, g2⟩ := hv _ _ h1
    rw [Array.getElem?_toList, Nat.add_assoc, g1] at h2
    cases h2
    exact g2
  · rw [if_neg hi] at h1; cases h1

def aggT (P : Program) (t : TypeId) : Option Bool :=
  match P.underlying t with
  | some (.struct _) | some (.array _ _) => some true
  | some _ => some false
  | none => none
theorem isAgg_run {t : TypeId} {b : Bool} (h : aggT P t = some b) (w : World) : (isAgg t).run P w = .ok b w := by
  unfold aggT at h
  cases hd : P.underlying t with
  | none => rw [hd] at h; cases h
  | some d =>
    rw [hd] at h
    cases d <;> simp at h <;> subst h <;> simp [isAgg, run_underlying hd]

structure OneOff (w : World) (k : Nat) (w1 : World) : Prop where
  size : w1.heap.size = w.heap.size
  oth : ∀ x, x ≠ k → w1.heap[x]? = w.heap[x]?
  os : w1.os = w.os
  tape : w1.tape = w.tape
  output : w1.output = w.output
theorem OneOff.refl (w : World) (k : Nat) : OneOff w k w := ⟨rfl, fun _ _ => rfl, rfl, rfl, rfl⟩
theorem OneOff.trans {k : Nat} {a b c : World} (h : OneOff a k b) (g : OneOff b k c) : OneOff a k c :=
  ⟨g.size.trans h.size, fun x hx => (g.oth x hx).trans (h.oth x hx), g.os.trans h.os, g.tape.trans h.tape, g.output.trans h.output⟩

theorem stat_put {b : Nat} (hb : s.get b ≠ .hole) (o : MObj) : Stat s (s.put b o) (2 ^ b) :=
  ⟨Nat.le_refl _, fun x _ hx => s.get_put_other b x o (St.lt_of_live hb) (fun e => by rw [← e, bit_self] at hx; cases hx)⟩
theorem upd_put {b : Nat} (hb : s.get b ≠ .hole) (o : MObj) (C : Nat → MObj) (x : Nat) : upd C s (s.put b o) (2 ^ b) x = if x = b then o else C x := by
  have hlt := St.lt_of_live hb
  unfold upd
  by_cases e : x = b
  · subst e
    rw [if_pos (.inr ⟨bit_self x, hlt⟩), if_pos rfl, s.get_put_same x o hb]
  · rw [if_neg (by
      rintro (h | h)
      · have : (s.put b o).next = s.next := rfl
        omega
      · exact e (bit_iff.1 h.1)), if_neg e]
theorem step_put {b : Nat} {o : MObj} {o1 o' : Obj} {L : Loc} {w1 : World} (hp : Pre P rd s (s.put b o) R (2 ^ b) ro ρ C w) (hb : s.get b ≠ .hole) (hro : roO (s.get b) = false) (hL : ρ b = some L) (h1 : OneOff w L.blk w1) (h2 : w1.heap[L.blk]? = some o1) (ho : OR ρ L o o1) :
    Post ρ s (s.put b o) (2 ^ b) w ρ w1 ∧ WRel ρ (upd C s (s.put b o) (2 ^ b)) w1 := by
  have hlt := St.lt_of_live hb
  have hCb : C b ≠ .hole := by rw [hp.agree b (by rw [or_bit, bit_self]; simp) hlt]; exact hb
  have hrC : roO (C b) = false := by rw [hp.agree b (by rw [or_bit, bit_self]; simp) hlt]; exact hro
  have roq : ∀ x x', (roO (upd C s (s.put b o) (2 ^ b) x) && roO (upd C s (s.put b o) (2 ^ b) x')) = false → (roO (C x) && roO (C x')) = false := fun x x' hq => by
    by_cases e : x = b
    · rw [e, hrC, Bool.false_and]
    · by_cases e2 : x' = b
      · rw [e2, hrC, Bool.and_false]
      · rw [upd_put hb, upd_put hb, if_neg e, if_neg e2] at hq; exact hq
  have live : ∀ x, upd C s (s.put b o) (2 ^ b) x ≠ .hole → C x ≠ .hole := fun x hx => by
    rw [upd_put hb] at hx
    by_cases e : x = b
    · rw [e]; exact hCb
    · rw [if_neg e] at hx; exact hx
  refine ⟨⟨Ren.le_refl _, fun x hx => absurd rfl hx, fun x L' g1 g2 => (by rw [g1] at g2; cases g2), Nat.le_of_eq h1.size.symm, fun x hx hf => h1.oth x (fun e => hf b L (bit_self b) hlt hL e.symm), h1.os, h1.tape, h1.output⟩, ⟨fun x hx => ?_, fun x x' L1 L2 g1 g2 gq => hp.rel.2 x x' L1 L2 (live x g1) (live x' g2) (roq x x' gq)⟩⟩
  have hx' := live x hx
  rw [upd_put hb] at hx ⊢
  by_cases e : x = b
  · subst e
    rw [if_pos rfl]
    exact ⟨L, o1, hL, h2, ho⟩
  · rw [if_neg e]
    obtain ⟨L', o2, g1, g2, g3⟩ := hp.rel.1 x hx'
    refine ⟨L', o2, g1, (h1.oth _ fun e' => e ?_).trans g2, g3⟩
    exact hp.rel.2 x b L' L hx' hCb (by rw [hrC, Bool.and_false]) g1 hL e'

theorem store_one {L : Loc} {c : List Value} {e : TypeId} {opn : Bool} {sz o : Nat} {o' : Obj} {v v' : Value} (hw : w.heap[L.blk]? = some o') (ho : OR ρ L (.cells c e opn sz false) o') (hlt : o < c.length) (hv : VR ρ v v') (h1 : v'.oneCell' = true) :
    ∃ w1 o1, (store ⟨L.blk, L.base + o, none⟩ v').run P w = .ok () w1 ∧ OneOff w L.blk w1 ∧ w1.heap[L.blk]? = some o1 ∧ OR ρ L (.cells (c.set o v) e opn sz false) o1 := by
  cases o' with
  | cells cs e' fr =>
    obtain ⟨k1, k2, k3, k4, k5, k6, k7, k8⟩ := ho
    have hin : L.base + o < cs.size := by omega
    have hcell : w.cell? ⟨L.blk, L.base + o, none⟩ = some cs[L.base + o] := by rw [cell_row hw, Array.getElem?_eq_getElem hin]
    have hfr : w.frozen? ⟨L.blk, L.base + o, none⟩ = false := by
      have := unfrozen (k7 rfl) (j := L.base + o) (by omega)
      obtain ⟨lo, hi⟩ := fr
      simp only [World.frozen?, hw]
      simp only at this
      simpa using this
    refine ⟨w.setCell ⟨L.blk, L.base + o, none⟩ v', .cells (cs.setIfInBounds (L.base + o) v') e' fr, ?_, ⟨by simp, fun x hx => ?_, rfl, rfl, rfl⟩, ?_, ?_⟩
    · rw [run_store P w _ _ _ h1, hcell, hfr]; rfl
    · simp [World.setCell, Array.getElem?_modify, Ne.symm hx]
    · simp [World.setCell, Array.getElem?_modify, hw]
    · refine ⟨k1, k2, k3, by simp [k4], by simp; omega, fun i u hi => ?_, k7, fun hf => by simpa using k8 hf⟩
      by_cases ei : o = i
      · subst ei
        rw [List.getElem?_set_self hlt] at hi
        cases hi
        exact ⟨v', by simp [Array.getElem?_setIfInBounds, hin], hv⟩
      · rw [List.getElem?_set_ne ei] at hi
        obtain ⟨u', m1, m2⟩ := k6 i u hi
        exact ⟨u', by rw [Array.getElem?_setIfInBounds, if_neg (by omega)]; exact m1, m2⟩
  | _ => simp [OR] at ho

def setL : List Value → Nat → List Value → List Value
  | c, _, [] => c
  | c, o, v :: vs => setL (c.set o v) (o + 1) vs
theorem storeCells_run {L : Loc} {e : TypeId} {opn : Bool} {sz off : Nat} : ∀ (vs vs' : List Value) (c : List Value) (i : Nat) (w : World) (o' : Obj), w.heap[L.blk]? = some o' → OR ρ L (.cells c e opn sz false) o' → off + i + vs.length ≤ c.length →
    vs.length = vs'.length → (∀ (j : Nat) (v v' : Value), vs[j]? = some v → vs'[j]? = some v' → VR ρ v v') → vs'.all Value.oneCell' = true →
    ∃ w1 o1, (storeCells ⟨L.blk, L.base + off, none⟩ vs' i).run P w = .ok () w1 ∧ OneOff w L.blk w1 ∧ w1.heap[L.blk]? = some o1 ∧ OR ρ L (.cells (setL c (off + i) vs) e opn sz false) o1
  | [], vs', c, i, w, o', hw, ho, hn, hl, hv, h1 => by
    have : vs' = [] := by cases vs' with
      | nil => rfl
      | cons a b => simp at hl
    subst this
    exact ⟨w, o', by simp [storeCells], OneOff.refl w _, hw, ho⟩
  | v :: vs, [], c, i, w, o', hw, ho, hn, hl, hv, h1 => by simp at hl
  | v :: vs, v' :: vs', c, i, w, o', hw, ho, hn, hl, hv, h1 => by
    simp only [List.length_cons] at hn hl
    simp only [List.all_cons, Bool.and_eq_true] at h1
    obtain ⟨w1, o1, r1, d1, g1, k1⟩ := store_one (P := P) (o := off + i) hw ho (by omega) (hv 0 v v' rfl rfl) h1.1
    obtain ⟨w2, o2, r2, d2, g2, k2⟩ := storeCells_run (off := off) vs vs' (c.set (off + i) v) (i + 1) w1 o1 g1 k1 (by simp; omega) (by omega) (fun j a b ha hb => hv (j + 1) a b (by simpa using ha) (by simpa using hb)) h1.2
    refine ⟨w2, o2, ?_, d1.trans d2, g2, ?_⟩
    · simp only [storeCells, Sem.run_bind, add_mk, Nat.add_assoc, r1, Result.andThen_ok]
      exact r2
    · rw [setL]; rw [← Nat.add_assoc] at k2; exact k2

theorem one_vr {v v' : Value} (h : VR ρ v v') (ho : oneL v = true) : v'.oneCell' = true := by
  cases h <;> first | rfl | (simp [oneL, live, Value.oneCell'] at ho)
theorem all_one {a b : Array Value} (h : VRs ρ a b) (ha : a.toList.all oneL = true) : b.toList.all Value.oneCell' = true := by
  rw [List.all_eq_true] at ha ⊢
  intro x hx
  rw [Array.mem_toList_iff] at hx
  obtain ⟨i, hi, rfl⟩ := Array.mem_iff_getElem.1 hx
  have hi' : i < a.size := h.1 ▸ hi
  exact one_vr (h.2 i a[i] b[i] (Array.getElem?_eq_getElem hi') (Array.getElem?_eq_getElem hi)) (ha _ (by simp))

theorem sndO_store {o : Oper} {vals : Operand → Value} {t e : TypeId} {x y : Operand} {i : TypeInfo} {b off sz : Nat} {c : List Value} {opn : Bool} (h : o.op = .store t x y)
    (hi : P.info? t = some i) (hv : vals x = .pointer (some ⟨b, off, none⟩)) (hc : s.get b = .cells c e opn sz false) (hz : (vals y).cells.size = i.size) (hn : off + i.size ≤ c.length) (h1 : (vals y).cells.toList.all oneL = true) :
    SndO P rd o vals s undef (s.put b (.cells (setL c off (vals y).cells.toList) e opn sz false)) 0 (2 ^ b) := by
  have hb : s.get b ≠ .hole := by rw [hc]; simp
  refine sndO_of (fun c => by rw [h]; simp) (stat_put hb _) fun ro ρ C ev w hp hx => ?_
  have hx1 := hx x (by simp [h, Op.operands])
  have hyl : live (vals y) = true := by
    generalize vals y = v at h1
    cases v <;> first | rfl | (simp [Value.cells, oneL, live] at h1)
  have hy1 := cells_vrs (hx y (by simp [h, Op.operands])) hyl
  rw [hv] at hx1
  obtain ⟨L, h2, he⟩ := ptr_inv hx1
  have hCb := hp.agree b (by rw [or_bit, bit_self]; simp) (St.lt_of_live hb)
  obtain ⟨L', cs, fr, g1, g2, g3⟩ := row_wr hp.rel (hCb.trans hc)
  rw [h2] at g1
  cases g1
  have hsz : (sizeOf t).run P w = .ok i.size w := by simp [sizeOf, run_typeInfo w hi]
  obtain ⟨w1, o1, r1, d1, k1, k2⟩ := storeCells_run (P := P) (off := off) (vals y).cells.toList (ev y).cells.toList c 0 w _ g2 g3 (by simp [hz]; omega) (by simpa using hy1.1) (fun j v v' a b => hy1.2 j v v' (by simpa using a) (by simpa using b)) (all_one hy1 h1)
  obtain ⟨p1, r2⟩ := step_put (o' := .cells cs e fr) hp hb (by rw [hc]; rfl) h2 d1 k1 (by simpa using k2)
  refine ⟨ρ, undef, w1, .inr ⟨?_, rfl⟩, p1, r2, undef_vr ρ⟩
  have hs2 : (ev y).cells.size = i.size := hy1.1.symm.trans hz
  simp [execOp, h, he, Instr.storeAt, Instr.sureAddr, storeVar, hsz, hs2, r1]
end Mini
end Go.Proofs.YtbkpnhbcihcgaaaGreatDoor
end
section
namespace Go.Proofs.YtbkpnhbcihcgaaaGreatDoor
set_option linter.all false
namespace Mini
variable {P : Program} {rd : Option Nat} {s s1 : St} {R W : Nat} {ro : Option Nat} {ρ : Ren} {C : Nat → MObj} {w : World}

def partM (P : Program) (t : TypeId) (cs : Array Value) (off : Nat) : Option Value :=
  match aggT P t, P.info? t with
  | some true, some i => some (.agg (cs.extract off (off + i.size)))
  | some false, _ => cs[off]?
  | _, _ => none
theorem part_vr {t : TypeId} {cs cs' : Array Value} {off : Nat} {v : Value} (h : partM P t cs off = some v) (hv : VRs ρ cs cs') : ∃ v', (part t cs' off).run P w = .ok v' w ∧ VR ρ v v' := by
  unfold partM at h
  cases ha : aggT P t with
  | none => rw [ha] at h; cases h
  | some b =>
    cases hi : P.info? t with
    | none =>
      rw [ha, hi] at h
      cases b with
      | true => cases h
      | false =>
        simp only at h
        have hlt : off < cs.size := by
          rcases Nat.lt_or_ge off cs.size with g | g
          · exact g
          · rw [Array.getElem?_eq_none g] at h; cases h
        have e2 : cs'[off]? = some (cs'[off]'(hv.1 ▸ hlt)) := Array.getElem?_eq_getElem (hv.1 ▸ hlt)
        exact ⟨_, by simp [part, isAgg_run ha, e2], hv.2 off v _ h e2⟩
    | some i =>
      rw [ha, hi] at h
      cases b with
      | true =>
        simp only [Option.some.injEq] at h
        subst h
        have hsz : (sizeOf t).run P w = .ok i.size w := by simp [sizeOf, run_typeInfo w hi]
        refine ⟨.agg (cs'.extract off (off + i.size)), by simp [part, isAgg_run ha, hsz], .agg _ _ (by simp [hv.1]) fun j x x' h1 h2 => ?_⟩
        rw [Array.getElem?_extract] at h1 h2
        rw [hv.1] at h1
        by_cases c : j < min (off + i.size) cs'.size - off
        · rw [if_pos c] at h1 h2; exact hv.2 _ _ _ h1 h2
        · rw [if_neg c] at h1; cases h1
      | false =>
        simp only at h
        have hlt : off < cs.size := by
          rcases Nat.lt_or_ge off cs.size with g | g
          · exact g
          · rw [Array.getElem?_eq_none g] at h; cases h
        have e2 : cs'[off]? = some (cs'[off]'(hv.1 ▸ hlt)) := Array.getElem?_eq_getElem (hv.1 ▸ hlt)
        exact ⟨_, by simp [part, isAgg_run ha, e2], hv.2 off v _ h e2⟩
theorem agg_inv {cs : Array Value} {v' : Value} (h : VR ρ (.agg cs) v') : ∃ cs', v' = .agg cs' ∧ VRs ρ cs cs' := by
  cases h with
  | agg cs cs' h1 h2 => exact ⟨cs', rfl, h1, h2⟩
theorem tuple_inv {cs : Array Value} {v' : Value} (h : VR ρ (.tuple cs) v') : ∃ cs', v' = .tuple cs' ∧ VRs ρ cs cs' := by
  cases h with
  | tuple cs cs' h1 h2 => exact ⟨cs', rfl, h1, h2⟩

theorem sndO_field {o : Oper} {vals : Operand → Value} {t : TypeId} {x : Operand} {k : Nat} {fs : Array Field} {f : Field} {cs : Array Value} {v : Value} (h : o.op = .field t x k)
    (ht : P.underlying t = some (.struct fs)) (hf : fs[k]? = some f) (hx : vals x = .agg cs) (hv : partM P f.type cs f.offset = some v) : SndO P rd o vals s v s 0 0 :=
  sndO_still (fun c => by rw [h]; simp) fun ρ C ev w _ _ _ hxs => by
    have h1 := hxs x (by simp [h, Op.operands])
    rw [hx] at h1
    obtain ⟨cs', he, hcs⟩ := agg_inv h1
    obtain ⟨v', hr, hv'⟩ := part_vr (w := w) hv hcs
    exact ⟨v', by simp [execOp, h, he, Instr.field, run_underlying ht, hf, asAgg, hr], hv'⟩
theorem sndO_index {o : Oper} {vals : Operand → Value} {t e : TypeId} {n : Nat} {x y : Operand} {i : TypeInfo} {k : IntKind} {j : Int} {cs : Array Value} {v : Value} (h : o.op = .index t x y)
    (ht : P.underlying t = some (.array n e)) (hi : P.info? e = some i) (hy : vals y = .int k j) (hj : 0 ≤ j ∧ j < n) (hx : vals x = .agg cs) (hv : partM P e cs (j.toNat * i.size) = some v) : SndO P rd o vals s v s 0 0 :=
  sndO_still (fun c => by rw [h]; simp) fun ρ C ev w _ _ _ hxs => by
    have h1 := hxs x (by simp [h, Op.operands])
    have h3 := hxs y (by simp [h, Op.operands])
    rw [hx] at h1
    rw [hy] at h3
    obtain ⟨cs', he, hcs⟩ := agg_inv h1
    have hey := int_inv h3
    obtain ⟨v', hr, hv'⟩ := part_vr (w := w) hv hcs
    have hsz : (sizeOf e).run P w = .ok i.size w := by simp [sizeOf, run_typeInfo w hi]
    exact ⟨v', by simp [execOp, h, he, hey, Instr.index, run_underlying ht, asIntOf, hj.1, hj.2, hsz, hr], hv'⟩
theorem sndO_extract {o : Oper} {vals : Operand → Value} {x : Operand} {k : Nat} {cs : Array Value} {v : Value} (h : o.op = .extract x k) (hx : vals x = .tuple cs) (hv : cs[k]? = some v) : SndO P rd o vals s v s 0 0 :=
  sndO_still (fun c => by rw [h]; simp) fun ρ C ev w _ _ _ hxs => by
    have h1 := hxs x (by simp [h, Op.operands])
    rw [hx] at h1
    obtain ⟨cs', he, hcs⟩ := tuple_inv h1
    have hlt : k < cs.size := by
      rcases Nat.lt_or_ge k cs.size with g | g
      · exact g
      · rw [Array.getElem?_eq_none g] at hv; cases hv
    have e2 : cs'[k]? = some (cs'[k]'(hcs.1 ▸ hlt)) := Array.getElem?_eq_getElem (hcs.1 ▸ hlt)
    exact ⟨_, by simp [execOp, h, he, Instr.extract, e2], hcs.2 k v _ hv e2⟩

def PartsR (ρ : Ren) : List (Nat × Value) → List (Nat × Value) → Prop
  | [], [] => True
  | (i, v) :: l, (j, u) :: m => i = j ∧ VR ρ v u ∧ PartsR ρ l m
  | _, _ => False
theorem fold_vrs : ∀ (l l' : List Value) (off k : Nat) (a b : Array Value), l.length = l'.length → (∀ (j : Nat) (v v' : Value), l[j]? = some v → l'[j]? = some v' → VR ρ v v') → VRs ρ a b →
    VRs ρ ((l.zipIdx k).foldl (fun cs x => cs.setIfInBounds (off + x.2) x.1) a) ((l'.zipIdx k).foldl (fun cs x => cs.setIfInBounds (off + x.2) x.1) b)
  | [], [], off, k, a, b, _, _, h => h
  | v :: l, v' :: l', off, k, a, b, hl, hv, h => by
    simp only [List.zipIdx_cons, List.foldl_cons]
    exact fold_vrs l l' off (k + 1) _ _ (by simpa using hl) (fun j x x' h1 h2 => hv (j + 1) x x' (by simpa using h1) (by simpa using h2)) (h.set _ (hv 0 v v' rfl rfl))
  | [], _ :: _, off, k, a, b, hl, _, _ => by simp at hl
  | _ :: _, [], off, k, a, b, hl, _, _ => by simp at hl
theorem fill_vrs (place : Nat → Option (Nat × Nat)) : ∀ (l l' : List (Nat × Value)) (a b out : Array Value), PartsR ρ l l' → VRs ρ a b → Instr.fill place a l = some out → (∀ p, p ∈ l → live p.2 = true) → ∃ out', Instr.fill place b l' = some out' ∧ VRs ρ out out'
  | [], [], a, b, out, _, h, hf, _ => by simp only [Instr.fill, Option.some.injEq] at hf; subst hf; exact ⟨b, rfl, h⟩
  | (i, v) :: l, (j, u) :: m, a, b, out, ⟨hij, hvu, hlm⟩, h, hf, hlv => by
    subst hij
    simp only [Instr.fill] at hf ⊢
    cases hp : place i with
    | none => rw [hp] at hf; cases hf
    | some q =>
      obtain ⟨off, size⟩ := q
      rw [hp] at hf
      simp only at hf ⊢
      have hc := cells_vrs hvu (hlv (i, v) (by simp))
      rw [← hc.1, ← h.1]
      by_cases hb : (decide (v.cells.size ≠ size) || decide (off + v.cells.size > a.size)) = true
      · rw [if_pos hb] at hf; cases hf
      · rw [if_neg hb] at hf ⊢
        refine fill_vrs place l m _ _ out hlm ?_ hf (fun p hp => hlv p (by simp [hp]))
        have e1 : ∀ (q r : Array Value), q.zipIdx.foldl (fun cs (x : Value × Nat) => cs.setIfInBounds (off + x.2) x.1) r = (q.toList.zipIdx 0).foldl (fun cs x => cs.setIfInBounds (off + x.2) x.1) r := fun q r => by
          rw [← Array.foldl_toList, Array.toList_zipIdx]
        have := fold_vrs v.cells.toList u.cells.toList off 0 a b (by simpa using hc.1) (fun j x x' h1 h2 => hc.2 j x x' (by simpa using h1) (by simpa using h2)) h
        rw [← e1, ← e1] at this
        exact this
  | [], _ :: _, a, b, out, h, _, _, _ => h.elim
  | _ :: _, [], a, b, out, h, _, _, _ => h.elim

def evals (f : Operand → Value) (ps : Array (Nat × Operand)) : Array (Nat × Value) := ps.map fun (i, x) => (i, f x)
theorem parts_vr (f g : Operand → Value) : ∀ (ps : List (Nat × Operand)), (∀ x, x ∈ ps.map (·.2) → VR ρ (f x) (g x)) → PartsR ρ (ps.map fun (i, x) => (i, f x)) (ps.map fun (i, x) => (i, g x))
  | [], _ => trivial
  | (i, x) :: ps, h => ⟨rfl, h x (by simp), parts_vr f g ps fun y hy => h y (by simp at hy ⊢; exact .inr hy)⟩
theorem evals_vr (f g : Operand → Value) (ps : Array (Nat × Operand)) (h : ∀ x, x ∈ ps.toList.map (·.2) → VR ρ (f x) (g x)) : PartsR ρ (evals f ps).toList (evals g ps).toList := by
  unfold evals
  rw [Array.toList_map, Array.toList_map]
  exact parts_vr f g ps.toList h

def builtM (P : Program) (t : TypeId) (parts : List (Nat × Value)) : Option (Array Value) :=
  match P.info? t with
  | some it => match it.zero with
    | some z => if ground 12 (.agg z.cells) = true ∧ parts.all (fun p => live p.2) = true then P.built t parts else none
    | none => none
  | none => none
theorem built_vrs {t : TypeId} {l l' : List (Nat × Value)} {out : Array Value} (h : builtM P t l = some out) (hl : PartsR ρ l l') : ∃ out', P.built t l' = some out' ∧ VRs ρ out out' := by
  unfold builtM at h
  cases hit : P.info? t with
  | none => rw [hit] at h; cases h
  | some it =>
    rw [hit] at h
    simp only at h
    cases hz : it.zero with
    | none => rw [hz] at h; cases h
    | some z =>
      rw [hz] at h
      simp only at h
      by_cases hg0 : ground 12 (.agg z.cells) = true ∧ l.all (fun p => live p.2) = true
      · rw [if_pos hg0] at h
        have hg := hg0.1
        have hlv : ∀ p, p ∈ l → live p.2 = true := List.all_eq_true.1 hg0.2
        have hzz : VRs ρ z.cells z.cells := by
          obtain ⟨cs', e, hv⟩ := agg_inv (ground_refl (ρ := ρ) 12 hg)
          cases e; exact hv
        unfold Program.built at h ⊢
        rw [hit] at h ⊢
        cases hu : P.underlying t with
        | none => rw [hu] at h; simp at h
        | some d =>
          rw [hu] at h
          cases d with
          | array n e =>
            simp only [hz] at h ⊢
            cases hie : P.info? e with
            | none => rw [hie] at h; cases h
            | some ie =>
              rw [hie] at h
              exact fill_vrs _ l l' _ _ out hl hzz h hlv
          | struct fields =>
            simp only [hz] at h ⊢
            cases hp : fields.toList.mapM (fun f => (P.info? f.type).map fun i => (f.offset, i.size)) with
            | none => rw [hp] at h; cases h
            | some places =>
              rw [hp] at h
              exact fill_vrs _ l l' _ _ out hl hzz h hlv
          | _ => simp at h
      · rw [if_neg hg0] at h; cases h

theorem sndO_build {o : Oper} {vals : Operand → Value} {t : TypeId} {ps : Array (Nat × Operand)} {out : Array Value} (h : o.op = .build t ps) (hb : builtM P t (evals vals ps).toList = some out) : SndO P rd o vals s (.agg out) s 0 0 :=
  sndO_still (fun c => by rw [h]; simp) fun ρ C ev w _ _ _ hxs => by
    obtain ⟨out', h1, h2⟩ := built_vrs (ρ := ρ) hb (evals_vr vals ev ps fun x hx => hxs x (by rw [h]; simp only [Op.operands]; simpa using hx))
    have e : (Array.map (fun x => (x.1, ev x.2)) ps) = evals ev ps := rfl
    exact ⟨.agg out', (by simp only [execOp, h, Sem.run_bind]; rw [e, run_build w t _ out' h1]; rfl), .agg _ _ h2.1 h2.2⟩

theorem made_vrs {z : Array Value} (n : Nat) (hz : z.size ≠ 0) (hg : ground 12 (.agg z) = true) : VRs ρ (madeCells z n) (madeCells z n) := by
  refine ⟨rfl, fun i v v' h1 h2 => ?_⟩
  rw [h1] at h2
  cases h2
  have hlt : i < n := by
    rcases Nat.lt_or_ge i n with g | g
    · exact g
    · rw [Array.getElem?_eq_none (by rw [size_madeCells]; exact g)] at h1; cases h1
  have hm : i % z.size < z.size := Nat.mod_lt _ (by omega)
  have e : (madeCells z n)[i]? = some z[i % z.size] := by simp [madeCells, hlt, getElem!_pos z (i % z.size) hm]
  rw [e] at h1
  cases h1
  obtain ⟨cs', e', hv⟩ := agg_inv (ground_refl (ρ := ρ) 12 hg)
  cases e'
  exact hv.2 _ _ _ (Array.getElem?_eq_getElem hm) (Array.getElem?_eq_getElem hm)

theorem sndO_newSlice {o : Oper} {vals : Operand → Value} {m : MObj} {n c : Nat} (hd : ∀ c, o.op ≠ .defer c)
    (h : ∀ (ρ : Ren) (ev : Operand → Value) (w : World), (∀ x, x ∈ o.op.operands → VR ρ (vals x) (ev x)) →
      ∃ (o' : Obj) (L : Loc), (execOp ev o).run P w = .ok (.value (.slice (some ⟨w.heap.size, 0, none⟩) n c)) (w.alloc o') ∧ L.blk = w.heap.size ∧ L.base = 0 ∧ OR ρ L m o') :
    SndO P rd o vals s (.slice (some ⟨s.next, 0, none⟩) n c) (s.push m) 0 0 :=
  sndO_of hd (stat_push s m) fun ro ρ C ev w hp hv => by
    obtain ⟨o', L, hr, hL, hb, ho⟩ := h ρ ev w hv
    obtain ⟨p1, r1, hs⟩ := step_new hp hL ho
    refine ⟨_, _, _, .inl hr, p1, r1, ?_⟩
    have := VR.slice (ρ := ρ.add s.next L) s.next 0 n c c L hs (.inl rfl)
    rw [hL, hb] at this
    exact this
theorem sndO_buildSlice {o : Oper} {vals : Operand → Value} {t e : TypeId} {n : Nat} {ps : Array (Nat × Operand)} {ie : TypeInfo} {z : Value} {out : Array Value} (h : o.op = .buildSlice t n ps)
    (ht : P.underlying t = some (.slice e)) (hi : P.info? e = some ie) (hz : ie.zero = some z) (hg : ground 12 (.agg z.cells) = true) (hzs : z.cells.size ≠ 0) (h1 : n * ie.size ≤ 16777216) (h0 : n * ie.size ≠ 0)
    (hf : Instr.fill (fun i => some (i * ie.size, ie.size)) (madeCells z.cells (n * ie.size)) (evals vals ps).toList = some out) (hlv : (evals vals ps).toList.all (fun p => live p.2) = true) :
    SndO P rd o vals s (.slice (some ⟨s.next, 0, none⟩) n n) (s.push (.cells out.toList e false 0 false)) 0 0 :=
  sndO_newSlice (fun c => by rw [h]; simp) fun ρ ev w hxs => by
    obtain ⟨out', g1, g2⟩ := fill_vrs (ρ := ρ) _ _ (evals ev ps).toList _ _ out (evals_vr vals ev ps fun x hx => hxs x (by rw [h]; simp only [Op.operands]; simpa using hx)) (made_vrs (n * ie.size) hzs hg) hf (List.all_eq_true.1 hlv)
    have hr := run_buildSlice w t e n (evals ev ps) out' ie z ht hi hz (by omega) h0 g1
    refine ⟨.cells out' e, ⟨w.heap.size, 0, false, 0, out'.size⟩, ?_, rfl, rfl, or_cells g2 e _ false rfl⟩
    simp only [execOp, h, Sem.run_bind]
    rw [show (Array.map (fun x => (x.1, ev x.2)) ps) = evals ev ps from rfl, hr]
    rfl
theorem sndO_buildEmpty {o : Oper} {vals : Operand → Value} {t e : TypeId} {n : Nat} {ps : Array (Nat × Operand)} {ie : TypeInfo} (h : o.op = .buildSlice t n ps)
    (ht : P.underlying t = some (.slice e)) (hi : P.info? e = some ie) (h0 : n * ie.size = 0) (hp : ps.toList = []) :
    SndO P rd o vals s (.slice (some ⟨s.next, 0, none⟩) n n) (s.push (.cells [] e false 0 false)) 0 0 :=
  sndO_newSlice (fun c => by rw [h]; simp) fun ρ ev w hxs => by
    obtain rfl : ps = #[] := by apply Array.ext'; simpa using hp
    have hsz : (sizeOf e).run P w = .ok ie.size w := by simp [sizeOf, run_typeInfo w hi]
    refine ⟨.cells #[] e, ⟨w.heap.size, 0, false, 0, 0⟩, ?_, rfl, rfl, or_cells (cs := #[]) (cs' := #[]) ⟨rfl, fun i v v' h => by simp at h⟩ e _ false rfl⟩
    simp [execOp, h, Instr.buildSlice, run_underlying ht, hsz, h0, newRow, Instr.fill, Array.range_zero']
theorem sndO_makeSlice {o : Oper} {vals : Operand → Value} {t e : TypeId} {x y : Operand} {ie : TypeInfo} {z : Value} {kl kc : IntKind} {l c : Int} (h : o.op = .makeSlice t x y)
    (ht : P.underlying t = some (.slice e)) (hi : P.info? e = some ie) (hz : ie.zero = some z) (hg : ground 12 (.agg z.cells) = true) (hzs : z.cells.size ≠ 0) (hx : vals x = .int kl l) (hy : vals y = .int kc c)
    (h0 : 0 ≤ l) (h1 : l ≤ c) (h2 : (ie.bytes : Int) * c ≤ 281474976710656) (h3 : c ≤ 9223372036854775807) :
    SndO P rd o vals s (.slice (some ⟨s.next, 0, none⟩) l.toNat c.toNat) (s.push (.cells (madeCells z.cells (c.toNat * ie.size)).toList e false 0 false)) 0 0 :=
  sndO_newSlice (fun c => by rw [h]; simp) fun ρ ev w hxs => by
    have e1 := hxs x (by simp [h, Op.operands])
    have e2 := hxs y (by simp [h, Op.operands])
    rw [hx] at e1
    rw [hy] at e2
    have f1 := int_inv e1
    have f2 := int_inv e2
    have hr := run_make (P := P) w t e ie z ht hi hz kl kc l c h0 h1 h2 h3
    refine ⟨.cells (madeCells z.cells (c.toNat * ie.size)) e, ⟨w.heap.size, 0, false, 0, (madeCells z.cells (c.toNat * ie.size)).size⟩, ?_, rfl, rfl, or_cells (made_vrs _ hzs hg) e _ false rfl⟩
    simp [execOp, h, f1, f2, hr]

theorem sndO_lenSlice {o : Oper} {vals : Operand → Value} {t e : TypeId} {x : Operand} {c : Call} {a : Option Addr} {n k : Nat} (h : o.op = .call c) (hc : c.callee = .builtin .len) (ha : c.args = #[x]) (hat : c.argTypes = #[t])
    (ht : P.underlying t = some (.slice e)) (hx : vals x = .slice a n k) : SndO P rd o vals s (.int .i64 n) s 0 0 :=
  sndO_still (fun c => by rw [h]; simp) fun ρ C ev w _ _ _ hxs => by
    have h1 := hxs x (by simp [h, Op.operands, Call.operands, hc, ha])
    rw [hx] at h1
    have he : ∃ a' k', ev x = .slice a' n k' := by
      generalize ev x = y at h1
      cases h1 <;> exact ⟨_, _, rfl⟩
    obtain ⟨a', k', he⟩ := he
    refine ⟨.int .i64 n, ?_, .int _ _⟩
    simp [execOp, h, resolve, hc, ha, hat, invoke, builtin, Builtin.len_, he, run_underlying ht, goInt]
theorem sndO_makeFunc {o : Oper} {vals : Operand → Value} {fn : Fn} {azz bs : Array Operand} (h : o.op = .makeFunc fn azz bs) (hf : plainFn fn = true) : SndO P rd o vals s (.func fn (azz.map vals) (bs.map vals)) s 0 0 :=
  sndO_still (fun c => by rw [h]; simp) fun ρ C ev w _ _ _ hxs => by
    have hm : ∀ (l : Array Operand), (∀ x, x ∈ l → VR ρ (vals x) (ev x)) → ∀ (i : Nat) (v v' : Value), (l.map vals)[i]? = some v → (l.map ev)[i]? = some v' → VR ρ v v' := fun l hl i v v' h1 h2 => by
      simp only [Array.getElem?_map, Option.map_eq_some_iff] at h1 h2
      obtain ⟨x, g1, rfl⟩ := h1
      obtain ⟨x', g2, rfl⟩ := h2
      rw [g1] at g2
      cases g2
      exact hl x (Array.mem_of_getElem? g1)
    refine ⟨.func fn (azz.map ev) (bs.map ev), by simp [execOp, h, Instr.makeFunc], .func _ _ _ _ _ hf (by simp) (by simp) (hm azz fun x hx => hxs x (by simp [h, Op.operands, hx])) (hm bs fun x hx => hxs x (by simp [h, Op.operands, hx]))⟩
theorem sndO_iface {o : Oper} {vals : Operand → Value} {t : TypeId} {x : Operand} {d : TypeDesc} (h : o.op = .makeInterface t x) (ht : P.underlying t = some d) (hd : ∀ ms, d ≠ .interface ms) : SndO P rd o vals s (.iface t (vals x)) s 0 0 :=
  sndO_still (fun c => by rw [h]; simp) fun ρ C ev w _ _ _ hxs => by
    have h1 := hxs x (by simp [h, Op.operands])
    refine ⟨.iface t (ev x), ?_, .iface t _ _ h1⟩
    cases d <;> first | (exact absurd rfl (hd _)) | simp [execOp, h, Instr.makeInterface, run_underlying ht]
end Mini
end Go.Proofs.YtbkpnhbcihcgaaaGreatDoor
end
section
namespace Go.Proofs.YtbkpnhbcihcgaaaGreatDoor
set_option linter.all false
namespace Mini
variable {P : Program} {rd : Option Nat} {s s1 : St} {R W : Nat} {ro : Option Nat} {ρ : Ren} {C : Nat → MObj} {w : World}

def oneBound (y : Nat) : Value → Option Nat
  | .int _ i => if 0 ≤ i ∧ i ≤ y then some i.toNat else none
  | _ => none
def boundsM (len cap : Nat) (lo hi mx : Option Value) : Option (Nat × Nat × Nat) :=
  match (match mx with | none => some cap | some v => oneBound cap v) with
  | none => none
  | some m =>
    match (match hi, mx with | some v, _ => oneBound m v | none, none => some len | none, some _ => none) with
    | none => none
    | some h =>
      match (match lo with | none => some 0 | some v => oneBound h v) with
      | none => none
      | some l => some (l, h, m)
theorem oneBound_run {y y' : Nat} {v : Value} {n : Nat} (h : oneBound y v = some n) (hy : y ≤ y') (code : BoundsCode) : n ≤ y ∧ (Instr.sliceBound v y' code).run P w = .ok n w := by
  cases v with
  | int k i =>
    simp only [oneBound] at h
    by_cases c : 0 ≤ i ∧ i ≤ y
    · rw [if_pos c] at h
      cases h
      refine ⟨by omega, ?_⟩
      have : 0 ≤ i ∧ i ≤ (y' : Int) := ⟨c.1, by omega⟩
      simp [Instr.sliceBound, asIntOf, this.1, this.2]
    · rw [if_neg c] at h; cases h
  | _ => simp [oneBound] at h
theorem boundsM_run {b : Bool} {len cap cap' l h m : Nat} {lo hi mx : Option Value} (hb : boundsM len cap lo hi mx = some (l, h, m)) (hlen : len ≤ cap) (hc : cap ≤ cap') :
    (Instr.sliceBounds b len cap' lo hi mx).run P w = .ok (l, h, if mx.isNone then cap' else m) w ∧ l ≤ h ∧ h ≤ m ∧ m ≤ cap := by
  unfold boundsM at hb
  cases mx with
  | none =>
    simp only at hb
    cases hi with
    | none =>
      simp only at hb
      cases lo with
      | none => simp only [Option.some.injEq, Prod.mk.injEq] at hb; obtain ⟨rfl, rfl, rfl⟩ := hb; exact ⟨by simp [Instr.sliceBounds], by omega, hlen, Nat.le_refl _⟩
      | some vl =>
        simp only at hb
        cases e : oneBound len vl with
        | none => rw [e] at hb; cases hb
        | some l0 =>
          rw [e] at hb
          simp only [Option.some.injEq, Prod.mk.injEq] at hb
          obtain ⟨rfl, rfl, rfl⟩ := hb
          obtain ⟨h1, h2⟩ := oneBound_run (P := P) (w := w) e (Nat.le_refl _) .sliceB
          exact ⟨by simp [Instr.sliceBounds, h2], h1, hlen, Nat.le_refl _⟩
    | some vh =>
      simp only at hb
      cases e : oneBound cap vh with
      | none => rw [e] at hb; cases hb
      | some h0 =>
        rw [e] at hb
        simp only at hb
        have g1 := (oneBound_run (P := P) (w := w) e hc .sliceAcap).1
        have g2 := (oneBound_run (P := P) (w := w) e hc .sliceAcap).2
        have g3 := (oneBound_run (P := P) (w := w) e hc .sliceAlen).2
        cases lo with
        | none => simp only [Option.some.injEq, Prod.mk.injEq] at hb; obtain ⟨rfl, rfl, rfl⟩ := hb; exact ⟨by cases b <;> simp [Instr.sliceBounds, g2, g3], by omega, g1, Nat.le_refl _⟩
        | some vl =>
          simp only at hb
          cases e2 : oneBound h0 vl with
          | none => rw [e2] at hb; cases hb
          | some l0 =>
            rw [e2] at hb
            simp only [Option.some.injEq, Prod.mk.injEq] at hb
            obtain ⟨rfl, rfl, rfl⟩ := hb
            obtain ⟨h1, h2⟩ := oneBound_run (P := P) (w := w) e2 (Nat.le_refl _) .sliceB
            exact ⟨by cases b <;> simp [Instr.sliceBounds, g2, g3, h2], h1, g1, Nat.le_refl _⟩
  | some vm =>
    simp only at hb
    cases em : oneBound cap vm with
    | none => rw [em] at hb; cases hb
    | some m0 =>
      rw [em] at hb
      simp only at hb
      have m1 := (oneBound_run (P := P) (w := w) em hc .slice3Acap).1
      have m2 := (oneBound_run (P := P) (w := w) em hc .slice3Acap).2
      have m3 := (oneBound_run (P := P) (w := w) em hc .slice3Alen).2
      cases hi with
      | none => simp at hb
      | some vh =>
        simp only at hb
        cases e : oneBound m0 vh with
        | none => rw [e] at hb; cases hb
        | some h0 =>
          rw [e] at hb
          simp only at hb
          have g1 := (oneBound_run (P := P) (w := w) e (Nat.le_refl _) .slice3B).1
          have g2 := (oneBound_run (P := P) (w := w) e (Nat.le_refl _) .slice3B).2
          cases lo with
          | none => simp only [Option.some.injEq, Prod.mk.injEq] at hb; obtain ⟨rfl, rfl, rfl⟩ := hb; exact ⟨by cases b <;> simp [Instr.sliceBounds, m2, m3, g2], by omega, g1, m1⟩
          | some vl =>
            simp only at hb
            cases e2 : oneBound h0 vl with
            | none => rw [e2] at hb; cases hb
            | some l0 =>
              rw [e2] at hb
              simp only [Option.some.injEq, Prod.mk.injEq] at hb
              obtain ⟨rfl, rfl, rfl⟩ := hb
              obtain ⟨h1, h2⟩ := oneBound_run (P := P) (w := w) e2 (Nat.le_refl _) .slice3C
              exact ⟨by cases b <;> simp [Instr.sliceBounds, m2, m3, g2, h2], h1, g1, m1⟩

def isIntO : Option Value → Bool
  | none => true
  | some (.int _ _) => true
  | _ => false
theorem opt_eq {f g : Operand → Value} {x : Option Operand} (h : ∀ y, y ∈ x.toArray → VR ρ (f y) (g y)) (hi : isIntO (x.map f) = true) : x.map g = x.map f := by
  cases x with
  | none => rfl
  | some y =>
    have h1 := h y (by simp)
    simp only [Option.map_some] at hi ⊢
    generalize f y = v at h1 hi
    cases v <;> simp [isIntO] at hi
    rw [int_inv h1]

def dead : Addr := ⟨0, 0, some 0⟩
def subM (b off size l h m : Nat) (full : Bool) : Value := if full && m == l then .slice (some dead) 0 0 else .slice (some ⟨b, off + l * size, none⟩) (h - l) (m - l)

theorem sndO_subSlice {o : Oper} {vals : Operand → Value} {t e e' : TypeId} {x : Operand} {lo hi mx : Option Operand} {i : TypeInfo} {b off n c l h m sz : Nat} {cc : List Value} {opn r : Bool} (hop : o.op = .slice t x lo hi mx)
    (ht : P.underlying t = some (.slice e)) (hi' : P.info? e = some i) (hx : vals x = .slice (some ⟨b, off, none⟩) n c) (hc : s.get b = .cells cc e' opn sz r) (hsz : opn = true → sz = i.size) (hnc : n ≤ c)
    (h1 : isIntO (lo.map vals) = true) (h2 : isIntO (hi.map vals) = true) (h3 : isIntO (mx.map vals) = true) (hb : boundsM n c (lo.map vals) (hi.map vals) (mx.map vals) = some (l, h, m)) :
    SndO P rd o vals s (subM b off i.size l h m mx.isSome) s (2 ^ b) 0 :=
  sndO_still (fun c => by rw [hop]; simp) fun ρ C ev w _ ha hr hxs => by
    have g1 := hxs x (by simp [hop, Op.operands])
    have e1 := opt_eq (ρ := ρ) (f := vals) (g := ev) (fun y hy => hxs y (by rw [hop]; simp [Op.operands] at hy ⊢; simp [hy])) h1
    have e2 := opt_eq (ρ := ρ) (f := vals) (g := ev) (fun y hy => hxs y (by rw [hop]; simp [Op.operands] at hy ⊢; simp [hy])) h2
    have e3 := opt_eq (ρ := ρ) (f := vals) (g := ev) (fun y hy => hxs y (by rw [hop]; simp [Op.operands] at hy ⊢; simp [hy])) h3
    rw [hx] at g1
    have hsr : (sizeOf e).run P w = .ok i.size w := by simp [sizeOf, run_typeInfo w hi']
    have hn : (mx.map vals).isNone = mx.isNone := by cases mx <;> rfl
    generalize hev : ev x = y at g1
    cases g1 with
    | empty a a' =>
      obtain ⟨r1, r2, r3, r4⟩ := boundsM_run (P := P) (w := w) (b := true) hb hnc (Nat.le_refl 0)
      have hm : m = 0 := by omega
      have hh : h = 0 := by omega
      have hl : l = 0 := by omega
      subst hm hh hl
      refine ⟨.slice (some a') 0 0, ?_, ?_⟩
      · simp [execOp, hop, hev, Instr.sliceAt, run_underlying ht, Instr.slice, e1, e2, e3, r1, hsr]
      · unfold subM
        split <;> exact .empty _ _
    | slice b off n c c' L k1 k2 =>
      have hcc : c ≤ c' := by rcases k2 with k | k <;> omega
      obtain ⟨r1, r2, r3, r4⟩ := boundsM_run (P := P) (w := w) (b := true) hb hnc hcc
      have hbb := ha b (bit_self b) (St.lt_of_live (by rw [hc]; simp))
      obtain ⟨L', cs, fr, q1, q2, q3⟩ := row_of hr (hbb.trans hc)
      rw [k1] at q1
      cases q1
      obtain ⟨p1, p2, p3, p4, p5, p6, p7, p8⟩ := q3
      cases mx with
      | none =>
        simp only [Option.map_none, Option.isNone_none, if_true] at r1 e3
        have hm : m = c := by
          unfold boundsM at hb
          simp only [Option.map_none] at hb
          split at hb
          · cases hb
          · split at hb
            · cases hb
            · simp only [Option.some.injEq, Prod.mk.injEq] at hb; exact hb.2.2.symm
        refine ⟨.slice (some (if c' = l then ⟨L.blk, L.base + off, none⟩ else ⟨L.blk, L.base + off + l * i.size, none⟩)) (h - l) (c' - l), ?_, ?_⟩
        · simp [execOp, hop, hev, Instr.sliceAt, run_underlying ht, Instr.slice, e1, e2, r1, hsr]
          split <;> simp [add_mk]
        · simp only [subM, Option.isSome_none, Bool.false_and, Bool.false_eq_true, if_false]
          by_cases cl : c' = l
          · have : h - l = 0 := by omega
            have z1 : m - l = 0 := by omega
            have z2 : c' - l = 0 := by omega
            rw [this, z1, z2]
            exact .empty _ _
          · rw [if_neg cl, Nat.add_assoc]
            refine .slice b (off + l * i.size) (h - l) (m - l) (c' - l) L k1 ?_
            rcases k2 with k | ⟨ka, kb, kc⟩
            · exact .inl (by omega)
            · refine .inr ⟨ka, by omega, ?_⟩
              have hs2 : i.size = L.sz := by rw [p2]; exact (hsz (p1 ▸ ka)).symm
              rw [hs2, ← Nat.add_assoc]
              have : l * L.sz + (c' - l) * L.sz = c' * L.sz := by rw [← Nat.add_mul]; congr 1; omega
              omega
      | some vm =>
        simp only [Option.map_some, Option.isNone_some, Bool.false_eq_true, if_false] at r1 e3
        refine ⟨.slice (some (if m = l then ⟨L.blk, L.base + off, none⟩ else ⟨L.blk, L.base + off + l * i.size, none⟩)) (h - l) (m - l), ?_, ?_⟩
        · simp [execOp, hop, hev, Instr.sliceAt, run_underlying ht, Instr.slice, e1, e2, e3, r1, hsr]
          split <;> simp [add_mk]
        · simp only [subM, Option.isSome_some, Bool.true_and, beq_iff_eq]
          by_cases cl : m = l
          · have z0 : h - l = 0 := by omega
            have z1 : m - l = 0 := by omega
            rw [if_pos cl, z0, z1]
            exact .empty _ _
          · rw [if_neg cl, if_neg cl, Nat.add_assoc]
            exact .slice b (off + l * i.size) (h - l) (m - l) (m - l) L k1 (.inl rfl)

theorem sndO_subArr {o : Oper} {vals : Operand → Value} {t e : TypeId} {x : Operand} {lo hi mx : Option Operand} {i : TypeInfo} {b off n l h m : Nat} (hop : o.op = .slice t x lo hi mx)
    (ht : P.underlying t = some (.array n e)) (hi' : P.info? e = some i) (hx : vals x = .pointer (some ⟨b, off, none⟩))
    (h1 : isIntO (lo.map vals) = true) (h2 : isIntO (hi.map vals) = true) (h3 : isIntO (mx.map vals) = true) (hb : boundsM n n (lo.map vals) (hi.map vals) (mx.map vals) = some (l, h, m)) :
    SndO P rd o vals s (if m = l then .slice (some dead) 0 0 else .slice (some ⟨b, off + l * i.size, none⟩) (h - l) (m - l)) s 0 0 :=
  sndO_still (fun c => by rw [hop]; simp) fun ρ C ev w _ _ _ hxs => by
    have g1 := hxs x (by simp [hop, Op.operands])
    have e1 := opt_eq (ρ := ρ) (f := vals) (g := ev) (fun y hy => hxs y (by rw [hop]; simp [Op.operands] at hy ⊢; simp [hy])) h1
    have e2 := opt_eq (ρ := ρ) (f := vals) (g := ev) (fun y hy => hxs y (by rw [hop]; simp [Op.operands] at hy ⊢; simp [hy])) h2
    have e3 := opt_eq (ρ := ρ) (f := vals) (g := ev) (fun y hy => hxs y (by rw [hop]; simp [Op.operands] at hy ⊢; simp [hy])) h3
    rw [hx] at g1
    obtain ⟨L, k1, he⟩ := ptr_inv g1
    have hsr : (sizeOf e).run P w = .ok i.size w := by simp [sizeOf, run_typeInfo w hi']
    obtain ⟨r1, r2, r3, r4⟩ := boundsM_run (P := P) (w := w) (b := false) hb (Nat.le_refl n) (Nat.le_refl n)
    have hm : (if (mx.map vals).isNone = true then n else m) = m := by
      cases mx with
      | none =>
        simp only [Option.map_none, Option.isNone_none, if_true]
        unfold boundsM at hb
        simp only [Option.map_none] at hb
        split at hb
        · cases hb
        · split at hb
          · cases hb
          · simp only [Option.some.injEq, Prod.mk.injEq] at hb; exact hb.2.2
      | some v => rfl
    rw [hm] at r1
    refine ⟨.slice (some (if m = l then ⟨L.blk, L.base + off, none⟩ else ⟨L.blk, L.base + off + l * i.size, none⟩)) (h - l) (m - l), ?_, ?_⟩
    · simp [execOp, hop, he, Instr.sliceAt, run_underlying ht, Instr.sureAddr, e1, e2, e3, r1, hsr]
      split <;> simp [add_mk]
    · by_cases cl : m = l
      · have z0 : h - l = 0 := by omega
        have z1 : m - l = 0 := by omega
        rw [if_pos cl, z0, z1]
        exact .empty _ _
      · rw [if_neg cl, if_neg cl, Nat.add_assoc]
        exact .slice b (off + l * i.size) (h - l) (m - l) (m - l) L k1 (.inl rfl)
end Mini
end Go.Proofs.YtbkpnhbcihcgaaaGreatDoor
end
section
namespace Go.Proofs.YtbkpnhbcihcgaaaGreatDoor
set_option linter.all false
namespace Mini
variable {P : Program} {rd : Option Nat} {s s1 : St} {R W : Nat} {ro : Option Nat} {ρ : Ren} {C : Nat → MObj} {w : World}

def elemsM (s : St) (size : Nat) : Value → Option (Nat × List Value × Nat)
  | .slice none n _ => if n = 0 then some (0, [], 0) else none
  | .slice (some a) n _ =>
    if n = 0 then some (0, [], 0) else
    match a.spot, s.get a.block with
    | none, .cells c _ _ _ _ => if a.off + n * size ≤ c.length then some (n, (cut c a.off (n * size)).toList, 2 ^ a.block) else none
    | _, _ => none
  | .string b => some (b.size, b.data.toList.map (fun x => .int .u8 x.toNat), 0)
  | _ => none

theorem elems_run {size : Nat} {x x' : Value} {n : Nat} {l : List Value} {R0 : Nat} (h : elemsM s size x = some (n, l, R0)) (hv : VR ρ x x') (ha : ∀ b, R0.testBit b = true → b < s.next → C b = s.get b) (hr : WRel ρ C w) :
    (∀ w, (Builtin.lenOf x').run P w = .ok n w) ∧ ∃ arr, (∀ (u : World), u.heap = w.heap → (Builtin.firstCells size n x').run P u = .ok arr u) ∧ VRs ρ l.toArray arr := by
  have hnil : VRs ρ ([] : List Value).toArray #[] := ⟨rfl, fun i v v' h => by simp at h⟩
  cases hv with
  | slice0 m c =>
    simp only [elemsM] at h
    by_cases e : m = 0
    · rw [if_pos e] at h; cases h
      exact ⟨fun w => by simp [Builtin.lenOf, e], #[], fun u _ => by simp [Builtin.firstCells], hnil⟩
    · rw [if_neg e] at h; cases h
  | empty a a' =>
    simp only [elemsM, if_true] at h
    cases h
    exact ⟨fun w => by simp [Builtin.lenOf], #[], fun u _ => by simp [Builtin.firstCells, loadCells, loadCellsFrom], hnil⟩
  | slice b o m c c' L h1 h2 =>
    simp only [elemsM] at h
    by_cases e : m = 0
    · rw [if_pos e] at h; cases h
      exact ⟨fun w => by simp [Builtin.lenOf, e], #[], fun u _ => by simp [Builtin.firstCells, loadCells, loadCellsFrom], hnil⟩
    · rw [if_neg e] at h
      cases hb : s.get b with
      | cells cc e' opn sz r =>
        rw [hb] at h
        simp only at h
        by_cases hle : o + m * size ≤ cc.length
        · rw [if_pos hle] at h
          simp only [Option.some.injEq, Prod.mk.injEq] at h
          obtain ⟨rfl, rfl, rfl⟩ := h
          have hbb := ha b (bit_self b) (St.lt_of_live (by rw [hb]; simp))
          obtain ⟨L', cs, fr, q1, q2, q3⟩ := row_of hr (hbb.trans hb)
          rw [h1] at q1
          cases q1
          obtain ⟨p1, p2, p3, p4, p5, p6, p7, p8⟩ := q3
          refine ⟨fun w => by simp [Builtin.lenOf], cut cs.toList (L.base + o) (m * size), fun u hu => ?_, ?_⟩
          · have hl := loadCells_run (P := P) (w := u) (base := L.base + o) (by rw [hu]; exact q2) (m * size) 0 #[] (by omega)
            simp [Builtin.firstCells, loadCells, hl, cut]
          · have := cut_vrs (ρ := ρ) (L := L) (c := cc) (cs := cs) (o := o) (n := m * size) hle (by omega) p6
            simpa using this
        · rw [if_neg hle] at h; cases h
      | _ => rw [hb] at h; simp at h
  | string b =>
    simp only [elemsM, Option.some.injEq, Prod.mk.injEq] at h
    obtain ⟨rfl, rfl, rfl⟩ := h
    refine ⟨fun w => by simp [Builtin.lenOf], (b.data.map fun x => .int .u8 x.toNat), fun u _ => ?_, ?_⟩
    · have e : b.extract 0 b.size = b := by simp
      simp [Builtin.firstCells, e]
    · refine ⟨by simp, fun i v v' g1 g2 => ?_⟩
      have : (b.data.toList.map (fun x => Value.int .u8 x.toNat)).toArray = b.data.map (fun x => Value.int .u8 x.toNat) := by apply Array.ext'; simp
      rw [this, g2] at g1
      cases g1
      simp only [Array.getElem?_map, Option.map_eq_some_iff] at g2
      obtain ⟨x, _, rfl⟩ := g2
      exact .int _ _
  | _ => simp [elemsM] at h

set_option maxHeartbeats 1000000 in
theorem append_room {tS tX ty e : TypeId} {d : TypeDesc} {i : TypeInfo} {base : Option Addr} {sLen sCap n : Nat} {x' : Value} {arr : Array Value} {w1 : World} (ht : P.underlying tS = some (.slice e)) (hd : P.underlying tX = some d) (hd' : d = .string ∨ ∃ e', d = .slice e')
    (hi : P.info? e = some i) (hl : ∀ w, (Builtin.lenOf x').run P w = .ok n w) (ha : (Builtin.firstCells i.size n x').run P w = .ok arr w) (hroom : sLen + n ≤ sCap)
    (hst : (match base with | some a => (storeCells (a.add (sLen * i.size)) arr.toList).run P w | none => .ok () w) = .ok () w1) :
    (Builtin.append_ #[tS, tX] ty #[.slice base sLen sCap, x']).run P w = .ok (.slice base (sLen + n) sCap) w1 := by
  have hsz : ∀ w, (sizeOf e).run P w = .ok i.size w := fun w => by simp [sizeOf, run_typeInfo w hi]
  rcases hd' with rfl | ⟨e', rfl⟩
  all_goals
    cases base with
    | none =>
      simp only at hst
      cases hst
      simp [Builtin.append_, run_underlying ht, run_underlying hd, hsz, hl, hroom, ha]
    | some a =>
      simp only at hst
      simp [Builtin.append_, run_underlying ht, run_underlying hd, hsz, hl, hroom, ha, hst]

set_option maxHeartbeats 1000000 in
theorem append_grow {tS tX ty e : TypeId} {d : TypeDesc} {i : TypeInfo} {z : Value} {base : Option Addr} {sLen sCap n : Nat} {x' : Value} {old arr : Array Value} (ht : P.underlying tS = some (.slice e)) (hd : P.underlying tX = some d) (hd' : d = .string ∨ ∃ e', d = .slice e')
    (hi : P.info? e = some i) (hz : i.zero = some z) (hb0 : i.bytes ≠ 0) (hb : (sLen + n) * i.bytes ≤ 140737488355328) (hl : ∀ w, (Builtin.lenOf x').run P w = .ok n w) (ha : ∀ u : World, u.heap = w.heap → (Builtin.firstCells i.size n x').run P u = .ok arr u)
    (ho : ∀ u : World, u.heap = w.heap → (Builtin.firstCells i.size sLen (.slice base sLen sCap)).run P u = .ok old u) (hroom : ¬ sLen + n ≤ sCap) :
    ∃ newCap, sLen + n ≤ newCap ∧ (Builtin.append_ #[tS, tX] ty #[.slice base sLen sCap, x']).run P w =
      .ok (.slice (some ⟨w.heap.size, 0, none⟩) (sLen + n) newCap) (w.drew.alloc (.cells (old ++ arr ++ Builtin.zeroCells z.cells (newCap - (sLen + n))) e)) := by
  have hsz : ∀ w, (sizeOf e).run P w = .ok i.size w := fun w => by simp [sizeOf, run_typeInfo w hi]
  have hzr : ∀ w, (zeroValue e).run P w = .ok z w := fun w => by simp [zeroValue, run_typeInfo w hi, hz]
  have hti : ∀ w, (typeInfo e).run P w = .ok i w := fun w => run_typeInfo w hi
  have hfit : ¬ (281474976710656 < Builtin.nextslicecap (sLen + n) sCap * i.bytes) := by
    have := growslice_fits (need := sLen + n) (old := sCap) (bytes := i.bytes) (by omega) hb
    omega
  have hsmall : sLen + n ≤ 140737488355328 := Nat.le_trans (Nat.le_mul_of_pos_right _ (by omega)) hb
  refine ⟨Question.cut (.appendCap (sLen + n) sCap e) (w.tape w.drawn (.appendCap (sLen + n) sCap e)), by simp only [Question.cut]; omega, ?_⟩
  have ha' := ha w.drew rfl
  have ho' := ho w.drew rfl
  have e0 : ({ w with drawn := w.drawn + 1 } : World) = w.drew := rfl
  rcases hd' with rfl | ⟨e', rfl⟩
  all_goals
    simp [Builtin.append_, run_underlying ht, run_underlying hd, hsz, hl, hroom, hti, hb0, hfit, hzr, Question.forced, e0, ha', ho', newRow]

theorem step_on {b : Nat} {o : MObj} {o1 : Obj} {L L1 : Loc} {w1 : World} (hp : Pre P rd s ((s.put b .hole).push o) R (2 ^ b) ro ρ C w) (hb : s.get b ≠ .hole) (hro : roO (s.get b) = false) (hL : ρ b = some L)
    (hsz : w.heap.size ≤ w1.heap.size) (hoth : ∀ x, x < w.heap.size → x ≠ L.blk → w1.heap[x]? = w.heap[x]?) (hos : w1.os = w.os) (htp : w1.tape = w.tape) (hout : w1.output = w.output)
    (h2 : w1.heap[L1.blk]? = some o1) (h3 : L1.blk = L.blk ∨ w.heap.size ≤ L1.blk) (ho : OR ρ L1 o o1) :
    Post ρ s ((s.put b .hole).push o) (2 ^ b) w (ρ.add s.next L1) w1 ∧ WRel (ρ.add s.next L1) (upd C s ((s.put b .hole).push o) (2 ^ b)) w1 ∧ (ρ.add s.next L1) s.next = some L1 := by
  have hlt := St.lt_of_live hb
  have hCb : C b ≠ .hole := by rw [hp.agree b (by rw [or_bit, bit_self]; simp) hlt]; exact hb
  have hrC : roO (C b) = false := by rw [hp.agree b (by rw [or_bit, bit_self]; simp) hlt]; exact hro
  have hnext : ((s.put b .hole).push o).next = s.next + 1 := rfl
  have hfree := hp.free s.next (Nat.le_refl _) (by rw [hnext]; omega)
  have hself : (ρ.add s.next L1) s.next = some L1 := if_pos rfl
  have hoth' : ∀ x, x ≠ s.next → (ρ.add s.next L1) x = ρ x := fun x e => if_neg e
  have hsub : ρ.le (ρ.add s.next L1) := fun x L' hx => by
    by_cases e : x = s.next
    · subst e; rw [hfree.1] at hx; cases hx
    · exact (hoth' x e).trans hx
  have hupd : ∀ x, upd C s ((s.put b .hole).push o) (2 ^ b) x = if x = s.next then o else if x = b then .hole else C x := fun x => by
    unfold upd
    by_cases e : x = s.next
    · subst e
      rw [if_pos (.inl ⟨Nat.le_refl _, by rw [hnext]; omega⟩), if_pos rfl]
      exact (s.put b .hole).get_push_new o
    · rw [if_neg e]
      by_cases eb : x = b
      · subst eb
        rw [if_pos (.inr ⟨bit_self x, hlt⟩), if_pos rfl, (s.put x .hole).get_push_old o x hlt, s.get_put_same x .hole hb]
      · rw [if_neg eb, if_neg (by
          rintro (h | h)
          · rw [hnext] at h; omega
          · exact eb (bit_iff.1 h.1))]
  obtain ⟨L0, ob, q1, q2, q3⟩ := hp.rel.1 b hCb
  rw [hL] at q1
  cases q1
  have hLlt := lt_of_some q2
  refine ⟨⟨hsub, fun x hx => ?_, fun x L' g1 g2 => ?_, hsz, fun x hx hf => hoth x hx fun e => hf b L (bit_self b) hlt hL e.symm, hos, htp, hout⟩, ⟨fun x hx => ?_, fun x x' La Lb g1 g2 gq g3 g4 e => ?_⟩, hself⟩
  · by_cases e : x = s.next
    · subst e; exact ⟨Nat.le_refl _, by rw [hnext]; omega⟩
    · exact absurd (hoth' x e) hx
  · by_cases e : x = s.next
    · subst e
      rw [hself] at g2
      cases g2
      rcases h3 with h3 | h3
      · exact .inr ⟨b, L, bit_self b, hlt, hL, h3.symm⟩
      · exact .inl h3
    · rw [hoth' x e, g1] at g2; cases g2
  · rw [hupd] at hx ⊢
    by_cases e : x = s.next
    · subst e
      rw [if_pos rfl]
      exact ⟨L1, o1, hself, h2, ho.mono hsub⟩
    · rw [if_neg e] at hx ⊢
      by_cases eb : x = b
      · rw [if_pos eb] at hx; exact absurd rfl hx
      · rw [if_neg eb] at hx ⊢
        obtain ⟨L', o2, g1, g2, g3⟩ := hp.rel.1 x hx
        refine ⟨L', o2, hsub _ _ g1, (hoth _ (lt_of_some g2) fun e' => eb ?_).trans g2, g3.mono hsub⟩
        exact hp.rel.2 x b L' L hx hCb (by rw [hrC, Bool.and_false]) g1 hL e'
  · rw [hupd] at g1 g2
    have far : ∀ y Ly, y ≠ s.next → y ≠ b → C y ≠ .hole → ρ y = some Ly → Ly.blk ≠ L1.blk := fun y Ly hy hyb hCy hLy e' => by
      obtain ⟨L', o2, k1, k2, k3⟩ := hp.rel.1 y hCy
      rw [hLy] at k1
      cases k1
      have := lt_of_some k2
      rcases h3 with h3 | h3
      · exact hyb (hp.rel.2 y b Ly L hCy hCb (by rw [hrC, Bool.and_false]) hLy hL (e'.trans h3))
      · omega
    by_cases e1 : x = s.next
    · by_cases e2 : x' = s.next
      · rw [e1, e2]
      · rw [if_neg e2] at g2
        by_cases e3 : x' = b
        · rw [if_pos e3] at g2; exact absurd rfl g2
        · rw [if_neg e3] at g2
          rw [e1, hself] at g3
          cases g3
          rw [hoth' x' e2] at g4
          exact absurd e.symm (far x' Lb e2 e3 g2 g4)
    · rw [if_neg e1] at g1
      by_cases e3 : x = b
      · rw [if_pos e3] at g1; exact absurd rfl g1
      · rw [if_neg e3] at g1
        rw [hoth' x e1] at g3
        by_cases e2 : x' = s.next
        · rw [e2, hself] at g4
          cases g4
          exact absurd e (far x La e1 e3 g1 g3)
        · rw [if_neg e2] at g2
          by_cases e4 : x' = b
          · rw [if_pos e4] at g2; exact absurd rfl g2
          · rw [if_neg e4] at g2
            rw [hoth' x' e2] at g4
            rw [hupd, hupd, if_neg e1, if_neg e3, if_neg e2, if_neg e4] at gq
            exact hp.rel.2 x x' La Lb g1 g2 gq g3 g4 e
theorem stat_on {b : Nat} (hb : s.get b ≠ .hole) (o : MObj) : Stat s ((s.put b .hole).push o) (2 ^ b) :=
  ⟨Nat.le_succ _, fun x hx hw => by
    rw [(s.put b .hole).get_push_old o x hx]
    exact s.get_put_other b x .hole (St.lt_of_live hb) (fun e => by rw [← e, bit_self] at hw; cases hw)⟩
end Mini
end Go.Proofs.YtbkpnhbcihcgaaaGreatDoor
end
section
namespace Go.Proofs.YtbkpnhbcihcgaaaGreatDoor
set_option linter.all false
namespace Mini
variable {P : Program} {rd : Option Nat} {s s1 : St} {R W : Nat} {ro : Option Nat} {ρ : Ren} {C : Nat → MObj} {w : World}

theorem exec_append {o : Oper} {c : Call} {x y : Operand} {tS tX : TypeId} (h : o.op = .call c) (hc : c.callee = .builtin .append) (ha : c.args = #[x, y]) (hat : c.argTypes = #[tS, tX]) (ev : Operand → Value) (w : World) :
    (execOp ev o).run P w = ((Builtin.append_ #[tS, tX] o.type #[ev x, ev y]).run P w).andThen fun v w' => .ok (.value v) w' := by
  simp [execOp, h, resolve, hc, ha, hat, invoke, builtin]
theorem vrs_append {a b a' b' : Array Value} (h : VRs ρ a a') (g : VRs ρ b b') : VRs ρ (a ++ b) (a' ++ b') := by
  refine ⟨by simp [h.1, g.1], fun i v v' h1 h2 => ?_⟩
  rw [Array.getElem?_append] at h1 h2
  rw [← h.1] at h2
  by_cases c : i < a.size
  · rw [if_pos c] at h1 h2; exact h.2 i v v' h1 h2
  · rw [if_neg c] at h1 h2; exact g.2 _ v v' h1 h2
theorem or_open {l : List Value} {a z : Array Value} (h : VRs ρ l.toArray a) (t : TypeId) (n sz : Nat) : OR ρ ⟨n, 0, true, sz, (a ++ z).size⟩ (.cells l t true sz false) (.cells (a ++ z) t (0, 0)) := by
  have hl : l.length = a.size := by simpa using h.1
  refine ⟨rfl, rfl, fun _ => rfl, rfl, by simp; omega, fun i v hi => ?_, fun _ => .inl rfl, fun hf => by cases hf⟩
  have hlt : i < l.length := (List.getElem?_eq_some_iff.1 hi).1
  have hlt' : i < a.size := hl ▸ hlt
  refine ⟨a[i], ?_, h.2 i v _ (by simpa using hi) (Array.getElem?_eq_getElem hlt')⟩
  simp only [Nat.zero_add]
  rw [Array.getElem?_append_left hlt', Array.getElem?_eq_getElem hlt']
theorem size_zeroCells (z : Array Value) (n : Nat) : (Builtin.zeroCells z n).size = n * z.size := by simp [Builtin.zeroCells]
theorem Pre.drew (h : Pre P rd s s1 R W ro ρ C w) : Pre P rd s s1 R W ro ρ C w.drew := ⟨h.glob, h.round, h.agree, h.free, h.rel⟩
theorem Post.drew {ρ1 : Ren} {w1 : World} (h : Post ρ s s1 W w.drew ρ1 w1) : Post ρ s s1 W w ρ1 w1 := ⟨h.sub, h.dom, h.fresh, h.size, h.frame, h.os, h.tape, h.output⟩

structure Elt (P : Program) (tS tX e : TypeId) (i : TypeInfo) (z : Value) (d : TypeDesc) : Prop where
  ht : P.underlying tS = some (.slice e)
  hd : P.underlying tX = some d
  hd' : d = .string ∨ ∃ e', d = .slice e'
  hi : P.info? e = some i
  hz : i.zero = some z
  hzs : z.cells.size = i.size
  hb0 : i.bytes ≠ 0

theorem sndO_grow {o : Oper} {c : Call} {vals : Operand → Value} {x y : Operand} {tS tX e : TypeId} {i : TypeInfo} {z : Value} {d : TypeDesc} {n sl : Nat} {oldl l : List Value} {R0 R1 : Nat} (h : o.op = .call c) (hc : c.callee = .builtin .append) (ha : c.args = #[x, y]) (hat : c.argTypes = #[tS, tX])
    (hE : Elt P tS tX e i z d) (hel : elemsM s i.size (vals y) = some (n, l, R0)) (hll : l.length = n * i.size) (hol : oldl.length = sl * i.size) (hbig : (sl + n) * i.bytes ≤ 140737488355328)
    (hold : ∀ (ρ : Ren) (C : Nat → MObj) (v' : Value) (w : World), WRel ρ C w → (∀ b, R1.testBit b = true → b < s.next → C b = s.get b) → VR ρ (vals x) v' →
      ∃ base sCap old, v' = .slice base sl sCap ∧ ¬ sl + n ≤ sCap ∧ (∀ u : World, u.heap = w.heap → (Builtin.firstCells i.size sl (.slice base sl sCap)).run P u = .ok old u) ∧ VRs ρ oldl.toArray old) :
    SndO P rd o vals s (.slice (some ⟨s.next, 0, none⟩) (sl + n) (sl + n)) (s.push (.cells (oldl ++ l) e true i.size false)) (R0 ||| R1) 0 :=
  sndO_of (fun c => by rw [h]; simp) (stat_push s _) fun ro ρ C ev w hp hx => by
    have hop : o.op.operands = #[x, y] := by simp [h, Op.operands, Call.operands, hc, ha]
    have h1 := hx x (by rw [hop]; simp)
    have h2 := hx y (by rw [hop]; simp)
    have ag : ∀ b, (R0 ||| R1).testBit b = true → b < s.next → C b = s.get b := fun b hb => hp.agree b (by rw [or_bit, hb]; rfl)
    obtain ⟨base, sCap, old, k1, k2, k3, k4⟩ := hold ρ C (ev x) w hp.rel (fun b hb => ag b (by rw [or_bit, hb]; simp)) h1
    obtain ⟨q1, arr, q2, q3⟩ := elems_run (P := P) (w := w) hel h2 (fun b hb => ag b (by rw [or_bit, hb]; simp)) hp.rel
    obtain ⟨nc, g1, g2⟩ := append_grow (ty := o.type) (w := w) hE.ht hE.hd hE.hd' hE.hi hE.hz hE.hb0 hbig q1 q2 k3 k2
    have hso : old.size = sl * i.size := by rw [← k4.1]; simpa using hol
    have hsa : arr.size = n * i.size := by rw [← q3.1]; simpa using hll
    have hv : VRs ρ (oldl ++ l).toArray (old ++ arr) := by
      have := vrs_append k4 q3
      rwa [show oldl.toArray ++ l.toArray = (oldl ++ l).toArray from by simp] at this
    have ho := or_open (z := Builtin.zeroCells z.cells (nc - (sl + n))) hv e w.drew.heap.size i.size
    obtain ⟨p1, r1, hs⟩ := step_new hp.drew rfl ho
    have hs0 : (w.drew.heap.size) = w.heap.size := rfl
    refine ⟨_, .slice (some ⟨w.heap.size, 0, none⟩) (sl + n) nc, _, .inl (by rw [exec_append h hc ha hat, k1, g2]; rfl), p1.drew, r1, ?_⟩
    refine .slice s.next 0 (sl + n) (sl + n) nc _ hs (.inr ⟨rfl, g1, ?_⟩)
    simp only [Array.size_append, size_zeroCells, hE.hzs, hso, hsa, Nat.zero_add]
    have : sl * i.size + n * i.size + (nc - (sl + n)) * i.size = nc * i.size := by
      rw [← Nat.add_mul, ← Nat.add_mul]; congr 1; omega
    omega

theorem sndO_appendNone {o : Oper} {c : Call} {vals : Operand → Value} {x y : Operand} {tS tX e : TypeId} {i : TypeInfo} {z : Value} {d : TypeDesc} {l : List Value} {R0 sl sc : Nat} {a : Option Addr} (h : o.op = .call c) (hc : c.callee = .builtin .append) (ha : c.args = #[x, y]) (hat : c.argTypes = #[tS, tX])
    (hE : Elt P tS tX e i z d) (hel : elemsM s i.size (vals y) = some (0, l, R0)) (hl0 : l = []) (hx0 : vals x = .slice a sl sc) (hsc : sl ≤ sc) : SndO P rd o vals s (.slice a sl sc) s R0 0 :=
  sndO_still (fun c => by rw [h]; simp) fun ρ C ev w _ ag hr hx => by
    have hop : o.op.operands = #[x, y] := by simp [h, Op.operands, Call.operands, hc, ha]
    have h1 := hx x (by rw [hop]; simp)
    have h2 := hx y (by rw [hop]; simp)
    obtain ⟨q1, arr, q2, q3⟩ := elems_run (P := P) (w := w) hel h2 ag hr
    have hae : arr = #[] := by
      subst hl0
      have := q3.1
      apply Array.eq_empty_of_size_eq_zero
      rw [← this]; rfl
    subst hae
    rw [hx0] at h1
    have hv : ∃ a' sc', ev x = .slice a' sl sc' ∧ sl ≤ sc' := by
      generalize ev x = v at h1
      cases h1 with
      | slice0 n c => exact ⟨_, _, rfl, hsc⟩
      | empty a a' => exact ⟨_, _, rfl, Nat.le_refl _⟩
      | slice b o n c c' L k1 k2 => exact ⟨_, _, rfl, by rcases k2 with k | k <;> omega⟩
    obtain ⟨a', sc', e1, e2⟩ := hv
    refine ⟨ev x, ?_, h1⟩
    rw [exec_append h hc ha hat, e1, append_room (w1 := w) hE.ht hE.hd hE.hd' hE.hi q1 (q2 w rfl) (by omega) (by cases a' <;> simp [storeCells])]
    rfl

theorem sndO_appendRoom {o : Oper} {c : Call} {vals : Operand → Value} {x y : Operand} {tS tX e e' : TypeId} {i : TypeInfo} {z : Value} {d : TypeDesc} {n sl sc b off sz : Nat} {l cc : List Value} {opn : Bool} {R0 : Nat} (h : o.op = .call c) (hc : c.callee = .builtin .append) (ha : c.args = #[x, y]) (hat : c.argTypes = #[tS, tX])
    (hE : Elt P tS tX e i z d) (hel : elemsM s i.size (vals y) = some (n, l, R0)) (hll : l.length = n * i.size) (hn : n ≠ 0) (hx0 : vals x = .slice (some ⟨b, off, none⟩) sl sc) (hb : s.get b = .cells cc e' opn sz false) (hroom : sl + n ≤ sc) (hlen : off + (sl + n) * i.size ≤ cc.length) (h1o : l.all oneL = true) :
    SndO P rd o vals s (.slice (some ⟨b, off, none⟩) (sl + n) sc) (s.put b (.cells (setL cc (off + sl * i.size) l) e' opn sz false)) R0 (2 ^ b) := by
  have hbl : s.get b ≠ .hole := by rw [hb]; simp
  refine sndO_of (fun c => by rw [h]; simp) (stat_put hbl _) fun ro ρ C ev w hp hx => ?_
  have hop : o.op.operands = #[x, y] := by simp [h, Op.operands, Call.operands, hc, ha]
  have h1 := hx x (by rw [hop]; simp)
  have h2 := hx y (by rw [hop]; simp)
  obtain ⟨q1, arr, q2, q3⟩ := elems_run (P := P) (w := w) hel h2 (fun b hb => hp.agree b (by rw [or_bit, hb]; rfl)) hp.rel
  rw [hx0] at h1
  generalize hev : ev x = v at h1
  cases h1 with
  | empty a a' => omega
  | slice b off sl sc c' L k1 k2 =>
    have hCb := hp.agree b (by rw [or_bit, bit_self]; simp) (St.lt_of_live hbl)
    obtain ⟨L', cs, fr, g1, g2, g3⟩ := row_wr hp.rel (hCb.trans hb)
    rw [k1] at g1
    cases g1
    have hsa : arr.size = n * i.size := by rw [← q3.1]; simpa using hll
    obtain ⟨w1, o1, r1, d1, m1, m2⟩ := storeCells_run (P := P) (off := off + sl * i.size) l arr.toList cc 0 w _ g2 g3 (by rw [hll]; have := Nat.add_mul sl n i.size; omega) (by simpa using hll.trans hsa.symm)
      (fun j v v' p q => q3.2 j v v' (by simpa using p) (by simpa using q)) (all_one q3 (by simpa using h1o))
    obtain ⟨p1, r2⟩ := step_put (o' := .cells cs e' fr) hp hbl (by rw [hb]; rfl) k1 d1 m1 (by simpa using m2)
    refine ⟨ρ, .slice (some ⟨L.blk, L.base + off, none⟩) (sl + n) c', w1, .inl ?_, p1, r2, .slice b off (sl + n) sc c' L k1 k2⟩
    rw [exec_append h hc ha hat, hev, append_room (w1 := w1) hE.ht hE.hd hE.hd' hE.hi q1 (q2 w rfl) (by rcases k2 with k | k <;> omega) (by simpa [add_mk, Nat.add_assoc] using r1)]
    rfl

theorem old_some {x : Value} {b off sl sc size sz : Nat} {cc : List Value} {e' : TypeId} {r : Bool} {n : Nat} (hb : s.get b = .cells cc e' false sz r) (hx : x = .slice (some ⟨b, off, none⟩) sl sc) (hlen : off + sl * size ≤ cc.length) (hno : ¬ sl + n ≤ sc) (hsl : sl ≤ sc)
    (ρ : Ren) (C : Nat → MObj) (v' : Value) (w : World) (hr : WRel ρ C w) (ag : ∀ k, (2 ^ b).testBit k = true → k < s.next → C k = s.get k) (hv : VR ρ x v') :
    ∃ base sCap old, v' = .slice base sl sCap ∧ ¬ sl + n ≤ sCap ∧ (∀ u : World, u.heap = w.heap → (Builtin.firstCells size sl (.slice base sl sCap)).run P u = .ok old u) ∧ VRs ρ (cut cc off (sl * size)).toList.toArray old := by
  subst hx
  have hbb := ag b (bit_self b) (St.lt_of_live (by rw [hb]; simp))
  obtain ⟨L', cs, fr, q1, q2, q3⟩ := row_of hr (hbb.trans hb)
  obtain ⟨p1, p2, p3, p4, p5, p6, p7, p8⟩ := q3
  cases hv with
  | empty a a' =>
    refine ⟨_, _, #[], rfl, by omega, fun u _ => by simp [Builtin.firstCells, loadCells, loadCellsFrom], ?_⟩
    simp [cut]
    exact ⟨rfl, fun i v v' h => by simp at h⟩
  | slice b off sl sc c' L k1 k2 =>
    rw [k1] at q1
    cases q1
    have hcc : c' = sc := by
      rcases k2 with k | ⟨k, _⟩
      · exact k
      · rw [p1] at k; cases k
    subst hcc
    refine ⟨_, _, cut cs.toList (L'.base + off) (sl * size), rfl, hno, fun u hu => ?_, ?_⟩
    · have hl := loadCells_run (P := P) (w := u) (base := L'.base + off) (by rw [hu]; exact q2) (sl * size) 0 #[] (by omega)
      simp [Builtin.firstCells, loadCells, hl, cut]
    · have := cut_vrs (ρ := ρ) (L := L') (c := cc) (cs := cs) (o := off) (n := sl * size) hlen (by omega) p6
      simpa using this
theorem old_none {x : Value} {size n : Nat} (hn : n ≠ 0) (hx : x = .slice none 0 0 ∨ ∃ a, x = .slice (some a) 0 0 ∧ a.spot.isSome = true)
    (ρ : Ren) (C : Nat → MObj) (v' : Value) (w : World) (hr : WRel ρ C w) (ag : ∀ k, (0 : Nat).testBit k = true → k < s.next → C k = s.get k) (hv : VR ρ x v') :
    ∃ base sCap old, v' = .slice base 0 sCap ∧ ¬ 0 + n ≤ sCap ∧ (∀ u : World, u.heap = w.heap → (Builtin.firstCells size 0 (.slice base 0 sCap)).run P u = .ok old u) ∧ VRs ρ ([] : List Value).toArray old := by
  have hnil : VRs ρ ([] : List Value).toArray #[] := ⟨rfl, fun i v v' h => by simp at h⟩
  rcases hx with rfl | ⟨a, rfl, ha⟩
  · cases hv
    exact ⟨_, _, #[], rfl, by omega, fun u _ => by simp [Builtin.firstCells], hnil⟩
  · cases hv with
    | empty a a' => exact ⟨_, _, #[], rfl, by omega, fun u _ => by simp [Builtin.firstCells, loadCells, loadCellsFrom], hnil⟩
    | slice b o n c c' L k1 k2 => simp at ha

theorem storeRaw {k : Nat} {e : TypeId} {fr : Nat × Nat} : ∀ (vs : List Value) (p i : Nat) (w : World) (cs : Array Value), w.heap[k]? = some (.cells cs e fr) → p + i + vs.length ≤ cs.size → (∀ j, p + i ≤ j → j < cs.size → ¬ (fr.1 ≤ j ∧ j < fr.2)) → vs.all Value.oneCell' = true →
    ∃ w1 cs1, (storeCells ⟨k, p, none⟩ vs i).run P w = .ok () w1 ∧ OneOff w k w1 ∧ w1.heap[k]? = some (.cells cs1 e fr) ∧ cs1.size = cs.size ∧ (∀ j, j < p + i → cs1[j]? = cs[j]?) ∧ (∀ j, j < vs.length → cs1[p + i + j]? = vs[j]?)
  | [], p, i, w, cs, hw, hn, hf, h1 => ⟨w, cs, by simp [storeCells], OneOff.refl w k, hw, rfl, fun _ _ => rfl, fun j hj => by simp at hj⟩
  | v :: vs, p, i, w, cs, hw, hn, hf, h1 => by
    simp only [List.length_cons] at hn
    simp only [List.all_cons, Bool.and_eq_true] at h1
    have hin : p + i < cs.size := by omega
    have hcell : w.cell? ⟨k, p + i, none⟩ = some cs[p + i] := by rw [cell_row hw, Array.getElem?_eq_getElem hin]
    have hfr : w.frozen? ⟨k, p + i, none⟩ = false := by
      have := hf (p + i) (Nat.le_refl _) hin
      obtain ⟨lo, hi⟩ := fr
      simp only [World.frozen?, hw]
      simp only at this
      simpa using this
    have hw1 : (w.setCell ⟨k, p + i, none⟩ v).heap[k]? = some (.cells (cs.setIfInBounds (p + i) v) e fr) := by simp [World.setCell, Array.getElem?_modify, hw]
    have d1 : OneOff w k (w.setCell ⟨k, p + i, none⟩ v) := ⟨by simp, fun x hx => by simp [World.setCell, Array.getElem?_modify, Ne.symm hx], rfl, rfl, rfl⟩
    obtain ⟨w2, cs2, r2, d2, g2, g3, g4, g5⟩ := storeRaw vs p (i + 1) _ _ hw1 (by simp; omega) (fun j h2 h3 => hf j (by omega) (by simpa using h3)) h1.2
    refine ⟨w2, cs2, ?_, d1.trans d2, g2, by simpa using g3, fun j hj => ?_, fun j hj => ?_⟩
    · have hs : (store ⟨k, p + i, none⟩ v).run P w = .ok () (w.setCell ⟨k, p + i, none⟩ v) := by rw [run_store P w _ _ _ h1.1, hcell, hfr]; rfl
      simp only [storeCells, Sem.run_bind, add_mk, hs, Result.andThen_ok]
      exact r2
    · rw [g4 j (by omega), Array.getElem?_setIfInBounds, if_neg (by omega)]
    · match j, hj with
      | 0, _ =>
        rw [g4 _ (by omega)]
        simp [Array.getElem?_setIfInBounds, hin]
      | j + 1, hj =>
        have := g5 j (by simpa using hj)
        rw [show p + i + (j + 1) = p + (i + 1) + j from by omega, this]
        rfl

theorem sndO_appendOn {o : Oper} {c : Call} {vals : Operand → Value} {x y : Operand} {tS tX e e' : TypeId} {i : TypeInfo} {z : Value} {d : TypeDesc} {n sl sc b off sz : Nat} {l cc : List Value} {R0 : Nat} (h : o.op = .call c) (hc : c.callee = .builtin .append) (ha : c.args = #[x, y]) (hat : c.argTypes = #[tS, tX])
    (hE : Elt P tS tX e i z d) (hel : elemsM s i.size (vals y) = some (n, l, R0)) (hll : l.length = n * i.size) (hn : n ≠ 0) (hx0 : vals x = .slice (some ⟨b, off, none⟩) sl sc) (hb : s.get b = .cells cc e' true sz false) (hsz : sz = i.size) (hee : e' = e) (hlen : off + sl * i.size ≤ cc.length) (hrm : sl + n ≤ sc → off + sc * i.size ≤ cc.length) (hsl : sl ≤ sc) (h1o : l.all oneL = true) (hbig : (sl + n) * i.bytes ≤ 140737488355328) :
    SndO P rd o vals s (.slice (some ⟨s.next, 0, none⟩) (sl + n) (sl + n)) ((s.put b .hole).push (.cells ((cut cc off (sl * i.size)).toList ++ l) e true i.size false)) R0 (2 ^ b) := by
  subst hsz hee
  have hbl : s.get b ≠ .hole := by rw [hb]; simp
  refine sndO_of (fun c => by rw [h]; simp) (stat_on hbl _) fun ro ρ C ev w hp hx => ?_
  have hop : o.op.operands = #[x, y] := by simp [h, Op.operands, Call.operands, hc, ha]
  have h1 := hx x (by rw [hop]; simp)
  have h2 := hx y (by rw [hop]; simp)
  obtain ⟨q1, arr, q2, q3⟩ := elems_run (P := P) (w := w) hel h2 (fun b hb => hp.agree b (by rw [or_bit, hb]; rfl)) hp.rel
  have hsa : arr.size = n * i.size := by rw [← q3.1]; simpa using hll
  have hCb := hp.agree b (by rw [or_bit, bit_self]; simp) (St.lt_of_live hbl)
  obtain ⟨L, cs, fr, g1, g2, g3⟩ := row_wr hp.rel (hCb.trans hb)
  have g3' := g3
  obtain ⟨p1, p2, p3, p4, p5, p6, p7, p8⟩ := g3
  have hLlt := lt_of_some g2
  have hold : VRs ρ (cut cc off (sl * i.size)) (cut cs.toList (L.base + off) (sl * i.size)) := cut_vrs (ρ := ρ) (L := L) (c := cc) (cs := cs) hlen (by omega) p6
  have holdsz : (cut cs.toList (L.base + off) (sl * i.size)).size = sl * i.size := by simp [cut]; omega
  have hv : VRs ρ ((cut cc off (sl * i.size)).toList ++ l).toArray (cut cs.toList (L.base + off) (sl * i.size) ++ arr) := by
    have := vrs_append hold q3
    rwa [show cut cc off (sl * i.size) ++ l.toArray = ((cut cc off (sl * i.size)).toList ++ l).toArray from by apply Array.ext'; simp] at this
  -- a new row
  have fresh : ∀ (base : Option Addr) (sCap : Nat), ev x = .slice base sl sCap → ¬ sl + n ≤ sCap → (∃ old, (∀ u : World, u.heap = w.heap → (Builtin.firstCells i.size sl (.slice base sl sCap)).run P u = .ok old u) ∧ VRs ρ (cut cc off (sl * i.size)).toList.toArray old) →
      ∃ ρ1 v' w1, ((execOp ev o).run P w = .ok (.value v') w1 ∨ ((execOp ev o).run P w = .ok .skip w1 ∧ v' = undef)) ∧ Post ρ s ((s.put b .hole).push (.cells ((cut cc off (sl * i.size)).toList ++ l) e' true i.size false)) (2 ^ b) w ρ1 w1 ∧
        WRel ρ1 (upd C s ((s.put b .hole).push (.cells ((cut cc off (sl * i.size)).toList ++ l) e' true i.size false)) (2 ^ b)) w1 ∧ VR ρ1 (.slice (some ⟨s.next, 0, none⟩) (sl + n) (sl + n)) v' := fun base sCap he hno ⟨old, k3, k4⟩ => by
    obtain ⟨nc, m1, m2⟩ := append_grow (ty := o.type) (w := w) hE.ht hE.hd hE.hd' hE.hi hE.hz hE.hb0 hbig q1 q2 k3 hno
    have hso : old.size = sl * i.size := by rw [← k4.1]; simp [cut]; omega
    have hv2 : VRs ρ ((cut cc off (sl * i.size)).toList ++ l).toArray (old ++ arr) := by
      have := vrs_append k4 q3
      rwa [show (cut cc off (sl * i.size)).toList.toArray ++ l.toArray = ((cut cc off (sl * i.size)).toList ++ l).toArray from by simp] at this
    have ho := or_open (z := Builtin.zeroCells z.cells (nc - (sl + n))) hv2 e' w.drew.heap.size i.size
    obtain ⟨pp, rr, hs⟩ := step_on (hro := by rw [hb]; rfl) (w1 := w.drew.alloc (.cells (old ++ arr ++ Builtin.zeroCells z.cells (nc - (sl + n))) e')) (o1 := .cells (old ++ arr ++ Builtin.zeroCells z.cells (nc - (sl + n))) e') hp.drew hbl g1
      (by simp) (fun x hx hne => alloc_old _ _ x hx) rfl rfl rfl (alloc_new _ _) (.inr (Nat.le_refl _)) ho
    refine ⟨_, .slice (some ⟨w.heap.size, 0, none⟩) (sl + n) nc, _, .inl (by rw [exec_append h hc ha hat, he, m2]; rfl), pp.drew, rr, ?_⟩
    refine .slice s.next 0 (sl + n) (sl + n) nc _ hs (.inr ⟨rfl, m1, ?_⟩)
    simp only [Array.size_append, size_zeroCells, hE.hzs, hso, hsa, Nat.zero_add]
    have : sl * i.size + n * i.size + (nc - (sl + n)) * i.size = nc * i.size := by
      rw [← Nat.add_mul, ← Nat.add_mul]; congr 1; omega
    omega
  rw [hx0] at h1
  generalize hev : ev x = v at h1
  cases h1 with
  | empty a a' =>
    refine fresh (some a') 0 hev (by omega) ⟨#[], fun u _ => by simp [Builtin.firstCells, loadCells, loadCellsFrom], ?_⟩
    simp [cut]
    exact ⟨rfl, fun i v v' h => by simp at h⟩
  | slice b off sl sc c' L2 k1 k2 =>
    rw [k1] at g1
    cases g1
    have hcl : ∀ u : World, u.heap = w.heap → (Builtin.firstCells i.size sl (.slice (some ⟨L.blk, L.base + off, none⟩) sl c')).run P u = .ok (cut cs.toList (L.base + off) (sl * i.size)) u := fun u hu => by
      have hl := loadCells_run (P := P) (w := u) (base := L.base + off) (by rw [hu]; exact g2) (sl * i.size) 0 #[] (by omega)
      simp [Builtin.firstCells, loadCells, hl, cut]
    by_cases hroom : sl + n ≤ c'
    · -- room behind
      have hspace : L.base + off + (sl + n) * i.size ≤ L.lim := by
        rcases k2 with k | ⟨k, k5, k6⟩
        · have := hrm (k ▸ hroom)
          have := Nat.mul_le_mul_right i.size (k ▸ hroom : sl + n ≤ sc)
          omega
        · rw [p2] at k6
          have := Nat.mul_le_mul_right i.size hroom
          omega
      have hmul := Nat.add_mul sl n i.size
      obtain ⟨w1, cs1, r1, d1, m1, m2, m3, m4⟩ := storeRaw (P := P) (k := L.blk) (e := e') (fr := fr) arr.toList (L.base + off + sl * i.size) 0 w cs g2 (by simp [hsa]; omega) (fun j h2 h3 => unfrozen (p7 rfl) (by omega)) (all_one q3 (by simpa using h1o))
      have ho : OR ρ ⟨L.blk, L.base + off, true, i.size, L.lim⟩ (.cells ((cut cc off (sl * i.size)).toList ++ l) e' true i.size false) (.cells cs1 e' fr) := by
        have hcl : (cut cc off (sl * i.size)).toList.length = sl * i.size := by simp [cut]; omega
        refine ⟨rfl, rfl, fun _ => rfl, by rw [m2]; exact p4, by simp [hcl, hll, ← hmul]; omega, fun j u hu => ?_, fun _ => p7 rfl, fun hf => by cases hf⟩
        simp only
        by_cases hj : j < sl * i.size
        · rw [List.getElem?_append_left (by omega)] at hu
          have hu' : (cut cc off (sl * i.size))[j]? = some u := by simpa using hu
          have hb2 : j < (cut cs.toList (L.base + off) (sl * i.size)).size := by rw [holdsz]; exact hj
          refine ⟨(cut cs.toList (L.base + off) (sl * i.size))[j], ?_, hold.2 j u _ hu' (Array.getElem?_eq_getElem hb2)⟩
          rw [m3 _ (by omega), ← Array.getElem?_eq_getElem hb2]
          simp [cut, hj]
        · rw [List.getElem?_append_right (by omega), hcl] at hu
          have hjl : j - sl * i.size < l.length := (List.getElem?_eq_some_iff.1 hu).1
          have hja : j - sl * i.size < arr.size := by omega
          refine ⟨arr[j - sl * i.size], ?_, q3.2 (j - sl * i.size) u _ (by simpa using hu) (Array.getElem?_eq_getElem hja)⟩
          have := m4 (j - sl * i.size) (by simpa using hja)
          rw [show L.base + off + j = L.base + off + sl * i.size + 0 + (j - sl * i.size) from by omega, this]
          simp [hja]
      obtain ⟨pp, rr, hs⟩ := step_on (hro := by rw [hb]; rfl) (w1 := w1) (L1 := ⟨L.blk, L.base + off, true, i.size, L.lim⟩) hp hbl k1 (Nat.le_of_eq d1.size.symm) (fun x hx hne => d1.oth x hne) d1.os d1.tape d1.output m1 (.inl rfl) ho
      refine ⟨_, .slice (some ⟨L.blk, L.base + off, none⟩) (sl + n) c', w1, .inl ?_, pp, rr, ?_⟩
      · rw [exec_append h hc ha hat, hev, append_room (w1 := w1) hE.ht hE.hd hE.hd' hE.hi q1 (q2 w rfl) hroom (by simpa [add_mk, Nat.add_assoc] using r1)]
        rfl
      · have hcap : L.base + off + c' * i.size ≤ L.lim := by
          rcases k2 with k | ⟨k, k5, k6⟩
          · have := hrm (k ▸ hroom)
            rw [k]
            omega
          · rw [p2] at k6; exact k6
        exact .slice s.next 0 (sl + n) (sl + n) c' ⟨L.blk, L.base + off, true, i.size, L.lim⟩ hs (.inr ⟨rfl, hroom, hcap⟩)
    · exact fresh _ _ hev hroom ⟨_, hcl, by simpa using hold⟩
end Mini
end Go.Proofs.YtbkpnhbcihcgaaaGreatDoor
end
section
namespace Go.Proofs.YtbkpnhbcihcgaaaGreatDoor
set_option linter.all false
namespace Mini
variable {P : Program} {rd : Option Nat} {s s1 : St} {R W : Nat} {ro : Option Nat} {ρ : Ren} {C : Nat → MObj} {w : World}

def truncV (n : Nat) : Value → Value
  | .slice a _ c => .slice a n c
  | .string b => .string (b.extract 0 n)
  | v => v
def lenV : Value → Option Nat
  | .slice _ n _ => some n
  | .string b => some b.size
  | _ => none
theorem len_vr {v v' : Value} (h : VR ρ v v') {n : Nat} (hn : lenV v = some n) : (∀ w, (Builtin.lenOf v').run P w = .ok n w) := by
  cases h <;> simp [lenV] at hn <;> subst hn <;> intro w <;> simp [Builtin.lenOf]
theorem trunc_vr {v v' : Value} (h : VR ρ v v') {m n : Nat} (hn : lenV v = some m) (hle : n ≤ m) : VR ρ (truncV n v) (truncV n v') := by
  cases h with
  | slice0 k c => exact .slice0 n c
  | empty a a' =>
    simp only [lenV, Option.some.injEq] at hn
    have : n = 0 := by omega
    subst this
    exact .empty a a'
  | slice b o k c c' L h1 h2 => exact .slice b o n c c' L h1 h2
  | string b => exact .string _
  | _ => simp [lenV] at hn
theorem first_trunc {v : Value} {m n size : Nat} (hn : lenV v = some m) : Builtin.firstCells size n (truncV n v) = Builtin.firstCells size n v := by
  cases v with
  | slice a k c => cases a <;> rfl
  | string b =>
    have e : (b.extract 0 n).extract 0 n = b.extract 0 n := by
      apply ByteArray.ext
      simp
    simp [truncV, Builtin.firstCells, e]
  | _ => simp [lenV] at hn

theorem exec_copy {o : Oper} {c : Call} {x y : Operand} {tS tX : TypeId} (h : o.op = .call c) (hc : c.callee = .builtin .copy) (ha : c.args = #[x, y]) (hat : c.argTypes = #[tS, tX]) (ev : Operand → Value) (w : World) :
    (execOp ev o).run P w = ((Builtin.copy_ #[tS, tX] o.type #[ev x, ev y]).run P w).andThen fun v w' => .ok (.value v) w' := by
  simp [execOp, h, resolve, hc, ha, hat, invoke, builtin]
theorem sndO_copy {o : Oper} {c : Call} {vals : Operand → Value} {x y : Operand} {tD tX e e' : TypeId} {i : TypeInfo} {m n dl dc b off sz : Nat} {l cc : List Value} {opn : Bool} {R0 : Nat} (h : o.op = .call c) (hc : c.callee = .builtin .copy) (ha : c.args = #[x, y]) (hat : c.argTypes = #[tD, tX])
    (ht : P.underlying tD = some (.slice e)) (hi : P.info? e = some i) (hm : lenV (vals y) = some m) (hn : n = Nat.min m dl) (hel : elemsM s i.size (truncV n (vals y)) = some (n, l, R0)) (hll : l.length = n * i.size) (hn0 : dl ≠ 0)
    (hx0 : vals x = .slice (some ⟨b, off, none⟩) dl dc) (hb : s.get b = .cells cc e' opn sz false) (hlen : off + n * i.size ≤ cc.length) (h1o : l.all oneL = true) :
    SndO P rd o vals s (.int .i64 n) (s.put b (.cells (setL cc off l) e' opn sz false)) R0 (2 ^ b) := by
  have hbl : s.get b ≠ .hole := by rw [hb]; simp
  refine sndO_of (fun c => by rw [h]; simp) (stat_put hbl _) fun ro ρ C ev w hp hx => ?_
  have hop : o.op.operands = #[x, y] := by simp [h, Op.operands, Call.operands, hc, ha]
  have h1 := hx x (by rw [hop]; simp)
  have h2 := hx y (by rw [hop]; simp)
  have hmn : n ≤ m := by rw [hn]; exact Nat.min_le_left _ _
  obtain ⟨q1, arr, q2, q3⟩ := elems_run (P := P) (w := w) hel (trunc_vr h2 hm hmn) (fun b hb => hp.agree b (by rw [or_bit, hb]; rfl)) hp.rel
  have hlv : lenV (ev y) = some m := by generalize vals y = v at h2 hm; generalize ev y = v' at h2; cases h2 <;> simp_all [lenV]
  have hf := q2 w rfl
  rw [first_trunc hlv] at hf
  rw [hx0] at h1
  obtain ⟨L, c', k1, he, _⟩ := slice_inv hn0 h1
  have hCb := hp.agree b (by rw [or_bit, bit_self]; simp) (St.lt_of_live hbl)
  obtain ⟨L', cs, fr, g1, g2, g3⟩ := row_wr hp.rel (hCb.trans hb)
  rw [k1] at g1
  cases g1
  have hsa : arr.size = n * i.size := by rw [← q3.1]; simpa using hll
  obtain ⟨w1, o1, r1, d1, m1, m2⟩ := storeCells_run (P := P) (off := off) l arr.toList cc 0 w _ g2 g3 (by omega) (by simpa using hll.trans hsa.symm)
    (fun j v v' p q => q3.2 j v v' (by simpa using p) (by simpa using q)) (all_one q3 (by simpa using h1o))
  obtain ⟨p1, r2⟩ := step_put (o' := .cells cs e' fr) hp hbl (by rw [hb]; rfl) k1 d1 m1 (by simpa using m2)
  have hsr : (sizeOf e).run P w = .ok i.size w := by simp [sizeOf, run_typeInfo w hi]
  refine ⟨ρ, .int .i64 n, w1, .inl ?_, p1, r2, .int _ _⟩
  rw [exec_copy h hc ha hat, he]
  have hlr := len_vr (P := P) h2 hm w
  simp [Builtin.copy_, run_underlying ht, hlr, hsr, ← hn, hf, r1, goInt]

def bytesOf : List Value → Option (List UInt8)
  | [] => some []
  | .int .u8 k :: l => if 0 ≤ k ∧ k < 256 then (bytesOf l).map (UInt8.ofNat k.toNat :: ·) else none
  | _ => none
theorem bytesOf_get : ∀ (l : List Value) (r : List UInt8), bytesOf l = some r → r.length = l.length ∧ ∀ (j : Nat) (hj : j < r.length), l[j]? = some (.int .u8 (r[j].toNat : Int))
  | [], r, h => by simp only [bytesOf, Option.some.injEq] at h; subst h; exact ⟨rfl, fun j hj => by simp at hj⟩
  | .int .u8 k :: l, r, h => by
    simp only [bytesOf] at h
    by_cases c : 0 ≤ k ∧ k < 256
    · rw [if_pos c, Option.map_eq_some_iff] at h
      obtain ⟨r', h1, rfl⟩ := h
      obtain ⟨g1, g2⟩ := bytesOf_get l r' h1
      refine ⟨by simp [g1], fun j hj => ?_⟩
      match j, hj with
      | 0, _ =>
        simp only [List.getElem?_cons_zero, List.getElem_cons_zero]
        congr 2
        rw [UInt8.toNat_ofNat_of_lt' (by show k.toNat < 256; omega)]
        omega
      | j + 1, hj => simpa using g2 j (by simpa using hj)
    · rw [if_neg c] at h; cases h
  | .bool _ :: _, _, h | .float _ _ :: _, _, h | .complex _ _ _ :: _, _, h | .string _ :: _, _, h | .pointer _ :: _, _, h | .slice _ _ _ :: _, _, h | .map _ :: _, _, h | .chan _ :: _, _, h | .func _ _ _ :: _, _, h | .nilFunc :: _, _, h | .iface _ _ :: _, _, h
  | .nilIface :: _, _, h | .agg _ :: _, _, h | .tuple _ :: _, _, h | .int .i8 _ :: _, _, h | .int .i16 _ :: _, _, h | .int .i32 _ :: _, _, h | .int .i64 _ :: _, _, h | .int .u16 _ :: _, _, h | .int .u32 _ :: _, _, h | .int .u64 _ :: _, _, h => by simp [bytesOf] at h

theorem sndO_bytesString {o : Oper} {vals : Operand → Value} {src dst e e' : TypeId} {x : Operand} {b off n c sz : Nat} {cc : List Value} {opn r : Bool} {bs : List UInt8} (h : o.op = .convert src dst x)
    (hs : P.underlying src = some (.slice e)) (he : P.underlying e = some (.int .u8)) (hd : P.underlying dst = some .string) (hx : vals x = .slice (some ⟨b, off, none⟩) n c) (hn : n ≠ 0) (hb : s.get b = .cells cc e' opn sz r) (hlen : off + n ≤ cc.length)
    (hbs : bytesOf (cut cc off n).toList = some bs) : SndO P rd o vals s (.string ⟨bs.toArray⟩) s (2 ^ b) 0 :=
  sndO_still (fun c => by rw [h]; simp) fun ρ C ev w _ ag hr hxs => by
    have h1 := hxs x (by simp [h, Op.operands])
    rw [hx] at h1
    obtain ⟨L, c', k1, hev, _⟩ := slice_inv hn h1
    have hbb := ag b (bit_self b) (St.lt_of_live (by rw [hb]; simp))
    obtain ⟨L', cs, fr, q1, q2, q3⟩ := row_of hr (hbb.trans hb)
    rw [k1] at q1
    cases q1
    obtain ⟨p1, p2, p3, p4, p5, p6, p7, p8⟩ := q3
    obtain ⟨g1, g2⟩ := bytesOf_get _ _ hbs
    have hl : bs.length = n := by rw [g1]; simp [cut]; omega
    have hrun := run_convert_bytes_back (P := P) w src dst e ⟨L.blk, L.base + off, none⟩ c' bs hs he hd fun j hj => by
      rw [add_mk, cell_row q2]
      have hj' : j < n := by omega
      have hm : cc[off + j]? = some (.int .u8 (bs[j].toNat : Int)) := by
        have := g2 j hj
        simp only [cut, List.getElem?_take, List.getElem?_drop] at this
        rw [if_pos hj'] at this
        exact this
      obtain ⟨v', m1, m2⟩ := p6 _ _ hm
      rw [Nat.add_assoc, m1, int_inv m2]
    rw [hl] at hrun
    exact ⟨_, by simp [execOp, h, hev, hrun], .string _⟩

theorem sndO_stringBytes {o : Oper} {vals : Operand → Value} {src dst e : TypeId} {x : Operand} {b : ByteArray} (h : o.op = .convert src dst x)
    (hs : P.underlying src = some .string) (hd : P.underlying dst = some (.slice e)) (he : P.underlying e = some (.int .u8)) (hx : vals x = .string b) :
    SndO P rd o vals s (.slice (some ⟨s.next, 0, none⟩) b.size b.size) (s.push (.cells (b.data.toList.map (fun x => .int .u8 x.toNat)) e true 1 false)) 0 0 :=
  sndO_of (fun c => by rw [h]; simp) (stat_push s _) fun ro ρ C ev w hp hxs => by
    have h1 := hxs x (by simp [h, Op.operands])
    rw [hx] at h1
    have hev : ev x = .string b := by generalize ev x = v at h1; cases h1; rfl
    have hrun := run_bytes_of_string (P := P) w src dst e b hs hd he
    have hcap : b.size ≤ grownCap w b.size 0 e := by simp only [grownCap, Question.cut]; omega
    generalize grownCap w b.size 0 e = cap at hrun hcap
    have hdl : b.data.toList.length = b.size := Array.length_toList
    have hsz : (bytesRow b cap).size = cap := by
      have e1 : b.data.size = b.size := rfl
      simp only [bytesRow, Array.size_append, Array.size_map, Array.size_replicate, e1]
      omega
    have ho : OR ρ ⟨w.drew.heap.size, 0, true, 1, (bytesRow b cap).size⟩ (.cells (b.data.toList.map (fun x => .int .u8 x.toNat)) e true 1 false) (.cells (bytesRow b cap) e ((bytesRow b cap).size, (bytesRow b cap).size + 1)) := by
      refine ⟨rfl, rfl, fun _ => rfl, rfl, by simp [hsz]; omega, fun i v hi => ⟨v, ?_, ?_⟩, fun _ => .inr (Nat.le_refl _), fun hf => by cases hf⟩
      · have hlt : i < b.size := by
          have := (List.getElem?_eq_some_iff.1 hi).1
          simpa [hdl] using this
        simp only [Nat.zero_add, bytesRow]
        rw [Array.getElem?_append_left (by simpa using hlt)]
        simpa using hi
      · simp only [List.getElem?_map, Option.map_eq_some_iff] at hi
        obtain ⟨x, _, rfl⟩ := hi
        exact .int _ _
    obtain ⟨p1, r1, hself⟩ := step_new hp.drew rfl ho
    refine ⟨_, .slice (some ⟨w.heap.size, 0, none⟩) b.size cap, _, .inl (by simp [execOp, h, hev, hrun]), p1.drew, r1, ?_⟩
    exact .slice s.next 0 b.size b.size cap _ hself (.inr ⟨rfl, hcap, by simp [hsz]⟩)

theorem equal_run {t : TypeId} {x y : Value} {r : Bool} (h : ∀ d : Nat, (Op.equalIn (d + 1) t x y).run P w = .ok r w) : (Op.equal t x y).run P w = .ok r w := by
  simp [Op.equal, Op.maxDepth, h 9999]
def refEq (P : Program) (t : TypeId) (x y : Value) : Option Bool :=
  match P.underlying t, x, y with
  | some (.slice _), .slice none _ _, .slice b _ _ => some b.isNone
  | some (.slice _), .slice (some _) _ _, .slice none _ _ => some false
  | some (.pointer _), .pointer none, .pointer b => some b.isNone
  | some (.pointer _), .pointer (some _), .pointer none => some false
  | some (.pointer e), .pointer (some a), .pointer (some b) => match P.info? e with
    | some i => if i.size ≠ 0 ∧ a.block = b.block ∧ a.spot = none ∧ b.spot = none then some (a == b) else none
    | none => none
  | some (.map _ _), .map none, .map b => some b.isNone
  | some (.map _ _), .map (some _), .map none => some false
  | some (.func _ _ _), .nilFunc, .nilFunc => some true
  | some (.func _ _ _), .nilFunc, .func _ _ _ => some false
  | some (.func _ _ _), .func _ _ _, .nilFunc => some false
  | some (.interface _), .nilIface, .iface _ _ => some false
  | some (.interface _), .iface _ _, .nilIface => some false
  | _, _, _ => none
theorem beq_addr (b o1 o2 k base : Nat) : ((⟨k, base + o1, none⟩ : Addr) == ⟨k, base + o2, none⟩) = ((⟨b, o1, none⟩ : Addr) == ⟨b, o2, none⟩) := by
  rw [Bool.eq_iff_iff, beq_iff_eq, beq_iff_eq, Addr.mk.injEq, Addr.mk.injEq]
  constructor
  · rintro ⟨_, h, _⟩; exact ⟨rfl, by omega, rfl⟩
  · rintro ⟨_, h, _⟩; exact ⟨rfl, by omega, rfl⟩
theorem refEq_run {t : TypeId} {x y x' y' : Value} {r : Bool} (h : refEq P t x y = some r) (hx : VR ρ x x') (hy : VR ρ y y') (d : Nat) : (Op.equalIn (d + 1) t x' y').run P w = .ok r w := by
  unfold refEq at h
  split at h
  all_goals first | (cases h; done) | skip
  · obtain ⟨e, ht⟩ : ∃ e, P.underlying t = some (.slice e) := ⟨_, by assumption⟩
    cases hx; cases hy <;> (cases h; simp [Op.equalIn, run_underlying ht])
  · obtain ⟨e, ht⟩ : ∃ e, P.underlying t = some (.slice e) := ⟨_, by assumption⟩
    cases hy; cases hx <;> (cases h; simp [Op.equalIn, run_underlying ht])
  · obtain ⟨e, ht⟩ : ∃ e, P.underlying t = some (.pointer e) := ⟨_, by assumption⟩
    cases hx; cases hy <;> (cases h; simp [Op.equalIn, run_underlying ht])
  · obtain ⟨e, ht⟩ : ∃ e, P.underlying t = some (.pointer e) := ⟨_, by assumption⟩
    cases hy; cases hx <;> (cases h; simp [Op.equalIn, run_underlying ht])
  · rename_i e a b ht
    cases hi : P.info? e with
    | none => rw [hi] at h; cases h
    | some i =>
      rw [hi] at h
      simp only at h
      by_cases c : i.size ≠ 0 ∧ a.block = b.block ∧ a.spot = none ∧ b.spot = none
      · rw [if_pos c] at h
        cases h
        obtain ⟨c1, c2, c3, c4⟩ := c
        have hsz : (sizeOf e).run P w = .ok i.size w := by simp [sizeOf, run_typeInfo w hi]
        cases hx with
        | ptr b1 o1 L1 k1 =>
          cases hy with
          | ptr b2 o2 L2 k2 =>
            simp only at c2
            subst c2
            rw [k1] at k2
            cases k2
            simp [Op.equalIn, run_underlying ht, hsz, c1, sameAddr]
            exact beq_addr b1 o1 o2 L1.blk L1.base
      · rw [if_neg c] at h; cases h
  · obtain ⟨k, e, ht⟩ : ∃ k e, P.underlying t = some (.map k e) := ⟨_, _, by assumption⟩
    cases hx; cases hy <;> (cases h; simp [Op.equalIn, run_underlying ht])
  · obtain ⟨k, e, ht⟩ : ∃ k e, P.underlying t = some (.map k e) := ⟨_, _, by assumption⟩
    cases hy; cases hx <;> (cases h; simp [Op.equalIn, run_underlying ht])
  · obtain ⟨k, e, u, ht⟩ : ∃ k e u, P.underlying t = some (.func k e u) := ⟨_, _, _, by assumption⟩
    cases hx; cases hy; cases h; simp [Op.equalIn, run_underlying ht]
  · obtain ⟨k, e, u, ht⟩ : ∃ k e u, P.underlying t = some (.func k e u) := ⟨_, _, _, by assumption⟩
    cases hx; cases hy <;> (cases h; simp [Op.equalIn, run_underlying ht])
  · obtain ⟨k, e, u, ht⟩ : ∃ k e u, P.underlying t = some (.func k e u) := ⟨_, _, _, by assumption⟩
    cases hy; cases hx <;> (cases h; simp [Op.equalIn, run_underlying ht])
  · obtain ⟨e, ht⟩ : ∃ e, P.underlying t = some (.interface e) := ⟨_, by assumption⟩
    cases hx; cases hy; cases h; simp [Op.equalIn, run_underlying ht]
  · obtain ⟨e, ht⟩ : ∃ e, P.underlying t = some (.interface e) := ⟨_, by assumption⟩
    cases hy; cases hx; cases h; simp [Op.equalIn, run_underlying ht]
theorem guard_ref {op : BinOp} {t : TypeId} {x y : Operand} {u v : Value} {r : Bool} (h : refEq P t u v = some r) {u' v' : Value} (hu : VR ρ u u') (hv : VR ρ v v') : (eqGuard op t x y u' v').run P w = .ok () w := by
  have : eqGuard op t x y u' v' = pure () := by
    unfold refEq at h
    split at h
    all_goals first | (cases h; done) | skip
    all_goals (cases hu <;> cases hv <;> cases op <;> rfl)
  rw [this]; rfl
theorem bin_ref {t : TypeId} {u v u' v' : Value} {r : Bool} {neg : Bool} (hr : refEq P t u v = some r) (h1 : VR ρ u u') (h2 : VR ρ v v') : (binOp (if neg then .neq else .eql) t u' v').run P w = .ok (.bool (r != neg)) w := by
  have he := equal_run (P := P) (w := w) fun d => refEq_run (w := w) hr h1 h2 d
  unfold refEq at hr
  split at hr
  all_goals first | (cases hr; done) | skip
  all_goals (cases h1 <;> cases h2 <;> cases neg <;> simp [binOp, he])
theorem sndO_refEq {o : Oper} {vals : Operand → Value} {t ty : TypeId} {x y : Operand} {r : Bool} {neg : Bool} (h : o.op = .binOp (if neg then .neq else .eql) t x y ty) (hr : refEq P t (vals x) (vals y) = some r) : SndO P rd o vals s (.bool (r != neg)) s 0 0 :=
  sndO_still (fun c => by rw [h]; simp) fun ρ C ev w _ _ _ hxs => by
    have h1 := hxs x (by simp [h, Op.operands])
    have h2 := hxs y (by simp [h, Op.operands])
    have he := equal_run (P := P) (w := w) fun d => refEq_run (w := w) hr h1 h2 d
    have hg := guard_ref (P := P) (w := w) (op := if neg then .neq else .eql) (t := t) (x := x) (y := y) hr h1 h2
    refine ⟨.bool (r != neg), ?_, .bool _⟩
    have hb := bin_ref (w := w) (neg := neg) hr h1 h2
    simp [execOp, h, hg, hb]

theorem sndO_toArr {o : Oper} {vals : Operand → Value} {t e : TypeId} {x : Operand} {k n c b off : Nat} (h : o.op = .sliceToArrayPointer t x) (ht : P.underlying t = some (.array k e)) (hx : vals x = .slice (some ⟨b, off, none⟩) n c) (hn : n ≠ 0) (hk : k ≤ n) :
    SndO P rd o vals s (.pointer (some ⟨b, off, none⟩)) s 0 0 :=
  sndO_still (fun c => by rw [h]; simp) fun ρ C ev w _ _ _ hxs => by
    have h1 := hxs x (by simp [h, Op.operands])
    rw [hx] at h1
    obtain ⟨L, c', k1, he, _⟩ := slice_inv hn h1
    refine ⟨.pointer (some ⟨L.blk, L.base + off, none⟩), ?_, .ptr b off L k1⟩
    have : ¬ n < k := by omega
    simp [execOp, h, he, Instr.arrayAt, run_underlying ht, this]
theorem sndO_rangeString {o : Oper} {vals : Operand → Value} {t : TypeId} {x : Operand} {b : ByteArray} (h : o.op = .range t x) (ht : P.underlying t = some .string) (hx : vals x = .string b) :
    SndO P rd o vals s (.pointer (some ⟨s.next, 0, none⟩)) (s.push (.iter b 0)) 0 0 :=
  sndO_new (fun c => by rw [h]; simp) fun ρ ev w hxs => by
    have h1 := hxs x (by simp [h, Op.operands])
    rw [hx] at h1
    have hev : ev x = .string b := by generalize ev x = v at h1; cases h1; rfl
    exact ⟨.stringIter b 0, ⟨w.heap.size, 0, false, 0, 0⟩, by simp [execOp, h, hev, Instr.range, run_underlying ht], rfl, rfl, rfl, rfl, rfl⟩
theorem iter_of {b : Nat} {z : ByteArray} {p : Nat} (hr : WRel ρ C w) (hc : C b = .iter z p) : ∃ L, ρ b = some L ∧ w.heap[L.blk]? = some (.stringIter z p) ∧ L.base = 0 := by
  obtain ⟨L, o', h1, h2, h3⟩ := hr.1 b (by rw [hc]; simp)
  rw [hc] at h3
  cases o' with
  | stringIter z' p' => obtain ⟨rfl, rfl, h0⟩ := h3; exact ⟨L, h1, h2, h0⟩
  | _ => simp [OR] at h3
theorem sndO_nextEnd {o : Oper} {vals : Operand → Value} {x : Operand} {b p : Nat} {z : ByteArray} (h : o.op = .next x true) (hx : vals x = .pointer (some ⟨b, 0, none⟩)) (hb : s.get b = .iter z p) (hp : ¬ p < z.size) : SndO P rd o vals s (.tuple #[.bool false]) s (2 ^ b) 0 :=
  sndO_still (fun c => by rw [h]; simp) fun ρ C ev w _ ag hr hxs => by
    have h1 := hxs x (by simp [h, Op.operands])
    rw [hx] at h1
    obtain ⟨L, k1, he⟩ := ptr_inv h1
    have hbb := ag b (bit_self b) (St.lt_of_live (by rw [hb]; simp))
    obtain ⟨L', g1, g2, g3⟩ := iter_of hr (hbb.trans hb)
    rw [k1] at g1
    cases g1
    have hg : (getObj L.blk).run P w = .ok (.stringIter z p) w := by simp [getObj, Sem.run, g2]
    exact ⟨.tuple #[.bool false], by simp [execOp, h, he, g3, Instr.next, hg, hp], ground_refl 12 rfl⟩
theorem sndO_nextOn {o : Oper} {vals : Operand → Value} {x : Operand} {b p : Nat} {z : ByteArray} (h : o.op = .next x true) (hx : vals x = .pointer (some ⟨b, 0, none⟩)) (hb : s.get b = .iter z p) (hp : p < z.size) :
    SndO P rd o vals s (.tuple #[.bool true, .int .i64 p, .int .i32 (Utf8.decode z p).1]) (s.put b (.iter z (p + (Utf8.decode z p).2))) 0 (2 ^ b) := by
  have hbl : s.get b ≠ .hole := by rw [hb]; simp
  refine sndO_of (fun c => by rw [h]; simp) (stat_put hbl _) fun ro ρ C ev w hpr hxs => ?_
  have h1 := hxs x (by simp [h, Op.operands])
  rw [hx] at h1
  obtain ⟨L, k1, he⟩ := ptr_inv h1
  have hbb := hpr.agree b (by rw [or_bit, bit_self]; simp) (St.lt_of_live hbl)
  obtain ⟨L', g1, g2, g3⟩ := iter_of hpr.rel (hbb.trans hb)
  rw [k1] at g1
  cases g1
  have hlt := lt_of_some g2
  have hg : (getObj L.blk).run P w = .ok (.stringIter z p) w := by simp [getObj, Sem.run, g2]
  have hs : ∀ ob, (setObj L.blk ob).run P w = .ok () { w with heap := w.heap.setIfInBounds L.blk ob } := fun ob => by simp [setObj, Sem.run, g2]
  obtain ⟨p1, r1⟩ := step_put (o1 := .stringIter z (p + (Utf8.decode z p).2)) (o' := .stringIter z p) (w1 := { w with heap := w.heap.setIfInBounds L.blk (.stringIter z (p + (Utf8.decode z p).2)) }) hpr hbl (by rw [hb]; rfl) k1
    ⟨by simp, fun y hy => by simp [Array.getElem?_setIfInBounds, Ne.symm hy], rfl, rfl, rfl⟩ (by simp [Array.getElem?_setIfInBounds, hlt]) ⟨rfl, rfl, g3⟩
  exact ⟨ρ, _, _, .inl (by simp [execOp, h, he, g3, Instr.next, hg, hp, hs]; rfl), p1, r1, ground_refl 12 rfl⟩
end Mini
end Go.Proofs.YtbkpnhbcihcgaaaGreatDoor
end
section
namespace Go.Proofs.YtbkpnhbcihcgaaaGreatDoor
set_option linter.all false
namespace Mini
variable {P : Program} {rd : Option Nat}

def wrN (S : Nat → St) (W : Nat → Nat) (k b : Nat) : Prop := ((S k).next ≤ b ∧ b < (S (k + 1)).next) ∨ ((W k).testBit b = true ∧ b < (S k).next)
instance (S : Nat → St) (W : Nat → Nat) (k b : Nat) : Decidable (wrN S W k b) := by unfold wrN; infer_instance

def VN (C0 : Nat → MObj) (S : Nat → St) (W : Nat → Nat) (E : Nat → Bool) (b : Nat) : Nat → MObj
  | 0 => C0 b
  | k + 1 => if E k = true ∧ wrN S W k b then (S (k + 1)).get b else VN C0 S W E b k
def VT (A : Nat → Act) (D : Nat → Option Tmp) (E : Nat → Bool) (t : Nat) : Nat → Value
  | 0 => (A 0).tmps.getD t undef
  | k + 1 => if E k = true ∧ D k = some t then (A (k + 1)).tmps.getD t undef else VT A D E t k

structure Sq (P : Program) (rd : Option Nat) (ops : Array Oper) (A : Nat → Act) (S : Nat → St) (R W : Nat → Nat) : Prop where
  step : ∀ i, i < ops.size → ∃ o v, ops[i]? = some o ∧ A (i + 1) = (A i).put o.dst v ∧ okAll P ops o (A i) = true ∧
    ((Region.wanted o (yielded ops (A i).tmps) = true ∧ SndO P rd o (A i).eval (S i) v (S (i + 1)) (R i) (W i)) ∨ (Region.wanted o (yielded ops (A i).tmps) = false ∧ v = undef ∧ S (i + 1) = S i ∧ W i = 0))

def dstOf (ops : Array Oper) (k : Nat) : Option Tmp := (ops[k]?).bind (·.dst)
def looks (ops : Array Oper) (i t : Nat) : Prop := ∃ o, ops[i]? = some o ∧ t ∈ o.looksAt ops

structure Apart (ops : Array Oper) (S : Nat → St) (R W : Nat → Nat) (ord : Nat → Nat → Prop) : Prop where
  lt : ∀ j i, ord j i → j < i
  tmps : ∀ j i t, i < ops.size → j < ops.size → i ≠ j → dstOf ops j = some t → (looks ops i t ∨ dstOf ops i = some t) → ord j i ∨ ord i j
  names : ∀ j i b, i < ops.size → j < ops.size → i ≠ j → wrN S W j b → (((R i ||| W i).testBit b = true ∧ b < (S i).next) ∨ ((S i).next ≤ b ∧ b < (S (i + 1)).next)) → ord j i ∨ ord i j

section
variable {ops : Array Oper} {A : Nat → Act} {S : Nat → St} {R W : Nat → Nat} {ord : Nat → Nat → Prop} {E : Nat → Bool} {C0 : Nat → MObj}

theorem Sq.stat (h : Sq P rd ops A S R W) (i : Nat) (hi : i < ops.size) : Stat (S i) (S (i + 1)) (W i) := by
  obtain ⟨o, v, h1, h2, h3, ⟨h4, h5⟩ | ⟨h4, h5, h6, h7⟩⟩ := h.step i hi
  · exact h5.1
  · rw [h6, h7]; exact Stat.refl _
theorem Sq.mono (h : Sq P rd ops A S R W) : ∀ (j i : Nat), i ≤ j → j ≤ ops.size → (S i).next ≤ (S j).next
  | 0, i, h1, _ => by rw [Nat.le_zero.1 h1]; exact Nat.le_refl _
  | j + 1, i, h1, h2 => by
    rcases Nat.lt_or_ge i (j + 1) with c | c
    · exact Nat.le_trans (h.mono j i (by omega) (by omega)) (h.stat j (by omega)).1
    · rw [show i = j + 1 from by omega]; exact Nat.le_refl _
theorem Sq.keep (h : Sq P rd ops A S R W) (k b : Nat) (hk : k < ops.size) (hb : ¬ wrN S W k b) : (S (k + 1)).get b = (S k).get b := by
  have hs := h.stat k hk
  by_cases c : b < (S k).next
  · refine hs.2 b c ?_
    cases hw : (W k).testBit b with
    | false => rfl
    | true => exact absurd (.inr ⟨hw, c⟩) hb
  · have c2 : ¬ b < (S (k + 1)).next := fun hlt => hb (.inl ⟨by omega, hlt⟩)
    rw [St.get_beyond _ _ (by omega), St.get_beyond _ _ (by omega)]

def Rdy (ord : Nat → Nat → Prop) (E : Nat → Bool) (i : Nat) : Prop := E i = false ∧ ∀ j, ord j i → E j = true
def Down (ord : Nat → Nat → Prop) (E : Nat → Bool) : Prop := ∀ i, E i = true → ∀ j, ord j i → E j = true

theorem vn_at (hq : Sq P rd ops A S R W) (hA : Apart ops S R W ord) (hD : Down ord E) {i b : Nat} (hi : i < ops.size) (hr : Rdy ord E i) (hE : ∀ k, E k = true → k < ops.size)
    (hacc : ((R i ||| W i).testBit b = true ∧ b < (S i).next) ∨ ((S i).next ≤ b ∧ b < (S (i + 1)).next)) (h0 : C0 b = (S 0).get b) : ∀ k, k ≤ ops.size → VN C0 S W E b k = (S (min k i)).get b
  | 0, _ => by rw [Nat.zero_min]; exact h0
  | k + 1, hk => by
    have ih := vn_at hq hA hD hi hr hE hacc h0 k (by omega)
    simp only [VN]
    rcases Nat.lt_or_ge k i with c | c
    · rw [show min (k + 1) i = k + 1 from by omega]
      by_cases hw : wrN S W k b
      · have : E k = true := by
          rcases hA.names k i b hi (by omega) (by omega) hw hacc with g | g
          · exact hr.2 k g
          · have := hA.lt i k g; omega
        rw [if_pos ⟨this, hw⟩]
      · rw [if_neg (fun h => hw h.2), ih, show min k i = k from by omega]
        exact (hq.keep k b (by omega) hw).symm
    · rw [show min (k + 1) i = i from by omega]
      rw [show min k i = i from by omega] at ih
      by_cases hw : E k = true ∧ wrN S W k b
      · exfalso
        have hki : k ≠ i := fun e => by rw [e, hr.1] at hw; cases hw.1
        rcases hA.names k i b hi (by omega) (Ne.symm hki) hw.2 hacc with g | g
        · have := hA.lt k i g; omega
        · have := hD k hw.1 i g; rw [hr.1] at this; cases this
      · rw [if_neg hw]; exact ih
theorem vt_at (hq : Sq P rd ops A S R W) (hA : Apart ops S R W ord) (hD : Down ord E) {i t : Nat} (hi : i < ops.size) (hr : Rdy ord E i)
    (hacc : looks ops i t ∨ dstOf ops i = some t) : ∀ k, k ≤ ops.size → VT A (dstOf ops) E t k = (A (min k i)).tmps.getD t undef
  | 0, _ => by rw [Nat.zero_min]; rfl
  | k + 1, hk => by
    have ih := vt_at hq hA hD hi hr hacc k (by omega)
    simp only [VT]
    rcases Nat.lt_or_ge k i with c | c
    · rw [show min (k + 1) i = k + 1 from by omega]
      by_cases hw : dstOf ops k = some t
      · have : E k = true := by
          rcases hA.tmps k i t hi (by omega) (by omega) hw hacc with g | g
          · exact hr.2 k g
          · have := hA.lt i k g; omega
        rw [if_pos ⟨this, hw⟩]
      · rw [if_neg (fun h => hw h.2), ih, show min k i = k from by omega]
        obtain ⟨o, v, h1, h2, _⟩ := hq.step k (by omega)
        rw [h2]
        have hd : dstOf ops k = o.dst := by simp [dstOf, h1]
        rw [hd] at hw
        cases ho : o.dst with
        | none => rfl
        | some d =>
          have hne : d ≠ t := fun e => hw (by rw [ho, e])
          simp [Act.put, Array.getElem?_setIfInBounds, hne]
    · rw [show min (k + 1) i = i from by omega]
      rw [show min k i = i from by omega] at ih
      by_cases hw : E k = true ∧ dstOf ops k = some t
      · exfalso
        have hki : k ≠ i := fun e => by rw [e, hr.1] at hw; cases hw.1
        rcases hA.tmps k i t hi (by omega) (Ne.symm hki) hw.2 hacc with g | g
        · have := hA.lt k i g; omega
        · have := hD k hw.1 i g; rw [hr.1] at this; cases this
      · rw [if_neg hw]; exact ih

def ins (E : Nat → Bool) (i : Nat) : Nat → Bool := fun k => if k = i then true else E k
theorem vn_ins (hA : Apart ops S R W ord) (hD : Down ord E) {i b : Nat} (hi : i < ops.size) (hr : Rdy ord E i) (hwi : ∀ b, (W i).testBit b = true → (R i ||| W i).testBit b = true) : ∀ k, k ≤ ops.size →
    VN C0 S W (ins E i) b k = if i < k ∧ wrN S W i b then (S (i + 1)).get b else VN C0 S W E b k
  | 0, _ => by rw [if_neg (by omega)]; rfl
  | k + 1, hk => by
    have ih := vn_ins (b := b) hA hD hi hr hwi k (by omega)
    simp only [VN]
    by_cases hki : k = i
    · subst hki
      simp only [ins, if_true, true_and]
      rw [hr.1]
      simp only [Bool.false_eq_true, false_and, if_false]
      by_cases hw : wrN S W k b
      · rw [if_pos hw, if_pos ⟨by omega, hw⟩]
      · rw [if_neg hw, if_neg (fun h => hw h.2), ih, if_neg (by omega)]
    · simp only [ins, if_neg hki]
      by_cases hw : E k = true ∧ wrN S W k b
      · rw [if_pos hw]
        by_cases hw2 : i < k + 1 ∧ wrN S W i b
        · exfalso
          have hacc : ((R i ||| W i).testBit b = true ∧ b < (S i).next) ∨ ((S i).next ≤ b ∧ b < (S (i + 1)).next) := by
            rcases hw2.2 with h | ⟨h, g⟩
            · exact .inr h
            · exact .inl ⟨hwi b h, g⟩
          rcases hA.names k i b hi (by omega) (Ne.symm hki) hw.2 hacc with g | g
          · have := hA.lt k i g; omega
          · have := hD k hw.1 i g; rw [hr.1] at this; cases this
        · rw [if_neg hw2, if_pos hw]
      · rw [if_neg hw, ih]
        by_cases hw2 : wrN S W i b
        · by_cases c : i < k
          · rw [if_pos ⟨c, hw2⟩, if_pos ⟨by omega, hw2⟩]
          · rw [if_neg (fun h => c h.1), if_neg (fun h => c (by omega)), if_neg hw]
        · rw [if_neg (fun h => hw2 h.2), if_neg (fun h => hw2 h.2), if_neg hw]
theorem vt_ins (hA : Apart ops S R W ord) (hD : Down ord E) {i t : Nat} (hi : i < ops.size) (hr : Rdy ord E i) : ∀ k, k ≤ ops.size →
    VT A (dstOf ops) (ins E i) t k = if i < k ∧ dstOf ops i = some t then (A (i + 1)).tmps.getD t undef else VT A (dstOf ops) E t k
  | 0, _ => by rw [if_neg (by omega)]; rfl
  | k + 1, hk => by
    have ih := vt_ins (t := t) hA hD hi hr k (by omega)
    simp only [VT]
    by_cases hki : k = i
    · subst hki
      simp only [ins, if_true, true_and]
      rw [hr.1]
      simp only [Bool.false_eq_true, false_and, if_false]
      by_cases hw : dstOf ops k = some t
      · rw [if_pos hw, if_pos ⟨by omega, hw⟩]
      · rw [if_neg hw, if_neg (fun h => hw h.2), ih, if_neg (by omega)]
    · simp only [ins, if_neg hki]
      by_cases hw : E k = true ∧ dstOf ops k = some t
      · rw [if_pos hw]
        by_cases hw2 : i < k + 1 ∧ dstOf ops i = some t
        · exfalso
          rcases hA.tmps k i t hi (by omega) (Ne.symm hki) hw.2 (.inr hw2.2) with g | g
          · have := hA.lt k i g; omega
          · have := hD k hw.1 i g; rw [hr.1] at this; cases this
        · rw [if_neg hw2, if_pos hw]
      · rw [if_neg hw, ih]
        by_cases hw2 : dstOf ops i = some t
        · by_cases c : i < k
          · rw [if_pos ⟨c, hw2⟩, if_pos ⟨by omega, hw2⟩]
          · rw [if_neg (fun h => c h.1), if_neg (fun h => c (by omega)), if_neg hw]
        · rw [if_neg (fun h => hw2 h.2), if_neg (fun h => hw2 h.2), if_neg hw]

def orUpto (W : Nat → Nat) : Nat → Nat
  | 0 => 0
  | k + 1 => orUpto W k ||| W k
theorem orUpto_bit (W : Nat → Nat) : ∀ (k i b : Nat), i < k → (W i).testBit b = true → (orUpto W k).testBit b = true
  | 0, i, b, h, _ => by omega
  | k + 1, i, b, h, hb => by
    simp only [orUpto, or_bit, Bool.or_eq_true]
    rcases Nat.lt_or_ge i k with c | c
    · exact .inl (orUpto_bit W k i b c hb)
    · rw [show k = i from by omega]; exact .inr hb
theorem Sq.statUpto (h : Sq P rd ops A S R W) : ∀ k, k ≤ ops.size → Stat (S 0) (S k) (orUpto W k)
  | 0, _ => Stat.refl _
  | k + 1, hk => (h.statUpto k (by omega)).trans (h.stat k (by omega))
theorem vn_all (h : Sq P rd ops A S R W) (hE : ∀ k, k < ops.size → E k = true) (b : Nat) : ∀ k, k ≤ ops.size → VN C0 S W E b k = upd C0 (S 0) (S k) (orUpto W k) b
  | 0, _ => by simp only [VN, orUpto, upd_zero]
  | k + 1, hk => by
    have ih := vn_all h hE b k (by omega)
    have ht := congrFun (upd_trans C0 (h.statUpto k (by omega)) (h.stat k (by omega))) b
    show _ = upd C0 (S 0) (S (k + 1)) (orUpto W k ||| W k) b
    rw [← ht]
    simp only [VN, upd]
    rw [hE k (by omega)]
    simp only [true_and, wrN]
    split
    · rfl
    · rw [ih]; rfl
theorem vt_all (h : Sq P rd ops A S R W) (hE : ∀ k, k < ops.size → E k = true) (t : Nat) : ∀ k, k ≤ ops.size → VT A (dstOf ops) E t k = (A k).tmps.getD t undef
  | 0, _ => rfl
  | k + 1, hk => by
    have ih := vt_all h hE t k (by omega)
    simp only [VT]
    rw [hE k (by omega)]
    by_cases hw : dstOf ops k = some t
    · rw [if_pos ⟨rfl, hw⟩]
    · rw [if_neg (fun g => hw g.2), ih]
      obtain ⟨o, v, h1, h2, _⟩ := h.step k (by omega)
      rw [h2]
      have hd : dstOf ops k = o.dst := by simp [dstOf, h1]
      rw [hd] at hw
      cases ho : o.dst with
      | none => rfl
      | some d =>
        have hne : d ≠ t := fun e => hw (by rw [ho, e])
        simp [Act.put, Array.getElem?_setIfInBounds, hne]
end
end Mini
end Go.Proofs.YtbkpnhbcihcgaaaGreatDoor
end
section
namespace Go.Proofs.YtbkpnhbcihcgaaaGreatDoor
set_option linter.all false
namespace Mini
variable {P : Program} {rd : Option Nat}

theorem Post.step {ρ0 ρ ρ1 : Ren} {s0 s1 si sj : St} {Wt Wi : Nat} {w0 w w1 : World} (hlo : s0.next ≤ si.next) (hhi : sj.next ≤ s1.next) (hW : ∀ b, Wi.testBit b = true → Wt.testBit b = true) (hij : si.next ≤ sj.next)
    (hN : ∀ b, s0.next ≤ b → b < s1.next → ρ0 b = none) (h : Post ρ0 s0 s1 Wt w0 ρ w) (g : Post ρ si sj Wi w ρ1 w1) : Post ρ0 s0 s1 Wt w0 ρ1 w1 := by
  have old : ∀ b, b < s0.next → ρ b = ρ0 b := fun b hb => by
    by_cases e : ρ b = ρ0 b
    · exact e
    · have := h.dom b e; omega
  refine ⟨Ren.le_trans h.sub g.sub, fun b hb => ?_, fun b L hb hL => ?_, Nat.le_trans h.size g.size, fun x hx hf => ?_, g.os.trans h.os, g.tape.trans h.tape, g.output.trans h.output⟩
  · by_cases e : ρ1 b = ρ b
    · exact h.dom b (by rw [← e]; exact hb)
    · have := g.dom b e; omega
  · cases e : ρ b with
    | some L' =>
      have e2 := g.sub b L' e
      rw [hL] at e2
      cases e2
      exact h.fresh b L hb e
    | none =>
      rcases g.fresh b L e hL with k | ⟨b0, L0, k1, k2, k3, k4⟩
      · exact .inl (Nat.le_trans h.size k)
      · by_cases c : b0 < s0.next
        · exact .inr ⟨b0, L0, hW _ k1, c, (old b0 c) ▸ k3, k4⟩
        · rcases h.fresh b0 L0 (hN b0 (by omega) (by omega)) k3 with m | ⟨b1, L1, m1, m2, m3, m4⟩
          · exact .inl (by omega)
          · exact .inr ⟨b1, L1, m1, m2, m3, m4.trans k4⟩
  · have a : w.heap[x]? = w0.heap[x]? := h.frame x hx hf
    rw [← a]
    refine g.frame x (Nat.lt_of_lt_of_le hx h.size) fun b L hb hlt hL => ?_
    by_cases c : b < s0.next
    · exact hf b L (hW _ hb) c ((old b c) ▸ hL)
    · rcases h.fresh b L (hN b (by omega) (by omega)) hL with m | ⟨b1, L1, m1, m2, m3, m4⟩
      · omega
      · rw [← m4]; exact hf b1 L1 m1 m2 m3

section
variable {ops : Array Oper} {A : Nat → Act} {S : Nat → St} {R W : Nat → Nat} {ord : Nat → Nat → Prop} {C0 : Nat → MObj} {ρ0 : Ren} {w0 : World} {ro : Option Nat}

structure RInv (ops : Array Oper) (A : Nat → Act) (S : Nat → St) (W : Nat → Nat) (C0 : Nat → MObj) (ρ0 : Ren) (w0 : World) (ds : List Deferred) (E : Nat → Bool) (ρ : Ren) (a' : Act) (w : World) : Prop where
  post : Post ρ0 (S 0) (S ops.size) (orUpto W ops.size) w0 ρ w
  none : ∀ k, k < ops.size → E k = false → ∀ b, (S k).next ≤ b → b < (S (k + 1)).next → ρ b = none
  rel : WRel ρ (fun b => VN C0 S W E b ops.size) w
  tmps : ∀ t, VR ρ (VT A (dstOf ops) E t ops.size) (a'.tmps.getD t undef)
  size : a'.tmps.size = (A 0).tmps.size
  defs : a'.defers = ds

theorem getD_put {a : Act} {d : Option Tmp} {v : Value} (t : Nat) : (a.put d v).tmps.getD t undef = if d = some t ∧ t < a.tmps.size then v else a.tmps.getD t undef := by
  cases d with
  | none => simp [Act.put]
  | some d =>
    by_cases e : d = t
    · subst e
      rcases Nat.lt_or_ge d a.tmps.size with c | c
      · rw [if_pos ⟨rfl, c⟩]
        simp [Act.put, Array.getElem?_setIfInBounds, c]
      · rw [if_neg (fun h => by omega)]
        simp [Act.put, Array.getElem?_setIfInBounds, Nat.not_lt.2 c]
    · rw [if_neg (fun h => e (Option.some.inj h.1))]
      simp [Act.put, Array.getElem?_setIfInBounds, e]
theorem size_put (a : Act) (d : Option Tmp) (v : Value) : (a.put d v).tmps.size = a.tmps.size := by cases d <;> simp [Act.put]
theorem defs_put (a : Act) (d : Option Tmp) (v : Value) : (a.put d v).defers = a.defers := by cases d <;> rfl
theorem Sq.sizes (h : Sq P rd ops A S R W) : ∀ k, k ≤ ops.size → (A k).tmps.size = (A 0).tmps.size
  | 0, _ => rfl
  | k + 1, hk => by
    obtain ⟨o, v, h1, h2, _⟩ := h.step k (by omega)
    rw [h2, size_put]; exact h.sizes k (by omega)
theorem Sq.defs (h : Sq P rd ops A S R W) : ∀ k, k ≤ ops.size → (A k).defers = (A 0).defers
  | 0, _ => rfl
  | k + 1, hk => by
    obtain ⟨o, v, h1, h2, _⟩ := h.step k (by omega)
    rw [h2, defs_put]; exact h.defs k (by omega)

def boolOf : Value → Option Bool
  | .bool b => some b
  | _ => none
theorem bool_vr {ρ : Ren} {v v' : Value} (h : VR ρ v v') (hs : liveB v = true) : boolOf v' = boolOf v := by cases h <;> first | rfl | (simp [liveB] at hs)
theorem yielded_getD (ops : Array Oper) (t : Array Value) (j : Nat) : yielded ops t j = (dstOf ops j).bind fun d => boolOf (t.getD d undef) := by
  unfold yielded dstOf
  cases (ops[j]?).bind (·.dst) with
  | none => rfl
  | some d =>
    simp only [Option.bind_some]
    rcases Nat.lt_or_ge d t.size with c | c
    · rw [Array.getElem?_eq_getElem c, show t.getD d undef = t[d] from by simp [Array.getD, c]]
      generalize t[d] = v
      cases v <;> rfl
    · rw [Array.getElem?_eq_none c, show t.getD d undef = undef from by simp [Array.getD, Nat.not_lt.2 c]]
      rfl
theorem region_step {E : Nat → Bool} {ρ : Ren} {a' : Act} {w : World} {ds : List Deferred} {Q : Exit → Act → World → Prop} {K : Act → World → Prop} {n i : Nat} (hq : Sq P rd ops A S R W) (hA : Apart ops S R W ord) (hD : Down ord E) (hr : Rdy ord E i) (hi : i < ops.size) (hE : ∀ k, E k = true → k < ops.size)
    (hp : Pre P rd (S 0) (S ops.size) (orUpto R ops.size) (orUpto W ops.size) ro ρ0 C0 w0) (hI : RInv ops A S W C0 ρ0 w0 ds E ρ a' w)
    (hK : ∀ ρ1 a1' w1, RInv ops A S W C0 ρ0 w0 ds (ins E i) ρ1 a1' w1 → K a1' w1) : wpOpIn (Fw ro) n P ops Q i K a' w := by
  obtain ⟨o, v, h1, h2, h3, hor⟩ := hq.step i hi
  have hdst : dstOf ops i = o.dst := by simp [dstOf, h1]
  have m0 := hq.mono i 0 (Nat.zero_le _) (by omega)
  have m1 := hq.mono ops.size (i + 1) (by omega) (Nat.le_refl _)
  have mi := (hq.stat i hi).1
  have wi : ∀ b, (W i).testBit b = true → (R i ||| W i).testBit b = true := fun b hb => by rw [or_bit, hb]; simp
  have look : ∀ t, t ∈ o.looksAt ops → VR ρ ((A i).tmps.getD t undef) (a'.tmps.getD t undef) := fun t ht => by
    have := hI.tmps t
    rw [vt_at hq hA hD hi hr (.inl ⟨o, h1, ht⟩) ops.size (Nat.le_refl _), show min ops.size i = i from by omega] at this
    exact this
  have hw : Region.wanted o (yielded ops a'.tmps) = Region.wanted o (yielded ops (A i).tmps) := wanted_congr fun g b hg => by
    have hs := okAll_guard h3
    unfold guardOk at hs
    rw [hg] at hs
    simp only at hs
    rw [yielded_getD, yielded_getD]
    cases hd : dstOf ops g with
    | none => rfl
    | some d =>
      have hd0 := hd
      unfold dstOf at hd0
      rw [hd0] at hs
      simp only [Option.bind_some] at hs ⊢
      exact bool_vr (hs := hs) (look d (by
        unfold Oper.looksAt
        rw [hg]
        simp only [List.mem_append]
        refine .inr ?_
        unfold dstOf at hd
        rw [hd]; simp))
  have hC : ∀ b, ((R i ||| W i).testBit b = true ∧ b < (S i).next) ∨ ((S i).next ≤ b ∧ b < (S (i + 1)).next) → VN C0 S W E b ops.size = (S i).get b := fun b hb => by
    have h0 : C0 b = (S 0).get b := by
      by_cases c : b < (S 0).next
      · rcases hb with ⟨hb, _⟩ | hb
        · refine hp.agree b ?_ c
          simp only [or_bit, Bool.or_eq_true] at hb ⊢
          rcases hb with k | k
          · exact .inl (orUpto_bit R _ i b hi k)
          · exact .inr (orUpto_bit W _ i b hi k)
        · omega
      · rw [(hp.free b (by omega) (by rcases hb with h | h <;> omega)).2, St.get_beyond _ _ (by omega)]
    have := vn_at hq hA hD hi hr hE hb h0 ops.size (Nat.le_refl _)
    rwa [show min ops.size i = i from by omega] at this
  have fin : ∀ (ρ1 : Ren) (v' : Value) (w1 : World), Post ρ (S i) (S (i + 1)) (W i) w ρ1 w1 → WRel ρ1 (upd (fun b => VN C0 S W E b ops.size) (S i) (S (i + 1)) (W i)) w1 → VR ρ1 v v' → RInv ops A S W C0 ρ0 w0 ds (ins E i) ρ1 (a'.put o.dst v') w1 := fun ρ1 v' w1 p1 r1 hv => by
    refine ⟨Post.step m0 m1 (fun b hb => orUpto_bit W _ i b hi hb) mi (fun b k1 k2 => (hp.free b k1 k2).1) hI.post p1, fun k hk hEk b k1 k2 => ?_, ?_, fun t => ?_, by rw [size_put]; exact hI.size, by rw [defs_put]; exact hI.defs⟩
    · have hki : k ≠ i := fun e => by rw [e] at hEk; simp [ins] at hEk
      have hEk' : E k = false := by simpa [ins, hki] using hEk
      have hn := hI.none k hk hEk' b k1 k2
      by_cases e : ρ1 b = ρ b
      · rw [e]; exact hn
      · have := p1.dom b e
        rcases Nat.lt_or_ge k i with c | c
        · have := hq.mono i (k + 1) (by omega) (by omega); omega
        · have := hq.mono k (i + 1) (by omega) (by omega); omega
    · have he : upd (fun b => VN C0 S W E b ops.size) (S i) (S (i + 1)) (W i) = fun b => VN C0 S W (ins E i) b ops.size := by
        funext b
        rw [vn_ins hA hD hi hr wi ops.size (Nat.le_refl _)]
        have hu : upd (fun b => VN C0 S W E b ops.size) (S i) (S (i + 1)) (W i) b = if wrN S W i b then (S (i + 1)).get b else VN C0 S W E b ops.size := rfl
        rw [hu]
        by_cases c : wrN S W i b
        · rw [if_pos c, if_pos ⟨hi, c⟩]
        · rw [if_neg c, if_neg (fun h => c h.2)]
      rw [← he]; exact r1
    · rw [vt_ins hA hD hi hr ops.size (Nat.le_refl _), getD_put]
      by_cases c : dstOf ops i = some t
      · rw [if_pos ⟨hi, c⟩, h2, getD_put, hdst.symm.trans c, hI.size, hq.sizes i (by omega)]
        simp only [true_and]
        split
        · exact hv
        · have hn : (A i).tmps.getD t undef = undef := by
            have hs := hq.sizes i (by omega)
            simp [Array.getD, show ¬ t < (A i).tmps.size from by omega]
          have hn' : a'.tmps.getD t undef = undef := by simp [Array.getD, show ¬ t < a'.tmps.size from by rw [hI.size]; assumption]
          rw [hn, hn']
          exact undef_vr ρ1
      · rw [if_neg (fun h => c h.2), if_neg (fun h => c (hdst.trans h.1))]
        exact (hI.tmps t).mono p1.sub
  unfold wpOpIn
  rw [h1]
  simp only
  rw [hw]
  rcases hor with ⟨g1, g2⟩ | ⟨g1, g2, g3, g4⟩
  · rw [if_pos g1]
    refine g2.2 n ro ρ (fun b => VN C0 S W E b ops.size) a' w K Q ⟨hp.glob.mono hI.post.sub, hp.round.mono hI.post.sub, fun b hb hlt => hC b (.inl ⟨hb, hlt⟩), fun b k1 k2 => ⟨hI.none i hi hr.1 b k1 k2, ?_⟩, hI.rel⟩ (fun x hx => ?_) fun ρ1 v' w1 p1 r1 hv => hK _ _ _ (fin ρ1 v' w1 p1 r1 hv)
    · show VN C0 S W E b ops.size = .hole
      rw [hC b (.inr ⟨k1, k2⟩), St.get_beyond _ _ k1]
    · have hok : okOp P x = true := by have h3 := okAll_ops h3; rw [List.all_eq_true] at h3; exact h3 x (by simpa using hx)
      cases x with
      | tmp t => exact look t (by unfold Oper.looksAt; rw [List.mem_append]; exact .inl (by simp only [List.mem_filterMap]; exact ⟨.tmp t, by simpa using hx, rfl⟩))
      | const u => exact ground_refl 8 hok
      | global g =>
        simp only [okOp, decide_eq_true_eq] at hok
        obtain ⟨L, q1, q2, q3⟩ := (hp.glob.mono hI.post.sub) g hok
        have h := VR.ptr g 0 L q1
        rw [q2, q3] at h
        exact h
      | func f => exact .func _ _ _ _ _ rfl rfl rfl (fun i v v' h => by simp at h) (fun i v v' h => by simp at h)
  · rw [if_neg (by rw [g1]; simp)]
    refine ⟨fun f _ => Fw_fn ro f, hK ρ _ w (fin ρ undef w ?_ ?_ (by rw [g2]; exact undef_vr ρ))⟩
    · rw [g3, g4]; exact Post.refl ρ (S i) w
    · rw [g3, g4, upd_zero]; exact hI.rel

structure Ords (ops : Array Oper) (ord : Nat → Nat → Prop) : Prop where
  ready : ∀ (E : Nat → Bool) i o, ops[i]? = some o → Down ord E → (∀ e, e ∈ o.after.toList → Region.binds .any e = true → E e.on = true) → ∀ j, ord j i → E j = true
  edges : ∀ i o, ops[i]? = some o → ∀ e, e ∈ o.after.toList → Region.binds .any e = true → e.on < i

def listE (listed : Array Bool) : Nat → Bool := fun k => listed.getD k false
theorem listE_set (listed : Array Bool) (i : Nat) (hi : i < listed.size) : listE (listed.setIfInBounds i true) = ins (listE listed) i := by
  funext k
  unfold listE ins
  by_cases e : k = i
  · subst e
    rw [if_pos rfl]
    simp [Array.getElem?_setIfInBounds, hi]
  · rw [if_neg e]
    simp [Array.getElem?_setIfInBounds, Ne.symm e]
theorem getD_lt (listed : Array Bool) (i : Nat) (hi : i < listed.size) (d : Bool) : listed.getD i d = listE listed i := by
  simp [listE, Array.getD, hi]
theorem mem_ready {listed : Array Bool} (hs : listed.size = ops.size) {i : Nat} (h : i ∈ Region.ready .any ops listed) :
    i < ops.size ∧ listE listed i = false ∧ ∃ o, ops[i]? = some o ∧ ∀ e, e ∈ o.after.toList → Region.binds .any e = true → listE listed e.on = true := by
  unfold Region.ready at h
  rw [List.mem_filter, List.mem_range] at h
  obtain ⟨h1, h2⟩ := h
  rw [Bool.and_eq_true] at h2
  refine ⟨h1, ?_, ?_⟩
  · have := h2.1
    rw [getD_lt listed i (by omega)] at this
    simpa using this
  · have ho : ops[i]? = some ops[i] := Array.getElem?_eq_getElem h1
    refine ⟨ops[i], ho, fun e he hb => ?_⟩
    have h3 := h2.2
    rw [ho] at h3
    simp only [Option.map_some, Option.getD_some] at h3
    rw [← Array.all_toList, List.all_eq_true] at h3
    have := h3 e he
    rw [hb] at this
    simpa [listE] using this
theorem ready_of {listed : Array Bool} (hs : listed.size = ops.size) {i : Nat} {o : Oper} (h1 : i < ops.size) (h2 : listE listed i = false) (ho : ops[i]? = some o) (h3 : ∀ e, e ∈ o.after.toList → Region.binds .any e = true → listE listed e.on = true) : i ∈ Region.ready .any ops listed := by
  unfold Region.ready
  rw [List.mem_filter, List.mem_range]
  refine ⟨h1, ?_⟩
  rw [Bool.and_eq_true]
  refine ⟨by rw [getD_lt listed i (by omega), h2]; rfl, ?_⟩
  rw [ho]
  simp only [Option.map_some, Option.getD_some]
  rw [← Array.all_toList, List.all_eq_true]
  intro e he
  cases hb : Region.binds .any e with
  | false => rfl
  | true => simpa [listE] using h3 e he hb
theorem all_of_none {listed : Array Bool} (hO : Ords ops ord) (hs : listed.size = ops.size) (h : Region.ready .any ops listed = []) : ∀ k, k < ops.size → listE listed k = true := by
  intro k
  induction k using Nat.strongRecOn with
  | _ k ih =>
    intro hk
    cases hl : listE listed k with
    | true => rfl
    | false =>
      exfalso
      have ho : ops[k]? = some ops[k] := Array.getElem?_eq_getElem hk
      have := ready_of hs hk hl ho fun e he hb => ih e.on (hO.edges k _ ho e he hb) (Nat.lt_trans (hO.edges k _ ho e he hb) hk)
      rw [h] at this
      cases this
def left (n : Nat) (E : Nat → Bool) : Nat := ((List.range n).filter fun k => !E k).length
theorem left_ins {n i : Nat} {E : Nat → Bool} (hi : i < n) (hE : E i = false) : left n (ins E i) < left n E := by
  unfold left
  have hself : ins E i i = true := if_pos rfl
  have hoth : ∀ x, x ≠ i → ins E i x = E x := fun x e => if_neg e
  have h1 : ∀ (l : List Nat), (l.filter fun k => !ins E i k).length ≤ (l.filter fun k => !E k).length := fun l => by
    induction l with
    | nil => exact Nat.le_refl _
    | cons x l ih =>
      rw [List.filter_cons, List.filter_cons]
      by_cases e : x = i
      · rw [e, hself, hE, if_neg (by simp), if_pos (by rfl : (!false) = true), List.length_cons]
        exact Nat.le_succ_of_le ih
      · rw [hoth x e]
        split
        · rw [List.length_cons, List.length_cons]; exact Nat.succ_le_succ ih
        · exact ih
  have h2 : ∀ (l : List Nat), i ∈ l → (l.filter fun k => !ins E i k).length < (l.filter fun k => !E k).length := fun l => by
    induction l with
    | nil => intro h; cases h
    | cons x l ih =>
      intro h
      rw [List.filter_cons, List.filter_cons]
      by_cases e : x = i
      · rw [e, hself, hE, if_neg (by simp), if_pos (by rfl : (!false) = true), List.length_cons]
        exact Nat.lt_succ_of_le (h1 l)
      · have hm : i ∈ l := by
          rcases List.mem_cons.1 h with h | h
          · exact absurd h.symm e
          · exact h
        rw [hoth x e]
        split
        · rw [List.length_cons, List.length_cons]; exact Nat.succ_lt_succ (ih hm)
        · exact ih hm
  exact h2 _ (List.mem_range.2 hi)

theorem region_any {ds : List Deferred} {Q : Exit → Act → World → Prop} {n : Nat} (hq : Sq P rd ops A S R W) (hA : Apart ops S R W ord) (hO : Ords ops ord)
    (hp : Pre P rd (S 0) (S ops.size) (orUpto R ops.size) (orUpto W ops.size) ro ρ0 C0 w0)
    (hQ : ∀ (E : Nat → Bool) ρ1 a1' w1, (∀ k, k < ops.size → E k = true) → RInv ops A S W C0 ρ0 w0 ds E ρ1 a1' w1 → Q .normal a1' w1) :
    ∀ (fuel : Nat) (listed : Array Bool) (ρ : Ren) (a' : Act) (w : World), listed.size = ops.size → Down ord (listE listed) → left ops.size (listE listed) ≤ fuel → RInv ops A S W C0 ρ0 w0 ds (listE listed) ρ a' w → wpAnyIn (Fw ro) n P .any ops Q fuel listed a' w := by
  intro fuel
  induction fuel with
  | zero =>
    intro listed ρ a' w hs hD hl hI
    have hall : ∀ k, k < ops.size → listE listed k = true := fun k hk => by
      cases h : listE listed k with
      | true => rfl
      | false =>
        exfalso
        have : k ∈ (List.range ops.size).filter fun k => !listE listed k := by simp [hk, h]
        have hl0 : left ops.size (listE listed) = 0 := Nat.le_zero.1 hl
        unfold left at hl0
        rw [List.length_eq_zero_iff.1 hl0] at this
        cases this
    refine ⟨?_, hQ _ ρ a' w hall hI⟩
    cases hr : Region.ready .any ops listed with
    | nil => rfl
    | cons x xs =>
      have hx := mem_ready (ops := ops) hs (i := x) (by rw [hr]; simp)
      rw [hall x hx.1] at hx
      cases hx.2.1
  | succ fuel ih =>
    intro listed ρ a' w hs hD hl hI
    refine ⟨fun hn => hQ _ ρ a' w (all_of_none hO hs hn) hI, fun i hi => ?_⟩
    obtain ⟨h1, h2, o, ho, h3⟩ := mem_ready hs hi
    have hr : Rdy ord (listE listed) i := ⟨h2, hO.ready _ i o ho hD h3⟩
    have hEs : ∀ k, listE listed k = true → k < ops.size := fun k hk => by
      rcases Nat.lt_or_ge k listed.size with c | c
      · omega
      · simp [listE, Array.getD, Nat.not_lt.2 c] at hk
    refine region_step hq hA hD hr h1 hEs hp hI fun ρ1 a1' w1 hI1 => ?_
    rw [← listE_set listed i (by omega)] at hI1
    refine ih _ ρ1 a1' w1 (by simpa using hs) (fun x hx j hj => ?_) ?_ hI1
    · rw [listE_set listed i (by omega)] at hx ⊢
      unfold ins at hx ⊢
      by_cases ej : j = i
      · rw [if_pos ej]
      · rw [if_neg ej]
        by_cases ex : x = i
        · subst ex; exact hr.2 j hj
        · rw [if_neg ex] at hx; exact hD x hx j hj
    · rw [listE_set listed i (by omega)]
      have := left_ins h1 h2
      omega

theorem sndC_draw {id : Nat} (hm : P.follows .mixedOrders = true) (hq : Sq P rd ops A S R W) (hA : Apart ops S R W ord) (hO : Ords ops ord) :
    SndC P rd (.region id ops true) (A 0) (S 0) .normal (A ops.size) (S ops.size) (orUpto R ops.size) (orUpto W ops.size) := by
  refine ⟨hq.statUpto ops.size (Nat.le_refl _), fun n ro ρ0 C0 a0' w Q hp ha hQ => ?_⟩
  refine wpIn_region_draw fun t => ?_
  simp only [Region.schedule, hm, Bool.true_or, if_true]
  have hw0 : ({ w with drawn := w.drawn + 1 } : World) = w.drew := rfl
  rw [hw0]
  have hp' : Pre P rd (S 0) (S ops.size) (orUpto R ops.size) (orUpto W ops.size) ro ρ0 C0 w.drew := ⟨hp.glob, hp.round, hp.agree, hp.free, hp.rel⟩
  refine wpAnyIn_sound ops.size t _ a0' _ (region_any (ds := a0'.defers) hq hA hO hp' (fun E ρ1 a1' w1 hall hI => ?_) ops.size _ ρ0 a0' _ (by simp) ?_ ?_ ?_)
  · have hpost : Post ρ0 (S 0) (S ops.size) (orUpto W ops.size) w ρ1 w1 := ⟨hI.post.sub, hI.post.dom, hI.post.fresh, hI.post.size, hI.post.frame, hI.post.os, hI.post.tape, hI.post.output⟩
    refine hQ ρ1 a1' w1 hpost ?_ ⟨⟨?_, fun t v v' g1 g2 => ?_⟩, ?_⟩
    · have := hI.rel
      rwa [show (fun b => VN C0 S W E b ops.size) = upd C0 (S 0) (S ops.size) (orUpto W ops.size) from funext fun b => vn_all hq hall b ops.size (Nat.le_refl _)] at this
    · rw [hq.sizes ops.size (Nat.le_refl _), hI.size]
    · have := hI.tmps t
      rw [vt_all hq hall t ops.size (Nat.le_refl _)] at this
      simpa [Array.getD_eq_getD_getElem?, g1, g2] using this
    · rw [hI.defs, hq.defs ops.size (Nat.le_refl _)]
      exact ha.defs.mono hI.post.sub
  · intro x hx
    simp [listE, Array.getD] at hx
  · unfold left
    have : ((List.range ops.size).filter fun k => !listE (Array.replicate ops.size false) k).length ≤ (List.range ops.size).length := List.length_filter_le _ _
    simpa using this
  · have hv0 : ∀ (b k : Nat), VN C0 S W (listE (Array.replicate ops.size false)) b k = C0 b := fun b k => by
      induction k with
      | zero => rfl
      | succ k ih =>
        simp only [VN]
        rw [if_neg (fun h => by have := h.1; simp [listE, Array.getD] at this), ih]
    have ht0 : ∀ (t k : Nat), VT A (dstOf ops) (listE (Array.replicate ops.size false)) t k = (A 0).tmps.getD t undef := fun t k => by
      induction k with
      | zero => rfl
      | succ k ih =>
        simp only [VT]
        rw [if_neg (fun h => by have := h.1; simp [listE, Array.getD] at this), ih]
    refine ⟨⟨Ren.le_refl _, fun b h => absurd rfl h, fun b L h g => (by rw [h] at g; cases g), Nat.le_refl _, fun _ _ _ => rfl, rfl, rfl, rfl⟩, fun k hk _ b k1 k2 => ?_, ?_, fun t => ?_, ha.tmps.1.symm, rfl⟩
    · have g1 := hq.mono k 0 (Nat.zero_le _) (by omega)
      have g2 := hq.mono ops.size (k + 1) (by omega) (Nat.le_refl _)
      exact (hp.free b (by omega) (by omega)).1
    · simp only [hv0]; exact hp.rel
    · rw [ht0]; exact ha.tmps.getD t
end
end Mini
end Go.Proofs.YtbkpnhbcihcgaaaGreatDoor
end
section
namespace Go.Proofs.YtbkpnhbcihcgaaaGreatDoor
set_option linter.all false
namespace Mini
variable {P : Program} {rd : Option Nat} {s s1 : St} {R W : Nat} {ro : Option Nat} {ρ : Ren} {C : Nat → MObj} {w : World}

def loadM (P : Program) (s : St) (t : TypeId) : Value → Option (Value × Nat)
  | .pointer (some ⟨b, off, none⟩) =>
    match s.get b with
    | .cells c _ _ _ _ =>
      match aggT P t with
      | some true => match P.info? t with
        | some i => if off + i.size ≤ c.length then some (.agg (cut c off i.size), 2 ^ b) else none
        | none => none
      | some false => match c[off]? with
        | some v => some (v, 2 ^ b)
        | none => none
      | none => none
    | _ => none
  | _ => none
theorem loadM_run {t : TypeId} {v u v' : Value} {R0 : Nat} (h : loadM P s t v = some (u, R0)) (hv : VR ρ v v') (ha : ∀ b, R0.testBit b = true → b < s.next → C b = s.get b) (hr : WRel ρ C w) :
    ∃ a' u', v' = .pointer (some a') ∧ (loadVar t a').run P w = .ok u' w ∧ VR ρ u u' := by
  unfold loadM at h
  split at h
  · rename_i b off
    cases hc : s.get b with
    | cells c e opn sz r =>
      rw [hc] at h
      simp only at h
      obtain ⟨L, h2, he⟩ := ptr_inv hv
      have fin : R0 = 2 ^ b → ∃ cs fr, w.heap[L.blk]? = some (.cells cs (elemAt w L.blk) fr) ∧ OR ρ L (.cells c e opn sz r) (.cells cs (elemAt w L.blk) fr) := fun hR => by
        have hb := ha b (by rw [hR]; exact bit_self b) (St.lt_of_live (by rw [hc]; simp))
        obtain ⟨L', cs, fr, g1, g2, g3⟩ := row_of hr (hb.trans hc)
        rw [h2] at g1
        cases g1
        exact ⟨cs, fr, g2, g3⟩
      cases ht : aggT P t with
      | none => rw [ht] at h; cases h
      | some q =>
        rw [ht] at h
        cases q with
        | true =>
          simp only at h
          cases hi : P.info? t with
          | none => rw [hi] at h; cases h
          | some i =>
            rw [hi] at h
            simp only at h
            by_cases hle : off + i.size ≤ c.length
            · rw [if_pos hle] at h
              simp only [Option.some.injEq, Prod.mk.injEq] at h
              obtain ⟨rfl, rfl⟩ := h
              obtain ⟨cs, fr, g2, g3⟩ := fin rfl
              obtain ⟨k1, k2, k3, k4, k5, k6, k7⟩ := g3
              have hsz : (sizeOf t).run P w = .ok i.size w := by simp [sizeOf, run_typeInfo w hi]
              have hl := loadCells_run (P := P) (w := w) (base := L.base + off) g2 i.size 0 #[] (by omega)
              refine ⟨_, .agg (cut cs.toList (L.base + off) i.size), he, by simp [loadVar, isAgg_run ht, hsz, loadCells, hl, cut], ?_⟩
              have := cut_vrs (ρ := ρ) (L := L) (c := c) (cs := cs) (o := off) (n := i.size) hle (by omega) k6
              exact .agg _ _ this.1 this.2
            · rw [if_neg hle] at h; cases h
        | false =>
          simp only at h
          cases hn : c[off]? with
          | none => rw [hn] at h; cases h
          | some x =>
            rw [hn] at h
            simp only [Option.some.injEq, Prod.mk.injEq] at h
            obtain ⟨rfl, rfl⟩ := h
            obtain ⟨cs, fr, g2, g3⟩ := fin rfl
            obtain ⟨k1, k2, k3, k4, k5, k6, k7⟩ := g3
            obtain ⟨x', m1, m2⟩ := k6 _ _ hn
            have hcell : w.cell? ⟨L.blk, L.base + off, none⟩ = some x' := (cell_row g2 _).trans m1
            exact ⟨_, x', he, by simp [loadVar, isAgg_run ht, hcell], m2⟩
    | _ => rw [hc] at h; simp at h
  · cases h
theorem sndO_load {o : Oper} {vals : Operand → Value} {t : TypeId} {x : Operand} {v : Value} {R0 : Nat} (h : o.op = .load t x) (hl : loadM P s t (vals x) = some (v, R0)) : SndO P rd o vals s v s R0 0 :=
  sndO_still (fun c => by rw [h]; simp) fun ρ C ev w _ ha hr hx => by
    obtain ⟨a', u', h1, h2, h3⟩ := loadM_run (w := w) hl (hx x (by simp [h, Op.operands])) ha hr
    exact ⟨u', by simp [execOp, h, h1, Instr.loadAt, Instr.sureAddr, h2], h3⟩

def resultM (P : Program) (s : St) (tmps : Array Value) : ResultVar → Option (Value × Nat)
  | .tmp t => some (tmps.getD t undef, 0)
  | .cell a t => loadM P s t (tmps.getD a undef)
def resultsL (P : Program) (s : St) (tmps : Array Value) : List ResultVar → Option (List Value × Nat)
  | [] => some ([], 0)
  | r :: rs => match resultM P s tmps r, resultsL P s tmps rs with
    | some (v, R1), some (vs, R2) => some (v :: vs, R1 ||| R2)
    | _, _ => none
def outV : List Value → Value
  | [v] => v
  | vs => .tuple vs.toArray
theorem resultsL_run {tmps tmps' : Array Value} (ht : VRs ρ tmps tmps') (hr : WRel ρ C w) : ∀ (rs : List ResultVar) (vs : List Value) (R0 : Nat), resultsL P s tmps rs = some (vs, R0) → (∀ b, R0.testBit b = true → b < s.next → C b = s.get b) →
    ∃ vs' : List Value, (rs.mapM fun r => (match r with | .tmp t => pure (tmps'.getD t undef) | .cell a t => do loadVar t (← asAddr (tmps'.getD a undef)) : Sem Value)).run P w = .ok vs' w ∧ vs.length = vs'.length ∧ ∀ (i : Nat) (v v' : Value), vs[i]? = some v → vs'[i]? = some v' → VR ρ v v'
  | [], vs, R0, h, ha => by
    simp only [resultsL, Option.some.injEq, Prod.mk.injEq] at h
    obtain ⟨rfl, rfl⟩ := h
    exact ⟨[], by simp, rfl, fun i v v' h => by simp at h⟩
  | r :: rs, vs, R0, h, ha => by
    simp only [resultsL] at h
    cases h1 : resultM P s tmps r with
    | none => rw [h1] at h; simp at h
    | some q =>
      obtain ⟨v, R1⟩ := q
      cases h2 : resultsL P s tmps rs with
      | none => rw [h1, h2] at h; simp at h
      | some q2 =>
        obtain ⟨us, R2⟩ := q2
        rw [h1, h2] at h
        simp only [Option.some.injEq, Prod.mk.injEq] at h
        obtain ⟨rfl, rfl⟩ := h
        obtain ⟨us', g1, g2, g3⟩ := resultsL_run ht hr rs us R2 h2 (fun b hb => ha b (by rw [or_bit, hb]; simp))
        have hone : ∃ v', (match r with | .tmp t => pure (tmps'.getD t undef) | .cell a t => do loadVar t (← asAddr (tmps'.getD a undef)) : Sem Value).run P w = .ok v' w ∧ VR ρ v v' := by
          cases r with
          | tmp t =>
            simp only [resultM, Option.some.injEq, Prod.mk.injEq] at h1
            obtain ⟨rfl, rfl⟩ := h1
            exact ⟨_, rfl, ht.getD t⟩
          | cell a t =>
            simp only [resultM] at h1
            obtain ⟨a', u', k1, k2, k3⟩ := loadM_run (w := w) h1 (ht.getD a) (fun b hb => ha b (by rw [or_bit, hb]; simp)) hr
            exact ⟨u', by simp only [k1, asAddr, Sem.run_bind, Sem.run_pure, Result.andThen_ok, k2], k3⟩
        obtain ⟨v', m1, m2⟩ := hone
        refine ⟨v' :: us', ?_, by simp [g2], fun i x x' e1 e2 => ?_⟩
        · rw [List.mapM_cons]
          simp only [Sem.run_bind, m1, Result.andThen_ok, g1, Sem.run_pure]
        · match i, e1, e2 with
          | 0, e1, e2 => simp at e1 e2; subst e1 e2; exact m2
          | i + 1, e1, e2 => exact g3 i x x' (by simpa using e1) (by simpa using e2)
theorem results_run {fn : Func} {tmps tmps' : Array Value} {vs : List Value} {R0 : Nat} (ht : VRs ρ tmps tmps') (hr : WRel ρ C w) (h : resultsL P s tmps fn.results.toList = some (vs, R0)) (ha : ∀ b, R0.testBit b = true → b < s.next → C b = s.get b) :
    ∃ v', (results fn tmps').run P w = .ok v' w ∧ VR ρ (outV vs) v' := by
  obtain ⟨vs', h1, h2, h3⟩ := resultsL_run ht hr _ vs R0 h ha
  have hm : (fn.results.mapM fun r => (match r with | .tmp t => pure (tmps'.getD t undef) | .cell a t => do loadVar t (← asAddr (tmps'.getD a undef)) : Sem Value)).run P w = .ok vs'.toArray w := by
    rw [Array.mapM_eq_mapM_toList, Sem.run_map, h1]
    rfl
  refine ⟨outV vs', ?_, ?_⟩
  · have e : results fn tmps' = ((fn.results.mapM fun r => (match r with | .tmp t => pure (tmps'.getD t undef) | .cell a t => do loadVar t (← asAddr (tmps'.getD a undef)) : Sem Value)) >>= fun vs => pure (if h : vs.size = 1 then vs[0] else .tuple vs)) := rfl
    rw [e, Sem.run_bind, hm]
    match vs' with
    | [] => rfl
    | [v] => rfl
    | v :: u :: l => simp [outV]
  · match vs, vs', h2, h3 with
    | [], [], _, _ => exact undef_vr ρ
    | [v], [v'], _, h3 => exact h3 0 v v' rfl rfl
    | v :: u :: l, v' :: u' :: l', h2, h3 => exact .tuple _ _ (by simpa using h2) (fun i x x' e1 e2 => h3 i x x' (by simpa using e1) (by simpa using e2))
    | [], _ :: _, h2, _ => simp at h2
    | _ :: _, [], h2, _ => simp at h2
    | [_], _ :: _ :: _, h2, _ => simp at h2
    | _ :: _ :: _, [_], h2, _ => simp at h2

def SndF (P : Program) (f : FuncId) (args : Array Value) (s : St) (v : Value) (s1 : St) (R W : Nat) : Prop :=
  Stat s s1 W ∧ ∀ (n : Nat) (ρ : Ren) (C : Nat → MObj) (args' : Array Value) (w : World) (Q : Ending → World → Prop), Pre P none s s1 R W none ρ C w → VRs ρ args args' →
    (∀ ρ1 v' w1, Post ρ s s1 W w ρ1 w1 → WRel ρ1 (upd C s s1 W) w1 → VR ρ1 v v' → Q (.returned v') w1) → CallsIn (Fw none) n P f args' w Q

def startA (fn : Func) (args : Array Value) : Act := { tmps := args ++ Array.replicate (fn.ntmps - args.size) undef, defers := [] }
theorem startA_ar {fn : Func} {args args' : Array Value} (h : VRs ρ args args') : AR ρ (startA fn args) (startA fn args') := by
  refine ⟨?_, trivial⟩
  unfold startA
  simp only
  rw [← h.1]
  refine vrs_append h ⟨rfl, fun i v v' h1 h2 => ?_⟩
  rw [h1] at h2
  cases h2
  rw [Array.getElem?_replicate] at h1
  split at h1
  · cases h1; exact undef_vr ρ
  · cases h1

theorem sndF_of {f : FuncId} {fn : Func} {c : Code} {args : Array Value} {e : Exit} {a1 : Act} {vs : List Value} {R1 R2 : Nat} (hf : P.funcs[f]? = some fn) (hb : fn.body = some c) (he : e = .normal ∨ e = .ret) (hd : a1.defers = [])
    (h : SndC P none c (startA fn args) s e a1 s1 R1 W) (hv : resultsL P s1 a1.tmps fn.results.toList = some (vs, R2)) : SndF P f args s (outV vs) s1 (R1 ||| R2) W := by
  refine ⟨h.1, fun n ρ C args' w Q hp ha hQ => ?_⟩
  refine callsIn_of_wp hf hb (Fw_fn none f) ?_ rfl
  have hp1 : Pre P none s s1 R1 W none ρ C w := ⟨hp.glob, hp.round, fun b hb => hp.agree b (by simp only [or_bit, Bool.or_eq_true] at hb ⊢; rcases hb with k | k <;> simp [k]), hp.free, hp.rel⟩
  refine h.2 n none ρ C _ w _ hp1 (startA_ar ha) fun ρ1 a1' w1 p1 r1 ha1 => ?_
  have hag : ∀ b, R2.testBit b = true → b < s1.next → upd C s s1 W b = s1.get b := fun b hb hlt => by
    unfold upd
    split
    · rfl
    · rename_i hn
      have hlo : b < s.next := by
        rcases Nat.lt_or_ge b s.next with c | c
        · exact c
        · exact absurd (.inl ⟨c, hlt⟩) hn
      rw [hp.agree b (by simp only [or_bit, Bool.or_eq_true]; exact .inl (.inr hb)) hlo]
      refine (h.1.2 b hlo ?_).symm
      cases hw : W.testBit b with
      | false => rfl
      | true => exact absurd (.inr ⟨hw, hlo⟩) hn
  obtain ⟨v', g1, g2⟩ := results_run ha1.tmps r1 hv hag
  have hd' : a1'.defers = [] := by
    have := ha1.defs
    rw [hd] at this
    cases hdd : a1'.defers with
    | nil => rfl
    | cons x xs => rw [hdd] at this; exact this.elim
  rcases he with rfl | rfl <;> exact ⟨hd', v', g1, hQ ρ1 v' w1 p1 r1 g2⟩

theorem sndO_call {o : Oper} {vals : Operand → Value} {c : Call} {x : Operand} {f : FuncId} {fn : Func} {azz bs : Array Value} {v : Value} (h : o.op = .call c) (hc : c.callee = .value x) (hx : vals x = .func (.func f) azz bs) (hf : P.funcs[f]? = some fn) (hb : fn.body.isSome = true) (hn : (fn.name == "runtime.NumGoroutine") = false)
    (hF : SndF P f (azz ++ c.args.map vals ++ bs) s v s1 R W) : SndO P rd o vals s v s1 R W := by
  refine ⟨hF.1, fun n ro ρ C a' w next Q hp hv hQ => ?_⟩
  have hop : o.op.operands = #[x] ++ c.args := by simp [h, Op.operands, Call.operands, hc]
  have h1 := hv x (by rw [hop]; simp)
  rw [hx] at h1
  have hargs : VRs ρ (c.args.map vals) (c.args.map a'.eval) := by
    refine ⟨by simp, fun i v v' g1 g2 => ?_⟩
    simp only [Array.getElem?_map, Option.map_eq_some_iff] at g1 g2
    obtain ⟨y, k1, rfl⟩ := g1
    obtain ⟨y', k2, rfl⟩ := g2
    rw [k1] at k2
    cases k2
    exact hv y (by rw [hop]; simp [Array.mem_of_getElem? k1])
  generalize he : a'.eval x = z at h1
  cases h1 with
  | func fn' as' bs' as2 bs2 hpf e1 e2 e3 e4 =>
    have hb' : fn.body.isNone = false := by cases hbb : fn.body <;> simp_all
    have hrun : (execOp a'.eval o).run P w = .ok (.enter f (as2 ++ c.args.map a'.eval ++ bs2)) w := by
      simp only [execOp, h, resolve, hc, he, Deferred.ofValue, Sem.run_bind, Sem.run_pure, Result.andThen_ok, invoke, callFunc, run_program, hf, hn, Bool.false_eq_true, if_false, hb']
    refine ⟨fun g _ => Fw_fn ro g, ?_⟩
    rw [Oper.semAt_eq _ _ _ (fun c => by rw [h]; simp), hrun]
    refine ⟨fun hd => by simp [Fw, Fence.wide] at hd, ?_⟩
    refine hF.2 (n - 1) ρ C _ w _ ⟨hp.glob, trivial, hp.agree, hp.free, hp.rel⟩ (vrs_append (vrs_append ⟨e1, e3⟩ hargs) ⟨e2, e4⟩) fun ρ1 v' w1 p1 r1 h2 => hQ ρ1 v' w1 p1 r1 h2
end Mini
end Go.Proofs.YtbkpnhbcihcgaaaGreatDoor
end
section
namespace Go.Proofs.YtbkpnhbcihcgaaaGreatDoor
set_option linter.all false
namespace Mini
variable {P : Program} {rd : Option Nat} {s s1 : St} {R W : Nat}

abbrev Out := Value × St × Nat × Nat
abbrev CallF := FuncId → Array Value → St → Option Out

def evGround (P : Program) (vals : Operand → Value) (o : Oper) (s : St) : Option Out :=
  match o.op with
  | .defer _ => none
  | .select _ _ => none
  | _ =>
    if o.op.operands.toList.all (fun x => ground 12 (vals x)) = true then
      match pureRun P (execOp vals o) with
      | some (.value v) => if ground 12 v = true then some (v, s, 0, 0) else none
      | _ => none
    else none
theorem evGround_snd {o : Oper} {vals : Operand → Value} {v : Value} (h : evGround P vals o s = some (v, s1, R, W)) : SndO P rd o vals s v s1 R W := by
  have hd : ∀ c, o.op ≠ .defer c := fun c e => by unfold evGround at h; rw [e] at h; cases h
  have hs : ∀ cs b, o.op ≠ .select cs b := fun cs b e => by unfold evGround at h; rw [e] at h; cases h
  have key : (if o.op.operands.toList.all (fun x => ground 12 (vals x)) = true then
      match pureRun P (execOp vals o) with
      | some (.value v) => if ground 12 v = true then some (v, s, 0, 0) else none
      | _ => none
    else none) = some (v, s1, R, W) := by
    unfold evGround at h
    split at h
    · cases h
    · cases h
    · exact h
  split at key
  · rename_i hg
    split at key
    · rename_i v0 hp
      split at key
      · rename_i hv
        simp only [Option.some.injEq, Prod.mk.injEq] at key
        obtain ⟨rfl, rfl, rfl, rfl⟩ := key
        exact sndO_ground hd hs hg hp hv
      · cases key
    · cases key
  · cases key

def evAlloc (P : Program) (t : TypeId) (s : St) : Option Out :=
  match P.info? t with
  | some i => match i.zero with
    | some z => if ground 12 z = true then some (.pointer (some ⟨s.next, 0, none⟩), s.push (.cells z.cells.toList t false 0 false), 0, 0) else none
    | none => none
  | none => none
theorem evAlloc_snd {o : Oper} {vals : Operand → Value} {t : TypeId} {v : Value} (ho : o.op = .alloc t) (h : evAlloc P t s = some (v, s1, R, W)) : SndO P rd o vals s v s1 R W := by
  unfold evAlloc at h
  split at h
  · rename_i i hi
    split at h
    · rename_i z hz
      split at h
      · rename_i hg
        simp only [Option.some.injEq, Prod.mk.injEq] at h
        obtain ⟨rfl, rfl, rfl, rfl⟩ := h
        exact sndO_alloc ho hi hz hg
      · cases h
    · cases h
  · cases h

def evStore (P : Program) (t : TypeId) (a x : Value) (s : St) : Option Out :=
  match P.info? t, a with
  | some i, .pointer (some ⟨b, off, none⟩) => match s.get b with
    | .cells c e opn sz false =>
      if x.cells.size = i.size ∧ off + i.size ≤ c.length ∧ x.cells.toList.all oneL = true then some (undef, s.put b (.cells (setL c off x.cells.toList) e opn sz false), 0, 2 ^ b) else none
    | _ => none
  | _, _ => none
theorem evStore_snd {o : Oper} {vals : Operand → Value} {t : TypeId} {a x : Operand} {v : Value} (ho : o.op = .store t a x) (h : evStore P t (vals a) (vals x) s = some (v, s1, R, W)) : SndO P rd o vals s v s1 R W := by
  unfold evStore at h
  split at h
  · rename_i i b off hi ha
    split at h
    · rename_i c e opn sz hc
      split at h
      · rename_i hcond
        simp only [Option.some.injEq, Prod.mk.injEq] at h
        obtain ⟨rfl, rfl, rfl, rfl⟩ := h
        exact sndO_store ho hi ha hc hcond.1 hcond.2.1 hcond.2.2
      · cases h
    · cases h
  · cases h

def evNil (x : Value) (s : St) : Option Out :=
  match x with
  | .pointer (some _) => some (x, s, 0, 0)
  | .iface _ _ => some (x, s, 0, 0)
  | .func (.method _) _ _ => none
  | .func _ _ _ => some (x, s, 0, 0)
  | _ => none
theorem evNil_snd {o : Oper} {vals : Operand → Value} {x : Operand} {v : Value} (ho : o.op = .nilCheck x) (h : evNil (vals x) s = some (v, s1, R, W)) : SndO P rd o vals s v s1 R W := by
  have hr : v = vals x ∧ s1 = s ∧ R = 0 ∧ W = 0 := by
    unfold evNil at h
    split at h <;> first | (cases h; done) | (simp only [Option.some.injEq, Prod.mk.injEq] at h; obtain ⟨rfl, rfl, rfl, rfl⟩ := h; exact ⟨rfl, rfl, rfl, rfl⟩)
  obtain ⟨rfl, rfl, rfl, rfl⟩ := hr
  refine sndO_nilCheck ho ?_
  unfold evNil at h
  generalize vals x = y at h ⊢
  cases y with
  | pointer a => cases a <;> simp at h ⊢
  | iface t v => trivial
  | func fn azz bs => cases fn <;> simp at h ⊢
  | _ => simp at h

def evFieldAddr (P : Program) (t : TypeId) (x : Value) (k : Nat) (s : St) : Option Out :=
  match P.underlying t, x with
  | some (.struct fs), .pointer (some ⟨b, off, none⟩) => match fs[k]? with
    | some f => match P.info? f.type with
      | some i => if i.size ≠ 0 then some (.pointer (some ⟨b, off + f.offset, none⟩), s, 0, 0) else none
      | none => none
    | none => none
  | _, _ => none
theorem evFieldAddr_snd {o : Oper} {vals : Operand → Value} {t : TypeId} {x : Operand} {k : Nat} {v : Value} (ho : o.op = .fieldAddr t x k) (h : evFieldAddr P t (vals x) k s = some (v, s1, R, W)) : SndO P rd o vals s v s1 R W := by
  unfold evFieldAddr at h
  split at h
  · rename_i fs b off ht hx
    split at h
    · rename_i f hf
      split at h
      · rename_i i hi
        split at h
        · rename_i hz
          simp only [Option.some.injEq, Prod.mk.injEq] at h
          obtain ⟨rfl, rfl, rfl, rfl⟩ := h
          exact sndO_fieldAddr ho ht hf hi hz hx
        · cases h
      · cases h
    · cases h
  · cases h

def evIndexAddr (P : Program) (t : TypeId) (x y : Value) (s : St) : Option Out :=
  match P.underlying t, x, y with
  | some (.array n e), .pointer (some ⟨b, off, none⟩), .int _ j => match P.info? e with
    | some i => if 0 ≤ j ∧ j < n then some (.pointer (some ⟨b, off + j.toNat * i.size, none⟩), s, 0, 0) else none
    | none => none
  | some (.slice e), .slice (some ⟨b, off, none⟩) n _, .int _ j => match P.info? e with
    | some i => if 0 ≤ j ∧ j < n then some (.pointer (some ⟨b, off + j.toNat * i.size, none⟩), s, 0, 0) else none
    | none => none
  | _, _, _ => none
theorem evIndexAddr_snd {o : Oper} {vals : Operand → Value} {t : TypeId} {x y : Operand} {v : Value} (ho : o.op = .indexAddr t x y) (h : evIndexAddr P t (vals x) (vals y) s = some (v, s1, R, W)) : SndO P rd o vals s v s1 R W := by
  unfold evIndexAddr at h
  split at h
  · rename_i n e b off k j ht hx hy
    split at h
    · rename_i i hi
      split at h
      · rename_i hj
        simp only [Option.some.injEq, Prod.mk.injEq] at h
        obtain ⟨rfl, rfl, rfl, rfl⟩ := h
        exact sndO_indexArr ho ht hi hy hj hx
      · cases h
    · cases h
  · rename_i e b off n c k j ht hx hy
    split at h
    · rename_i i hi
      split at h
      · rename_i hj
        simp only [Option.some.injEq, Prod.mk.injEq] at h
        obtain ⟨rfl, rfl, rfl, rfl⟩ := h
        exact sndO_indexSlice ho ht hi hy hj hx
      · cases h
    · cases h
  · cases h

def evField (P : Program) (t : TypeId) (x : Value) (k : Nat) (s : St) : Option Out :=
  match P.underlying t, x with
  | some (.struct fs), .agg cs => match fs[k]? with
    | some f => match partM P f.type cs f.offset with
      | some v => some (v, s, 0, 0)
      | none => none
    | none => none
  | _, _ => none
theorem evField_snd {o : Oper} {vals : Operand → Value} {t : TypeId} {x : Operand} {k : Nat} {v : Value} (ho : o.op = .field t x k) (h : evField P t (vals x) k s = some (v, s1, R, W)) : SndO P rd o vals s v s1 R W := by
  unfold evField at h
  split at h
  · rename_i fs cs ht hx
    split at h
    · rename_i f hf
      split at h
      · rename_i u hu
        simp only [Option.some.injEq, Prod.mk.injEq] at h
        obtain ⟨rfl, rfl, rfl, rfl⟩ := h
        exact sndO_field ho ht hf hx hu
      · cases h
    · cases h
  · cases h
def evIndex (P : Program) (t : TypeId) (x y : Value) (s : St) : Option Out :=
  match P.underlying t, x, y with
  | some (.array n e), .agg cs, .int _ j => match P.info? e with
    | some i => if 0 ≤ j ∧ j < n then (match partM P e cs (j.toNat * i.size) with
      | some v => some (v, s, 0, 0)
      | none => none) else none
    | none => none
  | _, _, _ => none
theorem evIndex_snd {o : Oper} {vals : Operand → Value} {t : TypeId} {x y : Operand} {v : Value} (ho : o.op = .index t x y) (h : evIndex P t (vals x) (vals y) s = some (v, s1, R, W)) : SndO P rd o vals s v s1 R W := by
  unfold evIndex at h
  split at h
  · rename_i n e cs k j ht hx hy
    split at h
    · rename_i i hi
      split at h
      · rename_i hj
        split at h
        · rename_i u hu
          simp only [Option.some.injEq, Prod.mk.injEq] at h
          obtain ⟨rfl, rfl, rfl, rfl⟩ := h
          exact sndO_index ho ht hi hy hj hx hu
        · cases h
      · cases h
    · cases h
  · cases h
def evExtract (x : Value) (k : Nat) (s : St) : Option Out :=
  match x with
  | .tuple cs => match cs[k]? with
    | some v => some (v, s, 0, 0)
    | none => none
  | _ => none
theorem evExtract_snd {o : Oper} {vals : Operand → Value} {x : Operand} {k : Nat} {v : Value} (ho : o.op = .extract x k) (h : evExtract (vals x) k s = some (v, s1, R, W)) : SndO P rd o vals s v s1 R W := by
  unfold evExtract at h
  split at h
  · rename_i cs hx
    split at h
    · rename_i u hu
      simp only [Option.some.injEq, Prod.mk.injEq] at h
      obtain ⟨rfl, rfl, rfl, rfl⟩ := h
      exact sndO_extract ho hx hu
    · cases h
  · cases h
def evBuild (P : Program) (vals : Operand → Value) (t : TypeId) (ps : Array (Nat × Operand)) (s : St) : Option Out :=
  match builtM P t (evals vals ps).toList with
  | some out => some (.agg out, s, 0, 0)
  | none => none
theorem evBuild_snd {o : Oper} {vals : Operand → Value} {t : TypeId} {ps : Array (Nat × Operand)} {v : Value} (ho : o.op = .build t ps) (h : evBuild P vals t ps s = some (v, s1, R, W)) : SndO P rd o vals s v s1 R W := by
  unfold evBuild at h
  split at h
  · rename_i out hb
    simp only [Option.some.injEq, Prod.mk.injEq] at h
    obtain ⟨rfl, rfl, rfl, rfl⟩ := h
    exact sndO_build ho hb
  · cases h
def evBuildSlice (P : Program) (vals : Operand → Value) (t : TypeId) (n : Nat) (ps : Array (Nat × Operand)) (s : St) : Option Out :=
  match P.underlying t with
  | some (.slice e) => match P.info? e with
    | some ie => match ie.zero with
      | some z =>
        if n * ie.size = 0 then (if ps.toList.isEmpty = true then some (.slice (some ⟨s.next, 0, none⟩) n n, s.push (.cells [] e false 0 false), 0, 0) else none)
        else if ground 12 (.agg z.cells) = true ∧ z.cells.size ≠ 0 ∧ n * ie.size ≤ 16777216 ∧ (evals vals ps).toList.all (fun p => live p.2) = true then
          (match Instr.fill (fun i => some (i * ie.size, ie.size)) (madeCells z.cells (n * ie.size)) (evals vals ps).toList with
          | some out => some (.slice (some ⟨s.next, 0, none⟩) n n, s.push (.cells out.toList e false 0 false), 0, 0)
          | none => none)
        else none
      | none => none
    | none => none
  | _ => none
theorem evBuildSlice_snd {o : Oper} {vals : Operand → Value} {t : TypeId} {n : Nat} {ps : Array (Nat × Operand)} {v : Value} (ho : o.op = .buildSlice t n ps) (h : evBuildSlice P vals t n ps s = some (v, s1, R, W)) : SndO P rd o vals s v s1 R W := by
  unfold evBuildSlice at h
  split at h
  · rename_i e ht
    split at h
    · rename_i ie hi
      split at h
      · rename_i z hz
        split at h
        · rename_i h0
          split at h
          · rename_i hp
            simp only [Option.some.injEq, Prod.mk.injEq] at h
            obtain ⟨rfl, rfl, rfl, rfl⟩ := h
            exact sndO_buildEmpty ho ht hi h0 (by simpa using hp)
          · cases h
        · rename_i h0
          split at h
          · rename_i hg
            split at h
            · rename_i out hf
              simp only [Option.some.injEq, Prod.mk.injEq] at h
              obtain ⟨rfl, rfl, rfl, rfl⟩ := h
              exact sndO_buildSlice ho ht hi hz hg.1 hg.2.1 hg.2.2.1 h0 hf hg.2.2.2
            · cases h
          · cases h
      · cases h
    · cases h
  · cases h
def evMakeSlice (P : Program) (t : TypeId) (x y : Value) (s : St) : Option Out :=
  match P.underlying t, x, y with
  | some (.slice e), .int _ l, .int _ c => match P.info? e with
    | some ie => match ie.zero with
      | some z =>
        if ground 12 (.agg z.cells) = true ∧ z.cells.size ≠ 0 ∧ 0 ≤ l ∧ l ≤ c ∧ (ie.bytes : Int) * c ≤ 281474976710656 ∧ c ≤ 1048576 then
          some (.slice (some ⟨s.next, 0, none⟩) l.toNat c.toNat, s.push (.cells (madeCells z.cells (c.toNat * ie.size)).toList e false 0 false), 0, 0)
        else none
      | none => none
    | none => none
  | _, _, _ => none
theorem evMakeSlice_snd {o : Oper} {vals : Operand → Value} {t : TypeId} {x y : Operand} {v : Value} (ho : o.op = .makeSlice t x y) (h : evMakeSlice P t (vals x) (vals y) s = some (v, s1, R, W)) : SndO P rd o vals s v s1 R W := by
  unfold evMakeSlice at h
  split at h
  · rename_i e k1 l k2 c ht hx hy
    split at h
    · rename_i ie hi
      split at h
      · rename_i z hz
        split at h
        · rename_i hg
          simp only [Option.some.injEq, Prod.mk.injEq] at h
          obtain ⟨rfl, rfl, rfl, rfl⟩ := h
          exact sndO_makeSlice ho ht hi hz hg.1 hg.2.1 hx hy hg.2.2.1 hg.2.2.2.1 hg.2.2.2.2.1 (by omega)
        · cases h
      · cases h
    · cases h
  · cases h
def evSlice (P : Program) (t : TypeId) (x : Value) (lo hi mx : Option Value) (s : St) : Option Out :=
  if isIntO lo = true ∧ isIntO hi = true ∧ isIntO mx = true then
    match P.underlying t, x with
    | some (.slice e), .slice (some ⟨b, off, none⟩) n c => match P.info? e, s.get b with
      | some i, .cells _ _ opn sz _ =>
        if (opn = true → sz = i.size) ∧ n ≤ c then (match boundsM n c lo hi mx with
          | some (l, h, m) => some (subM b off i.size l h m mx.isSome, s, 2 ^ b, 0)
          | none => none) else none
      | _, _ => none
    | some (.array n e), .pointer (some ⟨b, off, none⟩) => match P.info? e, boundsM n n lo hi mx with
      | some i, some (l, h, m) => some (if m = l then .slice (some dead) 0 0 else .slice (some ⟨b, off + l * i.size, none⟩) (h - l) (m - l), s, 0, 0)
      | _, _ => none
    | _, _ => none
  else none
theorem evSlice_snd {o : Oper} {vals : Operand → Value} {t : TypeId} {x : Operand} {lo hi mx : Option Operand} {v : Value} (ho : o.op = .slice t x lo hi mx) (h : evSlice P t (vals x) (lo.map vals) (hi.map vals) (mx.map vals) s = some (v, s1, R, W)) : SndO P rd o vals s v s1 R W := by
  unfold evSlice at h
  split at h
  · rename_i hint
    split at h
    · rename_i e b off n c ht hx
      split at h
      · rename_i i cc e' opn sz r hi' hc
        split at h
        · rename_i hcond
          split at h
          · rename_i l hh m hb
            simp only [Option.some.injEq, Prod.mk.injEq] at h
            obtain ⟨rfl, rfl, rfl, rfl⟩ := h
            have := sndO_subSlice (P := P) (rd := rd) ho ht hi' hx hc hcond.1 hcond.2 hint.1 hint.2.1 hint.2.2 hb
            rwa [show mx.isSome = (mx.map vals).isSome from by cases mx <;> rfl] at this
          · cases h
        · cases h
      · cases h
    · rename_i n e b off ht hx
      split at h
      · rename_i i l hh m hi' hb
        simp only [Option.some.injEq, Prod.mk.injEq] at h
        obtain ⟨rfl, rfl, rfl, rfl⟩ := h
        exact sndO_subArr ho ht hi' hx hint.1 hint.2.1 hint.2.2 hb
      · cases h
    · cases h
  · cases h
def evFunc (vals : Operand → Value) (fn : Fn) (azz bs : Array Operand) (s : St) : Option Out := if plainFn fn = true then some (.func fn (azz.map vals) (bs.map vals), s, 0, 0) else none
def evIface (P : Program) (t : TypeId) (x : Value) (s : St) : Option Out :=
  match P.underlying t with
  | some (.interface _) => none
  | some _ => some (.iface t x, s, 0, 0)
  | none => none
theorem evFunc_snd {o : Oper} {vals : Operand → Value} {fn : Fn} {azz bs : Array Operand} {v : Value} (ho : o.op = .makeFunc fn azz bs) (h : evFunc vals fn azz bs s = some (v, s1, R, W)) : SndO P rd o vals s v s1 R W := by
  unfold evFunc at h
  split at h
  · rename_i hf
    simp only [Option.some.injEq, Prod.mk.injEq] at h
    obtain ⟨rfl, rfl, rfl, rfl⟩ := h
    exact sndO_makeFunc ho hf
  · cases h
theorem evIface_snd {o : Oper} {vals : Operand → Value} {t : TypeId} {x : Operand} {v : Value} (ho : o.op = .makeInterface t x) (h : evIface P t (vals x) s = some (v, s1, R, W)) : SndO P rd o vals s v s1 R W := by
  unfold evIface at h
  split at h
  · cases h
  · rename_i d hn ht
    simp only [Option.some.injEq, Prod.mk.injEq] at h
    obtain ⟨rfl, rfl, rfl, rfl⟩ := h
    exact sndO_iface ho ht (fun ms e => hn ms (by subst e; first | exact ht | rfl))
  · cases h
end Mini
end Go.Proofs.YtbkpnhbcihcgaaaGreatDoor
end
