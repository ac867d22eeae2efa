/-
  The contract of bipole.harmonic.sum.
  The contract of bipole.harmonic.product.
  Contracts: what is answered.
  Plain facts on numbers: turns, norms, products, bounds. No program is used here.
  Plain functions on integers that the program's small functions compute: no program is imported here.
  Contracts that hold where tables lie; contracts for the reckoner of closed calls.
  A step of a small world is one of each greater world that holds it: names may be others, what is not wanted any more may be forgotten.
  Contracts by shapes, for the reckoner with unknown numbers; from a way through a function to its contract.
-/
import Derived.Test.YtgnmhapgciejfaaGreatDoorGHN1
import Derived.WalkKit
import Derived.Test.YtgnmhapgciejfaaGreatDoorProg
section
namespace Go.Proofs.YtgnmhapgciejfaaGreatDoor
set_option linter.all false
open Go.RowKit
namespace Mini
variable {P : Program} {s s1 : St}

/-- The shape of an argument: a number, or a flat list of numbers. -/
inductive Sh where
  | int (k : IntKind)
  | agg (l : List IntKind)
def ints : List IntKind → List Value → Option (List Int)
  | [], [] => some []
  | k :: ks, .int k' n :: vs => match decide (k = k') with
    | true => match ints ks vs with
      | some l => some (n :: l)
      | none => none
    | false => none
  | _, _ => none
def flat : List Sh → List Value → Option (List Int)
  | [], [] => some []
  | .int k :: ss, .int k' n :: vs => match decide (k = k') with
    | true => match flat ss vs with
      | some l => some (n :: l)
      | none => none
    | false => none
  | .agg ks :: ss, .agg x :: vs => match ints ks x.toList with
    | some l => match flat ss vs with
      | some r => some (l ++ r)
      | none => none
    | none => none
  | _, _ => none
def size : List Sh → Nat
  | [] => 0
  | .int _ :: ss => size ss + 1
  | .agg ks :: ss => ks.length + size ss
def backI : List IntKind → List Int → List Value
  | k :: ks, n :: ns => .int k n :: backI ks ns
  | _, _ => []
def back : List Sh → List Int → List Value
  | .int k :: ss, n :: ns => .int k n :: back ss ns
  | .agg ks :: ss, ns => .agg (backI ks (ns.take ks.length)).toArray :: back ss (ns.drop ks.length)
  | _, _ => []
theorem ints_back : ∀ (ks : List IntKind) (vs : List Value) (l : List Int), ints ks vs = some l → vs = backI ks l ∧ l.length = ks.length
  | [], [], l, h => by cases h; exact ⟨rfl, rfl⟩
  | [], v :: vs, l, h => by cases v <;> cases h
  | k :: ks, [], l, h => by cases h
  | k :: ks, v :: vs, l, h => by
    cases v with
    | int k' n =>
      simp only [ints] at h
      split at h
      · rename_i hk
        have hk := of_decide_eq_true hk
        subst hk
        split at h
        · rename_i l' hl
          cases h
          obtain ⟨h1, h2⟩ := ints_back ks vs l' hl
          exact ⟨by rw [h1]; rfl, by simp [h2]⟩
        · cases h
      · cases h
    | _ => cases h
theorem flat_back : ∀ (ss : List Sh) (vs : List Value) (l : List Int), flat ss vs = some l → vs = back ss l ∧ l.length = size ss
  | [], [], l, h => by cases h; exact ⟨rfl, rfl⟩
  | [], v :: vs, l, h => by cases v <;> cases h
  | s :: ss, [], l, h => by cases s <;> cases h
  | .int k :: ss, v :: vs, l, h => by
    cases v with
    | int k' n =>
      simp only [flat] at h
      split at h
      · rename_i hk
        have hk := of_decide_eq_true hk
        subst hk
        split at h
        · rename_i l' hl
          cases h
          obtain ⟨h1, h2⟩ := flat_back ss vs l' hl
          exact ⟨by rw [h1]; rfl, by simp [size, h2]⟩
        · cases h
      · cases h
    | _ => cases h
  | .agg ks :: ss, v :: vs, l, h => by
    cases v with
    | agg x =>
      simp only [flat] at h
      split at h
      · rename_i l' hl
        split at h
        · rename_i r hr
          cases h
          obtain ⟨h1, h2⟩ := ints_back ks _ l' hl
          obtain ⟨h3, h4⟩ := flat_back ss vs r hr
          refine ⟨?_, by simp [size, h2, h4]⟩
          have hx : x = (backI ks l').toArray := by apply Array.ext'; simpa using h1
          rw [show back (.agg ks :: ss) (l' ++ r) = .agg (backI ks ((l' ++ r).take ks.length)).toArray :: back ss ((l' ++ r).drop ks.length) from rfl]
          rw [← h2, List.take_left' rfl, List.drop_left' rfl, ← h3, hx]
        · cases h
      · cases h
    | _ => cases h
theorem backI_ground : ∀ (ks : List IntKind) (l : List Int), (backI ks l).all (ground 7) = true
  | [], l => by cases l <;> rfl
  | k :: ks, [] => rfl
  | k :: ks, n :: ns => by
    simp only [backI, List.all_cons, Bool.and_eq_true]
    exact ⟨rfl, backI_ground ks ns⟩
theorem back_ground : ∀ (ss : List Sh) (l : List Int), (back ss l).all (ground 8) = true
  | [], l => by cases l <;> rfl
  | .int k :: ss, [] => rfl
  | .int k :: ss, n :: ns => by
    simp only [back, List.all_cons, Bool.and_eq_true]
    exact ⟨rfl, back_ground ss ns⟩
  | .agg ks :: ss, ns => by
    rw [show back (.agg ks :: ss) ns = .agg (backI ks (ns.take ks.length)).toArray :: back ss (ns.drop ks.length) from rfl]
    simp only [List.all_cons, Bool.and_eq_true]
    refine ⟨?_, back_ground ss _⟩
    have := backI_ground ks (ns.take ks.length)
    simpa [ground] using this

/-- A contract: what is answered, and where. It reads nothing. -/
structure Con where
  f : FuncId
  sh : List Sh
  val : List Int → Value
  pre : List Int → Prop
def kOf (c : Con) : CallS := fun f xs s q => match decide (f = c.f) with
  | true => match flat c.sh xs.toList with
    | some ns => some (c.val ns, s, 0, 0, ⟨q.rest, q.ob ∧ c.pre ns⟩)
    | none => none
  | false => none
def ConOk (P : Program) (c : Con) : Prop := ∀ ns, ns.length = size c.sh → ground 8 (c.val ns) = true ∧ (c.pre ns → ∀ w, Calls P c.f (back c.sh ns).toArray w fun e w' => e = .returned (c.val ns) ∧ Below w.heap.size w w')
theorem vrs_ground {ρ : Ren} {xs bs : Array Value} (hg : xs.toList.all (ground 8) = true) (h : VRs ρ xs bs) : bs = xs := arr_eq (fun v v' => ground_eq 8) xs bs h.1 hg h.2
theorem kOf_ok {c : Con} (h : ConOk P c) : FOkS P (kOf c) := fun f xs s q v s1 R W q1 he => by
  unfold kOf at he
  split at he
  · rename_i hf
    have hf := of_decide_eq_true hf
    subst hf
    split at he
    · rename_i ns hn
      cases he
      obtain ⟨h1, h2⟩ := flat_back _ _ _ hn
      obtain ⟨g1, g2⟩ := h ns h2
      have hx : xs = (back c.sh ns).toArray := by apply Array.ext'; simpa using h1
      refine ⟨fun hb => hb.1, fun hb => sndF_quietG g1 fun ρ C args' w _ _ _ ha => ?_⟩
      have hg : xs.toList.all (ground 8) = true := by rw [h1]; exact back_ground _ _
      rw [vrs_ground hg ha, hx]
      exact g2 hb.2 w
    · cases he
  · cases he
def bothX (X Y : CallS) : CallS := fun f xs s q => match X f xs s q with
  | some r => some r
  | none => Y f xs s q
theorem bothX_ok {X Y : CallS} (hX : FOkS P X) (hY : FOkS P Y) : FOkS P (bothX X Y) := fun f xs s q v s1 R W q1 he => by
  unfold bothX at he
  split at he
  · rename_i hx
    cases he
    exact hX _ _ _ _ _ _ _ _ _ hx
  · exact hY _ _ _ _ _ _ _ _ _ he
def kAll : List Con → CallS
  | [] => noXS
  | c :: cs => bothX (kOf c) (kAll cs)
def ConsOk (P : Program) : List Con → Prop
  | [] => True
  | c :: cs => ConOk P c ∧ ConsOk P cs
theorem kAll_ok : ∀ (l : List Con), ConsOk P l → FOkS P (kAll l)
  | [], _ => noXS_ok
  | c :: cs, h => bothX_ok (kOf_ok h.1) (kAll_ok cs h.2)

/-- The small world that knows nothing of the tables. -/
def noTabs (n : Nat) : St := ⟨n, .leaf, []⟩
theorem noTabs_get (n b : Nat) : (noTabs n).get b = .hole := by
  unfold noTabs St.get
  split
  · split <;> rfl
  · rfl
theorem noTabs_holds (w : World) : Holds P (noTabs P.globals.size) w := ⟨rfl, fun b _ => .inl (noTabs_get _ b)⟩
theorem len_cons {ns : List Int} {n : Nat} (h : ns.length = n + 1) : ∃ a r, ns = a :: r ∧ r.length = n := by
  cases ns with
  | nil => cases h
  | cons a r => exact ⟨a, r, rfl, by simpa using h⟩
theorem len_nil {ns : List Int} (h : ns.length = 0) : ns = [] := List.length_eq_zero_iff.1 h
/-- From a way through a function to what it answers. -/
theorem calls_way {X : CallS} {f : FuncId} {args : Array Value} {v : Value} {q : Orc} {w : World} {n : Nat} {s : St} {r : Option OutS} {p : Prop} (hr : r = evFS P X n f args s q) (hm : P.follows .mixedOrders = true) (hX : FOkS P X) (hv : resOf r = v) (hg : ground 8 v = true) (ha : args.toList.all (ground 8) = true)
    (hc : cleanOf P.globals.size r = true) (ho : obOf r = p) (hp : p) (hh : Holds P s w) : Calls P f args w fun e w' => e = .returned v ∧ Below w.heap.size w w' :=
  calls_ofR hr hm hX hv hg ha hc ⟨by rw [ho]; exact hp⟩ hh
end Mini
end Go.Proofs.YtgnmhapgciejfaaGreatDoor
end
section
namespace Go.Proofs.YtgnmhapgciejfaaGreatDoor
set_option linter.all false
namespace Mini
variable {P : Program} {rd rd0 : Option Nat} {s s1 s0 s01 : St} {R W R0 W0 : Nat}

/-- A name for another one. -/
abbrev Nm := Nat → Nat → Prop
def RenOk (f : Nm) (ρ ρ' : Ren) : Prop := ∀ b b' L, f b b' → ρ b = some L → ρ' b' = some L
/-- What u says, v says, too, by other names. -/
def WV (f : Nm) (v u : Value) : Prop := ∀ ρ ρ' : Ren, RenOk f ρ ρ' → ∀ v', VR ρ v v' → VR ρ' u v'
def WO (f : Nm) (o o2 : MObj) : Prop := (o2 ≠ .hole → o ≠ .hole) ∧ ∀ ρ ρ' : Ren, RenOk f ρ ρ' → ∀ L o', OR ρ L o o' → OR ρ' L o2 o'
def WVs (f : Nm) (a a2 : Array Value) : Prop := a.size = a2.size ∧ ∀ (i : Nat) (v u : Value), a[i]? = some v → a2[i]? = some u → WV f v u
structure WA (f : Nm) (a a2 : Act) : Prop where
  tmps : WVs f a.tmps a2.tmps
  d : a.defers = []
  d2 : a2.defers = []
theorem WVs.vrs {f : Nm} {ρ ρ' : Ren} (hf : RenOk f ρ ρ') {a a2 a' : Array Value} (h : WVs f a a2) (g : VRs ρ a a') : VRs ρ' a2 a' := by
  refine ⟨h.1.symm.trans g.1, fun i u v' e1 e2 => ?_⟩
  have hlt : i < a.size := h.1 ▸ (Array.getElem?_eq_some_iff.1 e1).1
  have e0 : a[i]? = some a[i] := Array.getElem?_eq_getElem hlt
  exact h.2 i _ _ e0 e1 ρ ρ' hf v' (g.2 i _ _ e0 e2)
theorem WA.ar {f : Nm} {ρ ρ' : Ren} (hf : RenOk f ρ ρ') {a a2 a' : Act} (h : WA f a a2) (g : AR ρ a a') : AR ρ' a2 a' := by
  refine ⟨h.tmps.vrs hf g.tmps, ?_⟩
  have := g.defs
  rw [h.d] at this
  rw [h.d2]
  cases hd : a'.defers with
  | nil => trivial
  | cons x xs => rw [hd] at this; exact this.elim

/-- How a small step lies in a greater one: ι names what was, κ what is. -/
structure Emb (P : Program) (s0 s01 : St) (R0 W0 : Nat) (s s1 : St) (R W : Nat) (ι : Nat → Nat) (κ : Nat → Option Nat) : Prop where
  glob : ∀ g, g < P.globals.size → g < s0.next ∧ ι g = g
  lt : ∀ b, b < s0.next → ι b < s.next
  inj : ∀ b b', b < s0.next → b' < s0.next → ι b = ι b' → b = b'
  reads : ∀ b, b < s0.next → (R0 ||| W0).testBit b = true → (R ||| W).testBit (ι b) = true
  writes : ∀ b, b < s0.next → W0.testBit b = true → W.testBit (ι b) = true ∧ s0.get b ≠ .hole
  obj : ∀ b, b < s0.next → (R0 ||| W0).testBit b = true → WO (fun x y => y < s0.next ∧ x = ι y) (s.get (ι b)) (s0.get b)
  stat : Stat s s1 W
  kold : ∀ b, b < s0.next → κ b = some (ι b)
  knew : ∀ b x, s0.next ≤ b → κ b = some x → s.next ≤ x ∧ x < s1.next
  kinj : ∀ b b' x, κ b = some x → κ b' = some x → b = b'
  wrote : ∀ x, x < s.next → W.testBit x = true → ∃ b, b < s0.next ∧ ι b = x ∧ W0.testBit b = true ∧ WO (fun y z => κ y = some z) (s01.get b) (s1.get x)
  new : ∀ x, s.next ≤ x → x < s1.next → s1.get x = .hole ∨ ∃ b, s0.next ≤ b ∧ b < s01.next ∧ κ b = some x ∧ WO (fun y z => κ y = some z) (s01.get b) (s1.get x)

open Classical in
theorem Snd.embed {T : Tr} {a0 a01 a a1 : Act} {e : Exit} {ι : Nat → Nat} {κ : Nat → Option Nat} (h : Snd P rd0 T a0 s0 e a01 s01 R0 W0) (E : Emb P s0 s01 R0 W0 s s1 R W ι κ)
    (hrd : (rd0 = none ∧ rd = none) ∨ ∃ l, l < s0.next ∧ rd0 = some l ∧ rd = some (ι l)) (ha : WA (fun x y => y < s0.next ∧ x = ι y) a a0) (ha1 : WA (fun y z => κ y = some z) a01 a1) : Snd P rd T a s e a1 s1 R W := by
  refine ⟨E.stat, fun n ro ρ C a' w Q hp har hQ => ?_⟩
  have hst := E.stat
  let ρ0 : Ren := fun b => if b < s0.next then ρ (ι b) else none
  let C0 : Nat → MObj := fun b => if b < s0.next ∧ (R0 ||| W0).testBit b = true then s0.get b else .hole
  have hρ0 : ∀ b, b < s0.next → ρ0 b = ρ (ι b) := fun b hb => if_pos hb
  have hρn : ∀ b, s0.next ≤ b → ρ0 b = none := fun b hb => if_neg (by omega)
  have hf : RenOk (fun x y => y < s0.next ∧ x = ι y) ρ ρ0 := fun x y L hxy hx => by
    obtain ⟨h1, rfl⟩ := hxy
    rw [hρ0 y h1]; exact hx
  have hCs : ∀ b, b < s0.next → (R0 ||| W0).testBit b = true → C (ι b) = s.get (ι b) := fun b hb hbit => hp.agree _ (E.reads b hb hbit) (E.lt b hb)
  have hWb : ∀ b, W0.testBit b = true → (R0 ||| W0).testBit b = true := fun b hb => by rw [or_bit, hb]; simp
  have hliveW : ∀ b, b < s0.next → W0.testBit b = true → C (ι b) ≠ .hole := fun b hb hbit => by
    rw [hCs b hb (hWb b hbit)]
    exact (E.obj b hb (hWb b hbit)).1 (E.writes b hb hbit).2
  have hp0 : Pre P rd0 s0 s01 R0 W0 ro ρ0 C0 w := by
    refine ⟨fun g hg => ?_, ?_, fun b hb hlt => if_pos ⟨hlt, hb⟩, fun b h1 h2 => ⟨hρn b h1, if_neg (by omega)⟩, fun b hb => ?_, fun b b' L L' h1 h2 e1 e2 he => ?_⟩
    · obtain ⟨g1, g2⟩ := E.glob g hg
      rw [hρ0 g g1, g2]
      exact hp.glob g hg
    · have hr := hp.round
      rcases hrd with ⟨e1, e2⟩ | ⟨l, hl, e1, e2⟩
      · rw [e2] at hr; rw [e1]
        cases ro with
        | none => trivial
        | some l' => exact hr.elim
      · rw [e2] at hr; rw [e1]
        cases ro with
        | none => exact hr.elim
        | some l' =>
          obtain ⟨L, q1, q2⟩ := hr
          exact ⟨L, by rw [hρ0 l hl]; exact q1, q2⟩
    · have hc : b < s0.next ∧ (R0 ||| W0).testBit b = true := by
        by_cases c : b < s0.next ∧ (R0 ||| W0).testBit b = true
        · exact c
        · exact absurd (if_neg c) hb
      have e0 : C0 b = s0.get b := if_pos hc
      have hwo := E.obj b hc.1 hc.2
      rw [e0] at hb ⊢
      have hne : C (ι b) ≠ .hole := by rw [hCs b hc.1 hc.2]; exact hwo.1 hb
      obtain ⟨L, o', q1, q2, q3⟩ := hp.rel.1 _ hne
      refine ⟨L, o', by rw [hρ0 b hc.1]; exact q1, q2, hwo.2 ρ ρ0 hf L o' ?_⟩
      rw [← hCs b hc.1 hc.2]; exact q3
    · have k : ∀ b, C0 b ≠ .hole → (b < s0.next ∧ (R0 ||| W0).testBit b = true) ∧ C (ι b) ≠ .hole := fun b hb => by
        have hc : b < s0.next ∧ (R0 ||| W0).testBit b = true := by
          by_cases c : b < s0.next ∧ (R0 ||| W0).testBit b = true
          · exact c
          · exact absurd (if_neg c) hb
        refine ⟨hc, ?_⟩
        rw [show C0 b = s0.get b from if_pos hc] at hb
        rw [hCs b hc.1 hc.2]; exact (E.obj b hc.1 hc.2).1 hb
      obtain ⟨c1, n1⟩ := k b h1
      obtain ⟨c2, n2⟩ := k b' h2
      rw [hρ0 b c1.1] at e1
      rw [hρ0 b' c2.1] at e2
      exact E.inj b b' c1.1 c2.1 (hp.rel.2 _ _ L L' n1 n2 e1 e2 he)
  refine h.2 n ro ρ0 C0 a' w Q hp0 (ha.ar hf har) fun ρ01 a1' w1 p1 r1 har1 => ?_
  let ρ1 : Ren := fun x => if hx : ∃ b, s0.next ≤ b ∧ κ b = some x then ρ01 hx.choose else ρ x
  have hnew : ∀ b x, s0.next ≤ b → κ b = some x → ρ1 x = ρ01 b := fun b x h1 h2 => by
    have hx : ∃ b, s0.next ≤ b ∧ κ b = some x := ⟨b, h1, h2⟩
    have e1 : ρ1 x = ρ01 hx.choose := dif_pos hx
    rw [e1, E.kinj _ _ x hx.choose_spec.2 h2]
  have hold : ∀ x, (∀ b, s0.next ≤ b → κ b ≠ some x) → ρ1 x = ρ x := fun x hx => dif_neg (by rintro ⟨b, h1, h2⟩; exact hx b h1 h2)
  have hout : ∀ x, ¬ (s.next ≤ x ∧ x < s1.next) → ρ1 x = ρ x := fun x hx => hold x fun b h1 h2 => hx (E.knew b x h1 h2)
  have hsame : ∀ b, b < s0.next → ρ01 b = ρ0 b := fun b hb => by
    by_cases c : ρ01 b = ρ0 b
    · exact c
    · have := p1.dom b c; omega
  have hκ : RenOk (fun y z => κ y = some z) ρ01 ρ1 := fun y z L hyz hy => by
    have hyz : κ y = some z := hyz
    by_cases c : y < s0.next
    · have e1 := E.kold y c
      rw [e1] at hyz
      cases hyz
      rw [hout _ (by have := E.lt y c; omega), ← hρ0 y c, ← hsame y c]; exact hy
    · rw [hnew y z (by omega) hyz]; exact hy
  have hpost : Post ρ s s1 W w ρ1 w1 := by
    refine ⟨fun x L hx => ?_, fun x hx => ?_, fun x L hx hx1 => ?_, p1.size, fun x hx hfr => p1.frame x hx fun b L hb hlt hL => hfr (ι b) L (E.writes b hlt hb).1 (E.lt b hlt) ((hρ0 b hlt) ▸ hL), p1.os, p1.tape, p1.output⟩
    · by_cases c : s.next ≤ x ∧ x < s1.next
      · rw [(hp.free x c.1 c.2).1] at hx; cases hx
      · rw [hout x c]; exact hx
    · by_cases c : s.next ≤ x ∧ x < s1.next
      · exact c
      · exact absurd (hout x c) hx
    · by_cases c : ∃ b, s0.next ≤ b ∧ κ b = some x
      · obtain ⟨b, c1, c2⟩ := c
        rw [hnew b x c1 c2] at hx1
        rcases p1.fresh b L (hρn b c1) hx1 with k | ⟨b0, L0, k1, k2, k3, k4⟩
        · exact .inl k
        · exact .inr ⟨ι b0, L0, (E.writes b0 k2 k1).1, E.lt b0 k2, (hρ0 b0 k2) ▸ k3, k4⟩
      · rw [hold x (fun b h1 h2 => c ⟨b, h1, h2⟩), hx] at hx1; cases hx1
  have can : ∀ x, ((s.next ≤ x ∧ x < s1.next) ∨ (W.testBit x = true ∧ x < s.next)) → s1.get x ≠ .hole →
      ∃ b, κ b = some x ∧ ((s0.next ≤ b ∧ b < s01.next) ∨ (b < s0.next ∧ W0.testBit b = true)) ∧ upd C0 s0 s01 W0 b = s01.get b ∧ s01.get b ≠ .hole ∧ WO (fun y z => κ y = some z) (s01.get b) (s1.get x) := fun x hx hne => by
    rcases hx with ⟨c1, c2⟩ | ⟨c1, c2⟩
    · rcases E.new x c1 c2 with k | ⟨b, k1, k2, k3, k4⟩
      · exact absurd k hne
      · exact ⟨b, k3, .inl ⟨k1, k2⟩, if_pos (.inl ⟨k1, k2⟩), k4.1 hne, k4⟩
    · obtain ⟨b, k1, k2, k3, k4⟩ := E.wrote x c2 c1
      exact ⟨b, by rw [E.kold b k1, k2], .inr ⟨k1, k3⟩, if_pos (.inr ⟨k3, k1⟩), k4.1 hne, k4⟩
  have updIn : ∀ x, ((s.next ≤ x ∧ x < s1.next) ∨ (W.testBit x = true ∧ x < s.next)) → upd C s s1 W x = s1.get x := fun x hx => if_pos hx
  have updOut : ∀ x, ¬ ((s.next ≤ x ∧ x < s1.next) ∨ (W.testBit x = true ∧ x < s.next)) → upd C s s1 W x = C x := fun x hx => if_neg hx
  -- what is not touched lies apart from what is
  have apart : ∀ x L b, ¬ ((s.next ≤ x ∧ x < s1.next) ∨ (W.testBit x = true ∧ x < s.next)) → C x ≠ .hole → ρ x = some L → b < s0.next → W0.testBit b = true → ∀ L', ρ0 b = some L' → L'.blk ≠ L.blk := fun x L b hx hc hL hb hW L' hL' he => by
    rw [hρ0 b hb] at hL'
    have := hp.rel.2 _ _ L' L (hliveW b hb hW) hc hL' hL he
    exact hx (.inr (this ▸ ⟨(E.writes b hb hW).1, E.lt b hb⟩))
  have mixed : ∀ x x' L L', ((s.next ≤ x ∧ x < s1.next) ∨ (W.testBit x = true ∧ x < s.next)) → ¬ ((s.next ≤ x' ∧ x' < s1.next) ∨ (W.testBit x' = true ∧ x' < s.next)) → s1.get x ≠ .hole → C x' ≠ .hole → ρ1 x = some L → ρ1 x' = some L' → L.blk ≠ L'.blk := fun x x' L L' hx hx' hn hn' e1 e2 he => by
    rw [hout x' (fun c => hx' (.inl c))] at e2
    obtain ⟨b, k1, k2, k3, k4, k5⟩ := can x hx hn
    obtain ⟨L2, o2, q1, q2, q3⟩ := r1.1 b (by rw [k3]; exact k4)
    have e3 := hκ b x L2 k1 q1
    rw [e1] at e3
    cases e3
    obtain ⟨L3, o3, z1, z2, z3⟩ := hp.rel.1 x' hn'
    rw [e2] at z1
    cases z1
    have hlt : L'.blk < w.heap.size := (Array.getElem?_eq_some_iff.1 z2).1
    rcases k2 with ⟨c1, c2⟩ | ⟨c1, c2⟩
    · rcases p1.fresh b L (hρn b c1) q1 with m | ⟨b0, L0, m1, m2, m3, m4⟩
      · omega
      · exact apart x' L' b0 hx' hn' e2 m2 m1 L0 m3 (m4.trans he)
    · rw [hsame b c1] at q1
      exact apart x' L' b hx' hn' e2 c1 c2 L q1 he
  refine hQ ρ1 a1' w1 hpost ⟨fun x hx => ?_, fun x x' L L' h1 h2 e1 e2 he => ?_⟩ (ha1.ar hκ har1)
  · by_cases c : (s.next ≤ x ∧ x < s1.next) ∨ (W.testBit x = true ∧ x < s.next)
    · rw [updIn x c] at hx ⊢
      obtain ⟨b, k1, k2, k3, k4, k5⟩ := can x c hx
      obtain ⟨L, o', q1, q2, q3⟩ := r1.1 b (by rw [k3]; exact k4)
      rw [k3] at q3
      exact ⟨L, o', hκ b x L k1 q1, q2, k5.2 ρ01 ρ1 hκ L o' q3⟩
    · rw [updOut x c] at hx ⊢
      obtain ⟨L, o', q1, q2, q3⟩ := hp.rel.1 x hx
      have hlt : L.blk < w.heap.size := (Array.getElem?_eq_some_iff.1 q2).1
      refine ⟨L, o', by rw [hout x (fun k => c (.inl k))]; exact q1, ?_, q3.mono hpost.sub⟩
      rw [p1.frame L.blk hlt fun b L' hb hlt' hL' => apart x L b c hx q1 hlt' hb L' hL']; exact q2
  · by_cases c : (s.next ≤ x ∧ x < s1.next) ∨ (W.testBit x = true ∧ x < s.next)
    · rw [updIn x c] at h1
      by_cases c' : (s.next ≤ x' ∧ x' < s1.next) ∨ (W.testBit x' = true ∧ x' < s.next)
      · rw [updIn x' c'] at h2
        obtain ⟨b, k1, k2, k3, k4, k5⟩ := can x c h1
        obtain ⟨b', k1', k2', k3', k4', k5'⟩ := can x' c' h2
        obtain ⟨L2, o2, q1, q2, q3⟩ := r1.1 b (by rw [k3]; exact k4)
        obtain ⟨L2', o2', q1', q2', q3'⟩ := r1.1 b' (by rw [k3']; exact k4')
        have f1 := hκ b x L2 k1 q1
        have f2 := hκ b' x' L2' k1' q1'
        rw [e1] at f1
        rw [e2] at f2
        cases f1
        cases f2
        have := r1.2 b b' L L' (by rw [k3]; exact k4) (by rw [k3']; exact k4') q1 q1' he
        subst this
        rw [k1] at k1'
        cases k1'
        rfl
      · rw [updOut x' c'] at h2
        exact absurd he (mixed x x' L L' c c' h1 h2 e1 e2)
    · rw [updOut x c] at h1
      by_cases c' : (s.next ≤ x' ∧ x' < s1.next) ∨ (W.testBit x' = true ∧ x' < s.next)
      · rw [updIn x' c'] at h2
        exact absurd he.symm (mixed x' x L' L c' c h2 h1 e2 e1)
      · rw [updOut x' c'] at h2
        rw [hout x (fun k => c (.inl k))] at e1
        rw [hout x' (fun k => c' (.inl k))] at e2
        exact hp.rel.2 x x' L L' h1 h2 e1 e2 he
end Mini
end Go.Proofs.YtgnmhapgciejfaaGreatDoor
end
section
namespace Go.Proofs.YtgnmhapgciejfaaGreatDoor
set_option linter.all false
open Go.RowKit
namespace Mini
variable {P : Program} {s0 : St}

def ConOkT (P : Program) (s0 : St) (c : Con) : Prop := ∀ ns, ns.length = size c.sh → ground 8 (c.val ns) = true ∧ (c.pre ns → ∀ w, Holds P s0 w → Calls P c.f (back c.sh ns).toArray w fun e w' => e = .returned (c.val ns) ∧ Below w.heap.size w w')
theorem ConOk.t {c : Con} (h : ConOk P c) : ConOkT P s0 c := fun ns hl => ⟨(h ns hl).1, fun hp w _ => (h ns hl).2 hp w⟩
def kOfT (s0 : St) (c : Con) : CallS := fun f xs s q => match decide (f = c.f) with
  | true => match flat c.sh xs.toList with
    | some ns => match tabsOk s0 s0.next && tabsEq s0 s s0.next with
      | true => some (c.val ns, s, 2 ^ s0.next - 1, 0, ⟨q.rest, q.ob ∧ c.pre ns⟩)
      | false => none
    | none => none
  | false => none
theorem conT_sndF {c : Con} {xs : Array Value} {ns : List Int} {s : St} (hn : s0.next = P.globals.size) (h : ConOkT P s0 c) (hf : flat c.sh xs.toList = some ns) (ht : tabsOk s0 s0.next = true ∧ tabsEq s0 s s0.next = true) (hp : c.pre ns) : SndF P c.f xs s (c.val ns) s (2 ^ s0.next - 1) 0 := by
  obtain ⟨h1, h2⟩ := flat_back _ _ _ hf
  obtain ⟨g1, g2⟩ := h ns h2
  have hx : xs = (back c.sh ns).toArray := by apply Array.ext'; simpa using h1
  refine sndF_quietG g1 fun ρ C args' w hG ag hr ha => ?_
  have hg : xs.toList.all (ground 8) = true := by rw [h1]; exact back_ground _ _
  rw [vrs_ground hg ha, hx]
  exact g2 hp w (holds_of hn ht.1 ht.2 hG ag hr)
theorem kOfT_ok {c : Con} (hn : s0.next = P.globals.size) (h : ConOkT P s0 c) : FOkS P (kOfT s0 c) := fun f xs s q v s1 R W q1 he => by
  unfold kOfT at he
  split at he
  · rename_i hf
    have hf := of_decide_eq_true hf
    subst hf
    split at he
    · rename_i ns hns
      split at he
      · rename_i ht
        cases he
        simp only [Bool.and_eq_true] at ht
        exact ⟨fun hb => hb.1, fun hb => conT_sndF hn h hns ht hb.2⟩
      · cases he
    · cases he
  · cases he
def kAllT (s0 : St) : List Con → CallS
  | [] => noXS
  | c :: cs => bothX (kOfT s0 c) (kAllT s0 cs)
def ConsOkT (P : Program) (s0 : St) : List Con → Prop
  | [] => True
  | c :: cs => ConOkT P s0 c ∧ ConsOkT P s0 cs
theorem kAllT_ok (hn : s0.next = P.globals.size) : ∀ (l : List Con), ConsOkT P s0 l → FOkS P (kAllT s0 l)
  | [], _ => noXS_ok
  | c :: cs, h => bothX_ok (kOfT_ok hn h.1) (kAllT_ok hn cs h.2)

/-- A contract for the reckoner of closed calls; what it asks is decided. -/
def kOfC (s0 : St) (c : Con) (dec : List Int → Bool) : CallF := fun f xs s => match decide (f = c.f) with
  | true => match flat c.sh xs.toList with
    | some ns => match dec ns with
      | true => match tabsOk s0 s0.next && tabsEq s0 s s0.next with
        | true => some (c.val ns, s, 2 ^ s0.next - 1, 0)
        | false => none
      | false => none
    | none => none
  | false => none
theorem kOfC_ok {c : Con} {dec : List Int → Bool} (hn : s0.next = P.globals.size) (h : ConOkT P s0 c) (hd : ∀ ns, dec ns = true → c.pre ns) : FOk P (kOfC s0 c dec) := fun f xs s v s1 R W he => by
  unfold kOfC at he
  split at he
  · rename_i hf
    have hf := of_decide_eq_true hf
    subst hf
    split at he
    · rename_i ns hns
      split at he
      · rename_i hdec
        split at he
        · rename_i ht
          cases he
          simp only [Bool.and_eq_true] at ht
          exact conT_sndF hn h hns ht (hd _ hdec)
        · cases he
      · cases he
    · cases he
  · cases he
def orX (X Y : CallF) : CallF := fun f xs s => match X f xs s with
  | some r => some r
  | none => Y f xs s
theorem orX_ok {X Y : CallF} (hX : FOk P X) (hY : FOk P Y) : FOk P (orX X Y) := fun f xs s v s1 R W he => by
  unfold orX at he
  split at he
  · rename_i hx
    cases he
    exact hX _ _ _ _ _ _ _ hx
  · exact hY _ _ _ _ _ _ _ he
end Mini
end Go.Proofs.YtgnmhapgciejfaaGreatDoor
end
section
namespace Go.Proofs.YtgnmhapgciejfaaGreatDoor
set_option linter.all false
namespace Pl

/-- The error of a number that is not in a range. -/
def cr (n lo hi : Int) : Int := if n < lo ∨ hi < n then 3 else 0
/-- The first error of a list that is not 0. -/
def firstE : List Int → Int
  | [] => 0
  | e :: l => if e = 0 then firstE l else e
/-- The error of a number with a part out of its limits. -/
def parts (a b m : Int) : Int := firstE [cr a (-m) m, cr b (-m) m]
def clamp (x : Int) : Int := min (max x (-1048576)) 1048576
/-- One sixth: the number 1 + w times a + b w. -/
def sixth (p : Int × Int) : Int × Int := (p.1 - p.2, p.1)
def turnN : Nat → Int × Int → Int × Int
  | 0, p => p
  | n + 1, p => sixth (turnN n p)
def turn (p : Int × Int) (n : Int) : Int × Int := turnN (n % 6).toNat p
def inB (m : Int) (p : Int × Int) : Prop := -m ≤ p.1 ∧ p.1 ≤ m ∧ -m ≤ p.2 ∧ p.2 ≤ m
instance (m : Int) (p : Int × Int) : Decidable (inB m p) := by unfold inB; infer_instance
/-- A result, or the error 4. -/
def lim (p : Int × Int) : (Int × Int) × Int := if inB 1048576 p then (p, 0) else ((0, 0), 4)
def add (p q : Int × Int) : Int × Int := (p.1 + q.1, p.2 + q.2)
def mul (p q : Int × Int) : Int × Int := (p.1 * q.1 - p.2 * q.2, p.1 * q.2 + p.2 * q.1 - p.2 * q.2)
def bar (p : Int × Int) : Int × Int := (p.1 - p.2, -p.2)
def norm (p : Int × Int) : Int := p.1 * p.1 - p.1 * p.2 + p.2 * p.2

theorem rest_emod (n m : Int) (hm : 0 < m) : (n.tmod m + m) % m = n % m := by
  rw [Int.add_emod_right, Int.tmod_eq_emod]
  split
  · simp
  · rw [Int.sub_emod]
    have : (m.natAbs : Int) % m = 0 := by rw [Int.natAbs_of_nonneg (by omega)]; simp
    rw [this]; simp
end Pl
end Go.Proofs.YtgnmhapgciejfaaGreatDoor
end
section
namespace Go.Proofs.YtgnmhapgciejfaaGreatDoor
set_option linter.all false

theorem turnN_add (m n : Nat) (p : Int × Int) : Pl.turnN (m + n) p = Pl.turnN m (Pl.turnN n p) := by
  induction m with
  | zero => simp [Pl.turnN]
  | succ m ih => rw [Nat.succ_add]; show Pl.sixth _ = Pl.sixth _; rw [ih]
theorem turnN_two (p : Int × Int) : Pl.turnN 2 p = (-p.2, p.1 - p.2) := by
  show (p.1 - p.2 - p.1, p.1 - p.2) = _
  exact Prod.ext (by simp only; omega) rfl
theorem turnN_three (p : Int × Int) : Pl.turnN 3 p = (-p.1, -p.2) := by
  rw [show (3 : Nat) = 1 + 2 from rfl, turnN_add, turnN_two]
  show (-p.2 - (p.1 - p.2), -p.2) = _
  exact Prod.ext (by simp only; omega) rfl
theorem turnN_four (p : Int × Int) : Pl.turnN 4 p = (p.2 - p.1, -p.1) := by
  rw [show (4 : Nat) = 1 + 3 from rfl, turnN_add, turnN_three]
  show (-p.1 - -p.2, -p.1) = _
  exact Prod.ext (by simp only; omega) rfl
theorem turnN_five (p : Int × Int) : Pl.turnN 5 p = (p.2, p.2 - p.1) := by
  rw [show (5 : Nat) = 1 + 4 from rfl, turnN_add, turnN_four]
  show (p.2 - p.1 - -p.1, p.2 - p.1) = _
  exact Prod.ext (by simp only; omega) rfl
theorem turnN_six (p : Int × Int) : Pl.turnN 6 p = p := by
  rw [show (6 : Nat) = 3 + 3 from rfl, turnN_add, turnN_three, turnN_three]
  exact Prod.ext (by simp only; omega) (by simp only; omega)
theorem turnN_six_mul (q r : Nat) (p : Int × Int) : Pl.turnN (6 * q + r) p = Pl.turnN r p := by
  induction q with
  | zero => simp
  | succ q ih => rw [show 6 * (q + 1) + r = 6 + (6 * q + r) by omega, turnN_add, turnN_six, ih]
theorem turnN_mod (k : Nat) (p : Int × Int) : Pl.turnN k p = Pl.turnN (k % 6) p := by
  have h := turnN_six_mul (k / 6) (k % 6) p
  rwa [show 6 * (k / 6) + k % 6 = k by omega] at h
/-- A turned number is turned again. -/
theorem turn_turn (p : Int × Int) (m n : Int) : Pl.turn (Pl.turn p m) n = Pl.turn p (m + n) := by
  unfold Pl.turn
  rw [← turnN_add, turnN_mod]
  congr 1
  omega
theorem turn_mod (p : Int × Int) (m n : Int) (h : m % 6 = n % 6) : Pl.turn p m = Pl.turn p n := by unfold Pl.turn; rw [h]
theorem turn_0 (p : Int × Int) (n : Int) (h : n % 6 = 0) : Pl.turn p n = p := by unfold Pl.turn; rw [h]; rfl
theorem turn_1 (p : Int × Int) (n : Int) (h : n % 6 = 1) : Pl.turn p n = (p.1 - p.2, p.1) := by unfold Pl.turn; rw [h]; rfl
theorem turn_2 (p : Int × Int) (n : Int) (h : n % 6 = 2) : Pl.turn p n = (-p.2, p.1 - p.2) := by unfold Pl.turn; rw [h]; exact turnN_two p
theorem turn_3 (p : Int × Int) (n : Int) (h : n % 6 = 3) : Pl.turn p n = (-p.1, -p.2) := by unfold Pl.turn; rw [h]; exact turnN_three p
theorem turn_4 (p : Int × Int) (n : Int) (h : n % 6 = 4) : Pl.turn p n = (p.2 - p.1, -p.1) := by unfold Pl.turn; rw [h]; exact turnN_four p
theorem turn_5 (p : Int × Int) (n : Int) (h : n % 6 = 5) : Pl.turn p n = (p.2, p.2 - p.1) := by unfold Pl.turn; rw [h]; exact turnN_five p
theorem turn_cases (p : Int × Int) (n : Int) :
    (n % 6 = 0 ∧ Pl.turn p n = p) ∨ (n % 6 = 1 ∧ Pl.turn p n = (p.1 - p.2, p.1)) ∨ (n % 6 = 2 ∧ Pl.turn p n = (-p.2, p.1 - p.2)) ∨ (n % 6 = 3 ∧ Pl.turn p n = (-p.1, -p.2)) ∨
    (n % 6 = 4 ∧ Pl.turn p n = (p.2 - p.1, -p.1)) ∨ (n % 6 = 5 ∧ Pl.turn p n = (p.2, p.2 - p.1)) := by
  have h : n % 6 = 0 ∨ n % 6 = 1 ∨ n % 6 = 2 ∨ n % 6 = 3 ∨ n % 6 = 4 ∨ n % 6 = 5 := by omega
  rcases h with h | h | h | h | h | h
  · exact .inl ⟨h, turn_0 p n h⟩
  · exact .inr (.inl ⟨h, turn_1 p n h⟩)
  · exact .inr (.inr (.inl ⟨h, turn_2 p n h⟩))
  · exact .inr (.inr (.inr (.inl ⟨h, turn_3 p n h⟩)))
  · exact .inr (.inr (.inr (.inr (.inl ⟨h, turn_4 p n h⟩))))
  · exact .inr (.inr (.inr (.inr (.inr ⟨h, turn_5 p n h⟩))))
theorem turn_in (p : Int × Int) (n m : Int) (h : Pl.inB m p) : Pl.inB (2 * m) (Pl.turn p n) := by
  obtain ⟨h1, h2, h3, h4⟩ := h
  rcases turn_cases p n with ⟨g, e⟩ | ⟨g, e⟩ | ⟨g, e⟩ | ⟨g, e⟩ | ⟨g, e⟩ | ⟨g, e⟩ <;> rw [e] <;> (refine ⟨?_, ?_, ?_, ?_⟩ <;> (try simp only) <;> omega)

theorem sq_nn (x : Int) : 0 ≤ x * x := by
  rcases Int.le_total 0 x with h | h
  · exact Int.mul_nonneg h h
  · have e : x * x = (-x) * (-x) := (Int.neg_mul_neg x x).symm
    rw [e]; exact Int.mul_nonneg (by omega) (by omega)
theorem norm4 (a b : Int) : 4 * Pl.norm (a, b) = (2 * a - b) * (2 * a - b) + 3 * (b * b) := by
  unfold Pl.norm; simp only; grind
theorem norm_nn (a b : Int) : 0 ≤ Pl.norm (a, b) := by
  have h := norm4 a b
  have h1 := sq_nn (2 * a - b)
  have h2 := sq_nn b
  omega
theorem norm_zero (a b : Int) : Pl.norm (a, b) = 0 ↔ a = 0 ∧ b = 0 := by
  constructor
  · intro h0
    have h := norm4 a b
    have h1 := sq_nn (2 * a - b)
    have h2 := sq_nn b
    have hb : b * b = 0 := by omega
    have hb0 : b = 0 := by rcases Int.mul_eq_zero.1 hb with h | h <;> exact h
    subst hb0
    have ha : a * a = 0 := by unfold Pl.norm at h0; simpa using h0
    exact ⟨by rcases Int.mul_eq_zero.1 ha with h | h <;> exact h, rfl⟩
  · rintro ⟨rfl, rfl⟩; rfl
theorem norm_mul (a b : Int × Int) : Pl.norm (Pl.mul a b) = Pl.norm a * Pl.norm b := by
  obtain ⟨a, b⟩ := a
  rename_i q
  obtain ⟨c, d⟩ := q
  unfold Pl.norm Pl.mul; simp only; grind
theorem mul_comm' (a b : Int × Int) : Pl.mul a b = Pl.mul b a := by
  obtain ⟨a, b⟩ := a
  rename_i q
  obtain ⟨c, d⟩ := q
  unfold Pl.mul; simp only [Prod.mk.injEq]; constructor <;> grind
theorem add_comm' (a b : Int × Int) : Pl.add a b = Pl.add b a := by
  unfold Pl.add; simp only [Prod.mk.injEq]; omega
theorem mul_add' (a b c : Int × Int) : Pl.mul (Pl.add a b) c = Pl.add (Pl.mul a c) (Pl.mul b c) := by
  obtain ⟨a1, a2⟩ := a
  obtain ⟨b1, b2⟩ := b
  obtain ⟨c1, c2⟩ := c
  unfold Pl.mul Pl.add; simp only [Prod.mk.injEq]; constructor <;> grind
theorem norm_turn (a : Int × Int) (n : Int) : Pl.norm (Pl.turn a n) = Pl.norm a := by
  obtain ⟨x, y⟩ := a
  rcases turn_cases (x, y) n with ⟨g, e⟩ | ⟨g, e⟩ | ⟨g, e⟩ | ⟨g, e⟩ | ⟨g, e⟩ | ⟨g, e⟩ <;> rw [e] <;> unfold Pl.norm <;> simp only <;> grind
theorem mul_turn2 (a b : Int × Int) (n : Int) : Pl.mul (Pl.turn a n) (Pl.turn b 2) = Pl.turn (Pl.mul a b) (n + 2) := by
  rw [← turn_turn, turn_2 b 2 (by decide), turn_2 _ 2 (by decide)]
  obtain ⟨a1, a2⟩ := a
  obtain ⟨b1, b2⟩ := b
  rcases turn_cases (a1, a2) n with ⟨g, e⟩ | ⟨g, e⟩ | ⟨g, e⟩ | ⟨g, e⟩ | ⟨g, e⟩ | ⟨g, e⟩ <;> rw [e]
  · rw [turn_0 _ _ g]; unfold Pl.mul; simp only [Prod.mk.injEq]; constructor <;> grind
  · rw [turn_1 _ _ g]; unfold Pl.mul; simp only [Prod.mk.injEq]; constructor <;> grind
  · rw [turn_2 _ _ g]; unfold Pl.mul; simp only [Prod.mk.injEq]; constructor <;> grind
  · rw [turn_3 _ _ g]; unfold Pl.mul; simp only [Prod.mk.injEq]; constructor <;> grind
  · rw [turn_4 _ _ g]; unfold Pl.mul; simp only [Prod.mk.injEq]; constructor <;> grind
  · rw [turn_5 _ _ g]; unfold Pl.mul; simp only [Prod.mk.injEq]; constructor <;> grind
theorem turn_add3 (a : Int × Int) (n : Int) : Pl.turn a (n + 3) = (-(Pl.turn a n).1, -(Pl.turn a n).2) := by
  rw [← turn_turn, turn_3 _ 3 (by decide)]
theorem turn_add6 (a : Int × Int) (n : Int) : Pl.turn a (n + 6) = Pl.turn a n := turn_mod _ _ _ (by omega)
theorem mul_one1 (a : Int × Int) : Pl.mul a (1, 1) = Pl.turn a 1 := by
  rw [turn_1 a 1 (by decide)]; unfold Pl.mul; simp

theorem inB_mono {m k : Int} {p : Int × Int} (h : Pl.inB m p) (hk : m ≤ k) : Pl.inB k p := by
  obtain ⟨h1, h2, h3, h4⟩ := h; exact ⟨by omega, by omega, by omega, by omega⟩
theorem inB_add {m k : Int} {p q : Int × Int} (h : Pl.inB m p) (g : Pl.inB k q) : Pl.inB (m + k) (Pl.add p q) := by
  obtain ⟨h1, h2, h3, h4⟩ := h; obtain ⟨g1, g2, g3, g4⟩ := g
  unfold Pl.add; refine ⟨?_, ?_, ?_, ?_⟩ <;> simp only <;> omega
theorem mul_bd2 (m k x y : Int) (hm : 0 ≤ m) (hk : 0 ≤ k) (h1 : -m ≤ x) (h2 : x ≤ m) (h3 : -k ≤ y) (h4 : y ≤ k) : -(m * k) ≤ x * y ∧ x * y ≤ m * k := by
  have e : (x * y).natAbs ≤ (m * k).natAbs := by
    rw [Int.natAbs_mul, Int.natAbs_mul]; exact Nat.mul_le_mul (by omega) (by omega)
  have : 0 ≤ m * k := Int.mul_nonneg hm hk
  omega
theorem inB_mul {m k : Int} {p q : Int × Int} (hm : 0 ≤ m) (hk : 0 ≤ k) (h : Pl.inB m p) (g : Pl.inB k q) : Pl.inB (3 * (m * k)) (Pl.mul p q) := by
  obtain ⟨h1, h2, h3, h4⟩ := h; obtain ⟨g1, g2, g3, g4⟩ := g
  have a := mul_bd2 m k _ _ hm hk h1 h2 g1 g2
  have b := mul_bd2 m k _ _ hm hk h3 h4 g3 g4
  have c := mul_bd2 m k _ _ hm hk h1 h2 g3 g4
  have d := mul_bd2 m k _ _ hm hk h3 h4 g1 g2
  unfold Pl.mul; refine ⟨?_, ?_, ?_, ?_⟩ <;> simp only <;> omega

end Go.Proofs.YtgnmhapgciejfaaGreatDoor
end
section
set_option linter.all false
set_option maxRecDepth 1000000
open Go.RowKit
namespace Go.Proofs.YtgnmhapgciejfaaGreatDoor
open Mini
theorem gsz : Tryz.prog.globals.size = 7 := by kernel_rfl
theorem gfol : Tryz.prog.follows .mixedOrders = true := by kernel_rfl
theorem bl (w : World) : Holds Tryz.prog (noTabs 7) w := gsz ▸ noTabs_holds w

theorem wi (x : Int) (h : -9223372036854775808 ≤ x ∧ x ≤ 9223372036854775807) : IntKind.i64.wrap x = x := IntWalk.i64_in _ (by omega)
theorem parts_eq (a b m : Int) : Pl.parts a b m = if a < -m ∨ m < a ∨ b < -m ∨ m < b then 3 else 0 := by
  unfold Pl.parts Pl.firstE Pl.firstE Pl.firstE Pl.cr
  grind
/-- The error of a number of the ring. -/
def cn (a b c d : Int) : Int := if a < -1048576 ∨ 1048576 < a ∨ b < -1048576 ∨ 1048576 < b ∨ c < -1048576 ∨ 1048576 < c ∨ d < -1048576 ∨ 1048576 < d then 3 else 0
def B4 (m a b c d : Int) : Prop := -m ≤ a ∧ a ≤ m ∧ -m ≤ b ∧ b ≤ m ∧ -m ≤ c ∧ c ≤ m ∧ -m ≤ d ∧ d ≤ m
instance (m a b c d : Int) : Decidable (B4 m a b c d) := by unfold B4; infer_instance
theorem bd (m k x y : Int) (hm : 0 ≤ m) (hk : 0 ≤ k) (h1 : -m ≤ x ∧ x ≤ m) (h2 : -k ≤ y ∧ y ≤ k) : -(m * k) ≤ x * y ∧ x * y ≤ m * k := mul_bd2 m k x y hm hk h1.1 h1.2 h2.1 h2.2
def p1 (a b c d e f g h : Int) : Int := (a * e - b * f) - (c * g - d * h)
def p2 (a b c d e f g h : Int) : Int := (a * f + b * e - b * f) - (c * h + d * g - d * h)
def p3 (a b c d e f g h : Int) : Int := (a * g - b * h) + (c * e - d * f)
def p4 (a b c d e f g h : Int) : Int := (a * h + b * g - b * h) + (c * f + d * e - d * f)
/-- A number of the ring, turned by n. -/
def tn (a b c d n : Int) : Int × Int × Int × Int :=
  let k := n % 12
  if k = 0 then (a, b, c, d) else if k = 1 then (p1 a b c d 0 0 0 (-1), p2 a b c d 0 0 0 (-1), p3 a b c d 0 0 0 (-1), p4 a b c d 0 0 0 (-1))
  else if k = 2 then (p1 a b c d 1 1 0 0, p2 a b c d 1 1 0 0, p3 a b c d 1 1 0 0, p4 a b c d 1 1 0 0) else if k = 3 then (p1 a b c d 0 0 1 0, p2 a b c d 0 0 1 0, p3 a b c d 0 0 1 0, p4 a b c d 0 0 1 0)
  else if k = 4 then (p1 a b c d 0 1 0 0, p2 a b c d 0 1 0 0, p3 a b c d 0 1 0 0, p4 a b c d 0 1 0 0) else if k = 5 then (p1 a b c d 0 0 1 1, p2 a b c d 0 0 1 1, p3 a b c d 0 0 1 1, p4 a b c d 0 0 1 1)
  else if k = 6 then (-a, -b, -c, -d) else if k = 7 then (p1 a b c d 0 0 0 1, p2 a b c d 0 0 0 1, p3 a b c d 0 0 0 1, p4 a b c d 0 0 0 1)
  else if k = 8 then (p1 a b c d (-1) (-1) 0 0, p2 a b c d (-1) (-1) 0 0, p3 a b c d (-1) (-1) 0 0, p4 a b c d (-1) (-1) 0 0) else if k = 9 then (p1 a b c d 0 0 (-1) 0, p2 a b c d 0 0 (-1) 0, p3 a b c d 0 0 (-1) 0, p4 a b c d 0 0 (-1) 0)
  else if k = 10 then (p1 a b c d 0 (-1) 0 0, p2 a b c d 0 (-1) 0 0, p3 a b c d 0 (-1) 0 0, p4 a b c d 0 (-1) 0 0) else (p1 a b c d 0 0 (-1) (-1), p2 a b c d 0 0 (-1) (-1), p3 a b c d 0 0 (-1) (-1), p4 a b c d 0 0 (-1) (-1))
def sA (a b c d : Int) : Int := (a * a - a * b + b * b) + (c * c - c * d + d * d)
def sB (a b c d : Int) : Int := c * b - d * a
def sgn (a b : Int) : Int := if a = 0 ∧ b = 0 then 0 else if (0 ≤ a ∧ 0 ≤ b) ∨ (0 < a ∧ 3 * b * b < a * a) ∨ (0 < b ∧ a * a < 3 * b * b) then 1 else -1
def two (e1 e2 : Int) : Int := if e1 = 0 then e2 else e1
def cz (e x : Int) : Int := if e = 0 then x else 0
theorem sq3 : ∀ (n : Nat) (a b : Int), a.natAbs ≤ n → a * a = 3 * b * b → a = 0 ∧ b = 0
  | 0, a, b, hn, h => by
    have ha : a = 0 := by omega
    subst ha
    refine ⟨rfl, ?_⟩
    have : b * b = 0 := by grind
    exact by rcases Int.mul_eq_zero.1 this with g | g <;> exact g
  | n + 1, a, b, hn, h => by
    have h3 : a % 3 = 0 := by
      have h1 : (a * a) % 3 = 0 := by rw [h, Int.mul_assoc]; simp
      have h2 : (a * a) % 3 = ((a % 3) * (a % 3)) % 3 := Int.mul_emod a a 3
      have : a % 3 = 0 ∨ a % 3 = 1 ∨ a % 3 = 2 := by omega
      rcases this with g | g | g
      · exact g
      · rw [g] at h2; omega
      · rw [g] at h2; omega
    obtain ⟨k, rfl⟩ : ∃ k, a = 3 * k := ⟨a / 3, by omega⟩
    have h4 : b * b = 3 * k * k := by grind
    have h5 : b % 3 = 0 := by
      have h1 : (b * b) % 3 = 0 := by rw [h4, Int.mul_assoc]; simp
      have h2 : (b * b) % 3 = ((b % 3) * (b % 3)) % 3 := Int.mul_emod b b 3
      have : b % 3 = 0 ∨ b % 3 = 1 ∨ b % 3 = 2 := by omega
      rcases this with g | g | g
      · exact g
      · rw [g] at h2; omega
      · rw [g] at h2; omega
    obtain ⟨l, rfl⟩ : ∃ l, b = 3 * l := ⟨b / 3, by omega⟩
    have h6 : k * k = 3 * l * l := by grind
    rcases Decidable.em (k = 0) with g | g
    · subst g
      have : l * l = 0 := by grind
      have hl : l = 0 := by rcases Int.mul_eq_zero.1 this with g | g <;> exact g
      subst hl
      exact ⟨rfl, rfl⟩
    · obtain ⟨h7, h8⟩ := sq3 n k l (by omega) h6
      exact absurd h7 g
theorem no3 {a b : Int} (hb : b ≠ 0) : a * a ≠ 3 * b * b := fun h => hb (sq3 a.natAbs a b (Nat.le_refl _) h).2

theorem floor_eq (n d : Int) (hd : 0 < d) : (if n.tdiv d * d > n then n.tdiv d - 1 else n.tdiv d) = n / d := by
  have h1 : n.tdiv d * d = n - n.tmod d := by have := Int.mul_tdiv_add_tmod n d; rw [Int.mul_comm d] at this; omega
  have h2 := Int.tmod_lt_of_pos n hd
  have h3 := Int.lt_tmod_of_pos n hd
  have key : ∀ k : Int, k * d ≤ n → n < k * d + d → n / d = k := fun k a b => by
    have a1 : k ≤ n / d := (Int.le_ediv_iff_mul_le hd).2 a
    have b1 : n / d < k + 1 := (Int.ediv_lt_iff_lt_mul hd).2 (by rw [Int.add_mul, Int.one_mul]; exact b)
    omega
  split
  · rename_i c
    refine (key _ ?_ ?_).symm
    · rw [Int.sub_mul, Int.one_mul]; omega
    · rw [Int.sub_mul, Int.one_mul]; omega
  · rename_i c
    refine (key _ (by omega) ?_).symm
    omega

theorem cn0 {a b c d : Int} : cn a b c d = 0 ↔ B4 1048576 a b c d := by
  unfold cn B4
  split <;> omega
theorem b4of {a b c d : Int} (h : cn a b c d = 0) : B4 1048576 a b c d := cn0.1 h
theorem b16of {a b c d : Int} (h : cn a b c d = 0) : B4 16777216 a b c d := by
  have := cn0.1 h
  unfold B4 at *
  omega
theorem cr0 {x m : Int} : Pl.cr x (-m) m = 0 ↔ -m ≤ x ∧ x ≤ m := by
  unfold Pl.cr
  split <;> omega
theorem root0 {a b : Int} (h : Pl.parts a b 1073741824 = 0) : -1500000000 ≤ a ∧ a ≤ 1500000000 ∧ -1500000000 ≤ b ∧ b ≤ 1500000000 := by
  rw [parts_eq] at h
  split at h <;> omega
theorem root1 {a b : Int} (h : Pl.cr a (-1073741824) 1073741824 = 0) (g : Pl.cr b (-1073741824) 1073741824 = 0) : -1500000000 ≤ a ∧ a ≤ 1500000000 ∧ -1500000000 ≤ b ∧ b ≤ 1500000000 := by
  have := cr0.1 h
  have := cr0.1 g
  omega

noncomputable def T0 : St := ⟨7, (.node (.node (.node (.node (.node (.node (.node (.node (.node (.node (.node (.node (.node (.node (.node (.node (.node (.node (.node (.node (.node .leaf (.node (.one (.cells [.int .i64 (1), .int .i64 (0), .int .i64 (0), .int .i64 (0), .int .i64 (0), .int .i64 (0), .int .i64 (0), .int .i64 (-1), .int .i64 (1), .int .i64 (1), .int .i64 (0), .int .i64 (0), .int .i64 (0), .int .i64 (0), .int .i64 (1), .int .i64 (0), .int .i64 (0), .int .i64 (1), .int .i64 (0), .int .i64 (0), .int .i64 (0), .int .i64 (0), .int .i64 (1), .int .i64 (1), .int .i64 (-1), .int .i64 (0), .int .i64 (0), .int .i64 (0), .int .i64 (0), .int .i64 (0), .int .i64 (0), .int .i64 (1), .int .i64 (-1), .int .i64 (-1), .int .i64 (0), .int .i64 (0), .int .i64 (0), .int .i64 (0), .int .i64 (-1), .int .i64 (0), .int .i64 (0), .int .i64 (-1), .int .i64 (0), .int .i64 (0), .int .i64 (0), .int .i64 (0), .int .i64 (-1), .int .i64 (-1)] 70 true 0 true)) (.one (.cells [.int .u64 (1), .int .u64 (10), .int .u64 (100), .int .u64 (1000), .int .u64 (10000), .int .u64 (100000), .int .u64 (1000000), .int .u64 (10000000), .int .u64 (100000000), .int .u64 (1000000000), .int .u64 (10000000000), .int .u64 (100000000000), .int .u64 (1000000000000), .int .u64 (10000000000000), .int .u64 (100000000000000), .int .u64 (1000000000000000), .int .u64 (10000000000000000), .int .u64 (100000000000000000), .int .u64 (1000000000000000000), .int .u64 (10000000000000000000)] 328 true 0 true)))) .leaf) .leaf) .leaf) .leaf) .leaf) .leaf) .leaf) .leaf) .leaf) .leaf) .leaf) .leaf) .leaf) .leaf) .leaf) .leaf) .leaf) .leaf) .leaf) .leaf), []⟩

def c_range : Con := ⟨72, [.int .i64, .int .i64, .int .i64], fun ns => match ns with | [n, lo, hi] => .int .i64 (Pl.cr n lo hi) | _ => .bool true, fun ns => match ns with | [n, lo, hi] => True | _ => True⟩
def c_rrange : Con := ⟨24, [.int .i64, .int .i64, .int .i64], fun ns => match ns with | [n, lo, hi] => .int .i64 (Pl.cr n lo hi) | _ => .bool true, fun ns => match ns with | [n, lo, hi] => True | _ => True⟩
def c_checkEisen : Con := ⟨134, [.agg [.i64, .i64]], fun ns => match ns with | [a, b] => .int .i64 (Pl.parts a b 1048576) | _ => .bool true, fun ns => match ns with | [a, b] => True | _ => True⟩
def c_checkNumber : Con := ⟨67, [.agg [.i64, .i64, .i64, .i64]], fun ns => match ns with | [a, b, c, d] => .int .i64 (cn a b c d) | _ => .bool true, fun ns => match ns with | [a, b, c, d] => True | _ => True⟩
def c_rcheckCyclo : Con := ⟨22, [.agg [.i64, .i64, .i64, .i64]], fun ns => match ns with | [a, b, c, d] => .int .i64 (cn a b c d) | _ => .bool true, fun ns => match ns with | [a, b, c, d] => True | _ => True⟩
def c_product : Con := ⟨68, [.agg [.i64, .i64, .i64, .i64], .agg [.i64, .i64, .i64, .i64]], fun ns => match ns with | [a, b, c, d, e, f, g, k] => .agg #[.int .i64 (p1 a b c d e f g k), .int .i64 (p2 a b c d e f g k), .int .i64 (p3 a b c d e f g k), .int .i64 (p4 a b c d e f g k)] | _ => .bool true, fun ns => match ns with | [a, b, c, d, e, f, g, k] => B4 16777216 a b c d ∧ B4 1048576 e f g k | _ => True⟩
def c_rproduct : Con := ⟨25, [.agg [.i64, .i64, .i64, .i64], .agg [.i64, .i64, .i64, .i64]], fun ns => match ns with | [a, b, c, d, e, f, g, k] => .agg #[.int .i64 (p1 a b c d e f g k), .int .i64 (p2 a b c d e f g k), .int .i64 (p3 a b c d e f g k), .int .i64 (p4 a b c d e f g k)] | _ => .bool true, fun ns => match ns with | [a, b, c, d, e, f, g, k] => B4 16777216 a b c d ∧ B4 1048576 e f g k | _ => True⟩
def c_strength : Con := ⟨71, [.agg [.i64, .i64, .i64, .i64]], fun ns => match ns with | [a, b, c, d] => .agg #[.int .i64 (sA a b c d), .int .i64 (sB a b c d)] | _ => .bool true, fun ns => match ns with | [a, b, c, d] => B4 1048576 a b c d | _ => True⟩
def c_turned : Con := ⟨70, [.agg [.i64, .i64, .i64, .i64], .int .i64], fun ns => match ns with | [a, b, c, d, n] => .agg #[.int .i64 ((tn a b c d n).1), .int .i64 ((tn a b c d n).2.1), .int .i64 ((tn a b c d n).2.2.1), .int .i64 ((tn a b c d n).2.2.2)] | _ => .bool true, fun ns => match ns with | [a, b, c, d, n] => B4 1048576 a b c d | _ => True⟩
def c_sum : Con := ⟨102, [.agg [.i64, .i64, .i64, .i64], .agg [.i64, .i64, .i64, .i64]], fun ns => match ns with | [a, b, c, d, e, f, g, k] => .agg #[.int .i64 (IntKind.i64.wrap (a + e)), .int .i64 (IntKind.i64.wrap (b + f)), .int .i64 (IntKind.i64.wrap (c + g)), .int .i64 (IntKind.i64.wrap (d + k))] | _ => .bool true, fun ns => match ns with | [a, b, c, d, e, f, g, k] => True | _ => True⟩
def c_rroot : Con := ⟨25, [.agg [.i64, .i64, .i64, .i64], .agg [.i64, .i64, .i64, .i64]], fun ns => match ns with | [a, b, c, d, e, f, g, k] => .agg #[.int .i64 (-d), .int .i64 (c - d), .int .i64 (b), .int .i64 (b - a)] | _ => .bool true, fun ns => match ns with | [a, b, c, d, e, f, g, k] => B4 16777216 a b c d ∧ e = 0 ∧ f = 0 ∧ g = 0 ∧ k = -1 | _ => True⟩
def c_rturned : Con := ⟨26, [.agg [.i64, .i64, .i64, .i64], .int .i64], fun ns => match ns with | [a, b, c, d, n] => .agg #[.int .i64 ((tn a b c d n).1), .int .i64 ((tn a b c d n).2.1), .int .i64 ((tn a b c d n).2.2.1), .int .i64 ((tn a b c d n).2.2.2)] | _ => .bool true, fun ns => match ns with | [a, b, c, d, n] => B4 1048576 a b c d ∧ -100000 ≤ n ∧ n ≤ 100000 | _ => True⟩
def c_rstrength : Con := ⟨27, [.agg [.i64, .i64, .i64, .i64]], fun ns => match ns with | [a, b, c, d] => .agg #[.int .i64 (sA a b c d), .int .i64 (sB a b c d)] | _ => .bool true, fun ns => match ns with | [a, b, c, d] => B4 1048576 a b c d | _ => True⟩
def c_sign : Con := ⟨73, [.agg [.i64, .i64]], fun ns => match ns with | [a, b] => .int .i64 (sgn a b) | _ => .bool true, fun ns => match ns with | [a, b] => -1500000000 ≤ a ∧ a ≤ 1500000000 ∧ -1500000000 ≤ b ∧ b ≤ 1500000000 | _ => True⟩
def c_rsign : Con := ⟨29, [.agg [.i64, .i64]], fun ns => match ns with | [a, b] => .int .i64 (sgn a b) | _ => .bool true, fun ns => match ns with | [a, b] => -1500000000 ≤ a ∧ a ≤ 1500000000 ∧ -1500000000 ≤ b ∧ b ≤ 1500000000 | _ => True⟩
def c_rcheckRoot : Con := ⟨28, [.agg [.i64, .i64]], fun ns => match ns with | [a, b] => .int .i64 (Pl.parts a b 1073741824) | _ => .bool true, fun ns => match ns with | [a, b] => True | _ => True⟩
def c_hProd : Con := ⟨18, [.agg [.i64, .i64, .i64, .i64], .agg [.i64, .i64, .i64, .i64]], fun ns => match ns with | [a, b, c, d, e, f, g, k] => .tuple #[.agg #[.int .i64 (cz (two (cn a b c d) (cn e f g k)) (p1 a b c d e f g k)), .int .i64 (cz (two (cn a b c d) (cn e f g k)) (p2 a b c d e f g k)), .int .i64 (cz (two (cn a b c d) (cn e f g k)) (p3 a b c d e f g k)), .int .i64 (cz (two (cn a b c d) (cn e f g k)) (p4 a b c d e f g k))], .int .i64 (two (cn a b c d) (cn e f g k))] | _ => .bool true, fun ns => match ns with | [a, b, c, d, e, f, g, k] => True | _ => True⟩
def c_hTurn : Con := ⟨19, [.agg [.i64, .i64, .i64, .i64], .int .i64], fun ns => match ns with | [a, b, c, d, n] => .tuple #[.agg #[.int .i64 (cz (two (cn a b c d) (Pl.cr n (-100000) 100000)) ((tn a b c d n).1)), .int .i64 (cz (two (cn a b c d) (Pl.cr n (-100000) 100000)) ((tn a b c d n).2.1)), .int .i64 (cz (two (cn a b c d) (Pl.cr n (-100000) 100000)) ((tn a b c d n).2.2.1)), .int .i64 (cz (two (cn a b c d) (Pl.cr n (-100000) 100000)) ((tn a b c d n).2.2.2))], .int .i64 (two (cn a b c d) (Pl.cr n (-100000) 100000))] | _ => .bool true, fun ns => match ns with | [a, b, c, d, n] => True | _ => True⟩
def c_hStr : Con := ⟨20, [.agg [.i64, .i64, .i64, .i64]], fun ns => match ns with | [a, b, c, d] => .tuple #[.agg #[.int .i64 (cz (cn a b c d) (sA a b c d)), .int .i64 (cz (cn a b c d) (sB a b c d))], .int .i64 (cn a b c d)] | _ => .bool true, fun ns => match ns with | [a, b, c, d] => True | _ => True⟩
def c_hSign : Con := ⟨21, [.agg [.i64, .i64]], fun ns => match ns with | [a, b] => .tuple #[.int .i64 (cz (Pl.parts a b 1073741824) (sgn a b)), .int .i64 (Pl.parts a b 1073741824)] | _ => .bool true, fun ns => match ns with | [a, b] => True | _ => True⟩
def c_spectrum : Con := ⟨96, [.agg [.i64, .i64, .i64, .i64, .i64, .i64, .i64, .i64, .i64, .i64, .i64, .i64]], fun ns => match ns with | [x0, x1, x2, x3, x4, x5, x6, x7, x8, x9, x10, x11] => .agg #[.int .i64 (x0 + x1 + x2 + x3 + x4 + x5 + x6 + x7 + x8 + x9 + x10 + x11), .int .i64 (0), .int .i64 (0), .int .i64 (0), .int .i64 (x0 - x4 - x6 + x10), .int .i64 (-x2 - x4 + x8 + x10), .int .i64 (-x1 - x3 + x7 + x9), .int .i64 (-x1 + x5 + x7 - x11), .int .i64 (x0 - x2 - x3 + x5 + x6 - x8 - x9 + x11), .int .i64 (-x1 - x2 + x4 + x5 - x7 - x8 + x10 + x11), .int .i64 (0), .int .i64 (0), .int .i64 (x0 - x2 + x4 - x6 + x8 - x10), .int .i64 (0), .int .i64 (-x1 + x3 - x5 + x7 - x9 + x11), .int .i64 (0), .int .i64 (x0 - x1 + x3 - x4 + x6 - x7 + x9 - x10), .int .i64 (-x1 + x2 - x4 + x5 - x7 + x8 - x10 + x11), .int .i64 (0), .int .i64 (0), .int .i64 (x0 + x2 - x6 - x8), .int .i64 (x2 + x4 - x8 - x10), .int .i64 (-x3 - x5 + x9 + x11), .int .i64 (x1 - x5 - x7 + x11), .int .i64 (x0 - x1 + x2 - x3 + x4 - x5 + x6 - x7 + x8 - x9 + x10 - x11), .int .i64 (0), .int .i64 (0), .int .i64 (0), .int .i64 (x0 - x4 - x6 + x10), .int .i64 (-x2 - x4 + x8 + x10), .int .i64 (x1 + x3 - x7 - x9), .int .i64 (x1 - x5 - x7 + x11), .int .i64 (x0 - x2 + x3 - x5 + x6 - x8 + x9 - x11), .int .i64 (x1 - x2 + x4 - x5 + x7 - x8 + x10 - x11), .int .i64 (0), .int .i64 (0), .int .i64 (x0 - x2 + x4 - x6 + x8 - x10), .int .i64 (0), .int .i64 (x1 - x3 + x5 - x7 + x9 - x11), .int .i64 (0), .int .i64 (x0 + x1 - x3 - x4 + x6 + x7 - x9 - x10), .int .i64 (x1 + x2 - x4 - x5 + x7 + x8 - x10 - x11), .int .i64 (0), .int .i64 (0), .int .i64 (x0 + x2 - x6 - x8), .int .i64 (x2 + x4 - x8 - x10), .int .i64 (x3 + x5 - x9 - x11), .int .i64 (-x1 + x5 + x7 - x11)] | _ => .bool true, fun ns => match ns with | [x0, x1, x2, x3, x4, x5, x6, x7, x8, x9, x10, x11] => (-100 ≤ x0 ∧ x0 ≤ 100) ∧ (-100 ≤ x1 ∧ x1 ≤ 100) ∧ (-100 ≤ x2 ∧ x2 ≤ 100) ∧ (-100 ≤ x3 ∧ x3 ≤ 100) ∧ (-100 ≤ x4 ∧ x4 ≤ 100) ∧ (-100 ≤ x5 ∧ x5 ≤ 100) ∧ (-100 ≤ x6 ∧ x6 ≤ 100) ∧ (-100 ≤ x7 ∧ x7 ≤ 100) ∧ (-100 ≤ x8 ∧ x8 ≤ 100) ∧ (-100 ≤ x9 ∧ x9 ≤ 100) ∧ (-100 ≤ x10 ∧ x10 ≤ 100) ∧ (-100 ≤ x11 ∧ x11 ≤ 100) | _ => True⟩
noncomputable def x_range : CallS := kAll []
noncomputable def range_e0 (n lo hi : Int) : Option OutS := evFS Tryz.prog x_range 1000 72 #[.int .i64 n, .int .i64 lo, .int .i64 hi] (noTabs 7) ⟨[0, 0, 0, 1, 1], True⟩
noncomputable def range_e1 (n lo hi : Int) : Option OutS := evFS Tryz.prog x_range 1000 72 #[.int .i64 n, .int .i64 lo, .int .i64 hi] (noTabs 7) ⟨[1, 1, 1, 0, 0], True⟩
noncomputable def range_e2 (n lo hi : Int) : Option OutS := evFS Tryz.prog x_range 1000 72 #[.int .i64 n, .int .i64 lo, .int .i64 hi] (noTabs 7) ⟨[1, 1, 1, 0, 1], True⟩
noncomputable def x_rrange : CallS := kAll []
noncomputable def rrange_e0 (n lo hi : Int) : Option OutS := evFS Tryz.prog x_rrange 1000 24 #[.int .i64 n, .int .i64 lo, .int .i64 hi] (noTabs 7) ⟨[0, 0, 0, 1, 1], True⟩
noncomputable def rrange_e1 (n lo hi : Int) : Option OutS := evFS Tryz.prog x_rrange 1000 24 #[.int .i64 n, .int .i64 lo, .int .i64 hi] (noTabs 7) ⟨[1, 1, 1, 0, 1], True⟩
noncomputable def rrange_e2 (n lo hi : Int) : Option OutS := evFS Tryz.prog x_rrange 1000 24 #[.int .i64 n, .int .i64 lo, .int .i64 hi] (noTabs 7) ⟨[1, 1, 1, 0, 0], True⟩
noncomputable def x_checkEisen : CallS := kAll [c_range]
noncomputable def checkEisen_e0 (a b : Int) : Option OutS := evFS Tryz.prog x_checkEisen 1000 134 #[.agg #[.int .i64 a, .int .i64 b]] (noTabs 7) ⟨[1, 0, 0, 1, 1, 0, 0], True⟩
noncomputable def checkEisen_e1 (a b : Int) : Option OutS := evFS Tryz.prog x_checkEisen 1000 134 #[.agg #[.int .i64 a, .int .i64 b]] (noTabs 7) ⟨[1, 0, 1], True⟩
noncomputable def checkEisen_e2 (a b : Int) : Option OutS := evFS Tryz.prog x_checkEisen 1000 134 #[.agg #[.int .i64 a, .int .i64 b]] (noTabs 7) ⟨[1, 0, 0, 1, 1, 1], True⟩
noncomputable def x_checkNumber : CallS := kAll [c_checkEisen]
noncomputable def checkNumber_e0 (a b c d : Int) : Option OutS := evFS Tryz.prog x_checkNumber 1000 67 #[.agg #[.int .i64 a, .int .i64 b, .int .i64 c, .int .i64 d]] (noTabs 7) ⟨[1, 0, 0, 1, 1, 1], True⟩
noncomputable def checkNumber_e1 (a b c d : Int) : Option OutS := evFS Tryz.prog x_checkNumber 1000 67 #[.agg #[.int .i64 a, .int .i64 b, .int .i64 c, .int .i64 d]] (noTabs 7) ⟨[1, 0, 0, 1, 1, 0, 0], True⟩
noncomputable def checkNumber_e2 (a b c d : Int) : Option OutS := evFS Tryz.prog x_checkNumber 1000 67 #[.agg #[.int .i64 a, .int .i64 b, .int .i64 c, .int .i64 d]] (noTabs 7) ⟨[1, 0, 1], True⟩
noncomputable def x_rcheckCyclo : CallS := kAll [c_rrange]
noncomputable def rcheckCyclo_e0 (a b c d : Int) : Option OutS := evFS Tryz.prog x_rcheckCyclo 1000 22 #[.agg #[.int .i64 a, .int .i64 b, .int .i64 c, .int .i64 d]] (noTabs 7) ⟨[1, 0, 0, 1, 1, 0, 1, 2, 0, 1, 3, 0, 0], True⟩
noncomputable def rcheckCyclo_e1 (a b c d : Int) : Option OutS := evFS Tryz.prog x_rcheckCyclo 1000 22 #[.agg #[.int .i64 a, .int .i64 b, .int .i64 c, .int .i64 d]] (noTabs 7) ⟨[1, 0, 0, 1, 1, 0, 1, 2, 1, 2], True⟩
noncomputable def rcheckCyclo_e2 (a b c d : Int) : Option OutS := evFS Tryz.prog x_rcheckCyclo 1000 22 #[.agg #[.int .i64 a, .int .i64 b, .int .i64 c, .int .i64 d]] (noTabs 7) ⟨[1, 0, 0, 1, 1, 1, 1], True⟩
noncomputable def rcheckCyclo_e3 (a b c d : Int) : Option OutS := evFS Tryz.prog x_rcheckCyclo 1000 22 #[.agg #[.int .i64 a, .int .i64 b, .int .i64 c, .int .i64 d]] (noTabs 7) ⟨[1, 0, 1, 0], True⟩
noncomputable def rcheckCyclo_e4 (a b c d : Int) : Option OutS := evFS Tryz.prog x_rcheckCyclo 1000 22 #[.agg #[.int .i64 a, .int .i64 b, .int .i64 c, .int .i64 d]] (noTabs 7) ⟨[1, 0, 0, 1, 1, 0, 1, 2, 0, 1, 3, 1, 3], True⟩
noncomputable def x_product : CallS := kAll []
noncomputable def product_e0 (a b c d e f g k : Int) : Option OutS := evFS Tryz.prog x_product 1000 68 #[.agg #[.int .i64 a, .int .i64 b, .int .i64 c, .int .i64 d], .agg #[.int .i64 e, .int .i64 f, .int .i64 g, .int .i64 k]] (noTabs 7) ⟨[], True⟩
noncomputable def x_rproduct : CallS := kAll []
noncomputable def rproduct_e0 (a b c d e f g k : Int) : Option OutS := evFS Tryz.prog x_rproduct 1000 25 #[.agg #[.int .i64 a, .int .i64 b, .int .i64 c, .int .i64 d], .agg #[.int .i64 e, .int .i64 f, .int .i64 g, .int .i64 k]] (noTabs 7) ⟨[], True⟩
noncomputable def x_strength : CallS := kAll []
noncomputable def strength_e0 (a b c d : Int) : Option OutS := evFS Tryz.prog x_strength 1000 71 #[.agg #[.int .i64 a, .int .i64 b, .int .i64 c, .int .i64 d]] (noTabs 7) ⟨[], True⟩
noncomputable def x_turned : CallS := kAll [c_product]
noncomputable def turned_e0 (a b c d n : Int) : Option OutS := evFS Tryz.prog x_turned 1000 70 #[.agg #[.int .i64 a, .int .i64 b, .int .i64 c, .int .i64 d], .int .i64 n] T0 ⟨[10], True⟩
noncomputable def turned_e1 (a b c d n : Int) : Option OutS := evFS Tryz.prog x_turned 1000 70 #[.agg #[.int .i64 a, .int .i64 b, .int .i64 c, .int .i64 d], .int .i64 n] T0 ⟨[11], True⟩
noncomputable def turned_e2 (a b c d n : Int) : Option OutS := evFS Tryz.prog x_turned 1000 70 #[.agg #[.int .i64 a, .int .i64 b, .int .i64 c, .int .i64 d], .int .i64 n] T0 ⟨[0], True⟩
noncomputable def turned_e3 (a b c d n : Int) : Option OutS := evFS Tryz.prog x_turned 1000 70 #[.agg #[.int .i64 a, .int .i64 b, .int .i64 c, .int .i64 d], .int .i64 n] T0 ⟨[1], True⟩
noncomputable def turned_e4 (a b c d n : Int) : Option OutS := evFS Tryz.prog x_turned 1000 70 #[.agg #[.int .i64 a, .int .i64 b, .int .i64 c, .int .i64 d], .int .i64 n] T0 ⟨[2], True⟩
noncomputable def turned_e5 (a b c d n : Int) : Option OutS := evFS Tryz.prog x_turned 1000 70 #[.agg #[.int .i64 a, .int .i64 b, .int .i64 c, .int .i64 d], .int .i64 n] T0 ⟨[3], True⟩
noncomputable def turned_e6 (a b c d n : Int) : Option OutS := evFS Tryz.prog x_turned 1000 70 #[.agg #[.int .i64 a, .int .i64 b, .int .i64 c, .int .i64 d], .int .i64 n] T0 ⟨[4], True⟩
noncomputable def turned_e7 (a b c d n : Int) : Option OutS := evFS Tryz.prog x_turned 1000 70 #[.agg #[.int .i64 a, .int .i64 b, .int .i64 c, .int .i64 d], .int .i64 n] T0 ⟨[5], True⟩
noncomputable def turned_e8 (a b c d n : Int) : Option OutS := evFS Tryz.prog x_turned 1000 70 #[.agg #[.int .i64 a, .int .i64 b, .int .i64 c, .int .i64 d], .int .i64 n] T0 ⟨[6], True⟩
noncomputable def turned_e9 (a b c d n : Int) : Option OutS := evFS Tryz.prog x_turned 1000 70 #[.agg #[.int .i64 a, .int .i64 b, .int .i64 c, .int .i64 d], .int .i64 n] T0 ⟨[7], True⟩
noncomputable def turned_e10 (a b c d n : Int) : Option OutS := evFS Tryz.prog x_turned 1000 70 #[.agg #[.int .i64 a, .int .i64 b, .int .i64 c, .int .i64 d], .int .i64 n] T0 ⟨[8], True⟩
noncomputable def turned_e11 (a b c d n : Int) : Option OutS := evFS Tryz.prog x_turned 1000 70 #[.agg #[.int .i64 a, .int .i64 b, .int .i64 c, .int .i64 d], .int .i64 n] T0 ⟨[9], True⟩
noncomputable def x_sum : CallS := kAll []
noncomputable def sum_e0 (a b c d e f g k : Int) : Option OutS := evFS Tryz.prog x_sum 1000 102 #[.agg #[.int .i64 a, .int .i64 b, .int .i64 c, .int .i64 d], .agg #[.int .i64 e, .int .i64 f, .int .i64 g, .int .i64 k]] (noTabs 7) ⟨[], True⟩
noncomputable def x_rturned : CallS := kAll [c_rroot]
noncomputable def rturned_e0 (a b c d n : Int) : Option OutS := evFS Tryz.prog x_rturned 1000 26 #[.agg #[.int .i64 a, .int .i64 b, .int .i64 c, .int .i64 d], .int .i64 n] (noTabs 7) ⟨[1, 1, 1, 1, 1, 1, 1, 1, 1, 1, 1, 1, 1, 1, 1, 1, 1, 1, 1, 1, 1, 1, 1, 0], True⟩
noncomputable def rturned_e1 (a b c d n : Int) : Option OutS := evFS Tryz.prog x_rturned 1000 26 #[.agg #[.int .i64 a, .int .i64 b, .int .i64 c, .int .i64 d], .int .i64 n] (noTabs 7) ⟨[0, 0], True⟩
noncomputable def rturned_e2 (a b c d n : Int) : Option OutS := evFS Tryz.prog x_rturned 1000 26 #[.agg #[.int .i64 a, .int .i64 b, .int .i64 c, .int .i64 d], .int .i64 n] (noTabs 7) ⟨[1, 1, 1, 0], True⟩
noncomputable def rturned_e3 (a b c d n : Int) : Option OutS := evFS Tryz.prog x_rturned 1000 26 #[.agg #[.int .i64 a, .int .i64 b, .int .i64 c, .int .i64 d], .int .i64 n] (noTabs 7) ⟨[1, 1, 1, 1, 1, 0], True⟩
noncomputable def rturned_e4 (a b c d n : Int) : Option OutS := evFS Tryz.prog x_rturned 1000 26 #[.agg #[.int .i64 a, .int .i64 b, .int .i64 c, .int .i64 d], .int .i64 n] (noTabs 7) ⟨[1, 1, 1, 1, 1, 1, 1, 0], True⟩
noncomputable def rturned_e5 (a b c d n : Int) : Option OutS := evFS Tryz.prog x_rturned 1000 26 #[.agg #[.int .i64 a, .int .i64 b, .int .i64 c, .int .i64 d], .int .i64 n] (noTabs 7) ⟨[1, 1, 1, 1, 1, 1, 1, 1, 1, 0], True⟩
noncomputable def rturned_e6 (a b c d n : Int) : Option OutS := evFS Tryz.prog x_rturned 1000 26 #[.agg #[.int .i64 a, .int .i64 b, .int .i64 c, .int .i64 d], .int .i64 n] (noTabs 7) ⟨[1, 1, 1, 1, 1, 1, 1, 1, 1, 1, 1, 0], True⟩
noncomputable def rturned_e7 (a b c d n : Int) : Option OutS := evFS Tryz.prog x_rturned 1000 26 #[.agg #[.int .i64 a, .int .i64 b, .int .i64 c, .int .i64 d], .int .i64 n] (noTabs 7) ⟨[1, 1, 1, 1, 1, 1, 1, 1, 1, 1, 1, 1, 1, 0], True⟩
noncomputable def rturned_e8 (a b c d n : Int) : Option OutS := evFS Tryz.prog x_rturned 1000 26 #[.agg #[.int .i64 a, .int .i64 b, .int .i64 c, .int .i64 d], .int .i64 n] (noTabs 7) ⟨[1, 1, 1, 1, 1, 1, 1, 1, 1, 1, 1, 1, 1, 1, 1, 0], True⟩
noncomputable def rturned_e9 (a b c d n : Int) : Option OutS := evFS Tryz.prog x_rturned 1000 26 #[.agg #[.int .i64 a, .int .i64 b, .int .i64 c, .int .i64 d], .int .i64 n] (noTabs 7) ⟨[1, 1, 1, 1, 1, 1, 1, 1, 1, 1, 1, 1, 1, 1, 1, 1, 1, 0], True⟩
noncomputable def rturned_e10 (a b c d n : Int) : Option OutS := evFS Tryz.prog x_rturned 1000 26 #[.agg #[.int .i64 a, .int .i64 b, .int .i64 c, .int .i64 d], .int .i64 n] (noTabs 7) ⟨[1, 1, 1, 1, 1, 1, 1, 1, 1, 1, 1, 1, 1, 1, 1, 1, 1, 1, 1, 0], True⟩
noncomputable def rturned_e11 (a b c d n : Int) : Option OutS := evFS Tryz.prog x_rturned 1000 26 #[.agg #[.int .i64 a, .int .i64 b, .int .i64 c, .int .i64 d], .int .i64 n] (noTabs 7) ⟨[1, 1, 1, 1, 1, 1, 1, 1, 1, 1, 1, 1, 1, 1, 1, 1, 1, 1, 1, 1, 1, 0], True⟩
noncomputable def rturned_e12 (a b c d n : Int) : Option OutS := evFS Tryz.prog x_rturned 1000 26 #[.agg #[.int .i64 a, .int .i64 b, .int .i64 c, .int .i64 d], .int .i64 n] (noTabs 7) ⟨[0, 1, 0, 0], True⟩
noncomputable def rturned_e13 (a b c d n : Int) : Option OutS := evFS Tryz.prog x_rturned 1000 26 #[.agg #[.int .i64 a, .int .i64 b, .int .i64 c, .int .i64 d], .int .i64 n] (noTabs 7) ⟨[0, 1, 0, 1, 0, 0], True⟩
noncomputable def rturned_e14 (a b c d n : Int) : Option OutS := evFS Tryz.prog x_rturned 1000 26 #[.agg #[.int .i64 a, .int .i64 b, .int .i64 c, .int .i64 d], .int .i64 n] (noTabs 7) ⟨[0, 1, 0, 1, 0, 1, 0, 0], True⟩
noncomputable def rturned_e15 (a b c d n : Int) : Option OutS := evFS Tryz.prog x_rturned 1000 26 #[.agg #[.int .i64 a, .int .i64 b, .int .i64 c, .int .i64 d], .int .i64 n] (noTabs 7) ⟨[0, 1, 0, 1, 0, 1, 0, 1, 0, 0], True⟩
noncomputable def rturned_e16 (a b c d n : Int) : Option OutS := evFS Tryz.prog x_rturned 1000 26 #[.agg #[.int .i64 a, .int .i64 b, .int .i64 c, .int .i64 d], .int .i64 n] (noTabs 7) ⟨[0, 1, 0, 1, 0, 1, 0, 1, 0, 1, 0, 0], True⟩
noncomputable def rturned_e17 (a b c d n : Int) : Option OutS := evFS Tryz.prog x_rturned 1000 26 #[.agg #[.int .i64 a, .int .i64 b, .int .i64 c, .int .i64 d], .int .i64 n] (noTabs 7) ⟨[0, 1, 0, 1, 0, 1, 0, 1, 0, 1, 0, 1, 0, 0], True⟩
noncomputable def rturned_e18 (a b c d n : Int) : Option OutS := evFS Tryz.prog x_rturned 1000 26 #[.agg #[.int .i64 a, .int .i64 b, .int .i64 c, .int .i64 d], .int .i64 n] (noTabs 7) ⟨[0, 1, 0, 1, 0, 1, 0, 1, 0, 1, 0, 1, 0, 1, 0, 0], True⟩
noncomputable def rturned_e19 (a b c d n : Int) : Option OutS := evFS Tryz.prog x_rturned 1000 26 #[.agg #[.int .i64 a, .int .i64 b, .int .i64 c, .int .i64 d], .int .i64 n] (noTabs 7) ⟨[0, 1, 0, 1, 0, 1, 0, 1, 0, 1, 0, 1, 0, 1, 0, 1, 0, 0], True⟩
noncomputable def rturned_e20 (a b c d n : Int) : Option OutS := evFS Tryz.prog x_rturned 1000 26 #[.agg #[.int .i64 a, .int .i64 b, .int .i64 c, .int .i64 d], .int .i64 n] (noTabs 7) ⟨[0, 1, 0, 1, 0, 1, 0, 1, 0, 1, 0, 1, 0, 1, 0, 1, 0, 1, 0, 0], True⟩
noncomputable def rturned_e21 (a b c d n : Int) : Option OutS := evFS Tryz.prog x_rturned 1000 26 #[.agg #[.int .i64 a, .int .i64 b, .int .i64 c, .int .i64 d], .int .i64 n] (noTabs 7) ⟨[0, 1, 0, 1, 0, 1, 0, 1, 0, 1, 0, 1, 0, 1, 0, 1, 0, 1, 0, 1, 0, 0], True⟩
noncomputable def rturned_e22 (a b c d n : Int) : Option OutS := evFS Tryz.prog x_rturned 1000 26 #[.agg #[.int .i64 a, .int .i64 b, .int .i64 c, .int .i64 d], .int .i64 n] (noTabs 7) ⟨[0, 1, 0, 1, 0, 1, 0, 1, 0, 1, 0, 1, 0, 1, 0, 1, 0, 1, 0, 1, 0, 1, 0, 0], True⟩
noncomputable def x_rstrength : CallS := kAll []
noncomputable def rstrength_e0 (a b c d : Int) : Option OutS := evFS Tryz.prog x_rstrength 1000 27 #[.agg #[.int .i64 a, .int .i64 b, .int .i64 c, .int .i64 d]] (noTabs 7) ⟨[], True⟩
noncomputable def x_sign : CallS := kAll []
noncomputable def sign_e0 (a b : Int) : Option OutS := evFS Tryz.prog x_sign 1000 73 #[.agg #[.int .i64 a, .int .i64 b]] (noTabs 7) ⟨[0, 0, 1, 0, 0, 1, 0, 0, 0, 0, 0, 0, 0, 0, 0, 0, 0, 0, 0, 0, 1, 0, 1], True⟩
noncomputable def sign_e1 (a b : Int) : Option OutS := evFS Tryz.prog x_sign 1000 73 #[.agg #[.int .i64 a, .int .i64 b]] (noTabs 7) ⟨[0, 0, 1, 0, 0, 0, 0, 0, 0, 0, 0, 0, 0, 0, 0, 0, 0, 0, 0, 0, 0, 1, 0, 0, 1, 1, 1], True⟩
noncomputable def sign_e2 (a b : Int) : Option OutS := evFS Tryz.prog x_sign 1000 73 #[.agg #[.int .i64 a, .int .i64 b]] (noTabs 7) ⟨[0, 0, 1, 0, 0, 0, 1, 1, 1, 1, 1, 1, 1, 1, 1, 1, 1, 1, 1, 1, 1], True⟩
noncomputable def sign_e3 (a b : Int) : Option OutS := evFS Tryz.prog x_sign 1000 73 #[.agg #[.int .i64 a, .int .i64 b]] (noTabs 7) ⟨[0, 0, 1, 0, 0, 0, 1, 1, 1, 1, 1, 1, 1, 1, 1, 1, 1, 1, 1, 1, 0, 1, 0, 1], True⟩
noncomputable def sign_e4 (a b : Int) : Option OutS := evFS Tryz.prog x_sign 1000 73 #[.agg #[.int .i64 a, .int .i64 b]] (noTabs 7) ⟨[0, 0, 0, 0, 0, 0, 1, 0, 0, 0, 0, 0, 0, 0, 0, 0, 0, 0, 0, 0, 0, 1, 0, 1], True⟩
noncomputable def sign_e5 (a b : Int) : Option OutS := evFS Tryz.prog x_sign 1000 73 #[.agg #[.int .i64 a, .int .i64 b]] (noTabs 7) ⟨[0, 0, 0, 0, 0, 0, 0, 0, 1, 1, 1, 1, 1, 1, 1, 1, 1, 1, 1, 1, 1, 0, 1, 0, 0, 1, 1, 0, 0], True⟩
noncomputable def sign_e6 (a b : Int) : Option OutS := evFS Tryz.prog x_sign 1000 73 #[.agg #[.int .i64 a, .int .i64 b]] (noTabs 7) ⟨[0, 0, 0, 0, 0, 0, 0, 1, 0, 0, 0, 0, 0, 0, 0, 0, 0, 0, 0, 0, 0, 0, 1, 0, 1], True⟩
noncomputable def sign_e7 (a b : Int) : Option OutS := evFS Tryz.prog x_sign 1000 73 #[.agg #[.int .i64 a, .int .i64 b]] (noTabs 7) ⟨[0, 0, 0, 1, 0, 0, 1, 1, 1, 1, 1, 1, 1, 1, 1, 1, 1, 1, 1, 1, 0, 1, 0, 1], True⟩
noncomputable def sign_e8 (a b : Int) : Option OutS := evFS Tryz.prog x_sign 1000 73 #[.agg #[.int .i64 a, .int .i64 b]] (noTabs 7) ⟨[0, 0, 0, 1, 0, 0, 0, 0, 0, 0, 0, 0, 0, 0, 0, 0, 0, 0, 0, 0, 0, 0, 1, 0, 0, 1, 1, 1], True⟩
noncomputable def sign_e9 (a b : Int) : Option OutS := evFS Tryz.prog x_sign 1000 73 #[.agg #[.int .i64 a, .int .i64 b]] (noTabs 7) ⟨[0, 0, 0, 1, 0, 0, 0, 1, 0, 0, 0, 0, 0, 0, 0, 0, 0, 0, 0, 0, 0, 0, 1, 0, 1], True⟩
noncomputable def sign_e10 (a b : Int) : Option OutS := evFS Tryz.prog x_sign 1000 73 #[.agg #[.int .i64 a, .int .i64 b]] (noTabs 7) ⟨[0, 0, 0, 1, 0, 0, 1, 1, 1, 1, 1, 1, 1, 1, 1, 1, 1, 1, 1, 1, 1], True⟩
noncomputable def x_rsign : CallS := kAll []
noncomputable def rsign_e0 (a b : Int) : Option OutS := evFS Tryz.prog x_rsign 1000 29 #[.agg #[.int .i64 a, .int .i64 b]] (noTabs 7) ⟨[0, 0, 0, 0, 0, 0, 0, 0, 0, 1, 1, 1, 1, 0, 0, 0, 1, 0, 0, 1, 1, 1, 1, 0, 0, 0, 1, 0, 0, 0], True⟩
noncomputable def rsign_e1 (a b : Int) : Option OutS := evFS Tryz.prog x_rsign 1000 29 #[.agg #[.int .i64 a, .int .i64 b]] (noTabs 7) ⟨[0, 0, 0, 0, 0, 0, 0, 0, 0, 1, 1, 1, 1, 0, 0, 0, 1, 0, 0, 1, 1, 1, 1, 1, 1, 1, 1, 1, 0, 0], True⟩
noncomputable def rsign_e2 (a b : Int) : Option OutS := evFS Tryz.prog x_rsign 1000 29 #[.agg #[.int .i64 a, .int .i64 b]] (noTabs 7) ⟨[0, 0, 0, 0, 0, 0, 0, 0, 0, 1, 1, 1, 1, 0, 0, 0, 1, 0, 0, 1, 1, 1, 1, 1, 1, 1, 1, 1, 0, 1], True⟩
noncomputable def rsign_e3 (a b : Int) : Option OutS := evFS Tryz.prog x_rsign 1000 29 #[.agg #[.int .i64 a, .int .i64 b]] (noTabs 7) ⟨[1, 1, 1, 1, 0, 1, 1, 1, 1, 1, 1, 1, 1, 0, 0, 0, 1, 0, 0, 1, 1, 1, 1, 0, 0, 0, 1, 0, 0, 0], True⟩
noncomputable def rsign_e4 (a b : Int) : Option OutS := evFS Tryz.prog x_rsign 1000 29 #[.agg #[.int .i64 a, .int .i64 b]] (noTabs 7) ⟨[1, 1, 1, 1, 1], True⟩
noncomputable def rsign_e5 (a b : Int) : Option OutS := evFS Tryz.prog x_rsign 1000 29 #[.agg #[.int .i64 a, .int .i64 b]] (noTabs 7) ⟨[1, 1, 1, 1, 0, 1, 1, 1, 1, 0, 0, 0, 0, 0, 0, 0, 0, 1, 0, 0, 0, 0, 0, 0, 0, 0, 1, 1], True⟩
noncomputable def rsign_e6 (a b : Int) : Option OutS := evFS Tryz.prog x_rsign 1000 29 #[.agg #[.int .i64 a, .int .i64 b]] (noTabs 7) ⟨[0, 0, 0, 0, 0, 1, 1, 1, 1, 1, 1, 1, 1, 1, 1, 1, 1, 1, 0, 1, 1, 1, 1, 0, 0, 0, 1, 0, 0, 0], True⟩
noncomputable def rsign_e7 (a b : Int) : Option OutS := evFS Tryz.prog x_rsign 1000 29 #[.agg #[.int .i64 a, .int .i64 b]] (noTabs 7) ⟨[0, 0, 0, 0, 0, 1, 1, 1, 1, 0, 0, 0, 0, 0, 0, 0, 0, 1, 0, 0, 0, 0, 0, 0, 0, 0, 1, 1], True⟩
noncomputable def rsign_e8 (a b : Int) : Option OutS := evFS Tryz.prog x_rsign 1000 29 #[.agg #[.int .i64 a, .int .i64 b]] (noTabs 7) ⟨[0, 0, 0, 0, 0, 1, 1, 1, 1, 1, 1, 1, 1, 1, 1, 1, 1, 1, 0, 0, 0, 0, 0, 0, 0, 0, 0, 1, 1], True⟩
noncomputable def x_rcheckRoot : CallS := kAll [c_rrange]
noncomputable def rcheckRoot_e0 (a b : Int) : Option OutS := evFS Tryz.prog x_rcheckRoot 1000 28 #[.agg #[.int .i64 a, .int .i64 b]] (noTabs 7) ⟨[1, 0, 0, 1, 1, 0, 0], True⟩
noncomputable def rcheckRoot_e1 (a b : Int) : Option OutS := evFS Tryz.prog x_rcheckRoot 1000 28 #[.agg #[.int .i64 a, .int .i64 b]] (noTabs 7) ⟨[1, 0, 0, 1, 1, 1, 1], True⟩
noncomputable def rcheckRoot_e2 (a b : Int) : Option OutS := evFS Tryz.prog x_rcheckRoot 1000 28 #[.agg #[.int .i64 a, .int .i64 b]] (noTabs 7) ⟨[1, 0, 1, 0], True⟩
noncomputable def x_hProd : CallS := kAll [c_checkNumber, c_product]
noncomputable def hProd_e0 (a b c d e f g k : Int) : Option OutS := evFS Tryz.prog x_hProd 1000 18 #[.agg #[.int .i64 a, .int .i64 b, .int .i64 c, .int .i64 d], .agg #[.int .i64 e, .int .i64 f, .int .i64 g, .int .i64 k]] (noTabs 7) ⟨[1, 0, 0, 1, 1, 0, 0, 0], True⟩
noncomputable def hProd_e1 (a b c d e f g k : Int) : Option OutS := evFS Tryz.prog x_hProd 1000 18 #[.agg #[.int .i64 a, .int .i64 b, .int .i64 c, .int .i64 d], .agg #[.int .i64 e, .int .i64 f, .int .i64 g, .int .i64 k]] (noTabs 7) ⟨[1, 0, 0, 1, 1, 1, 1], True⟩
noncomputable def hProd_e2 (a b c d e f g k : Int) : Option OutS := evFS Tryz.prog x_hProd 1000 18 #[.agg #[.int .i64 a, .int .i64 b, .int .i64 c, .int .i64 d], .agg #[.int .i64 e, .int .i64 f, .int .i64 g, .int .i64 k]] (noTabs 7) ⟨[1, 0, 1, 1], True⟩
noncomputable def x_hTurn : CallS := bothX (kAllT T0 [c_turned]) (kAll [c_checkNumber, c_range])
noncomputable def hTurn_e0 (a b c d n : Int) : Option OutS := evFS Tryz.prog x_hTurn 1000 19 #[.agg #[.int .i64 a, .int .i64 b, .int .i64 c, .int .i64 d], .int .i64 n] T0 ⟨[1, 0, 0, 1, 1, 0, 0, 0], True⟩
noncomputable def hTurn_e1 (a b c d n : Int) : Option OutS := evFS Tryz.prog x_hTurn 1000 19 #[.agg #[.int .i64 a, .int .i64 b, .int .i64 c, .int .i64 d], .int .i64 n] T0 ⟨[1, 0, 0, 1, 1, 1, 1], True⟩
noncomputable def hTurn_e2 (a b c d n : Int) : Option OutS := evFS Tryz.prog x_hTurn 1000 19 #[.agg #[.int .i64 a, .int .i64 b, .int .i64 c, .int .i64 d], .int .i64 n] T0 ⟨[1, 0, 1, 1], True⟩
noncomputable def x_hStr : CallS := kAll [c_checkNumber, c_strength]
noncomputable def hStr_e0 (a b c d : Int) : Option OutS := evFS Tryz.prog x_hStr 1000 20 #[.agg #[.int .i64 a, .int .i64 b, .int .i64 c, .int .i64 d]] (noTabs 7) ⟨[0], True⟩
noncomputable def hStr_e1 (a b c d : Int) : Option OutS := evFS Tryz.prog x_hStr 1000 20 #[.agg #[.int .i64 a, .int .i64 b, .int .i64 c, .int .i64 d]] (noTabs 7) ⟨[1], True⟩
noncomputable def x_hSign : CallS := kAll [c_range, c_sign]
noncomputable def hSign_e0 (a b : Int) : Option OutS := evFS Tryz.prog x_hSign 1000 21 #[.agg #[.int .i64 a, .int .i64 b]] (noTabs 7) ⟨[1, 0, 0, 1, 1, 0, 0, 0], True⟩
noncomputable def hSign_e1 (a b : Int) : Option OutS := evFS Tryz.prog x_hSign 1000 21 #[.agg #[.int .i64 a, .int .i64 b]] (noTabs 7) ⟨[1, 0, 0, 1, 1, 1, 1], True⟩
noncomputable def hSign_e2 (a b : Int) : Option OutS := evFS Tryz.prog x_hSign 1000 21 #[.agg #[.int .i64 a, .int .i64 b]] (noTabs 7) ⟨[1, 0, 1, 1], True⟩
noncomputable def x_spectrum : CallS := kAll [c_product, c_sum]
noncomputable def spectrum_e0 (x0 x1 x2 x3 x4 x5 x6 x7 x8 x9 x10 x11 : Int) : Option OutS := evFS Tryz.prog x_spectrum 1000 96 #[.agg #[.int .i64 x0, .int .i64 x1, .int .i64 x2, .int .i64 x3, .int .i64 x4, .int .i64 x5, .int .i64 x6, .int .i64 x7, .int .i64 x8, .int .i64 x9, .int .i64 x10, .int .i64 x11]] T0 ⟨[1, 0, 0, 1, 1, 1, 1, 2, 2, 1, 3, 3, 1, 4, 4, 1, 5, 5, 1, 6, 6, 1, 7, 7, 1, 8, 8, 1, 9, 9, 1, 10, 10, 1, 11, 11, 0, 1, 1, 0, 0, 0, 0, 1, 0, 1, 0, 0, 1, 0, 2, 0, 0, 1, 0, 3, 0, 0, 1, 0, 4, 0, 0, 1, 0, 5, 0, 0, 1, 0, 6, 0, 0, 1, 0, 7, 0, 0, 1, 0, 8, 0, 0, 1, 0, 9, 0, 0, 1, 0, 10, 0, 0, 1, 0, 11, 0, 0, 0, 1, 1, 1, 0, 0, 1, 1, 1, 1, 11, 1, 1, 1, 2, 10, 1, 1, 1, 3, 9, 1, 1, 1, 4, 8, 1, 1, 1, 5, 7, 1, 1, 1, 6, 6, 1, 1, 1, 7, 5, 1, 1, 1, 8, 4, 1, 1, 1, 9, 3, 1, 1, 1, 10, 2, 1, 1, 1, 11, 1, 1, 0, 1, 1, 2, 0, 0, 2, 1, 2, 1, 10, 2, 1, 2, 2, 8, 2, 1, 2, 3, 6, 2, 1, 2, 4, 4, 2, 1, 2, 5, 2, 2, 1, 2, 6, 0, 2, 1, 2, 7, 10, 2, 1, 2, 8, 8, 2, 1, 2, 9, 6, 2, 1, 2, 10, 4, 2, 1, 2, 11, 2, 2, 0, 1, 1, 3, 0, 0, 3, 1, 3, 1, 9, 3, 1, 3, 2, 6, 3, 1, 3, 3, 3, 3, 1, 3, 4, 0, 3, 1, 3, 5, 9, 3, 1, 3, 6, 6, 3, 1, 3, 7, 3, 3, 1, 3, 8, 0, 3, 1, 3, 9, 9, 3, 1, 3, 10, 6, 3, 1, 3, 11, 3, 3, 0, 1, 1, 4, 0, 0, 4, 1, 4, 1, 8, 4, 1, 4, 2, 4, 4, 1, 4, 3, 0, 4, 1, 4, 4, 8, 4, 1, 4, 5, 4, 4, 1, 4, 6, 0, 4, 1, 4, 7, 8, 4, 1, 4, 8, 4, 4, 1, 4, 9, 0, 4, 1, 4, 10, 8, 4, 1, 4, 11, 4, 4, 0, 1, 1, 5, 0, 0, 5, 1, 5, 1, 7, 5, 1, 5, 2, 2, 5, 1, 5, 3, 9, 5, 1, 5, 4, 4, 5, 1, 5, 5, 11, 5, 1, 5, 6, 6, 5, 1, 5, 7, 1, 5, 1, 5, 8, 8, 5, 1, 5, 9, 3, 5, 1, 5, 10, 10, 5, 1, 5, 11, 5, 5, 0, 1, 1, 6, 0, 0, 6, 1, 6, 1, 6, 6, 1, 6, 2, 0, 6, 1, 6, 3, 6, 6, 1, 6, 4, 0, 6, 1, 6, 5, 6, 6, 1, 6, 6, 0, 6, 1, 6, 7, 6, 6, 1, 6, 8, 0, 6, 1, 6, 9, 6, 6, 1, 6, 10, 0, 6, 1, 6, 11, 6, 6, 0, 1, 1, 7, 0, 0, 7, 1, 7, 1, 5, 7, 1, 7, 2, 10, 7, 1, 7, 3, 3, 7, 1, 7, 4, 8, 7, 1, 7, 5, 1, 7, 1, 7, 6, 6, 7, 1, 7, 7, 11, 7, 1, 7, 8, 4, 7, 1, 7, 9, 9, 7, 1, 7, 10, 2, 7, 1, 7, 11, 7, 7, 0, 1, 1, 8, 0, 0, 8, 1, 8, 1, 4, 8, 1, 8, 2, 8, 8, 1, 8, 3, 0, 8, 1, 8, 4, 4, 8, 1, 8, 5, 8, 8, 1, 8, 6, 0, 8, 1, 8, 7, 4, 8, 1, 8, 8, 8, 8, 1, 8, 9, 0, 8, 1, 8, 10, 4, 8, 1, 8, 11, 8, 8, 0, 1, 1, 9, 0, 0, 9, 1, 9, 1, 3, 9, 1, 9, 2, 6, 9, 1, 9, 3, 9, 9, 1, 9, 4, 0, 9, 1, 9, 5, 3, 9, 1, 9, 6, 6, 9, 1, 9, 7, 9, 9, 1, 9, 8, 0, 9, 1, 9, 9, 3, 9, 1, 9, 10, 6, 9, 1, 9, 11, 9, 9, 0, 1, 1, 10, 0, 0, 10, 1, 10, 1, 2, 10, 1, 10, 2, 4, 10, 1, 10, 3, 6, 10, 1, 10, 4, 8, 10, 1, 10, 5, 10, 10, 1, 10, 6, 0, 10, 1, 10, 7, 2, 10, 1, 10, 8, 4, 10, 1, 10, 9, 6, 10, 1, 10, 10, 8, 10, 1, 10, 11, 10, 10, 0, 1, 1, 11, 0, 0, 11, 1, 11, 1, 1, 11, 1, 11, 2, 2, 11, 1, 11, 3, 3, 11, 1, 11, 4, 4, 11, 1, 11, 5, 5, 11, 1, 11, 6, 6, 11, 1, 11, 7, 7, 11, 1, 11, 8, 8, 11, 1, 11, 9, 9, 11, 1, 11, 10, 10, 11, 1, 11, 11, 11, 11, 0, 0], True⟩
end Go.Proofs.YtgnmhapgciejfaaGreatDoor
end
section
set_option linter.all false
set_option maxRecDepth 1000000
set_option maxHeartbeats 2000000
open Go.RowKit
namespace Go.Proofs.YtgnmhapgciejfaaGreatDoor
open Mini

def product_val (a b c d e f g k : Int) : Value := .agg #[.int .i64 (p1 a b c d e f g k), .int .i64 (p2 a b c d e f g k), .int .i64 (p3 a b c d e f g k), .int .i64 (p4 a b c d e f g k)]
theorem product_X : FOkS Tryz.prog x_product := noXS_ok
theorem product_args (a b c d e f g k : Int) : (#[.agg #[.int .i64 a, .int .i64 b, .int .i64 c, .int .i64 d], .agg #[.int .i64 e, .int .i64 f, .int .i64 g, .int .i64 k]] : Array Value).toList.all (ground 8) = true := by kernel_rfl
def product_w0 (a b c d e f g k : Int) : Value := .agg #[.int .i64 (IntKind.i64.wrap ((IntKind.i64.wrap ((IntKind.i64.wrap (a * e)) - (IntKind.i64.wrap (b * f)))) + (IntKind.i64.wrap ((0 : Int) - (IntKind.i64.wrap ((IntKind.i64.wrap (c * g)) - (IntKind.i64.wrap (d * k)))))))), .int .i64 (IntKind.i64.wrap ((IntKind.i64.wrap ((IntKind.i64.wrap ((IntKind.i64.wrap (a * f)) + (IntKind.i64.wrap (b * e)))) - (IntKind.i64.wrap (b * f)))) + (IntKind.i64.wrap ((0 : Int) - (IntKind.i64.wrap ((IntKind.i64.wrap ((IntKind.i64.wrap (c * k)) + (IntKind.i64.wrap (d * g)))) - (IntKind.i64.wrap (d * k)))))))), .int .i64 (IntKind.i64.wrap ((IntKind.i64.wrap ((IntKind.i64.wrap (a * g)) - (IntKind.i64.wrap (b * k)))) + (IntKind.i64.wrap ((IntKind.i64.wrap (c * e)) - (IntKind.i64.wrap (d * f)))))), .int .i64 (IntKind.i64.wrap ((IntKind.i64.wrap ((IntKind.i64.wrap ((IntKind.i64.wrap (a * k)) + (IntKind.i64.wrap (b * g)))) - (IntKind.i64.wrap (b * k)))) + (IntKind.i64.wrap ((IntKind.i64.wrap ((IntKind.i64.wrap (c * f)) + (IntKind.i64.wrap (d * e)))) - (IntKind.i64.wrap (d * f))))))]
def product_r0 (a b c d e f g k : Int) : Prop := True
theorem product_o0 (a b c d e f g k : Int) : obOf (product_e0 a b c d e f g k) = product_r0 a b c d e f g k := by kernel_rfl
theorem product_v0 (a b c d e f g k : Int) : resOf (product_e0 a b c d e f g k) = product_w0 a b c d e f g k := by kernel_rfl
theorem product_k0 (a b c d e f g k : Int) : cleanOf Tryz.prog.globals.size (product_e0 a b c d e f g k) = true := by kernel_rfl
theorem product_q0 (a b c d e f g k : Int) : product_e0 a b c d e f g k = evFS Tryz.prog x_product 1000 68 #[.agg #[.int .i64 a, .int .i64 b, .int .i64 c, .int .i64 d], .agg #[.int .i64 e, .int .i64 f, .int .i64 g, .int .i64 k]] (noTabs 7) ⟨[], True⟩ := by
  delta product_e0
  exact Eq.refl _
theorem product_p0 (a b c d e f g k : Int) (h : product_r0 a b c d e f g k) (w : World) : Calls Tryz.prog 68 #[.agg #[.int .i64 a, .int .i64 b, .int .i64 c, .int .i64 d], .agg #[.int .i64 e, .int .i64 f, .int .i64 g, .int .i64 k]] w fun en w' => en = .returned (product_w0 a b c d e f g k) ∧ Below w.heap.size w w' := by
  have hv := product_v0 a b c d e f g k
  have hc := product_k0 a b c d e f g k
  have he := product_q0 a b c d e f g k
  have ho := product_o0 a b c d e f g k
  generalize product_e0 a b c d e f g k = r at *
  exact calls_way he gfol product_X hv rfl (product_args a b c d e f g k) hc ho h (bl w)
theorem product_any (a b c d e f g k : Int) (hpre : B4 16777216 a b c d ∧ B4 1048576 e f g k) (w : World) : Calls Tryz.prog 68 #[.agg #[.int .i64 a, .int .i64 b, .int .i64 c, .int .i64 d], .agg #[.int .i64 e, .int .i64 f, .int .i64 g, .int .i64 k]] w fun en w' => en = .returned (product_val a b c d e f g k) ∧ Below w.heap.size w w' := by
  obtain ⟨⟨q1, q2, q3, q4, q5, q6, q7, q8⟩, r1, r2, r3, r4, r5, r6, r7, r8⟩ := hpre
  have b_ae := bd 16777216 1048576 a e (by omega) (by omega) ⟨by omega, by omega⟩ ⟨by omega, by omega⟩
  have b_af := bd 16777216 1048576 a f (by omega) (by omega) ⟨by omega, by omega⟩ ⟨by omega, by omega⟩
  have b_ag := bd 16777216 1048576 a g (by omega) (by omega) ⟨by omega, by omega⟩ ⟨by omega, by omega⟩
  have b_ak := bd 16777216 1048576 a k (by omega) (by omega) ⟨by omega, by omega⟩ ⟨by omega, by omega⟩
  have b_be := bd 16777216 1048576 b e (by omega) (by omega) ⟨by omega, by omega⟩ ⟨by omega, by omega⟩
  have b_bf := bd 16777216 1048576 b f (by omega) (by omega) ⟨by omega, by omega⟩ ⟨by omega, by omega⟩
  have b_bg := bd 16777216 1048576 b g (by omega) (by omega) ⟨by omega, by omega⟩ ⟨by omega, by omega⟩
  have b_bk := bd 16777216 1048576 b k (by omega) (by omega) ⟨by omega, by omega⟩ ⟨by omega, by omega⟩
  have b_ce := bd 16777216 1048576 c e (by omega) (by omega) ⟨by omega, by omega⟩ ⟨by omega, by omega⟩
  have b_cf := bd 16777216 1048576 c f (by omega) (by omega) ⟨by omega, by omega⟩ ⟨by omega, by omega⟩
  have b_cg := bd 16777216 1048576 c g (by omega) (by omega) ⟨by omega, by omega⟩ ⟨by omega, by omega⟩
  have b_ck := bd 16777216 1048576 c k (by omega) (by omega) ⟨by omega, by omega⟩ ⟨by omega, by omega⟩
  have b_de := bd 16777216 1048576 d e (by omega) (by omega) ⟨by omega, by omega⟩ ⟨by omega, by omega⟩
  have b_df := bd 16777216 1048576 d f (by omega) (by omega) ⟨by omega, by omega⟩ ⟨by omega, by omega⟩
  have b_dg := bd 16777216 1048576 d g (by omega) (by omega) ⟨by omega, by omega⟩ ⟨by omega, by omega⟩
  have b_dk := bd 16777216 1048576 d k (by omega) (by omega) ⟨by omega, by omega⟩ ⟨by omega, by omega⟩
  have hp := product_p0 a b c d e f g k trivial w
  have hv : product_w0 a b c d e f g k = (product_val a b c d e f g k) := by
    clear hp
    unfold product_w0 product_val
    (try simp (disch := omega) only [wi])
    all_goals (simp only [p1, p2, p3, p4])
    all_goals (first | rfl | (simp only [Value.agg.injEq, Array.mk.injEq, List.cons.injEq, Value.int.injEq, true_and, and_true]; omega))
  exact hv ▸ hp
theorem k_product : ConOk Tryz.prog c_product := fun ns hl => by
  have hl0 : ns.length = 8 := hl
  clear hl
  obtain ⟨a, ns0, rfl, hl1⟩ := len_cons hl0
  obtain ⟨b, ns1, rfl, hl2⟩ := len_cons hl1
  obtain ⟨c, ns2, rfl, hl3⟩ := len_cons hl2
  obtain ⟨d, ns3, rfl, hl4⟩ := len_cons hl3
  obtain ⟨e, ns4, rfl, hl5⟩ := len_cons hl4
  obtain ⟨f, ns5, rfl, hl6⟩ := len_cons hl5
  obtain ⟨g, ns6, rfl, hl7⟩ := len_cons hl6
  obtain ⟨k, ns7, rfl, hl8⟩ := len_cons hl7
  obtain rfl := len_nil hl8
  exact ⟨rfl, fun h w => product_any a b c d e f g k h w⟩
end Go.Proofs.YtgnmhapgciejfaaGreatDoor
end
section
set_option linter.all false
set_option maxRecDepth 1000000
set_option maxHeartbeats 2000000
open Go.RowKit
namespace Go.Proofs.YtgnmhapgciejfaaGreatDoor
open Mini

def sum_val (a b c d e f g k : Int) : Value := .agg #[.int .i64 (IntKind.i64.wrap (a + e)), .int .i64 (IntKind.i64.wrap (b + f)), .int .i64 (IntKind.i64.wrap (c + g)), .int .i64 (IntKind.i64.wrap (d + k))]
theorem sum_X : FOkS Tryz.prog x_sum := noXS_ok
theorem sum_args (a b c d e f g k : Int) : (#[.agg #[.int .i64 a, .int .i64 b, .int .i64 c, .int .i64 d], .agg #[.int .i64 e, .int .i64 f, .int .i64 g, .int .i64 k]] : Array Value).toList.all (ground 8) = true := by kernel_rfl
def sum_w0 (a b c d e f g k : Int) : Value := .agg #[.int .i64 (IntKind.i64.wrap (a + e)), .int .i64 (IntKind.i64.wrap (b + f)), .int .i64 (IntKind.i64.wrap (c + g)), .int .i64 (IntKind.i64.wrap (d + k))]
def sum_r0 (a b c d e f g k : Int) : Prop := True
theorem sum_o0 (a b c d e f g k : Int) : obOf (sum_e0 a b c d e f g k) = sum_r0 a b c d e f g k := by kernel_rfl
theorem sum_v0 (a b c d e f g k : Int) : resOf (sum_e0 a b c d e f g k) = sum_w0 a b c d e f g k := by kernel_rfl
theorem sum_k0 (a b c d e f g k : Int) : cleanOf Tryz.prog.globals.size (sum_e0 a b c d e f g k) = true := by kernel_rfl
theorem sum_q0 (a b c d e f g k : Int) : sum_e0 a b c d e f g k = evFS Tryz.prog x_sum 1000 102 #[.agg #[.int .i64 a, .int .i64 b, .int .i64 c, .int .i64 d], .agg #[.int .i64 e, .int .i64 f, .int .i64 g, .int .i64 k]] (noTabs 7) ⟨[], True⟩ := by
  delta sum_e0
  exact Eq.refl _
theorem sum_p0 (a b c d e f g k : Int) (h : sum_r0 a b c d e f g k) (w : World) : Calls Tryz.prog 102 #[.agg #[.int .i64 a, .int .i64 b, .int .i64 c, .int .i64 d], .agg #[.int .i64 e, .int .i64 f, .int .i64 g, .int .i64 k]] w fun en w' => en = .returned (sum_w0 a b c d e f g k) ∧ Below w.heap.size w w' := by
  have hv := sum_v0 a b c d e f g k
  have hc := sum_k0 a b c d e f g k
  have he := sum_q0 a b c d e f g k
  have ho := sum_o0 a b c d e f g k
  generalize sum_e0 a b c d e f g k = r at *
  exact calls_way he gfol sum_X hv rfl (sum_args a b c d e f g k) hc ho h (bl w)
theorem sum_any (a b c d e f g k : Int) (hpre : True) (w : World) : Calls Tryz.prog 102 #[.agg #[.int .i64 a, .int .i64 b, .int .i64 c, .int .i64 d], .agg #[.int .i64 e, .int .i64 f, .int .i64 g, .int .i64 k]] w fun en w' => en = .returned (sum_val a b c d e f g k) ∧ Below w.heap.size w w' := by
  have hp := sum_p0 a b c d e f g k trivial w
  have hv : sum_w0 a b c d e f g k = (sum_val a b c d e f g k) := by
    clear hp
    unfold sum_w0 sum_val
    rfl
  exact hv ▸ hp
theorem k_sum : ConOk Tryz.prog c_sum := fun ns hl => by
  have hl0 : ns.length = 8 := hl
  clear hl
  obtain ⟨a, ns0, rfl, hl1⟩ := len_cons hl0
  obtain ⟨b, ns1, rfl, hl2⟩ := len_cons hl1
  obtain ⟨c, ns2, rfl, hl3⟩ := len_cons hl2
  obtain ⟨d, ns3, rfl, hl4⟩ := len_cons hl3
  obtain ⟨e, ns4, rfl, hl5⟩ := len_cons hl4
  obtain ⟨f, ns5, rfl, hl6⟩ := len_cons hl5
  obtain ⟨g, ns6, rfl, hl7⟩ := len_cons hl6
  obtain ⟨k, ns7, rfl, hl8⟩ := len_cons hl7
  obtain rfl := len_nil hl8
  exact ⟨rfl, fun h w => sum_any a b c d e f g k h w⟩
end Go.Proofs.YtgnmhapgciejfaaGreatDoor
end
