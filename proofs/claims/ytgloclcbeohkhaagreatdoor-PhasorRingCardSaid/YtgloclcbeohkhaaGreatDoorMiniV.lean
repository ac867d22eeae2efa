/-
  A function that reads the package's tables alone, known to the reckoner; the bridge to a real call, with unknown numbers.
-/
import Derived.Test.YtgloclcbeohkhaaGreatDoorMiniS
namespace Go.Proofs.YtgloclcbeohkhaaGreatDoor
set_option linter.all false
open Go.RowKit
namespace Mini
variable {P : Program} {s s0 s1 : St} {R W : Nat}

theorem sndF_quietG {f : FuncId} {args : Array Value} {v : Value} (hg : ground 8 v = true)
    (h : ∀ (ρ : Ren) (C : Nat → MObj) (args' : Array Value) (w : World), Glob P ρ → (∀ b, R.testBit b = true → b < s.next → C b = s.get b) → WRel ρ C w → VRs ρ args args' → Calls P f args' w fun e w' => e = .returned v ∧ Below w.heap.size w w') :
    SndF P f args s v s R 0 := by
  refine ⟨Stat.refl s, fun n ρ C args' w Q hp ha hQ => ?_⟩
  have hc := h ρ C args' w hp.glob (fun b hb => hp.agree b (by rw [or_bit, hb]; rfl)) hp.rel ha
  refine callsIn_wide.2 (hc.mono fun e w' he => ?_)
  obtain ⟨rfl, hb⟩ := he
  refine hQ ρ v w' ⟨Ren.le_refl _, fun b hne => absurd rfl hne, fun b L h1 h2 => (by rw [h1] at h2; cases h2), hb.size, fun x hx _ => hb.block x hx, hb.os, hb.tape, hb.output⟩ ?_ (ground_refl 8 hg)
  rw [upd_zero]
  refine ⟨fun b hne => ?_, hp.rel.2⟩
  obtain ⟨L, o', h1, h2, h3⟩ := hp.rel.1 b hne
  have hlt : L.blk < w.heap.size := (Array.getElem?_eq_some_iff.1 h2).1
  exact ⟨L, o', h1, (hb.block L.blk hlt).trans h2, h3⟩

def valsEq : List Value → List Value → Bool
  | [], _ => true
  | .int k a :: l, .int k' b :: l' => decide (k = k') && (a == b) && valsEq l l'
  | _, _ => false
theorem valsEq_at : ∀ (c c' : List Value), valsEq c c' = true → ∀ (i : Nat) (v : Value), c[i]? = some v → c'[i]? = some v ∧ ∃ k a, v = .int k a
  | [], c', h, i, v, hi => by simp at hi
  | x :: l, [], h, i, v, hi => by cases x <;> simp [valsEq] at h
  | x :: l, y :: l', h, i, v, hi => by
    cases x with
    | int k a => cases y with
      | int k' b =>
        simp only [valsEq, Bool.and_eq_true, decide_eq_true_eq, beq_iff_eq] at h
        obtain ⟨⟨rfl, rfl⟩, h3⟩ := h
        cases i with
        | zero => simp at hi; subst hi; exact ⟨rfl, k, a, rfl⟩
        | succ i => exact valsEq_at l l' h3 i v (by simpa using hi)
      | _ => simp [valsEq] at h
    | _ => simp [valsEq] at h
def tabEq : MObj → MObj → Bool
  | .hole, _ => true
  | .cells c _ _ _ _, .cells c' _ _ _ _ => valsEq c c'
  | _, _ => false
def tabsEq (s0 s : St) : Nat → Bool
  | 0 => true
  | n + 1 => tabEq (s0.get n) (s.get n) && tabsEq s0 s n
theorem tabsEq_at : ∀ (n : Nat), tabsEq s0 s n = true → ∀ b, b < n → tabEq (s0.get b) (s.get b) = true
  | 0, h, b, hb => by omega
  | n + 1, h, b, hb => by
    simp only [tabsEq, Bool.and_eq_true] at h
    rcases Nat.lt_or_ge b n with c | c
    · exact tabsEq_at n h.2 b c
    · rw [show b = n from by omega]; exact h.1
def tabOk : MObj → Bool
  | .hole => true
  | .cells c _ true 0 true => !c.isEmpty && c.all (ground 8)
  | _ => false
def tabsOk (s0 : St) : Nat → Bool
  | 0 => true
  | n + 1 => tabOk (s0.get n) && tabsOk s0 n
theorem tabsOk_at : ∀ (n : Nat), tabsOk s0 n = true → ∀ b, b < n → tabOk (s0.get b) = true
  | 0, h, b, hb => by omega
  | n + 1, h, b, hb => by
    simp only [tabsOk, Bool.and_eq_true] at h
    rcases Nat.lt_or_ge b n with c | c
    · exact tabsOk_at n h.2 b c
    · rw [show b = n from by omega]; exact h.1
/-- What is known of the tables where the small world knows them. -/
theorem holds_of {ρ : Ren} {C : Nat → MObj} {w : World} (hn : s0.next = P.globals.size) (hok : tabsOk s0 s0.next = true) (heq : tabsEq s0 s s0.next = true) (hG : Glob P ρ) (ag : ∀ b, (2 ^ s0.next - 1).testBit b = true → b < s.next → C b = s.get b) (hr : WRel ρ C w) : Holds P s0 w := by
  refine ⟨hn, fun b hb => ?_⟩
  rw [← hn] at hb
  have h1 := tabsOk_at _ hok b hb
  have h2 := tabsEq_at _ heq b hb
  cases hs : s0.get b with
  | hole => exact .inl rfl
  | cells c e opn sz r =>
    rw [hs] at h1 h2
    cases ho : s.get b with
    | cells c' e' opn' sz' r' =>
      rw [ho] at h2
      simp only [tabEq] at h2
      cases opn <;> cases r <;> cases sz <;> simp only [tabOk, Bool.and_eq_true, Bool.not_eq_true', Bool.false_eq_true] at h1
      refine .inr ⟨c, e, rfl, by intro hc; rw [hc] at h1; simp at h1, h1.2, fun i v hi => ?_⟩
      obtain ⟨k1, k, a, rfl⟩ := valsEq_at c c' h2 i v hi
      have hlt : b < s.next := St.lt_of_live (by rw [ho]; simp)
      have hC : C b = .cells c' e' opn' sz' r' := (ag b (by rw [Nat.testBit_two_pow_sub_one]; simpa using hb) hlt).trans ho
      obtain ⟨L, cs, fr, q1, q2, q3⟩ := row_of hr hC
      obtain ⟨L', g1, g2, g3⟩ := hG b (hn ▸ hb)
      rw [q1] at g1
      cases g1
      obtain ⟨p1, p2, p3, p4, p5, p6, p7, p8⟩ := q3
      obtain ⟨v', z1, z2⟩ := p6 i _ k1
      have := int_inv z2
      subst this
      rw [g2] at q2
      rw [cell_row q2]
      rw [g3, Nat.zero_add] at z1
      exact z1
    | _ => rw [ho] at h2; simp [tabEq] at h2
  | _ => rw [hs] at h1; simp [tabOk] at h1

/-- A function without arguments that answers true where the tables hold. -/
def tabX (s0 : St) (f0 : FuncId) : CallS := fun f xs s q =>
  match decide (f = f0) && xs.toList.isEmpty && tabsOk s0 s0.next && tabsEq s0 s s0.next with
  | true => some (.bool true, s, 2 ^ s0.next - 1, 0, q)
  | false => none
theorem tabX_ok {f0 : FuncId} (hn : s0.next = P.globals.size) (h : ∀ w, Holds P s0 w → Calls P f0 #[] w fun e w' => e = .returned (.bool true) ∧ Below w.heap.size w w') : FOkS P (tabX s0 f0) := fun f xs s q v s1 R W q1 he => by
  unfold tabX at he
  split at he
  · rename_i hc
    cases he
    simp only [Bool.and_eq_true, decide_eq_true_eq] at hc
    obtain ⟨⟨⟨rfl, h2⟩, h3⟩, h4⟩ := hc
    have hx : xs = #[] := by
      apply Array.ext'
      simpa using h2
    subst hx
    refine ⟨id, fun _ => sndF_quietG rfl fun ρ C args' w hG ag hr ha => ?_⟩
    have ea : args' = #[] := Array.eq_empty_of_size_eq_zero (ha.1.symm.trans rfl)
    subst ea
    exact h w (holds_of hn h3 h4 hG ag hr)
  · cases he

def resOf : Option OutS → Value
  | some (v, _, _, _, _) => v
  | none => .nilFunc
def obOf : Option OutS → Prop
  | some (_, _, _, _, q) => q.ob
  | none => False
def cleanOf (n : Nat) : Option OutS → Bool
  | some (_, _, _, W, _) => (W % 2 ^ n) == 0
  | none => false
/-- From the reckoner with unknown numbers to a real call. -/
theorem calls_ofS {X : CallS} {f : FuncId} {args : Array Value} {v : Value} {q : Orc} {w : World} {n : Nat} (hm : P.follows .mixedOrders = true) (hX : FOkS P X) (hv : resOf (evFS P X n f args s q) = v) (hg : ground 8 v = true) (ha : args.toList.all (ground 8) = true)
    (hc : cleanOf P.globals.size (evFS P X n f args s q) = true) (hob : obOf (evFS P X n f args s q)) (hh : Holds P s w) : Calls P f args w fun e w' => e = .returned v ∧ Below w.heap.size w w' := by
  cases hr : evFS P X n f args s q with
  | none => rw [hr] at hc; simp [cleanOf] at hc
  | some r =>
    obtain ⟨v0, s1, R, W, q1⟩ := r
    rw [hr] at hv hc hob
    simp only [resOf] at hv
    subst hv
    simp only [cleanOf, beq_iff_eq] at hc
    refine calls_of ((evFS_ok hm hX n _ _ _ _ _ _ _ _ _ hr).2 hob) hg ha (fun b hb => ?_) hh
    have : (W % 2 ^ P.globals.size).testBit b = false := by rw [hc]; simp
    rw [Nat.testBit_mod_two_pow] at this
    simpa [hb] using this
/-- A statement that the elaborator shall not look into. -/
structure BoxedP (p : Prop) : Prop where
  out : p
/-- The same, the reckoned outcome under a name. -/
theorem calls_ofR {X : CallS} {f : FuncId} {args : Array Value} {v : Value} {q : Orc} {w : World} {n : Nat} {r : Option OutS} (hr : r = evFS P X n f args s q) (hm : P.follows .mixedOrders = true) (hX : FOkS P X) (hv : resOf r = v) (hg : ground 8 v = true) (ha : args.toList.all (ground 8) = true)
    (hc : cleanOf P.globals.size r = true) (hob : BoxedP (obOf r)) (hh : Holds P s w) : Calls P f args w fun e w' => e = .returned v ∧ Below w.heap.size w w' := by
  subst hr
  exact calls_ofS hm hX hv hg ha hc hob.out hh
end Mini
end Go.Proofs.YtgloclcbeohkhaaGreatDoor
