/-
  The reckoner's pieces laid together; from the small world to a real call.
-/
import Derived.Test.YtgloclcbeohkhaaGreatDoorMiniQ
namespace Go.Proofs.YtgloclcbeohkhaaGreatDoor
set_option linter.all false
open Go.RowKit
namespace Mini
variable {P : Program} {rd : Option Nat} {s s1 : St} {R W : Nat}

def tailS : Code → Code
  | .seq _ b => b
  | c => c
def headS : Code → Code
  | .seq a _ => a
  | c => c
def isSeq : Code → Bool
  | .seq _ _ => true
  | _ => false
theorem isSeq_eq {c : Code} (h : isSeq c = true) : c = .seq (headS c) (tailS c) := by cases c <;> simp [isSeq] at h ⊢ <;> exact ⟨rfl, rfl⟩
def bodyOf (P : Program) (f : FuncId) : Code := match P.funcs[f]? with
  | some fn => match fn.body with
    | some c => c
    | none => .skip
  | none => .skip
def dropS : Nat → Code → Code
  | 0, c => c
  | n + 1, c => tailS (dropS n c)
theorem chain_step {X : CallF} {n i : Nat} {body : Code} {a a1 a2 : Act} {s2 : St} {R1 W1 R2 W2 : Nat} {e : Exit} (hm : P.follows .mixedOrders = true) (hX : FOk P X) (hs : isSeq (dropS i body) = true)
    (h : evC P X n false (headS (dropS i body)) a s = some (.normal, a1, s1, R1, W1)) (g : SndC P rd (dropS (i + 1) body) a1 s1 e a2 s2 R2 W2) : SndC P rd (dropS i body) a s e a2 s2 (R1 ||| R2) (W1 ||| W2) := by
  rw [isSeq_eq hs]
  exact sndC_seq (evC_ok hm hX n rd false _ _ _ _ _ _ _ _ h) g
theorem chain_last {X : CallF} {n i : Nat} {body : Code} {a a1 : Act} {e : Exit} (hm : P.follows .mixedOrders = true) (hX : FOk P X)
    (h : evC P X n false (dropS i body) a s = some (e, a1, s1, R, W)) : SndC P rd (dropS i body) a s e a1 s1 R W :=
  evC_ok hm hX n rd false _ _ _ _ _ _ _ _ h

/-! ### The real world at a call's begin -/
/-- What the small world says of the package's variables. -/
structure Holds (P : Program) (s : St) (w : World) : Prop where
  next : s.next = P.globals.size
  holds : ∀ b, b < P.globals.size → s.get b = .hole ∨ ∃ c e, s.get b = .cells c e true 0 true ∧ c ≠ [] ∧ c.all (ground 8) = true ∧ ∀ (i : Nat) (v : Value), c[i]? = some v → w.cell? ⟨b, i, none⟩ = some v
def rho0 (P : Program) (w : World) : Ren := fun b =>
  if b < P.globals.size then some ⟨b, 0, true, 0, match w.heap[b]? with | some (.cells cs _ _) => cs.size | _ => 0⟩ else none
theorem cells_of {w : World} {b : Nat} {c : List Value} (hne : c ≠ []) (h : ∀ (i : Nat) (v : Value), c[i]? = some v → w.cell? ⟨b, i, none⟩ = some v) : ∃ cs e fr, w.heap[b]? = some (.cells cs e fr) ∧ c.length ≤ cs.size ∧ ∀ (i : Nat) (v : Value), c[i]? = some v → cs[i]? = some v := by
  cases c with
  | nil => exact absurd rfl hne
  | cons v0 l =>
    have h0 := h 0 v0 rfl
    cases ho : w.heap[b]? with
    | none => simp [World.cell?, ho] at h0
    | some o =>
      cases o with
      | cells cs e fr =>
        have hall : ∀ (i : Nat) (v : Value), (v0 :: l)[i]? = some v → cs[i]? = some v := fun i v hi => by
          have := h i v hi
          rwa [cell_row ho] at this
        refine ⟨cs, e, fr, rfl, ?_, hall⟩
        have hlast := hall l.length _ (List.getElem?_eq_getElem (by simp))
        have := (Array.getElem?_eq_some_iff.1 hlast).1
        simp
        omega
      | _ => simp [World.cell?, ho] at h0
/-- A function that writes nothing that was: its contract in each real world. -/
theorem calls_of {f : FuncId} {args : Array Value} {v : Value} {w : World} (h : SndF P f args s v s1 R W) (hg : ground 8 v = true) (ha : args.toList.all (ground 8) = true) (hw : ∀ b, b < P.globals.size → W.testBit b = false) (hh : Holds P s w) :
    Calls P f args w fun e w' => e = .returned v ∧ Below w.heap.size w w' := by
  have hG : Glob P (rho0 P w) := fun g hg => ⟨_, if_pos hg, rfl, rfl⟩
  have hgood : ∀ b, s.get b ≠ .hole → b < P.globals.size := fun b hb => hh.next ▸ St.lt_of_live hb
  have hp : Pre P none s s1 R W none (rho0 P w) s.get w := by
    refine ⟨hG, trivial, fun _ _ _ => rfl, fun b h1 h2 => ⟨?_, St.get_beyond s b h1⟩, fun b hb => ?_, fun b b' L L' h1 h2 e1 e2 he => ?_⟩
    · show (if b < P.globals.size then _ else none) = none
      rw [if_neg (by have := hh.next; omega)]
    · have hlt := hgood b hb
      rcases hh.holds b hlt with k | ⟨c, e, k1, k2, k3, k4⟩
      · exact absurd k hb
      · obtain ⟨cs, e', fr, q1, q2, q3⟩ := cells_of k2 k4
        refine ⟨_, .cells cs e' fr, if_pos hlt, q1, ?_⟩
        rw [k1]
        refine ⟨rfl, rfl, fun h => (by cases h), ?_, ?_, fun i u hi => ⟨u, by simpa using q3 i u hi, ground_refl 8 (List.all_eq_true.1 k3 u (List.mem_of_getElem? hi))⟩, fun h => (by cases h), fun h => (by cases h)⟩
        · simp only [q1]
        · simp only [q1, Nat.zero_add]; exact q2
    · have g1 := hgood b h1
      have g2 := hgood b' h2
      have f1 : rho0 P w b = some _ := if_pos g1
      have f2 : rho0 P w b' = some _ := if_pos g2
      rw [f1] at e1
      rw [f2] at e2
      cases e1
      cases e2
      exact he
  have hargs : VRs (rho0 P w) args args := ⟨rfl, fun i u u' h1 h2 => by
    rw [h1] at h2
    cases h2
    exact ground_refl 8 (List.all_eq_true.1 ha u (by rw [Array.mem_toList_iff]; exact Array.mem_of_getElem? h1))⟩
  refine callsIn_wide.1 (h.2 0 (rho0 P w) s.get args w _ hp hargs fun ρ1 v' w1 p1 _ hv => ?_)
  have hv' := ground_eq 8 hg hv
  subst hv'
  refine ⟨rfl, p1.os, p1.tape, p1.output, p1.size, fun k hk => p1.frame k hk fun b L hb hlt hL => ?_⟩
  have := hw b (hh.next ▸ hlt)
  rw [hb] at this
  cases this
end Mini
end Go.Proofs.YtgloclcbeohkhaaGreatDoor
