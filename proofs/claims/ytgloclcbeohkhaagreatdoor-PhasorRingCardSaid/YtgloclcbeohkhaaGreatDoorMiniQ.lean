/-
  Functions of the library whose answers are known, for the reckoner of the small world.
-/
import Derived.Test.YtgloclcbeohkhaaGreatDoorMiniP
import Derived.Lib.Join
import Derived.Below
namespace Go.Proofs.YtgloclcbeohkhaaGreatDoor
set_option linter.all false
open Go.RowKit
namespace Mini
variable {P : Program} {rd : Option Nat} {s s1 : St} {R W : Nat}

/-- A function that leaves all that was as it was. -/
theorem sndF_quiet {f : FuncId} {args : Array Value} {v : Value} (hg : ground 8 v = true)
    (h : ∀ (ρ : Ren) (C : Nat → MObj) (args' : Array Value) (w : World), (∀ b, R.testBit b = true → b < s.next → C b = s.get b) → WRel ρ C w → VRs ρ args args' → Calls P f args' w fun e w' => e = .returned v ∧ Below w.heap.size w w') :
    SndF P f args s v s R 0 := by
  refine ⟨Stat.refl s, fun n ρ C args' w Q hp ha hQ => ?_⟩
  have hc := h ρ C args' w (fun b hb => hp.agree b (by rw [or_bit, hb]; rfl)) hp.rel ha
  refine callsIn_wide.2 (hc.mono fun e w' he => ?_)
  obtain ⟨rfl, hb⟩ := he
  refine hQ ρ v w' ⟨Ren.le_refl _, fun b hne => absurd rfl hne, fun b L h1 h2 => (by rw [h1] at h2; cases h2), hb.size, fun x hx _ => hb.block x hx, hb.os, hb.tape, hb.output⟩ ?_ (ground_refl 8 hg)
  rw [upd_zero]
  refine ⟨fun b hne => ?_, hp.rel.2⟩
  obtain ⟨L, o', h1, h2, h3⟩ := hp.rel.1 b hne
  have hlt : L.blk < w.heap.size := (Array.getElem?_eq_some_iff.1 h2).1
  exact ⟨L, o', h1, (hb.block L.blk hlt).trans h2, h3⟩

/-! ### strings.Join -/
def strsL : List Value → Option (List ByteArray)
  | [] => some []
  | .string x :: l => match strsL l with
    | some xs => some (x :: xs)
    | none => none
  | _ :: _ => none
theorem strsL_at : ∀ (l : List Value) (xs : List ByteArray), strsL l = some xs → xs.length = l.length ∧ ∀ (j : Nat) (x : ByteArray), xs[j]? = some x → l[j]? = some (.string x)
  | [], xs, h => by cases h; exact ⟨rfl, fun j x hj => by simp at hj⟩
  | .string y :: l, xs, h => by
    simp only [strsL] at h
    split at h
    · rename_i ys hy
      cases h
      obtain ⟨h1, h2⟩ := strsL_at l ys hy
      refine ⟨by simp [h1], fun j x hj => ?_⟩
      cases j with
      | zero => simpa using hj
      | succ j => simpa using h2 j x (by simpa using hj)
    · cases h
  | .bool _ :: _, _, h | .float _ _ :: _, _, h | .complex _ _ _ :: _, _, h | .int _ _ :: _, _, h | .pointer _ :: _, _, h | .slice _ _ _ :: _, _, h | .map _ :: _, _, h | .chan _ :: _, _, h | .func _ _ _ :: _, _, h | .nilFunc :: _, _, h | .iface _ _ :: _, _, h
  | .nilIface :: _, _, h | .agg _ :: _, _, h | .tuple _ :: _, _, h => by simp [strsL] at h

def joinX (fJ : FuncId) : CallF := fun f args s =>
  if f = fJ then
    match args.toList with
    | [.slice (some ⟨b, o, none⟩) n c, .string sep] => match s.get b with
      | .cells cc _ _ _ _ => match strsL (cut cc o n).toList with
        | some xs =>
          if n ≠ 0 ∧ n ≤ c ∧ o + n ≤ cc.length ∧ n ≤ 1000000 ∧ (Lib.join (xs.map (·.data.toList)) sep.data.toList).length ≤ 1000000000 then
            some (.string ⟨(Lib.join (xs.map (·.data.toList)) sep.data.toList).toArray⟩, s, 2 ^ b, 0)
          else none
        | none => none
      | _ => none
    | _ => none
  else none
theorem joinX_ok {fJ : FuncId} (hJ : ∀ (bk o c : Nat) (xs : List ByteArray) (sep : ByteArray) (w : World), (∀ (j : Nat) x, xs[j]? = some x → w.cell? ⟨bk, o + j, none⟩ = some (.string x)) → bk < w.heap.size → xs.length ≤ 140737488355328 → xs.length ≤ c →
      (Lib.join (xs.map (·.data.toList)) sep.data.toList).length ≤ 140737488355328 →
      Calls P fJ #[.slice (some ⟨bk, o, none⟩) xs.length c, .string sep] w fun e w' => e = .returned (.string ⟨(Lib.join (xs.map (·.data.toList)) sep.data.toList).toArray⟩) ∧ Below w.heap.size w w') : FOk P (joinX fJ) := fun f as s v s1 R W h => by
  unfold joinX at h
  split at h
  · rename_i hf
    subst hf
    split at h
    · rename_i b o n c sep has
      split at h
      · rename_i cc e opn sz r hc
        split at h
        · rename_i xs hx
          split at h
          · rename_i hk
            cases h
            obtain ⟨k1, k2, k3, k4, k5⟩ := hk
            obtain ⟨g1, g2⟩ := strsL_at _ _ hx
            have hl : xs.length = n := by rw [g1]; simp [cut]; omega
            refine sndF_quiet rfl fun ρ C args' w ag hr ha => ?_
            have has' : as = #[.slice (some ⟨b, o, none⟩) n c, .string sep] := Array.ext' has
            subst has'
            have e0 : ∃ v0 v1, args' = #[v0, v1] ∧ VR ρ (.slice (some ⟨b, o, none⟩) n c) v0 ∧ VR ρ (.string sep) v1 := by
              obtain ⟨q1, q2⟩ := ha
              have hs2 : args'.size = 2 := q1.symm
              refine ⟨args'[0], args'[1], ?_, q2 0 _ _ rfl (Array.getElem?_eq_getElem (by omega)), q2 1 _ _ rfl (Array.getElem?_eq_getElem (by omega))⟩
              apply Array.ext (by simpa using hs2)
              intro i h1 h2
              match i, h1, h2 with
              | 0, _, _ => rfl
              | 1, _, _ => rfl
              | i + 2, h1, _ => omega
            obtain ⟨v0, v1, rfl, m0, m1⟩ := e0
            obtain ⟨L, c', n1, rfl, n2⟩ := slice_inv k1 m0
            have hv1 : v1 = .string sep := by cases m1; rfl
            subst hv1
            have hbb := ag b (bit_self b) (St.lt_of_live (by rw [hc]; simp))
            obtain ⟨L', cs, fr, q1, q2, q3⟩ := row_of hr (hbb.trans hc)
            rw [n1] at q1
            cases q1
            obtain ⟨p1, p2, p3, p4, p5, p6, p7, p8⟩ := q3
            have := hJ L.blk (L.base + o) c' xs sep w (fun j x hj => ?_) ((Array.getElem?_eq_some_iff.1 q2).1) (by omega) (by omega) (by omega)
            · rw [hl] at this; exact this
            · have hlt : j < n := by
                have := (List.getElem?_eq_some_iff.1 hj).1
                omega
              have hm : cc[o + j]? = some (.string x) := by
                have := g2 j x hj
                simp only [cut, List.getElem?_take, List.getElem?_drop] at this
                rw [if_pos hlt] at this
                exact this
              obtain ⟨v', z1, z2⟩ := p6 _ _ hm
              have hv' : v' = .string x := by cases z2; rfl
              rw [cell_row q2, Nat.add_assoc, z1, hv']
          · cases h
        · cases h
      · cases h
    · cases h
  · cases h

/-- No known function. -/
def noX : CallF := fun _ _ _ => none
theorem noX_ok : FOk P noX := fun f as s v s1 R W h => by cases h
end Mini
end Go.Proofs.YtgloclcbeohkhaaGreatDoor
