/-
  The small worlds between the steps.
  What holds whichever entry of a map comes next: a piece of code with several outcomes; ranges over maps.
-/
import Derived.Test.YthhgmnocigekaaaGreatDoorGS1
import Derived.Maps.RangeRun
import Derived.Test.YthhgmnocigekaaaGreatDoorProg
import Derived.Test.YthhgmnocigekaaaGreatDoorGS3
section
namespace Go.Proofs.YthhgmnocigekaaaGreatDoor
set_option linter.all false
namespace Mini
open Go.ChangeMaps (setBlock)

def upto (N : Nat) : St := ⟨N, .leaf, []⟩
def SndP (P : Program) (rd : Option Nat) (T : Tr) (N R W : Nat) (a : Act) (s : St) (Φ : Exit → Act → St → Prop) : Prop :=
  ∀ (n : Nat) (ro : Option Nat) (ρ : Ren) (C : Nat → MObj) (a' : Act) (w : World) (Q : Exit → Act → World → Prop), Pre P rd s (upto N) R W ro ρ C w → AR ρ a a' →
    (∀ e a1 s1, Φ e a1 s1 → Stat s s1 W → s1.next ≤ N → ∀ ρ1 a1' w1, Post ρ s s1 W w ρ1 w1 → WRel ρ1 (upd C s s1 W) w1 → AR ρ1 a1 a1' → Q e a1' w1) → T (Fw ro) n Q a' w

section
variable {P : Program} {rd : Option Nat} {a a1 : Act} {s s1 : St} {e : Exit} {R W R1 W1 N : Nat}
theorem upd_more {C : Nat → MObj} (hS : Stat s s1 W1) (hag : ∀ b, (R ||| W).testBit b = true → b < s.next → C b = s.get b) (hW : ∀ b, W1.testBit b = true → b < s.next → W.testBit b = true) : upd C s s1 W1 = upd C s s1 W := by
  funext b
  simp only [upd]
  by_cases c : s.next ≤ b ∧ b < s1.next
  · rw [if_pos (.inl c), if_pos (.inl c)]
  · by_cases c1 : W1.testBit b = true ∧ b < s.next
    · rw [if_pos (.inr c1), if_pos (.inr ⟨hW b c1.1 c1.2, c1.2⟩)]
    · rw [if_neg (by rintro (k | k); exact c k; exact c1 k)]
      by_cases c2 : W.testBit b = true ∧ b < s.next
      · rw [if_pos (.inr c2), hag b (by rw [or_bit, c2.1]; simp) c2.2]
        refine (hS.2 b c2.2 ?_).symm
        cases h : W1.testBit b with
        | false => rfl
        | true => exact absurd ⟨h, c2.2⟩ c1
      · rw [if_neg (by rintro (k | k); exact c k; exact c2 k)]
theorem post_more {ρ ρ1 : Ren} {w w1 : World} (hW : ∀ b, W1.testBit b = true → b < s.next → W.testBit b = true) (h : Post ρ s s1 W1 w ρ1 w1) : Post ρ s s1 W w ρ1 w1 :=
  ⟨h.sub, h.dom, fun b L h1 h2 => (h.fresh b L h1 h2).imp id fun ⟨b0, L0, k1, k2, k3⟩ => ⟨b0, L0, hW b0 k1 k2, k2, k3⟩, h.size, fun x hx hf => h.frame x hx fun b L k1 k2 k3 => hf b L (hW b k1 k2) k2 k3, h.os, h.tape, h.output⟩
theorem stat_more (hW : ∀ b, W1.testBit b = true → b < s.next → W.testBit b = true) (h : Stat s s1 W1) : Stat s s1 W :=
  ⟨h.1, fun b hb hw => h.2 b hb (by
    cases k : W1.testBit b with
    | false => rfl
    | true => rw [hW b k hb] at hw; cases hw)⟩
theorem pre_more {ro : Option Nat} {ρ : Ren} {C : Nat → MObj} {w : World} (hN : s1.next ≤ N) (hR : ∀ b, R1.testBit b = true → b < s.next → R.testBit b = true) (hW : ∀ b, W1.testBit b = true → b < s.next → W.testBit b = true)
    (hp : Pre P rd s (upto N) R W ro ρ C w) : Pre P rd s s1 R1 W1 ro ρ C w :=
  ⟨hp.glob, hp.round, fun b hb hlt => hp.agree b (by
    simp only [or_bit, Bool.or_eq_true] at hb ⊢
    exact hb.imp (fun k => hR b k hlt) (fun k => hW b k hlt)) hlt, fun b h1 h2 => hp.free b h1 (Nat.lt_of_lt_of_le h2 hN), hp.rel⟩
theorem SndP.of {T : Tr} {Φ : Exit → Act → St → Prop} (h : Snd P rd T a s e a1 s1 R1 W1) (hN : s1.next ≤ N) (hR : ∀ b, R1.testBit b = true → b < s.next → R.testBit b = true) (hW : ∀ b, W1.testBit b = true → b < s.next → W.testBit b = true) (hΦ : Φ e a1 s1) : SndP P rd T N R W a s Φ := by
  intro n ro ρ C a' w Q hp ha hQ
  refine h.2 n ro ρ C a' w Q (pre_more hN hR hW hp) ha fun ρ1 a1' w1 p1 r1 ha1 => hQ e a1 s1 hΦ (stat_more hW h.1) hN ρ1 a1' w1 (post_more hW p1) ?_ ha1
  rw [← upd_more h.1 hp.agree hW]
  exact r1
theorem pre_on {ro : Option Nat} {ρ ρ1 : Ren} {C : Nat → MObj} {w w1 : World} (hS : Stat s s1 W) (h : Pre P rd s (upto N) R W ro ρ C w) (hp : Post ρ s s1 W w ρ1 w1) (hr : WRel ρ1 (upd C s s1 W) w1) : Pre P rd s1 (upto N) R W ro ρ1 (upd C s s1 W) w1 := by
  have l1 := hS.1
  refine ⟨h.glob.mono hp.sub, h.round.mono hp.sub, fun b hb hlt => ?_, fun b h1 h2 => ?_, hr⟩
  · by_cases c : s.next ≤ b
    · exact if_pos (.inl ⟨c, hlt⟩)
    · by_cases c2 : W.testBit b = true
      · exact if_pos (.inr ⟨c2, by omega⟩)
      · have e1 : upd C s s1 W b = C b := if_neg (by rintro (k | k); omega; exact c2 k.1)
        rw [e1, h.agree b hb (by omega)]
        exact (hS.2 b (by omega) (by simpa using c2)).symm
  · obtain ⟨k1, k2⟩ := h.free b (by omega) h2
    refine ⟨?_, ?_⟩
    · by_cases e : ρ1 b = ρ b
      · rw [e]; exact k1
      · have := hp.dom b e; omega
    · rw [show upd C s s1 W b = C b from if_neg (by rintro (k | k) <;> omega)]; exact k2
theorem stat_and {s2 : St} (h : Stat s s1 W) (g : Stat s1 s2 W) : Stat s s2 W := by
  have := h.trans g
  rwa [Nat.or_self] at this
theorem post_on {ro : Option Nat} {ρ ρ1 ρ2 : Ren} {C : Nat → MObj} {w w1 w2 : World} {s2 : St} (hp : Pre P rd s (upto N) R W ro ρ C w) (h : Stat s s1 W) (hN : s1.next ≤ N) (g : Stat s1 s2 W) (p1 : Post ρ s s1 W w ρ1 w1) (p2 : Post ρ1 s1 s2 W w1 ρ2 w2) : Post ρ s s2 W w ρ2 w2 := by
  have := p1.trans h g (fun b k1 k2 => (hp.free b k1 (Nat.lt_of_lt_of_le k2 hN)).1) p2
  rwa [Nat.or_self] at this
theorem upd_on {C : Nat → MObj} {s2 : St} (h : Stat s s1 W) (g : Stat s1 s2 W) : upd (upd C s s1 W) s1 s2 W = upd C s s2 W := by
  rw [upd_trans C h g, Nat.or_self]
theorem SndP.bind {T1 T2 T : Tr} (hT : ∀ F n Q a w, T1 F n (Exit.then (T2 F n Q) Q) a w → T F n Q a w) {Φ1 Φ : Exit → Act → St → Prop} (h : SndP P rd T1 N R W a s Φ1)
    (g : ∀ e a1 s1, Φ1 e a1 s1 → (e = .normal ∧ SndP P rd T2 N R W a1 s1 Φ) ∨ (e ≠ .normal ∧ Φ e a1 s1)) : SndP P rd T N R W a s Φ := by
  intro n ro ρ C a' w Q hp ha hQ
  refine hT _ _ _ _ _ (h n ro ρ C a' w _ hp ha fun e a1 s1 hΦ hS hN ρ1 a1' w1 p1 r1 ha1 => ?_)
  rcases g e a1 s1 hΦ with ⟨rfl, g⟩ | ⟨he, g⟩
  · show T2 (Fw ro) n Q a1' w1
    refine g n ro ρ1 _ a1' w1 Q (pre_on hS hp p1 r1) ha1 fun e2 a2 s2 hΦ2 hS2 hN2 ρ2 a2' w2 p2 r2 ha2 => ?_
    refine hQ e2 a2 s2 hΦ2 (stat_and hS hS2) hN2 ρ2 a2' w2 (post_on hp hS hN hS2 p1 p2) ?_ ha2
    rwa [upd_on hS hS2] at r2
  · have := hQ e a1 s1 g hS hN ρ1 a1' w1 p1 r1 ha1
    cases e with
    | normal => exact absurd rfl he
    | _ => exact this
theorem sndP_loop {c : Code} {Φ : Exit → Act → St → Prop} (h : SndP P rd (LoopFrom P c) N R W a s Φ) : SndP P rd (TC P (.loop c)) N R W a s Φ :=
  fun n ro ρ C a' w Q hp ha hQ => loop_of_from (h n ro ρ C a' w Q hp ha hQ)
theorem sndP_cond {x y : Code} {c : Operand} {t : Bool} {Φ : Exit → Act → St → Prop} (hx : okOp P c = true) (hc : a.eval c = .bool t) (h : SndP P rd (TC P (if t then x else y)) N R W a s Φ) : SndP P rd (TC P (.cond c x y)) N R W a s Φ := by
  intro n ro ρ C a' w Q hp ha hQ
  have hv := okOp_vr hp.glob ha.tmps hx
  rw [hc] at hv
  have he : a'.eval c = .bool t := by generalize a'.eval c = z at hv; cases hv; rfl
  exact wpIn_cond he (h n ro ρ C a' w Q hp ha hQ)
theorem sndP_block {id : Nat} {c : Code} {Φ : Exit → Act → St → Prop} (h : SndP P rd (TC P c) N R W a s fun e a1 s1 => Φ (outOf id e) a1 s1) : SndP P rd (TC P (.block id c)) N R W a s Φ := by
  intro n ro ρ C a' w Q hp ha hQ
  refine wpIn_block (h n ro ρ C a' w _ hp ha fun e a1 s1 hΦ hS hN ρ1 a1' w1 p1 r1 ha1 => ?_)
  have hq := hQ _ a1 s1 hΦ hS hN ρ1 a1' w1 p1 r1 ha1
  cases e with
  | exit i =>
    simp only [outOf] at hq
    simp only [Exit.inBlock]
    by_cases c : i = id
    · rw [if_pos c] at hq ⊢; exact hq
    · rw [if_neg c] at hq ⊢; exact hq
  | _ => exact hq
theorem sndP_scope {c : Code} {Φ : Exit → Act → St → Prop} (h : SndP P rd (TC P c) N R W a s fun e a1 s1 => isGoto e = false ∧ Φ e a1 s1) : SndP P rd (TC P (.scope c)) N R W a s Φ := by
  intro n ro ρ C a' w Q hp ha hQ
  refine wpIn_scope_straight (h n ro ρ C a' w _ hp ha fun e a1 s1 hΦ hS hN ρ1 a1' w1 p1 r1 ha1 => ?_)
  have hq := hQ e a1 s1 hΦ.2 hS hN ρ1 a1' w1 p1 r1 ha1
  cases e with
  | goto l => simp [isGoto] at hΦ
  | _ => exact hq
def SndOP (P : Program) (rd : Option Nat) (o : Oper) (vals : Operand → Value) (N R W : Nat) (s : St) (Ψ : Value → St → Prop) : Prop :=
  ∀ (n : Nat) (ro : Option Nat) (ρ : Ren) (C : Nat → MObj) (a' : Act) (w : World) (next : Act → World → Prop) (Q : Exit → Act → World → Prop), Pre P rd s (upto N) R W ro ρ C w →
    (∀ x, x ∈ o.op.operands → VR ρ (vals x) (a'.eval x)) →
    (∀ v s1, Ψ v s1 → Stat s s1 W → s1.next ≤ N → ∀ ρ1 v' w1, Post ρ s s1 W w ρ1 w1 → WRel ρ1 (upd C s s1 W) w1 → VR ρ1 v v' → next (a'.put o.dst v') w1) → o.wpIn (Fw ro) n P a' w next Q
theorem SndOP.of {o : Oper} {vals : Operand → Value} {v : Value} {Ψ : Value → St → Prop} (h : SndO P rd o vals s v s1 R1 W1) (hN : s1.next ≤ N) (hR : ∀ b, R1.testBit b = true → b < s.next → R.testBit b = true) (hW : ∀ b, W1.testBit b = true → b < s.next → W.testBit b = true) (hΨ : Ψ v s1) : SndOP P rd o vals N R W s Ψ := by
  intro n ro ρ C a' w next Q hp hv hn
  refine h.2 n ro ρ C a' w next Q (pre_more hN hR hW hp) hv fun ρ1 v' w1 p1 r1 h1 => hn v s1 hΨ (stat_more hW h.1) hN ρ1 v' w1 (post_more hW p1) ?_ h1
  rw [← upd_more h.1 hp.agree hW]
  exact r1
theorem opsP_yes {ops : Array Oper} {i : Nat} {rest : List Nat} {o : Oper} {Ψ : Value → St → Prop} {Φ : Exit → Act → St → Prop} (ho : ops[i]? = some o) (hw : Region.wanted o (yielded ops a.tmps) = true) (hx : okAll P ops o a = true)
    (h : SndOP P rd o a.eval N R W s Ψ) (g : ∀ v s1, Ψ v s1 → SndP P rd (TOps P ops rest) N R W (a.put o.dst v) s1 Φ) : SndP P rd (TOps P ops (i :: rest)) N R W a s Φ := by
  intro n ro ρ C a' w Q hp ha hQ
  show wpOpsIn (Fw ro) n P ops Q (i :: rest) a' w
  simp only [wpOpsIn, ho]
  rw [wanted_eq ha.tmps (okAll_guard hx), if_pos hw]
  have hx := okAll_ops hx
  refine h n ro ρ C a' w _ Q hp (fun x hm => okOp_vr hp.glob ha.tmps (by rw [List.all_eq_true] at hx; exact hx x (by simpa using hm))) fun v s1 hΨ hS hN ρ1 v' w1 p1 r1 hv => ?_
  refine g v s1 hΨ n ro ρ1 _ _ w1 Q (pre_on hS hp p1 r1) ((ha.mono p1.sub).put o.dst hv) fun e2 a2 s2 hΦ2 hS2 hN2 ρ2 a2' w2 p2 r2 ha2 => ?_
  refine hQ e2 a2 s2 hΦ2 (stat_and hS hS2) hN2 ρ2 a2' w2 (post_on hp hS hN hS2 p1 p2) ?_ ha2
  rwa [upd_on hS hS2] at r2
theorem opsP_no {ops : Array Oper} {i : Nat} {rest : List Nat} {o : Oper} {Φ : Exit → Act → St → Prop} (ho : ops[i]? = some o) (hw : Region.wanted o (yielded ops a.tmps) = false) (hx : okAll P ops o a = true)
    (g : SndP P rd (TOps P ops rest) N R W (a.put o.dst undef) s Φ) : SndP P rd (TOps P ops (i :: rest)) N R W a s Φ := by
  intro n ro ρ C a' w Q hp ha hQ
  show wpOpsIn (Fw ro) n P ops Q (i :: rest) a' w
  simp only [wpOpsIn, ho]
  rw [wanted_eq ha.tmps (okAll_guard hx), if_neg (by rw [hw]; simp)]
  exact ⟨fun f _ => Fw_fn ro f, g n ro ρ C _ w Q hp (ha.put o.dst (undef_vr ρ)) hQ⟩
theorem opsP_nil {ops : Array Oper} {Φ : Exit → Act → St → Prop} (hΦ : Φ .normal a s) (hN : s.next ≤ N) : SndP P rd (TOps P ops []) N R W a s Φ :=
  SndP.of snd_ops_nil hN (fun b h => by simp at h) (fun b h => by simp at h) hΦ
theorem regionP {id : Nat} {ops : Array Oper} {Φ : Exit → Act → St → Prop} (h : SndP P rd (TOps P ops (List.range ops.size)) N R W a s Φ) : SndP P rd (TC P (.region id ops false)) N R W a s Φ :=
  fun n ro ρ C a' w Q hp ha hQ => wpIn_region (h n ro ρ C a' w Q hp ha hQ)
end

section
variable {P : Program} {rd : Option Nat} {s s1 : St} {R W N : Nat} {ro : Option Nat} {ρ : Ren} {C : Nat → MObj} {w : World}
theorem miter_of {b m si la : Nat} {sn : List Nat} (hr : WRel ρ C w) (hc : C b = .miter m si sn la) : ∃ L L' sn', ρ b = some L ∧ L.base = 0 ∧ ρ m = some L' ∧ sn'.toList = sn ∧ w.heap[L.blk]? = some (.mapIter (some L'.blk) si sn' la) := by
  obtain ⟨L, o', h1, h2, h3⟩ := hr.1 b (by rw [hc]; simp)
  rw [hc] at h3
  cases o' with
  | mapIter m' si' sn' la' =>
    obtain ⟨rfl, h4, rfl, h5, L', h6, rfl⟩ := h3
    exact ⟨L, L', sn', h1, h5, h6, h4, h2⟩
  | _ => simp [OR] at h3
def evRangeM (P : Program) (t : TypeId) (x : Value) (s : St) : Option Out :=
  match P.underlying t, x with
  | some (.map _ _), .map (some b) => match s.get b with
    | .map _ k => some (.pointer (some ⟨s.next, 0, none⟩), s.push (.miter b k [] k), 2 ^ b, 0)
    | _ => none
  | _, _ => none
theorem evRangeM_snd {o : Oper} {vals : Operand → Value} {t : TypeId} {x : Operand} {v : Value} (h : o.op = .range t x) (he : evRangeM P t (vals x) s = some (v, s1, R, W)) : SndO P rd o vals s v s1 R W := by
  unfold evRangeM at he
  split at he
  · rename_i kt et b ht hx
    split at he
    · rename_i es k hb
      simp only [Option.some.injEq, Prod.mk.injEq] at he
      obtain ⟨rfl, rfl, rfl, rfl⟩ := he
      refine sndO_of (fun c => by rw [h]; simp) (stat_push s _) fun ro ρ C ev w hp hv => ?_
      have h1 := hv x (by simp [h, Op.operands])
      rw [hx] at h1
      obtain ⟨L, k1, k2⟩ := map_inv h1
      have hbb := hp.agree b (by rw [or_bit, bit_self]; simp) (St.lt_of_live (by rw [hb]; simp))
      obtain ⟨L', es', g1, g2, g3⟩ := map_of hp.rel (hbb.trans hb)
      rw [k1] at g1
      cases g1
      obtain ⟨p1, r1, hs⟩ := step_new (o := .miter b k [] k) (o' := .mapIter (some L.blk) k #[] k) (L := ⟨w.heap.size, 0, false, 0, 0⟩) hp rfl ⟨rfl, rfl, rfl, rfl, L, k1, rfl⟩
      refine ⟨_, _, _, .inl ?_, p1, r1, .ptr s.next 0 ⟨w.heap.size, 0, false, 0, 0⟩ hs⟩
      simp [execOp, h, k2, run_range_map w t kt et L.blk es'  k ht g2]
    · cases he
  · cases he
theorem find_born {st : Nat} : ∀ (es es' : List MapEntry), ERs ρ es es' → ∀ e, es.find? (fun e => e.born == st) = some e → ∃ e', es'.find? (fun e => e.born == st) = some e' ∧ VR ρ e.key e'.key ∧ VR ρ e.val e'.val
  | [], _, _, e, he => by simp at he
  | e0 :: es, [], h, e, he => by have := h.1; simp at this
  | e0 :: es, e1 :: es', h, e, he => by
    obtain ⟨e2, h1, h2, h3, h4⟩ := h.2 0 e0 rfl
    simp at h1
    subst h1
    have ht : ERs ρ es es' := ⟨by have := h.1; simpa using this, fun i x hx => by have := h.2 (i + 1) x (by simpa using hx); simpa using this⟩
    rw [List.find?_cons] at he
    rw [List.find?_cons, h2]
    split at he
    · cases he; exact ⟨e1, rfl, h3, h4⟩
    · exact find_born es es' ht e he
def evEntryM (x : Value) (s : St) : Option Out :=
  match x with
  | .pointer (some ⟨r, 0, none⟩) => match s.get r with
    | .miter m _ sn la => match s.get m, sn.reverse with
      | .map es k, st :: _ => match decide (k = la), es.find? (fun e => e.born == st) with
        | true, some e => some (.tuple #[e.key, e.val], s, 2 ^ r ||| 2 ^ m, 0)
        | _, _ => none
      | _, _ => none
    | _ => none
  | _ => none
theorem evEntryM_snd {o : Oper} {vals : Operand → Value} {x : Operand} {v : Value} (h : o.op = .entry x) (he : evEntryM (vals x) s = some (v, s1, R, W)) : SndO P rd o vals s v s1 R W := by
  unfold evEntryM at he
  split at he
  · rename_i r hx
    split at he
    · rename_i m si sn la hr0
      split at he
      · rename_i es k st rest hm hrev
        split at he
        · rename_i e hd hf
          simp only [Option.some.injEq, Prod.mk.injEq] at he
          obtain ⟨rfl, rfl, rfl, rfl⟩ := he
          refine sndO_still (fun c => by rw [h]; simp) fun ρ C ev w _ ag hr hxs => ?_
          have h1 := hxs x (by simp [h, Op.operands])
          rw [hx] at h1
          obtain ⟨L, k1, k2⟩ := ptr_inv h1
          have hbr := ag r (by rw [or_bit, bit_self]; rfl) (St.lt_of_live (by rw [hr0]; simp))
          have hbm := ag m (by rw [or_bit, bit_self, Bool.or_true]) (St.lt_of_live (by rw [hm]; simp))
          obtain ⟨L1, Lm, sn', g1, g2, g3, g4, g5⟩ := miter_of hr (hbr.trans hr0)
          rw [k1] at g1
          cases g1
          obtain ⟨L2, es', q1, q2, q3⟩ := map_of hr (hbm.trans hm)
          rw [g3] at q1
          cases q1
          obtain ⟨e', f1, f2, f3⟩ := find_born es es'.toList q3 e hf
          have hk : k = la := of_decide_eq_true hd
          subst hk
          have hb : sn'.back? = some st := by rw [← Array.getLast?_toList, g4, List.getLast?_eq_head?_reverse, hrev]; rfl
          have hfa : es'.find? (fun e => e.born == st) = some e' := by rw [← Array.find?_toList]; exact f1
          have m1 : (getObj L.blk).run P w = .ok (.mapIter (some Lm.blk) si sn' k) w := by simp [getObj, Sem.run, g5]
          have m2 : (getObj Lm.blk).run P w = .ok (.map es' k) w := by simp [getObj, Sem.run, q2]
          refine ⟨.tuple #[e'.key, e'.val], ?_, ?_⟩
          · simp [execOp, h, k2, g2, Instr.entry, m1, m2, hb, hfa]
          · refine .tuple _ _ rfl fun i y y' h1 h2 => ?_
            match i, h1, h2 with
            | 0, h1, h2 => simp at h1 h2; subst h1 h2; exact f2
            | 1, h1, h2 => simp at h1 h2; subst h1 h2; exact f3
            | i + 2, h1, h2 => simp at h1
        · cases he
      · cases he
    · cases he
  · cases he
def candM (m si : Nat) (sn : List Nat) (es : List MapEntry) : Option (List MapEntry) := match es.all fun e => Nat.blt e.born si with
  | true => some (es.filter fun e => !sn.contains e.born)
  | false => none
def nextM (x : Value) (s : St) : Option (List (Value × St) × Nat × Nat) :=
  match x with
  | .pointer (some ⟨r, 0, none⟩) => match s.get r with
    | .miter m si sn la => match s.get m, Nat.ble si la with
      | .map es k, true => match candM m si sn es with
        | some [] => some ([(.tuple #[.bool false], s)], r, m)
        | some l => some (l.map fun e => (.tuple #[.bool true, e.key, e.val], s.put r (.miter m si (sn ++ [e.born]) k)), r, m)
        | none => none
      | _, _ => none
    | _ => none
  | _ => none
theorem ers_size {es es' : List MapEntry} (h : ERs ρ es es') : es'.length = es.length := h.1
theorem ers_mem' {es es' : List MapEntry} (h : ERs ρ es es') {e' : MapEntry} (he : e' ∈ es') : ∃ e, e ∈ es ∧ e'.born = e.born ∧ VR ρ e.key e'.key ∧ VR ρ e.val e'.val := by
  obtain ⟨i, hi, rfl⟩ := List.mem_iff_getElem.1 he
  have hl : i < es.length := by rw [← h.1]; exact hi
  obtain ⟨e2, k1, k2, k3, k4⟩ := h.2 i es[i] (List.getElem?_eq_getElem hl)
  rw [List.getElem?_eq_getElem hi] at k1
  cases k1
  exact ⟨es[i], List.getElem_mem hl, k2, k3, k4⟩
theorem sndOP_next {o : Oper} {vals : Operand → Value} {x : Operand} {l : List (Value × St)} {r m : Nat} (h : o.op = .next x false) (he : nextM (vals x) s = some (l, r, m)) (hRr : (R ||| W).testBit r = true) (hRm : (R ||| W).testBit m = true) (hW : W.testBit r = true) (hN : s.next ≤ N) :
    SndOP P rd o vals N R W s fun v s1 => (v, s1) ∈ l := by
  unfold nextM at he
  split at he
  · rename_i r0 hx
    split at he
    · rename_i m0 si sn la hr
      split at he
      · rename_i es k hm hsc
        have hsc := Nat.le_of_ble_eq_true hsc
        have hrl : s.get r0 ≠ .hole := by rw [hr]; simp
        have key : r0 = r ∧ m0 = m ∧ ∃ cs, candM m0 si sn es = some cs ∧ (cs = [] → l = [(.tuple #[.bool false], s)]) ∧ (cs ≠ [] → l = cs.map fun e => (.tuple #[.bool true, e.key, e.val], s.put r0 (.miter m0 si (sn ++ [e.born]) k))) := by
          split at he
          · rename_i hc
            simp only [Option.some.injEq, Prod.mk.injEq] at he
            obtain ⟨rfl, rfl, rfl⟩ := he
            exact ⟨rfl, rfl, [], hc, fun _ => rfl, fun h => absurd rfl h⟩
          · rename_i cs hne hc
            simp only [Option.some.injEq, Prod.mk.injEq] at he
            obtain ⟨rfl, rfl, rfl⟩ := he
            exact ⟨rfl, rfl, cs, hc, fun h => (hne h).elim, fun _ => rfl⟩
          · cases he
        obtain ⟨rfl, rfl, cs, hcs, hnil, hcons⟩ := key
        intro n ro ρ C a' w next Q hp hv hn
        have h1 := hv x (by simp [h, Op.operands])
        rw [hx] at h1
        obtain ⟨L, k1, k2⟩ := ptr_inv h1
        have hbr := hp.agree r0 hRr (St.lt_of_live hrl)
        have hbm := hp.agree m0 hRm (St.lt_of_live (by rw [hm]; simp))
        obtain ⟨L1, Lm, sn', g1, g2, g3, g4, g5⟩ := miter_of hp.rel (hbr.trans hr)
        rw [k1] at g1
        cases g1
        obtain ⟨L2, es', q1, q2, q3⟩ := map_of hp.rel (hbm.trans hm)
        rw [g3] at q1
        cases q1
        unfold candM at hcs
        split at hcs
        · rename_i hall
          cases hcs
          have hold : ∀ y ∈ es'.toList, y.born < si := fun y hy => by
            obtain ⟨e, he1, he2, _⟩ := ers_mem' q3 hy
            rw [List.all_eq_true] at hall
            have := hall e he1
            rw [he2]
            simpa [Nat.blt_eq] using this
          refine ⟨fun f _ => Fw_fn ro f, ?_⟩
          rw [Oper.semAt_eq _ _ _ (fun c => by rw [h]; simp)]
          have hz : ∀ b, (0 : Nat).testBit b = true → b < s.next → W.testBit b = true := fun b hb => by simp at hb
          rcases run_next_at (P := P) w o.type L.blk Lm.blk si la sn' es' k g5 q2 hold hsc with ⟨h0, hrun⟩ | ⟨e', he', w1, hw1, hrun⟩
          · have hex : (execOp a'.eval o).run P w = .ok (.value (.tuple #[.bool false])) w := by simp [execOp, h, k2, g2, hrun]
            rw [hex]
            have hcs0 : (es.filter fun e => !sn.contains e.born) = [] := by
              rw [List.filter_eq_nil_iff]
              intro e he hc
              obtain ⟨i, hi, rfl⟩ := List.mem_iff_getElem.1 he
              obtain ⟨e2, j1, j2, _⟩ := q3.2 i es[i] (List.getElem?_eq_getElem hi)
              have hm2 : e2 ∈ (leftOf es' sn').toList := by
                unfold leftOf
                simp only [Array.toList_filter, List.mem_filter]
                refine ⟨List.mem_of_getElem? j1, ?_⟩
                rw [j2]
                rw [← g4] at hc
                simpa using hc
              have : (leftOf es' sn').toList.length = 0 := by simpa using h0
              rw [List.length_eq_zero_iff] at this
              rw [this] at hm2
              cases hm2
            refine hn (.tuple #[.bool false]) s (by rw [hnil hcs0]; simp) (stat_more hz (Stat.refl s)) hN ρ _ w (post_more hz (Post.refl ρ s w)) ?_ (ground_refl 12 rfl)
            rw [← upd_more (Stat.refl s) hp.agree hz, upd_zero]
            exact hp.rel
          · have he2 := he'
            unfold leftOf at he2
            simp only [Array.toList_filter, List.mem_filter] at he2
            obtain ⟨e, m1, m2, m3, m4⟩ := ers_mem' q3 he2.1
            have hin : e ∈ es.filter fun e => !sn.contains e.born := by
              rw [List.mem_filter]
              refine ⟨m1, ?_⟩
              have := he2.2
              rw [m2] at this
              rw [← g4]
              simpa using this
            have hne : (es.filter fun e => !sn.contains e.born) ≠ [] := fun hq => by rw [hq] at hin; cases hin
            have hlt : L.blk < w1.heap.size := by
              have : L.blk < w.heap.size := lt_of_some g5
              rcases hw1 with rfl | rfl
              · exact this
              · exact this
            have hex : (execOp a'.eval o).run P w = .ok (.value (.tuple #[.bool true, e'.key, e'.val])) (setBlock w1 L.blk (.mapIter (some Lm.blk) si (sn'.push e'.born) k)) := by simp [execOp, h, k2, g2, hrun]
            rw [hex]
            have hWr : ∀ b, (2 ^ r0).testBit b = true → b < s.next → W.testBit b = true := fun b hb _ => by rw [bit_iff.1 hb]; exact hW
            have off : OneOff w L.blk (setBlock w1 L.blk (.mapIter (some Lm.blk) si (sn'.push e'.born) k)) := by
              rcases hw1 with rfl | rfl
              · exact ⟨by simp [setBlock], fun y hy => by simp [setBlock, Array.getElem?_setIfInBounds, Ne.symm hy], rfl, rfl, rfl⟩
              · exact ⟨by show (w.heap.setIfInBounds L.blk _).size = _; simp, fun y hy => by show (w.heap.setIfInBounds L.blk _)[y]? = _; simp [Array.getElem?_setIfInBounds, Ne.symm hy], rfl, rfl, rfl⟩
            obtain ⟨p1, r1⟩ := step_put (b := r0) (o := .miter m0 si (sn ++ [e.born]) k) (o1 := .mapIter (some Lm.blk) si (sn'.push e'.born) k) (o' := .mapIter (some Lm.blk) si sn' la) (R := 0)
              (pre_more (s1 := s.put r0 (.miter m0 si (sn ++ [e.born]) k)) hN (fun b hb => by simp at hb) hWr hp) hrl (by rw [hr]; rfl) k1 off
              (by simp [setBlock, Array.getElem?_setIfInBounds, hlt]) ⟨rfl, by simp [g4, m2], rfl, g2, Lm, g3, rfl⟩
            refine hn (.tuple #[.bool true, e.key, e.val]) (s.put r0 (.miter m0 si (sn ++ [e.born]) k)) (by rw [hcons hne]; exact List.mem_map.2 ⟨e, hin, rfl⟩) (stat_more hWr (stat_put hrl _)) hN ρ _ _ (post_more hWr p1) ?_ ?_
            · rw [← upd_more (stat_put hrl _) hp.agree hWr]
              exact r1
            · refine .tuple _ _ rfl fun i y y' h1 h2 => ?_
              match i, h1, h2 with
              | 0, h1, h2 => simp at h1 h2; subst h1 h2; exact .bool _
              | 1, h1, h2 => simp at h1 h2; subst h1 h2; exact m3
              | 2, h1, h2 => simp at h1 h2; subst h1 h2; exact m4
              | i + 3, h1, h2 => simp at h1
        · cases hcs
      · cases he
    · cases he
  · cases he
end

section
variable {P : Program} {s s1 : St}
def RRN (N : Nat) : Nat := 2 ^ N - 1
def WWN (lo N : Nat) : Nat := ((2 ^ N - 1) >>> lo) <<< lo
theorem RRN_bit {N b : Nat} (h : b < N) : (RRN N).testBit b = true := by unfold RRN; rw [Nat.testBit_two_pow_sub_one]; simpa using h
theorem WWN_bit {lo N b : Nat} : (WWN lo N).testBit b = true ↔ lo ≤ b ∧ b < N := by
  unfold WWN
  rw [Nat.testBit_shiftLeft, Nat.testBit_shiftRight, Nat.testBit_two_pow_sub_one]
  simp only [Bool.and_eq_true, decide_eq_true_eq]
  constructor
  · rintro ⟨h1, h2⟩; exact ⟨h1, by omega⟩
  · rintro ⟨h1, h2⟩; exact ⟨h1, by omega⟩
def okMask (lo N : Nat) (s1 : St) (W1 : Nat) : Bool := Nat.ble s1.next N && Nat.beq (W1 % 2 ^ lo) 0
theorem okMask_iff {lo N W1 : Nat} (h : okMask lo N s1 W1 = true) : s1.next ≤ N ∧ W1 % 2 ^ lo = 0 := by
  simp only [okMask, Bool.and_eq_true] at h
  exact ⟨Nat.le_of_ble_eq_true h.1, Nat.eq_of_beq_eq_true h.2⟩
theorem mask_low {lo N W1 : Nat} (hs : s.next ≤ N) (h : W1 % 2 ^ lo = 0) : ∀ b, W1.testBit b = true → b < s.next → (WWN lo N).testBit b = true := fun b hb hlt => by
  rw [WWN_bit]
  refine ⟨?_, by omega⟩
  rcases Nat.lt_or_ge b lo with c | c
  · rw [low_bit h c] at hb; cases hb
  · exact c
theorem mask_R {N R1 : Nat} (hs : s.next ≤ N) : ∀ b, R1.testBit b = true → b < s.next → (RRN N).testBit b = true := fun b _ hlt => RRN_bit (by omega)
def bindL {α β : Type} (f : α → Option (List β)) : List α → Option (List β)
  | [] => some []
  | x :: xs => match f x with
    | some l => match bindL f xs with
      | some r => some (l ++ r)
      | none => none
    | none => none
theorem bindL_mem {α β : Type} {f : α → Option (List β)} : ∀ {l : List α} {r : List β}, bindL f l = some r → ∀ x, x ∈ l → ∃ q, f x = some q ∧ ∀ y, y ∈ q → y ∈ r
  | [], r, h, x, hx => by cases hx
  | z :: xs, r, h, x, hx => by
    simp only [bindL] at h
    split at h
    · rename_i q hq
      split at h
      · rename_i r' hr
        cases h
        rcases List.mem_cons.1 hx with rfl | hx
        · exact ⟨q, hq, fun y hy => List.mem_append_left _ hy⟩
        · obtain ⟨q2, h1, h2⟩ := bindL_mem hr x hx
          exact ⟨q2, h1, fun y hy => List.mem_append_right _ (h2 y hy)⟩
      · cases h
    · cases h
def stepL (P : Program) (F : FY) (lo N : Nat) (ops : Array Oper) (o : Oper) (a : MA) (s : St) : Option (List (MA × St)) :=
  match a.okAll P ops o with
  | false => none
  | true => match Region.wanted o (a.yielded ops) with
    | false => some [(a.put o.dst undef, s)]
    | true => match evOpY P F a.eval o s with
      | some (v, s1, _, W1) => match okMask lo N s1 W1 with
        | true => some [(a.put o.dst v, s1)]
        | false => none
      | none => match o.op with
        | .range t x => match evRangeM P t (a.eval x) s with
          | some (v, s1, _, W1) => match okMask lo N s1 W1 with
            | true => some [(a.put o.dst v, s1)]
            | false => none
          | none => none
        | .next x false => match nextM (a.eval x) s with
          | some (l, r, m) => match Nat.ble lo r && Nat.blt r s.next && Nat.blt m s.next with
            | true => some (l.map fun p => (a.put o.dst p.1, p.2))
            | false => none
          | none => none
        | .entry x => match evEntryM (a.eval x) s with
          | some (v, s1, _, W1) => match okMask lo N s1 W1 with
            | true => some [(a.put o.dst v, s1)]
            | false => none
          | none => none
        | _ => none
def runL (P : Program) (F : FY) (lo N : Nat) (ops : Array Oper) : List Oper → MA → St → Option (List (MA × St))
  | [], a, s => some [(a, s)]
  | o :: os, a, s => match stepL P F lo N ops o a s with
    | some l => bindL (fun p => runL P F lo N ops os p.1 p.2) l
    | none => none
theorem ops_runL {F : FY} {lo N : Nat} {ops : Array Oper} {rd : Option Nat} (hF : FYOk P F) : ∀ (os : List Oper) (i : Nat) (a : MA) (s : St) (l : List (MA × St)), s.next ≤ N → runL P F lo N ops os a s = some l → (∀ k o, os[k]? = some o → ops[i + k]? = some o) →
    SndP P rd (TOps P ops (List.range' i os.length)) N (RRN N) (WWN lo N) a.act s fun e a1 s1 => e = .normal ∧ s1.next ≤ N ∧ ∃ m, (m, s1) ∈ l ∧ m.act = a1
  | [], i, a, s, l, hs, h, ho => by cases h; exact opsP_nil ⟨rfl, hs, a, by simp, rfl⟩ hs
  | o :: os, i, a, s, l, hs, h, ho => by
    simp only [runL] at h
    split at h
    · rename_i q hq
      have hoi : ops[i]? = some o := ho 0 o rfl
      have rest : ∀ (p : MA × St), p ∈ q → p.2.next ≤ N → SndP P rd (TOps P ops (List.range' (i + 1) os.length)) N (RRN N) (WWN lo N) p.1.act p.2 fun e a1 s1 => e = .normal ∧ s1.next ≤ N ∧ ∃ m, (m, s1) ∈ l ∧ m.act = a1 := fun p hp hpn => by
        obtain ⟨l2, h1, h2⟩ := bindL_mem h p hp
        have ih := ops_runL (rd := rd) hF os (i + 1) p.1 p.2 l2 hpn h1 (fun k o hk => by rw [show i + 1 + k = i + (k + 1) from by omega]; exact ho (k + 1) o (by simpa using hk))
        intro n ro ρ C a' w Q hp' ha hQ
        exact ih n ro ρ C a' w Q hp' ha fun e a1 s1 ⟨k1, k2, m, k3, k4⟩ => hQ e a1 s1 ⟨k1, k2, m, h2 _ k3, k4⟩
      show SndP P rd (TOps P ops (i :: List.range' (i + 1) os.length)) _ _ _ _ _ _
      unfold stepL at hq
      split at hq
      · cases hq
      · rename_i hok
        rw [← MA.okAll_act] at hok
        split at hq
        · rename_i hw
          cases hq
          rw [← MA.yielded_act] at hw
          have := rest _ (List.mem_singleton.2 rfl) hs
          rw [MA.put_act] at this
          exact opsP_no hoi hw hok this
        · rename_i hw
          rw [← MA.yielded_act] at hw
          split at hq
          · rename_i v s2 R1 W1 he
            split at hq
            · rename_i hm
              cases hq
              obtain ⟨m1, m2⟩ := okMask_iff hm
              have h2 := evOpY_snd (rd := rd) hF he
              rw [← MA.eval_act] at h2
              refine opsP_yes hoi hw hok (SndOP.of (Ψ := fun v' s' => v' = v ∧ s' = s2) h2 m1 (mask_R hs) (mask_low hs m2) ⟨rfl, rfl⟩) fun v' s' ⟨e1, e2⟩ => ?_
              subst e1 e2
              have := rest _ (List.mem_singleton.2 rfl) m1
              rwa [MA.put_act] at this
            · cases hq
          · split at hq
            · rename_i t x hop
              split at hq
              · rename_i v s2 R1 W1 he
                split at hq
                · rename_i hm
                  cases hq
                  obtain ⟨m1, m2⟩ := okMask_iff hm
                  rw [← MA.eval_act] at he
                  have h2 := evRangeM_snd (rd := rd) hop he
                  refine opsP_yes hoi hw hok (SndOP.of (Ψ := fun v' s' => v' = v ∧ s' = s2) h2 m1 (mask_R hs) (mask_low hs m2) ⟨rfl, rfl⟩) fun v' s' ⟨e1, e2⟩ => ?_
                  subst e1 e2
                  have := rest _ (List.mem_singleton.2 rfl) m1
                  rwa [MA.put_act] at this
                · cases hq
              · cases hq
            · rename_i x hop
              split at hq
              · rename_i l0 r m he
                split at hq
                · rename_i hm
                  simp only [Bool.and_eq_true] at hm
                  have b1 := Nat.le_of_ble_eq_true hm.1.1
                  have b2 : r < s.next := by simpa [Nat.blt_eq] using hm.1.2
                  have b3 : m < s.next := by simpa [Nat.blt_eq] using hm.2
                  simp only [Option.some.injEq] at hq
                  subst hq
                  rw [← MA.eval_act] at he
                  have hWr : (WWN lo N).testBit r = true := WWN_bit.2 ⟨b1, by omega⟩
                  have hn : ∀ v' s', (v', s') ∈ l0 → s'.next = s.next := fun v' s' hv => by
                    unfold nextM at he
                    split at he
                    · split at he
                      · split at he
                        · split at he
                          · simp only [Option.some.injEq, Prod.mk.injEq] at he
                            obtain ⟨rfl, _⟩ := he
                            simp at hv
                            rw [hv.2]
                          · simp only [Option.some.injEq, Prod.mk.injEq] at he
                            obtain ⟨rfl, _⟩ := he
                            obtain ⟨e, _, h3⟩ := List.mem_map.1 hv
                            simp only [Prod.mk.injEq] at h3
                            rw [← h3.2]; rfl
                          · cases he
                        · cases he
                      · cases he
                    · cases he
                  refine opsP_yes hoi hw hok (sndOP_next hop he (by rw [or_bit, hWr]; simp) (by rw [or_bit, RRN_bit (show m < N by omega)]; rfl) hWr hs) fun v' s' hv => ?_
                  have := rest (a.put o.dst v', s') (List.mem_map.2 ⟨(v', s'), hv, rfl⟩) (by rw [hn v' s' hv]; exact hs)
                  rwa [MA.put_act] at this
                · cases hq
              · cases hq
            · rename_i x hop
              split at hq
              · rename_i v s2 R1 W1 he
                split at hq
                · rename_i hm
                  cases hq
                  obtain ⟨m1, m2⟩ := okMask_iff hm
                  rw [← MA.eval_act] at he
                  have h2 := evEntryM_snd (P := P) (rd := rd) hop he
                  refine opsP_yes hoi hw hok (SndOP.of (Ψ := fun v' s' => v' = v ∧ s' = s2) h2 m1 (mask_R hs) (mask_low hs m2) ⟨rfl, rfl⟩) fun v' s' ⟨e1, e2⟩ => ?_
                  subst e1 e2
                  have := rest _ (List.mem_singleton.2 rfl) m1
                  rwa [MA.put_act] at this
                · cases hq
              · cases hq
            · cases hq
    · cases h
end

section
variable {P : Program} {s s1 : St}
abbrev OutN := Exit × MA × St
def ΦN (N : Nat) (L : List OutN) : Exit → Act → St → Prop := fun e a1 s1 => s1.next ≤ N ∧ ∃ m, (e, m, s1) ∈ L ∧ m.act = a1
theorem SndP.mono {rd : Option Nat} {T : Tr} {N R W : Nat} {a : Act} {Φ Φ2 : Exit → Act → St → Prop} (h : SndP P rd T N R W a s Φ) (g : ∀ e a1 s1, Φ e a1 s1 → Φ2 e a1 s1) : SndP P rd T N R W a s Φ2 :=
  fun n ro ρ C a' w Q hp ha hQ => h n ro ρ C a' w Q hp ha fun e a1 s1 hΦ => hQ e a1 s1 (g e a1 s1 hΦ)
def fyN (P : Program) (X : CallF) : FY := ⟨evFn P X (evC P X 1000), evY (evCR P X 1000)⟩
def evL (P : Program) (X : CallF) (lo N : Nat) : Nat → Bool → Code → MA → St → Option (List OutN)
  | 0, _, _, _, _ => none
  | k + 1, flag, c, a, s => match evC P X 1000 flag c a s with
    | some (e, a1, s1, _, W1) => match okMask lo N s1 W1 with
      | true => some [(e, a1, s1)]
      | false => none
    | none => match flag with
      | true => match evL P X lo N k false c a s with
        | some l => bindL (fun o => match isNormal o.1 with
          | true => evL P X lo N k true c o.2.1 o.2.2
          | false => some [o]) l
        | none => none
      | false => match c with
        | .seq x y => match evL P X lo N k false x a s with
          | some l => bindL (fun o => match isNormal o.1 with
            | true => evL P X lo N k false y o.2.1 o.2.2
            | false => some [o]) l
          | none => none
        | .cond x t f => match okOp P x, a.eval x with
          | true, .bool b => evL P X lo N k false (if b then t else f) a s
          | _, _ => none
        | .block id x => match evL P X lo N k false x a s with
          | some l => some (l.map fun o => (outOf id o.1, o.2.1, o.2.2))
          | none => none
        | .loop x => evL P X lo N k true x a s
        | .scope x => match evL P X lo N k false x a s with
          | some l => match l.all fun o => Bool.not (isGoto o.1) with
            | true => some l
            | false => none
          | none => none
        | .region _ ops false => match runL P (fyN P X) lo N ops ops.toList a s with
          | some l => some (l.map fun p => (.normal, p.1, p.2))
          | none => none
        | _ => none
theorem evL_ok {X : CallF} {lo N : Nat} (hm : P.follows .mixedOrders = true) (hX : FOk P X) : ∀ (k : Nat) (flag : Bool) (c : Code) (a : MA) (s : St) (L : List OutN), s.next ≤ N → evL P X lo N k flag c a s = some L → SndP P none (TF P flag c) N (RRN N) (WWN lo N) a.act s (ΦN N L)
  | 0, flag, c, a, s, L, hs, h => by cases h
  | k + 1, flag, c, a, s, L, hs, h => by
    have seqs : ∀ {T1 T2 T : Tr} (hT : ∀ F n Q a w, T1 F n (Exit.then (T2 F n Q) Q) a w → T F n Q a w) (l : List OutN) (f : MA → St → Option (List OutN)), SndP P none T1 N (RRN N) (WWN lo N) a.act s (ΦN N l) →
        (∀ a1 s1 q, s1.next ≤ N → f a1 s1 = some q → SndP P none T2 N (RRN N) (WWN lo N) a1.act s1 (ΦN N q)) → bindL (fun o => match isNormal o.1 with
          | true => f o.2.1 o.2.2
          | false => some [o]) l = some L → SndP P none T N (RRN N) (WWN lo N) a.act s (ΦN N L) := fun {T1 T2 T} hT l f h1 h2 hb => by
      refine SndP.bind (T1 := T1) (T2 := T2) hT h1 fun e a1 s1 ⟨hn, m, hmem, hact⟩ => ?_
      obtain ⟨q, k1, k2⟩ := bindL_mem hb _ hmem
      simp only at k1
      split at k1
      · rename_i hno
        refine .inl ⟨isNormal_iff hno, ?_⟩
        rw [← hact]
        exact (h2 m s1 q hn k1).mono fun e2 a2 s2 ⟨j1, m2, j2, j3⟩ => ⟨j1, m2, k2 _ j2, j3⟩
      · rename_i hno
        cases k1
        exact .inr ⟨isNormal_no hno, hn, m, k2 _ (List.mem_singleton.2 rfl), hact⟩
    unfold evL at h
    split at h
    · rename_i e a1 s1 R1 W1 he
      split at h
      · rename_i hmk
        cases h
        obtain ⟨m1, m2⟩ := okMask_iff hmk
        exact SndP.of (evC_ok hm hX 1000 _ _ _ _ _ _ _ _ _ he) m1 (mask_R hs) (mask_low hs m2) ⟨m1, a1, by simp, rfl⟩
      · cases h
    · split at h
      · split at h
        · rename_i l hl
          exact seqs (T1 := TC P c) (T2 := LoopFrom P c) (fun _ _ _ _ _ h => loopFrom_step h) l (evL P X lo N k true c) (evL_ok hm hX k false c a s l hs hl) (fun a1 s1 q hn hq => evL_ok hm hX k true c a1 s1 q hn hq) h
        · cases h
      · split at h
        · rename_i x y _
          split at h
          · rename_i l hl
            exact seqs (T1 := TC P x) (T2 := TC P y) (fun _ _ _ _ _ h => wpIn_seq h) l (evL P X lo N k false y) (evL_ok hm hX k false x a s l hs hl) (fun a1 s1 q hn hq => evL_ok hm hX k false y a1 s1 q hn hq) h
          · cases h
        · rename_i x t f _
          split at h
          · rename_i b hx hb
            rw [← MA.eval_act] at hb
            exact sndP_cond hx hb (evL_ok hm hX k false _ a s L hs h)
          · cases h
        · rename_i id x _
          split at h
          · rename_i l hl
            cases h
            exact sndP_block ((evL_ok hm hX k false x a s l hs hl).mono fun e a1 s1 ⟨j1, m, j2, j3⟩ => ⟨j1, m, List.mem_map.2 ⟨_, j2, rfl⟩, j3⟩)
          · cases h
        · rename_i x _
          exact sndP_loop (evL_ok hm hX k true x a s L hs h)
        · rename_i x _
          split at h
          · rename_i l hl
            split at h
            · rename_i hall
              cases h
              refine sndP_scope ((evL_ok hm hX k false x a s _ hs hl).mono fun e a1 s1 ⟨j1, m, j2, j3⟩ => ⟨?_, j1, m, j2, j3⟩)
              rw [List.all_eq_true] at hall
              have := hall _ j2
              simpa using this
            · cases h
          · cases h
        · rename_i id ops _
          split at h
          · rename_i l hl
            cases h
            have hF : FYOk P (fyN P X) := ⟨evFn_ok hX (evC_ok hm hX 1000), evY_ok (fun rd => evCR_ok hm hX 1000 rd)⟩
            have := ops_runL (rd := none) hF ops.toList 0 a s l hs hl (fun k o hk => by simpa using hk)
            refine regionP ?_
            rw [List.range_eq_range', show ops.size = ops.toList.length by simp]
            exact this.mono fun e a1 s1 ⟨j1, j2, m, j3, j4⟩ => ⟨j2, m, List.mem_map.2 ⟨(m, s1), j3, by rw [j1]⟩, j4⟩
          · cases h
        · cases h
end

section
variable {P : Program} {s s1 : St}
theorem sndF_nd {f : FuncId} {fn : Func} {c : Code} {args : Array Value} {N : Nat} {L : List OutN} {n cp : Nat} {cs : List Value} {el : TypeId} {opn : Bool} {sz : Nat} (hf : P.funcs[f]? = some fn) (hb : fn.body = some c) (hs : s.next ≤ N)
    (hL : SndP P none (TC P c) N (RRN N) (WWN s.next N) (startA fn args) s (ΦN N L)) (hcs : cs.all (ground 8) = true)
    (hk : ∀ e m s1, (e, m, s1) ∈ L → (e = .normal ∨ e = .ret) ∧ m.act.defers = [] ∧ ∃ b R2, resultsL P s1 m.act.tmps fn.results.toList = some ([.slice (some ⟨b, 0, none⟩) n cp], R2) ∧ s1.get b = .cells cs el opn sz false ∧ s.next ≤ b) :
    SndF P f args s (.slice (some ⟨N, 0, none⟩) n cp) ((s.gc (upto N)).push (.cells cs el opn sz false)) (RRN s.next) 0 := by
  have hgn : (s.gc (upto N)).next = N := rfl
  have hpn : ((s.gc (upto N)).push (.cells cs el opn sz false)).next = N + 1 := rfl
  have hget : ∀ b, ((s.gc (upto N)).push (.cells cs el opn sz false)).get b = if b = N then .cells cs el opn sz false else if b < s.next then s.get b else .hole := fun b => by
    by_cases e : b = N
    · subst e
      rw [if_pos rfl]
      exact St.get_push_new (s.gc (upto b)) _
    · rw [if_neg e]
      by_cases c1 : b < N
      · rw [St.get_push_old _ _ _ (by rw [hgn]; exact c1), St.gc_get (s1 := upto N) hs]
      · rw [St.get_beyond _ _ (by rw [hpn]; omega), if_neg (by omega)]
  refine ⟨⟨by rw [hpn]; omega, fun b hb _ => by rw [hget, if_neg (by omega), if_pos hb]⟩, fun n' ρ C args' w Q hp ha hQ => ?_⟩
  refine callsIn_of_wp hf hb (Fw_fn none f) ?_ rfl
  have hp1 : Pre P none s (upto N) (RRN N) (WWN s.next N) none ρ C w := ⟨hp.glob, hp.round, fun b _ hlt => hp.agree b (by rw [or_bit, RRN_bit hlt]; rfl) hlt, fun b h1 h2 => hp.free b h1 (by rw [hpn]; exact Nat.lt_succ_of_lt h2), hp.rel⟩
  refine hL n' none ρ C _ w _ hp1 (startA_ar ha) fun e a1 s1 ⟨hn, m, hmem, hact⟩ hS hN ρ1 a1' w1 p1 r1 ha1 => ?_
  obtain ⟨he, hd, b, R2, hres, hbc, hlo⟩ := hk e m s1 hmem
  subst hact
  have hWlo : ∀ x, (WWN s.next N).testBit x = true → x < s.next → False := fun x h1 h2 => by have := WWN_bit.1 h1; omega
  have hupd : ∀ x, x < s.next → upd C s s1 (WWN s.next N) x = C x := fun x hx => if_neg (by
    rintro (k | k)
    · omega
    · exact hWlo x k.1 k.2)
  have hag : ∀ x, R2.testBit x = true → x < s1.next → upd C s s1 (WWN s.next N) x = s1.get x := fun x _ hlt => by
    by_cases c1 : s.next ≤ x
    · exact if_pos (.inl ⟨c1, hlt⟩)
    · rw [hupd x (by omega), hp1.agree x (by rw [or_bit, RRN_bit (show x < N by omega)]; rfl) (by omega)]
      refine (hS.2 x (by omega) ?_).symm
      cases hw : (WWN s.next N).testBit x with
      | false => rfl
      | true => exact (hWlo x hw (by omega)).elim
  obtain ⟨v', g1, g2⟩ := results_run ha1.tmps r1 hres hag
  have hd' : a1'.defers = [] := by
    have := ha1.defs
    rw [hd] at this
    cases hdd : a1'.defers with
    | nil => rfl
    | cons x xs => rw [hdd] at this; exact this.elim
  have hblt : b < s1.next := St.lt_of_live (by rw [hbc]; simp)
  have hub : upd C s s1 (WWN s.next N) b = .cells cs el opn sz false := (if_pos (.inl ⟨hlo, hblt⟩)).trans hbc
  obtain ⟨L0, o', k1, k2, k3⟩ := r1.1 b (by rw [hub]; simp)
  rw [hub] at k3
  have hfr : ρ b = none := (hp1.free b hlo (Nat.lt_of_lt_of_le hblt hN)).1
  have hfN : ρ N = none := (hp.free N hs (by rw [hpn]; exact Nat.lt_succ_self _)).1
  have hbig : w.heap.size ≤ L0.blk := by
    rcases p1.fresh b L0 hfr k1 with k | ⟨b0, L', j1, j2, _⟩
    · exact k
    · exact (hWlo b0 j1 j2).elim
  have hkeep : ∀ x, x < w.heap.size → w1.heap[x]? = w.heap[x]? := fun x hx => p1.frame x hx fun b0 L' j1 j2 _ => (hWlo b0 j1 j2).elim
  obtain ⟨ρ2, hρ2⟩ : ∃ ρ2 : Ren, ρ2 = fun x => if x = N then some L0 else ρ x := ⟨_, rfl⟩
  have hN2 : ρ2 N = some L0 := by rw [hρ2]; exact if_pos rfl
  have ho2 : ∀ x, x ≠ N → ρ2 x = ρ x := fun x hx => by rw [hρ2]; exact if_neg hx
  have hle : ρ.le ρ2 := fun x L' hx => by
    by_cases e : x = N
    · subst e; rw [hfN] at hx; cases hx
    · rw [ho2 x e]; exact hx
  have hor : OR ρ2 L0 (.cells cs el opn sz false) o' := by
    cases o' <;> simp only [OR] at k3 ⊢
    obtain ⟨j1, j2, j3, j4, j5, j6, j7⟩ := k3
    refine ⟨j1, j2, j3, j4, j5, fun i v hi => ?_, j7⟩
    obtain ⟨u, h1, h2⟩ := j6 i v hi
    have hg : ground 8 v = true := by rw [List.all_eq_true] at hcs; exact hcs v (List.mem_of_getElem? hi)
    have := ground_eq 8 hg h2
    subst this
    exact ⟨_, h1, ground_refl 8 hg⟩
  have hC : ∀ x, upd C s ((s.gc (upto N)).push (.cells cs el opn sz false)) 0 x = if x = N then .cells cs el opn sz false else if s.next ≤ x ∧ x < N then .hole else C x := fun x => by
    unfold upd
    rw [hpn]
    by_cases e : x = N
    · subst e
      rw [if_pos (.inl ⟨hs, Nat.lt_succ_self _⟩), if_pos rfl, hget, if_pos rfl]
    · rw [if_neg e]
      by_cases c1 : s.next ≤ x ∧ x < N
      · rw [if_pos (.inl ⟨c1.1, by omega⟩), if_pos c1, hget, if_neg e, if_neg (by omega)]
      · rw [if_neg (by
          rintro (k | k)
          · omega
          · simp at k), if_neg c1]
  have hold : ∀ x, x ≠ N → upd C s ((s.gc (upto N)).push (.cells cs el opn sz false)) 0 x ≠ .hole → upd C s ((s.gc (upto N)).push (.cells cs el opn sz false)) 0 x = C x ∧ C x ≠ .hole := fun x e hx => by
    rw [hC, if_neg e] at hx ⊢
    split at hx
    · exact absurd rfl hx
    · rename_i c1
      rw [if_neg c1]
      exact ⟨rfl, hx⟩
  have fin : Q (.returned v') w1 := by
    refine hQ ρ2 v' w1 ⟨hle, fun x hx => ?_, fun x L' h1 h2 => ?_, p1.size, fun x hx _ => hkeep x hx, p1.os, p1.tape, p1.output⟩ ⟨fun x hx => ?_, fun x x' L1 L2 h1 h2 hq h3 h4 he => ?_⟩ ?_
    · by_cases e : x = N
      · rw [hpn]; omega
      · exact absurd (ho2 x e) hx
    · by_cases e : x = N
      · subst e; rw [hN2] at h2; cases h2; exact .inl hbig
      · rw [ho2 x e, h1] at h2; cases h2
    · by_cases e : x = N
      · subst e
        rw [hC, if_pos rfl]
        exact ⟨L0, o', hN2, k2, hor⟩
      · obtain ⟨q1, q2⟩ := hold x e hx
        rw [q1]
        obtain ⟨L', o2, j1, j2, j3⟩ := hp.rel.1 x q2
        exact ⟨L', o2, hle _ _ j1, (hkeep _ (lt_of_some j2)).trans j2, j3.mono hle⟩
    · by_cases e1 : x = N
      · by_cases e2 : x' = N
        · rw [e1, e2]
        · obtain ⟨q1, q2⟩ := hold x' e2 h2
          obtain ⟨L', o2, j1, j2, j3⟩ := hp.rel.1 x' q2
          rw [ho2 x' e2, j1] at h4
          cases h4
          rw [e1, hN2] at h3
          cases h3
          have := lt_of_some j2
          omega
      · obtain ⟨q1, q2⟩ := hold x e1 h1
        obtain ⟨L', o2, j1, j2, j3⟩ := hp.rel.1 x q2
        by_cases e2 : x' = N
        · rw [ho2 x e1, j1] at h3
          cases h3
          rw [e2, hN2] at h4
          cases h4
          have := lt_of_some j2
          omega
        · obtain ⟨q3, q4⟩ := hold x' e2 h2
          rw [q1, q3] at hq
          rw [ho2 x e1] at h3
          rw [ho2 x' e2] at h4
          exact hp.rel.2 x x' L1 L2 q2 q4 hq h3 h4 he
    · have g2 : VR ρ1 (.slice (some ⟨b, 0, none⟩) n cp) v' := g2
      cases g2 with
      | empty a a' => exact .empty _ _
      | slice b o n c c' L' h hc =>
        rw [k1] at h
        cases h
        exact .slice N 0 n cp _ L0 hN2 hc
  rcases he with rfl | rfl <;> exact ⟨hd', v', g1, fin⟩
end

section
variable {P : Program} {s s1 : St}
abbrev KeyN := Nat × Nat × List Value × TypeId × Bool × Nat
def keyN (P : Program) (fn : Func) (lo : Nat) (o : OutN) : Option KeyN :=
  match isNormal o.1 || isRet o.1, o.2.1.defers with
  | true, [] => match resultsG P o.2.2 o.2.1.get fn.results.toList with
    | some ([.slice (some ⟨b, 0, none⟩) n c], _) => match o.2.2.get b with
      | .cells cs el opn sz false => match Nat.ble lo b && cs.all (ground 8) with
        | true => some (n, c, cs, el, opn, sz)
        | false => none
      | _ => none
    | _ => none
  | _, _ => none
where isRet : Exit → Bool
  | .ret => true
  | _ => false
def sameV : Value → Value → Bool
  | .int k a, .int k' b => decide (k = k') && decide (a = b)
  | .bool a, .bool b => a == b
  | _, _ => false
theorem sameV_eq {a b : Value} (h : sameV a b = true) : a = b := by
  unfold sameV at h
  split at h
  · simp only [Bool.and_eq_true, decide_eq_true_eq] at h
    rw [h.1, h.2]
  · simp only [beq_iff_eq] at h
    rw [h]
  · cases h
def sameVs : List Value → List Value → Bool
  | [], [] => true
  | a :: l, b :: l' => sameV a b && sameVs l l'
  | _, _ => false
theorem sameVs_eq : ∀ {a b : List Value}, sameVs a b = true → a = b
  | [], [], _ => rfl
  | a :: l, b :: l', h => by
    simp only [sameVs, Bool.and_eq_true] at h
    rw [sameV_eq h.1, sameVs_eq h.2]
  | [], _ :: _, h => by cases h
  | _ :: _, [], h => by cases h
def sameK : Option KeyN → KeyN → Bool
  | some (n, c, cs, el, opn, sz), (n', c', cs', el', opn', sz') => Nat.beq n n' && Nat.beq c c' && sameVs cs cs' && Nat.beq el el' && (opn == opn') && Nat.beq sz sz'
  | none, _ => false
theorem sameK_eq {a : Option KeyN} {b : KeyN} (h : sameK a b = true) : a = some b := by
  obtain ⟨n', c', cs', el', opn', sz'⟩ := b
  unfold sameK at h
  split at h
  · rename_i e1 e2
    cases e2
    simp only [Bool.and_eq_true, beq_iff_eq] at h
    obtain ⟨⟨⟨⟨⟨h1, h2⟩, h3⟩, h4⟩, h5⟩, h6⟩ := h
    rw [Nat.eq_of_beq_eq_true h1, Nat.eq_of_beq_eq_true h2, sameVs_eq h3, Nat.eq_of_beq_eq_true h4, h5, Nat.eq_of_beq_eq_true h6]
  · cases h
def evNF (P : Program) (X : CallF) (K : Nat) (f0 : FuncId) : CallF := fun f args s => match decide (f = f0) with
  | true => match P.funcs[f]? with
    | some fn => match fn.body with
      | some c => match evL P X s.next (s.next + K) 300 false c (startM fn args) s with
        | some (o :: os) => match keyN P fn s.next o with
          | some (n, cp, cs, el, opn, sz) => match os.all fun o' => sameK (keyN P fn s.next o') (n, cp, cs, el, opn, sz) with
            | true => some (.slice (some ⟨s.next + K, 0, none⟩) n cp, (s.gc (upto (s.next + K))).push (.cells cs el opn sz false), RRN s.next, 0)
            | false => none
          | none => none
        | _ => none
      | none => none
    | none => none
  | false => none
theorem evNF_ok {X : CallF} {K : Nat} {f0 : FuncId} (hm : P.follows .mixedOrders = true) (hX : FOk P X) : FOk P (evNF P X K f0) := fun f args s v s1 R W he => by
  unfold evNF at he
  split at he
  · split at he
    · rename_i fn hf
      split at he
      · rename_i c hb
        split at he
        · rename_i o os hL
          split at he
          · rename_i n cp cs el opn sz hk
            split at he
            · rename_i hall
              simp only [Option.some.injEq, Prod.mk.injEq] at he
              obtain ⟨rfl, rfl, rfl, rfl⟩ := he
              have hkey : ∀ q, q ∈ o :: os → keyN P fn s.next q = some (n, cp, cs, el, opn, sz) := fun q hq => by
                rcases List.mem_cons.1 hq with rfl | hq
                · exact hk
                · rw [List.all_eq_true] at hall
                  exact sameK_eq (hall q hq)
              have unk : ∀ q, keyN P fn s.next q = some (n, cp, cs, el, opn, sz) → (q.1 = .normal ∨ q.1 = .ret) ∧ q.2.1.defers = [] ∧ (∃ b R2, resultsG P q.2.2 q.2.1.get fn.results.toList = some ([.slice (some ⟨b, 0, none⟩) n cp], R2) ∧ q.2.2.get b = .cells cs el opn sz false ∧ s.next ≤ b) ∧ cs.all (ground 8) = true := fun q hq => by
                unfold keyN at hq
                split at hq
                · rename_i h1 h2
                  split at hq
                  · rename_i b n2 c2 R2 h3
                    split at hq
                    · rename_i cs2 el2 opn2 sz2 h4
                      split at hq
                      · rename_i h5
                        simp only [Option.some.injEq, Prod.mk.injEq] at hq
                        obtain ⟨rfl, rfl, rfl, rfl, rfl, rfl⟩ := hq
                        simp only [Bool.and_eq_true] at h5
                        refine ⟨?_, h2, ⟨b, R2, h3, h4, Nat.le_of_ble_eq_true h5.1⟩, h5.2⟩
                        generalize q.1 = e at h1
                        cases e <;> first | exact .inl rfl | exact .inr rfl | (simp [isNormal, keyN.isRet] at h1)
                      · cases hq
                    · cases hq
                  · cases hq
                · cases hq
              have hS := evL_ok hm hX 300 false c (startM fn args) s (o :: os) (Nat.le_add_right _ _) hL
              rw [startM_act] at hS
              refine sndF_nd (L := o :: os) hf hb (Nat.le_add_right _ _) hS (unk o hk).2.2.2 fun e m s1 hmem => ?_
              obtain ⟨h1, h2, ⟨b, R2, h3, h4, h5⟩, _⟩ := unk _ (hkey _ hmem)
              exact ⟨h1, h2, b, R2, (resultsL_act m _).trans h3, h4, h5⟩
            · cases he
          · cases he
        · cases he
      · cases he
    · cases he
  · cases he
end
end Mini
end Go.Proofs.YthhgmnocigekaaaGreatDoor
end
section
set_option linter.all false
set_option maxRecDepth 1000000
namespace Go.Proofs.YthhgmnocigekaaaGreatDoor
open Mini
noncomputable def aw5B : Code := bodyOf Tryz.prog 8
noncomputable def aw5A0 : MA := ⟨312, .leaf, []⟩
noncomputable def aw5H0 : Tri := (.node (.node (.one (.cells [.int .u64 (1), .int .u64 (10), .int .u64 (100), .int .u64 (1000), .int .u64 (10000), .int .u64 (100000), .int .u64 (1000000), .int .u64 (10000000), .int .u64 (100000000), .int .u64 (1000000000), .int .u64 (10000000000), .int .u64 (100000000000), .int .u64 (1000000000000), .int .u64 (10000000000000), .int .u64 (100000000000000), .int .u64 (1000000000000000), .int .u64 (10000000000000000), .int .u64 (100000000000000000), .int .u64 (1000000000000000000), .int .u64 (10000000000000000000)] 255 true 0 true)) .leaf) .leaf)
noncomputable def aw5H1 : Tri := (.node (.node (.node (.node (.node (.node (.node (.node (.node (.node (.node (.node (.node (.node (.node (.node (.node (.node (.node (.node aw5H0 .leaf) .leaf) .leaf) .leaf) .leaf) .leaf) .leaf) .leaf) .leaf) .leaf) .leaf) .leaf) .leaf) .leaf) .leaf) .leaf) .leaf) .leaf) .leaf) .leaf)
noncomputable def aw5S0 : St := ⟨4, aw5H1, []⟩
noncomputable def aw5H2 : TV := (.node (.node (.node (.one (.bool false)) .leaf) .leaf) .leaf)
noncomputable def aw5A1 : MA := ⟨312, (.node (.node (.node (.node (.node (.node aw5H2 .leaf) .leaf) .leaf) .leaf) .leaf) .leaf), []⟩
noncomputable def aw5S1 : St := ⟨4, aw5H1, []⟩
noncomputable def aw5H3 : TV := (.node (.one (.bool false)) (.one (.pointer (some ⟨18, 0, none⟩))))
noncomputable def aw5H4 : TV := (.one (.tuple #[.agg #[.int .i64 (75), .int .i64 (1)], .int .i64 (0)]))
noncomputable def aw5H5 : TV := (.one (.agg #[.int .i64 (75), .int .i64 (1)]))
noncomputable def aw5H6 : TV := (.node (.node aw5H4 (.one (.slice (some ⟨4, 0, none⟩) 2 2))) (.node aw5H4 aw5H5))
noncomputable def aw5H7 : TV := (.node (.node (.one (.int .i64 (0))) .leaf) .leaf)
noncomputable def aw5A2 : MA := ⟨312, (.node (.node (.node (.node (.node (.node (.node (.node aw5H3 (.node (.one (.int .i64 (0))) .leaf)) .leaf) .leaf) .leaf) (.node (.node .leaf (.node .leaf aw5H6)) (.node (.node aw5H7 .leaf) .leaf))) .leaf) .leaf) .leaf), []⟩
noncomputable def aw5H8 : Tri := (.one (.cells [.int .i64 (0), .int .i64 (100), .int .i64 (100), .int .i64 (0)] 144 false 0 false))
noncomputable def aw5H9 : Tri := (.node (.node aw5H0 (.node (.node aw5H8 .leaf) .leaf)) .leaf)
noncomputable def aw5H10 : Tri := (.one (.cells [.int .i64 (75), .int .i64 (1)] 81 false 0 false))
noncomputable def aw5S2 : St := ⟨19, (.node (.node (.node (.node (.node (.node (.node (.node (.node (.node (.node (.node (.node (.node (.node (.node (.node (.node aw5H9 (.node (.node (.node .leaf (.node aw5H10 .leaf)) .leaf) .leaf)) .leaf) .leaf) .leaf) .leaf) .leaf) .leaf) .leaf) .leaf) .leaf) .leaf) .leaf) .leaf) .leaf) .leaf) .leaf) .leaf) .leaf), []⟩
noncomputable def aw5H11 : TV := (.node (.one (.int .i64 (0))) (.one (.pointer (some ⟨425, 0, none⟩))))
noncomputable def aw5H12 : TV := (.node (.node (.node (.one (.int .i64 (0))) aw5H4) (.node (.one (.slice (some ⟨19, 0, none⟩) 2 2)) (.one (.slice (some ⟨20, 0, none⟩) 2 2)))) (.node (.node (.one (.slice (some ⟨21, 0, none⟩) 2 2)) aw5H4) (.node aw5H5 (.one (.int .i64 (0))))))
noncomputable def aw5A3 : MA := ⟨312, (.node (.node (.node (.node (.node (.node (.node (.node aw5H3 aw5H11) aw5H7) .leaf) .leaf) (.node (.node .leaf (.node .leaf aw5H6)) (.node aw5H12 .leaf))) .leaf) .leaf) .leaf), []⟩
noncomputable def aw5H13 : Tri := (.one (.cells [.int .i64 (0), .int .i64 (50), .int .i64 (100), .int .i64 (-50)] 144 false 0 false))
noncomputable def aw5H14 : Tri := (.node (.node (.node (.node aw5H9 (.node (.node (.node .leaf (.node aw5H10 aw5H8)) (.node (.node aw5H13 (.one (.cells [.slice (some ⟨19, 0, none⟩) 2 2, .slice (some ⟨20, 0, none⟩) 2 2] 85 false 0 false))) .leaf)) .leaf)) .leaf) .leaf) .leaf)
noncomputable def aw5S3 : St := ⟨426, (.node (.node (.node (.node (.node (.node (.node (.node (.node (.node (.node (.node (.node (.node aw5H14 (.node .leaf (.node (.node .leaf (.node (.node .leaf (.node (.node (.node .leaf aw5H10) .leaf) .leaf)) .leaf)) .leaf))) .leaf) .leaf) .leaf) .leaf) .leaf) .leaf) .leaf) .leaf) .leaf) .leaf) .leaf) .leaf) .leaf), []⟩
noncomputable def aw5H15 : TV := (.one (.slice (some ⟨833, 0, none⟩) 2 2))
noncomputable def aw5H16 : TV := (.one (.tuple #[.slice (some ⟨833, 0, none⟩) 2 2, .int .i64 (0)]))
noncomputable def aw5H17 : TV := (.node (.node aw5H16 (.one (.slice (some ⟨426, 0, none⟩) 2 2))) (.node (.one (.slice (some ⟨427, 0, none⟩) 2 2)) (.one (.slice (some ⟨428, 0, none⟩) 2 2))))
noncomputable def aw5A4 : MA := ⟨312, (.node (.node (.node (.node (.node (.node (.node (.node aw5H3 aw5H11) (.node (.node (.one (.int .i64 (0))) aw5H15) (.node (.one (.int .i64 (0))) .leaf))) .leaf) .leaf) (.node (.node .leaf (.node .leaf aw5H6)) (.node aw5H12 (.node aw5H17 (.node (.node aw5H16 aw5H15) (.node (.one (.int .i64 (0))) .leaf)))))) .leaf) .leaf) .leaf), []⟩
noncomputable def aw5H18 : Tri := (.node aw5H14 (.node .leaf (.node (.node .leaf (.node (.node .leaf (.node (.node (.node .leaf aw5H10) (.node aw5H8 aw5H13)) (.node (.node (.one (.cells [.slice (some ⟨426, 0, none⟩) 2 2, .slice (some ⟨427, 0, none⟩) 2 2] 85 false 0 false)) .leaf) .leaf))) .leaf)) .leaf)))
noncomputable def aw5H19 : Tri := (.one (.cells [.int .i64 (25), .int .i64 (1), .int .i64 (-25), .int .i64 (1)] 81 false 0 false))
noncomputable def aw5H20 : Tri := (.node (.node (.node aw5H10 aw5H19) .leaf) .leaf)
noncomputable def aw5S4 : St := ⟨844, (.node (.node (.node (.node (.node (.node (.node (.node (.node (.node (.node (.node (.node aw5H18 (.node .leaf (.node (.node .leaf (.node (.node (.node aw5H20 .leaf) .leaf) .leaf)) .leaf))) .leaf) .leaf) .leaf) .leaf) .leaf) .leaf) .leaf) .leaf) .leaf) .leaf) .leaf) .leaf), []⟩
noncomputable def aw5H21 : TV := (.node (.node (.one (.int .i64 (0))) aw5H15) (.node (.one (.int .i64 (0))) (.one (.pointer (some ⟨1125, 0, none⟩)))))
noncomputable def aw5H22 : TV := (.one (.tuple #[.agg #[.int .i64 (99), .int .i64 (2)], .int .i64 (0)]))
noncomputable def aw5H23 : TV := (.node aw5H12 (.node aw5H17 (.node (.node aw5H16 aw5H15) (.node (.one (.int .i64 (0))) aw5H22))))
noncomputable def aw5H24 : TV := (.node (.node .leaf (.node .leaf aw5H6)) aw5H23)
noncomputable def aw5H25 : TV := (.node (.node (.one (.slice (some ⟨844, 0, none⟩) 2 2)) (.one (.slice (some ⟨845, 0, none⟩) 2 2))) (.node (.one (.slice (some ⟨846, 0, none⟩) 2 2)) aw5H22))
noncomputable def aw5H26 : TV := (.one (.agg #[.int .i64 (99), .int .i64 (2)]))
noncomputable def aw5A5 : MA := ⟨312, (.node (.node (.node (.node (.node (.node (.node (.node aw5H3 aw5H11) aw5H21) (.node aw5H7 .leaf)) .leaf) aw5H24) (.node (.node (.node (.node aw5H25 (.node (.node aw5H26 (.one (.int .i64 (0)))) .leaf)) .leaf) .leaf) .leaf)) .leaf) .leaf), []⟩
noncomputable def aw5H27 : Tri := (.node aw5H18 (.node .leaf (.node (.node .leaf (.node (.node (.node aw5H20 (.node .leaf (.node (.node aw5H8 aw5H13) (.node (.one (.cells [.slice (some ⟨844, 0, none⟩) 2 2, .slice (some ⟨845, 0, none⟩) 2 2] 85 false 0 false)) .leaf)))) .leaf) .leaf)) .leaf)))
noncomputable def aw5H28 : Tri := (.node .leaf (.one (.cells [.int .i64 (99), .int .i64 (2)] 81 false 0 false)))
noncomputable def aw5S5 : St := ⟨1126, (.node (.node (.node (.node (.node (.node (.node (.node (.node (.node (.node (.node aw5H27 (.node (.node (.node (.node .leaf (.node .leaf (.node (.node (.node .leaf (.node aw5H28 .leaf)) .leaf) .leaf))) .leaf) .leaf) .leaf)) .leaf) .leaf) .leaf) .leaf) .leaf) .leaf) .leaf) .leaf) .leaf) .leaf) .leaf), []⟩
noncomputable def aw5H29 : TV := (.one (.slice (some ⟨1408, 0, none⟩) 2 2))
noncomputable def aw5H30 : TV := (.one (.tuple #[.slice (some ⟨1408, 0, none⟩) 2 2, .int .i64 (0)]))
noncomputable def aw5H31 : TV := (.node aw5H25 (.node (.node aw5H26 (.one (.int .i64 (0)))) (.node aw5H30 (.one (.slice (some ⟨1126, 0, none⟩) 2 2)))))
noncomputable def aw5H32 : TV := (.node (.node (.one (.slice (some ⟨1127, 0, none⟩) 2 2)) (.one (.slice (some ⟨1128, 0, none⟩) 2 2))) (.node aw5H30 aw5H29))
noncomputable def aw5A6 : MA := ⟨312, (.node (.node (.node (.node (.node (.node (.node (.node aw5H3 aw5H11) aw5H21) (.node (.node (.node (.one (.int .i64 (0))) aw5H29) (.node (.one (.int .i64 (0))) .leaf)) .leaf)) .leaf) aw5H24) (.node (.node (.node aw5H31 (.node aw5H32 aw5H7)) .leaf) .leaf)) .leaf) .leaf), []⟩
noncomputable def aw5H33 : Tri := (.node (.node .leaf (.node .leaf (.node (.node (.node .leaf (.node aw5H28 (.node aw5H8 aw5H13))) (.node (.node (.node (.one (.cells [.slice (some ⟨1126, 0, none⟩) 2 2, .slice (some ⟨1127, 0, none⟩) 2 2] 85 false 0 false)) .leaf) .leaf) .leaf)) .leaf))) .leaf)
noncomputable def aw5H34 : Tri := (.node .leaf (.node .leaf (.node .leaf (.node .leaf (.node .leaf (.node .leaf aw5H28))))))
noncomputable def aw5H35 : Tri := (.one (.cells [.int .i64 (101), .int .i64 (2), .int .i64 (1), .int .i64 (2)] 81 false 0 false))
noncomputable def aw5H36 : Tri := (.node (.node (.node aw5H35 .leaf) .leaf) .leaf)
noncomputable def aw5S6 : St := ⟨1419, (.node (.node (.node (.node (.node (.node (.node (.node (.node (.node (.node (.node aw5H27 (.node (.node aw5H33 (.node aw5H34 (.node (.node (.node (.node aw5H36 .leaf) .leaf) .leaf) .leaf))) .leaf)) .leaf) .leaf) .leaf) .leaf) .leaf) .leaf) .leaf) .leaf) .leaf) .leaf) .leaf), []⟩
noncomputable def aw5H37 : TV := (.one (.slice (some ⟨1428, 0, none⟩) 2 2))
noncomputable def aw5H38 : TV := (.node (.node (.one (.int .i64 (0))) aw5H29) (.node (.one (.int .i64 (0))) aw5H37))
noncomputable def aw5H39 : TV := (.node (.node (.node (.node (.node aw5H3 aw5H11) aw5H21) (.node aw5H38 aw5H7)) .leaf) aw5H24)
noncomputable def aw5H40 : TV := (.one (.tuple #[.slice (some ⟨1428, 0, none⟩) 2 2, .int .i64 (0)]))
noncomputable def aw5H41 : TV := (.node aw5H31 (.node aw5H32 (.node (.node (.one (.int .i64 (0))) aw5H40) (.node (.one (.slice (some ⟨1419, 0, none⟩) 2 2)) aw5H40))))
noncomputable def aw5A7 : MA := ⟨312, (.node (.node (.node aw5H39 (.node (.node aw5H41 (.node (.node (.node (.node aw5H37 (.one (.int .i64 (0)))) .leaf) .leaf) .leaf)) .leaf)) .leaf) .leaf), []⟩
noncomputable def aw5H42 : Tri := (.node aw5H36 (.node (.node .leaf (.node .leaf aw5H8)) .leaf))
noncomputable def aw5H43 : Tri := (.one (.cells [.int .i64 (0), .int .i64 (0)] 28 false 0 false))
noncomputable def aw5H44 : Tri := (.node (.node .leaf (.node aw5H43 (.one (.cells [] 144 false 0 false)))) (.node (.node (.one (.cells [.int .i64 (0), .int .i64 (110), .int .i64 (100), .int .i64 (10)] 144 true 2 false)) .leaf) .leaf))
noncomputable def aw5S7 : St := ⟨1435, (.node (.node (.node (.node (.node (.node (.node (.node (.node (.node (.node (.node aw5H27 (.node (.node aw5H33 (.node aw5H34 (.node (.node (.node aw5H42 (.node aw5H44 .leaf)) .leaf) .leaf))) .leaf)) .leaf) .leaf) .leaf) .leaf) .leaf) .leaf) .leaf) .leaf) .leaf) .leaf) .leaf), []⟩
noncomputable def aw5H45 : TV := (.node (.one (.int .i64 (0))) (.one (.int .i64 (0))))
noncomputable def aw5H46 : TV := (.node (.one (.int .i64 (0))) (.one (.bool false)))
noncomputable def aw5H47 : TV := (.node (.one (.bool false)) (.one (.bool false)))
noncomputable def aw5H48 : TV := (.node (.one (.bool true)) (.one (.bool false)))
noncomputable def aw5H49 : TV := (.node (.node aw5H41 (.node (.node (.node (.node aw5H37 (.one (.int .i64 (0)))) aw5H45) (.node aw5H45 aw5H45)) (.node (.node aw5H45 aw5H45) (.node aw5H46 (.node (.one (.bool false)) aw5H5))))) (.node (.node (.node (.node (.node aw5H5 (.one (.bool false))) aw5H47) (.node (.node aw5H5 aw5H5) aw5H47)) (.node (.node (.node (.one (.bool false)) aw5H15) (.node (.one (.agg #[.int .i64 (25), .int .i64 (1)])) (.one (.agg #[.int .i64 (-25), .int .i64 (1)])))) (.node (.node (.one (.slice (some ⟨1435, 0, none⟩) 2 2)) (.one (.bool true))) aw5H47))) (.node (.node (.node (.node (.one (.bool false)) aw5H26) (.node aw5H26 (.one (.bool false)))) (.node aw5H47 (.node aw5H29 (.one (.agg #[.int .i64 (101), .int .i64 (2)]))))) (.node (.node (.node (.one (.agg #[.int .i64 (1), .int .i64 (2)])) (.one (.slice (some ⟨1436, 0, none⟩) 2 2))) aw5H48) (.node aw5H47 (.node aw5H37 (.one (.slice (some ⟨1442, 0, none⟩) 2 2))))))))
noncomputable def aw5H50 : TV := (.node (.node (.one (.agg #[.int .i64 (0), .int .i64 (110)])) (.one (.agg #[.int .i64 (100), .int .i64 (10)]))) (.node (.one (.slice (some ⟨1443, 0, none⟩) 2 2)) (.one (.bool true))))
noncomputable def aw5A8 : MA := ⟨312, (.node (.node (.node aw5H39 aw5H49) (.node (.node (.node (.node (.node aw5H50 (.node aw5H47 .leaf)) .leaf) .leaf) .leaf) .leaf)) .leaf), []⟩
noncomputable def aw5H51 : Tri := (.node aw5H42 (.node aw5H44 (.node (.node .leaf (.node .leaf aw5H19)) (.node (.node aw5H35 (.one (.cells [.int .i64 (0), .int .i64 (110)] 144 false 0 false))) (.node (.one (.cells [.int .i64 (0), .int .i64 (110)] 99 false 0 false)) (.one (.hole)))))))
noncomputable def aw5H52 : Tri := (.node (.node (.one (.cells [.int .i64 (100), .int .i64 (10)] 144 false 0 false)) (.one (.cells [.int .i64 (100), .int .i64 (10)] 99 false 0 false))) (.node (.one (.cells [.int .i64 (0), .int .i64 (110), .int .i64 (100), .int .i64 (10)] 99 true 2 false)) (.one (.cells [.int .i64 (0), .int .i64 (110), .int .i64 (100), .int .i64 (10)] 99 false 0 false))))
noncomputable def aw5S8 : St := ⟨1444, (.node (.node (.node (.node (.node (.node (.node (.node (.node (.node (.node (.node aw5H27 (.node (.node aw5H33 (.node aw5H34 (.node (.node aw5H51 (.node (.node (.node aw5H52 .leaf) .leaf) .leaf)) .leaf))) .leaf)) .leaf) .leaf) .leaf) .leaf) .leaf) .leaf) .leaf) .leaf) .leaf) .leaf) .leaf), []⟩
noncomputable def aw5H53 : TV := (.node (.one (.int .i64 (0))) (.one (.pointer (some ⟨1444, 0, none⟩))))
noncomputable def aw5H54 : TV := (.one (.agg #[.int .i64 (1), .int .i64 (32), .int .i64 (256)]))
noncomputable def aw5A9 : MA := ⟨312, (.node (.node (.node (.node (.node (.node (.node (.node aw5H3 aw5H11) aw5H21) (.node aw5H38 (.node aw5H53 .leaf))) .leaf) aw5H24) aw5H49) (.node (.node (.node (.node (.node aw5H50 (.node aw5H47 (.node aw5H54 .leaf))) .leaf) .leaf) .leaf) .leaf)) .leaf), []⟩
noncomputable def aw5H55 : Tri := (.node (.node aw5H52 (.node (.node (.one (.cells [.int .i64 (1), .int .i64 (32), .int .i64 (256)] 31 false 0 false)) .leaf) .leaf)) .leaf)
noncomputable def aw5S9 : St := ⟨1445, (.node (.node (.node (.node (.node (.node (.node (.node (.node (.node (.node (.node aw5H27 (.node (.node aw5H33 (.node aw5H34 (.node (.node aw5H51 (.node aw5H55 .leaf)) .leaf))) .leaf)) .leaf) .leaf) .leaf) .leaf) .leaf) .leaf) .leaf) .leaf) .leaf) .leaf) .leaf), []⟩
noncomputable def aw5H56 : TV := (.node aw5H38 (.node aw5H53 (.node (.one (.pointer (some ⟨1459, 0, none⟩))) (.one (.int .i64 (0))))))
noncomputable def aw5H57 : TV := (.node (.node (.node aw5H3 aw5H11) aw5H21) aw5H56)
noncomputable def aw5H58 : TV := (.node aw5H54 (.one (.tuple #[.agg #[.int .i64 (4), .int .i64 (4)], .int .i64 (0)])))
noncomputable def aw5H59 : TV := (.one (.agg #[.int .i64 (4), .int .i64 (4)]))
noncomputable def aw5H60 : TV := (.node aw5H58 (.node aw5H59 (.one (.int .i64 (0)))))
noncomputable def aw5A10 : MA := ⟨312, (.node (.node (.node (.node (.node aw5H57 .leaf) aw5H24) aw5H49) (.node (.node (.node (.node (.node aw5H50 (.node aw5H47 aw5H58)) (.node aw5H60 .leaf)) .leaf) .leaf) .leaf)) .leaf), []⟩
noncomputable def aw5H61 : Tri := (.node aw5H51 (.node aw5H55 (.node (.node (.node .leaf (.node .leaf (.one (.cells [.int .i64 (4), .int .i64 (4)] 27 false 0 false)))) .leaf) .leaf)))
noncomputable def aw5S10 : St := ⟨1460, (.node (.node (.node (.node (.node (.node (.node (.node (.node (.node (.node (.node aw5H27 (.node (.node aw5H33 (.node aw5H34 (.node aw5H61 .leaf))) .leaf)) .leaf) .leaf) .leaf) .leaf) .leaf) .leaf) .leaf) .leaf) .leaf) .leaf) .leaf), []⟩
noncomputable def aw5H62 : TV := (.node (.one (.pointer (some ⟨1477, 0, none⟩))) (.one (.int .i64 (0))))
noncomputable def aw5H63 : TV := (.one (.tuple #[.agg #[.int .i64 (29), .int .i64 (30)], .int .i64 (0)]))
noncomputable def aw5H64 : TV := (.one (.agg #[.int .i64 (29), .int .i64 (30)]))
noncomputable def aw5H65 : TV := (.node (.node aw5H50 (.node aw5H47 aw5H58)) (.node aw5H60 (.node (.node aw5H63 aw5H54) (.node aw5H63 aw5H64))))
noncomputable def aw5A11 : MA := ⟨312, (.node (.node (.node (.node (.node aw5H57 (.node (.node (.node aw5H62 .leaf) .leaf) .leaf)) aw5H24) aw5H49) (.node (.node (.node aw5H65 (.node (.node aw5H7 .leaf) .leaf)) .leaf) .leaf)) .leaf), []⟩
noncomputable def aw5H66 : Tri := (.node aw5H33 (.node aw5H34 (.node aw5H61 (.node (.node (.node (.node .leaf (.node (.node .leaf (.one (.cells [.int .i64 (29), .int .i64 (30)] 27 false 0 false))) .leaf)) .leaf) .leaf) .leaf))))
noncomputable def aw5H67 : Tri := (.node (.node (.node (.node (.node (.node (.node (.node (.node (.node (.node (.node aw5H27 (.node aw5H66 .leaf)) .leaf) .leaf) .leaf) .leaf) .leaf) .leaf) .leaf) .leaf) .leaf) .leaf) .leaf)
noncomputable def aw5S11 : St := ⟨1478, aw5H67, []⟩
noncomputable def aw5H68 : TV := (.node (.one (.int .i64 (64))) (.one (.int .i64 (0))))
noncomputable def aw5H69 : TV := (.one (.tuple #[.int .i64 (64), .int .i64 (0)]))
noncomputable def aw5H70 : TV := (.node (.node (.one (.int .i64 (0))) aw5H69) (.node aw5H54 aw5H69))
noncomputable def aw5A12 : MA := ⟨312, (.node (.node (.node (.node (.node aw5H57 (.node (.node (.node aw5H62 aw5H68) .leaf) .leaf)) aw5H24) aw5H49) (.node (.node (.node aw5H65 (.node (.node aw5H70 (.node aw5H68 .leaf)) .leaf)) .leaf) .leaf)) .leaf), []⟩
noncomputable def aw5S12 : St := ⟨2003, aw5H67, []⟩
noncomputable def aw5H71 : TV := (.node (.one (.pointer (some ⟨2042, 0, none⟩))) (.one (.int .i64 (0))))
noncomputable def aw5H72 : TV := (.one (.tuple #[.agg #[.int .i64 (89), .int .i64 (90)], .int .i64 (0)]))
noncomputable def aw5H73 : TV := (.node aw5H70 (.node aw5H68 (.node aw5H72 aw5H54)))
noncomputable def aw5H74 : TV := (.one (.agg #[.int .i64 (89), .int .i64 (90)]))
noncomputable def aw5H75 : TV := (.node (.node (.one (.slice (some ⟨2003, 0, none⟩) 3 3)) aw5H72) (.node aw5H74 (.one (.int .i64 (0)))))
noncomputable def aw5A13 : MA := ⟨312, (.node (.node (.node (.node (.node aw5H57 (.node (.node (.node aw5H62 aw5H68) (.node aw5H71 .leaf)) .leaf)) aw5H24) aw5H49) (.node (.node (.node aw5H65 (.node aw5H73 (.node aw5H75 .leaf))) .leaf) .leaf)) .leaf), []⟩
noncomputable def aw5H76 : Tri := (.node .leaf (.node (.node (.node .leaf (.node .leaf (.one (.cells [.int .i64 (64), .int .i64 (32), .int .i64 (0)] 3 false 0 false)))) .leaf) .leaf))
noncomputable def aw5H77 : Tri := (.one (.cells [.int .i64 (89), .int .i64 (90)] 27 false 0 false))
noncomputable def aw5S13 : St := ⟨2043, (.node (.node (.node (.node (.node (.node (.node (.node (.node (.node (.node (.node aw5H27 (.node aw5H66 (.node .leaf (.node .leaf (.node .leaf (.node aw5H76 (.node .leaf (.node .leaf (.node (.node .leaf (.node aw5H77 .leaf)) .leaf))))))))) .leaf) .leaf) .leaf) .leaf) .leaf) .leaf) .leaf) .leaf) .leaf) .leaf) .leaf), []⟩
noncomputable def aw5H78 : TV := (.one (.slice (some ⟨2457, 0, none⟩) 3 3))
noncomputable def aw5H79 : TV := (.node (.node aw5H62 aw5H68) (.node aw5H71 (.node aw5H78 (.one (.int .i64 (0))))))
noncomputable def aw5H80 : TV := (.node (.node (.node aw5H57 (.node aw5H79 .leaf)) aw5H24) aw5H49)
noncomputable def aw5H81 : TV := (.one (.tuple #[.slice (some ⟨2457, 0, none⟩) 3 3, .int .i64 (0)]))
noncomputable def aw5H82 : TV := (.node aw5H65 (.node aw5H73 (.node aw5H75 (.node (.node aw5H81 (.one (.slice (some ⟨2043, 0, none⟩) 2 2))) (.node (.one (.slice (some ⟨2044, 0, none⟩) 1 1)) aw5H81)))))
noncomputable def aw5A14 : MA := ⟨312, (.node (.node aw5H80 (.node (.node aw5H82 (.node (.node (.node (.node (.node aw5H78 (.one (.int .i64 (0)))) .leaf) .leaf) .leaf) .leaf)) .leaf)) .leaf), []⟩
noncomputable def aw5H83 : Tri := (.one (.cells [.int .i64 (5), .int .i64 (20), .int .i64 (15), .int .i64 (-10)] 111 false 0 false))
noncomputable def aw5H84 : Tri := (.node aw5H27 (.node aw5H66 (.node .leaf (.node .leaf (.node .leaf (.node aw5H76 (.node .leaf (.node .leaf (.node (.node .leaf (.node aw5H77 aw5H83)) (.node (.node (.one (.cells [.int .i64 (10), .int .i64 (5)] 111 false 0 false)) .leaf) .leaf))))))))))
noncomputable def aw5H85 : Tri := (.node (.node (.node (.node (.node .leaf (.node (.node (.node aw5H43 .leaf) .leaf) .leaf)) .leaf) .leaf) .leaf) .leaf)
noncomputable def aw5H86 : Tri := (.one (.cells [.int .i64 (5), .int .i64 (20), .int .i64 (10), .int .i64 (25), .int .i64 (15), .int .i64 (-5)] 111 true 2 false))
noncomputable def aw5H87 : Tri := (.node .leaf (.node .leaf (.node (.node (.node .leaf aw5H86) .leaf) .leaf)))
noncomputable def aw5S14 : St := ⟨2464, (.node (.node (.node (.node (.node (.node (.node (.node (.node (.node (.node aw5H84 (.node (.node (.node aw5H85 (.node .leaf (.node (.node aw5H87 .leaf) .leaf))) .leaf) .leaf)) .leaf) .leaf) .leaf) .leaf) .leaf) .leaf) .leaf) .leaf) .leaf) .leaf), []⟩
noncomputable def aw5H88 : TV := (.node aw5H82 (.node (.node (.node (.node (.node aw5H78 (.one (.int .i64 (0)))) aw5H45) (.node aw5H45 aw5H45)) (.node (.node aw5H45 aw5H46) (.node (.node (.one (.bool false)) aw5H59) (.node aw5H59 (.one (.bool false)))))) (.node (.node (.node aw5H47 (.node aw5H64 aw5H64)) (.node aw5H47 (.node (.one (.bool false)) (.one (.int .i64 (64)))))) (.node (.node aw5H47 (.node (.one (.bool false)) aw5H74)) (.node (.node aw5H74 (.one (.bool false))) aw5H47)))))
noncomputable def aw5H89 : TV := (.one (.agg #[.int .i64 (15), .int .i64 (-5)]))
noncomputable def aw5H90 : TV := (.node (.node (.node aw5H78 (.one (.slice (some ⟨2472, 0, none⟩) 3 3))) (.node (.one (.agg #[.int .i64 (5), .int .i64 (20)])) (.one (.agg #[.int .i64 (10), .int .i64 (25)])))) (.node (.node aw5H89 (.one (.slice (some ⟨2473, 0, none⟩) 3 3))) aw5H48))
noncomputable def aw5A15 : MA := ⟨312, (.node (.node aw5H80 (.node aw5H88 (.node (.node (.node aw5H90 aw5H2) .leaf) .leaf))) .leaf), []⟩
noncomputable def aw5H91 : Tri := (.one (.cells [.int .i64 (5), .int .i64 (20)] 111 false 0 false))
noncomputable def aw5H92 : Tri := (.one (.cells [.int .i64 (10), .int .i64 (25)] 111 false 0 false))
noncomputable def aw5H93 : Tri := (.one (.cells [.int .i64 (15), .int .i64 (-5)] 111 false 0 false))
noncomputable def aw5H94 : Tri := (.node (.node (.node aw5H91 (.one (.cells [.int .i64 (5), .int .i64 (20)] 108 false 0 false))) (.node (.one (.hole)) aw5H92)) (.node (.node (.one (.cells [.int .i64 (10), .int .i64 (25)] 108 false 0 false)) (.one (.hole))) (.node aw5H93 (.one (.cells [.int .i64 (15), .int .i64 (-5)] 108 false 0 false)))))
noncomputable def aw5H95 : Tri := (.node (.one (.cells [.int .i64 (5), .int .i64 (20), .int .i64 (10), .int .i64 (25), .int .i64 (15), .int .i64 (-5)] 108 true 2 false)) (.one (.cells [.int .i64 (5), .int .i64 (20), .int .i64 (10), .int .i64 (25), .int .i64 (15), .int .i64 (-5)] 108 false 0 false)))
noncomputable def aw5S15 : St := ⟨2474, (.node (.node (.node (.node (.node (.node (.node (.node (.node (.node (.node aw5H84 (.node (.node (.node aw5H85 (.node .leaf (.node (.node aw5H87 (.node (.node aw5H94 (.node (.node aw5H95 .leaf) .leaf)) .leaf)) .leaf))) .leaf) .leaf)) .leaf) .leaf) .leaf) .leaf) .leaf) .leaf) .leaf) .leaf) .leaf) .leaf), []⟩
noncomputable def aw5H96 : TV := (.one (.agg #[.int .i64 (4), .int .i64 (-50), .int .i64 (50)]))
noncomputable def aw5H97 : TV := (.node aw5H88 (.node (.node (.node aw5H90 (.node (.node (.node (.one (.bool false)) aw5H96) .leaf) .leaf)) .leaf) .leaf))
noncomputable def aw5A16 : MA := ⟨312, (.node (.node (.node (.node (.node aw5H57 (.node aw5H79 (.node (.node (.node (.one (.pointer (some ⟨2474, 0, none⟩))) .leaf) .leaf) .leaf))) aw5H24) aw5H49) aw5H97) .leaf), []⟩
noncomputable def aw5H98 : Tri := (.one (.cells [.int .i64 (4), .int .i64 (-50), .int .i64 (50)] 110 false 0 false))
noncomputable def aw5H99 : Tri := (.node (.node (.node (.node (.node (.node (.node (.node (.node (.node (.node aw5H84 (.node (.node (.node aw5H85 (.node .leaf (.node (.node aw5H87 (.node (.node aw5H94 (.node (.node aw5H95 (.node aw5H98 .leaf)) .leaf)) .leaf)) .leaf))) .leaf) .leaf)) .leaf) .leaf) .leaf) .leaf) .leaf) .leaf) .leaf) .leaf) .leaf) .leaf)
noncomputable def aw5S16 : St := ⟨2475, aw5H99, []⟩
noncomputable def aw5H100 : TV := (.node (.one (.pointer (some ⟨2474, 0, none⟩))) (.one (.func (.func 50) #[] #[])))
noncomputable def aw5A17 : MA := ⟨312, (.node (.node (.node (.node (.node aw5H57 (.node aw5H79 (.node (.node aw5H100 .leaf) .leaf))) aw5H24) aw5H49) aw5H97) .leaf), []⟩
noncomputable def aw5S17 : St := ⟨2475, aw5H99, []⟩
noncomputable def aw5H101 : TV := (.node (.one (.int .i64 (2))) (.one (.bool true)))
noncomputable def aw5H102 : TV := (.one (.tuple #[.int .i64 (2), .bool true, .int .i64 (0)]))
noncomputable def aw5H103 : TV := (.node aw5H90 (.node (.node (.node (.one (.bool false)) aw5H96) (.node aw5H102 aw5H96)) (.node (.node (.one (.func (.func 50) #[] #[])) (.one (.slice (some ⟨2475, 0, none⟩) 2 2))) (.node aw5H89 (.one (.slice (some ⟨2476, 0, none⟩) 1 1))))))
noncomputable def aw5H104 : TV := (.node (.node (.one (.slice (some ⟨2477, 0, none⟩) 3 3)) aw5H102) aw5H101)
noncomputable def aw5A18 : MA := ⟨312, (.node (.node (.node (.node (.node aw5H57 (.node aw5H79 (.node (.node aw5H100 aw5H101) aw5H7))) aw5H24) aw5H49) (.node aw5H88 (.node (.node aw5H103 (.node (.node aw5H104 aw5H7) .leaf)) .leaf))) .leaf), []⟩
noncomputable def aw5H105 : Tri := (.one (.cells [.int .i64 (5), .int .i64 (20), .int .i64 (10), .int .i64 (25)] 111 false 0 false))
noncomputable def aw5H106 : Tri := (.node aw5H87 (.node (.node aw5H94 (.node (.node aw5H95 (.node aw5H98 aw5H105)) (.node (.node aw5H93 aw5H86) .leaf))) .leaf))
noncomputable def aw5S18 : St := ⟨2524, (.node (.node (.node (.node (.node (.node (.node (.node (.node (.node (.node aw5H84 (.node (.node (.node aw5H85 (.node .leaf (.node aw5H106 .leaf))) .leaf) .leaf)) .leaf) .leaf) .leaf) .leaf) .leaf) .leaf) .leaf) .leaf) .leaf) .leaf), []⟩
noncomputable def aw5H107 : TV := (.one (.slice (some ⟨2560, 0, none⟩) 12 12))
noncomputable def aw5H108 : TV := (.one (.tuple #[.slice (some ⟨2560, 0, none⟩) 12 12, .int .i64 (0)]))
noncomputable def aw5H109 : TV := (.node aw5H104 (.node (.node (.one (.int .i64 (0))) aw5H108) (.node aw5H96 (.one (.func (.func 50) #[] #[])))))
noncomputable def aw5H110 : TV := (.node (.node (.one (.slice (some ⟨2524, 0, none⟩) 2 2)) aw5H108) (.node aw5H107 (.one (.int .i64 (0)))))
noncomputable def aw5A19 : MA := ⟨312, (.node (.node (.node (.node (.node aw5H57 (.node aw5H79 (.node (.node aw5H100 aw5H101) (.node (.node (.one (.int .i64 (0))) aw5H107) (.node (.one (.int .i64 (0))) .leaf))))) aw5H24) aw5H49) (.node aw5H88 (.node (.node aw5H103 (.node aw5H109 (.node aw5H110 .leaf))) .leaf))) .leaf), []⟩
noncomputable def aw5H111 : Tri := (.node aw5H85 (.node .leaf (.node aw5H106 (.node (.node .leaf (.node .leaf (.node .leaf (.node (.node aw5H105 aw5H98) .leaf)))) (.node .leaf (.node (.node (.node (.node aw5H43 aw5H92) (.node aw5H91 (.one (.cells [.int .i64 (5), .int .i64 (20), .int .i64 (0), .int .i64 (0)] 157 false 0 false)))) (.node (.node (.one (.hole)) aw5H92) (.node (.one (.cells [.int .i64 (10), .int .i64 (25), .int .i64 (5), .int .i64 (20)] 157 false 0 false)) (.one (.cells [.int .i64 (5), .int .i64 (20), .int .i64 (0), .int .i64 (0), .int .i64 (10), .int .i64 (25), .int .i64 (5), .int .i64 (20)] 157 true 4 false))))) .leaf))))))
noncomputable def aw5H112 : Tri := (.one (.cells [.int .i64 (0), .int .i64 (4), .int .i64 (8), .int .i64 (12), .int .i64 (16), .int .i64 (20), .int .i64 (20), .int .i64 (20), .int .i64 (20), .int .i64 (21), .int .i64 (25), .int .i64 (25)] 3 false 0 false))
noncomputable def aw5H113 : Tri := (.node (.node (.node (.node (.node (.node aw5H112 .leaf) .leaf) .leaf) .leaf) .leaf) .leaf)
noncomputable def aw5S19 : St := ⟨2625, (.node (.node (.node (.node (.node (.node (.node (.node (.node (.node (.node aw5H84 (.node (.node aw5H111 (.node (.node (.node aw5H113 .leaf) .leaf) .leaf)) .leaf)) .leaf) .leaf) .leaf) .leaf) .leaf) .leaf) .leaf) .leaf) .leaf) .leaf), []⟩
noncomputable def aw5H114 : TV := (.node aw5H79 (.node (.node aw5H100 aw5H101) (.node (.node (.one (.int .i64 (0))) aw5H107) (.node (.one (.int .i64 (0))) (.one (.int .i64 (8)))))))
noncomputable def aw5H115 : TV := (.one (.tuple #[.int .i64 (8), .int .i64 (0)]))
noncomputable def aw5H116 : TV := (.node aw5H103 (.node aw5H109 (.node aw5H110 (.node (.node aw5H115 aw5H96) (.node (.one (.func (.func 50) #[] #[])) (.one (.slice (some ⟨2625, 0, none⟩) 2 2)))))))
noncomputable def aw5A20 : MA := ⟨312, (.node (.node (.node (.node (.node aw5H57 aw5H114) (.node (.node (.node aw5H7 .leaf) (.node .leaf aw5H6)) aw5H23)) aw5H49) (.node aw5H88 (.node aw5H116 (.node (.node (.node (.node (.node aw5H115 (.one (.int .i64 (8)))) (.node (.one (.int .i64 (0))) .leaf)) .leaf) .leaf) .leaf)))) .leaf), []⟩
noncomputable def aw5H117 : Tri := (.node (.node (.node (.node (.node .leaf aw5H105) .leaf) .leaf) .leaf) .leaf)
noncomputable def aw5S20 : St := ⟨2663, (.node (.node (.node (.node (.node (.node (.node (.node (.node (.node (.node aw5H84 (.node (.node aw5H111 (.node (.node (.node aw5H113 (.node aw5H117 .leaf)) .leaf) .leaf)) .leaf)) .leaf) .leaf) .leaf) .leaf) .leaf) .leaf) .leaf) .leaf) .leaf) .leaf), []⟩
noncomputable def aw5H118 : TV := (.node (.one (.int .i64 (0))) (.one (.pointer (some ⟨2663, 0, none⟩))))
noncomputable def aw5H119 : TV := (.one (.agg #[.int .i64 (10), .int .i64 (512), .int .i64 (20)]))
noncomputable def aw5H120 : TV := (.node (.node aw5H115 (.one (.int .i64 (8)))) (.node (.one (.int .i64 (0))) aw5H119))
noncomputable def aw5A21 : MA := ⟨312, (.node (.node (.node (.node (.node aw5H57 aw5H114) (.node (.node (.node (.node aw5H118 .leaf) .leaf) (.node .leaf aw5H6)) aw5H23)) aw5H49) (.node aw5H88 (.node aw5H116 (.node (.node (.node aw5H120 .leaf) .leaf) .leaf)))) .leaf), []⟩
noncomputable def aw5H121 : Tri := (.one (.cells [.int .i64 (10), .int .i64 (512), .int .i64 (20)] 48 false 0 false))
noncomputable def aw5H122 : Tri := (.node .leaf (.node .leaf (.node .leaf aw5H121)))
noncomputable def aw5S21 : St := ⟨2664, (.node (.node (.node (.node (.node (.node (.node (.node (.node (.node (.node aw5H84 (.node (.node aw5H111 (.node (.node (.node aw5H113 (.node aw5H117 (.node (.node aw5H122 .leaf) .leaf))) .leaf) .leaf)) .leaf)) .leaf) .leaf) .leaf) .leaf) .leaf) .leaf) .leaf) .leaf) .leaf) .leaf), []⟩
noncomputable def aw5H123 : TV := (.one (.slice (some ⟨2669, 0, none⟩) 4 4))
noncomputable def aw5H124 : TV := (.node aw5H118 (.node aw5H123 (.one (.int .i64 (0)))))
noncomputable def aw5H125 : TV := (.node (.node (.node aw5H57 aw5H114) (.node (.node (.node aw5H124 .leaf) (.node .leaf aw5H6)) aw5H23)) aw5H49)
noncomputable def aw5H126 : TV := (.one (.tuple #[.slice (some ⟨2669, 0, none⟩) 4 4, .int .i64 (0)]))
noncomputable def aw5H127 : TV := (.node aw5H120 (.node (.node aw5H126 aw5H119) (.node (.one (.slice (some ⟨2664, 0, none⟩) 4 4)) aw5H126)))
noncomputable def aw5A22 : MA := ⟨312, (.node (.node aw5H125 (.node aw5H88 (.node aw5H116 (.node (.node aw5H127 (.node (.node (.node aw5H123 (.one (.int .i64 (0)))) .leaf) .leaf)) .leaf)))) .leaf), []⟩
noncomputable def aw5H128 : Tri := (.one (.cells [.int .i64 (-10), .int .i64 (20), .int .i64 (0), .int .i64 (-1)] 3 false 0 false))
noncomputable def aw5H129 : Tri := (.node aw5H122 (.node (.node (.node (.one (.cells [.int .i64 (30), .int .i64 (-100), .int .i64 (10), .int .i64 (13)] 3 false 0 false)) aw5H121) .leaf) (.node (.node aw5H43 aw5H128) .leaf)))
noncomputable def aw5S22 : St := ⟨2674, (.node (.node (.node (.node (.node (.node (.node (.node (.node (.node (.node aw5H84 (.node (.node aw5H111 (.node (.node (.node aw5H113 (.node aw5H117 (.node aw5H129 .leaf))) .leaf) .leaf)) .leaf)) .leaf) .leaf) .leaf) .leaf) .leaf) .leaf) .leaf) .leaf) .leaf) .leaf), []⟩
noncomputable def aw5H130 : TV := (.node aw5H88 (.node aw5H116 (.node (.node aw5H127 (.node (.node (.node aw5H123 (.one (.int .i64 (0)))) aw5H45) (.node aw5H45 aw5H45))) (.node (.node (.node aw5H46 (.node (.one (.bool false)) (.one (.int .i64 (2))))) (.node aw5H47 (.node (.one (.bool false)) (.one (.bool true))))) (.node (.node aw5H47 (.node (.one (.bool false)) aw5H107)) (.node (.node (.one (.slice (some ⟨2674, 0, none⟩) 12 12)) (.one (.bool true))) aw5H47))))))
noncomputable def aw5H131 : TV := (.node (.node (.node (.one (.bool false)) (.one (.int .i64 (8)))) aw5H47) (.node (.node (.one (.bool false)) aw5H123) (.node (.one (.slice (some ⟨2675, 0, none⟩) 4 4)) (.one (.bool true)))))
noncomputable def aw5A23 : MA := ⟨312, (.node (.node aw5H125 aw5H130) (.node (.node (.node (.node (.node aw5H131 (.node (.node aw5H47 .leaf) .leaf)) .leaf) .leaf) .leaf) .leaf)), []⟩
noncomputable def aw5S23 : St := ⟨2676, (.node (.node (.node (.node (.node (.node (.node (.node (.node (.node (.node aw5H84 (.node (.node aw5H111 (.node (.node (.node aw5H113 (.node aw5H117 (.node aw5H129 (.node (.node (.node .leaf (.node aw5H112 aw5H128)) .leaf) .leaf)))) .leaf) .leaf)) .leaf)) .leaf) .leaf) .leaf) .leaf) .leaf) .leaf) .leaf) .leaf) .leaf) .leaf), []⟩
noncomputable def aw5H132 : TV := (.one (.slice (some ⟨2723, 0, none⟩) 5 5))
noncomputable def aw5H133 : TV := (.one (.tuple #[.slice (some ⟨2723, 0, none⟩) 5 5, .int .i64 (0), .int .i64 (0)]))
noncomputable def aw5H134 : TV := (.one (.agg #[.int .i64 (120), .int .i64 (50)]))
noncomputable def aw5H135 : TV := (.node aw5H131 (.node (.node aw5H47 (.node aw5H133 (.one (.agg #[.int .i64 (100), .int .i64 (200), .int .i64 (30), .int .i64 (20)])))) (.node (.node aw5H134 aw5H133) (.node aw5H132 (.one (.int .i64 (0)))))))
noncomputable def aw5A24 : MA := ⟨312, (.node (.node (.node (.node (.node aw5H57 aw5H114) (.node (.node (.node aw5H124 (.node (.node aw5H132 (.one (.int .i64 (0)))) (.node (.one (.int .i64 (0))) .leaf))) (.node .leaf aw5H6)) aw5H23)) aw5H49) aw5H130) (.node (.node (.node (.node aw5H135 (.node (.node aw5H7 .leaf) .leaf)) .leaf) .leaf) .leaf)), []⟩
noncomputable def aw5H136 : Tri := (.one (.cells [.int .i64 (100), .int .i64 (200), .int .i64 (30), .int .i64 (20)] 64 false 0 false))
noncomputable def aw5H137 : Tri := (.one (.cells [.int .i64 (120), .int .i64 (50)] 65 false 0 false))
noncomputable def aw5H138 : Tri := (.one (.cells [.slice (some ⟨2723, 0, none⟩) 5 5] 61 false 0 false))
noncomputable def aw5H139 : Tri := (.one (.cells [.int .i64 (90), .int .i64 (0)] 65 false 0 false))
noncomputable def aw5H140 : Tri := (.node aw5H113 (.node aw5H117 (.node aw5H129 (.node (.node (.node .leaf (.node aw5H112 aw5H128)) (.node (.node aw5H136 aw5H137) (.node aw5H138 (.one (.cells [.int .i64 (0)] 3 false 0 false))))) (.node (.node (.node (.one (.cells [.int .i64 (0)] 28 false 0 false)) .leaf) (.node .leaf (.one (.cells [.int .i64 (0), .int .i64 (0), .int .i64 (0)] 28 false 0 false)))) (.node (.node aw5H138 aw5H136) (.node aw5H139 (.one (.hole)))))))))
noncomputable def aw5H141 : Tri := (.one (.cells [.int .i64 (140), .int .i64 (30)] 65 false 0 false))
noncomputable def aw5H142 : Tri := (.one (.cells [.int .i64 (140), .int .i64 (10)] 65 false 0 false))
noncomputable def aw5H143 : Tri := (.one (.cells [.int .i64 (120), .int .i64 (0)] 65 false 0 false))
noncomputable def aw5H144 : Tri := (.node (.node (.node (.node (.node (.one (.hole)) aw5H137) (.node aw5H137 (.one (.hole)))) .leaf) (.node (.node (.node .leaf aw5H141) (.node aw5H141 (.one (.hole)))) .leaf)) (.node (.node (.node (.node .leaf aw5H142) (.node aw5H142 (.one (.hole)))) .leaf) (.node (.node (.node .leaf aw5H143) (.node aw5H143 (.one (.hole)))) .leaf)))
noncomputable def aw5H145 : Tri := (.node (.node (.node (.node .leaf aw5H139) (.node aw5H139 (.one (.cells [.int .i64 (120), .int .i64 (50), .int .i64 (140), .int .i64 (30), .int .i64 (140), .int .i64 (10), .int .i64 (120), .int .i64 (0), .int .i64 (90), .int .i64 (0)] 65 true 2 false)))) .leaf) .leaf)
noncomputable def aw5H146 : Tri := (.node (.node (.node (.node (.node (.node (.node (.node (.node (.node (.node aw5H84 (.node (.node aw5H111 (.node (.node aw5H140 (.node (.node aw5H144 (.node aw5H145 .leaf)) .leaf)) .leaf)) .leaf)) .leaf) .leaf) .leaf) .leaf) .leaf) .leaf) .leaf) .leaf) .leaf) .leaf)
noncomputable def aw5S24 : St := ⟨2726, aw5H146, []⟩
noncomputable def aw5H147 : TV := (.node aw5H124 (.node (.node aw5H132 (.one (.int .i64 (0)))) (.node (.one (.int .i64 (0))) (.one (.slice none 0 0)))))
noncomputable def aw5H148 : TV := (.node (.one (.int .i64 (1))) (.one (.int .i64 (30))))
noncomputable def aw5H149 : TV := (.one (.tuple #[.slice none 0 0, .int .i64 (1), .int .i64 (30)]))
noncomputable def aw5H150 : TV := (.node (.node (.node (.one (.int .i64 (0))) aw5H149) (.node (.one (.agg #[.int .i64 (100), .int .i64 (139), .int .i64 (30), .int .i64 (20)])) aw5H134)) (.node (.node aw5H149 (.one (.slice none 0 0))) aw5H148))
noncomputable def aw5A25 : MA := ⟨312, (.node (.node (.node (.node (.node aw5H57 aw5H114) (.node (.node aw5H147 (.node (.node aw5H148 .leaf) aw5H6)) aw5H23)) aw5H49) aw5H130) (.node (.node (.node (.node aw5H135 (.node aw5H150 .leaf)) .leaf) .leaf) .leaf)), []⟩
noncomputable def aw5S25 : St := ⟨2748, aw5H146, []⟩
noncomputable def aw5H151 : TV := (.one (.string ⟨#[111, 114, 100, 101, 114, 32, 53, 32, 50, 48, 10, 111, 114, 100, 101, 114, 32, 49, 53, 32, 45, 49, 48, 10]⟩))
noncomputable def aw5H152 : TV := (.node (.node aw5H147 (.node (.node aw5H148 (.node aw5H151 (.one (.int .i64 (0))))) aw5H6)) aw5H23)
noncomputable def aw5H153 : TV := (.one (.tuple #[.string ⟨#[111, 114, 100, 101, 114, 32, 53, 32, 50, 48, 10, 111, 114, 100, 101, 114, 32, 49, 53, 32, 45, 49, 48, 10]⟩, .int .i64 (0)]))
noncomputable def aw5H154 : TV := (.node (.node aw5H153 (.one (.slice (some ⟨2748, 0, none⟩) 2 2))) (.node aw5H153 aw5H151))
noncomputable def aw5A26 : MA := ⟨312, (.node (.node (.node (.node (.node aw5H57 aw5H114) aw5H152) aw5H49) aw5H130) (.node (.node (.node (.node aw5H135 (.node aw5H150 (.node aw5H154 aw5H7))) .leaf) .leaf) .leaf)), []⟩
noncomputable def aw5H155 : Tri := (.node aw5H144 (.node aw5H145 (.node .leaf (.node .leaf (.node (.node aw5H83 .leaf) .leaf)))))
noncomputable def aw5S26 : St := ⟨2768, (.node (.node (.node (.node (.node (.node (.node (.node (.node (.node (.node aw5H84 (.node (.node aw5H111 (.node (.node aw5H140 (.node aw5H155 .leaf)) .leaf)) .leaf)) .leaf) .leaf) .leaf) .leaf) .leaf) .leaf) .leaf) .leaf) .leaf) .leaf), []⟩
noncomputable def aw5H156 : TV := (.node (.one (.bool true)) (.one (.bool true)))
noncomputable def aw5H157 : TV := (.node (.node (.node (.node (.node (.node (.node (.node (.node (.one (.bool true)) (.one (.pointer (some ⟨18, 0, none⟩)))) aw5H11) aw5H21) aw5H56) aw5H114) aw5H152) aw5H49) aw5H130) (.node (.node (.node (.node aw5H135 (.node aw5H150 (.node aw5H154 (.node aw5H45 aw5H45)))) (.node (.node (.node (.node aw5H156 (.node (.one (.int .i64 (30))) (.one (.bool true)))) (.node aw5H156 (.node (.one (.int .i64 (1))) (.one (.bool true))))) (.node (.node aw5H156 (.node aw5H132 (.one (.slice (some ⟨2782, 0, none⟩) 5 5)))) (.node (.node aw5H134 (.one (.agg #[.int .i64 (140), .int .i64 (30)]))) (.node (.one (.agg #[.int .i64 (140), .int .i64 (10)])) (.one (.agg #[.int .i64 (120), .int .i64 (0)])))))) (.node (.node (.node (.node (.one (.agg #[.int .i64 (90), .int .i64 (0)])) (.one (.slice (some ⟨2783, 0, none⟩) 5 5))) aw5H156) (.node (.node (.one (.bool true)) aw5H151) aw5H156)) .leaf))) .leaf) .leaf))
noncomputable def aw5A27 : MA := ⟨312, aw5H157, []⟩
noncomputable def aw5H158 : Tri := (.node (.node (.node (.node (.node (.node (.node (.node (.node (.node (.node aw5H84 (.node (.node aw5H111 (.node (.node aw5H140 (.node aw5H155 (.node (.node .leaf (.node (.node (.node (.node aw5H137 (.one (.cells [.int .i64 (120), .int .i64 (50)] 60 false 0 false))) (.node (.one (.hole)) aw5H141)) (.node (.node (.one (.cells [.int .i64 (140), .int .i64 (30)] 60 false 0 false)) (.one (.hole))) (.node aw5H142 (.one (.cells [.int .i64 (140), .int .i64 (10)] 60 false 0 false))))) (.node (.node (.node (.one (.hole)) aw5H143) (.node (.one (.cells [.int .i64 (120), .int .i64 (0)] 60 false 0 false)) (.one (.hole)))) (.node (.node aw5H139 (.one (.cells [.int .i64 (90), .int .i64 (0)] 60 false 0 false))) (.node (.one (.cells [.int .i64 (120), .int .i64 (50), .int .i64 (140), .int .i64 (30), .int .i64 (140), .int .i64 (10), .int .i64 (120), .int .i64 (0), .int .i64 (90), .int .i64 (0)] 60 true 2 false)) (.one (.cells [.int .i64 (120), .int .i64 (50), .int .i64 (140), .int .i64 (30), .int .i64 (140), .int .i64 (10), .int .i64 (120), .int .i64 (0), .int .i64 (90), .int .i64 (0)] 60 false 0 false))))))) .leaf))) .leaf)) .leaf)) .leaf) .leaf) .leaf) .leaf) .leaf) .leaf) .leaf) .leaf) .leaf) .leaf)
noncomputable def aw5S27 : St := ⟨2784, aw5H158, []⟩
noncomputable def aw5A28 : MA := ⟨312, aw5H157, []⟩
noncomputable def aw5S28 : St := ⟨2784, aw5H158, []⟩
def aw5R0 : Nat := 0
def aw5W0 : Nat := 0
def aw5RR0 : Nat := 11264468790322558680505890153507637146179140382555694817002134740187098059431976027339913750657092373162692054509618466068408676157550739760085528016134745433898321376022528079743872839071658035787112955242883880598798042595336609852153546292645954646593575381957923554786543383603994598847659040160075866449247938015721464370632268503668969219327710096599155070908070254426587681023055836948894992702044461515748095953066245746099451597747571687423622670463099062419698041461572803811810732523189146525804760892520985596383993331590251970651490646750068507514847665011452209666975991623785906171497466277865881183811187006257610988680350378786817161538359496079486689633029445790621802314564725565261907897474522029951527725099031933853484392810368065864954634276720895065264517951544833866357912048729591561357436232685266756181172420607
def aw5WW0 : Nat := 1251488810438502599561736580258053500908233312751246201240364773285836187045890166193727122927080650501593492577845545384495171712501287637842290654752329167430940767050593463242278198211504003693319569110773054030800137276083923189588672645024867979719026205465226141469945508317743464127087884030164333185053727496210179747490986699997956979412545642041557247305038999939026540272272844031045794411666133092753131945166051438795877068569049066428516126499116019957578542797688592293853877165324335011259459872901964552587091026865517976226316917915717117104610029809935476468536559396954569411502033254902891491611017551008263792394279776532855048644925702800773746460789490445944742701058538683462982303764936884144885431682223981662094698345416269306422575707320708663091959772272315359251096866856137165505092681994257776867893575680
def aw5R1 : Nat := 31
def aw5W1 : Nat := 262144
def aw5RR1 : Nat := 11264468790322558680505890153507637146179140382555694817002134740187098059431976027339913750657092373162692054509618466068408676157550739760085528016134745433898321376022528079743872839071658035787112955242883880598798042595336609852153546292645954646593575381957923554786543383603994598847659040160075866449247938015721464370632268503668969219327710096599155070908070254426587681023055836948894992702044461515748095953066245746099451597747571687423622670463099062419698041461572803811810732523189146525804760892520985596383993331590251970651490646750068507514847665011452209666975991623785906171497466277865881183811187006257610988680350378786817161538359496079486689633029445790621802314564725565261907897474522029951527725099031933853484392810368065864954634276720895065264517951544833866357912048729591561357436232685266756181172420607
def aw5WW1 : Nat := 1251488810438502599561736580258053500908233312751246201240364773285836187045890166193727122927080650501593492577845545384495171712501287637842290654752329167430940767050593463242278198211504003693319569110773054030800137276083923189588672645024867979719026205465226141469945508317743464127087884030164333185053727496210179747490986699997956979412545642041557247305038999939026540272272844031045794411666133092753131945166051438795877068569049066428516126499116019957578542797688592293853877165324335011259459872901964552587091026865517976226316917915717117104610029809935476468536559396954569411502033254902891491611017551008263792394279776532855048644925702800773746460789490445944742701058538683462982303764936884144885431682223981662094698345416269306422575707320708663091959772272315359251096866856137165505092681994257776867893575680
def aw5R2 : Nat := 3670031
def aw5W2 : Nat := 86645927941275464361825443254471365732388658605494267974077486894206915868925800719999200190754361815543475342543861619655442432
def aw5RR2 : Nat := 11264468790322558680505890153507637146179140382555694817002134740187098059431976027339913750657092373162692054509618466068408676157550739760085528016134745433898321376022528079743872839071658035787112955242883880598798042595336609852153546292645954646593575381957923554786543383603994598847659040160075866449247938015721464370632268503668969219327710096599155070908070254426587681023055836948894992702044461515748095953066245746099451597747571687423622670463099062419698041461572803811810732523189146525804760892520985596383993331590251970651490646750068507514847665011452209666975991623785906171497466277865881183811187006257610988680350378786817161538359496079486689633029445790621802314564725565261907897474522029951527725099031933853484392810368065864954634276720895065264517951544833866357912048729591561357436232685266756181172420607
def aw5WW2 : Nat := 1251488810438502599561736580258053500908233312751246201240364773285836187045890166193727122927080650501593492577845545384495171712501287637842290654752329167430940767050593463242278198211504003693319569110773054030800137276083923189588672645024867979719026205465226141469945508317743464127087884030164333185053727496210179747490986699997956979412545642041557247305038999939026540272272844031045794411666133092753131945166051438795877068569049066428516126499116019957578542797688592293853877165324335011259459872901964552587091026865517976226316917915717117104610029809935476468536559396954569411502033254902891491611017551008263792394279776532855048644925702800773746460789490445944742701058538683462982303764936884144885431682223981662094698345416269306422575707320708663091959772272315359251096866856137165505092681994257776867893313536
def aw5R3 : Nat := 28638903918474961204418783933674838490721739172170652529441449702311064005352904159345284265824628375429359509218999720075609903748251233201510582247127178740766315528456131853903886077997875598410001218311734050146491619024346238410972849781650489359
def aw5W3 : Nat := 85916711755424883613256351801024515472165217516511957588324349106933192016058712478035852797473885126288078527656999160223190582271220130101335078124693738861538622923937636306800403784436936328735120024695235742427791660820212750846076361319422885888
def aw5RR3 : Nat := 11264468790322558680505890153507637146179140382555694817002134740187098059431976027339913750657092373162692054509618466068408676157550739760085528016134745433898321376022528079743872839071658035787112955242883880598798042595336609852153546292645954646593575381957923554786543383603994598847659040160075866449247938015721464370632268503668969219327710096599155070908070254426587681023055836948894992702044461515748095953066245746099451597747571687423622670463099062419698041461572803811810732523189146525804760892520985596383993331590251970651490646750068507514847665011452209666975991623785906171497466277865881183811187006257610988680350378786817161538359496079486689633029445790621802314564725565261907897474522029951527725099031933853484392810368065864954634276720895065264517951544833866357912048729591561357436232685266756181172420607
def aw5WW3 : Nat := 1251488810438502599561736580258053500908233312751246201240364773285836187045890166193727122927080650501593492577845545384495171712501287637842290654752329167430940767050593463242278198211504003693319569110773054030800137276083923189588672645024867979719026205465226141469945508317743464127087884030164333185053727496210179747490986699997956979412545642041557247305038999939026540272272844031045794411666133092753131945166051438795877068569049066428516126499116019957578542797688592293853877165324335011259459872901964552587091026865517976226316917915717117104610029809935476468536559396954569411502033254902891491611017551008263792394279776532855048644925702800773746460789490445944742701058538683462982303764850238216944156217862156218840226979683880647817081439346631176197752856403389558531097666665382803689549206651713915248237871104
def aw5R4 : Nat := 821134653150514087653095372946324969205973705544476949324145245864662827161478468056747990469723744780310595848327159973973106791626807856755159786663739626879345132158379969396193725769125279472497787116020599735629880833012379997419567143916830994726927
def aw5W4 : Nat := 455769356286876421213391376429838886925099892492896311359073203585443629295319008244476198689326433780162368020962991167191110613607139517741900808291216386005762763108913764753265553690611976382226145357950239793122692242822302122332514317008108070827274337186476319071835298862424880252130670164301449339557783552772064084296510505746432
def aw5RR4 : Nat := 11264468790322558680505890153507637146179140382555694817002134740187098059431976027339913750657092373162692054509618466068408676157550739760085528016134745433898321376022528079743872839071658035787112955242883880598798042595336609852153546292645954646593575381957923554786543383603994598847659040160075866449247938015721464370632268503668969219327710096599155070908070254426587681023055836948894992702044461515748095953066245746099451597747571687423622670463099062419698041461572803811810732523189146525804760892520985596383993331590251970651490646750068507514847665011452209666975991623785906171497466277865881183811187006257610988680350378786817161538359496079486689633029445790621802314564725565261907897474522029951527725099031933853484392810368065864954634276720895065264517951544833866357912048729591561357436232685266756181172420607
def aw5WW4 : Nat := 1251488810438502599561736580258053500908233312751246201240364773285836187045890166193727122927080650501593492577845545384495171712501287637842290654752329167430940767050593463242278198211504003693319569110773054030800137276083923189588672645024867979719026205465226141469945508317743464127087884030164333185053727496210179747490986699997956979412545642041557247305038999939026540272272844031045794411666133092753131945166051438795877068569049066428516126499116019957578542797688592293853877165324335011259459872901964552587091026865517976226316917915717117104610029809935476468536559396868652699746608371289635139809993035536098574877767818944530699537992510784715033982753637648470857574770460155805983143541659655945724026116527078094146488118145257723879445132546227391760816527668269533835861924237591142869336455805637553928814985216
def aw5R5 : Nat := 3541635801953039378750968599919985168618521036376012022136467626066510724743836018882919410976286516966350363387265654032040748302641810081289633513422153457676363567100164400080544980001703705463378625554435750233281705597105364392974466146361465563106731073631630563052378148313605218995895861782909756111630486859633429367366304123133125798739566849030375111100505758190878745161099105561053452556246155671157261442482191
def aw5W5 : Nat := 10624907405859118136252905799759955505855563109128036066409402878199532174231508056629615919964810741208088652351743728845268049423223785166787825989677827942625692355032492855289924721238291659509690247641280604928345257046156259230692310226842360638745815101257738434151431436887317551953777514037576194136354771440934686787758373394653855234386695146074042781079672303983148088582636444421733448452311775473018343086096384
def aw5RR5 : Nat := 11264468790322558680505890153507637146179140382555694817002134740187098059431976027339913750657092373162692054509618466068408676157550739760085528016134745433898321376022528079743872839071658035787112955242883880598798042595336609852153546292645954646593575381957923554786543383603994598847659040160075866449247938015721464370632268503668969219327710096599155070908070254426587681023055836948894992702044461515748095953066245746099451597747571687423622670463099062419698041461572803811810732523189146525804760892520985596383993331590251970651490646750068507514847665011452209666975991623785906171497466277865881183811187006257610988680350378786817161538359496079486689633029445790621802314564725565261907897474522029951527725099031933853484392810368065864954634276720895065264517951544833866357912048729591561357436232685266756181172420607
def aw5WW5 : Nat := 1251488810438502599561736580258053500908233312751246201240364773285836187045890166193727122927080650501593492577845545384495171712501287637842290654752329167430940767050593463242278198211504003693319569110773054030800137276083923189588672645024867979719026205465226141469945508317743464127087884030164333185053727496210179747490986699997956979412545642041557247305038999939026540272272844031045794411666133092753131945166051438795877068569049066428516126499116019957578542797688592293853877165324334555490103586025543339195714597026631051126424425019405758031406444366306181149528314920669963373312828208921614176818825844425484967738250077043722408321606505021951925068988884382917166962794077929660625193301866533253481203814404745579829480010074430449542258656227155556461954102788017403165697622788251585085783683741553257418309238784
def aw5R6 : Nat := 13012366599585285417941478744589216547843331562001542282675861342542479851910024842986517135644583574000511004889789951691715161200819862588905717640862394592645455929977714129844991965799420748568155685047266921978164149685455755304865795104054746443714554737770757291258994686481645355147999136551875715263570234002798474647714830929926155120974323092177464490159398989377377396679509184029074641253340040668907456850914585870336
def aw5W6 : Nat := 7427348605337420439226351301259396736338668628478026364247537354940635099417985194658970761928680925182008511152254688145103860128004202503366474283301612075177785324580367485485658736331441943441355307407135634395563037501620230452721613258947636766089021210410956224219180913577037259571656140372976996895148227212299686755440349427115040604168175499659823655475598977214288993422417728230642381629554181518930454746564401299456
def aw5RR6 : Nat := 11264468790322558680505890153507637146179140382555694817002134740187098059431976027339913750657092373162692054509618466068408676157550739760085528016134745433898321376022528079743872839071658035787112955242883880598798042595336609852153546292645954646593575381957923554786543383603994598847659040160075866449247938015721464370632268503668969219327710096599155070908070254426587681023055836948894992702044461515748095953066245746099451597747571687423622670463099062419698041461572803811810732523189146525804760892520985596383993331590251970651490646750068507514847665011452209666975991623785906171497466277865881183811187006257610988680350378786817161538359496079486689633029445790621802314564725565261907897474522029951527725099031933853484392810368065864954634276720895065264517951544833866357912048729591561357436232685266756181172420607
def aw5WW6 : Nat := 1251488810438502599561736580258053500908233312751246201240364773285836187045890166193727122927080650501593492577845545384495171712501287637842290654752329167430940767050593463242278198211504003693319569110773054030800137276083923189588672645024867979719026205465226141469945508317743464127087884030164333185053727496210179747490986699997956979412545642041557247305038999939026540272272844031045794411666133092753121320258645579677740815663249306473010270936006891921512133394810392761679645657267704939570138775284335250543362853297785783077001201234238970205416766538363555457173282427814673448591589917262104486571184563820556622481203920784491716011379662661313179253887626644483015531357190612108671415787828957059344849042963810893041721636679776594307871961081081513680874430484034255077114986343829851637331371966080239075223142400
def aw5R7 : Nat := 470604234989867568053726923556598573810994353306233270537840238390666515786355981368274718484316685149790068645677948455172851339687578074323778596820157733225376984875115778159456294685523577063276659515821845287881658114482808410271378603545166707628861820140929706512245144690869641596745827661498770898305361088153608134179622478610580384812766886891308832225390633800354573020817856257797486163999698273427241697524811602568937472
def aw5W7 : Nat := 49436432317125870443490594261182544677070178391149743480431608634484867221726109455650109391397300238011448650229407204293811293011995971862407252829655529972383339120406925983392544549022077575545660926101894782536867577610784253893315057851555470315088525176495324628402868160768759999708943270322534891334106600325066715044210965786877710261343376125735786250845586792338307540219612399103155692126312632190001106793132655049179136
def aw5RR7 : Nat := 11264468790322558680505890153507637146179140382555694817002134740187098059431976027339913750657092373162692054509618466068408676157550739760085528016134745433898321376022528079743872839071658035787112955242883880598798042595336609852153546292645954646593575381957923554786543383603994598847659040160075866449247938015721464370632268503668969219327710096599155070908070254426587681023055836948894992702044461515748095953066245746099451597747571687423622670463099062419698041461572803811810732523189146525804760892520985596383993331590251970651490646750068507514847665011452209666975991623785906171497466277865881183811187006257610988680350378786817161538359496079486689633029445790621802314564725565261907897474522029951527725099031933853484392810368065864954634276720895065264517951544833866357912048729591561357436232685266756181172420607
def aw5WW7 : Nat := 1251488810438502599561736580258053500908233312751246201240364773285836187045890166193727122927080650501593492577845545384495171712501287637842290654752329167430940767050593463242278198211504003693319569110773054030800137276083923189588672645024867979719026205465226141469945508317743464127087884030164333185053727496210179747490986699997956979412545642041557247305038999939026540272272844031045794411666133085325772714921225140451389514403852570134341642457980527673974778454175293343694450998296943010889213593275824098288674708193925655072798697867764686903804691360578230876805796942155937117149646475906797079435550168257519120860973468062878457063742896572291968842931402425302101954319931040452531042810832061911117636743277055452692294521639172426132372301257426038081897216195040832659386755701448222083149853035625492510821842944
def aw5R8 : Nat := 0
def aw5W8 : Nat := 486758718199393185905138158879335824512690987235935935807326608093389461875457077717170307853758033112728109786874163242277526577348883415260625258630454448958851339031698963528788130944217379205372661426234040935747619225706183422949563646538392323102410094045492427110428240352184713843288056815483420468520434218585272271204538740055411301034765549545706203085248854570715643472931568237323379122474462840024626282270844603561148416
def aw5RR8 : Nat := 11264468790322558680505890153507637146179140382555694817002134740187098059431976027339913750657092373162692054509618466068408676157550739760085528016134745433898321376022528079743872839071658035787112955242883880598798042595336609852153546292645954646593575381957923554786543383603994598847659040160075866449247938015721464370632268503668969219327710096599155070908070254426587681023055836948894992702044461515748095953066245746099451597747571687423622670463099062419698041461572803811810732523189146525804760892520985596383993331590251970651490646750068507514847665011452209666975991623785906171497466277865881183811187006257610988680350378786817161538359496079486689633029445790621802314564725565261907897474522029951527725099031933853484392810368065864954634276720895065264517951544833866357912048729591561357436232685266756181172420607
def aw5WW8 : Nat := 1251488810438502599561736580258053500908233312751246201240364773285836187045890166193727122927080650501593492577845545384495171712501287637842290654752329167430940767050593463242278198211504003693319569110773054030800137276083923189588672645024867979719026205465226141469945508317743464127087884030164333185053727496210179747490986699997956979412545642041557247305038999939026540272272844031045794411666083648893455589050781649857128331859175499955950492714500096065340293586953567234238800888905545710651202144625594691084380896900913659100936290614935031373832308021457823950822404397606915039574100814980695184653013300679908336607080153005026901593427808047115473518302999557141333194320222097182208507919497955310792570028232844486905416811377829050006636515006580451289558908654821220260283600009321909450959851928832359855772663808
def aw5R9 : Nat := 486758718199393185905138158879335824512690987235935935807326608093389461875457077717170307853758033112728109786874163242277526577348883415260625258630454448958851339031698963528788130944217379205372661426234040935747619225706183422949563646538392323102410094045492427110428240352184713843288056815483420468520434218585272271204538740055411301034765549545706203085248854570715643472931568237323379122474462840024626282270844603561148416
def aw5W9 : Nat := 15950109677957715915739567190158076297631858269747148744534478294004185886734977522636236647751943229037874701496292581122949990886568211751260168474802731383483640677390711636911329474780115081801651369614837053382577986787940218403211301569770039643419773961682695851554512579860388703216863045729760721912477588474602201782830325434135717512307197527513700862697434466573210205321021628000612487085243198341926954017451035969491711295488
def aw5RR9 : Nat := 11264468790322558680505890153507637146179140382555694817002134740187098059431976027339913750657092373162692054509618466068408676157550739760085528016134745433898321376022528079743872839071658035787112955242883880598798042595336609852153546292645954646593575381957923554786543383603994598847659040160075866449247938015721464370632268503668969219327710096599155070908070254426587681023055836948894992702044461515748095953066245746099451597747571687423622670463099062419698041461572803811810732523189146525804760892520985596383993331590251970651490646750068507514847665011452209666975991623785906171497466277865881183811187006257610988680350378786817161538359496079486689633029445790621802314564725565261907897474522029951527725099031933853484392810368065864954634276720895065264517951544833866357912048729591561357436232685266756181172420607
def aw5WW9 : Nat := 1251488810438502599561736580258053500908233312751246201240364773285836187045890166193727122927080650501593492577845545384495171712501287637842290654752329167430940767050593463242278198211504003693319569110773054030800137276083923189588672645024867979719026205465226141469945508317743464127087884030164333185053727496210179747490986699997956979412545642041557247305038999939026540272272844031045794411665596890175256195864876511698248996034662808968714556778692769457246904125078110156521630581051787677538474034838720527842103370323564775685675665356304576924873456682426124987293616266662697660368728153554461143717265681454202153184130589358488509270325397953069981091192571316789148480476934040366725087450977521092207297757028305746850005510343063500460930311921331596718843265181889652022960220886847446610935225646561515252211515392
def aw5R10 : Nat := 486758718199393185905138158879335824512690987235935935807326608093389461875457077717170307853758033112728109786874163242277526577348883415260625258630454448958851339031698963528788130944217379205372661426234040935747619225706183422949563646538392323102410094045492427110428240352184713843288056815483420468520434218585272271204538740055411301034765549545706203085248854570715643472931568237323379122474462840024626282270844603561148416
def aw5W10 : Nat := 4181225551418547481015633101496798752966405854264596560487246277903433305092253947693953619788285405832904625749044122385894602410968537301322345604658687215791935501733910711346483553836758488003812096636311844521922523768537800613091423438705797272284633225411348621309906145734921736216081346259782394685024524953086119584158272830606073531546257988652551598950956260805367616063673893650592559814473992986146099433950684373186435165844406272
def aw5RR10 : Nat := 11264468790322558680505890153507637146179140382555694817002134740187098059431976027339913750657092373162692054509618466068408676157550739760085528016134745433898321376022528079743872839071658035787112955242883880598798042595336609852153546292645954646593575381957923554786543383603994598847659040160075866449247938015721464370632268503668969219327710096599155070908070254426587681023055836948894992702044461515748095953066245746099451597747571687423622670463099062419698041461572803811810732523189146525804760892520985596383993331590251970651490646750068507514847665011452209666975991623785906171497466277865881183811187006257610988680350378786817161538359496079486689633029445790621802314564725565261907897474522029951527725099031933853484392810368065864954634276720895065264517951544833866357912048729591561357436232685266756181172420607
def aw5WW10 : Nat := 1251488810438502599561736580258053500908233312751246201240364773285836187045890166193727122927080650501593492577845545384495171712501287637842290654752329167430940767050593463242278198211504003693319569110773054030800137276083923189588672645024867979719026205465226141469945508317743464127087884030164333185053727496210179747490986699997956979412545642041557247305038999939026540272272844031045794395715487212217540280125309321540172698402804539221565812244214475453061017390100587520284982829108558639663772538546139404892112483755353024425507190553573193441232779291714488075964141486547615858717358538717407761139278893513983749972829019588448865850551436270374129536679991456400445263613888310606003174973389046490005514926702871611132493203145535986760067614486865023508637944160261651410473135643649104683981208195525545760500219904
def aw5R11 : Nat := 486758718199393185905138158879335824512690987235935935807326608093389461875457077717170307853758033112728109786874163242277526577348883415260625258630454448958851339031698963528788130944217379205372661426234040935747619225706183422949563646538392323102410094045492427110428240352184713843288056815483420468520434218585272271204538740055411301034765549545706203085248854570715643472931568237323379122474462840024626282270844603561148416
def aw5W11 : Nat := 0
def aw5RR11 : Nat := 11264468790322558680505890153507637146179140382555694817002134740187098059431976027339913750657092373162692054509618466068408676157550739760085528016134745433898321376022528079743872839071658035787112955242883880598798042595336609852153546292645954646593575381957923554786543383603994598847659040160075866449247938015721464370632268503668969219327710096599155070908070254426587681023055836948894992702044461515748095953066245746099451597747571687423622670463099062419698041461572803811810732523189146525804760892520985596383993331590251970651490646750068507514847665011452209666975991623785906171497466277865881183811187006257610988680350378786817161538359496079486689633029445790621802314564725565261907897474522029951527725099031933853484392810368065864954634276720895065264517951544833866357912048729591561357436232685266756181172420607
def aw5WW11 : Nat := 1251488810438502599561736580258053500908233312751246201240364773285836187045890166193727122927080650501593492577845545384495171712501287637842290654752329167430940767050593463242278198211504003693319569110773054030800137276083923189588672645024867979719026205465226141469945508317743464127087884030164333185053727496210179747490986699997956979412545642041557247305038999939026540272272844031041613170164068664736524647023812522787206292548539942661078565966311042147968763442406633900496697423275654013914728416160244802481143946454030678820848503337781257939498868580368004522127382998543803762081046694195485237370741092900892326534123222316164232625140087649064223390945069720184363917354105915920978650020302926905847242096096798079586235214492984387809111353681497407444964050509669091595999142657503005250030523822339110594655813632
def aw5R12 : Nat := 918504556219403619386266560942145587217854161670956160382114189460613009113896251085327589053205015934756771711189970218757695168690444265140745084933322548313039913162984998723709626371825497130310751745020580945488859644978433519671925670199187909484410280319057223584285146631860656438566840353111544866013976530506122493777887217495011434736266342947649400939025668070410105993637869559796326489487216438501563668118584332912724764389253706364511829314504792179923082737237810531865927928937583402098454705704573673772496494440705290642037849743992569640807609529057205006568349912368323412753383424
def aw5W12 : Nat := 504953219864234489073669948260467999381939104214304438002036647305072736544810795206206272055045522870136218139404656554595618111726420642110752381038254423759857458864078063933596839849838314168688400599751055754324878416290933690028720224038690163602838216438067266295118373305329153259493006236311412273779911459213567850323202731040071398357127750551973782157465713427047284261069692408597790513502767448842868808100966521212474236754713217256307775206770112987923838823606565776955579714483301929213727227822760905235093707318015603722117580724834958367868783366144212572583101228202377315524310212672806191104
def aw5RR12 : Nat := 11264468790322558680505890153507637146179140382555694817002134740187098059431976027339913750657092373162692054509618466068408676157550739760085528016134745433898321376022528079743872839071658035787112955242883880598798042595336609852153546292645954646593575381957923554786543383603994598847659040160075866449247938015721464370632268503668969219327710096599155070908070254426587681023055836948894992702044461515748095953066245746099451597747571687423622670463099062419698041461572803811810732523189146525804760892520985596383993331590251970651490646750068507514847665011452209666975991623785906171497466277865881183811187006257610988680350378786817161538359496079486689633029445790621802314564725565261907897474522029951527725099031933853484392810368065864954634276720895065264517951544833866357912048729591561357436232685266756181172420607
def aw5WW12 : Nat := 1251488810438502599561736580258053500908233312751246201240364773285836187045890166193727122927080650501593492577845545384495171712501287637842290654752329167430940767050593463242278198211504003693319569110773054030800137276083923189588672645024867979719026205465226141469945508317743464127087884030164333185053727496210179747490986699997956979412545642041557247305038999939026540272272844031041613170164068664736524647023812522787206292548539942661078565966311042147968763442406633900496697423275654013914728416160244802481143946454030678820848503337781257939498868580368004522127382998543803762081046694195485237370741092900892326534123222316164232625140087649064223390945069720184363917354105915920978650020302926905847242096096798079586235214492984387809111353681497407444964050509669091595999142657503005250030523822339110594655813632
def aw5R13 : Nat := 42726699513741687460806408463711989596474330910411785800593388533142351832150064698877568588688841866053560096307371368363279856095244221593679588911312622052890160986800494639813905920771104400594023260331504320592581068918081789380354942013319609149225874107463342664163790485150421751530122162415606594392186536897784293982916514397374112669682752693613109913699036974634762990200762081398686126889779376848483917120415261010152962213559838787251720363386455073471377680679640777458345910790004985302633246764216185605505825657429825067574280491160054011794613067756036182038544558934757520073515018209201571199496677058084527805673072319309237305593814111671481712655678395648000271788010765090787210416804576595135451396270860475039743
def aw5W13 : Nat := 0
def aw5RR13 : Nat := 11264468790322558680505890153507637146179140382555694817002134740187098059431976027339913750657092373162692054509618466068408676157550739760085528016134745433898321376022528079743872839071658035787112955242883880598798042595336609852153546292645954646593575381957923554786543383603994598847659040160075866449247938015721464370632268503668969219327710096599155070908070254426587681023055836948894992702044461515748095953066245746099451597747571687423622670463099062419698041461572803811810732523189146525804760892520985596383993331590251970651490646750068507514847665011452209666975991623785906171497466277865881183811187006257610988680350378786817161538359496079486689633029445790621802314564725565261907897474522029951527725099031933853484392810368065864954634276720895065264517951544833866357912048729591561357436232685266756181172420607
def aw5WW13 : Nat := 1251488810438502599561736580258053500908233312751246201240364773285836187045890166193727122927080650501593492577845545384495171712501287637842290654752329167430940767050593463242278198211504003693319569110773054030800137275578969969724438155951198031458558206083287037255641070315706816822015147485353537978847455441164656877354768560593300424816927530315136605194286618900772116512415385166963549236567228814898210478335411923036150538223661526370144875937590818109278599839568417462429431128157280708585575156667238566169731672674119219607280653014578526899427470223240253970153600841078090335033762433125792828772950579398124877691254414215197711412665850894351006134637294513414250929430267092314412873064723212422545312882369570256825329979399277069793507631563916682610005682640885725451786570074401777047653208298028897921849622528
def aw5R14 : Nat := 5397963036467583568735899226079981629649777544228693782689566927111605303418342723862095382789182214831608621887184376562821276378841838453917520040739326871493219449291624501166841127772578297547993654517098381176395183608783942648239327443061181650550834761665259187353294206319797961759133059556539032097043569740590130729858880748909981284514553316931881813894784443856561179470043508627674718856041264998089009621975948316682835822449283868225551846170454120311517336074398614394990687162614692826110861853973223994286153867486354108809598424985684262107249062423992546060875330572566173018367156671492058661448900820204232620845615946620403836679090131911315188703712975918877351671498220532063249929905199615142325411037060978161355849728
def aw5W14 : Nat := 596122911615724023453171010885709678850009864862065235489878956814402092762157702678739836949386721715179270463680445331173626475462898618658915757195748239968840072418530839407946934751328566486375587892298822985001034487107960714154163712963073669144962938014569566977401264446109179750713513704307978590080336351460365230233581724022087442302476376540667982304194164302459990300344442244990329916910355383003451222504570431347158753723828681471596857180227597905849176961867451305696451333141073105320098647705847383095825723701553957893846686479820429590779208928313137592688392079816337852885975388219059677128774975889330358589065713209044460896957643541844413208781724966862679251281343439212783652025155758397926287855041260203376902144
def aw5RR14 : Nat := 11264468790322558680505890153507637146179140382555694817002134740187098059431976027339913750657092373162692054509618466068408676157550739760085528016134745433898321376022528079743872839071658035787112955242883880598798026049534454560782042815702759995838639633959295764673023370869172353529300676344749344688331510339073578617172494631287644784709043156973975027884800773943884341773701237702978261775894630089146462089084857692166592337942627948707037490199899713968385407944406253917720973537227184469063652703864116105698977809101002016538566268384703836480712285108507993607222271212872936011421765266613704566355955649629924581048122701459140869040229064695502609896406747150934311577260820573366840831424692149783573234559889373114166324790710455560319290608193118587457557209792495979371507296480991495420843149436750510998264217601
def aw5WW14 : Nat := 1251488810438502599561736580258053500908233312751246201240364773285836187045890166193727122927080650501593492577845545384495171712501287637842290654752329167430940767050593463242278198211504003693319569110773054030800137275578969969724438155951198031458558206083287037255641070315706816822015147485353537978847455441164656877354768560593300424816927530315136605194286618900772116512415385166963549236567228814898210478335411923036150538223661526370144875937590818109278599839568417462429431128157280708585575156667238566169731672674119219607280653014578526899427470223240253970153600841078090335033762433125792828772950579398124877691254414215197711412665850894351006134637294513414250929430267092314412873064723212422545312882369570256825329979399277069793507631563916682610005682640885725451786570074401777047653208298028897921849622528
def aw5R15 : Nat := 0
def aw5W15 : Nat := 5600273958665150458862817570155657900389083501089493588455376621816034339343573280211280670056623881067372228943199779991943059732789065922080089315306845850716442515197941096823281295278536257633473412859761419602211553346775704323796914147469609515637083014008433363163843071493722936373675578286342844736167563521976275190451263168794656338694823941079302879628392882988247982271125769347432090228589026717390220659125505703665051044157803392907478731674798717941188598247268533367276753808591365686676890048172364406331426982297167457644945017938863485329889082042134430228558839355338806984910447683819423021833629131290589790781681562624417687692519513640813569961398957486856729846899960383063215226364766023848408429023506884846403190784
def aw5RR15 : Nat := 11264468790322558680505890153507637146179140382555694817002134740187098059431976027339913750651694410126224470940882566842328694527900962215856834233445178506786716072604185355881777456282475820955504333355699504035976749670692616106864522774963433124345420184667671263506182243096594055981307021827650963511936326730289635968933167188226463134158208395308715840531506567624086380014568178146439229678851060348556331359225976943256611053428074631775155676305115270111824228474362745290046254681185919470974643081888167789016141986651718148313014422214249716169194949034109379212231584050258243185310903412640480572069801782143570472238524276473456606932980002271510063835531416578368138558893663901874782169975791329579340613714273426493762488111620323649004101904480142668580205538294275447308257366575791880278517738399689532836908367873
def aw5WW15 : Nat := 1251488810438502599561736580258053500908233312751246201240364773285836187045890166193727122926484527589977768554392374373609462033651277772980225419262450210616538674288435760563538361262117281978140298647092608699626510800116071351065522398755449791489718133664756197847694135564378250335639559593054714993846420954056696163200604847630226755671964592300567038216885354454662936761701871462655570646486892463437845248101830199014063095921185149829476893633396653806818609539223975217439101211246925325582123934162668134822572918950290538135683795834350928993578293261372802664457149507937017229713663785419945445677124855696570919797407727735377281821886641966037868541948902433597913076544291704095353195935948236533214954293303857047780869082441633527949094422782191715747326431359542286239002918049246018649726920442987637718472720384
def aw5R16 : Nat := 0
def aw5W16 : Nat := 0
def aw5RR16 : Nat := 11264468790322558680505890153507637146179140382555694817002134740187098059431976027339913750651694410126224470940882566842328694527900962215856834233445178506786716072604185355881777456282475820955504333355699504035976749670692616106864522774963433124345420184667671263506182243096594055981307021827650963511936326730289635968933167188226463134158208395308715840531506567624086380014568178146439229678851060348556331359225976943256611053428074631775155676305115270111824228474362745290046254681185919470974643081888167789016141986651718148313014422214249716169194949034109379212231584050258243185310903412640480572069801782143570472238524276473456606932980002271510063835531416578368138558893663901874782169975791329579340613714273426493762488111620323649004101904480142668580205538294275447308257366575791880278517738399689532836908367873
def aw5WW16 : Nat := 1251488810438502599561736580258053500908233312751246201240364773285836187045890166193727122920884253631312618095529556803453804133262194271890731830807073588800504334944862480352257691205493400910768069703892828707683451067327005428985433083448603940773275618466815101024412840285841992702166146733293295391634867607280991839403690700160617240034881578292133675053042282960940000388026293176312725910319328941461570057650567030219406757226361208750174014005003770818570627268098205870007010982657898608191903275037162431157521874792487145228205064159552211052389695014104269297180395699345651543036773737247581039345697873399403462152462709796513796491997559923903438313390063078259106091633844020275930174102319105242625163511622294423363181389922119887135524461383234228890596584459581903175787691684479994801318491419480752872069529600
def aw5R17 : Nat := 84004109379977256882942263552334868505836252516342403826830649327240515090153599203169210050849358216010583434147996699879145895991835988831201339729602687760746637727969116452349219429178043864502101192896421294033173300201635564856953712212044142734556245210126500447457646072405844045605133674295142671042513452829644127856768947531919845080422359116189543194425893244823719734066886540211481353428835400760853309886882585554975765662367050893612180975121980769117828973709028000509151307128870485300153350722585466094971404734457511864674175269082952279948336230632016453428382590330082104773656715257291345327504436969358846861725223439366265315387792704612203549420984362302850947703499405745948228395471490357726126435352603272696047861760
def aw5W17 : Nat := 0
def aw5RR17 : Nat := 11264468790322558680505890153507637146179140382555694817002134740187098059431976027339913750651694410126224470940882566842328694527900962215856834233445178506786716072604185355881777456282475820955504333355699504035976749670692616106864522774963433124345420184667671263506182243096594055981307021827650963511936326730289635968933167188226463134158208395308715840531506567624086380014568178146439229678851060348556331359225976943256611053428074631775155676305115270111824228474362745290046254681185919470974643081888167789016141986651718148313014422214249716169194949034109379212231584050258243185310903412640480572069801782143570472238524276473456606932980002271510063835531416578368138558893663901874782169975791329579340613714273426493762488111620323649004101904480142668580205538294275447308257366575791880278517738399689532836908367873
def aw5WW17 : Nat := 1251488810438502599561736580258053500908233312751246201240364773285836187045890166193727122920884253631312618095529556803453804133262194271890731830807073588800504334944862480352257691205493400910768069703892828707683451067327005428985433083448603940773275618466815101024412840285841992702166146733293295391634867607280991839403690700160617240034881578292133675053042282960940000388026293176312725910319328941461570057650567030219406757226361208750174014005003770818570627268098205870007010982657898608191903275037162431157521874792487145228205064159552211052389695014104269297180395699345651543036773737247581039345697873399403462152462709796513796491997559923903438313390063078259106091633844020275930174102319105242625163511622294423363181389922119887135524461383234228890596584459581903175787691684479994801318491419480752872069529600
def aw5R18 : Nat := 1580181144644002468122424937263857605902692496213714155426425323061297019824479310927359082573592040568018977911071888633102377310824060579481627978693761293016161234383647033498929957509851583206509822688892942880584207316657043354929677249640566839699012029352122787258321947130729619675727331676807799677341602465194634067870702267885225938669838239796781857282180205864715675766781746127404423064501306465665906804098204269251468005279795884368453664346558231386612582075734423700927639477020122592348076744852633130523287176235787341865885829731154468893986262049284382823585914893806142031096251858242137290609837593837885671949395163421237339668092202136277121291168473593382495138220367610883294370941685066364562561240344671914105756551467430857989866290937856
def aw5W18 : Nat := 433657238646430167455567185535440237509616359186412222474630269345461048186872351246931445901136506308431515407148985907176168958368242284296554727069278385374844628270561181418320016071361506561032816607552484467792747117804096840073367548369067701404151608819732069848965630031596841963528344038586367454663911680041840869740043631709470201070008611382987788699639620555246881028484200512891152022323884480470636045503018192268813644528758729932626656450998778067426357055634940144798263532670429721734209032082381927795886347184829114354285611029844495069750670657808905032229434352695227699046565915493961946371937297014390240130309132739461052295629116616667713922088576285676907826937785726868890242250932804769005111640233014316356228105691224213366792359709245440
def aw5RR18 : Nat := 11264468790322558680505890153507637146179140382555694817002134740187098059431976027339913750573290574704912364516803120860149483922453793200603923995069905801362235321794159432923848075489741486012293128150902584148773913411645693197743272360667591214315224971896495907980244109197086449112679241790991089080974579875429775435776369123651929915239046199190648756237703566711965270783110082137639403372505171040888478692908292580131422311700539456664915361507614908276352476678601974425996991480939545427511553854131087937705427368442470647608312178767067664992554573572349912070357030729979123571834442738227378883429824029983226065209294025329367812314532853681628040635707665603624840770147396328402859864304983491511083542770731549751914860416347132677614122444894737852585987681694830084423244197469067546400799732070593144987263696897
def aw5WW18 : Nat := 1251488810438502599561736580258053500908233312751246201240364773285836187045890166193727122920884253631312618095529556803453804133262194271890731830807073588800504334944862480352257691205493400910768069703892828707683451067327005428985433083448603940773275618466815101024412840285841992702166146733293295391634867607280991839403690700160617240034881578292133675053042282960940000388026293176312725910319328941461570057650567030219406757226361208750174014005003770818570627268098205870007010982657898608191903275037162431157521874792487145228205064159552211052389695014104269297180395699345651543036773737247581039345697873399403462152462709796513796491997559923903438313390063078259106091633844020275930174102319105242625163511622294423363181389922119887135524461383234228890596584459581903175787691684479994801318491419480752872069529600
def aw5R19 : Nat := 15985956172052216261995526510542322108160465659657475812422592248116123489757910440752679217742573572072193625727506553765881460193042398322700865231856610955033032315517016041936449812867156385263902560744652693162524171145387600803031808991693482107347849362655197576357871852117157237786584209243019515603959200445488978945955471770324374230717040991101894146118307715444094062127705430673561312840270473151647465576457622333435675414228797283855464806543306602620683569504416490812569965795671721820920917574334229338561458166022272572338155425066589172137920090386017392552162544487186058895878296318815419817741801487459530464350460196729940383916015362894964728988073339279912247424377474475887883636982215604577880390998419954935052154152374368962138726301205484751518097725211017216
def aw5W19 : Nat := 0
def aw5RR19 : Nat := 11264468790322558680505890153507637146179140382555694817002134740187096479250831383337445628153953584805971612283169724716149715397519815404673593104214355064095696069097164694157217673657732264702354533033522882512738279383141742958588978028940938135074157635511230494980836511532742122538835997607397579005936492655365780747543931148334281108928998483579406392069869830406010865554320465789914377406404849336926084045119758967068796470189498682068451459389880386841535957643262077866624983505259320676896494717372225187706131854368887427933715176018165455294266151697026097360888931905439965971335096999057877403931519857811499536592189758885407711729528129581731374612408262821673037917464006126550333490975191385462005241350276835255041379635273263823289472038682812045071775843528425904925219079161919464492656693663242039967375949825
def aw5WW19 : Nat := 1251488810438502599561736580258053500908233312751246201240364773285402529807243736026271555735348813393803001736343144580979173863916733223703859479560142142899367828636430964945108705298317231952399827419596273980614172681952160800714871902030283924701914111905782284416860355818049245584362049893219927843265799905876840230583958630311651610003284736328605331014455915506276088707984452306572682278609858740391561446267579241519767136671114327721689813492112618796246742787627569824503992790389084963663144545104535774706523096725060788172570124014753947519719265292370060265098013771549765195851944622893295428315853378329652791494653804764284362139302332224856872397896101131887168794619453780145621041362858052946996046894954580501274605104245212060197738734514343986639663779690576791535554677368123766695627267206113960512360284160
def aw5R20 : Nat := 0
def aw5W20 : Nat := 4394186173072231555173769859909137451420606381075643627210162380893867083812792319282852067327402310867612468954654543370016842614716703959503323725105299548390048239044233739847736285112812080974342572415265148913422345631269372932037921278786789004111298736288420250695329617851430264811608357292615525491547858627051949667813210989809213861047334918478632234133843056244000724564730258304715068101526383583884790252703452112611356721518326290103156234196559133746501943518921611697577922116402506061698886953212395721112569751475160634678195990487817820205562335582807967406107322792198731664600009919043842489554114949984564302400193371370117235342438409337760916620243503507067565125088741526380811894679806613636246998386809725707355262539946036326087440163705749636921448347889512063634199543808
def aw5RR20 : Nat := 11264468790322558680505890153507637146179140382539708860830082523925100952740289061229285162494296108993549020035053601226391804956767136186931019532142161438368189515331283233964175275335031399470497922078489850197221263341205293145721821643677035574329504942348706323835448910729710313547142515500049729643281295079007908895426773910547696899685978967975447191624380851460055393783996091559197336415302955190807776329675664904941091039515937369228180986238232921265078335309826402452396186221403855870353188114751541618201715363556317462138043454197244537719931922358464639194866659333101810546268507826919957313545502465259336992105003699989529415410712709763989573124948732357322577720734065742634318128080226656473931902070364587830663905159385380186307256434104931654073355888593373750772844710199780738191451208911723942242164932609
def aw5WW20 : Nat := 1251488810438502599561736580258053500908233312751246201240364773285402529807243736026271555735348813393803001736343144580979173863916733223703859479560142142899367828636430964945108705298317231952399827419596273980614172681952160800714871902030283924701914111905782284416860355818049245584362049893219927843265799905876840230583958630311651610003284736328605331014455915506276088707984452306572682278609858740391561446267579241519767136671114327721689813492112618796246742787627569824503992790389084963663144545104535774706523096725060788172570124014753947519719265292370060265098013771549765195851944622893295428315853378329652791494653804764284362139302332224856872397896101131887168794619453780145621041362858052946996046894954580501274605104245212060197738734514343986639663779690576791535554677368123766695627267206113960512360284160
def aw5R21 : Nat := 171373260749817030651777024536456360605403648861950101461196332854860816268698900452031230625768690123836886289231527191430656861973951454420629625279106682387211881322725115854061715119399671157999360324195340807623471479619505544349478929872684771160340650715248389777117855096205780327652725934412005494170366486455026037044715228602559340580846061820666657131219879193516028258024480073883887655959528959771506819855434632391842912139214725314023093133665806216113575797237942856205538962539697736406256591175283433123390220307531264752449643629024894988016931087729510728838185588895750534919400386842709857092610483049398007793607541483434572178355097964172675748189496636775635039878460919528851663892512457931813632937085579302586855239057895416717410166384524235839936485567690970481733782208512
def aw5W21 : Nat := 281227915076622819531121271034184796890918808388841192141450392377207493364018708434102532308953747895527198013097890775681077927341869053408212718406739171096963087298830959350255122247219973182357924634576969530459030120401239867650426961842354496263123119122458896044501095542491536947942934866727393631459062952131324778740045503347789687107029434782632462984565955599616046372142736531501764358497688549368626576173020935207126830177172882566601998988579784559776124385210983148644987015449760387948728765005593326151204464094410280619404543391220340493155989477299709913990868658700718826534400634818805919331463356799012115353612375767687503061916058197616698663695584224452324168005679457688371961259507623272719807896755822445270736802556546324869596170477167976762972694264928772072588770803712
def aw5RR21 : Nat := 11264468790322558680505890153507637146179140382539708860830082523925100952740289061229285162494296108993549020035053601226391804956767136186931019532142161438368189515331283233964175275335031399470497922078489850197221263341205293145721821643677035574329504942348706323835448910729710313547142515500049729643281295079007908895426773910547696899685978967975447191624380851460055393783996091559197336415302955190807776329675664904941091039515937369228180986238232921265078335309826402452396186221403855870353188114751541618201715363556317462138043454197244537719931922358464639194866659333101810546268507826919957313545502465259336992105003699989529415410712709763989573124948732357322577720734065742634318128080226656473931902070364587830663905159385380186307256434104931654073355888593373750772844710199780738191451208911723942242164932609
def aw5WW21 : Nat := 1251488810438502599561736580258053496514047139679014646066594913376265078386637354950627928525186432499935917923550825298127106536514422356091390524905598772882525213919727005441784980193017683562351588375362534132877887569140079826372299486765135011279568480636409352378939077031260241473063313604799677147936182054446575418975601337696126118455426109276655663201244925697062227660649533827940448144766802496390836881537320936804699035144730743836899560788660506184890021269301279721347758593829951217161201026182924077128600980322554726473683170802358226407149513817209425586902023283731944990289609040085328022208530586130921126894643885720441872585187382240292569997702729761769933452181044442384704421119354545879430921806213054120462710424438598423950740347704618279284401239744540465448114513662374129774178919316601896878160740352
def aw5R22 : Nat := 27279107762432413494518763290315925731719334688644374938956411055719655983161739030361511910799880092963794160538774278833063927405920673533055754327562868870645530088830121027077058082438764962735334916715081846116678281074372226055926896203718632840762386256803966660000333206411447024527989237796919579290887693804987244531740122207052683181232988932446881754197202430345849916669035496848668859188091503706497212143098700982426855736792314998861352555433941321065946938314575364879160739624345913399493468648772272555846568908136334246658290816449242368150319866399167124996980160974756871945752583946145018697002985985086466464124974893928107638922044520227194174707474920470450276532406778564171220324455140175883937941602411835882996736765690334898522446988958357272792390596329132928030043317207040
def aw5W22 : Nat := 0
def aw5RR22 : Nat := 11264468790322558680505890153507636974805879632722678209053057987468740347336640199279183701297963254132732751336153149195161179188077012350044730300614970007711327541379828813334549996228349012258616599353373996135506143941534135146361497448336227950858025322843161974356519038044939153206491800251659952525426198873227581242700839498542202729319492512949410146909152248900714812937934270892540205195423761674779518305195591021053435079986977597721361130803600529422166196095101088429303052555597639756777390876808685412662752823858581055881452278913811414329711614827199886745223030308206822529337420097409228475359913569508802072704616857279672322800229660365981779517407248922750399365636101569958569938583589880838892023609445058979000012646927448372674319348525629067218116830697957033362678325675544898254965641220753460508382724097
def aw5WW22 : Nat := 1251488810438502599561736580258053215286132063056195114945323879191468187467828966109435787074794055292442553904842391195594797582766526828893377427014823091804597872050673597229066573453846586599264289544403183877755640349166897468447664909795604552249448079396541701951977234676763978349944191145903632646840639562909627476040734610302494659392473977951876923155741577907375120631214751195477463578811202880344464738800789435040340537456181375210323387767725299058059844096418713119348770014045391441036815815199775432141585530562166777744918165209032075202685419406928806182358632063391451834300131740375414031339871885412094592494009066914522541121830583228177216385326962074266871536122846825686040725535130093555262916126755365748501450916815325704142843591882173008547598683198215595851944036494397366801484654387829824289389936640
def aw5R23 : Nat := 3814514247126988756778240136312388451648891247637311914896727176815420631033283279417951687913134625634241710663814681404880521304447757094015014221026764358359453585184233689691058007006780056341469261091309705344148629238618720941992129241261411340400921179013037917973052171845746808946034109101429580522622198206812323614873039804520599801382906557841735584964634097660236327426133460938717278303379442681902021365188163937225271351968807110646475888526262406528395382151062059748805008400886354562617561336921233759927200032032125040904465358279500752891538349102276094452050594887793453647735223013806732259782857866964735411637072786947297425964705092650579342399366286938328062099204460709801366006030648747953547594386060116082198154543689784684311126511614482645386868907962167799749872156021782623360093519872
def aw5W23 : Nat := 1291372010936067255930050472465032579810033344143498346839382593212178452389822712569109492016349973330867856825376973432986704705312325196416464044121896477347568690093846742221541918094479683487360011091704125441580690797286151314620170337305128982645873180780020196819311435946395146580046582774325958098782362711193684728545615746191953605662053600843703029785454453658860474423134129575345265222356986868005585914245391080601088525326377353499771183088828762264318236309784707976959804359049477637328800968491154942109828774290923169163295249194467031618786253023441366280551050476631469156439434878639025888026373456104306530368627030885688608979241134434207841615512095791392594185672540527988976223021857289990743209877198029485342068088073901059148211006906556958178649022990582939948718222960980679554093809664
def aw5RR23 : Nat := 11264468790322558680505890153507609695698117200309183690289767671543008628001951554904244744886907534476749589597122787683250379307984048555884191526336136943783921620706295757580222433359478366728527769232346919077423705176571399811444782366490111272576950950617106047460315319412098390820234996284999952192219787426203053253463042578962911841625687525704878406786945196217533579949001824010786007992993415824862849269698742352194246988483271100509218032102618102566429403780102227076747618614276573809839076301443806251923128477945181562412803506641255567760803478492953228454406581065838672209471020930284231495198938812636856320120670712260975319814244573899517654542513320815111477321115874375783862463663119430562359616830880887758675557506751564434732716936689746070481351140363058510915689367318272105864369312087825430465065517057
def aw5WW23 : Nat := 1251488810438502599561736580258053215286132063056195114945323879191468187467828966109435787074794055292442553904842391195594797582766526828893377427014823091804597872050673597229066573453846586599264289544403183877755640349166897468447664909795604552249448079396541701951977234676763978349944191145903632646840639562909627476040734610302494659392473977951876923155741577907375120631214751195477463578811202880344464738800789435040340537456181375210323387767725299058059844096418713119348770014045391441036815815199775432141585530562166777744918165209032075202685419406928806182358632063391451834300131740375414031339871885412094592494009066914522541121830583228177216385326962074266871536122846825686040725535130093555262916126755365748501450916815325704142843591882173008547598683198215595851944036494397366801484654387829824289389936640
def aw5R24 : Nat := 0
def aw5W24 : Nat := 0
def aw5RR24 : Nat := 11264468790322558676691375906380620938919877063996795238640876423905696713105224378088824113853624255058797901683988162049008668644169367151003670221888379849768907399679531399220768848175244677037469762225566862735954444085261694467296153127871390330584821709355694707059394140399060472847182824439253143246185678324773472730840844372150588226752647721184278605404038638375797994984367726350549680566859954886145570966319299670292225623295107163283946680133810991919953515253839820548352236463214514061034067900557451689305567141023947802485603474609130526856338120213452475562868231963562577757420426042490777847463715798830124060337812845296239908177171786952220228577808228164532134921749587437455800364458658720760993610800232139805127963120691448352534562392999961386170224628748575865528820459356104306114497156066042807104971997185
def aw5WW24 : Nat := 1251488810438502598270364569321985959356081590591162535135290535047969840628446372897257334684971342723333061888492417864726940757389553395906672721702497895388133827928777119881497883359999844377722371449923500390395629257462772026866974112509453237629277742091412719306104053896743781530632755199508486066794056788583669377258371899108809930846858231759923317493687977063672090845760297536616989155677073304999199516443802567034754623210790294609234862441347945558288661007589950855030533704260683464077011456150297794812784562071011835635089390918108906039390170212461774563572379039950085553749081263743944874900437006773068704467635610810216010753203552342488607406085827640059029920610751034293446539862589565566286693104898075757758241039617296218800775503808271949399387676291658637673295013503814426852766431426849144735296126976
def aw5R25 : Nat := 169991843866259785601816606504218081446741448132121793550439246314180094689246596292661895160402209509620544511899691108179702394405543934350702090128553458064001973061938126209301125184539830289421843755711926490338656421463982537249757341639633683682816164371164580157041047634654469786929466900570610423835019923850273902932508112899505612361107941793070859233116730319816537582643085053308618852196325629614126479069648051433016458677717878323641091284305405920111633641934765093929394235063653027439404234304171079151894195190304156689723238671049592371614504018372783674957083465869308289359472805304085812720176247822773992017623941955085020190707918666497929574836552153631898168058107563042901692047818614833975591186158603862962699828145483449021327803411440563296903308994413646386847710443560331314010635252485062657
def aw5W25 : Nat := 0
def aw5RR25 : Nat := 11264468790322558676691375906380620938919877063996795238640876423905696713105224378088824113853624255058797901683988162049008668644169367151003670221888379849768907399679531399220768848175244677037469762225566862735954444085261694467296153127871390330584821709355694707059394140399060472847182824439253143246185678324773472730840844372150588226752647721184278605404038638375797994984367726350549680566859954886145570966319299670292225623295107163283946680133810991919953515253839820548352236463214514061034067900557451689305567141023947802485603474609130526856338120213452475562868231963562577757420426042490777847463715798830124060337812845296239908177171786952220228577808228164532134921749587437455800364458658720760993610800232139805127963120691448352534562392999961386170224628748575865528820459356104306114497156066042807104971997185
def aw5WW25 : Nat := 1251488810438502598270364569321985959356081590591162535135290535047969840628446372897257334684971342723333061888492417864726940757389553395906672721702497895388133827928777119881497883359999844377722371449923500390395629257462772026866974112509453237629277742091412719306104053896743781530632755199508486066794056788583669377258371899108809930846858231759923317493687977063672090845760297536616989155677073304999199516443802567034754623210790294609234862441347945558288661007589950855030533704260683464077011456150297794812784562071011835635089390918108906039390170212461774563572379039950085553749081263743944874900437006773068704467635610810216010753203552342488607406085827640059029920610751034293446539862589565566286693104898075757758241039617296218800775503808271949399387676291658637673295013503814426852766431426849144735296126976
def aw5R26 : Nat := 11264468790152566832825116120778804332415658982550053790508754630355257466791044283399577517560962359898395692174367617537108977535989664756598126287537677759640353941615529426158830721965943551852929931936145018980242517594923038045832170590621632988945188025672878542688229560242019425212528354652323676345615067900938452806990570469218080113853142108823170663610967779142681264664551188767906595513551336033949245336705173191222577571862090704606228801810169900635648109333728186906417471369285119825970414873118047455001396061872053607295299317919407288185288527841837971544495448288605494291551117753131305042159629986109947812515038853278615966222086766761512309911310298589695582768117689269397692801415757028713174995966256548618969359257728748524389078943978633582758784065451672556534406812969256595670936824752032171852486934528
def aw5W26 : Nat := 1251488810438502598270364569321985959356081590591162535135290535047969840628446372897257334684971342723333061888492417864726940757389553395906672721702497895388133827928777119881497883359999844377722371449923500390395629257462772026866974112509453237629277742091412719306104053896743781530632755199508486066794056788583669377258371899108809930846858231759923317493687977063672090845760297536616989155677073304999199516443802567034754623210790294609234862441347945558288661007589950855030533704260683464077011456150297794812784562071011835635089390918108906039390170212461774563572379039950085553749081263743944874900437006773068704467635610810216010753203552342488607406085827640059029920610751034293446539862589565566286693104898075757758241039617296218800775503808271949399387676291658637673295013503814426852766431426849144735296126976
def aw5RR26 : Nat := 11264468790152566832825116120778804332415658982550053790508754630355257466791044283399577517560962359898395692174367617537108977535989664756598126287537677759640353941615529426158830721965943551852929931936145018980242517594923038045832170590621632988945188025672878542688229560242019425212528354652323676345615067900938452806990570469218080113853142108823170663610967779142681264664551188767906595513551336033949245336705173191222577571862090704606228801810169900635648109333728186906417471369285119825970414873118047455001396061872053607295299317919407288185288527841837971544495448288605494291551117753131305042159629986109947812515038853278615966222086766761512309911310298589695582768117689269397692801415757028713174995966256548618969359257728748524389078943978633582758784065451672556534406812969256595670936824752032171852486934528
def aw5WW26 : Nat := 1251488810438502598270364569321985959356081590591162535135290535047969840628446372897257334684971342723333061888492417864726940757389553395906672721702497895388133827928777119881497883359999844377722371449923500390395629257462772026866974112509453237629277742091412719306104053896743781530632755199508486066794056788583669377258371899108809930846858231759923317493687977063672090845760297536616989155677073304999199516443802567034754623210790294609234862441347945558288661007589950855030533704260683464077011456150297794812784562071011835635089390918108906039390170212461774563572379039950085553749081263743944874900437006773068704467635610810216010753203552342488607406085827640059029920610751034293446539862589565566286693104898075757758241039617296218800775503808271949399387676291658637673295013503814426852766431426849144735296126976
def aw5R27 : Nat := 0
def aw5W27 : Nat := 0
end Go.Proofs.YthhgmnocigekaaaGreatDoor
end
