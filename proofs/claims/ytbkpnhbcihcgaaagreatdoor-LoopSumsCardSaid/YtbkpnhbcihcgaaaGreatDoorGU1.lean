/-
  A row of unknown length behind another one: append(x, y...).
  Worlds told by a list, frames without what is dead: what is claimed of a loop where it is met.
  Rows of unknown length: loads, stores, indexes, new rows, appends; an access is told by its row and its cell.
  Comparisons of structs of unknown numbers.
  The reckoner's pieces laid together; from the small world to a real call.
  Functions of the library whose answers are known, for the reckoner of the small world.
  The reckoner of the small world: regions, code, functions; what it reckons holds in the real world.
  A range over a function: the record, the rounds, the end; functions that hold one.
  Temporaries in a trie: the reckoner's own way to keep a frame.
  The reckoner of the small world: regions, code, functions; what it reckons holds in the real world.
  The reckoner of the small world: builtins, conversions, calls; an operation, whatever it is.
  Pointers that lose their type and find it again, strings over a row of bytes: for strings.Builder.
  Maps with strings, numbers and bools as keys: made, looked up, changed.
  append(nil, make([]E, n)...): the model's form with a number (slices.Grow).
-/
import Derived.Test.YtbkpnhbcihcgaaaGreatDoorGU0
import Derived.Lib.Builder
import Derived.Lib.UnsafeStr
import Derived.Laws.Externs
import Derived.RangeFuncRecord
import Derived.RangeFuncNested
import Derived.Lib.Join
import Derived.Below
section
set_option linter.all false
open Go.RowKit
namespace Go.Proofs.YtbkpnhbcihcgaaaGreatDoor.Mini
section
variable {P : Program} {rd : Option Nat} {s s1 : St} {R W : Nat} {ro : Option Nat} {ρ : Ren} {C : Nat → MObj} {w : World}
set_option maxHeartbeats 1000000 in
theorem append_growZ {tS tX ty e : TypeId} {k k2 : IntKind} {i : TypeInfo} {z : Value} {m : Nat} (ht : P.underlying tS = some (.slice e)) (hd : P.underlying tX = some (.int k))
    (hi : P.info? e = some i) (hz : i.zero = some z) (hb0 : i.bytes ≠ 0) (hs0 : i.size ≠ 0) (h0 : m ≠ 0) (hm : m ≤ 1048576) (hb : m * i.bytes ≤ 140737488355328) :
    ∃ newCap, m ≤ newCap ∧ (Builtin.append_ #[tS, tX] ty #[.slice none 0 0, .int k2 (m : Int)]).run P w =
      .ok (.slice (some ⟨w.heap.size, 0, none⟩) m newCap) (w.drew.alloc (.cells (Builtin.zeroCells z.cells m ++ Builtin.zeroCells z.cells (newCap - m)) e)) := by
  have hsz : ∀ w, (sizeOf e).run P w = .ok i.size w := fun w => by simp [sizeOf, run_typeInfo w hi]
  have hzr : ∀ w, (zeroValue e).run P w = .ok z w := fun w => by simp [zeroValue, run_typeInfo w hi, hz]
  have hti : ∀ w, (typeInfo e).run P w = .ok i w := fun w => run_typeInfo w hi
  have hfit : ¬ (281474976710656 < Builtin.nextslicecap m 0 * i.bytes) := by
    have := growslice_fits (need := m) (old := 0) (bytes := i.bytes) (by omega) hb
    omega
  have hwr : IntKind.i64.wrap (m : Int) = (m : Int) := by rw [IntKind.wrap_i64]; omega
  have hbi : ¬ (281474976710656 < (m : Int) * (i.bytes : Int)) := by
    have : ((m * i.bytes : Nat) : Int) ≤ ((140737488355328 : Nat) : Int) := Int.ofNat_le.2 hb
    rw [Int.natCast_mul] at this
    omega
  have hneg : ¬ ((m : Int) < 0) := by omega
  have hmax : ¬ ((9223372036854775807 : Int) < (m : Int)) := by omega
  refine ⟨Question.cut (.appendCap m 0 e) (w.tape w.drawn (.appendCap m 0 e)), by simp only [Question.cut]; omega, ?_⟩
  have e0 : ({ w with drawn := w.drawn + 1 } : World) = w.drew := rfl
  have hfc : ∀ u : World, (Builtin.firstCells i.size 0 (.slice none 0 0)).run P u = .ok #[] u := fun u => by simp [Builtin.firstCells]
  have hai : ∀ u : World, (asIntOf (.int k2 (m : Int))).run P u = .ok (k2, (m : Int)) u := fun u => by first | rfl | simp [asIntOf]
  have hmx : IntKind.i64.max = 9223372036854775807 := by decide
  simp [Builtin.append_, run_underlying ht, run_underlying hd, hsz, hti, hb0, hs0, h0, hfit, hzr, Question.forced, e0, hfc, newRow, hwr, hneg, hbi, hmax, hmx, hai, asInt]
  all_goals exact fun h => absurd h (Nat.mul_ne_zero h0 hs0)
def evGrowZ (P : Program) (tS tX : TypeId) (x y : Value) (s : St) : Option Out :=
  match P.underlying tS, P.underlying tX with
  | some (.slice e), some (.int _) => match x, y with
    | .slice none 0 0, .int _ m => match P.info? e with
      | some i => match i.zero with
        | some z =>
          if z.cells.size = i.size ∧ i.bytes ≠ 0 ∧ i.size ≠ 0 ∧ 0 < m ∧ m.toNat ≤ 1048576 ∧ m.toNat * i.bytes ≤ 140737488355328 ∧ (Builtin.zeroCells z.cells m.toNat).toList.all (ground 12) = true then
            some (.slice (some ⟨s.next, 0, none⟩) m.toNat m.toNat, s.push (.cells (Builtin.zeroCells z.cells m.toNat).toList e true i.size false), 0, 0)
          else none
        | none => none
      | none => none
    | _, _ => none
  | _, _ => none
theorem evGrowZ_snd {o : Oper} {c : Call} {vals : Operand → Value} {x y : Operand} {tS tX : TypeId} {v : Value} (h : o.op = .call c) (hc : c.callee = .builtin .append) (ha : c.args = #[x, y]) (hat : c.argTypes = #[tS, tX])
    (he : evGrowZ P tS tX (vals x) (vals y) s = some (v, s1, R, W)) : SndO P rd o vals s v s1 R W := by
  unfold evGrowZ at he
  split at he
  · rename_i e k ht hd
    split at he
    · rename_i k2 m hx hy
      split at he
      · rename_i i hi
        split at he
        · rename_i z hz
          split at he
          · rename_i hcond
            obtain ⟨c1, c2, c3, c4, c5, c6, c7⟩ := hcond
            simp only [Option.some.injEq, Prod.mk.injEq] at he
            obtain ⟨rfl, rfl, rfl, rfl⟩ := he
            have hm : ((m.toNat : Nat) : Int) = m := by omega
            refine sndO_of (fun c => by rw [h]; simp) (stat_push s _) fun ro ρ C ev w hp hv => ?_
            have hop : o.op.operands = #[x, y] := by simp [h, Op.operands, Call.operands, hc, ha]
            have h1 := hv x (by rw [hop]; simp)
            have h2 := hv y (by rw [hop]; simp)
            rw [hx] at h1
            rw [hy] at h2
            have hex : ev x = .slice none 0 0 := by generalize ev x = u at h1; cases h1; rfl
            have hey : ev y = .int k2 m := by generalize ev y = u at h2; cases h2; rfl
            obtain ⟨nc, g1, g2⟩ := append_growZ (ty := o.type) (w := w) (k2 := k2) (m := m.toNat) ht hd hi hz c2 c3 (by omega) c5 c6
            rw [hm] at g2
            have hvv : VRs ρ (Builtin.zeroCells z.cells m.toNat).toList.toArray (Builtin.zeroCells z.cells m.toNat) := by
              refine ⟨by simp, fun i v v' a1 a2 => ?_⟩
              simp only [Array.toArray_toList] at a1
              rw [a1] at a2
              cases a2
              rw [List.all_eq_true] at c7
              exact ground_refl 12 (c7 v (by simpa using Array.mem_of_getElem? a1))
            have ho := or_open (z := Builtin.zeroCells z.cells (nc - m.toNat)) hvv e w.drew.heap.size i.size
            obtain ⟨p1, r1, hs⟩ := step_new hp.drew rfl ho
            refine ⟨_, .slice (some ⟨w.heap.size, 0, none⟩) m.toNat nc, _, .inl (by rw [exec_append h hc ha hat, hex, hey, g2]; rfl), p1.drew, r1, ?_⟩
            refine .slice s.next 0 m.toNat m.toNat nc _ hs (.inr ⟨rfl, g1, ?_⟩)
            simp only [Array.size_append, size_zeroCells, c1, Nat.zero_add]
            have : m.toNat * i.size + (nc - m.toNat) * i.size = nc * i.size := by
              rw [← Nat.add_mul]; congr 1; omega
            omega
          · cases he
        · cases he
      · cases he
    · cases he
  · cases he
end
end Go.Proofs.YtbkpnhbcihcgaaaGreatDoor.Mini
end
section
namespace Go.Proofs.YtbkpnhbcihcgaaaGreatDoor
set_option linter.all false
namespace Mini
variable {P : Program} {rd : Option Nat} {s s1 : St} {R W : Nat} {ro : Option Nat} {ρ : Ren} {C : Nat → MObj} {w : World}

def plainKey : TypeDesc → Value → Bool
  | .string, .string _ => true
  | .int _, .int _ _ => true
  | .bool, .bool _ => true
  | _, _ => false
theorem checkKey_run {e : Bool} {n : Nat} {t : TypeId} {d : TypeDesc} {k : Value} (ht : P.underlying t = some d) (hk : plainKey d k = true) : (Instr.checkKey e (n + 1) t k).run P w = .ok () w := by
  unfold Instr.checkKey
  cases d <;> cases k <;> first | (simp [plainKey] at hk; done) | simp [run_underlying ht]
def ERs (ρ : Ren) (es es' : List MapEntry) : Prop := es'.length = es.length ∧ ∀ (i : Nat) (e : MapEntry), es[i]? = some e → ∃ e', es'[i]? = some e' ∧ e'.born = e.born ∧ VR ρ e.key e'.key ∧ VR ρ e.val e'.val
theorem sameNow_vr {d : TypeDesc} {k a a' : Value} {b : Bool} (h : VR ρ a a') (hs : Instr.sameNow d k a = some b) : Instr.sameNow d k a' = some b := by
  cases h <;> first | exact hs | (exfalso; unfold Instr.sameNow at hs; split at hs <;> first | (rename_i h1; cases h1; done) | cases hs)
theorem findNow_vr {d : TypeDesc} {k : Value} : ∀ (es es' : List MapEntry) (n : Nat), ERs ρ es es' → ∀ r, Instr.findNow d k es n = some r →
    match r with
    | none => Instr.findNow d k es' n = some none
    | some (i, v) => ∃ v', Instr.findNow d k es' n = some (some (i, v')) ∧ VR ρ v v' ∧ n ≤ i ∧ i - n < es.length
  | [], es', n, h, r, hr => by
    cases es' with
    | nil => cases hr; rfl
    | cons e l => have := h.1; simp at this
  | e :: es, [], n, h, r, hr => by have := h.1; simp at this
  | e :: es, e' :: es', n, h, r, hr => by
    obtain ⟨e2, h1, h2, h3, h4⟩ := h.2 0 e rfl
    simp at h1
    subst h1
    have ht : ERs ρ es es' := ⟨by have := h.1; simpa using this, fun i x hx => by have := h.2 (i + 1) x (by simpa using hx); simpa using this⟩
    simp only [Instr.findNow] at hr ⊢
    split at hr
    · rename_i hs
      cases hr
      simp only [sameNow_vr h3 hs]
      exact ⟨e'.val, rfl, h4, Nat.le_refl _, by simp⟩
    · rename_i hs
      simp only [sameNow_vr h3 hs]
      have ih := findNow_vr es es' (n + 1) ht r hr
      cases r with
      | none => exact ih
      | some q =>
        obtain ⟨i, v⟩ := q
        obtain ⟨v', a, b, c, d⟩ := ih
        exact ⟨v', a, b, by omega, by simp; omega⟩
    · cases hr
theorem map_of {b k : Nat} {es : List MapEntry} (hr : WRel ρ C w) (hc : C b = .map es k) : ∃ L es', ρ b = some L ∧ w.heap[L.blk]? = some (.map es' k) ∧ ERs ρ es es'.toList := by
  obtain ⟨L, o', h1, h2, h3⟩ := hr.1 b (by rw [hc]; simp)
  rw [hc] at h3
  cases o' with
  | map es' k' =>
    obtain ⟨rfl, h4, h5⟩ := h3
    exact ⟨L, es', h1, h2, by simpa using h4, fun i e hi => by have := h5 i e hi; simpa using this⟩
  | _ => simp [OR] at h3
theorem map_inv {b : Nat} {v' : Value} (h : VR ρ (.map (some b)) v') : ∃ L, ρ b = some L ∧ v' = .map (some L.blk) := by
  generalize hv : Value.map (some b) = v at h
  cases h with
  | map b' L h => cases hv; exact ⟨L, h, rfl⟩
  | _ => cases hv
theorem plainKey_eq {d : TypeDesc} {k k' : Value} (hk : plainKey d k = true) (h : VR ρ k k') : k' = k := by
  cases k <;> cases h <;> first | rfl | (cases d <;> simp [plainKey] at hk)

def evMakeMap (P : Program) (t : TypeId) (r : Option Value) (s : St) : Option (Value × St × Nat × Nat) :=
  match r with
  | none => some (.map (some s.next), s.push (.map [] 0), 0, 0)
  | some (.int _ _) => match P.underlying t with
    | some (.map _ _) => some (.map (some s.next), s.push (.map [] 0), 0, 0)
    | _ => none
  | _ => none
theorem evMakeMap_snd {o : Oper} {vals : Operand → Value} {t : TypeId} {r : Option Operand} {v : Value} (h : o.op = .makeMap t r) (he : evMakeMap P t (r.map vals) s = some (v, s1, R, W)) : SndO P rd o vals s v s1 R W := by
  have key : v = .map (some s.next) ∧ s1 = s.push (.map [] 0) ∧ R = 0 ∧ W = 0 ∧ ∀ (ρ : Ren) (ev : Operand → Value) (w : World), (∀ x, x ∈ o.op.operands → VR ρ (vals x) (ev x)) → (execOp ev o).run P w = .ok (.value (.map (some w.heap.size))) (w.alloc (.map #[] 0)) := by
    unfold evMakeMap at he
    cases r with
    | none =>
      simp at he
      obtain ⟨rfl, rfl, rfl, rfl⟩ := he
      exact ⟨rfl, rfl, rfl, rfl, fun ρ ev w _ => by
        have hm : (Instr.makeMap t none).run P w = .ok (.map (some w.heap.size)) (w.alloc (.map #[] 0)) := rfl
        simp [execOp, h, hm]⟩
    | some x =>
      simp only [Option.map_some] at he
      split at he
      · rename_i hh; cases hh
      · rename_i k n hx
        split at he
        · rename_i kt et ht
          simp at he
          obtain ⟨rfl, rfl, rfl, rfl⟩ := he
          refine ⟨rfl, rfl, rfl, rfl, fun ρ ev w hxs => ?_⟩
          have h1 := hxs x (by simp [h, Op.operands])
          have hx' : vals x = .int k n := Option.some.inj hx
          rw [hx'] at h1
          have hev : ev x = .int k n := by generalize ev x = u at h1; cases h1; rfl
          have hm : (Instr.makeMap t (some (.int k n))).run P w = .ok (.map (some w.heap.size)) (w.alloc (.map #[] 0)) := by
            unfold Instr.makeMap
            simp [run_underlying ht]
            rfl
          simp [execOp, h, hm, hev]
        · cases he
      · cases he
  obtain ⟨rfl, rfl, rfl, rfl, hrun⟩ := key
  refine sndO_of (fun c => by rw [h]; simp) (stat_push s _) fun ro ρ C ev w hp hv => ?_
  obtain ⟨p1, r1, hs⟩ := step_new (o := .map [] 0) (o' := .map #[] 0) (L := ⟨w.heap.size, 0, false, 0, 0⟩) hp rfl ⟨rfl, rfl, fun i e hi => by simp at hi⟩
  refine ⟨_, _, _, .inl (hrun ρ ev w hv), p1, r1, ?_⟩
  exact VR.map s.next ⟨w.heap.size, 0, false, 0, 0⟩ hs

def evLookup (P : Program) (t : TypeId) (x k : Value) (ok : Bool) (s : St) : Option (Value × St × Nat × Nat) :=
  match P.underlying t, x with
  | some (.map kt et), .map (some b) => match P.underlying kt, s.get b with
    | some d, .map es _ => match plainKey d k with
      | true => match Instr.findNow d k es 0 with
        | some (some (_, v)) => some (if ok then .tuple #[v, .bool true] else v, s, 2 ^ b, 0)
        | some none => match pureRun P (zeroValue et) with
          | some z => match ground 12 z with
            | true => some (if ok then .tuple #[z, .bool false] else z, s, 2 ^ b, 0)
            | false => none
          | none => none
        | none => none
      | false => none
    | _, _ => none
  | _, _ => none
theorem evLookup_snd {o : Oper} {vals : Operand → Value} {t : TypeId} {x k : Operand} {ok : Bool} {v : Value} (h : o.op = .lookup t x k ok) (he : evLookup P t (vals x) (vals k) ok s = some (v, s1, R, W)) : SndO P rd o vals s v s1 R W := by
  unfold evLookup at he
  split at he
  · rename_i kt et b ht hx
    split at he
    · rename_i d es clock hkt hb
      split at he
      · rename_i hk
        have fact : ∀ (ρ : Ren) (C : Nat → MObj) (ev : Operand → Value) (w : World), (∀ b', (2 ^ b).testBit b' = true → b' < s.next → C b' = s.get b') → WRel ρ C w → (∀ x, x ∈ o.op.operands → VR ρ (vals x) (ev x)) →
            ∃ (L : Loc) (es' : Array MapEntry), ev x = .map (some L.blk) ∧ ev k = vals k ∧ ERs ρ es es'.toList ∧ (getObj L.blk).run P w = .ok (.map es' clock) w ∧ (Instr.checkKey es'.isEmpty 10000 kt (vals k)).run P w = .ok () w := fun ρ C ev w ag hr hxs => by
          have h1 := hxs x (by simp [h, Op.operands])
          have h2 := hxs k (by simp [h, Op.operands])
          rw [hx] at h1
          obtain ⟨L, k1, k2⟩ := map_inv h1
          have k3 := plainKey_eq hk h2
          have hbb := ag b (bit_self b) (St.lt_of_live (by rw [hb]; simp))
          obtain ⟨L', es', g1, g2, g3⟩ := map_of hr (hbb.trans hb)
          rw [k1] at g1
          cases g1
          exact ⟨L, es', k2, k3, g3, by simp [getObj, Sem.run, g2], checkKey_run hkt hk⟩
        split at he
        · rename_i i vv hf
          simp only [Option.some.injEq, Prod.mk.injEq] at he
          obtain ⟨rfl, rfl, rfl, rfl⟩ := he
          refine sndO_still (fun c => by rw [h]; simp) fun ρ C ev w _ ag hr hxs => ?_
          obtain ⟨L, es', k2, k3, g3, hg, hck⟩ := fact ρ C ev w ag hr hxs
          obtain ⟨v', a, c, _, _⟩ := findNow_vr es es'.toList 0 g3 _ hf
          have hfk : (Instr.findKey kt (vals k) es'.toList).run P w = .ok (some (i, v')) w := by simp [Instr.findKey, run_underlying hkt, a]
          refine ⟨if ok then .tuple #[v', .bool true] else v', ?_, ?_⟩
          · simp [execOp, h, k2, k3, Instr.lookup, run_underlying ht, hg, hck, hfk]
          · cases ok
            · exact c
            · refine .tuple _ _ rfl fun i y y' h1 h2 => ?_
              match i, h1, h2 with
              | 0, h1, h2 => simp at h1 h2; subst h1 h2; exact c
              | 1, h1, h2 => simp at h1 h2; subst h1 h2; exact .bool _
              | i + 2, h1, h2 => simp at h1
        · rename_i hf
          split at he
          · rename_i z hz
            split at he
            · rename_i hgz
              simp only [Option.some.injEq, Prod.mk.injEq] at he
              obtain ⟨rfl, rfl, rfl, rfl⟩ := he
              refine sndO_still (fun c => by rw [h]; simp) fun ρ C ev w _ ag hr hxs => ?_
              obtain ⟨L, es', k2, k3, g3, hg, hck⟩ := fact ρ C ev w ag hr hxs
              have a := findNow_vr es es'.toList 0 g3 _ hf
              simp only at a
              have hfk : (Instr.findKey kt (vals k) es'.toList).run P w = .ok none w := by simp [Instr.findKey, run_underlying hkt, a]
              have hzr := pureRun_run hz w
              refine ⟨if ok then .tuple #[z, .bool false] else z, ?_, ?_⟩
              · simp [execOp, h, k2, k3, Instr.lookup, run_underlying ht, hg, hck, hfk, hzr]
              · cases ok
                · exact ground_refl 12 hgz
                · refine .tuple _ _ rfl fun i y y' h1 h2 => ?_
                  match i, h1, h2 with
                  | 0, h1, h2 => simp at h1 h2; subst h1 h2; exact ground_refl 12 hgz
                  | 1, h1, h2 => simp at h1 h2; subst h1 h2; exact .bool _
                  | i + 2, h1, h2 => simp at h1
            · cases he
          · cases he
        · cases he
      · cases he
    · cases he
  · cases he

def evMapPut (P : Program) (t : TypeId) (x k v : Value) (s : St) : Option (Value × St × Nat × Nat) :=
  match P.underlying t, x with
  | some (.map kt _), .map (some b) => match P.underlying kt, s.get b with
    | some d, .map es clock => match plainKey d k, live v with
      | true, true => match Instr.findNow d k es 0 with
        | some none => some (undef, s.put b (.map (es ++ [{ key := k, val := v, born := clock }]) (clock + 1)), 0, 2 ^ b)
        | _ => none
      | _, _ => none
    | _, _ => none
  | _, _ => none
set_option maxRecDepth 100000 in
theorem evMapPut_snd {o : Oper} {vals : Operand → Value} {t : TypeId} {x k y : Operand} {v : Value} (h : o.op = .mapUpdate t x k y ∨ o.op = .insert t x k y) (he : evMapPut P t (vals x) (vals k) (vals y) s = some (v, s1, R, W)) : SndO P rd o vals s v s1 R W := by
  unfold evMapPut at he
  split at he
  · rename_i kt et b ht hx
    split at he
    · rename_i d es clock hkt hb
      split at he
      · rename_i hk hl
        split at he
        · rename_i hf
          simp only [Option.some.injEq, Prod.mk.injEq] at he
          obtain ⟨rfl, rfl, rfl, rfl⟩ := he
          have hbl : s.get b ≠ .hole := by rw [hb]; simp
          have hop : x ∈ o.op.operands ∧ k ∈ o.op.operands ∧ y ∈ o.op.operands := by rcases h with h | h <;> simp [h, Op.operands]
          refine sndO_of (fun c => by rcases h with h | h <;> rw [h] <;> simp) (stat_put hbl _) fun ro ρ C ev w hp hxs => ?_
          have h1 := hxs x hop.1
          have h2 := hxs k hop.2.1
          have h3 := hxs y hop.2.2
          rw [hx] at h1
          obtain ⟨L, k1, k2⟩ := map_inv h1
          have k3 := plainKey_eq hk h2
          have hbb := hp.agree b (by rw [or_bit, bit_self]; simp) (St.lt_of_live hbl)
          obtain ⟨L', es', g1, g2, g3⟩ := map_of hp.rel (hbb.trans hb)
          rw [k1] at g1
          cases g1
          have a := findNow_vr es es'.toList 0 g3 _ hf
          simp only at a
          have hg : (getObj L.blk).run P w = .ok (.map es' clock) w := by simp [getObj, Sem.run, g2]
          have hfk : (Instr.findKey kt (vals k) es'.toList).run P w = .ok none w := by simp [Instr.findKey, run_underlying hkt, a]
          have hck : (Instr.checkKey false 10000 kt (vals k)).run P w = .ok () w := checkKey_run hkt hk
          have hlt : L.blk < w.heap.size := (Array.getElem?_eq_some_iff.1 g2).1
          obtain ⟨o1, ho1⟩ : ∃ o1 : Obj, o1 = .map (es'.push { key := vals k, val := ev y, born := clock }) (clock + 1) := ⟨_, rfl⟩
          obtain ⟨w1, hw1⟩ : ∃ w1 : World, w1 = { w with heap := w.heap.setIfInBounds L.blk o1 } := ⟨_, rfl⟩
          have hset : (setObj L.blk (.map (es'.push { key := vals k, val := ev y, born := clock }) (clock + 1))).run P w = .ok () w1 := by simp [setObj, Sem.run, hw1, g2, ho1]
          have d1 : OneOff w L.blk w1 := ⟨by simp [hw1], fun x hx => by simp [hw1, Array.getElem?_setIfInBounds, Ne.symm hx], by rw [hw1], by rw [hw1], by rw [hw1]⟩
          have k4 : w1.heap[L.blk]? = some o1 := by simp [hw1, Array.getElem?_setIfInBounds, hlt]
          have hor : OR ρ L (.map (es ++ [{ key := vals k, val := vals y, born := clock }]) (clock + 1)) o1 := by
            rw [ho1]
            refine ⟨rfl, by have := g3.1; simp at this; simp [this], fun i e hi => ?_⟩
            have hsz : es'.size = es.length := by have := g3.1; simpa using this
            rw [List.getElem?_append] at hi
            split at hi
            · rename_i hlt2
              obtain ⟨e', q1, q2, q3, q4⟩ := g3.2 i e hi
              exact ⟨e', by rw [Array.getElem?_push, if_neg (by omega)]; simpa using q1, q2, q3, q4⟩
            · rename_i hge
              have : i = es.length := by
                have := (List.getElem?_eq_some_iff.1 hi).1
                simp at this; omega
              subst this
              simp at hi
              subst hi
              refine ⟨{ key := vals k, val := ev y, born := clock }, by rw [Array.getElem?_push, if_pos hsz.symm], rfl, ?_, h3⟩
              show VR ρ (vals k) (vals k)
              rw [k3] at h2
              exact h2
          obtain ⟨p1, r2⟩ := step_put (P := P) (rd := rd) (s := s) (R := 0) (ro := ro) (ρ := ρ) (C := C) (w := w) (b := b) (o1 := o1) (o' := .map es' clock) (L := L) (w1 := w1) hp hbl (by rw [hb]; rfl) k1 d1 k4 hor
          refine ⟨ρ, undef, w1, .inr ⟨?_, rfl⟩, p1, r2, undef_vr ρ⟩
          have hup : (Instr.mapUpdate t (.map (some L.blk)) (vals k) (ev y)).run P w = .ok () w1 := by
            unfold Instr.mapUpdate
            simp [run_underlying ht, hg, hck, hfk, hset]
          rcases h with h | h <;> simp [execOp, h, k2, k3, hup]
        · cases he
      · cases he
    · cases he
  · cases he
end Mini
end Go.Proofs.YtbkpnhbcihcgaaaGreatDoor
end
section
namespace Go.Proofs.YtbkpnhbcihcgaaaGreatDoor
set_option linter.all false
namespace Mini
variable {P : Program} {rd : Option Nat} {s s1 : St} {R W : Nat} {ρ : Ren} {C : Nat → MObj} {w : World}

theorem ne_next : Extern.allNextRows.lookup "internal/abi.NoEscape" = none := by kernel_rfl
theorem ne_gen : Extern.allGenericRows.lookup "internal/abi.NoEscape" = none := by kernel_rfl
theorem ne_typ : Extern.allTypedRows.lookup "internal/abi.NoEscape" = none := by kernel_rfl
theorem ne_row : Extern.allRows.lookup "internal/abi.NoEscape" = some Extern.AbiNoEscape.same := by kernel_rfl
def isNoEsc (fn : Func) : Bool := fn.body.isNone && (fn.name == "internal/abi.NoEscape") && (Extern.allNextRows.lookup fn.origin).isNone
theorem noEsc_run {f : FuncId} {fn : Func} (hf : P.funcs[f]? = some fn) (h : isNoEsc fn = true) (v : Value) (w : World) : (callFunc f #[v]).run P w = .ok (.value v) w := by
  simp only [isNoEsc, Bool.and_eq_true, beq_iff_eq, Option.isNone_iff_eq_none] at h
  obtain ⟨⟨h1, h2⟩, h3⟩ := h
  have hn : Extern.findNext fn = none := by
    unfold Extern.findNext
    simp only [h2, h3, ne_next]
    rfl
  have he : Extern.find fn = some Extern.AbiNoEscape.same := by
    unfold Extern.find
    simp only [h2, ne_gen, ne_typ, ne_row]
    rfl
  rw [run_callFunc_extern hf (by rw [h2]; rfl) (by rw [h1]; rfl) hn he]
  rfl
theorem sndO_noEsc {o : Oper} {vals : Operand → Value} {c : Call} {x y : Operand} {f : FuncId} {fn : Func} (h : o.op = .call c) (hc : c.callee = .value x) (ha : c.args = #[y]) (hx : vals x = .func (.func f) #[] #[]) (hf : P.funcs[f]? = some fn) (hn : isNoEsc fn = true) :
    SndO P rd o vals s (vals y) s 0 0 :=
  sndO_still (fun c => by rw [h]; simp) fun ρ C ev w _ _ _ hv => by
    have hop : o.op.operands = #[x] ++ #[y] := by simp [h, Op.operands, Call.operands, hc, ha]
    have h1 := hv x (by rw [hop]; simp)
    have h2 := hv y (by rw [hop]; simp)
    rw [hx] at h1
    generalize he : ev x = z at h1
    cases h1 with
    | func fn' as' bs' as2 bs2 hpf e1 e2 e3 e4 =>
      have ea : as2 = #[] := Array.eq_empty_of_size_eq_zero (e1.symm.trans rfl)
      have eb : bs2 = #[] := Array.eq_empty_of_size_eq_zero (e2.symm.trans rfl)
      subst ea eb
      refine ⟨ev y, ?_, h2⟩
      have hr := noEsc_run hf hn (ev y) w
      simp only [execOp, h, resolve, hc, he, Deferred.ofValue, Sem.run_bind, Sem.run_pure, Result.andThen_ok, invoke, ha]
      simpa using hr

def evToUnsafe (P : Program) (src dst : TypeId) (x : Value) (s : St) : Option Out :=
  match P.underlying src, P.underlying dst, x with
  | some (.pointer t), some .unsafePointer, .pointer (some ⟨b, off, none⟩) => match P.info? t, s.get b with
    | some j, .cells c _ _ _ _ => if j.size ≠ 0 ∧ off < c.length then some (x, s, 2 ^ b, 0) else none
    | _, _ => none
  | some .unsafePointer, some (.pointer u), .pointer (some ⟨b, off, none⟩) => match P.info? u, s.get b with
    | some _, .cells c e false _ false => if liesAt P P.depth e (c.length / P.cellsOf e) off u 1 = true then some (x, s, 2 ^ b, 0) else none
    | _, _ => none
  | _, _, _ => none
theorem evToUnsafe_snd {o : Oper} {vals : Operand → Value} {src dst : TypeId} {x : Operand} {v : Value} (ho : o.op = .convert src dst x) (h : evToUnsafe P src dst (vals x) s = some (v, s1, R, W)) : SndO P rd o vals s v s1 R W := by
  unfold evToUnsafe at h
  split at h
  · rename_i t b off hs hd hx
    split at h
    · rename_i j c e opn sz r hj hc
      split at h
      · rename_i hk
        simp only [Option.some.injEq, Prod.mk.injEq] at h
        obtain ⟨rfl, rfl, rfl, rfl⟩ := h
        refine sndO_still (fun c => by rw [ho]; simp) fun ρ C ev w _ ag hr hv => ?_
        have h1 := hv x (by simp [ho, Op.operands])
        rw [hx] at h1
        obtain ⟨L, h2, he⟩ := ptr_inv h1
        have hbb := ag b (bit_self b) (St.lt_of_live (by rw [hc]; simp))
        obtain ⟨L', cs, fr, q1, q2, q3⟩ := row_of hr (hbb.trans hc)
        rw [h2] at q1
        cases q1
        obtain ⟨p1, p2, p3, p4, p5, p6, p7, p8⟩ := q3
        have hsh : w.shape? L.blk = some (elemAt w L.blk, cs.size) := by simp [World.shape?, q2]
        have hrun := Lib.run_to_unsafe (P := P) w (src := src) (dst := dst) ⟨L.blk, L.base + off, none⟩ hs hd hj hk.1 hsh (by show L.base + off < cs.size; omega)
        exact ⟨.pointer (some ⟨L.blk, L.base + off, none⟩), by simp [execOp, ho, he, hrun], by rw [hx]; exact .ptr b off L h2⟩
      · cases h
    · cases h
  · rename_i u b off hs hd hx
    split at h
    · rename_i j c e sz hj hc
      split at h
      · rename_i hk
        simp only [Option.some.injEq, Prod.mk.injEq] at h
        obtain ⟨rfl, rfl, rfl, rfl⟩ := h
        refine sndO_still (fun c => by rw [ho]; simp) fun ρ C ev w _ ag hr hv => ?_
        have h1 := hv x (by simp [ho, Op.operands])
        rw [hx] at h1
        obtain ⟨L, h2, he⟩ := ptr_inv h1
        have hbb := ag b (bit_self b) (St.lt_of_live (by rw [hc]; simp))
        obtain ⟨L', cs, fr, q1, q2, q3⟩ := row_wr hr (hbb.trans hc)
        rw [h2] at q1
        cases q1
        obtain ⟨p1, p2, p3, p4, p5, p6, p7, p8⟩ := q3
        obtain ⟨z1, z2⟩ := p8 rfl
        have hsh : w.shape? L.blk = some (e, c.length) := by simp [World.shape?, q2]; omega
        have hrun := Lib.run_from_unsafe (P := P) w (src := src) (dst := dst) ⟨L.blk, L.base + off, none⟩ hs hd hj hsh (by rw [z1, Nat.zero_add]; exact hk)
        exact ⟨.pointer (some ⟨L.blk, L.base + off, none⟩), by simp [execOp, ho, he, hrun], by rw [hx]; exact .ptr b off L h2⟩
      · cases h
    · cases h
  · cases h

def evSliceData (x : Value) (s : St) : Option Out :=
  match x with
  | .slice (some a) n c => if n ≠ 0 ∧ n ≤ c then some (.pointer (some a), s, 0, 0) else none
  | _ => none
theorem evSliceData_snd {o : Oper} {c : Call} {vals : Operand → Value} {x : Operand} {v : Value} (ho : o.op = .call c) (hc : c.callee = .builtin .unsafeSliceData) (ha : c.args = #[x]) (h : evSliceData (vals x) s = some (v, s1, R, W)) : SndO P rd o vals s v s1 R W := by
  unfold evSliceData at h
  split at h
  · rename_i a n cp hx
    split at h
    · rename_i hk
      simp only [Option.some.injEq, Prod.mk.injEq] at h
      obtain ⟨rfl, rfl, rfl, rfl⟩ := h
      refine sndO_still (fun c => by rw [ho]; simp) fun ρ C ev w _ _ _ hv => ?_
      have h1 := hv x (by simp [ho, Op.operands, Call.operands, hc, ha])
      rw [hx] at h1
      generalize he : ev x = z at h1
      cases h1 with
      | empty a a' => exact absurd rfl hk.1
      | slice b off n c c' L hL hcc =>
        have hrun := Lib.run_unsafeSliceData_row (P := P) w c.argTypes o.type ⟨L.blk, L.base + off, none⟩ n c' (by omega)
        refine ⟨.pointer (some ⟨L.blk, L.base + off, none⟩), ?_, .ptr b off L hL⟩
        simp [execOp, ho, resolve, hc, ha, invoke, builtin, he, hrun]
    · cases h
  · cases h

theorem liesAt_bytes' {e : TypeId} (hc : P.cellsOf e = 1) (count o n : Nat) (hn : o + n ≤ count) : liesAt P P.depth e count o e n = true := by
  have hd : P.depth = (2 * (P.types.size + Made.depth) + 1) + 1 := rfl
  rw [hd]
  simp only [liesAt, Bool.or_eq_true]
  left
  rw [hd]
  simp [rowAt, hc, hn, sameLayout, Nat.mod_one]
theorem run_unsafeString_at (pt it ty e : TypeId) (hp : P.underlying pt = some (.pointer e)) (hc : P.cellsOf e = 1) (g o cells : Nat) (hsh : w.shape? g = some (e, cells)) (l : List UInt8) (h0 : l ≠ []) (hn : o + l.length ≤ cells) (h63 : l.length ≤ 9223372036854775807)
    (hcell : ∀ j x, l[j]? = some x → w.cell? ((⟨g, o, none⟩ : Addr).add j) = some (.int .u8 x.toNat)) :
    (Builtin.unsafeString_ #[pt, it] ty #[.pointer (some ⟨g, o, none⟩), .int .i64 l.length]).run P w = .ok (.string ⟨l.toArray⟩) (w.freeze ⟨g, o, none⟩ l.length) := by
  have hl : l.length ≠ 0 := by simpa using h0
  have hlb := Lib.run_loadBytes (P := P) w l ⟨g, o, none⟩ .empty hcell
  have hlies := liesAt_bytes' (P := P) hc (cells / P.cellsOf e) o l.length (by rw [hc]; simpa using hn)
  have h63' : ¬ (9223372036854775807 : Int) < (l.length : Int) := by omega
  have hdef : Builtin.unsafeString_ #[pt, it] ty #[.pointer (some ⟨g, o, none⟩), .int .i64 l.length] =
      (do
        let n ← asInt (.int .i64 l.length)
        if n < 0 then runtimePanic (.error "unsafe.String: len out of range")
        if n > IntKind.i64.max then unsupported (.unsafePointer "String: a length above the largest int")
        if n = 0 then pure (.string .empty)
        else if ← variablesAt ⟨g, o, none⟩ (← elemOf pt) n.toNat then do
          let s ← loadBytes ⟨g, o, none⟩ .empty n.toNat
          freeze ⟨g, o, none⟩ n.toNat
          pure (.string s)
        else unsupported (.unsafePointer "String: not so many bytes at ptr")) := rfl
  rw [hdef]
  have hmax : IntKind.i64.max = 9223372036854775807 := rfl
  have hneg : ¬ (l.length : Int) < 0 := by omega
  simp [asInt, asIntOf, hmax, h63', hneg, hl, variablesAt, hsh, elemOf, run_underlying hp, hlies, hlb]

def evUnsafeString (P : Program) (pt : TypeId) (x y : Value) (s : St) : Option Out :=
  match P.underlying pt, x, y with
  | some (.pointer e), .pointer (some ⟨b, off, none⟩), .int .i64 k => match s.get b with
    | .cells cc e' opn sz false => match bytesOf (cut cc off k.toNat).toList with
      | some bs =>
        if e' = e ∧ P.cellsOf e = 1 ∧ 0 < k ∧ off + k.toNat ≤ cc.length ∧ k ≤ 9223372036854775807 then some (.string ⟨bs.toArray⟩, s.put b (.cells cc e' opn sz true), 0, 2 ^ b) else none
      | none => none
    | _ => none
  | _, _, _ => none
theorem evUnsafeString_snd {o : Oper} {c : Call} {vals : Operand → Value} {x y : Operand} {pt it : TypeId} {v : Value} (ho : o.op = .call c) (hc : c.callee = .builtin .unsafeString) (ha : c.args = #[x, y]) (hat : c.argTypes = #[pt, it]) (h : evUnsafeString P pt (vals x) (vals y) s = some (v, s1, R, W)) : SndO P rd o vals s v s1 R W := by
  unfold evUnsafeString at h
  split at h
  · rename_i e b off k hp hx hy
    split at h
    · rename_i cc e' opn sz hcb
      split at h
      · rename_i bs hbs
        split at h
        · rename_i hk
          simp only [Option.some.injEq, Prod.mk.injEq] at h
          obtain ⟨rfl, rfl, rfl, rfl⟩ := h
          obtain ⟨rfl, k2, k3, k4, k5⟩ := hk
          have hb : s.get b ≠ .hole := by rw [hcb]; simp
          refine sndO_of (fun c => by rw [ho]; simp) (stat_put hb _) fun ro ρ C ev w hpre hv => ?_
          have hop : o.op.operands = #[x, y] := by simp [ho, Op.operands, Call.operands, hc, ha]
          have h1 := hv x (by rw [hop]; simp)
          have h2 := hv y (by rw [hop]; simp)
          rw [hx] at h1
          rw [hy] at h2
          obtain ⟨L, m2, hex⟩ := ptr_inv h1
          have hey : ev y = .int .i64 k := by generalize ev y = z at h2; cases h2; rfl
          have hCb := hpre.agree b (by rw [or_bit, bit_self]; simp) (St.lt_of_live hb)
          obtain ⟨L', cs, fr, g1, g2, g3⟩ := row_wr hpre.rel (hCb.trans hcb)
          rw [m2] at g1
          cases g1
          obtain ⟨p1, p2, p3, p4, p5, p6, p7, p8⟩ := g3
          obtain ⟨n, rfl⟩ : ∃ n : Nat, k = n := ⟨k.toNat, by omega⟩
          obtain ⟨z1, z2⟩ := bytesOf_get _ _ hbs
          have hl : bs.length = n := by rw [z1]; simp [cut]; omega
          have hsh : w.shape? L.blk = some (e', cs.size) := by simp [World.shape?, g2]
          have hrun := run_unsafeString_at (P := P) (w := w) pt it o.type e' hp k2 L.blk (L.base + off) cs.size hsh bs (by intro hn; rw [hn] at hl; simp at hl; omega) (by omega) (by omega) (fun j x hj => by
            rw [add_mk, cell_row g2]
            have hlt : j < bs.length := (List.getElem?_eq_some_iff.1 hj).1
            have hm : cc[off + j]? = some (.int .u8 (bs[j].toNat : Int)) := by
              have := z2 j hlt
              simp only [cut, List.getElem?_take, List.getElem?_drop] at this
              rw [if_pos (by omega)] at this
              exact this
            obtain ⟨v', q1, q2⟩ := p6 _ _ hm
            rw [Nat.add_assoc, q1, int_inv q2]
            rw [List.getElem?_eq_getElem hlt] at hj
            cases hj
            rfl)
          rw [hl] at hrun
          have k1 : ∃ fr', (w.freeze ⟨L.blk, L.base + off, none⟩ n).heap[L.blk]? = some (.cells cs e' fr') := by
            obtain ⟨lo, hi⟩ := fr
            exact ⟨_, by unfold World.freeze; rw [if_neg (by omega)]; simp [Array.getElem?_modify, g2]; rfl⟩
          obtain ⟨fr', k1⟩ := k1
          have d1 : OneOff w L.blk (w.freeze ⟨L.blk, L.base + off, none⟩ n) := by
            unfold World.freeze
            rw [if_neg (by omega)]
            refine ⟨by simp, fun y hy => ?_, rfl, rfl, rfl⟩
            simp [Array.getElem?_modify, Ne.symm hy]
          obtain ⟨p1', r2⟩ := step_put (o' := .cells cs e' fr) hpre hb (by rw [hcb]; rfl) m2 d1 k1 (show OR ρ L (.cells cc e' opn sz true) (.cells cs e' fr') by exact ⟨p1, p2, fun _ => rfl, p4, p5, p6, (fun hf => by simp at hf), p8⟩)
          refine ⟨ρ, .string ⟨bs.toArray⟩, _, .inl ?_, p1', r2, .string _⟩
          simp [execOp, ho, resolve, hc, ha, hat, invoke, builtin, hex, hey, hrun]
        · cases h
      · cases h
    · cases h
  · cases h
end Mini
end Go.Proofs.YtbkpnhbcihcgaaaGreatDoor
end
section
namespace Go.Proofs.YtbkpnhbcihcgaaaGreatDoor
set_option linter.all false
namespace Mini
variable {P : Program} {rd : Option Nat} {s s1 : St} {R W : Nat}

def isStrSl : TypeDesc → Bool
  | .string => true
  | .slice _ => true
  | _ => false
theorem isStrSl_of {d : TypeDesc} (h : isStrSl d = true) : d = .string ∨ ∃ e', d = .slice e' := by
  cases d <;> simp [isStrSl] at h
  · exact .inl rfl
  · exact .inr ⟨_, rfl⟩

def appendM (e : TypeId) (i : TypeInfo) (x : Value) (n : Nat) (l : List Value) (R0 : Nat) (s : St) : Option Out :=
  match x with
  | .slice a sl sc =>
    if n = 0 then (if l.isEmpty = true ∧ sl ≤ sc then some (.slice a sl sc, s, R0, 0) else none)
    else if (sl + n) * i.bytes ≤ 140737488355328 ∧ sl ≤ sc ∧ l.all oneL = true then
      match a with
      | none => if sl = 0 ∧ sc = 0 then some (.slice (some ⟨s.next, 0, none⟩) (0 + n) (0 + n), s.push (.cells ([] ++ l) e true i.size false), R0 ||| 0, 0) else none
      | some ⟨_, _, some _⟩ => if sl = 0 ∧ sc = 0 then some (.slice (some ⟨s.next, 0, none⟩) (0 + n) (0 + n), s.push (.cells ([] ++ l) e true i.size false), R0 ||| 0, 0) else none
      | some ⟨b, off, none⟩ =>
        match s.get b with
        | .cells cc e' false sz r =>
          if sl + n ≤ sc then
            (if r = false ∧ off + (sl + n) * i.size ≤ cc.length then some (.slice (some ⟨b, off, none⟩) (sl + n) sc, s.put b (.cells (setL cc (off + sl * i.size) l) e' false sz false), R0, 2 ^ b) else none)
          else
            (if off + sl * i.size ≤ cc.length then some (.slice (some ⟨s.next, 0, none⟩) (sl + n) (sl + n), s.push (.cells ((cut cc off (sl * i.size)).toList ++ l) e true i.size false), R0 ||| 2 ^ b, 0) else none)
        | .cells cc e' true sz r =>
          if r = false ∧ sz = i.size ∧ e' = e ∧ off + sl * i.size ≤ cc.length ∧ (sl + n ≤ sc → off + sc * i.size ≤ cc.length) then
            some (.slice (some ⟨s.next, 0, none⟩) (sl + n) (sl + n), (s.put b .hole).push (.cells ((cut cc off (sl * i.size)).toList ++ l) e true i.size false), R0, 2 ^ b)
          else none
        | _ => none
    else none
  | _ => none
def evAppend (P : Program) (tS tX : TypeId) (x y : Value) (s : St) : Option Out :=
  match P.underlying tS, P.underlying tX with
  | some (.slice e), some d =>
    match P.info? e with
    | some i =>
      match i.zero with
      | some z =>
        if isStrSl d = true ∧ z.cells.size = i.size ∧ i.bytes ≠ 0 then
          (match elemsM s i.size y with
          | some (n, l, R0) => if l.length = n * i.size then appendM e i x n l R0 s else none
          | none => none)
        else none
      | none => none
    | none => none
  | _, _ => none
theorem evAppend_snd {o : Oper} {c : Call} {vals : Operand → Value} {x y : Operand} {tS tX : TypeId} {v : Value} (ho : o.op = .call c) (hc : c.callee = .builtin .append) (ha : c.args = #[x, y]) (hat : c.argTypes = #[tS, tX]) (h : evAppend P tS tX (vals x) (vals y) s = some (v, s1, R, W)) : SndO P rd o vals s v s1 R W := by
  unfold evAppend at h
  split at h
  · rename_i e d ht hd
    split at h
    · rename_i i hi
      split at h
      · rename_i z hz
        split at h
        · rename_i hcond
          have hE : Elt P tS tX e i z d := ⟨ht, hd, isStrSl_of hcond.1, hi, hz, hcond.2.1, hcond.2.2⟩
          split at h
          · rename_i n l R0 hel
            split at h
            · rename_i hll
              unfold appendM at h
              split at h
              · rename_i a sl sc hx
                split at h
                · rename_i hn
                  subst hn
                  split at h
                  · rename_i hle
                    simp only [Option.some.injEq, Prod.mk.injEq] at h
                    obtain ⟨rfl, rfl, rfl, rfl⟩ := h
                    exact sndO_appendNone ho hc ha hat hE hel (by simpa using hle.1) hx hle.2
                  · cases h
                · rename_i hn
                  split at h
                  · rename_i hbig
                    split at h
                    · split at h
                      · rename_i h0
                        obtain ⟨rfl, rfl⟩ := h0
                        simp only [Option.some.injEq, Prod.mk.injEq] at h
                        obtain ⟨rfl, rfl, rfl, rfl⟩ := h
                        exact sndO_grow ho hc ha hat hE hel hll (sl := 0) (oldl := []) (R1 := 0) (by simp) (by simpa using hbig.1) (old_none hn (.inl hx))
                      · cases h
                    · split at h
                      · rename_i h0
                        obtain ⟨rfl, rfl⟩ := h0
                        simp only [Option.some.injEq, Prod.mk.injEq] at h
                        obtain ⟨rfl, rfl, rfl, rfl⟩ := h
                        exact sndO_grow ho hc ha hat hE hel hll (sl := 0) (oldl := []) (R1 := 0) (by simp) (by simpa using hbig.1) (old_none hn (.inr ⟨_, hx, rfl⟩))
                      · cases h
                    · rename_i b off
                      split at h
                      · rename_i cc e' sz r hb
                        split at h
                        · rename_i hroom
                          split at h
                          · rename_i hk
                            obtain ⟨rfl, hlen⟩ := hk
                            simp only [Option.some.injEq, Prod.mk.injEq] at h
                            obtain ⟨rfl, rfl, rfl, rfl⟩ := h
                            exact sndO_appendRoom ho hc ha hat hE hel hll hn hx hb hroom hlen hbig.2.2
                          · cases h
                        · rename_i hroom
                          split at h
                          · rename_i hlen
                            simp only [Option.some.injEq, Prod.mk.injEq] at h
                            obtain ⟨rfl, rfl, rfl, rfl⟩ := h
                            exact sndO_grow ho hc ha hat hE hel hll (R1 := 2 ^ b) (by simp [cut]; omega) hbig.1 (old_some hb hx hlen hroom hbig.2.1)
                          · cases h
                      · rename_i cc e' sz r hb
                        split at h
                        · rename_i hk
                          obtain ⟨rfl, hsz, hee, hlen, hrm⟩ := hk
                          simp only [Option.some.injEq, Prod.mk.injEq] at h
                          obtain ⟨rfl, rfl, rfl, rfl⟩ := h
                          exact sndO_appendOn ho hc ha hat hE hel hll hn hx hb hsz hee hlen hrm hbig.2.1 hbig.2.2 hbig.1
                        · cases h
                      · cases h
                  · cases h
              · cases h
            · cases h
          · cases h
        · cases h
      · cases h
    · cases h
  · cases h

def evCopy (P : Program) (tD : TypeId) (x y : Value) (s : St) : Option Out :=
  match P.underlying tD, x, lenV y with
  | some (.slice e), .slice (some ⟨b, off, none⟩) dl _, some m =>
    match P.info? e with
    | some i =>
      match s.get b, elemsM s i.size (truncV (Nat.min m dl) y) with
      | .cells cc e' opn sz false, some (n, l, R0) =>
        if n = Nat.min m dl ∧ l.length = n * i.size ∧ dl ≠ 0 ∧ off + n * i.size ≤ cc.length ∧ l.all oneL = true then some (.int .i64 n, s.put b (.cells (setL cc off l) e' opn sz false), R0, 2 ^ b) else none
      | _, _ => none
    | none => none
  | _, _, _ => none
theorem evCopy_snd {o : Oper} {c : Call} {vals : Operand → Value} {x y : Operand} {tD tX : TypeId} {v : Value} (ho : o.op = .call c) (hc : c.callee = .builtin .copy) (ha : c.args = #[x, y]) (hat : c.argTypes = #[tD, tX]) (h : evCopy P tD (vals x) (vals y) s = some (v, s1, R, W)) : SndO P rd o vals s v s1 R W := by
  unfold evCopy at h
  split at h
  · rename_i e b off dl dc m ht hx hm
    split at h
    · rename_i i hi
      split at h
      · rename_i cc e' opn sz n l R0 hb hel
        split at h
        · rename_i hk
          obtain ⟨hn, hll, hdl, hlen, hone⟩ := hk
          simp only [Option.some.injEq, Prod.mk.injEq] at h
          obtain ⟨rfl, rfl, rfl, rfl⟩ := h
          rw [← hn] at hel
          exact sndO_copy ho hc ha hat ht hi hm hn hel hll hdl hx hb hlen hone
        · cases h
      · cases h
    · cases h
  · cases h

def evLen (P : Program) (t : TypeId) (x : Value) (s : St) : Option Out :=
  match P.underlying t, x with
  | some (.slice _), .slice _ n _ => some (.int .i64 n, s, 0, 0)
  | _, _ => none
theorem evLen_snd {o : Oper} {c : Call} {vals : Operand → Value} {x : Operand} {t : TypeId} {v : Value} (ho : o.op = .call c) (hc : c.callee = .builtin .len) (ha : c.args = #[x]) (hat : c.argTypes = #[t]) (h : evLen P t (vals x) s = some (v, s1, R, W)) : SndO P rd o vals s v s1 R W := by
  unfold evLen at h
  split at h
  · rename_i e a n k ht hx
    simp only [Option.some.injEq, Prod.mk.injEq] at h
    obtain ⟨rfl, rfl, rfl, rfl⟩ := h
    exact sndO_lenSlice ho hc ha hat ht hx
  · cases h

theorem sndO_mark {o : Oper} {vals : Operand → Value} {src e e' : TypeId} {x : Operand} {b off n c sz : Nat} {cc : List Value} {opn r : Bool} (h : o.op = .convert src src x)
    (hs : P.underlying src = some (.slice e)) (he : P.underlying e = some (.int .u8)) (hx : vals x = .slice (some ⟨b, off, none⟩) n c) (hn : n ≠ 0) (hc : s.get b = .cells cc e' opn sz r) (hr : roO (.cells cc e' opn sz r) = false) :
    SndO P rd o vals s (.slice (some ⟨b, off, none⟩) n c) (s.put b (.cells cc e' opn sz r)) 0 (2 ^ b) := by
  have hb : s.get b ≠ .hole := by rw [hc]; simp
  refine sndO_of (fun c => by rw [h]; simp) (stat_put hb _) fun ro ρ C ev w hp hx' => ?_
  have hx1 := hx' x (by simp [h, Op.operands])
  rw [hx] at hx1
  obtain ⟨L, c', h2, hev, hcc⟩ := slice_inv hn hx1
  have hCb := hp.agree b (by rw [or_bit, bit_self]; simp) (St.lt_of_live hb)
  obtain ⟨L', cs, fr, g1, g2, g3⟩ := row_of hp.rel (hCb.trans hc)
  rw [h2] at g1
  cases g1
  have hsh : w.shape? L.blk = some (elemAt w L.blk, cs.size) := by simp [World.shape?, g2]
  obtain ⟨lo, hi⟩ := fr
  have d1 : OneOff w L.blk (w.freeze ⟨L.blk, cs.size, none⟩ 1) := by
    refine ⟨by simp [World.freeze], fun y hy => ?_, ?_, ?_, ?_⟩
    · simp [World.freeze, Array.getElem?_modify, Ne.symm hy]
    all_goals simp [World.freeze]
  have k1 : (w.freeze ⟨L.blk, cs.size, none⟩ 1).heap[L.blk]? = some (.cells cs (elemAt w L.blk) (if lo == hi then (cs.size, cs.size + 1) else (min lo cs.size, max hi (cs.size + 1)))) := by
    simp [World.freeze, Array.getElem?_modify, g2]
  have k2 : OR ρ L (.cells cc e' opn sz r) (.cells cs (elemAt w L.blk) (if lo == hi then (cs.size, cs.size + 1) else (min lo cs.size, max hi (cs.size + 1)))) := by
    obtain ⟨q1, q2, q3, q4, q5, q6, q7, q8⟩ := g3
    refine ⟨q1, q2, q3, q4, q5, q6, fun hr => .inr ?_, q8⟩
    have := q7 hr
    simp only at this
    by_cases hlh : lo = hi
    · rw [if_pos (by simpa using hlh)]; exact Nat.le_of_eq q4.symm
    · rw [if_neg (by simpa using hlh)]
      show L.lim ≤ min lo cs.size
      omega
  obtain ⟨p1, r2⟩ := step_put (o' := .cells cs (elemAt w L.blk) (lo, hi)) hp hb (by rw [hc]; exact hr) h2 d1 k1 k2
  refine ⟨ρ, .slice (some ⟨L.blk, L.base + off, none⟩) n c', _, .inl ?_, p1, r2, .slice b off n c c' L h2 hcc⟩
  simp [execOp, h, hev, convert, run_underlying hs, run_underlying he, markStringish, hsh]

def evConv (P : Program) (src dst : TypeId) (x : Value) (s : St) : Option Out :=
  match P.underlying src, P.underlying dst, x with
  | some (.slice e), some .string, .slice (some ⟨b, off, none⟩) n _ =>
    match P.underlying e, s.get b with
    | some (.int .u8), .cells cc _ _ _ _ =>
      if n ≠ 0 ∧ off + n ≤ cc.length then (match bytesOf (cut cc off n).toList with
        | some bs => some (.string ⟨bs.toArray⟩, s, 2 ^ b, 0)
        | none => none) else none
    | _, _ => none
  | some .string, some (.slice e), .string b =>
    match P.underlying e with
    | some (.int .u8) => some (.slice (some ⟨s.next, 0, none⟩) b.size b.size, s.push (.cells (b.data.toList.map (fun x => .int .u8 x.toNat)) e true 1 false), 0, 0)
    | _ => none
  | some (.slice e), some (.slice _), .slice (some ⟨b, off, none⟩) n c =>
    match P.underlying e, s.get b with
    | some (.int .u8), .cells cc e' opn sz r => if n ≠ 0 ∧ src = dst ∧ roO (.cells cc e' opn sz r) = false then some (.slice (some ⟨b, off, none⟩) n c, s.put b (.cells cc e' opn sz r), 0, 2 ^ b) else none
    | _, _ => none
  | _, _, _ => none
theorem evConv_snd {o : Oper} {vals : Operand → Value} {src dst : TypeId} {x : Operand} {v : Value} (ho : o.op = .convert src dst x) (h : evConv P src dst (vals x) s = some (v, s1, R, W)) : SndO P rd o vals s v s1 R W := by
  unfold evConv at h
  split at h
  · rename_i e b off n c hs hd hx
    split at h
    · rename_i cc e' opn sz r he hb
      split at h
      · rename_i hk
        split at h
        · rename_i bs hbs
          simp only [Option.some.injEq, Prod.mk.injEq] at h
          obtain ⟨rfl, rfl, rfl, rfl⟩ := h
          exact sndO_bytesString ho hs he hd hx hk.1 hb hk.2 hbs
        · cases h
      · cases h
    · cases h
  · rename_i e b hs hd hx
    split at h
    · rename_i he
      simp only [Option.some.injEq, Prod.mk.injEq] at h
      obtain ⟨rfl, rfl, rfl, rfl⟩ := h
      exact sndO_stringBytes ho hs hd he hx
    · cases h
  · rename_i e _ b off n c hs hd hx
    split at h
    · rename_i cc e' opn sz r he hb
      split at h
      · rename_i hk
        simp only [Option.some.injEq, Prod.mk.injEq] at h
        obtain ⟨rfl, rfl, rfl, rfl⟩ := h
        exact sndO_mark (by rw [← hk.2.1] at ho; exact ho) hs he hx hk.1 hb hk.2.2
      · cases h
    · cases h
  · cases h

def evEq (P : Program) (op : BinOp) (t : TypeId) (x y : Value) (s : St) : Option Out :=
  match op, refEq P t x y with
  | .eql, some r => some (.bool (r != false), s, 0, 0)
  | .neq, some r => some (.bool (r != true), s, 0, 0)
  | _, _ => none
theorem evEq_snd {o : Oper} {vals : Operand → Value} {op : BinOp} {t ty : TypeId} {x y : Operand} {v : Value} (ho : o.op = .binOp op t x y ty) (h : evEq P op t (vals x) (vals y) s = some (v, s1, R, W)) : SndO P rd o vals s v s1 R W := by
  unfold evEq at h
  split at h
  · rename_i r hr
    simp only [Option.some.injEq, Prod.mk.injEq] at h
    obtain ⟨rfl, rfl, rfl, rfl⟩ := h
    exact sndO_refEq (neg := false) (by simpa using ho) hr
  · rename_i r hr
    simp only [Option.some.injEq, Prod.mk.injEq] at h
    obtain ⟨rfl, rfl, rfl, rfl⟩ := h
    exact sndO_refEq (neg := true) (by simpa using ho) hr
  · cases h
def evToArr (P : Program) (t : TypeId) (x : Value) (s : St) : Option Out :=
  match P.underlying t, x with
  | some (.array k _), .slice (some ⟨b, off, none⟩) n _ => if n ≠ 0 ∧ k ≤ n then some (.pointer (some ⟨b, off, none⟩), s, 0, 0) else none
  | _, _ => none
theorem evToArr_snd {o : Oper} {vals : Operand → Value} {t : TypeId} {x : Operand} {v : Value} (ho : o.op = .sliceToArrayPointer t x) (h : evToArr P t (vals x) s = some (v, s1, R, W)) : SndO P rd o vals s v s1 R W := by
  unfold evToArr at h
  split at h
  · rename_i k e b off n c ht hx
    split at h
    · rename_i hk
      simp only [Option.some.injEq, Prod.mk.injEq] at h
      obtain ⟨rfl, rfl, rfl, rfl⟩ := h
      exact sndO_toArr ho ht hx hk.1 hk.2
    · cases h
  · cases h
def evRange (P : Program) (t : TypeId) (x : Value) (s : St) : Option Out :=
  match P.underlying t, x with
  | some .string, .string b => some (.pointer (some ⟨s.next, 0, none⟩), s.push (.iter b 0), 0, 0)
  | _, _ => none
theorem evRange_snd {o : Oper} {vals : Operand → Value} {t : TypeId} {x : Operand} {v : Value} (ho : o.op = .range t x) (h : evRange P t (vals x) s = some (v, s1, R, W)) : SndO P rd o vals s v s1 R W := by
  unfold evRange at h
  split at h
  · rename_i b ht hx
    simp only [Option.some.injEq, Prod.mk.injEq] at h
    obtain ⟨rfl, rfl, rfl, rfl⟩ := h
    exact sndO_rangeString ho ht hx
  · cases h
def evNext (x : Value) (s : St) : Option Out :=
  match x with
  | .pointer (some ⟨b, 0, none⟩) =>
    match s.get b with
    | .iter z p =>
      if p < z.size then some (.tuple #[.bool true, .int .i64 p, .int .i32 (Utf8.decode z p).1], s.put b (.iter z (p + (Utf8.decode z p).2)), 0, 2 ^ b)
      else some (.tuple #[.bool false], s, 2 ^ b, 0)
    | _ => none
  | _ => none
theorem evNext_snd {o : Oper} {vals : Operand → Value} {x : Operand} {v : Value} (ho : o.op = .next x true) (h : evNext (vals x) s = some (v, s1, R, W)) : SndO P rd o vals s v s1 R W := by
  unfold evNext at h
  split at h
  · rename_i b hx
    split at h
    · rename_i z p hb
      split at h
      · rename_i hp
        simp only [Option.some.injEq, Prod.mk.injEq] at h
        obtain ⟨rfl, rfl, rfl, rfl⟩ := h
        exact sndO_nextOn ho hx hb hp
      · rename_i hp
        simp only [Option.some.injEq, Prod.mk.injEq] at h
        obtain ⟨rfl, rfl, rfl, rfl⟩ := h
        exact sndO_nextEnd ho hx hb hp
    · cases h
  · cases h

def orElse (a b : Option Out) : Option Out := match a with | some r => some r | none => b
theorem orElse_cases {a b : Option Out} {r : Out} (h : orElse a b = some r) : a = some r ∨ b = some r := by
  cases a with
  | none => exact .inr h
  | some q => exact .inl h

def evCall (P : Program) (F : CallF) (vals : Operand → Value) (o : Oper) (c : Call) (s : St) : Option Out :=
  match c.callee, c.args.toList, c.argTypes.toList with
  | .builtin .append, [x, y], [tS, tX] => orElse (evAppend P tS tX (vals x) (vals y) s) (evGrowZ P tS tX (vals x) (vals y) s)
  | .builtin .copy, [x, y], [tS, _] => evCopy P tS (vals x) (vals y) s
  | .builtin .unsafeSliceData, [x], _ => evSliceData (vals x) s
  | .builtin .unsafeString, [x, y], [pt, _] => orElse (evUnsafeString P pt (vals x) (vals y) s) (evGround P vals o s)
  | .builtin .len, [x], [t] =>
    match evLen P t (vals x) s with
    | some r => some r
    | none => evGround P vals o s
  | .value x, _, _ =>
    match vals x with
    | .func (.func f) azz bs =>
      match P.funcs[f]? with
      | some fn => if fn.body.isSome = true then (if (fn.name == "runtime.NumGoroutine") = false then F f (azz ++ c.args.map vals ++ bs) s else none) else (match isNoEsc fn, azz.toList, c.args.toList, bs.toList with
        | true, [], [y], [] => some (vals y, s, 0, 0)
        | _, _, _, _ => evGround P vals o s)
      | none => none
    | _ => none
  | _, _, _ => evGround P vals o s
theorem arr1 {α : Type} {a : Array α} {x : α} (h : a.toList = [x]) : a = #[x] := by apply Array.ext'; simpa using h
theorem arr2 {α : Type} {a : Array α} {x y : α} (h : a.toList = [x, y]) : a = #[x, y] := by apply Array.ext'; simpa using h
theorem evCall_snd {F : CallF} {o : Oper} {c : Call} {vals : Operand → Value} {v : Value} (hF : ∀ f azz s v s1 R W, F f azz s = some (v, s1, R, W) → SndF P f azz s v s1 R W) (ho : o.op = .call c) (h : evCall P F vals o c s = some (v, s1, R, W)) : SndO P rd o vals s v s1 R W := by
  unfold evCall at h
  split at h
  · rename_i x y tS tX hc ha hat
    rcases orElse_cases h with h | h
    · exact evAppend_snd ho hc (arr2 ha) (arr2 hat) h
    · exact evGrowZ_snd ho hc (arr2 ha) (arr2 hat) h
  · rename_i x y tS tX hc ha hat
    exact evCopy_snd ho hc (arr2 ha) (arr2 hat) h
  · rename_i hc ha
    exact evSliceData_snd ho hc (arr1 ha) h
  · rename_i x y pt it hc ha hat
    rcases orElse_cases h with h | h
    · exact evUnsafeString_snd ho hc (arr2 ha) (arr2 hat) h
    · exact evGround_snd h
  · rename_i x t hc ha hat
    split at h
    · rename_i r hr
      cases h
      exact evLen_snd ho hc (arr1 ha) (arr1 hat) hr
    · exact evGround_snd h
  · rename_i x hc
    split at h
    · rename_i f azz bs hx
      split at h
      · rename_i fn hf
        split at h
        · rename_i hb
          split at h
          · rename_i hn
            exact sndO_call ho hc hx hf hb hn (hF _ _ _ _ _ _ _ h)
          · cases h
        · split at h
          · rename_i hn has hca hbs
            simp only [Option.some.injEq, Prod.mk.injEq] at h
            obtain ⟨rfl, rfl, rfl, rfl⟩ := h
            exact sndO_noEsc ho hc (arr1 hca) (by rw [hx, Array.toList_eq_nil_iff.1 has, Array.toList_eq_nil_iff.1 hbs]) hf hn
          · exact evGround_snd h
      · cases h
    · cases h
  · exact evGround_snd h

def evOp (P : Program) (F : CallF) (vals : Operand → Value) (o : Oper) (s : St) : Option Out :=
  match o.op with
  | .move x => some (vals x, s, 0, 0)
  | .assign x => some (vals x, s, 0, 0)
  | .pick c x y => match vals c with
    | .bool t => some (if t then vals x else vals y, s, 0, 0)
    | _ => none
  | .alloc t => evAlloc P t s
  | .box t x => match live (vals x) with
    | true => some (.pointer (some ⟨s.next, 0, none⟩), s.push (.cells (vals x).cells.toList t false 0 false), 0, 0)
    | false => none
  | .build t ps => evBuild P vals t ps s
  | .buildSlice t n ps => evBuildSlice P vals t n ps s
  | .load t x => match loadM P s t (vals x) with
    | some (v, R) => some (v, s, R, 0)
    | none => none
  | .store t a x => evStore P t (vals a) (vals x) s
  | .nilCheck x => evNil (vals x) s
  | .fieldAddr t x k => evFieldAddr P t (vals x) k s
  | .indexAddr t x y => evIndexAddr P t (vals x) (vals y) s
  | .field t x k => evField P t (vals x) k s
  | .index t x y => orElse (evIndex P t (vals x) (vals y) s) (evGround P vals o s)
  | .extract x k => evExtract (vals x) k s
  | .makeSlice t x y => evMakeSlice P t (vals x) (vals y) s
  | .slice t x lo hi mx => orElse (evSlice P t (vals x) (lo.map vals) (hi.map vals) (mx.map vals) s) (evGround P vals o s)
  | .makeFunc fn azz bs => evFunc vals fn azz bs s
  | .makeInterface t x => evIface P t (vals x) s
  | .convert src dst x => orElse (evConv P src dst (vals x) s) (orElse (evToUnsafe P src dst (vals x) s) (evGround P vals o s))
  | .binOp op t x y _ => orElse (evEq P op t (vals x) (vals y) s) (evGround P vals o s)
  | .sliceToArrayPointer t x => evToArr P t (vals x) s
  | .range t x => evRange P t (vals x) s
  | .next x true => evNext (vals x) s
  | .makeMap t r => evMakeMap P t (r.map vals) s
  | .lookup t x k ok => orElse (evLookup P t (vals x) (vals k) ok s) (evGround P vals o s)
  | .mapUpdate t x k y => evMapPut P t (vals x) (vals k) (vals y) s
  | .insert t x k y => evMapPut P t (vals x) (vals k) (vals y) s
  | .call c => evCall P F vals o c s
  | _ => evGround P vals o s

theorem evOp_snd {F : CallF} {o : Oper} {vals : Operand → Value} {v : Value} (hF : ∀ f azz s v s1 R W, F f azz s = some (v, s1, R, W) → SndF P f azz s v s1 R W) (h : evOp P F vals o s = some (v, s1, R, W)) : SndO P rd o vals s v s1 R W := by
  unfold evOp at h
  split at h
  · rename_i x ho
    simp only [Option.some.injEq, Prod.mk.injEq] at h
    obtain ⟨rfl, rfl, rfl, rfl⟩ := h
    exact sndO_move (.inl ho)
  · rename_i x ho
    simp only [Option.some.injEq, Prod.mk.injEq] at h
    obtain ⟨rfl, rfl, rfl, rfl⟩ := h
    exact sndO_move (.inr ho)
  · rename_i c x y ho
    split at h
    · rename_i t hc
      simp only [Option.some.injEq, Prod.mk.injEq] at h
      obtain ⟨rfl, rfl, rfl, rfl⟩ := h
      exact sndO_pick ho hc
    · cases h
  · rename_i t ho; exact evAlloc_snd ho h
  · rename_i t x ho
    split at h
    · rename_i hl
      simp only [Option.some.injEq, Prod.mk.injEq] at h
      obtain ⟨rfl, rfl, rfl, rfl⟩ := h
      exact sndO_box ho hl
    · cases h
  · rename_i t ps ho; exact evBuild_snd ho h
  · rename_i t n ps ho; exact evBuildSlice_snd ho h
  · rename_i t x ho
    split at h
    · rename_i u R0 hl
      simp only [Option.some.injEq, Prod.mk.injEq] at h
      obtain ⟨rfl, rfl, rfl, rfl⟩ := h
      exact sndO_load ho hl
    · cases h
  · rename_i t a x ho; exact evStore_snd ho h
  · rename_i x ho; exact evNil_snd ho h
  · rename_i t x k ho; exact evFieldAddr_snd ho h
  · rename_i t x y ho; exact evIndexAddr_snd ho h
  · rename_i t x k ho; exact evField_snd ho h
  · rename_i t x y ho
    rcases orElse_cases h with h | h
    · exact evIndex_snd ho h
    · exact evGround_snd h
  · rename_i x k ho; exact evExtract_snd ho h
  · rename_i t x y ho; exact evMakeSlice_snd ho h
  · rename_i t x lo hi mx ho
    rcases orElse_cases h with h | h
    · exact evSlice_snd ho h
    · exact evGround_snd h
  · rename_i fn azz bs ho; exact evFunc_snd ho h
  · rename_i t x ho; exact evIface_snd ho h
  · rename_i src dst x ho
    rcases orElse_cases h with h | h
    · exact evConv_snd ho h
    · rcases orElse_cases h with h | h
      · exact evToUnsafe_snd ho h
      · exact evGround_snd h
  · rename_i op t x y ty ho
    rcases orElse_cases h with h | h
    · exact evEq_snd ho h
    · exact evGround_snd h
  · rename_i t x ho; exact evToArr_snd ho h
  · rename_i t x ho; exact evRange_snd ho h
  · rename_i x ho; exact evNext_snd ho h
  · rename_i t r ho; exact evMakeMap_snd ho h
  · rename_i t x k ok ho
    rcases orElse_cases h with h | h
    · exact evLookup_snd ho h
    · exact evGround_snd h
  · rename_i t x k y ho; exact evMapPut_snd (.inl ho) h
  · rename_i t x k y ho; exact evMapPut_snd (.inr ho) h
  · rename_i c ho; exact evCall_snd hF ho h
  · exact evGround_snd h
end Mini
end Go.Proofs.YtbkpnhbcihcgaaaGreatDoor
end
section
namespace Go.Proofs.YtbkpnhbcihcgaaaGreatDoor
set_option linter.all false
namespace Mini
variable {P : Program} {rd : Option Nat} {s s1 : St} {R W : Nat}

def predOne (l : List Nat) (o : Oper) : Nat := o.after.toList.foldl (fun acc e => if Region.binds .any e = true then acc ||| (2 ^ e.on ||| l.getD e.on 0) else acc) 0
def predsL : List Oper → List Nat → List Nat
  | [], l => l
  | o :: os, l => predsL os (l ++ [predOne l o])
def preds (ops : Array Oper) : List Nat := predsL ops.toList []
def edgesL : List Oper → Nat → Bool
  | [], _ => true
  | o :: os, i => o.after.toList.all (fun e => !Region.binds .any e || decide (e.on < i)) && edgesL os (i + 1)
def edgesOk (ops : Array Oper) : Bool := edgesL ops.toList 0
def ordOf (ops : Array Oper) (j i : Nat) : Prop := ((preds ops).getD i 0).testBit j = true

theorem predsL_len : ∀ (os : List Oper) (l : List Nat), (predsL os l).length = l.length + os.length
  | [], l => rfl
  | o :: os, l => by simp only [predsL]; rw [predsL_len]; simp; omega
theorem predsL_old : ∀ (os : List Oper) (l : List Nat) (i : Nat), i < l.length → (predsL os l).getD i 0 = l.getD i 0
  | [], l, i, h => rfl
  | o :: os, l, i, h => by
    simp only [predsL]
    rw [predsL_old os _ i (by simp; omega)]
    simp [List.getD_eq_getElem?_getD, List.getElem?_append_left h]
theorem predsL_at : ∀ (os : List Oper) (l : List Nat) (k : Nat) (o : Oper), os[k]? = some o → ∃ l', l'.length = l.length + k ∧ (predsL os l).getD (l.length + k) 0 = predOne l' o ∧ ∀ i, i < l'.length → l'.getD i 0 = (predsL os l).getD i 0
  | [], l, k, o, h => by simp at h
  | o' :: os, l, 0, o, h => by
    simp at h
    subst h
    refine ⟨l, rfl, ?_, fun i hi => (predsL_old (o' :: os) l i hi).symm⟩
    simp only [predsL, Nat.add_zero]
    rw [predsL_old os _ l.length (by simp)]
    simp [List.getD_eq_getElem?_getD]
  | o' :: os, l, k + 1, o, h => by
    obtain ⟨l', h1, h2, h3⟩ := predsL_at os (l ++ [predOne l o']) k o (by simpa using h)
    refine ⟨l', by simp at h1; omega, ?_, h3⟩
    simp only [predsL]
    rw [← h2]
    congr 1
    simp
    omega
theorem fold_bit (l : List Nat) (j : Nat) : ∀ (es : List Edge) (acc : Nat), (es.foldl (fun acc e => if Region.binds .any e = true then acc ||| (2 ^ e.on ||| l.getD e.on 0) else acc) acc).testBit j = true →
    acc.testBit j = true ∨ ∃ e, e ∈ es ∧ Region.binds .any e = true ∧ (e.on = j ∨ (l.getD e.on 0).testBit j = true)
  | [], acc, h => .inl h
  | e :: es, acc, h => by
    simp only [List.foldl_cons] at h
    rcases fold_bit l j es _ h with g | ⟨e', g1, g2, g3⟩
    · by_cases hb : Region.binds .any e = true
      · rw [if_pos hb, or_bit, or_bit, Bool.or_eq_true, Bool.or_eq_true] at g
        rcases g with g | g | g
        · exact .inl g
        · exact .inr ⟨e, by simp, hb, .inl (bit_iff.1 g).symm⟩
        · exact .inr ⟨e, by simp, hb, .inr g⟩
      · rw [if_neg hb] at g; exact .inl g
    · exact .inr ⟨e', by simp [g1], g2, g3⟩
theorem edgesL_at : ∀ (os : List Oper) (n k : Nat) (o : Oper), edgesL os n = true → os[k]? = some o → ∀ e, e ∈ o.after.toList → Region.binds .any e = true → e.on < n + k
  | [], n, k, o, h, ho => by simp at ho
  | o' :: os, n, 0, o, h, ho => fun e he hb => by
    simp at ho
    subst ho
    simp only [edgesL, Bool.and_eq_true] at h
    have := List.all_eq_true.1 h.1 e he
    rw [hb] at this
    simpa using this
  | o' :: os, n, k + 1, o, h, ho => fun e he hb => by
    simp only [edgesL, Bool.and_eq_true] at h
    have := edgesL_at os (n + 1) k o h.2 (by simpa using ho) e he hb
    omega
theorem ord_cases {ops : Array Oper} (he : edgesOk ops = true) {i j : Nat} {o : Oper} (ho : ops[i]? = some o) (h : ordOf ops j i) : ∃ e, e ∈ o.after.toList ∧ Region.binds .any e = true ∧ e.on < i ∧ (e.on = j ∨ ordOf ops j e.on) := by
  have ho' : ops.toList[i]? = some o := by simpa using ho
  obtain ⟨l', h1, h2, h3⟩ := predsL_at ops.toList [] i o ho'
  simp only [List.length_nil, Nat.zero_add] at h1 h2
  unfold ordOf preds at h
  rw [h2] at h
  rcases fold_bit l' j _ _ h with g | ⟨e, g1, g2, g3⟩
  · simp at g
  · have hlt := edgesL_at ops.toList 0 i o he ho' e g1 g2
    refine ⟨e, g1, g2, by omega, ?_⟩
    rcases g3 with g | g
    · exact .inl g
    · refine .inr ?_
      unfold ordOf preds
      rw [← h3 e.on (by omega)]
      exact g
theorem ord_size {ops : Array Oper} {i j : Nat} (h : ordOf ops j i) : i < ops.size := by
  rcases Nat.lt_or_ge i ops.size with c | c
  · exact c
  · unfold ordOf preds at h
    rw [List.getD_eq_getElem?_getD, List.getElem?_eq_none (by rw [predsL_len]; simpa using c)] at h
    simp at h
theorem ord_lt {ops : Array Oper} (he : edgesOk ops = true) : ∀ (i j : Nat), ordOf ops j i → j < i := by
  intro i
  induction i using Nat.strongRecOn with
  | _ i ih =>
    intro j h
    obtain ⟨e, _, _, h1, h2⟩ := ord_cases he (Array.getElem?_eq_getElem (ord_size h)) h
    rcases h2 with rfl | h2
    · exact h1
    · exact Nat.lt_trans (ih e.on h1 j h2) h1
theorem ords_of {ops : Array Oper} (he : edgesOk ops = true) : Ords ops (ordOf ops) :=
  ⟨fun E i o ho hD hd j hj => by
    obtain ⟨e, h1, h2, h3, h4⟩ := ord_cases he ho hj
    have := hd e h1 h2
    rcases h4 with rfl | h4
    · exact this
    · exact hD e.on this j h4,
  fun i o ho e h1 h2 => by
    have := edgesL_at ops.toList 0 i o he (by simpa using ho) e h1 h2
    omega⟩

def pairsAt (x : Nat × Nat) (pre : Nat) : Nat → List (Nat × Nat) → Bool
  | _, [] => true
  | j, y :: l => (((y.1 &&& x.2) == 0 && (x.1 &&& y.2) == 0) || pre.testBit j) && pairsAt x pre (j + 1) l
def pairsOk : List (Nat × Nat) → Nat → Nat → List (Nat × Nat) → List Nat → Bool
  | _, _, _, [], _ => true
  | prev, aw, aa, x :: l, pre => (((aw &&& x.2) == 0 && (x.1 &&& aa) == 0) || pairsAt x (pre.headD 0) 0 prev) && pairsOk (prev ++ [x]) (aw ||| x.1) (aa ||| x.2) l pre.tail
theorem pairsAt_get {x : Nat × Nat} {pre : Nat} : ∀ (l : List (Nat × Nat)) (j k : Nat) (y : Nat × Nat), pairsAt x pre j l = true → l[k]? = some y → ((y.1 &&& x.2) = 0 ∧ (x.1 &&& y.2) = 0) ∨ pre.testBit (j + k) = true
  | [], j, k, y, h, hy => by simp at hy
  | z :: l, j, 0, y, h, hy => by
    simp at hy
    subst hy
    simp only [pairsAt, Bool.and_eq_true, Bool.or_eq_true, beq_iff_eq] at h
    exact h.1
  | z :: l, j, k + 1, y, h, hy => by
    simp only [pairsAt, Bool.and_eq_true] at h
    have := pairsAt_get l (j + 1) k y h.2 (by simpa using hy)
    rwa [show j + 1 + k = j + (k + 1) from by omega] at this
theorem and_zero_bit {a b : Nat} (h : a &&& b = 0) (x : Nat) : ¬ (a.testBit x = true ∧ b.testBit x = true) := fun ⟨h1, h2⟩ => by
  have : (a &&& b).testBit x = true := by rw [Nat.testBit_and, h1, h2]; rfl
  rw [h] at this
  simp at this
theorem pairsOk_get : ∀ (l prev : List (Nat × Nat)) (aw aa : Nat) (pre : List Nat), pairsOk prev aw aa l pre = true → (∀ (k : Nat) (y : Nat × Nat), prev[k]? = some y → (∀ b, y.1.testBit b = true → aw.testBit b = true) ∧ (∀ b, y.2.testBit b = true → aa.testBit b = true)) →
    ∀ (i j : Nat) (x y : Nat × Nat), j < i → prev.length ≤ i → (prev ++ l)[i]? = some x → (prev ++ l)[j]? = some y →
      (∀ b, ¬ (y.1.testBit b = true ∧ x.2.testBit b = true)) ∧ (∀ b, ¬ (x.1.testBit b = true ∧ y.2.testBit b = true)) ∨ (pre.getD (i - prev.length) 0).testBit j = true
  | [], prev, aw, aa, pre, h, hacc, i, j, x, y, hji, hpi, hx, hy => by
    rw [List.append_nil, List.getElem?_eq_none hpi] at hx; cases hx
  | z :: l, prev, aw, aa, pre, h, hacc, i, j, x, y, hji, hpi, hx, hy => by
    simp only [pairsOk, Bool.and_eq_true] at h
    obtain ⟨h1, h2⟩ := h
    by_cases e : i = prev.length
    · subst e
      rw [List.getElem?_append_right (Nat.le_refl _)] at hx
      simp at hx
      subst hx
      have hy' : prev[j]? = some y := by rwa [List.getElem?_append_left hji] at hy
      simp only [Bool.or_eq_true, Bool.and_eq_true, beq_iff_eq] at h1
      rcases h1 with ⟨g1, g2⟩ | g
      · left
        obtain ⟨a1, a2⟩ := hacc j y hy'
        exact ⟨fun b hb => and_zero_bit g1 b ⟨a1 b hb.1, hb.2⟩, fun b hb => and_zero_bit g2 b ⟨hb.1, a2 b hb.2⟩⟩
      · rcases pairsAt_get prev 0 j y g hy' with ⟨k1, k2⟩ | k
        · left
          exact ⟨fun b hb => and_zero_bit k1 b hb, fun b hb => and_zero_bit k2 b hb⟩
        · right
          simp only [Nat.sub_self]
          rw [Nat.zero_add] at k
          cases pre with
          | nil => simp at k
          | cons p ps => simpa using k
    · have := pairsOk_get l (prev ++ [z]) (aw ||| z.1) (aa ||| z.2) pre.tail h2 (fun k y' hk => by
        by_cases c : k < prev.length
        · rw [List.getElem?_append_left c] at hk
          obtain ⟨a1, a2⟩ := hacc k y' hk
          exact ⟨fun b hb => by rw [or_bit, a1 b hb]; rfl, fun b hb => by rw [or_bit, a2 b hb]; rfl⟩
        · rw [List.getElem?_append_right (by omega)] at hk
          have hk0 : k - prev.length = 0 := by
            rcases Nat.eq_zero_or_pos (k - prev.length) with h0 | h0
            · exact h0
            · rw [List.getElem?_eq_none (by simp; omega)] at hk; cases hk
          rw [hk0] at hk
          simp at hk
          subst hk
          exact ⟨fun b hb => by rw [or_bit, hb]; simp, fun b hb => by rw [or_bit, hb]; simp⟩)
        i j x y hji (by simp; omega) (by rw [List.append_assoc]; exact hx) (by rw [List.append_assoc]; exact hy)
      rcases this with g | g
      · exact .inl g
      · right
        simp only [List.length_append, List.length_cons, List.length_nil] at g
        rw [show i - prev.length = (i - (prev.length + (0 + 1))) + 1 from by omega]
        cases pre with
        | nil => simp at g
        | cons p ps => simpa using g
end Mini
end Go.Proofs.YtbkpnhbcihcgaaaGreatDoor
end
section
namespace Go.Proofs.YtbkpnhbcihcgaaaGreatDoor
set_option linter.all false
namespace Mini
variable {P : Program} {rd : Option Nat} {s s1 : St} {R W : Nat}

inductive TV where
  | leaf
  | one (v : Value)
  | node (l r : TV)
def TV.left : TV → TV
  | .node l _ => l
  | _ => .leaf
def TV.right : TV → TV
  | .node _ r => r
  | _ => .leaf
def lookV : Nat → TV → Nat → Value
  | 0, t, _ => match t with
    | .one v => v
    | _ => undef
  | h + 1, t, n => match t with
    | .node l r => match Nat.ble (2 ^ h) n with
      | true => lookV h r (n - 2 ^ h)
      | false => lookV h l n
    | _ => undef
def setV : Nat → TV → Nat → Value → TV
  | 0, _, _, x => .one x
  | h + 1, t, n, x => match Nat.ble (2 ^ h) n with
    | true => .node t.left (setV h t.right (n - 2 ^ h) x)
    | false => .node (setV h t.left n x) t.right
theorem lookV_leaf : ∀ h n, lookV h .leaf n = undef := fun h n => by cases h <;> rfl
theorem lookV_node (h : Nat) (t : TV) (n : Nat) : lookV (h + 1) t n = match Nat.ble (2 ^ h) n with
    | true => lookV h t.right (n - 2 ^ h)
    | false => lookV h t.left n := by
  cases t with
  | node l r => rfl
  | _ => simp only [lookV, TV.left, TV.right, lookV_leaf]; split <;> rfl
theorem lookV_same : ∀ (h : Nat) (t : TV) (n : Nat) (x : Value), lookV h (setV h t n x) n = x
  | 0, t, n, x => rfl
  | h + 1, t, n, x => by
    rw [lookV_node]
    simp only [setV]
    cases hb : Nat.ble (2 ^ h) n with
    | true => exact lookV_same h _ _ x
    | false => exact lookV_same h _ _ x
theorem lookV_other : ∀ (h : Nat) (t : TV) (n m : Nat) (x : Value), n < 2 ^ h → m < 2 ^ h → n ≠ m → lookV h (setV h t n x) m = lookV h t m
  | 0, t, n, m, x, h1, h2, hne => absurd (by simp at h1 h2; omega) hne
  | h + 1, t, n, m, x, h1, h2, hne => by
    rw [lookV_node, lookV_node]
    simp only [setV]
    rw [Nat.pow_succ] at h1 h2
    cases hn : Nat.ble (2 ^ h) n with
    | true =>
      have hn' := Nat.le_of_ble_eq_true hn
      cases hm : Nat.ble (2 ^ h) m with
      | true =>
        have hm' := Nat.le_of_ble_eq_true hm
        exact lookV_other h _ _ _ x (by omega) (by omega) (by omega)
      | false => rfl
    | false =>
      have hn' := ble_no hn
      cases hm : Nat.ble (2 ^ h) m with
      | true => rfl
      | false => exact lookV_other h _ _ _ x hn' (ble_no hm) hne

structure MA where
  n : Nat
  t : TV
  defers : List Deferred
def hV (n : Nat) : Nat := Nat.log2 n + 1
theorem lt_hV (n : Nat) : n < 2 ^ hV n := Nat.lt_log2_self
def MA.get (m : MA) (i : Nat) : Value := match Nat.ble (i + 1) m.n with
  | true => lookV (hV m.n) m.t i
  | false => undef
theorem MA.get_lt {m : MA} {i : Nat} (h : i < m.n) : m.get i = lookV (hV m.n) m.t i := by
  unfold MA.get
  rw [Nat.ble_eq_true_of_le h]
theorem MA.get_ge {m : MA} {i : Nat} (h : m.n ≤ i) : m.get i = undef := by
  unfold MA.get
  have : Nat.ble (i + 1) m.n = false := by
    cases hb : Nat.ble (i + 1) m.n with
    | false => rfl
    | true => have := Nat.le_of_ble_eq_true hb; omega
  rw [this]
def MA.tmps (m : MA) : Array Value := Array.ofFn (n := m.n) fun i => m.get i
def MA.act (m : MA) : Act := ⟨m.tmps, m.defers⟩
def MA.put (m : MA) (d : Option Tmp) (v : Value) : MA := match d with
  | some d => match Nat.ble (d + 1) m.n with
    | true => ⟨m.n, setV (hV m.n) m.t d v, m.defers⟩
    | false => m
  | none => m
theorem MA.tmps_size (m : MA) : m.tmps.size = m.n := Array.size_ofFn
theorem MA.tmps_get (m : MA) (i : Nat) (h : i < m.tmps.size) : m.tmps[i] = m.get i := Array.getElem_ofFn _
theorem MA.tmps_at (m : MA) (i : Nat) (h : i < m.n) : m.tmps[i]? = some (m.get i) := by
  rw [Array.getElem?_eq_getElem (show i < m.tmps.size by rw [m.tmps_size]; exact h), m.tmps_get]
theorem MA.tmps_ext {m : MA} {t : Array Value} (h : t.size = m.n) (g : ∀ i, i < m.n → t[i]? = some (m.get i)) : m.tmps = t := by
  apply Array.ext
  · rw [h]; exact m.tmps_size
  · intro i h1 h2
    have hg := g i (h ▸ h2)
    rw [Array.getElem?_eq_getElem h2] at hg
    rw [m.tmps_get]
    exact (Option.some.inj hg).symm
theorem MA.put_act (m : MA) (d : Option Tmp) (v : Value) : (m.put d v).act = m.act.put d v := by
  cases d with
  | none => rfl
  | some d =>
    cases hb : Nat.ble (d + 1) m.n with
    | true =>
      have hd : d < m.n := Nat.le_of_ble_eq_true hb
      have e : m.put (some d) v = ⟨m.n, setV (hV m.n) m.t d v, m.defers⟩ := by unfold MA.put; simp only [hb]
      rw [e]
      show Act.mk _ _ = Act.mk (m.tmps.setIfInBounds d v) _
      congr 1
      refine MA.tmps_ext (m := ⟨m.n, setV (hV m.n) m.t d v, m.defers⟩) (by rw [Array.size_setIfInBounds]; exact m.tmps_size) fun i hi => ?_
      have hi : i < m.n := hi
      rw [MA.get_lt (m := ⟨m.n, setV (hV m.n) m.t d v, m.defers⟩) hi, Array.getElem?_setIfInBounds]
      by_cases c : d = i
      · subst c
        rw [if_pos rfl, if_pos (by rw [m.tmps_size]; exact hd)]
        exact congrArg some (lookV_same _ _ _ _).symm
      · rw [if_neg c, m.tmps_at i hi, MA.get_lt hi]
        exact congrArg some (lookV_other _ _ _ _ _ (Nat.lt_of_lt_of_le hd (Nat.le_of_lt (lt_hV _))) (Nat.lt_of_lt_of_le hi (Nat.le_of_lt (lt_hV _))) c).symm
    | false =>
      have hd := ble_no hb
      have e : m.put (some d) v = m := by unfold MA.put; simp only [hb]
      rw [e]
      show Act.mk _ _ = Act.mk (m.tmps.setIfInBounds d v) _
      congr 1
      refine MA.tmps_ext (by rw [Array.size_setIfInBounds]; exact m.tmps_size) fun i hi => ?_
      rw [Array.getElem?_setIfInBounds, if_neg (fun e => absurd (show (d : Nat) = i from e) (by have : m.n < d + 1 := hd; exact Nat.ne_of_gt (Nat.lt_of_lt_of_le hi (Nat.le_of_lt_succ this))))]
      exact m.tmps_at i hi
theorem MA.getD (m : MA) (i : Nat) : m.act.tmps.getD i undef = m.get i := by
  show m.tmps.getD i undef = _
  rcases Nat.lt_or_ge i m.n with c | c
  · rw [Array.getD, dif_pos (show i < m.tmps.size by rw [m.tmps_size]; exact c)]; exact m.tmps_get _ _
  · rw [MA.get_ge c, Array.getD, dif_neg (show ¬ i < m.tmps.size by rw [m.tmps_size]; omega)]
def MA.eval (m : MA) : Operand → Value
  | .tmp t => m.get t
  | .const v => v
  | .global g => .pointer (some ⟨g, 0, none⟩)
  | .func f => .func (.func f) #[] #[]
theorem MA.eval_act (m : MA) : m.act.eval = m.eval := by
  funext x
  cases x with
  | tmp t => exact m.getD t
  | _ => rfl
def MA.yielded (m : MA) (ops : Array Oper) (j : Nat) : Option Bool := match (ops[j]?).bind (·.dst) with
  | some d => match m.get d with
    | .bool b => some b
    | _ => none
  | none => none
theorem MA.yielded_act (m : MA) (ops : Array Oper) : Go.yielded ops m.act.tmps = m.yielded ops := by
  funext j
  unfold Go.yielded MA.yielded
  cases (ops[j]?).bind (·.dst) with
  | none => rfl
  | some d =>
    simp only [Option.bind_some]
    show (match m.tmps[d]? with | some (.bool b) => some b | _ => none) = _
    rcases Nat.lt_or_ge d m.n with c | c
    · have e : m.tmps[d]? = some (m.get d) := by rw [Array.getElem?_eq_getElem (show d < m.tmps.size by rw [m.tmps_size]; exact c), m.tmps_get]
      rw [e]
      generalize m.get d = v
      cases v <;> rfl
    · have e : m.tmps[d]? = none := Array.getElem?_eq_none (by rw [m.tmps_size]; exact c)
      rw [e, MA.get_ge c]
      rfl
def MA.guardOk (m : MA) (ops : Array Oper) (o : Oper) : Bool := match o.guard with
  | none => true
  | some (g, _) => match (ops[g]?).bind (·.dst) with
    | none => true
    | some d => liveB (m.get d)
def MA.okAll (P : Program) (m : MA) (ops : Array Oper) (o : Oper) : Bool := match o.op.operands.toList.all (okOp P) with
  | true => m.guardOk ops o
  | false => false
theorem MA.okAll_act (m : MA) (ops : Array Oper) (o : Oper) : Mini.okAll P ops o m.act = m.okAll P ops o := by
  unfold Mini.okAll MA.okAll
  cases o.op.operands.toList.all (okOp P) with
  | false => rfl
  | true =>
    rw [Bool.true_and]
    show Mini.guardOk ops o m.act.tmps = m.guardOk ops o
    unfold Mini.guardOk MA.guardOk
    cases o.guard with
    | none => rfl
    | some q =>
      obtain ⟨g, b⟩ := q
      simp only
      cases (ops[g]?).bind (·.dst) with
      | none => rfl
      | some d => simp only; rw [m.getD d]
def fillV (h : Nat) : List Value → Nat → TV → TV
  | [], _, t => t
  | v :: l, i, t => fillV h l (i + 1) (setV h t i v)
theorem fillV_look (h : Nat) : ∀ (l : List Value) (i : Nat) (t : TV) (j : Nat), i + l.length ≤ 2 ^ h → j < 2 ^ h → lookV h (fillV h l i t) j = if i ≤ j ∧ j < i + l.length then l.getD (j - i) undef else lookV h t j
  | [], i, t, j, h1, h2 => by simp only [fillV, List.length_nil]; rw [if_neg (by omega)]
  | v :: l, i, t, j, h1, h2 => by
    simp only [List.length_cons] at h1 ⊢
    simp only [fillV]
    rw [fillV_look h l (i + 1) _ j (by omega) h2]
    by_cases c : j = i
    · subst c
      rw [if_neg (by omega), if_pos (by omega), lookV_same, Nat.sub_self]
      rfl
    · by_cases c2 : i + 1 ≤ j ∧ j < i + 1 + l.length
      · rw [if_pos c2, if_pos (by omega), show j - i = (j - (i + 1)) + 1 from by omega]
        rfl
      · rw [if_neg c2, if_neg (by omega)]
        exact lookV_other h _ _ _ _ (by omega) h2 (fun e => c e.symm)
def MA.ofL (n : Nat) (l : List Value) (ds : List Deferred) : MA := ⟨n, fillV (hV n) l 0 .leaf, ds⟩
theorem MA.ofL_get (n : Nat) (l : List Value) (ds : List Deferred) (h : l.length ≤ n) (i : Nat) (hi : i < n) : (MA.ofL n l ds).get i = l.getD i undef := by
  have hn := lt_hV n
  rw [MA.get_lt (m := MA.ofL n l ds) hi]
  show lookV (hV n) (fillV (hV n) l 0 .leaf) i = _
  rw [fillV_look (hV n) l 0 .leaf i (by omega) (by omega)]
  by_cases c : i < l.length
  · rw [if_pos ⟨Nat.zero_le _, by omega⟩]; rfl
  · rw [if_neg (by omega), lookV_leaf]
    simp [List.getD, List.getElem?_eq_none (Nat.le_of_not_lt c)]
def forced {α : Sort _} (n : Nat) (f : Nat → α) : α := match n with
  | 0 => f 0
  | k + 1 => f (k + 1)
theorem forced_eq {α : Sort _} (n : Nat) (f : Nat → α) : forced n f = f n := by cases n <;> rfl
def startM (fn : Func) (args : Array Value) : MA := forced (args.toList.length + (fn.ntmps - args.toList.length)) fun n => MA.ofL n args.toList []
theorem startM_act (fn : Func) (args : Array Value) : (startM fn args).act = startA fn args := by
  unfold startM
  rw [forced_eq]
  show Act.mk _ _ = Act.mk (args ++ Array.replicate (fn.ntmps - args.size) undef) _
  congr 1
  refine MA.tmps_ext (by simp [MA.ofL]) fun i hi => ?_
  have hi : i < args.toList.length + (fn.ntmps - args.toList.length) := hi
  rw [MA.ofL_get _ _ _ (by omega) _ hi, Array.getElem?_append]
  by_cases c : i < args.size
  · rw [if_pos c]; simp [List.getD, c]
  · rw [if_neg c]
    have : i - args.size < fn.ntmps - args.size := by simp at hi; omega
    simp [List.getD, c, this]
def MA.ofA (t : Array Value) (ds : List Deferred) : MA := forced t.toList.length fun n => MA.ofL n t.toList ds
theorem MA.ofA_act (t : Array Value) (ds : List Deferred) : (MA.ofA t ds).act = ⟨t, ds⟩ := by
  unfold MA.ofA
  rw [forced_eq]
  show Act.mk _ _ = Act.mk _ _
  congr 1
  refine MA.tmps_ext (by simp [MA.ofL]) fun i hi => ?_
  have hi : i < t.toList.length := hi
  have h2 : i < t.size := by simpa using hi
  rw [MA.ofL_get _ _ _ (Nat.le_refl _) _ hi]
  simp [List.getD, h2]
def resultG (P : Program) (s : St) (g : Nat → Value) : ResultVar → Option (Value × Nat)
  | .tmp t => some (g t, 0)
  | .cell a t => loadM P s t (g a)
def resultsG (P : Program) (s : St) (g : Nat → Value) : List ResultVar → Option (List Value × Nat)
  | [] => some ([], 0)
  | r :: rs => match resultG P s g r, resultsG P s g rs with
    | some (v, R), some (vs, R2) => some (v :: vs, R ||| R2)
    | _, _ => none
theorem resultM_act (m : MA) (r : ResultVar) : resultM P s m.act.tmps r = resultG P s m.get r := by
  cases r with
  | tmp t => simp only [resultM, resultG]; rw [m.getD]
  | cell a t => simp only [resultM, resultG]; rw [m.getD]
theorem resultsL_act (m : MA) : ∀ rs, resultsL P s m.act.tmps rs = resultsG P s m.get rs
  | [] => rfl
  | r :: rs => by
    simp only [resultsL, resultsG]
    rw [resultM_act, resultsL_act m rs]
    cases resultG P s m.get r <;> cases resultsG P s m.get rs <;> rfl
end Mini
end Go.Proofs.YtbkpnhbcihcgaaaGreatDoor
end
section
namespace Go.Proofs.YtbkpnhbcihcgaaaGreatDoor
set_option linter.all false
open Go.RowKit
namespace Mini
variable {P : Program} {rd : Option Nat} {a a1 a2 : Act} {s s1 s2 : St} {e : Exit} {R W R1 W1 R2 W2 : Nat}

def Tseq (T1 T2 : Tr) : Tr := fun F n Q a w => T1 F n (Exit.then (T2 F n Q) Q) a w
theorem Snd.seq {T1 T2 : Tr} (h : Snd P rd T1 a s .normal a1 s1 R1 W1) (g : Snd P rd T2 a1 s1 e a2 s2 R2 W2) : Snd P rd (Tseq T1 T2) a s e a2 s2 (R1 ||| R2) (W1 ||| W2) :=
  Snd.bind (fun _ _ _ _ _ h => h) h g
theorem Snd.bindE {T1 T2 T : Tr} {e0 : Exit} (hT : ∀ F n Q a w, T1 F n (fun x b v => x = e0 ∧ T2 F n Q b v) a w → T F n Q a w)
    (h : Snd P rd T1 a s e0 a1 s1 R1 W1) (g : Snd P rd T2 a1 s1 e a2 s2 R2 W2) : Snd P rd T a s e a2 s2 (R1 ||| R2) (W1 ||| W2) := by
  obtain ⟨hS, h⟩ := h
  obtain ⟨gS, g⟩ := g
  refine ⟨hS.trans gS, fun n ro ρ C a' w Q hp ha hQ => hT _ _ _ _ _ ?_⟩
  refine h n ro ρ C a' w _ (hp.left gS) ha fun ρ1 a1' w1 p1 r1 ha1 => ⟨rfl, ?_⟩
  refine g n ro ρ1 _ a1' w1 Q (hp.right hS gS p1 r1) ha1 fun ρ2 a2' w2 p2 r2 ha2 => ?_
  refine hQ ρ2 a2' w2 (p1.trans hS gS (fun b k1 k2 => (hp.free b k1 (Nat.lt_of_lt_of_le k2 gS.1)).1) p2) ?_ ha2
  rw [upd_trans C hS gS] at r2
  exact r2
theorem Snd.tr {T1 T : Tr} (hT : ∀ F n Q a w, T1 F n Q a w → T F n Q a w) (h : Snd P rd T1 a s e a1 s1 R W) : Snd P rd T a s e a1 s1 R W :=
  ⟨h.1, fun n ro ρ C a' w Q hp ha hQ => hT _ _ _ _ _ (h.2 n ro ρ C a' w Q hp ha hQ)⟩
theorem ro_none {ρ : Ren} {ro : Option Nat} (h : RoR ρ none ro) : ro = none := by cases ro with
  | none => rfl
  | some l => exact h.elim

def Tnm : Tr := fun F n Q a w => F.round = none ∧ Q .normal ⟨a.tmps, mark w.heap.size :: a.defers⟩ (w.alloc (.deferred (some [])))
theorem snd_nm : Snd P none Tnm a s .normal ⟨a.tmps, mark s.next :: a.defers⟩ (s.push .marks) 0 0 :=
  ⟨stat_push s _, fun n ro ρ C a' w Q hp ha hQ => by
    obtain rfl := ro_none hp.round
    obtain ⟨p1, r1, hs⟩ := step_new (o' := .deferred (some [])) (L := ⟨w.heap.size, 0, false, 0, 0⟩) hp rfl (by simp [OR])
    exact ⟨rfl, hQ _ _ _ p1 r1 ⟨ha.tmps.mono p1.sub, ⟨⟨s.next, _, rfl, hs, rfl⟩, ha.defs.mono p1.sub⟩⟩⟩⟩

theorem yield_inv {ρ : Ren} {l : Nat} {v : Value} (h : VR ρ (.func (.yield l) #[] #[]) v) : ∃ L, ρ l = some L ∧ v = .func (.yield L.blk) #[] #[] := by
  cases h with
  | func fn azz bs as' bs' hf => simp [plainFn] at hf
  | yield l L h => exact ⟨L, h, rfl⟩
theorem vrs_push {ρ : Ren} {cs cs' : Array Value} {v v' : Value} (h : VRs ρ cs cs') (hv : VR ρ v v') : VRs ρ (cs.push v) (cs'.push v') := by
  refine ⟨by simp [h.1], fun i x x' e1 e2 => ?_⟩
  rw [Array.getElem?_push] at e1 e2
  rw [← h.1] at e2
  by_cases c : i = cs.size
  · rw [if_pos c] at e1 e2; cases e1; cases e2; exact hv
  · rw [if_neg c] at e1 e2; exact h.2 i x x' e1 e2
theorem vrs_pop {ρ : Ren} {cs t : Array Value} {v : Value} (h : VRs ρ (cs.push v) t) : ∃ cs' v', t = cs'.push v' ∧ VRs ρ cs cs' ∧ VR ρ v v' := by
  have hsz := h.1
  simp only [Array.size_push] at hsz
  have hlt : cs.size < t.size := by omega
  refine ⟨t.pop, t[cs.size], ?_, ⟨by simp; omega, fun i x x' e1 e2 => ?_⟩, h.2 cs.size _ _ (by simp) (Array.getElem?_eq_getElem hlt)⟩
  · apply Array.ext
    · simp; omega
    · intro i h1 h2
      rw [Array.getElem_push]
      split
      · simp
      · rename_i hc
        have : i = cs.size := by simp at hc h2; omega
        subst this; rfl
  · have h1 : i < cs.size := (Array.getElem?_eq_some_iff.1 e1).1
    refine h.2 i x x' ?_ ?_
    · rw [Array.getElem?_push, if_neg (by omega)]; exact e1
    · rw [Array.getElem?_pop] at e2
      split at e2
      · exact e2
      · cases e2

def Tnl (ps : Array Tmp) (azz b : Code) : Tr := fun F n Q a w => ∃ r ds, a.defers = mark r :: ds ∧
  ∀ fn, Q .normal ⟨a.tmps.push (.func (.yield w.heap.size) #[] #[]), a.defers⟩ (w.alloc (.loop { state := .ready, pending := none, fn, tmps := a.tmps, params := ps, assign := azz, body := b, defers := r }))
def recOf (tm : Array Value) (ps : Array Tmp) (azz b : Code) (m : Nat) : Loop := { state := .ready, pending := none, fn := 0, tmps := tm, params := ps, assign := azz, body := b, defers := m }
theorem snd_nl {ps : Array Tmp} {azz b : Code} {m : Nat} {tm : Array Value} {ds : List Deferred} : Snd P rd (Tnl ps azz b) ⟨tm, mark m :: ds⟩ s .normal ⟨tm.push (.func (.yield s.next) #[] #[]), mark m :: ds⟩ (s.push (.loop (recOf tm ps azz b m))) 0 0 :=
  ⟨stat_push s _, fun n ro ρ C a' w Q hp ha hQ => by
    have hd := ha.defs
    obtain ⟨tm', ds'⟩ := a'
    cases ds' with
    | nil => exact hd.elim
    | cons d ds' =>
      obtain ⟨⟨r, L, e1, e2, rfl⟩, hds⟩ := hd
      cases e1
      refine ⟨L.blk, ds', rfl, fun fn => ?_⟩
      obtain ⟨p1, r1, hs⟩ := step_new (o' := .loop { state := .ready, pending := none, fn, tmps := tm', params := ps, assign := azz, body := b, defers := L.blk }) (L := ⟨w.heap.size, 0, false, 0, 0⟩) hp rfl
        (show OR ρ _ (.loop (recOf tm ps azz b m)) _ from ⟨rfl, rfl, ha.tmps, rfl, rfl, rfl, L, e2, rfl⟩)
      exact hQ _ _ _ p1 r1 ⟨vrs_push (ha.tmps.mono p1.sub) (.yield _ _ hs), ⟨⟨m, L, rfl, p1.sub _ _ e2, rfl⟩, hds.mono p1.sub⟩⟩⟩
def TnlI (ps : Array Tmp) (azz b : Code) : Tr := fun F n Q a w => ∃ l0 r0, F.round = some l0 ∧ w.heap[l0]? = some (.loop r0) ∧
  ∀ fn, Q .normal ⟨a.tmps.push (.func (.yield w.heap.size) #[] #[]), a.defers⟩ (w.alloc (.loop { state := .ready, pending := none, fn, tmps := a.tmps, params := ps, assign := azz, body := b, defers := r0.defers }))
theorem loop_of {ρ : Ren} {C : Nat → MObj} {w : World} {l : Nat} {r : Loop} (hr : WRel ρ C w) (hC : C l = .loop r) : ∃ L r', ρ l = some L ∧ w.heap[L.blk]? = some (.loop r') ∧ OR ρ L (.loop r) (.loop r') := by
  obtain ⟨L, o', h1, h2, h3⟩ := hr.1 l (by rw [hC]; simp)
  rw [hC] at h3
  cases o' with
  | loop r' => exact ⟨L, r', h1, h2, h3⟩
  | _ => simp [OR] at h3
theorem snd_nlI {ps : Array Tmp} {azz b : Code} {l0 : Nat} {r0 : Loop} {tm : Array Value} {ds : List Deferred} (h0 : s.get l0 = .loop r0) : Snd P (some l0) (TnlI ps azz b) ⟨tm, ds⟩ s .normal ⟨tm.push (.func (.yield s.next) #[] #[]), ds⟩ (s.push (.loop (recOf tm ps azz b r0.defers))) (2 ^ l0) 0 :=
  ⟨stat_push s _, fun n ro ρ C a' w Q hp ha hQ => by
    have hro := hp.round
    cases ro with
    | none => exact hro.elim
    | some l' =>
      obtain ⟨L, e1, rfl⟩ := hro
      have hC := hp.agree l0 (by rw [or_bit, bit_self]; rfl) (St.lt_of_live (by rw [h0]; simp))
      obtain ⟨L2, r', g1, g2, g3⟩ := loop_of hp.rel (hC.trans h0)
      rw [e1] at g1
      cases g1
      obtain ⟨k1, k2, k3, k4, k5, k6, Lm, k7, k8⟩ := g3
      refine ⟨L.blk, r', rfl, g2, fun fn => ?_⟩
      obtain ⟨p1, r1, hs⟩ := step_new (o' := .loop { state := .ready, pending := none, fn, tmps := a'.tmps, params := ps, assign := azz, body := b, defers := r'.defers }) (L := ⟨w.heap.size, 0, false, 0, 0⟩) hp rfl
        (show OR ρ _ (.loop (recOf tm ps azz b r0.defers)) _ from ⟨rfl, rfl, ha.tmps, rfl, rfl, rfl, Lm, k7, k8⟩)
      exact hQ _ _ _ p1 r1 ⟨vrs_push (ha.tmps.mono p1.sub) (.yield _ _ hs), ha.defs.mono p1.sub⟩⟩

def Tcall (P : Program) (g : Operand) : Tr := fun F n Q a w => (∀ f, F.fn f) ∧ (F.depth.isSome = true → 1 ≤ n) ∧ ∃ tm l d w1 f args w2, a.tmps = tm.push (.func (.yield l) #[] #[]) ∧
  (resolve (⟨tm, a.defers⟩ : Act).eval (rangeCall g l) 0).run P w = .ok d w1 ∧ (invoke d.target d.args).run P w1 = .ok (.enter f args) w2 ∧ CallsIn F (n - 1) P f args w2 (fun e w3 => (∃ v, e = .returned v) ∧ Q .normal a w3)
theorem snd_rcall {g : Operand} {tm : Array Value} {ds : List Deferred} {l : Nat} {f : FuncId} {fn : Func} {azz bs : Array Value} {v : Value} (hg : okOp P g = true) (hx : (⟨tm, ds⟩ : Act).eval g = .func (.func f) azz bs) (hf : P.funcs[f]? = some fn) (hb : fn.body.isSome = true)
    (hn : (fn.name == "runtime.NumGoroutine") = false) (hF : SndF P f (azz ++ #[.func (.yield l) #[] #[]] ++ bs) s v s1 R W) :
    Snd P rd (Tcall P g) ⟨tm.push (.func (.yield l) #[] #[]), ds⟩ s .normal ⟨tm.push (.func (.yield l) #[] #[]), ds⟩ s1 R W := by
  refine ⟨hF.1, fun n ro ρ C a' w Q hp ha hQ => ?_⟩
  obtain ⟨t', ds'⟩ := a'
  obtain ⟨tm', y', rfl, htm, hy⟩ := vrs_pop ha.tmps
  obtain ⟨L, hl, rfl⟩ := yield_inv hy
  have h1 := okOp_vr (a := ⟨tm, ds⟩) (a' := ⟨tm', ds'⟩) hp.glob htm hg
  rw [hx] at h1
  generalize he : (⟨tm', ds'⟩ : Act).eval g = z at h1
  cases h1 with
  | func fn' as' bs' as2 bs2 hpf e1 e2 e3 e4 =>
    have hb' : fn.body.isNone = false := by cases hbb : fn.body <;> simp_all
    have hargs : VRs ρ #[.func (.yield l) #[] #[]] #[.func (.yield L.blk) #[] #[]] := ⟨rfl, fun i v v' g1 g2 => by
      match i, g1, g2 with
      | 0, g1, g2 => simp at g1 g2; subst g1 g2; exact .yield _ _ hl
      | i + 1, g1, g2 => simp at g1⟩
    refine ⟨Fw_fn ro, fun h => by simp [Fw, Fence.wide] at h, tm', L.blk, { target := .fn (.func f) bs2, args := as2 ++ #[.func (.yield L.blk) #[] #[]] }, w, f, as2 ++ #[.func (.yield L.blk) #[] #[]] ++ bs2, w, rfl, ?_, ?_, ?_⟩
    · have he' : (⟨tm', ds'⟩ : Act).eval g = .func (.func f) as2 bs2 := he
      simp only [resolve, rangeCall, he', Deferred.ofValue]
      simp [Act.eval, Sem.run_pure]
    · simp only [invoke, callFunc, Sem.run_bind, Sem.run_pure, Result.andThen_ok, run_program, hf, hn, Bool.false_eq_true, if_false, hb']
    · refine hF.2 (n - 1) ρ C _ w _ ⟨hp.glob, trivial, hp.agree, hp.free, hp.rel⟩ (vrs_append (vrs_append ⟨e1, e3⟩ hargs) ⟨e2, e4⟩) fun ρ1 v' w1 p1 r1 h2 => ⟨⟨v', rfl⟩, ?_⟩
      exact hQ ρ1 _ w1 p1 r1 ⟨ha.tmps.mono p1.sub, ha.defs.mono p1.sub⟩

def jumpOk : Option Code → Bool
  | none | some .ret | some (.exit _) | some (.goto _) => true
  | _ => false
def exitOf : Option Code → Exit
  | some .ret => .ret
  | some (.exit i) => .exit i
  | some (.goto l) => .goto l
  | _ => .normal
def Tend (P : Program) : Tr := fun F n Q a w => ∃ tm l jump w4, a.tmps = tm.push (.func (.yield l) #[] #[]) ∧ (Instr.endLoop l).run P w = .ok jump w4 ∧ jumpOk jump = true ∧ Q (exitOf jump) ⟨tm, a.defers⟩ w4
theorem putObj_one (w : World) (k : Nat) (o : Obj) : OneOff w k (w.putObj k o) := ⟨by simp, fun x hx => World.putObj_heap_other hx, rfl, rfl, rfl⟩
theorem step_rec {ro : Option Nat} {ρ : Ren} {C : Nat → MObj} {w : World} {l : Nat} {r r1 : Loop} (hp : Pre P rd s (s.put l (.loop r1)) R (2 ^ l) ro ρ C w) (hl : s.get l = .loop r) (h1 : r1.tmps = r.tmps ∧ r1.params = r.params ∧ r1.assign = r.assign ∧ r1.body = r.body ∧ r1.defers = r.defers) :
    ∃ L r', ρ l = some L ∧ w.heap[L.blk]? = some (.loop r') ∧ r'.state = r.state ∧ r'.pending = r.pending ∧
      ∀ st pe, r1.state = st → r1.pending = pe → Post ρ s (s.put l (.loop r1)) (2 ^ l) w ρ (w.putObj L.blk (.loop { r' with state := st, pending := pe })) ∧ WRel ρ (upd C s (s.put l (.loop r1)) (2 ^ l)) (w.putObj L.blk (.loop { r' with state := st, pending := pe })) := by
  have hbl : s.get l ≠ .hole := by rw [hl]; simp
  have hC := hp.agree l (by rw [or_bit, bit_self]; simp) (St.lt_of_live hbl)
  obtain ⟨L, r', g1, g2, g3⟩ := loop_of hp.rel (hC.trans hl)
  obtain ⟨k1, k2, k3, k4, k5, k6, Lm, k7, k8⟩ := g3
  refine ⟨L, r', g1, g2, k1, k2, fun st pe e1 e2 => ?_⟩
  subst e1 e2
  obtain ⟨m1, m2, m3, m4, m5⟩ := h1
  have hlt : L.blk < w.heap.size := (Array.getElem?_eq_some_iff.1 g2).1
  exact step_put (o' := .loop r') hp hbl (by rw [hl]; rfl) g1 (putObj_one w _ _) (World.putObj_heap_same hlt) (show OR ρ L (.loop r1) _ from ⟨rfl, rfl, by rw [m1]; exact k3, by rw [m2]; exact k4, by rw [m3]; exact k5, by rw [m4]; exact k6, Lm, by rw [m5]; exact k7, k8⟩)
theorem snd_end {tm : Array Value} {ds : List Deferred} {l : Nat} {r : Loop} (hl : s.get l = .loop r) (hb : r.state ≠ .busy) (hj : jumpOk r.pending = true) :
    Snd P rd (Tend P) ⟨tm.push (.func (.yield l) #[] #[]), ds⟩ s (exitOf r.pending) ⟨tm, ds⟩ (s.put l (.loop { r with state := .exhausted })) 0 (2 ^ l) := by
  have hbl : s.get l ≠ .hole := by rw [hl]; simp
  refine ⟨stat_put hbl _, fun n ro ρ C a' w Q hp ha hQ => ?_⟩
  obtain ⟨t', ds'⟩ := a'
  obtain ⟨tm', y', rfl, htm, hy⟩ := vrs_pop ha.tmps
  obtain ⟨L, hL, rfl⟩ := yield_inv hy
  obtain ⟨L2, r', g1, g2, g3, g4, g5⟩ := step_rec hp hl ⟨rfl, rfl, rfl, rfl, rfl⟩
  rw [hL] at g1
  cases g1
  obtain ⟨p1, r1⟩ := g5 .exhausted r'.pending rfl g4.symm
  refine ⟨tm', L.blk, r'.pending, _, rfl, run_endLoop g2 (by rw [g3]; exact hb), by rw [g4]; exact hj, ?_⟩
  rw [g4]
  rw [g4] at p1 r1
  have := hQ ρ ⟨tm', ds'⟩ _ p1 r1 ⟨htm, ha.defs⟩
  have e0 : r'.pending = r.pending := g4
  rw [← e0] at this ⊢
  exact this

theorem push_inj {x y : Array Value} {v u : Value} (h : x.push v = y.push u) : x = y ∧ v = u := by
  have h1 := congrArg Array.toList h
  simp only [Array.toList_push] at h1
  have := List.append_inj' h1 rfl
  exact ⟨Array.ext' this.1, by simpa using this.2⟩
theorem jump_wp {F : Fence} {n : Nat} {Q : Exit → Act → World → Prop} {a : Act} {w : World} {jump : Option Code} (hj : jumpOk jump = true) (h : Q (exitOf jump) a w) :
    (jump = none → Q .normal a w) ∧ ∀ c, jump = some c → c.wpIn F n P Q a w := by
  refine ⟨fun e => by subst e; exact h, fun c e => ?_⟩
  subst e
  cases c with
  | ret => exact wpIn_ret h
  | exit i => exact wpIn_exit h
  | goto l => exact wpIn_goto h
  | _ => simp [jumpOk] at hj
theorem rangeFunc_outer {g : Operand} {ps : Array Tmp} {azz b : Code} (F : Fence) (n : Nat) (Q : Exit → Act → World → Prop) (a : Act) (w : World) (h : Tseq Tnm (Tseq (Tnl ps azz b) (Tseq (Tcall P g) (Tend P))) F n Q a w) : (Code.rangeFunc g ps azz b).wpIn F n P Q a w := by
  obtain ⟨hro, r, ds, e1, h⟩ := h
  refine wpIn_rangeFunc fun fn _ => ?_
  obtain ⟨hw, hd, tm, l, d, w1, f, args, w2, e2, h1, h2, h3⟩ := h fn
  obtain ⟨rfl, e3⟩ := push_inj e2
  cases e3
  cases e1
  refine ⟨_, [mark w.heap.size], _, d, w1, f, args, w2, by rw [hro]; exact run_enterLoop_outer fn a.tmps ps azz b, ?_, fun f' _ => hw f', h2, hd, h3.mono fun e w3 hq => ?_⟩
  · have he : (⟨a.tmps, mark w.heap.size :: a.defers⟩ : Act).eval = a.eval := by funext x; cases x <;> rfl
    simp only [he] at h1
    simpa using h1
  · obtain ⟨⟨v, rfl⟩, tm', l', jump, w4, e4, h4, hj, hq⟩ := hq
    obtain ⟨rfl, e5⟩ := push_inj e4
    cases e5
    refine ⟨jump, w4, by simpa using h4, ?_⟩
    have hk := jump_wp (P := P) (F := F) (n := n) hj hq
    cases jump with
    | none => exact hk.1 rfl
    | some c => exact hk.2 c rfl
theorem rangeFunc_inner {g : Operand} {ps : Array Tmp} {azz b : Code} (F : Fence) (n : Nat) (Q : Exit → Act → World → Prop) (a : Act) (w : World) (h : Tseq (TnlI ps azz b) (Tseq (Tcall P g) (Tend P)) F n Q a w) : (Code.rangeFunc g ps azz b).wpIn F n P Q a w := by
  obtain ⟨l0, r0, hro, h0, h⟩ := h
  refine wpIn_rangeFunc fun fn _ => ?_
  obtain ⟨hw, hd, tm, l, d, w1, f, args, w2, e2, h1, h2, h3⟩ := h fn
  obtain ⟨rfl, e3⟩ := push_inj e2
  cases e3
  refine ⟨_, [], _, d, w1, f, args, w2, by rw [hro]; exact run_enterLoop_inner h0 fn a.tmps ps azz b, h1, fun f' _ => hw f', h2, hd, h3.mono fun e w3 hq => ?_⟩
  obtain ⟨⟨v, rfl⟩, tm', l', jump, w4, e4, h4, hj, hq⟩ := hq
  obtain ⟨rfl, e5⟩ := push_inj e4
  cases e5
  refine ⟨jump, w4, h4, ?_⟩
  have hk := jump_wp (P := P) (F := F) (n := n) hj hq
  cases jump with
  | none => exact hk.1 rfl
  | some c => exact hk.2 c rfl
theorem sndC_rangeFunc {g : Operand} {ps : Array Tmp} {azz b : Code} {f : FuncId} {fn : Func} {xs ys : Array Value} {v : Value} {r : Loop} (hg : okOp P g = true) (hx : a.eval g = .func (.func f) xs ys) (hf : P.funcs[f]? = some fn) (hb : fn.body.isSome = true)
    (hn : (fn.name == "runtime.NumGoroutine") = false) (hF : SndF P f (xs ++ #[.func (.yield (s.next + 1)) #[] #[]] ++ ys) ((s.push .marks).push (.loop (recOf a.tmps ps azz b s.next))) v s1 R W)
    (hl : s1.get (s.next + 1) = .loop r) (hst : r.state ≠ .busy) (hj : jumpOk r.pending = true) :
    SndC P none (.rangeFunc g ps azz b) a s (exitOf r.pending) ⟨a.tmps, mark s.next :: a.defers⟩ (s1.put (s.next + 1) (.loop { r with state := .exhausted })) (0 ||| (0 ||| (R ||| 0))) (0 ||| (0 ||| (W ||| 2 ^ (s.next + 1)))) :=
  Snd.tr (fun F n Q a w h => rangeFunc_outer F n Q a w h) (snd_nm.seq (snd_nl.seq ((snd_rcall (tm := a.tmps) (ds := mark s.next :: a.defers) (l := s.next + 1) hg hx hf hb hn hF).seq (snd_end hl hst hj))))
theorem sndC_rangeFuncI {g : Operand} {ps : Array Tmp} {azz b : Code} {f : FuncId} {fn : Func} {xs ys : Array Value} {v : Value} {l0 : Nat} {r0 r : Loop} (h0 : s.get l0 = .loop r0) (hg : okOp P g = true) (hx : a.eval g = .func (.func f) xs ys) (hf : P.funcs[f]? = some fn) (hb : fn.body.isSome = true)
    (hn : (fn.name == "runtime.NumGoroutine") = false) (hF : SndF P f (xs ++ #[.func (.yield s.next) #[] #[]] ++ ys) (s.push (.loop (recOf a.tmps ps azz b r0.defers))) v s1 R W)
    (hl : s1.get s.next = .loop r) (hst : r.state ≠ .busy) (hj : jumpOk r.pending = true) :
    SndC P (some l0) (.rangeFunc g ps azz b) a s (exitOf r.pending) a (s1.put s.next (.loop { r with state := .exhausted })) (2 ^ l0 ||| (R ||| 0)) (0 ||| (W ||| 2 ^ s.next)) :=
  Snd.tr (fun F n Q a w h => rangeFunc_inner F n Q a w h) ((snd_nlI h0).seq ((snd_rcall (tm := a.tmps) (ds := a.defers) hg hx hf hb hn hF).seq (snd_end hl hst hj)))

theorem wpIn_mono {c : Code} {F : Fence} {n : Nat} {Q Q' : Exit → Act → World → Prop} {a : Act} {w : World} (h : c.wpIn F n P Q a w) (hq : ∀ e a w, Q e a w → Q' e a w) : c.wpIn F n P Q' a w := by
  intro b k cs hro hb hr
  obtain ⟨e, a', w', h1, h2⟩ := h b k cs hro hb hr
  exact ⟨e, a', w', hq _ _ _ h1, h2⟩
def Tbeg (P : Program) : Tr := fun F n Q a w => ∀ l, F.round = some l → ∃ w2, (Instr.beginRound l).run P w = .ok () w2 ∧ Q .normal a w2
theorem snd_beg {l : Nat} {r : Loop} (hl : s.get l = .loop r) (hst : r.state = .ready) : Snd P (some l) (Tbeg P) a s .normal a (s.put l (.loop { r with state := .busy })) 0 (2 ^ l) := by
  have hbl : s.get l ≠ .hole := by rw [hl]; simp
  refine ⟨stat_put hbl _, fun n ro ρ C a' w Q hp ha hQ l' hro => ?_⟩
  have hr := hp.round
  obtain rfl : ro = some l' := hro
  obtain ⟨L, hL, rfl⟩ := hr
  obtain ⟨L2, r', g1, g2, g3, g4, g5⟩ := step_rec hp hl ⟨rfl, rfl, rfl, rfl, rfl⟩
  rw [hL] at g1
  cases g1
  obtain ⟨p1, r1⟩ := g5 .busy r'.pending rfl g4.symm
  exact ⟨_, run_beginRound g2 (by rw [g3]; exact hst), hQ ρ a' _ p1 r1 ha⟩
def roundJump : Exit → Option (Option Code)
  | .normal => some none
  | .ret => some (some .ret)
  | .exit i => some (some (.exit i))
  | .goto l => some (some (.goto l))
  | _ => none
def Tfin (P : Program) (jump : Option Code) : Tr := fun F n Q a w => ∀ l, F.round = some l → ∃ w2, (Instr.endRound l jump).run P w = .ok (.bool jump.isNone) w2 ∧ Q .normal ⟨#[.bool jump.isNone], []⟩ w2
theorem snd_fin {l : Nat} {r : Loop} {jump : Option Code} (hl : s.get l = .loop r) : Snd P (some l) (Tfin P jump) a s .normal ⟨#[.bool jump.isNone], []⟩ (s.put l (.loop { r with state := if jump.isNone then .ready else .done, pending := jump })) 0 (2 ^ l) := by
  have hbl : s.get l ≠ .hole := by rw [hl]; simp
  refine ⟨stat_put hbl _, fun n ro ρ C a' w Q hp ha hQ l' hro => ?_⟩
  have hr := hp.round
  obtain rfl : ro = some l' := hro
  obtain ⟨L, hL, rfl⟩ := hr
  obtain ⟨L2, r', g1, g2, g3, g4, g5⟩ := step_rec hp hl ⟨rfl, rfl, rfl, rfl, rfl⟩
  rw [hL] at g1
  cases g1
  obtain ⟨p1, r1⟩ := g5 _ _ rfl rfl
  refine ⟨_, run_endRound jump g2, hQ ρ _ _ p1 r1 ⟨⟨rfl, fun i v v' e1 e2 => ?_⟩, trivial⟩⟩
  rw [e1] at e2
  cases e2
  match i, e1 with
  | 0, e1 => simp at e1; subst e1; exact .bool _
  | i + 1, e1 => simp at e1
def Tbody (P : Program) (body : Code) (e : Exit) (jump : Option Code) : Tr := fun F n Q a w => body.wpIn F n P (fun x b v => x = e ∧ Tfin P jump F n Q b v) a w
def Tround (P : Program) (azz body : Code) (e : Exit) (jump : Option Code) : Tr := Tseq (TC P azz) (Tseq (Tbeg P) (Tbody P body e jump))
def setArgs (ps : Array Tmp) (args tm : Array Value) : Array Value := (ps.zip args).foldl (fun tmps (x : Tmp × Value) => tmps.setIfInBounds x.1 x.2) tm
theorem setArgs_vrs {ρ : Ren} {ps : Array Tmp} {args args' tm tm' : Array Value} (ha : VRs ρ args args') (ht : VRs ρ tm tm') : VRs ρ (setArgs ps args tm) (setArgs ps args' tm') := by
  unfold setArgs
  rw [← Array.foldl_toList, ← Array.foldl_toList, Array.toList_zip, Array.toList_zip]
  have key : ∀ (l : List Tmp) (x y : List Value) (a b : Array Value), x.length = y.length → (∀ (i : Nat) (v v' : Value), x[i]? = some v → y[i]? = some v' → VR ρ v v') → VRs ρ a b →
      VRs ρ ((l.zip x).foldl (fun tmps (x : Tmp × Value) => tmps.setIfInBounds x.1 x.2) a) ((l.zip y).foldl (fun tmps (x : Tmp × Value) => tmps.setIfInBounds x.1 x.2) b) := by
    intro l
    induction l with
    | nil => intro x y a b _ _ h; exact h
    | cons t l ih =>
      intro x y a b hl hv h
      cases x with
      | nil => cases y with
        | nil => exact h
        | cons u y => simp at hl
      | cons v x => cases y with
        | nil => simp at hl
        | cons u y =>
          simp only [List.zip_cons_cons, List.foldl_cons]
          exact ih x y _ _ (by simpa using hl) (fun i v v' e1 e2 => hv (i + 1) v v' (by simpa using e1) (by simpa using e2)) (h.set t (hv 0 v u rfl rfl))
  exact key _ _ _ _ _ (by simpa using ha.1) (fun i v v' e1 e2 => ha.2 i v v' (by simpa using e1) (by simpa using e2)) ht
theorem sndO_yield {o : Oper} {vals : Operand → Value} {c : Call} {x : Operand} {l : Nat} {r rB rE : Loop} {jump : Option Code} (h : o.op = .call c) (hc : c.callee = .value x) (hx : vals x = .func (.yield l) #[] #[]) (hl : s.get l = .loop r)
    (hsz : c.args.size = r.params.size) (h1 : SndC P (some l) r.assign ⟨setArgs r.params (c.args.map vals) r.tmps, []⟩ s .normal a1 s1 R1 W1) (hB : s1.get l = .loop rB) (hst : rB.state = .ready)
    (h2 : SndC P (some l) r.body a1 (s1.put l (.loop { rB with state := .busy })) e a2 s2 R2 W2) (he : roundJump e = some jump) (hE : s2.get l = .loop rE) :
    SndO P rd o vals s (.bool jump.isNone) (s2.put l (.loop { rE with state := if jump.isNone then .ready else .done, pending := jump })) (2 ^ l ||| (R1 ||| (0 ||| (R2 ||| 0)))) (W1 ||| (2 ^ l ||| (W2 ||| 2 ^ l))) := by
  have hT : Snd P (some l) (Tround P r.assign r.body e jump) ⟨setArgs r.params (c.args.map vals) r.tmps, []⟩ s .normal ⟨#[.bool jump.isNone], []⟩ _ _ _ :=
    h1.seq ((snd_beg hB hst).seq (Snd.bindE (T := Tbody P r.body e jump) (fun _ _ _ _ _ h => h) h2 (snd_fin (jump := jump) hE)))
  refine ⟨hT.1, fun n ro ρ C a' w next Q hp hv hQ => ?_⟩
  have hop : o.op.operands = #[x] ++ c.args := by simp [h, Op.operands, Call.operands, hc]
  have hy := hv x (by rw [hop]; simp)
  rw [hx] at hy
  obtain ⟨L, hL, hy⟩ := yield_inv hy
  have hbl : s.get l ≠ .hole := by rw [hl]; simp
  have hC := hp.agree l (by rw [or_bit, or_bit, bit_self]; simp) (St.lt_of_live hbl)
  obtain ⟨L2, r', g1, g2, g3⟩ := loop_of hp.rel (hC.trans hl)
  rw [hL] at g1
  cases g1
  obtain ⟨k1, k2, k3, k4, k5, k6, Lm, k7, k8⟩ := g3
  have hargs : VRs ρ (c.args.map vals) (c.args.map a'.eval) := by
    refine ⟨by simp, fun i v v' g1 g2 => ?_⟩
    simp only [Array.getElem?_map, Option.map_eq_some_iff] at g1 g2
    obtain ⟨y, q1, rfl⟩ := g1
    obtain ⟨y', q2, rfl⟩ := g2
    rw [q1] at q2
    cases q2
    exact hv y (by rw [hop]; simp [Array.mem_of_getElem? q1])
  have hrun : (execOp a'.eval o).run P w = .ok (.round L.blk r'.fn (setArgs r.params (c.args.map a'.eval) r'.tmps) r.assign r.body) w := by
    have hy2 := run_yield (P := P) (args := c.args.map a'.eval) g2 (by simp [hsz, k4])
    rw [k4, k5, k6] at hy2
    simp only [execOp, h, resolve, hc, hy, Deferred.ofValue, Sem.run_bind, Sem.run_pure, Result.andThen_ok, invoke]
    simpa [setArgs] using hy2
  refine ⟨fun g _ => Fw_fn ro g, ?_⟩
  rw [Oper.semAt_eq _ _ _ (fun c => by rw [h]; simp), hrun]
  refine ⟨fun hd => by simp [Fw, Fence.wide] at hd, ?_⟩
  let Q2 : Exit → Act → World → Prop := fun x b v => x = .normal ∧ next (a'.put o.dst (.bool jump.isNone)) v
  have hw := hT.2 (n - 1) (some L.blk) ρ C ⟨setArgs r.params (c.args.map a'.eval) r'.tmps, []⟩ w Q2
    ⟨hp.glob, ⟨L, hL, rfl⟩, fun b hb hlt => hp.agree b (by
      simp only [or_bit, Bool.or_eq_true] at hb ⊢
      rcases hb with k | k
      · exact .inl (.inr k)
      · exact .inr k) hlt, hp.free, hp.rel⟩ ⟨setArgs_vrs hargs k3, trivial⟩ (fun ρ1 a1' w1 p1 r1 ha1 => ?_)
  · refine roundIn_of_wpIn (Fw_fn ro _) (wpIn_mono hw fun e1 b1 v1 hq => ?_)
    cases e1 with
    | normal =>
      obtain ⟨w2, q1, q2⟩ := hq L.blk rfl
      refine ⟨w2, q1, wpIn_mono q2 fun e2 b2 v2 hq2 => ?_⟩
      obtain ⟨rfl, hq2⟩ := hq2
      obtain ⟨w3, z1, z2⟩ := hq2 L.blk rfl
      cases e2 with
      | normal => cases he; exact ⟨_, w3, z1, z2.2⟩
      | ret => cases he; exact ⟨_, w3, z1, z2.2⟩
      | exit i => cases he; exact ⟨_, w3, z1, z2.2⟩
      | goto i => cases he; exact ⟨_, w3, z1, z2.2⟩
      | panic ch => cases he
      | outgrown => cases he
    | _ => exact absurd hq.1 (by simp)
  · exact ⟨rfl, hQ ρ1 (.bool jump.isNone) w1 p1 r1 (.bool _)⟩

def Tleave (P : Program) (fn : Func) : Tr := fun F n Q a w => LeavesInM F n P fn a.tmps (fun en w' => ∃ v', en = .returned v' ∧ Q .normal ⟨#[v'], []⟩ w') a.defers .returning w
def Ttake (P : Program) : Tr := fun F n Q a w => ∃ d ds r w', a.defers = d :: ds ∧ d.target = .collected r ∧ (Instr.takeDeferred r).run P w = .ok [] w' ∧ Q .normal ⟨a.tmps, ds⟩ w'
theorem snd_take {tm : Array Value} {d : Deferred} {ds : List Deferred} {m : Nat} (hd : d.target = .collected m) (hm : s.get m = .marks) : Snd P rd (Ttake P) ⟨tm, d :: ds⟩ s .normal ⟨tm, ds⟩ (s.put m .hole) 0 (2 ^ m) := by
  have hbl : s.get m ≠ .hole := by rw [hm]; simp
  refine ⟨stat_put hbl _, fun n ro ρ C a' w Q hp ha hQ => ?_⟩
  obtain ⟨tm', ds'⟩ := a'
  have hdd := ha.defs
  cases ds' with
  | nil => exact hdd.elim
  | cons d' ds' =>
    obtain ⟨⟨r, L, rfl, e2, rfl⟩, hds⟩ := hdd
    obtain rfl : r = m := by cases hd; rfl
    have hC := hp.agree r (by rw [or_bit, bit_self]; simp) (St.lt_of_live hbl)
    obtain ⟨L2, o', g1, g2, g3⟩ := hp.rel.1 r (by rw [hC]; exact hbl)
    rw [e2] at g1
    cases g1
    rw [hC, hm] at g3
    cases o' with
    | deferred x =>
      have hx : x = some [] := by
        simp only [OR] at g3
        cases x with
        | none => cases g3
        | some l => cases l with
          | nil => rfl
          | cons y ys => simp at g3
      subst hx
      have hlt : L.blk < w.heap.size := (Array.getElem?_eq_some_iff.1 g2).1
      obtain ⟨p1, r1⟩ := step_put (o' := .deferred (some [])) (o := .hole) hp hbl (by rw [hm]; rfl) e2 (putObj_one w _ _) (World.putObj_heap_same (o := .deferred none) hlt) trivial
      exact ⟨_, _, _, _, rfl, rfl, run_takeDeferred g2, hQ ρ ⟨tm', ds'⟩ _ p1 r1 ⟨ha.tmps, hds⟩⟩
    | _ => simp [OR] at g3
def shutM : List Deferred → St → Option (St × Nat)
  | [], s => some (s, 0)
  | d :: ds, s => match d.target with
    | .collected m => match s.get m with
      | .marks => match shutM ds (s.put m .hole) with
        | some (s2, W) => some (s2, 2 ^ m ||| W)
        | none => none
      | _ => none
    | _ => none
theorem snd_leave {fn : Func} {tm : Array Value} {vs : List Value} : ∀ (ds : List Deferred) (s : St) (s2 : St) (W : Nat), shutM ds s = some (s2, W) → resultsL P s2 tm fn.results.toList = some (vs, R) → Snd P rd (Tleave P fn) ⟨tm, ds⟩ s .normal ⟨#[outV vs], []⟩ s2 R W
  | [], s, s2, W, h, hv => by
    cases h
    refine ⟨Stat.refl s, fun n ro ρ C a' w Q hp ha hQ => ?_⟩
    have hd : a'.defers = [] := by
      have := ha.defs
      cases hdd : a'.defers with
      | nil => rfl
      | cons x xs => rw [hdd] at this; exact this.elim
    obtain ⟨v', g1, g2⟩ := results_run ha.tmps hp.rel hv (fun b hb hlt => hp.agree b (by rw [or_bit, hb]; rfl) hlt)
    show LeavesInM (Fw ro) n P fn a'.tmps _ a'.defers .returning w
    rw [hd]
    refine ⟨v', g1, v', rfl, hQ ρ _ w (Post.refl ρ s w) (by rw [upd_zero]; exact hp.rel) ⟨⟨rfl, fun i x x' e1 e2 => ?_⟩, trivial⟩⟩
    match i, e1, e2 with
    | 0, e1, e2 => simp at e1 e2; subst e1 e2; exact g2
    | i + 1, e1, e2 => simp at e1
  | d :: ds, s, s2, W, h, hv => by
    simp only [shutM] at h
    split at h
    · rename_i m hd
      split at h
      · rename_i hm
        split at h
        · rename_i s2' W' h2
          cases h
          have ih := snd_leave ds _ _ _ h2 hv
          have := Snd.bind (T := Tleave P fn) (fun F n Q a w hT => by
            obtain ⟨d, ds, r, w', e1, e2, e3, hq⟩ := hT
            unfold Tleave
            rw [e1]
            exact ⟨by simp, .inl ⟨r, w', e2, e3, hq⟩⟩) (snd_take (P := P) (rd := rd) (tm := tm) (ds := ds) hd hm) ih
          rwa [Nat.zero_or] at this
        · cases h
      · cases h
    · cases h
def TFn (P : Program) (f : FuncId) (fn : Func) : Tr := fun F n Q a w => (∀ g, F.fn g) → F.round = none → ∀ args', a = startA fn args' → CallsIn F n P f args' w (fun en w' => ∃ v', en = .returned v' ∧ Q .normal ⟨#[v'], []⟩ w')
theorem sndF_of_marks {f : FuncId} {fn : Func} {c : Code} {args : Array Value} {vs : List Value} (hf : P.funcs[f]? = some fn) (hb : fn.body = some c) (he : e = .normal ∨ e = .ret)
    (h : SndC P none c (startA fn args) s e a1 s1 R1 W1) (hm : shutM a1.defers s1 = some (s2, W2)) (hv : resultsL P s2 a1.tmps fn.results.toList = some (vs, R2)) : SndF P f args s (outV vs) s2 (R1 ||| R2) (W1 ||| W2) := by
  have hT : Snd P none (TFn P f fn) (startA fn args) s .normal ⟨#[outV vs], []⟩ s2 (R1 ||| R2) (W1 ||| W2) := by
    refine Snd.bindE (T1 := TC P c) (T2 := Tleave P fn) (fun F n Q a w hq hF hro args' ea => ?_) h (snd_leave a1.defers s1 s2 W2 hm hv)
    subst ea
    refine callsIn_of_wp_marks hf hb (hF f) (wpIn_mono hq fun e1 b1 v1 hq1 => ?_) hro
    obtain ⟨rfl, hq1⟩ := hq1
    rcases he with rfl | rfl <;> exact hq1
  refine ⟨hT.1, fun n ρ C args' w Q hp ha hQ => ?_⟩
  have := hT.2 n none ρ C (startA fn args') w (fun x b v => x = .normal ∧ ∃ v', b = ⟨#[v'], []⟩ ∧ Q (.returned v') v) hp (startA_ar ha) fun ρ1 a1' w1 p1 r1 ha1 => ?_
  · exact (this (Fw_fn none) rfl args' rfl).mono fun en w' hq => by
      obtain ⟨v', rfl, -, v2, e2, hq⟩ := hq
      have : v' = v2 := by
        have := congrArg Act.tmps e2
        simpa using this
      subst this
      exact hq
  · obtain ⟨t', d'⟩ := a1'
    have hd : d' = [] := by
      have := ha1.defs
      cases hdd : d' with
      | nil => rfl
      | cons x xs => rw [hdd] at this; exact this.elim
    subst hd
    have hsz : t'.size = 1 := by have := ha1.tmps.1; simpa using this.symm
    refine ⟨rfl, t'[0]'(by omega), ?_, hQ ρ1 _ w1 p1 r1 (ha1.tmps.2 0 _ _ rfl (Array.getElem?_eq_getElem (show 0 < t'.size by omega)))⟩
    congr 1
    apply Array.ext
    · simp [hsz]
    · intro i h1 h2
      have : i = 0 := by simp at h2; omega
      subst this; rfl

theorem wrel_sub {ρ : Ren} {C C2 : Nat → MObj} {w : World} (h : ∀ b, C2 b = .hole ∨ C2 b = C b) (g : WRel ρ C w) : WRel ρ C2 w := by
  have k : ∀ b, C2 b ≠ .hole → C2 b = C b := fun b hb => (h b).resolve_left hb
  refine ⟨fun b hb => ?_, fun b b' L L' h1 h2 hq e1 e2 he => g.2 b b' L L' (k b h1 ▸ h1) (k b' h2 ▸ h2) (by rw [k b h1, k b' h2] at hq; exact hq) e1 e2 he⟩
  have hk := k b hb
  obtain ⟨L, o', a, c, d⟩ := g.1 b (hk ▸ hb)
  exact ⟨L, o', a, c, hk ▸ d⟩
theorem low_bit {W n b : Nat} (h : W % 2 ^ n = 0) (hb : b < n) : W.testBit b = false := by
  have : (W % 2 ^ n).testBit b = false := by rw [h]; simp
  rw [Nat.testBit_mod_two_pow] at this
  simpa [hb] using this
theorem SndF.gc {f : FuncId} {args : Array Value} {v : Value} (h : SndF P f args s v s1 R W) (hW : W % 2 ^ s.next = 0) : SndF P f args s v (s.gc s1) (R % 2 ^ s.next) 0 := by
  have hst := h.1.1
  refine ⟨⟨hst, fun b hb _ => by rw [St.gc_get hst, if_pos hb]⟩, fun n ρ C args' w Q hp ha hQ => ?_⟩
  refine h.2 n ρ C args' w Q ⟨hp.glob, hp.round, fun b hb hlt => hp.agree b ?_ hlt, hp.free, hp.rel⟩ ha fun ρ1 v' w1 p1 r1 hv => hQ ρ1 v' w1 ?_ ?_ hv
  · simp only [or_bit, Bool.or_eq_true] at hb ⊢
    rcases hb with k | k
    · exact .inl (by rw [Nat.testBit_mod_two_pow, k]; simp [hlt])
    · rw [low_bit hW hlt] at k; cases k
  · refine ⟨p1.sub, p1.dom, fun b L h1 h2 => ?_, p1.size, fun x hx _ => p1.frame x hx fun b L hb hlt _ => (by rw [low_bit hW hlt] at hb; cases hb), p1.os, p1.tape, p1.output⟩
    rcases p1.fresh b L h1 h2 with k | ⟨b0, L0, k1, k2, k3, k4⟩
    · exact .inl k
    · rw [low_bit hW k2] at k1; cases k1
  · refine wrel_sub (fun b => ?_) r1
    by_cases c : s.next ≤ b ∧ b < s1.next
    · refine .inl ?_
      rw [show upd C s (s.gc s1) 0 b = (s.gc s1).get b from if_pos (.inl c), St.gc_get hst, if_neg (by omega)]
    · refine .inr ?_
      rw [show upd C s (s.gc s1) 0 b = C b from if_neg (by rintro (k | k); exact c k; simp at k), show upd C s s1 W b = C b from if_neg (by
        rintro (k | k)
        · exact c k
        · rw [low_bit hW k.2] at k; cases k.1)]
def gcO (s : St) (r : Value × St × Nat × Nat) : Value × St × Nat × Nat := match ground 12 r.1 && (r.2.2.2 % 2 ^ s.next == 0) with
  | true => (r.1, s.gc r.2.1, r.2.2.1 % 2 ^ s.next, 0)
  | false => r
theorem gcO_snd {f : FuncId} {args : Array Value} {v : Value} {r : Value × St × Nat × Nat} (h : SndF P f args s r.1 r.2.1 r.2.2.1 r.2.2.2) (he : gcO s r = (v, s1, R, W)) : SndF P f args s v s1 R W := by
  unfold gcO at he
  split at he
  · rename_i hc
    simp only [Bool.and_eq_true, beq_iff_eq] at hc
    cases he
    exact h.gc hc.2
  · cases he
    exact h

theorem get_put_hole {s : St} {b : Nat} (hb : b < s.next) (x : Nat) : (s.put b .hole).get x = if x = b then .hole else s.get x := by
  by_cases e : x = b
  · subst e
    rw [if_pos rfl, St.get_lt (show x < (s.put x .hole).next from hb)]
    exact raw_set_same _ _ _ _ _
  · rw [if_neg e, St.get_put_other s b x _ hb (Ne.symm e)]
theorem lt_of_loop {s : St} {b : Nat} {r : Loop} (h : s.get b = .loop r) : b < s.next := St.lt_of_live (by rw [h]; simp)
theorem Snd.drop {P : Program} {rd : Option Nat} {T : Tr} {a a1 : Act} {e : Exit} {s s1 : St} {R W b : Nat} (h : Snd P rd T a s e a1 s1 R W) (hb : s.next ≤ b) (hb1 : b < s1.next) : Snd P rd T a s e a1 (s1.put b .hole) R W := by
  refine ⟨⟨h.1.1, fun x hx hw => ?_⟩, fun n ro ρ C a' w Q hp ha hQ => ?_⟩
  · rw [get_put_hole hb1, if_neg (by omega)]; exact h.1.2 x hx hw
  · refine h.2 n ro ρ C a' w Q ⟨hp.glob, hp.round, hp.agree, hp.free, hp.rel⟩ ha fun ρ1 a1' w1 p1 r1 ha1 => hQ ρ1 a1' w1 ⟨p1.sub, p1.dom, p1.fresh, p1.size, p1.frame, p1.os, p1.tape, p1.output⟩ ?_ ha1
    have hu : ∀ x, upd C s (s1.put b .hole) W x = if x = b then .hole else upd C s s1 W x := fun x => by
      unfold upd
      by_cases e : x = b
      · rw [if_pos e, if_pos (.inl ⟨by omega, by rw [e]; exact hb1⟩), get_put_hole hb1, if_pos e]
      · rw [if_neg e, get_put_hole hb1, if_neg e]
        rfl
    have hne : ∀ x, upd C s (s1.put b .hole) W x ≠ .hole → upd C s s1 W x ≠ .hole ∧ upd C s (s1.put b .hole) W x = upd C s s1 W x := fun x hx => by
      rw [hu] at hx ⊢
      split at hx
      · exact absurd rfl hx
      · rename_i e; rw [if_neg e]; exact ⟨hx, rfl⟩
    exact ⟨fun x hx => by obtain ⟨h1, h2⟩ := hne x hx; rw [h2]; exact r1.1 x h1, fun x x' L L' h1 h2 hq => r1.2 x x' L L' (hne x h1).1 (hne x' h2).1 (by rw [(hne x h1).2, (hne x' h2).2] at hq; exact hq)⟩
end Mini
end Go.Proofs.YtbkpnhbcihcgaaaGreatDoor
end
section
namespace Go.Proofs.YtbkpnhbcihcgaaaGreatDoor
set_option linter.all false
namespace Mini
variable {P : Program} {rd : Option Nat} {s s1 : St} {R W : Nat}

abbrev YieldF := Nat → Array Value → St → Option Out
def SndY (P : Program) (rd : Option Nat) (l : Nat) (args : Array Value) (s : St) (v : Value) (s1 : St) (R W : Nat) : Prop :=
  ∀ (o : Oper) (c : Call) (vals : Operand → Value) (x : Operand), o.op = .call c → c.callee = .value x → vals x = .func (.yield l) #[] #[] → c.args.map vals = args → SndO P rd o vals s v s1 R W
structure FY where
  f : CallF
  y : YieldF
def evOpY (P : Program) (F : FY) (vals : Operand → Value) (o : Oper) (s : St) : Option Out :=
  match o.op with
  | .call c => match c.callee with
    | .value x => match vals x with
      | .func (.yield l) azz bs => match azz.toList, bs.toList with
        | [], [] => F.y l (c.args.map vals) s
        | _, _ => none
      | _ => evOp P F.f vals o s
    | _ => evOp P F.f vals o s
  | _ => evOp P F.f vals o s
structure FYOk (P : Program) (F : FY) : Prop where
  f : ∀ f azz s v s1 R W, F.f f azz s = some (v, s1, R, W) → SndF P f azz s v s1 R W
  y : ∀ l azz s v s1 R W, F.y l azz s = some (v, s1, R, W) → ∀ rd, SndY P rd l azz s v s1 R W
theorem evOpY_snd {F : FY} {o : Oper} {vals : Operand → Value} {v : Value} (hF : FYOk P F) (h : evOpY P F vals o s = some (v, s1, R, W)) : SndO P rd o vals s v s1 R W := by
  unfold evOpY at h
  split at h
  · rename_i c ho
    split at h
    · rename_i x hc
      split at h
      · rename_i l azz bs hx
        split at h
        · rename_i h1 h2
          have e1 : azz = #[] := by apply Array.ext'; simpa using h1
          have e2 : bs = #[] := by apply Array.ext'; simpa using h2
          subst e1 e2
          exact hF.y _ _ _ _ _ _ _ h rd o c vals x ho hc hx rfl
        · cases h
      · exact evOp_snd hF.f h
    · exact evOp_snd hF.f h
  · exact evOp_snd hF.f h

def FOk (P : Program) (F : CallF) : Prop := ∀ f azz s v s1 R W, F f azz s = some (v, s1, R, W) → SndF P f azz s v s1 R W
abbrev Row := MA × St × Nat × Nat
def stepOne (P : Program) (F : FY) (ops : Array Oper) (o : Oper) (a : MA) (s : St) : Option Row :=
  match a.okAll P ops o with
  | false => none
  | true => match Region.wanted o (a.yielded ops) with
    | true => match evOpY P F a.eval o s with
      | some (v, s1, R, W) => some (a.put o.dst v, s1, R, W)
      | none => none
    | false => some (a.put o.dst undef, s, 0, 0)
def runOps (P : Program) (F : FY) (ops : Array Oper) : List Oper → MA → St → Option (List Row)
  | [], _, _ => some []
  | o :: os, a, s => match stepOne P F ops o a s with
    | some (a1, s1, R, W) => match runOps P F ops os a1 s1 with
      | some rs => some ((a1, s1, R, W) :: rs)
      | none => none
    | none => none
def dRow : Row := (⟨0, .leaf, []⟩, ⟨0, .leaf, []⟩, 0, 0)
def stA (a : MA) (rs : List Row) : Nat → MA
  | 0 => a
  | k + 1 => (rs.getD k dRow).1
def stS (s : St) (rs : List Row) : Nat → St
  | 0 => s
  | k + 1 => (rs.getD k dRow).2.1
def stR (rs : List Row) (k : Nat) : Nat := (rs.getD k dRow).2.2.1
def stW (rs : List Row) (k : Nat) : Nat := (rs.getD k dRow).2.2.2
def lastA : MA → List Row → MA
  | a, [] => a
  | _, r :: rs => lastA r.1 rs
def lastS : St → List Row → St
  | s, [] => s
  | _, r :: rs => lastS r.2.1 rs
def orR : List Row → Nat
  | [] => 0
  | r :: rs => r.2.2.1 ||| orR rs
def orW : List Row → Nat
  | [] => 0
  | r :: rs => r.2.2.2 ||| orW rs

theorem stA_last : ∀ (a : MA) (rs : List Row), stA a rs rs.length = lastA a rs
  | a, [] => rfl
  | a, r :: rs => by
    show ((r :: rs).getD rs.length dRow).1 = lastA r.1 rs
    rw [← stA_last r.1 rs]
    cases rs with
    | nil => rfl
    | cons q qs => rfl
theorem stS_last : ∀ (s : St) (rs : List Row), stS s rs rs.length = lastS s rs
  | s, [] => rfl
  | s, r :: rs => by
    show ((r :: rs).getD rs.length dRow).2.1 = lastS r.2.1 rs
    rw [← stS_last r.2.1 rs]
    cases rs with
    | nil => rfl
    | cons q qs => rfl
theorem orUpto_left (W : Nat → Nat) : ∀ k, orUpto W (k + 1) = W 0 ||| orUpto (fun i => W (i + 1)) k
  | 0 => by simp [orUpto]
  | k + 1 => by
    show orUpto W (k + 1) ||| W (k + 1) = _
    rw [orUpto_left W k, Nat.or_assoc]
    rfl
theorem orUpto_R : ∀ (rs : List Row), orUpto (stR rs) rs.length = orR rs
  | [] => rfl
  | r :: rs => by
    show orUpto (stR (r :: rs)) (rs.length + 1) = _
    rw [orUpto_left]
    show r.2.2.1 ||| orUpto (stR rs) rs.length = _
    rw [orUpto_R rs]; rfl
theorem orUpto_W : ∀ (rs : List Row), orUpto (stW rs) rs.length = orW rs
  | [] => rfl
  | r :: rs => by
    show orUpto (stW (r :: rs)) (rs.length + 1) = _
    rw [orUpto_left]
    show r.2.2.2 ||| orUpto (stW rs) rs.length = _
    rw [orUpto_W rs]; rfl


theorem stepOne_cases {F : FY} {ops : Array Oper} {o : Oper} {a : MA} {r : Row} (hF : FYOk P F) (h : stepOne P F ops o a s = some r) : ∃ v, r.1.act = a.act.put o.dst v ∧ okAll P ops o a.act = true ∧
    ((Region.wanted o (yielded ops a.act.tmps) = true ∧ SndO P rd o a.act.eval s v r.2.1 r.2.2.1 r.2.2.2) ∨ (Region.wanted o (yielded ops a.act.tmps) = false ∧ v = undef ∧ r.2.1 = s ∧ r.2.2.1 = 0 ∧ r.2.2.2 = 0)) := by
  rw [MA.yielded_act, MA.eval_act, MA.okAll_act]
  unfold stepOne at h
  split at h
  · cases h
  · rename_i hok
    split at h
    · rename_i hw
      split at h
      · rename_i v s1 R W he
        cases h
        exact ⟨v, MA.put_act _ _ _, hok, .inl ⟨hw, evOpY_snd hF he⟩⟩
      · cases h
    · rename_i hw
      cases h
      exact ⟨undef, MA.put_act _ _ _, hok, .inr ⟨hw, rfl, rfl, rfl, rfl⟩⟩
theorem runOps_cons {F : FY} {ops : Array Oper} {o : Oper} {os : List Oper} {a : MA} {rs : List Row} (h : runOps P F ops (o :: os) a s = some rs) : ∃ r rs', rs = r :: rs' ∧ stepOne P F ops o a s = some r ∧ runOps P F ops os r.1 r.2.1 = some rs' := by
  simp only [runOps] at h
  split at h
  · rename_i a1 s1 R W h1
    split at h
    · rename_i rs' h2
      cases h
      exact ⟨_, rs', rfl, h1, h2⟩
    · cases h
  · cases h
theorem runOps_len {F : FY} {ops : Array Oper} : ∀ (os : List Oper) (a : MA) (s : St) (rs : List Row), runOps P F ops os a s = some rs → rs.length = os.length
  | [], a, s, rs, h => by cases h; rfl
  | o :: os, a, s, rs, h => by
    obtain ⟨r, rs', rfl, h1, h2⟩ := runOps_cons h
    simp [runOps_len os _ _ _ h2]
theorem runOps_at {F : FY} {ops : Array Oper} : ∀ (os : List Oper) (a : MA) (s : St) (rs : List Row), runOps P F ops os a s = some rs → ∀ k o, os[k]? = some o → stepOne P F ops o (stA a rs k) (stS s rs k) = some (rs.getD k dRow)
  | [], a, s, rs, h, k, o, ho => by simp at ho
  | o' :: os, a, s, rs, h, k, o, ho => by
    obtain ⟨r, rs', rfl, h1, h2⟩ := runOps_cons h
    cases k with
    | zero =>
      simp at ho
      subst ho
      exact h1
    | succ k =>
      have := runOps_at os _ _ _ h2 k o (by simpa using ho)
      have e1 : stA a (r :: rs') (k + 1) = stA r.1 rs' k := by cases k <;> rfl
      have e2 : stS s (r :: rs') (k + 1) = stS r.2.1 rs' k := by cases k <;> rfl
      rw [e1, e2]
      exact this
theorem sq_of {F : FY} {ops : Array Oper} {a : MA} {rs : List Row} (hF : FYOk P F) (h : runOps P F ops ops.toList a s = some rs) : Sq P rd ops (fun k => (stA a rs k).act) (stS s rs) (stR rs) (stW rs) :=
  ⟨fun i hi => by
    have ho : ops[i]? = some ops[i] := Array.getElem?_eq_getElem hi
    have := runOps_at ops.toList a s rs h i ops[i] (by simp [hi])
    obtain ⟨v, h1, h2, h3⟩ := stepOne_cases (rd := rd) hF this
    refine ⟨ops[i], v, ho, h1, h2, ?_⟩
    rcases h3 with ⟨g1, g2⟩ | ⟨g1, g2, g3, g4, g5⟩
    · exact .inl ⟨g1, g2⟩
    · exact .inr ⟨g1, g2, g3, g5⟩⟩
theorem seq_ops {F : FY} {ops : Array Oper} (hF : FYOk P F) : ∀ (os : List Oper) (i : Nat) (a : MA) (s : St) (rs : List Row), runOps P F ops os a s = some rs → (∀ k o, os[k]? = some o → ops[i + k]? = some o) →
    Snd P rd (TOps P ops (List.range' i os.length)) a.act s .normal (lastA a rs).act (lastS s rs) (orR rs) (orW rs)
  | [], i, a, s, rs, h, ho => by cases h; exact snd_ops_nil
  | o :: os, i, a, s, rs, h, ho => by
    obtain ⟨r, rs', rfl, h1, h2⟩ := runOps_cons h
    have ih := seq_ops hF os (i + 1) _ _ _ h2 (fun k o hk => by rw [show i + 1 + k = i + (k + 1) from by omega]; exact ho (k + 1) o (by simpa using hk))
    have hoi : ops[i]? = some o := ho 0 o rfl
    obtain ⟨v, g1, g2, g3⟩ := stepOne_cases (rd := rd) hF h1
    show Snd P rd (TOps P ops (i :: List.range' (i + 1) os.length)) a.act s .normal (lastA r.1 rs').act (lastS r.2.1 rs') (r.2.2.1 ||| orR rs') (r.2.2.2 ||| orW rs')
    rcases g3 with ⟨k1, k2⟩ | ⟨k1, k2, k3, k4, k5⟩
    · rw [g1] at ih
      exact snd_ops_yes hoi k1 g2 k2 ih
    · rw [k4, k5, Nat.zero_or, Nat.zero_or]
      rw [g1, k2, k3] at ih
      rw [k3]
      exact snd_ops_no hoi k1 g2 ih

def span (a b : Nat) : Nat := (2 ^ (b - a) - 1) <<< a
theorem span_bit {a b x : Nat} (h1 : a ≤ x) (h2 : x < b) : (span a b).testBit x = true := by
  unfold span
  rw [Nat.testBit_shiftLeft, Nat.testBit_two_pow_sub_one]
  simp; omega
def rowBits (s : St) (r : Row) : Nat × Nat := ((r.2.2.2 % 2 ^ s.next) ||| span s.next r.2.1.next, ((r.2.2.1 ||| r.2.2.2) % 2 ^ s.next) ||| span s.next r.2.1.next)
def bitsL : St → List Row → List (Nat × Nat)
  | _, [] => []
  | s, r :: rs => rowBits s r :: bitsL r.2.1 rs
theorem bitsL_at : ∀ (rs : List Row) (s : St) (k : Nat), k < rs.length → (bitsL s rs)[k]? = some (rowBits (stS s rs k) (rs.getD k dRow))
  | [], s, k, h => by simp at h
  | r :: rs, s, 0, h => rfl
  | r :: rs, s, k + 1, h => by
    have := bitsL_at rs r.2.1 k (by simpa using h)
    have e2 : stS s (r :: rs) (k + 1) = stS r.2.1 rs k := by cases k <;> rfl
    rw [e2]
    exact this
theorem mod_bit {a n x : Nat} (h : a.testBit x = true) (hx : x < n) : (a % 2 ^ n).testBit x = true := by
  rw [Nat.testBit_mod_two_pow, h]; simp [hx]
def tmpBits (ops : Array Oper) (o : Oper) : Nat × Nat :=
  match o.dst with
  | some d => (2 ^ d, (o.looksAt ops).foldl (fun acc t => acc ||| 2 ^ t) (2 ^ d))
  | none => (0, (o.looksAt ops).foldl (fun acc t => acc ||| 2 ^ t) 0)
theorem fold_looks : ∀ (l : List Nat) (acc t : Nat), (acc.testBit t = true ∨ t ∈ l) → (l.foldl (fun acc t => acc ||| 2 ^ t) acc).testBit t = true
  | [], acc, t, h => by
    rcases h with h | h
    · exact h
    · simp at h
  | x :: l, acc, t, h => by
    simp only [List.foldl_cons]
    refine fold_looks l _ t ?_
    rcases h with h | h
    · exact .inl (by rw [or_bit, h]; rfl)
    · rcases List.mem_cons.1 h with rfl | h
      · exact .inl (by rw [or_bit, bit_self]; simp)
      · exact .inr h
theorem tmpBits_dst {ops : Array Oper} {o : Oper} {t : Nat} (h : o.dst = some t) : (tmpBits ops o).1.testBit t = true ∧ (tmpBits ops o).2.testBit t = true := by
  unfold tmpBits
  rw [h]
  exact ⟨bit_self t, fold_looks _ _ _ (.inl (bit_self t))⟩
theorem tmpBits_looks {ops : Array Oper} {o : Oper} {t : Nat} (h : t ∈ o.looksAt ops) : (tmpBits ops o).2.testBit t = true := by
  unfold tmpBits
  split <;> exact fold_looks _ _ _ (.inr h)
def drawOk (ops : Array Oper) : Bool := edgesOk ops && pairsOk [] 0 0 (ops.toList.map (tmpBits ops)) (preds ops)
theorem apart_of {ops : Array Oper} {rs : List Row} (hl : rs.length = ops.size) (hd : drawOk ops = true) (hn : pairsOk [] 0 0 (bitsL s rs) (preds ops) = true) : Apart ops (stS s rs) (stR rs) (stW rs) (ordOf ops) := by
  simp only [drawOk, Bool.and_eq_true] at hd
  refine ⟨fun j i => ord_lt hd.1 i j, fun j i t hi hj hne h1 h2 => ?_, fun j i b hi hj hne h1 h2 => ?_⟩
  · have key : ∀ (i j : Nat) (oi oj : Oper), ops[i]? = some oi → ops[j]? = some oj → j < i →
        (((tmpBits ops oj).1.testBit t = true ∧ (tmpBits ops oi).2.testBit t = true) ∨ ((tmpBits ops oi).1.testBit t = true ∧ (tmpBits ops oj).2.testBit t = true)) → ordOf ops j i := fun i j oi oj g1 g2 hlt g3 => by
      have := pairsOk_get _ [] 0 0 _ hd.2 (by simp) i j (tmpBits ops oi) (tmpBits ops oj) hlt (by simp) (by simp [g1]) (by simp [g2])
      rcases this with ⟨k1, k2⟩ | k
      · rcases g3 with g3 | g3
        · exact absurd g3 (k1 t)
        · exact absurd g3 (k2 t)
      · exact k
    have hoi : ops[i]? = some ops[i] := Array.getElem?_eq_getElem hi
    have hoj : ops[j]? = some ops[j] := Array.getElem?_eq_getElem hj
    have a1 : (tmpBits ops ops[j]).1.testBit t = true := (tmpBits_dst (by simpa [dstOf, hoj] using h1)).1
    have a2 : (tmpBits ops ops[i]).2.testBit t = true := by
      rcases h2 with ⟨o, e1, e2⟩ | h2
      · rw [hoi] at e1; cases e1; exact tmpBits_looks e2
      · exact (tmpBits_dst (by simpa [dstOf, hoi] using h2)).2
    rcases Nat.lt_or_gt_of_ne hne with c | c
    · exact .inr (key j i _ _ hoj hoi c (.inr ⟨a1, a2⟩))
    · exact .inl (key i j _ _ hoi hoj c (.inl ⟨a1, a2⟩))
  · have key : ∀ (i j : Nat), i < ops.size → j < ops.size → j < i →
        (((rowBits (stS s rs j) (rs.getD j dRow)).1.testBit b = true ∧ (rowBits (stS s rs i) (rs.getD i dRow)).2.testBit b = true) ∨ ((rowBits (stS s rs i) (rs.getD i dRow)).1.testBit b = true ∧ (rowBits (stS s rs j) (rs.getD j dRow)).2.testBit b = true)) → ordOf ops j i := fun i j g1 g2 hlt g3 => by
      have := pairsOk_get _ [] 0 0 _ hn (by simp) i j _ _ hlt (by simp) (bitsL_at rs s i (by omega)) (bitsL_at rs s j (by omega))
      rcases this with ⟨k1, k2⟩ | k
      · rcases g3 with g3 | g3
        · exact absurd g3 (k1 b)
        · exact absurd g3 (k2 b)
      · exact k
    have a1 : (rowBits (stS s rs j) (rs.getD j dRow)).1.testBit b = true := by
      rcases h1 with ⟨k1, k2⟩ | ⟨k1, k2⟩
      · exact or_bit.trans (Bool.or_eq_true_iff.2 (.inr (span_bit k1 k2)))
      · exact or_bit.trans (Bool.or_eq_true_iff.2 (.inl (mod_bit k1 k2)))
    have a2 : (rowBits (stS s rs i) (rs.getD i dRow)).2.testBit b = true := by
      rcases h2 with ⟨k1, k2⟩ | ⟨k1, k2⟩
      · exact or_bit.trans (Bool.or_eq_true_iff.2 (.inl (mod_bit k1 k2)))
      · exact or_bit.trans (Bool.or_eq_true_iff.2 (.inr (span_bit k1 k2)))
    rcases Nat.lt_or_gt_of_ne hne with c | c
    · exact .inr (key j i hj hi c (.inr ⟨a1, a2⟩))
    · exact .inl (key i j hi hj c (.inl ⟨a1, a2⟩))

abbrev OutC := Exit × MA × St × Nat × Nat
def evRegion (P : Program) (F : FY) (ops : Array Oper) (draw : Bool) (a : MA) (s : St) : Option OutC :=
  match runOps P F ops ops.toList a s with
  | none => none
  | some rs => match draw with
    | false => some (.normal, lastA a rs, lastS s rs, orR rs, orW rs)
    | true => match drawOk ops with
      | false => none
      | true => match pairsOk [] 0 0 (bitsL s rs) (preds ops) with
        | true => some (.normal, lastA a rs, lastS s rs, orR rs, orW rs)
        | false => none
theorem evRegion_snd {F : FY} {ops : Array Oper} {id : Nat} {draw : Bool} {a a1 : MA} {e : Exit} (hm : P.follows .mixedOrders = true) (hF : FYOk P F) (h : evRegion P F ops draw a s = some (e, a1, s1, R, W)) :
    SndC P rd (.region id ops draw) a.act s e a1.act s1 R W := by
  unfold evRegion at h
  split at h
  · cases h
  · rename_i rs hr
    have hl : rs.length = ops.size := by rw [runOps_len _ _ _ _ hr]; simp
    split at h
    · cases h
      refine sndC_region ?_
      have := seq_ops (rd := rd) hF ops.toList 0 a s rs hr (fun k o hk => by simpa using hk)
      rwa [show List.range' 0 ops.toList.length = List.range ops.size from by rw [List.range_eq_range']; simp] at this
    · split at h
      · cases h
      · rename_i hd
        split at h
        · rename_i hp
          cases h
          have := sndC_draw (id := id) hm (sq_of (rd := rd) hF hr) (apart_of hl hd hp) (ords_of (by simp only [drawOk, Bool.and_eq_true] at hd; exact hd.1))
          rw [← hl, stA_last, stS_last, orUpto_R, orUpto_W] at this
          exact this
        · cases h

theorem stepR_scope {b : Frame} {a : Act} {k : List Item} {cs : List Frame} {w : World} {c : Code} : step P (lone (b.atR a (.code (.scope c) :: k)) cs w) = .next (lone (b.atR a (.code c :: .inScope c :: k)) cs w) :=
  step_lone_go (by simp [stepG, stepG.exec, Frame.atR])
theorem stepR_inScope {b : Frame} {a : Act} {k : List Item} {cs : List Frame} {w : World} {c : Code} : step P (lone (b.atR a (.inScope c :: k)) cs w) = .next (lone (b.atR a k) cs w) :=
  step_lone_go (by simp [stepG, stepG.exec, Frame.atR])
def notGoto (Q : Exit → Act → World → Prop) : Exit → Act → World → Prop
  | .goto _, _, _ => False
  | e, a, w => Q e a w
theorem wpIn_scope_straight {F : Fence} {n : Nat} {c : Code} {Q : Exit → Act → World → Prop} {a : Act} {w : World} (h : c.wpIn F n P (notGoto Q) a w) : (Code.scope c).wpIn F n P Q a w := by
  intro b k cs hro hb hr
  obtain ⟨e, a₁, w₁, hq, harr⟩ := h b (.inScope c :: k) cs hro hb hr
  cases e with
  | normal => exact ⟨.normal, a₁, w₁, hq, .head (fenced_calm hb hr rfl) stepR_scope (StepsIn.trans harr (.one (fenced_calm hb hr rfl) stepR_inScope))⟩
  | exit id =>
    exact ⟨.exit id, a₁, w₁, hq, fun k' hk => .head (fenced_calm hb hr rfl) stepR_scope (harr.1 k' (by simp [exitTo, hk])),
      fun hr' hk => let ⟨k₁, h1, h2⟩ := harr.2 hr' (by simp [exitTo, hk]); ⟨k₁, h1, .head (fenced_calm hb hr rfl) stepR_scope h2⟩⟩
  | goto l => exact hq.elim
  | ret => exact ⟨_, a₁, w₁, hq, .of_steps (.one (fenced_calm hb hr rfl) stepR_scope) harr⟩
  | panic ch => exact ⟨_, a₁, w₁, hq, .of_steps (.one (fenced_calm hb hr rfl) stepR_scope) harr⟩
  | outgrown => exact ⟨_, a₁, w₁, hq, .of_steps (.one (fenced_calm hb hr rfl) stepR_scope) harr⟩
def isGoto : Exit → Bool
  | .goto _ => true
  | _ => false
theorem sndC_scope {c : Code} {a a1 : Act} {e : Exit} (he : isGoto e = false) (h : SndC P rd c a s e a1 s1 R W) : SndC P rd (.scope c) a s e a1 s1 R W := by
  obtain ⟨hS, h⟩ := h
  refine ⟨hS, fun n ro ρ C a' w Q hp ha hQ => wpIn_scope_straight (h n ro ρ C a' w _ hp ha fun ρ1 a1' w1 p1 r1 ha1 => ?_)⟩
  have hq := hQ ρ1 a1' w1 p1 r1 ha1
  cases e with
  | goto l => simp [isGoto] at he
  | _ => exact hq

abbrev EvT := Bool → Code → MA → St → Option OutC
def evFn (P : Program) (X : CallF) (ev : EvT) : CallF := fun f args s =>
  match X f args s with
  | some r => some r
  | none => match P.funcs[f]? with
  | none => none
  | some fn => match fn.body with
    | none => none
    | some c => match ev false c (startM fn args) s with
      | some (e, a1, s1, R1, W) => match e with
        | .normal => match shutM a1.defers s1 with
          | some (s2, W2) => match resultsG P s2 a1.get fn.results.toList with
            | some (vs, R2) => some (gcO s (outV vs, s2, R1 ||| R2, W ||| W2))
            | none => none
          | none => none
        | .ret => match shutM a1.defers s1 with
          | some (s2, W2) => match resultsG P s2 a1.get fn.results.toList with
            | some (vs, R2) => some (gcO s (outV vs, s2, R1 ||| R2, W ||| W2))
            | none => none
          | none => none
        | _ => none
      | none => none
def TF (P : Program) (flag : Bool) (c : Code) : Tr := match flag with
  | true => LoopFrom P c
  | false => TC P c
def EvOk (P : Program) (rd : Option Nat) (ev : EvT) : Prop := ∀ flag c a s e a1 s1 R W, ev flag c a s = some (e, a1, s1, R, W) → Snd P rd (TF P flag c) a.act s e a1.act s1 R W
theorem evFn_ok {X : CallF} {ev : EvT} (hX : FOk P X) (h : EvOk P none ev) : FOk P (evFn P X ev) := fun f azz s v s1 R W he => by
  unfold evFn at he
  split at he
  · rename_i hx
    cases he
    exact hX _ _ _ _ _ _ _ hx
  split at he
  · cases he
  · rename_i fn hf
    split at he
    · cases he
    · rename_i c hb
      split at he
      · rename_i e a1 s2 R1 W1 hc
        have hs := h false c (startM fn azz) s e a1 s2 R1 W1 hc
        rw [startM_act] at hs
        split at he
        · split at he
          · rename_i hm
            split at he
            · rename_i vs R2 hv
              exact gcO_snd (sndF_of_marks hf hb (.inl rfl) hs hm ((resultsL_act _ _).trans hv)) (Option.some.inj he)
            · cases he
          · cases he
        · split at he
          · rename_i hm
            split at he
            · rename_i vs R2 hv
              exact gcO_snd (sndF_of_marks hf hb (.inr rfl) hs hm ((resultsL_act _ _).trans hv)) (Option.some.inj he)
            · cases he
          · cases he
        · cases he
      · cases he

def isNormal : Exit → Bool
  | .normal => true
  | _ => false
theorem isNormal_iff {e : Exit} : isNormal e = true → e = .normal := by cases e <;> simp [isNormal]
theorem isNormal_no {e : Exit} : isNormal e = false → e ≠ .normal := by cases e <;> simp [isNormal]

abbrev EvR := Option Nat → EvT
def isReady : LoopState → Bool
  | .ready => true
  | _ => false
def isBusy : LoopState → Bool
  | .busy => true
  | _ => false
theorem isReady_iff {x : LoopState} (h : isReady x = true) : x = .ready := by cases x <;> simp [isReady] at h; rfl
theorem isBusy_iff {x : LoopState} (h : isBusy x = false) : x ≠ .busy := by cases x <;> simp [isBusy] at h <;> simp
def evY (ev : EvR) : YieldF := fun l args s =>
  match s.get l with
  | .loop r => match args.size == r.params.size with
    | true => match ev (some l) false r.assign (MA.ofA (setArgs r.params args r.tmps) []) s with
      | some (e1, a1, s1, R1, W1) => match isNormal e1, s1.get l with
        | true, .loop rB => match isReady rB.state with
          | true => match ev (some l) false r.body a1 (s1.put l (.loop { rB with state := .busy })) with
            | some (e, _, s2, R2, W2) => match roundJump e, s2.get l with
              | some jump, .loop rE => some (.bool jump.isNone, s2.put l (.loop { rE with state := if jump.isNone then .ready else .done, pending := jump }), 2 ^ l ||| (R1 ||| (0 ||| (R2 ||| 0))), W1 ||| (2 ^ l ||| (W2 ||| 2 ^ l)))
              | _, _ => none
            | none => none
          | false => none
        | _, _ => none
      | none => none
    | false => none
  | _ => none
theorem evY_ok {ev : EvR} (h : ∀ rd, EvOk P rd (ev rd)) : ∀ l azz s v s1 R W, evY ev l azz s = some (v, s1, R, W) → ∀ rd, SndY P rd l azz s v s1 R W := fun l azz s v s1 R W he rd o c vals x ho hc hx ha => by
  unfold evY at he
  split at he
  · rename_i r hl
    split at he
    · rename_i hsz
      split at he
      · rename_i e1 a1 s2 R1 W1 h1
        split at he
        · rename_i rB hn hB
          split at he
          · rename_i hst
            split at he
            · rename_i e a2 s3 R2 W2 h2
              split at he
              · rename_i jump rE hj hE
                cases he
                cases isNormal_iff hn
                have g1 := h (some l) _ _ _ _ _ _ _ _ _ h1
                rw [MA.ofA_act] at g1
                have g2 := h (some l) _ _ _ _ _ _ _ _ _ h2
                subst ha
                exact sndO_yield ho hc hx hl (by simpa using hsz) g1 hB (isReady_iff hst) g2 hj hE
              · cases he
            · cases he
          · cases he
        · cases he
      · cases he
    · cases he
  · cases he
def evRangeF (P : Program) (F : CallF) (rd : Option Nat) (g : Operand) (ps : Array Tmp) (azz b : Code) (a : MA) (s : St) : Option OutC :=
  match okOp P g, a.eval g with
  | true, .func (.func f) xs ys => match P.funcs[f]? with
    | some fn => match fn.body.isSome && !(fn.name == "runtime.NumGoroutine") with
      | true => match rd with
        | none => match F f (xs ++ #[.func (.yield (s.next + 1)) #[] #[]] ++ ys) ((s.push .marks).push (.loop (recOf a.act.tmps ps azz b s.next))) with
          | some (_, s1, R, W) => match s1.get (s.next + 1) with
            | .loop r => match isBusy r.state, jumpOk r.pending with
              | false, true => some (exitOf r.pending, ⟨a.n, a.t, mark s.next :: a.defers⟩, (s1.put (s.next + 1) (.loop { r with state := .exhausted })).put (s.next + 1) .hole, 0 ||| (0 ||| (R ||| 0)), 0 ||| (0 ||| (W ||| 2 ^ (s.next + 1))))
              | _, _ => none
            | _ => none
          | none => none
        | some l0 => match s.get l0 with
          | .loop r0 => match F f (xs ++ #[.func (.yield s.next) #[] #[]] ++ ys) (s.push (.loop (recOf a.act.tmps ps azz b r0.defers))) with
            | some (_, s1, R, W) => match s1.get s.next with
              | .loop r => match isBusy r.state, jumpOk r.pending with
                | false, true => some (exitOf r.pending, a, (s1.put s.next (.loop { r with state := .exhausted })).put s.next .hole, 2 ^ l0 ||| (R ||| 0), 0 ||| (W ||| 2 ^ s.next))
                | _, _ => none
              | _ => none
            | none => none
          | _ => none
      | false => none
    | none => none
  | _, _ => none
theorem evRangeF_ok {F : CallF} {g : Operand} {ps : Array Tmp} {azz b : Code} {a a1 : MA} {e : Exit} (hF : FOk P F) (h : evRangeF P F rd g ps azz b a s = some (e, a1, s1, R, W)) : SndC P rd (.rangeFunc g ps azz b) a.act s e a1.act s1 R W := by
  unfold evRangeF at h
  rw [← MA.eval_act] at h
  split at h
  · rename_i f xs ys hg hx
    split at h
    · rename_i fn hf
      split at h
      · rename_i hb
        simp only [Bool.and_eq_true, Bool.not_eq_true'] at hb
        split at h
        · split at h
          · rename_i hc
            split at h
            · rename_i r hl
              split at h
              · rename_i hbu hj
                cases h
                exact Snd.drop (sndC_rangeFunc hg hx hf hb.1 hb.2 (hF _ _ _ _ _ _ _ hc) hl (isBusy_iff hbu) hj) (Nat.le_succ _) (by have q := lt_of_loop hl; exact q)
              · cases h
            · cases h
          · cases h
        · split at h
          · rename_i r0 h0
            split at h
            · rename_i hc
              split at h
              · rename_i r hl
                split at h
                · rename_i hbu hj
                  cases h
                  exact Snd.drop (sndC_rangeFuncI h0 hg hx hf hb.1 hb.2 (hF _ _ _ _ _ _ _ hc) hl (isBusy_iff hbu) hj) (Nat.le_refl _) (by have q := lt_of_loop hl; exact q)
                · cases h
              · cases h
            · cases h
          · cases h
      · cases h
    · cases h
  · cases h

def evStep (P : Program) (X : CallF) (ev : EvR) : EvR := fun rd flag c a s =>
  match flag with
  | true => match ev rd false c a s with
    | some (e, a1, s1, R1, W1) => match isNormal e with
      | true => match ev rd true c a1 s1 with
        | some (e2, a2, s2, R2, W2) => some (e2, a2, s2, R1 ||| R2, W1 ||| W2)
        | none => none
      | false => some (e, a1, s1, R1, W1)
    | none => none
  | false => match c with
    | .skip => some (.normal, a, s, 0, 0)
    | .label _ => some (.normal, a, s, 0, 0)
    | .exit l => some (.exit l, a, s, 0, 0)
    | .ret => some (.ret, a, s, 0, 0)
    | .region _ ops draw => evRegion P ⟨evFn P X (ev none), evY ev⟩ ops draw a s
    | .seq x y => match ev rd false x a s with
      | some (e, a1, s1, R1, W1) => match isNormal e with
        | true => match ev rd false y a1 s1 with
          | some (e2, a2, s2, R2, W2) => some (e2, a2, s2, R1 ||| R2, W1 ||| W2)
          | none => none
        | false => some (e, a1, s1, R1, W1)
      | none => none
    | .cond x t f => match okOp P x with
      | true => match a.eval x with
        | .bool b => ev rd false (if b then t else f) a s
        | _ => none
      | false => none
    | .block id x => match ev rd false x a s with
      | some (e, a1, s1, R1, W1) => some (outOf id e, a1, s1, R1, W1)
      | none => none
    | .loop x => ev rd true x a s
    | .scope x => match ev rd false x a s with
      | some (e, a1, s1, R1, W1) => match isGoto e with
        | false => some (e, a1, s1, R1, W1)
        | true => none
      | none => none
    | .rangeFunc g ps azz b => evRangeF P (evFn P X (ev none)) rd g ps azz b a s
    | _ => none

theorem evStep_ok {X : CallF} {ev : EvR} (hm : P.follows .mixedOrders = true) (hX : FOk P X) (h : ∀ rd, EvOk P rd (ev rd)) : ∀ rd, EvOk P rd (evStep P X ev rd) := fun rd flag c a s e a1 s1 R W he => by
  unfold evStep at he
  split at he
  · split at he
    · rename_i h1
      have g1 := h rd false _ _ _ _ _ _ _ _ h1
      split at he
      · rename_i hn
        cases isNormal_iff hn
        split at he
        · rename_i h2
          cases he
          exact snd_from_on g1 (h rd true c _ _ _ _ _ _ _ h2)
        · cases he
      · rename_i hn
        cases he
        exact snd_from_stop (isNormal_no hn) g1
    · cases he
  · split at he
    · cases he; exact sndC_skip
    · cases he; exact sndC_label
    · cases he; exact sndC_exit
    · cases he; exact sndC_ret
    · exact evRegion_snd hm (F := ⟨evFn P X (ev none), evY ev⟩) ⟨evFn_ok hX (h none), evY_ok h⟩ he
    · split at he
      · rename_i h1
        have g1 := h rd false _ _ _ _ _ _ _ _ h1
        split at he
        · rename_i hn
          cases isNormal_iff hn
          split at he
          · rename_i h2
            cases he
            exact sndC_seq g1 (h rd false _ _ _ _ _ _ _ _ h2)
          · cases he
        · rename_i hn
          cases he
          exact sndC_seq_stop (isNormal_no hn) g1
      · cases he
    · split at he
      · rename_i hx
        split at he
        · rename_i hb
          exact sndC_cond hx (by rw [MA.eval_act]; exact hb) (h rd false _ _ _ _ _ _ _ _ he)
        · cases he
      · cases he
    · split at he
      · rename_i h1
        cases he
        exact sndC_block (h rd false _ _ _ _ _ _ _ _ h1)
      · cases he
    · exact sndC_loop (h rd true _ _ _ _ _ _ _ _ he)
    · split at he
      · rename_i h1
        split at he
        · rename_i hg
          cases he
          exact sndC_scope hg (h rd false _ _ _ _ _ _ _ _ h1)
        · cases he
      · cases he
    · exact evRangeF_ok (evFn_ok hX (h none)) he
    · cases he

def evCR (P : Program) (X : CallF) : Nat → EvR
  | 0 => fun _ _ _ _ _ => none
  | n + 1 => evStep P X (evCR P X n)
theorem evCR_ok {X : CallF} (hm : P.follows .mixedOrders = true) (hX : FOk P X) : ∀ n rd, EvOk P rd (evCR P X n rd)
  | 0 => fun rd flag c a s e a1 s1 R W he => by cases he
  | n + 1 => evStep_ok hm hX (evCR_ok hm hX n)
def evC (P : Program) (X : CallF) (n : Nat) : EvT := evCR P X n none
theorem evC_ok {X : CallF} (hm : P.follows .mixedOrders = true) (hX : FOk P X) (n : Nat) : EvOk P none (evC P X n) := evCR_ok hm hX n none
end Mini
end Go.Proofs.YtbkpnhbcihcgaaaGreatDoor
end
section
namespace Go.Proofs.YtbkpnhbcihcgaaaGreatDoor
set_option linter.all false
open Go.RowKit
namespace Mini
variable {P : Program} {rd : Option Nat} {s s1 : St} {R W : Nat}

theorem sndF_quiet {f : FuncId} {args : Array Value} {v : Value} (hg : ground 8 v = true)
    (h : ∀ (ρ : Ren) (C : Nat → MObj) (args' : Array Value) (w : World), (∀ b, R.testBit b = true → b < s.next → C b = s.get b) → WRel ρ C w → VRs ρ args args' → Calls P f args' w fun e w' => e = .returned v ∧ Below w.heap.size w w') :
    SndF P f args s v s R 0 := by
  refine ⟨Stat.refl s, fun n ρ C args' w Q hp ha hQ => ?_⟩
  have hc := h ρ C args' w (fun b hb => hp.agree b (by rw [or_bit, hb]; rfl)) hp.rel ha
  refine callsIn_wide.2 (hc.mono fun e w' he => ?_)
  obtain ⟨rfl, hb⟩ := he
  refine hQ ρ v w' ⟨Ren.le_refl _, fun b hne => absurd rfl hne, fun b L h1 h2 => (by rw [h1] at h2; cases h2), hb.size, fun x hx _ => hb.block x hx, hb.os, hb.tape, hb.output⟩ ?_ (ground_refl 8 hg)
  rw [upd_zero]
  refine ⟨fun b hne => ?_, hp.rel.2⟩
  obtain ⟨L, o', h1, h2, h3⟩ := hp.rel.1 b hne
  have hlt : L.blk < w.heap.size := (Array.getElem?_eq_some_iff.1 h2).1
  exact ⟨L, o', h1, (hb.block L.blk hlt).trans h2, h3⟩

def strsL : List Value → Option (List ByteArray)
  | [] => some []
  | .string x :: l => match strsL l with
    | some xs => some (x :: xs)
    | none => none
  | _ :: _ => none
theorem strsL_at : ∀ (l : List Value) (xs : List ByteArray), strsL l = some xs → xs.length = l.length ∧ ∀ (j : Nat) (x : ByteArray), xs[j]? = some x → l[j]? = some (.string x)
  | [], xs, h => by cases h; exact ⟨rfl, fun j x hj => by simp at hj⟩
  | .string y :: l, xs, h => by
    simp only [strsL] at h
    split at h
    · rename_i ys hy
      cases h
      obtain ⟨h1, h2⟩ := strsL_at l ys hy
      refine ⟨by simp [h1], fun j x hj => ?_⟩
      cases j with
      | zero => simpa using hj
      | succ j => simpa using h2 j x (by simpa using hj)
    · cases h
  | .bool _ :: _, _, h | .float _ _ :: _, _, h | .complex _ _ _ :: _, _, h | .int _ _ :: _, _, h | .pointer _ :: _, _, h | .slice _ _ _ :: _, _, h | .map _ :: _, _, h | .chan _ :: _, _, h | .func _ _ _ :: _, _, h | .nilFunc :: _, _, h | .iface _ _ :: _, _, h
  | .nilIface :: _, _, h | .agg _ :: _, _, h | .tuple _ :: _, _, h => by simp [strsL] at h

def joinX (fJ : FuncId) : CallF := fun f args s =>
  if f = fJ then
    match args.toList with
    | [.slice (some ⟨b, o, none⟩) n c, .string sep] => match s.get b with
      | .cells cc _ _ _ _ => match strsL (cut cc o n).toList with
        | some xs =>
          if n ≠ 0 ∧ n ≤ c ∧ o + n ≤ cc.length ∧ n ≤ 1000000 ∧ (Lib.join (xs.map (·.data.toList)) sep.data.toList).length ≤ 1000000000 then
            some (.string ⟨(Lib.join (xs.map (·.data.toList)) sep.data.toList).toArray⟩, s, 2 ^ b, 0)
          else none
        | none => none
      | _ => none
    | _ => none
  else none
theorem joinX_ok {fJ : FuncId} (hJ : ∀ (bk o c : Nat) (xs : List ByteArray) (sep : ByteArray) (w : World), (∀ (j : Nat) x, xs[j]? = some x → w.cell? ⟨bk, o + j, none⟩ = some (.string x)) → bk < w.heap.size → xs.length ≤ 140737488355328 → xs.length ≤ c →
      (Lib.join (xs.map (·.data.toList)) sep.data.toList).length ≤ 140737488355328 →
      Calls P fJ #[.slice (some ⟨bk, o, none⟩) xs.length c, .string sep] w fun e w' => e = .returned (.string ⟨(Lib.join (xs.map (·.data.toList)) sep.data.toList).toArray⟩) ∧ Below w.heap.size w w') : FOk P (joinX fJ) := fun f azz s v s1 R W h => by
  unfold joinX at h
  split at h
  · rename_i hf
    subst hf
    split at h
    · rename_i b o n c sep has
      split at h
      · rename_i cc e opn sz r hc
        split at h
        · rename_i xs hx
          split at h
          · rename_i hk
            cases h
            obtain ⟨k1, k2, k3, k4, k5⟩ := hk
            obtain ⟨g1, g2⟩ := strsL_at _ _ hx
            have hl : xs.length = n := by rw [g1]; simp [cut]; omega
            refine sndF_quiet rfl fun ρ C args' w ag hr ha => ?_
            have has' : azz = #[.slice (some ⟨b, o, none⟩) n c, .string sep] := Array.ext' has
            subst has'
            have e0 : ∃ v0 v1, args' = #[v0, v1] ∧ VR ρ (.slice (some ⟨b, o, none⟩) n c) v0 ∧ VR ρ (.string sep) v1 := by
              obtain ⟨q1, q2⟩ := ha
              have hs2 : args'.size = 2 := q1.symm
              refine ⟨args'[0], args'[1], ?_, q2 0 _ _ rfl (Array.getElem?_eq_getElem (by omega)), q2 1 _ _ rfl (Array.getElem?_eq_getElem (by omega))⟩
              apply Array.ext (by simpa using hs2)
              intro i h1 h2
              match i, h1, h2 with
              | 0, _, _ => rfl
              | 1, _, _ => rfl
              | i + 2, h1, _ => omega
            obtain ⟨v0, v1, rfl, m0, m1⟩ := e0
            obtain ⟨L, c', n1, rfl, n2⟩ := slice_inv k1 m0
            have hv1 : v1 = .string sep := by cases m1; rfl
            subst hv1
            have hbb := ag b (bit_self b) (St.lt_of_live (by rw [hc]; simp))
            obtain ⟨L', cs, fr, q1, q2, q3⟩ := row_of hr (hbb.trans hc)
            rw [n1] at q1
            cases q1
            obtain ⟨p1, p2, p3, p4, p5, p6, p7, p8⟩ := q3
            have := hJ L.blk (L.base + o) c' xs sep w (fun j x hj => ?_) ((Array.getElem?_eq_some_iff.1 q2).1) (by omega) (by omega) (by omega)
            · rw [hl] at this; exact this
            · have hlt : j < n := by
                have := (List.getElem?_eq_some_iff.1 hj).1
                omega
              have hm : cc[o + j]? = some (.string x) := by
                have := g2 j x hj
                simp only [cut, List.getElem?_take, List.getElem?_drop] at this
                rw [if_pos hlt] at this
                exact this
              obtain ⟨v', z1, z2⟩ := p6 _ _ hm
              have hv' : v' = .string x := by cases z2; rfl
              rw [cell_row q2, Nat.add_assoc, z1, hv']
          · cases h
        · cases h
      · cases h
    · cases h
  · cases h

def noX : CallF := fun _ _ _ => none
end Mini
end Go.Proofs.YtbkpnhbcihcgaaaGreatDoor
end
section
namespace Go.Proofs.YtbkpnhbcihcgaaaGreatDoor
set_option linter.all false
open Go.RowKit
namespace Mini
variable {P : Program} {rd : Option Nat} {s s1 : St} {R W : Nat}

def tailS : Code → Code
  | .seq _ b => b
  | c => c
def headS : Code → Code
  | .seq a _ => a
  | c => c
def isSeq : Code → Bool
  | .seq _ _ => true
  | _ => false
theorem isSeq_eq {c : Code} (h : isSeq c = true) : c = .seq (headS c) (tailS c) := by cases c <;> simp [isSeq] at h ⊢ <;> exact ⟨rfl, rfl⟩
def bodyOf (P : Program) (f : FuncId) : Code := match P.funcs[f]? with
  | some fn => match fn.body with
    | some c => c
    | none => .skip
  | none => .skip
def dropS : Nat → Code → Code
  | 0, c => c
  | n + 1, c => tailS (dropS n c)
theorem chain_step {X : CallF} {n i : Nat} {body : Code} {a a1 : MA} {a2 : Act} {s2 : St} {R1 W1 R2 W2 : Nat} {e : Exit} (hm : P.follows .mixedOrders = true) (hX : FOk P X) (hs : isSeq (dropS i body) = true)
    (h : evC P X n false (headS (dropS i body)) a s = some (.normal, a1, s1, R1, W1)) (g : SndC P none (dropS (i + 1) body) a1.act s1 e a2 s2 R2 W2) : SndC P none (dropS i body) a.act s e a2 s2 (R1 ||| R2) (W1 ||| W2) := by
  rw [isSeq_eq hs]
  exact sndC_seq (evC_ok hm hX n false _ _ _ _ _ _ _ _ h) g
theorem chain_last {X : CallF} {n i : Nat} {body : Code} {a a1 : MA} {e : Exit} (hm : P.follows .mixedOrders = true) (hX : FOk P X)
    (h : evC P X n false (dropS i body) a s = some (e, a1, s1, R, W)) : SndC P none (dropS i body) a.act s e a1.act s1 R W :=
  evC_ok hm hX n false _ _ _ _ _ _ _ _ h

structure Holds (P : Program) (s : St) (w : World) : Prop where
  next : s.next = P.globals.size
  holds : ∀ b, b < P.globals.size → s.get b = .hole ∨ ∃ c e, s.get b = .cells c e true 0 true ∧ c ≠ [] ∧ c.all (ground 8) = true ∧ ∀ (i : Nat) (v : Value), c[i]? = some v → w.cell? ⟨b, i, none⟩ = some v
def rho0 (P : Program) (w : World) : Ren := fun b =>
  if b < P.globals.size then some ⟨b, 0, true, 0, match w.heap[b]? with | some (.cells cs _ _) => cs.size | _ => 0⟩ else none
theorem cells_of {w : World} {b : Nat} {c : List Value} (hne : c ≠ []) (h : ∀ (i : Nat) (v : Value), c[i]? = some v → w.cell? ⟨b, i, none⟩ = some v) : ∃ cs e fr, w.heap[b]? = some (.cells cs e fr) ∧ c.length ≤ cs.size ∧ ∀ (i : Nat) (v : Value), c[i]? = some v → cs[i]? = some v := by
  cases c with
  | nil => exact absurd rfl hne
  | cons v0 l =>
    have h0 := h 0 v0 rfl
    cases ho : w.heap[b]? with
    | none => simp [World.cell?, ho] at h0
    | some o =>
      cases o with
      | cells cs e fr =>
        have hall : ∀ (i : Nat) (v : Value), (v0 :: l)[i]? = some v → cs[i]? = some v := fun i v hi => by
          have := h i v hi
          rwa [cell_row ho] at this
        refine ⟨cs, e, fr, rfl, ?_, hall⟩
        have hlast := hall l.length _ (List.getElem?_eq_getElem (by simp))
        have := (Array.getElem?_eq_some_iff.1 hlast).1
        simp
        omega
      | _ => simp [World.cell?, ho] at h0
theorem calls_of {f : FuncId} {args : Array Value} {v : Value} {w : World} (h : SndF P f args s v s1 R W) (hg : ground 8 v = true) (ha : args.toList.all (ground 8) = true) (hw : ∀ b, b < P.globals.size → W.testBit b = false) (hh : Holds P s w) :
    Calls P f args w fun e w' => e = .returned v ∧ Below w.heap.size w w' := by
  have hG : Glob P (rho0 P w) := fun g hg => ⟨_, if_pos hg, rfl, rfl⟩
  have hgood : ∀ b, s.get b ≠ .hole → b < P.globals.size := fun b hb => hh.next ▸ St.lt_of_live hb
  have hp : Pre P none s s1 R W none (rho0 P w) s.get w := by
    refine ⟨hG, trivial, fun _ _ _ => rfl, fun b h1 h2 => ⟨?_, St.get_beyond s b h1⟩, fun b hb => ?_, fun b b' L L' h1 h2 hq e1 e2 he => ?_⟩
    · show (if b < P.globals.size then _ else none) = none
      rw [if_neg (by have := hh.next; omega)]
    · have hlt := hgood b hb
      rcases hh.holds b hlt with k | ⟨c, e, k1, k2, k3, k4⟩
      · exact absurd k hb
      · obtain ⟨cs, e', fr, q1, q2, q3⟩ := cells_of k2 k4
        refine ⟨_, .cells cs e' fr, if_pos hlt, q1, ?_⟩
        rw [k1]
        refine ⟨rfl, rfl, fun h => (by cases h), ?_, ?_, fun i u hi => ⟨u, by simpa using q3 i u hi, ground_refl 8 (List.all_eq_true.1 k3 u (List.mem_of_getElem? hi))⟩, fun h => (by cases h), fun h => (by cases h)⟩
        · simp only [q1]
        · simp only [q1, Nat.zero_add]; exact q2
    · have g1 := hgood b h1
      have g2 := hgood b' h2
      have f1 : rho0 P w b = some _ := if_pos g1
      have f2 : rho0 P w b' = some _ := if_pos g2
      rw [f1] at e1
      rw [f2] at e2
      cases e1
      cases e2
      exact he
  have hargs : VRs (rho0 P w) args args := ⟨rfl, fun i u u' h1 h2 => by
    rw [h1] at h2
    cases h2
    exact ground_refl 8 (List.all_eq_true.1 ha u (by rw [Array.mem_toList_iff]; exact Array.mem_of_getElem? h1))⟩
  refine callsIn_wide.1 (h.2 0 (rho0 P w) s.get args w _ hp hargs fun ρ1 v' w1 p1 _ hv => ?_)
  have hv' := ground_eq 8 hg hv
  subst hv'
  refine ⟨rfl, p1.os, p1.tape, p1.output, p1.size, fun k hk => p1.frame k hk fun b L hb hlt hL => ?_⟩
  have := hw b (hh.next ▸ hlt)
  rw [hb] at this
  cases this
end Mini
end Go.Proofs.YtbkpnhbcihcgaaaGreatDoor
end
section
namespace Go.Proofs.YtbkpnhbcihcgaaaGreatDoor
set_option linter.all false
open Go.RowKit
namespace Mini
variable {P : Program} {rd : Option Nat} {s s1 : St} {R W : Nat}

def eqFs (P : Program) (f : TypeId → Value → Value → Option Bool) (xs ys : Array Value) : List Field → Option Bool
  | [] => some true
  | fd :: l => if fd.name = "_" then none else
    match partM P fd.type xs fd.offset, partM P fd.type ys fd.offset with
    | some u, some v => match f fd.type u v, eqFs P f xs ys l with
      | some b, some r => some (b && r)
      | _, _ => none
    | _, _ => none
def eqAs (P : Program) (f : TypeId → Value → Value → Option Bool) (xs ys : Array Value) (e : TypeId) (n : Nat) : List Nat → Option Bool
  | [] => some true
  | i :: l => match partM P e xs (i * n), partM P e ys (i * n) with
    | some u, some v => match f e u v, eqAs P f xs ys e n l with
      | some b, some r => some (b && r)
      | _, _ => none
    | _, _ => none
def eqM (P : Program) : Nat → TypeId → Value → Value → Option Bool
  | 0, _, _, _ => none
  | k + 1, t, x, y => match P.underlying t, x, y with
    | some .bool, .bool a, .bool b => some (a == b)
    | some (.int _), .int k a, .int k' b => if k = k' then some (a == b) else none
    | some .string, .string a, .string b => some (a == b)
    | some (.struct fs), .agg xs, .agg ys => if P.stoodInHeld t = true then none else eqFs P (eqM P k) xs ys fs.toList
    | some (.array len e), .agg xs, .agg ys => match P.info? e with
      | some i => eqAs P (eqM P k) xs ys e i.size (List.range' 0 len)
      | none => none
    | _, _, _ => none
theorem part_eq {t : TypeId} {cs : Array Value} {off : Nat} {v : Value} (w : World) (h : partM P t cs off = some v) : (part t cs off).run P w = .ok v w := by
  unfold partM at h
  cases ha : aggT P t with
  | none => rw [ha] at h; cases h
  | some b =>
    cases b with
    | true =>
      cases hi : P.info? t with
      | none => rw [ha, hi] at h; cases h
      | some i =>
        rw [ha, hi] at h
        simp only [Option.some.injEq] at h
        subst h
        have hsz : (sizeOf t).run P w = .ok i.size w := by simp [sizeOf, run_typeInfo w hi]
        simp [part, isAgg_run ha, hsz]
    | false =>
      have h' : cs[off]? = some v := by
        rw [ha] at h
        cases hi : P.info? t <;> rw [hi] at h <;> exact h
      simp [part, isAgg_run ha, h']
theorem forFs (w : World) {f : TypeId → Value → Value → Option Bool} {k : Nat} (hrec : ∀ t x y b, f t x y = some b → (Op.equalIn k t x y).run P w = .ok b w) (xs ys : Array Value) : ∀ (l : List Field) (b : Bool), eqFs P f xs ys l = some b →
    (Sem.run P
          (forIn l ((none, ()) : Option Bool × Unit) fun f __s =>
            if f.name = "_" then pure (ForInStep.yield (none, ()))
            else do
              let u ← part f.type xs f.offset
              let v ← part f.type ys f.offset
              let r ← Op.equalIn k f.type u v
              if r = false then pure (ForInStep.done (some false, ())) else pure (ForInStep.yield (none, ())))
          w) = .ok (if b = true then (none, ()) else (some false, ())) w
  | [], b, h => by cases h; simp
  | fd :: l, b, h => by
    simp only [eqFs] at h
    split at h
    · cases h
    · rename_i hn
      split at h
      · rename_i u v hu hv
        split at h
        · rename_i b1 r h1 h2
          cases h
          have ih := forFs w hrec xs ys l r h2
          simp only [List.forIn_cons, Sem.run_bind, if_neg hn, part_eq w hu, part_eq w hv, Result.andThen_ok, hrec _ _ _ _ h1]
          cases b1 with
          | false => simp
          | true => simp only [Bool.true_and]; simpa using ih
        · cases h
      · cases h
theorem forAs (w : World) {f : TypeId → Value → Value → Option Bool} {k n : Nat} {e : TypeId} (hrec : ∀ t x y b, f t x y = some b → (Op.equalIn k t x y).run P w = .ok b w) (xs ys : Array Value) : ∀ (l : List Nat) (b : Bool), eqAs P f xs ys e n l = some b →
    (Sem.run P
          (forIn l ((none, ()) : Option Bool × Unit) fun i __s => do
              let u ← part e xs (i * n)
              let v ← part e ys (i * n)
              let r ← Op.equalIn k e u v
              if r = false then pure (ForInStep.done (some false, ())) else pure (ForInStep.yield (none, ())))
          w) = .ok (if b = true then (none, ()) else (some false, ())) w
  | [], b, h => by cases h; simp
  | i :: l, b, h => by
    simp only [eqAs] at h
    split at h
    · rename_i u v hu hv
      split at h
      · rename_i b1 r h1 h2
        cases h
        have ih := forAs w hrec xs ys l r h2
        simp only [List.forIn_cons, Sem.run_bind, part_eq w hu, part_eq w hv, Result.andThen_ok, hrec _ _ _ _ h1]
        cases b1 with
        | false => simp
        | true => simp only [Bool.true_and]; simpa using ih
      · cases h
    · cases h
theorem eqM_run (w : World) : ∀ (k : Nat) (t : TypeId) (x y : Value) (b : Bool), eqM P k t x y = some b → ∀ d, (Op.equalIn (k + d) t x y).run P w = .ok b w
  | 0, t, x, y, b, h, d => by cases h
  | k + 1, t, x, y, b, h, d => by
    rw [show k + 1 + d = (k + d) + 1 from by omega]
    unfold eqM at h
    split at h
    · rename_i ht
      cases h
      simp [Op.equalIn, run_underlying ht]
    · rename_i ht
      split at h
      · rename_i hk
        cases h
        simp [Op.equalIn, run_underlying ht, hk]
      · cases h
    · rename_i ht
      cases h
      simp [Op.equalIn, run_underlying ht]
    · rename_i fs xs ys ht
      split at h
      · cases h
      · rename_i hs
        simp only [Op.equalIn, Sem.run_bind, run_underlying ht, Result.andThen_ok]
        simp [hs]
        rw [← Array.forIn_toList]
        have := forFs w (k := k + d) (f := eqM P k) (fun t x y b h => eqM_run w k t x y b h d) xs ys fs.toList b h
        rw [this]
        cases b <;> simp
    · rename_i len e xs ys ht
      split at h
      · rename_i i hi
        have hsz : (sizeOf e).run P w = .ok i.size w := by simp [sizeOf, run_typeInfo w hi]
        simp only [Op.equalIn, Sem.run_bind, run_underlying ht, Result.andThen_ok, hsz]
        simp [Std.Legacy.Range.forIn_eq_forIn_range', Std.Legacy.Range.size]
        have := forAs w (k := k + d) (n := i.size) (e := e) (f := eqM P k) (fun t x y b h => eqM_run w k t x y b h d) xs ys (List.range' 0 len) b h
        rw [this]
        cases b <;> simp
      · cases h
    · cases h

def intsOnly : Value → Bool
  | .agg cs => cs.toList.all fun v => match v with | .int _ _ => true | .bool _ => true | .string _ => true | _ => false
  | _ => false
def evEqAgg (P : Program) (op : BinOp) (t : TypeId) (x y : Value) (s : St) : Option Out :=
  match intsOnly x && intsOnly y && !P.eqGuardType P.depth t with
  | true => match eqM P 6 t x y, op with
    | some b, .eql => some (.bool b, s, 0, 0)
    | some b, .neq => some (.bool (!b), s, 0, 0)
    | _, _ => none
  | false => none
theorem intsOnly_ground {v : Value} (h : intsOnly v = true) : ground 8 v = true := by
  cases v with
  | agg cs =>
    simp only [intsOnly] at h
    simp only [ground]
    rw [List.all_eq_true] at h ⊢
    intro x hx
    have := h x hx
    cases x <;> simp_all [ground]
  | _ => simp [intsOnly] at h
theorem evEqAgg_snd {o : Oper} {vals : Operand → Value} {op : BinOp} {t ty : TypeId} {x y : Operand} {v : Value} (ho : o.op = .binOp op t x y ty) (h : evEqAgg P op t (vals x) (vals y) s = some (v, s1, R, W)) : SndO P rd o vals s v s1 R W := by
  unfold evEqAgg at h
  split at h
  · rename_i hc
    simp only [Bool.and_eq_true, Bool.not_eq_true'] at hc
    obtain ⟨⟨c1, c2⟩, c3⟩ := hc
    have key : ∀ b, eqM P 6 t (vals x) (vals y) = some b → op = .eql ∨ op = .neq → SndO P rd o vals s (.bool (if op = .eql then b else !b)) s 0 0 := fun b hb hop =>
      sndO_still (fun c => by rw [ho]; simp) fun ρ C ev w _ _ _ hxs => by
        have h1 := ground_eq 8 (intsOnly_ground c1) (hxs x (by simp [ho, Op.operands]))
        have h2 := ground_eq 8 (intsOnly_ground c2) (hxs y (by simp [ho, Op.operands]))
        have he : (Op.equal t (vals x) (vals y)).run P w = .ok b w := by
          have := eqM_run (P := P) w 6 t (vals x) (vals y) b hb 9994
          simpa [Op.equal, Op.maxDepth] using this
        refine ⟨.bool (if op = .eql then b else !b), ?_, .bool _⟩
        simp only [execOp, ho, h1, h2]
        generalize vals x = u at *
        generalize vals y = v at *
        cases u with
        | agg xs => cases v with
          | agg ys =>
            rcases hop with rfl | rfl <;> simp [eqGuard, c3, binOp, he]
          | _ => simp [intsOnly] at c2
        | _ => simp [intsOnly] at c1
    split at h
    · rename_i b hb
      cases h
      have := key b hb (.inl rfl)
      simpa using this
    · rename_i b hb
      cases h
      have := key b hb (.inr rfl)
      simpa using this
    · cases h
  · cases h
end Mini
end Go.Proofs.YtbkpnhbcihcgaaaGreatDoor
end
section
namespace Go.Proofs.YtbkpnhbcihcgaaaGreatDoor
set_option linter.all false
namespace Mini
variable {P : Program} {rd : Option Nat} {s s1 : St} {R W : Nat}

def nrm : MObj → MObj
  | .rows n k g e opn sz ro => .cells (rowsL n k g) e opn sz ro
  | o => o
theorem or_nrm {ρ : Ren} {L : Loc} {o : MObj} {o' : Obj} : OR ρ L (nrm o) o' ↔ OR ρ L o o' := by
  cases o <;> first | rfl | (cases o' <;> exact Iff.rfl)
theorem or_congr {ρ : Ren} {L : Loc} {o o2 : MObj} {o' : Obj} (h : nrm o = nrm o2) (g : OR ρ L o o') : OR ρ L o2 o' := or_nrm.1 (h ▸ or_nrm.2 g)
theorem nrm_hole {o o2 : MObj} (h : nrm o = nrm o2) (g : o2 ≠ .hole) : o ≠ .hole := by
  intro e
  subst e
  cases o2 <;> simp [nrm] at h g
theorem nrm_ro {o o2 : MObj} (h : nrm o = nrm o2) : roO o = roO o2 := by
  have k : ∀ o, roO (nrm o) = roO o := fun o => by cases o <;> rfl
  rw [← k o, ← k o2, h]
theorem wrel_congr {ρ : Ren} {C C2 : Nat → MObj} {w : World} (h : ∀ b, nrm (C b) = nrm (C2 b)) (g : WRel ρ C w) : WRel ρ C2 w :=
  ⟨fun b hb => let ⟨L, o', a, c, d⟩ := g.1 b (nrm_hole (h b) hb); ⟨L, o', a, c, or_congr (h b) d⟩,
   fun b b' L L' h1 h2 hq e1 e2 he => g.2 b b' L L' (nrm_hole (h b) h1) (nrm_hole (h b') h2) (by rw [nrm_ro (h b), nrm_ro (h b')]; exact hq) e1 e2 he⟩
theorem Post.congr {ρ ρ1 : Ren} {s s1 s' s1' : St} {W : Nat} {w w1 : World} (h : s'.next = s.next) (h1 : s1'.next = s1.next) (p : Post ρ s' s1' W w ρ1 w1) : Post ρ s s1 W w ρ1 w1 :=
  ⟨p.sub, fun b hb => by have := p.dom b hb; omega, fun b L a c => (p.fresh b L a c).imp id fun ⟨b0, L0, x1, x2, x3⟩ => ⟨b0, L0, x1, h ▸ x2, x3⟩, p.size, fun x hx hf => p.frame x hx fun b L a c => hf b L a (h ▸ c), p.os, p.tape, p.output⟩
theorem SndO.norm {o : Oper} {vals : Operand → Value} {v : Value} {s' s1' : St} (h : SndO P rd o vals s' v s1' R W) (hn : s'.next = s.next) (hn1 : s1'.next = s1.next) (he : ∀ b, nrm (s'.get b) = nrm (s.get b)) (he1 : ∀ b, nrm (s1'.get b) = nrm (s1.get b)) (hS : Stat s s1 W) : SndO P rd o vals s v s1 R W := by
  refine ⟨hS, fun n ro ρ C a' w next Q hp hv hQ => ?_⟩
  let C2 : Nat → MObj := fun b => if (R ||| W).testBit b = true ∧ b < s.next then s'.get b else C b
  have hC : ∀ b, nrm (C b) = nrm (C2 b) := fun b => by
    by_cases c : (R ||| W).testBit b = true ∧ b < s.next
    · rw [show C2 b = s'.get b from if_pos c, hp.agree b c.1 c.2, he b]
    · rw [show C2 b = C b from if_neg c]
  refine h.2 n ro ρ C2 a' w next Q ⟨hp.glob, hp.round, fun b hb hlt => if_pos ⟨hb, hn ▸ hlt⟩, fun b h1 h2 => ?_, wrel_congr hC hp.rel⟩ hv fun ρ1 v' w1 p1 r1 hv1 => ?_
  · obtain ⟨k1, k2⟩ := hp.free b (by omega) (by omega)
    exact ⟨k1, by rw [show C2 b = C b from if_neg (by rintro ⟨_, c⟩; omega)]; exact k2⟩
  · refine hQ ρ1 v' w1 (p1.congr hn hn1) (wrel_congr (fun b => ?_) r1) hv1
    have hc : ((s'.next ≤ b ∧ b < s1'.next) ∨ (W.testBit b = true ∧ b < s'.next)) ↔ ((s.next ≤ b ∧ b < s1.next) ∨ (W.testBit b = true ∧ b < s.next)) := by rw [hn, hn1]
    by_cases c : (s.next ≤ b ∧ b < s1.next) ∨ (W.testBit b = true ∧ b < s.next)
    · rw [show upd C2 s' s1' W b = s1'.get b from if_pos (hc.2 c), show upd C s s1 W b = s1.get b from if_pos c]
      exact he1 b
    · rw [show upd C2 s' s1' W b = C2 b from if_neg (fun x => c (hc.1 x)), show upd C s s1 W b = C b from if_neg c]
      exact (hC b).symm
theorem norm_put {b : Nat} {o2 : MObj} (hb : s.get b ≠ .hole) (h : nrm o2 = nrm (s.get b)) (x : Nat) : nrm ((s.put b o2).get x) = nrm (s.get x) := by
  by_cases e : x = b
  · subst e; rw [St.get_put_same s x o2 hb]; exact h
  · rw [St.get_put_other s b x o2 (St.lt_of_live hb) (Ne.symm e)]

theorem div_row {i k kk : Nat} (h : k < kk) : (i * kk + k) / kk = i ∧ (i * kk + k) % kk = k := by
  have hp : 0 < kk := by omega
  constructor
  · rw [Nat.mul_comm, Nat.mul_add_div hp, Nat.div_eq_of_lt h, Nat.add_zero]
  · rw [Nat.mul_comm, Nat.mul_add_mod, Nat.mod_eq_of_lt h]
theorem row_lt {i k kk n : Nat} (h : k < kk) (hi : i < n) : i * kk + k < n * kk := by
  have : (i + 1) * kk ≤ n * kk := Nat.mul_le_mul_right _ hi
  rw [Nat.add_mul] at this
  omega
theorem rowsIK {n kk i k : Nat} {g : Nat → Nat → Value} (h : k < kk) (hi : i < n) : (rowsL n kk g)[i * kk + k]? = some (g i k) := by
  rw [rowsL_at (row_lt h hi), (div_row h).1, (div_row h).2]
def aggRow (g : Nat → Nat → Value) (i k m : Nat) : Array Value := ((List.range m).map fun j => g i (k + j)).toArray
theorem cut_row {n kk i k m : Nat} {g : Nat → Nat → Value} (h : k + m ≤ kk) (hi : i < n) : cut (rowsL n kk g) (i * kk + k) m = aggRow g i k m := by
  apply Array.ext'
  simp only [cut, aggRow]
  apply List.ext_getElem?
  intro j
  rw [List.getElem?_take, List.getElem?_drop]
  by_cases c : j < m
  · rw [if_pos c, Nat.add_assoc, rowsIK (by omega) hi]
    simp [c]
  · rw [if_neg c]
    simp [Nat.not_lt.1 c]

def rowLoad (P : Program) (s : St) (t : TypeId) (i k : Nat) : Value → Option (Value × Nat × Prop)
  | .pointer (some ⟨b, off, none⟩) => match s.get b with
    | .rows n kk g _ _ _ _ => match aggT P t with
      | some true => match P.info? t with
        | some ti => match decide (k + ti.size ≤ kk) with
          | true => some (.agg (aggRow g i k ti.size), 2 ^ b, off = i * kk + k ∧ i < n)
          | false => none
        | none => none
      | some false => match decide (k < kk) with
        | true => some (g i k, 2 ^ b, off = i * kk + k ∧ i < n)
        | false => none
      | none => none
    | _ => none
  | _ => none
theorem rowLoad_snd {o : Oper} {vals : Operand → Value} {t : TypeId} {x : Operand} {i k : Nat} {v : Value} {R0 : Nat} {p : Prop} (ho : o.op = .load t x) (h : rowLoad P s t i k (vals x) = some (v, R0, p)) (hp : p) : SndO P rd o vals s v s R0 0 := by
  have key : ∃ b off n kk g e opn sz ro, vals x = .pointer (some ⟨b, off, none⟩) ∧ s.get b = .rows n kk g e opn sz ro ∧ loadM P (s.put b (.cells (rowsL n kk g) e opn sz ro)) t (vals x) = some (v, R0) := by
    unfold rowLoad at h
    split at h
    · rename_i b off hx
      split at h
      · rename_i n kk g e opn sz ro hb
        refine ⟨b, off, n, kk, g, e, opn, sz, ro, hx, hb, ?_⟩
        have hbl : s.get b ≠ .hole := by rw [hb]; simp
        unfold loadM
        rw [hx]
        simp only [St.get_put_same s b _ hbl]
        split at h
        · rename_i ht
          split at h
          · rename_i ti hi
            split at h
            · rename_i hk
              have hk := of_decide_eq_true hk
              simp only [Option.some.injEq, Prod.mk.injEq] at h
              obtain ⟨rfl, rfl, rfl⟩ := h
              obtain ⟨rfl, hin⟩ := hp
              simp only [ht, hi]
              rw [if_pos (by
                rw [rowsL_len]
                have : (i + 1) * kk ≤ n * kk := Nat.mul_le_mul_right _ hin
                rw [Nat.add_mul] at this
                omega), cut_row hk hin]
            · cases h
          · cases h
        · rename_i ht
          split at h
          · rename_i hk
            have hk := of_decide_eq_true hk
            simp only [Option.some.injEq, Prod.mk.injEq] at h
            obtain ⟨rfl, rfl, rfl⟩ := h
            obtain ⟨rfl, hin⟩ := hp
            simp only [ht, rowsIK hk hin]
          · cases h
        · cases h
      · cases h
    · cases h
  obtain ⟨b, off, n, kk, g, e, opn, sz, ro, hx, hb, hl⟩ := key
  have hbl : s.get b ≠ .hole := by rw [hb]; simp
  have hN := norm_put (o2 := .cells (rowsL n kk g) e opn sz ro) hbl (by rw [hb]; rfl)
  exact (sndO_load (rd := rd) ho hl).norm (s1 := s) rfl rfl hN hN (Stat.refl s)

def rowIndex (P : Program) (s : St) (t : TypeId) (i : Nat) (x y : Value) : Option (Value × Prop) :=
  match P.underlying t, x, y with
  | some (.slice e), .slice (some ⟨b, off, none⟩) n _, .int _ j => match P.info? e with
    | some ti => some (.pointer (some ⟨b, off + i * ti.size, none⟩), j = (i : Int) ∧ i < n)
    | none => none
  | _, _, _ => none
theorem rowIndex_snd {o : Oper} {vals : Operand → Value} {t : TypeId} {x y : Operand} {i : Nat} {v : Value} {p : Prop} (ho : o.op = .indexAddr t x y) (h : rowIndex P s t i (vals x) (vals y) = some (v, p)) (hp : p) : SndO P rd o vals s v s 0 0 := by
  unfold rowIndex at h
  split at h
  · rename_i e b off n c k j ht hx hy
    split at h
    · rename_i ti hi
      simp only [Option.some.injEq, Prod.mk.injEq] at h
      obtain ⟨rfl, rfl⟩ := h
      obtain ⟨rfl, hin⟩ := hp
      have := sndO_indexSlice (P := P) (rd := rd) (s := s) (vals := vals) ho ht hi hy ⟨by omega, by omega⟩ hx
      simpa using this
    · cases h
  · cases h

def setRow (g : Nat → Nat → Value) (i k : Nat) (vs : List Value) : Nat → Nat → Value := fun a j => if a = i ∧ k ≤ j ∧ j < k + vs.length then vs.getD (j - k) (.chan none) else g a j
theorem setL_at : ∀ (vs : List Value) (c : List Value) (o j : Nat), o + vs.length ≤ c.length → (setL c o vs)[j]? = if o ≤ j ∧ j < o + vs.length then vs[j - o]? else c[j]?
  | [], c, o, j, h => by simp only [setL, List.length_nil]; rw [if_neg (by omega)]
  | v :: vs, c, o, j, h => by
    simp only [List.length_cons] at h ⊢
    rw [setL, setL_at vs (c.set o v) (o + 1) j (by simp; omega)]
    by_cases e : j = o
    · subst e
      rw [if_neg (by omega), if_pos (by omega), List.getElem?_set_self (by omega)]
      simp
    · by_cases c2 : o + 1 ≤ j ∧ j < o + 1 + vs.length
      · rw [if_pos c2, if_pos (by omega), show j - o = (j - (o + 1)) + 1 from by omega]
        simp
      · rw [if_neg c2, if_neg (by omega), List.getElem?_set_ne (Ne.symm e)]
theorem setL_row {n kk i k : Nat} {g : Nat → Nat → Value} {vs : List Value} (h : k + vs.length ≤ kk) (hi : i < n) : setL (rowsL n kk g) (i * kk + k) vs = rowsL n kk (setRow g i k vs) := by
  have hlt : i * kk + kk ≤ n * kk := by
    have : (i + 1) * kk ≤ n * kk := Nat.mul_le_mul_right _ hi
    rwa [Nat.add_mul, Nat.one_mul] at this
  apply List.ext_getElem?
  intro j
  rw [setL_at _ _ _ _ (by rw [rowsL_len]; omega)]
  by_cases hj : j < n * kk
  · rw [rowsL_at hj, rowsL_at hj]
    have hkk : 0 < kk := by
      rcases Nat.eq_zero_or_pos kk with c | c
      · rw [c] at hj; simp at hj
      · exact c
    have hdm := Nat.div_add_mod j kk
    have hmod := Nat.mod_lt j hkk
    unfold setRow
    by_cases c : i * kk + k ≤ j ∧ j < i * kk + k + vs.length
    · have e1 : j / kk = i := by
        have : j = i * kk + (j - i * kk) := by omega
        rw [this]; exact (div_row (by omega)).1
      have e2 : j % kk = j - i * kk := by
        have : j = i * kk + (j - i * kk) := by omega
        rw [this]; rw [(div_row (by omega)).2]; omega
      rw [if_pos c, if_pos ⟨e1, by omega, by omega⟩, e2, List.getD_eq_getElem?_getD, show j - (i * kk + k) = j - i * kk - k from by omega]
      have : j - i * kk - k < vs.length := by omega
      rw [List.getElem?_eq_getElem this]; rfl
    · rw [if_neg c, if_neg (by
        rintro ⟨e1, e2, e3⟩
        rw [e1, Nat.mul_comm] at hdm
        omega)]
  · rw [if_neg (by omega), List.getElem?_eq_none (by rw [rowsL_len]; omega), List.getElem?_eq_none (by rw [rowsL_len]; omega)]
def rowStore (P : Program) (s : St) (t : TypeId) (i k : Nat) (a x : Value) : Option (St × Nat × Prop) :=
  match P.info? t, a with
  | some ti, .pointer (some ⟨b, off, none⟩) => match s.get b with
    | .rows n kk g e opn sz false => match (x.cells.size == ti.size) && decide (k + ti.size ≤ kk) && x.cells.toList.all oneL with
      | true => some (s.put b (.rows n kk (setRow g i k x.cells.toList) e opn sz false), 2 ^ b, off = i * kk + k ∧ i < n)
      | false => none
    | _ => none
  | _, _ => none
theorem rowStore_snd {o : Oper} {vals : Operand → Value} {t : TypeId} {a x : Operand} {i k : Nat} {W0 : Nat} {p : Prop} (ho : o.op = .store t a x) (h : rowStore P s t i k (vals a) (vals x) = some (s1, W0, p)) (hp : p) : SndO P rd o vals s undef s1 0 W0 := by
  unfold rowStore at h
  split at h
  · rename_i ti b off hi ha
    split at h
    · rename_i n kk g e opn sz hb
      split at h
      · rename_i hc
        simp only [Option.some.injEq, Prod.mk.injEq] at h
        obtain ⟨rfl, rfl, rfl⟩ := h
        obtain ⟨rfl, hin⟩ := hp
        simp only [Bool.and_eq_true, beq_iff_eq, decide_eq_true_eq] at hc
        obtain ⟨⟨h1, h2⟩, h3⟩ := hc
        have hbl : s.get b ≠ .hole := by rw [hb]; simp
        have hN := norm_put (o2 := .cells (rowsL n kk g) e opn sz false) hbl (by rw [hb]; rfl)
        have hlt : i * kk + kk ≤ n * kk := by
          have : (i + 1) * kk ≤ n * kk := Nat.mul_le_mul_right _ hin
          rwa [Nat.add_mul, Nat.one_mul] at this
        have hs := sndO_store (P := P) (rd := rd) (s := s.put b (.cells (rowsL n kk g) e opn sz false)) (vals := vals) ho hi ha (St.get_put_same s b _ hbl) h1 (by rw [rowsL_len]; omega) h3
        rw [setL_row (by simpa [h1] using h2) hin] at hs
        refine hs.norm (s := s) rfl rfl hN (fun x => ?_) (stat_put hbl _)
        by_cases ex : x = b
        · subst ex
          rw [St.get_put_same _ _ _ (by rw [St.get_put_same s _ _ hbl]; simp), St.get_put_same s _ _ hbl]; rfl
        · have hlb : b < s.next := St.lt_of_live hbl
          have hlb' : b < (s.put b (MObj.cells (rowsL n kk g) e opn sz false)).next := hlb
          rw [St.get_put_other _ b x _ hlb' (Ne.symm ex), St.get_put_other s b x _ (St.lt_of_live hbl) (Ne.symm ex), St.get_put_other s b x _ (St.lt_of_live hbl) (Ne.symm ex)]
      · cases h
    · cases h
  · cases h

theorem madeCells_rows {z : Array Value} {n k : Nat} (hk : z.size = k) (hz : k ≠ 0) : (madeCells z (n * k)).toList = rowsL n k fun _ j => z.getD j (.chan none) := by
  apply List.ext_getElem?
  intro j
  rw [Array.getElem?_toList]
  by_cases hj : j < n * k
  · rw [rowsL_at hj]
    have hm : j % z.size < z.size := Nat.mod_lt _ (by omega)
    have e : (madeCells z (n * k))[j]? = some z[j % z.size] := by simp [madeCells, hj, getElem!_pos z (j % z.size) hm]
    rw [e]
    subst hk
    simp [Array.getD, hm]
  · rw [Array.getElem?_eq_none (by rw [size_madeCells]; omega), List.getElem?_eq_none (by rw [rowsL_len]; omega)]
def rowMake (P : Program) (s : St) (t : TypeId) (n : Nat) (x y : Value) : Option (Value × St × Prop) :=
  match P.underlying t, x, y with
  | some (.slice e), .int _ l, .int _ c => match P.info? e with
    | some ie => match ie.zero with
      | some z => match ground 12 (.agg z.cells) && (z.cells.size == ie.size) && (ie.size != 0) with
        | true => some (.slice (some ⟨s.next, 0, none⟩) n n, s.push (.rows n ie.size (fun _ j => z.cells.getD j (.chan none)) e false 0 false), l = (n : Int) ∧ c = (n : Int) ∧ (ie.bytes : Int) * n ≤ 281474976710656 ∧ n ≤ 1048576)
        | false => none
      | none => none
    | none => none
  | _, _, _ => none
theorem rowMake_snd {o : Oper} {vals : Operand → Value} {t : TypeId} {x y : Operand} {n : Nat} {v : Value} {p : Prop} (ho : o.op = .makeSlice t x y) (h : rowMake P s t n (vals x) (vals y) = some (v, s1, p)) (hp : p) : SndO P rd o vals s v s1 0 0 := by
  unfold rowMake at h
  split at h
  · rename_i e k1 l k2 c ht hx hy
    split at h
    · rename_i ie hi
      split at h
      · rename_i z hz
        split at h
        · rename_i hc
          simp only [Bool.and_eq_true, beq_iff_eq, bne_iff_ne, ne_eq] at hc
          obtain ⟨⟨hg, hs⟩, h0⟩ := hc
          simp only [Option.some.injEq, Prod.mk.injEq] at h
          obtain ⟨rfl, rfl, rfl⟩ := h
          obtain ⟨rfl, rfl, q1, q2⟩ := hp
          have := sndO_makeSlice (P := P) (rd := rd) (s := s) (vals := vals) ho ht hi hz hg (by omega) hx hy (by omega) (by omega) q1 (by omega)
          simp only [Int.toNat_natCast] at this
          rw [madeCells_rows hs h0] at this
          refine this.norm (s := s) rfl rfl (fun _ => rfl) (fun b => ?_) (stat_push s _)
          rcases Nat.lt_trichotomy b s.next with c | c | c
          · rw [St.get_push_old _ _ _ c, St.get_push_old _ _ _ c]
          · subst c; rw [St.get_push_new, St.get_push_new]; rfl
          · rw [St.get_beyond _ _ (by show s.next + 1 ≤ b; omega), St.get_beyond _ _ (by show s.next + 1 ≤ b; omega)]
        · cases h
      · cases h
    · cases h
  · cases h

theorem cut_whole {l : List Value} {n : Nat} (h : l.length = n) : (cut l 0 n).toList = l := by
  simp [cut, ← h]
def noneIn (s : St) : Option Addr → Option Nat
  | none => some 0
  | some ⟨_, _, some _⟩ => some 0
  | some ⟨b0, 0, none⟩ => match s.get b0 with
    | .cells [] _ false _ _ => some (2 ^ b0)
    | _ => none
  | _ => none
def rowCopy (P : Program) (s : St) (tS tX : TypeId) (x y : Value) : Option (Value × St × Nat × Prop) :=
  match P.underlying tS, P.underlying tX, x, y with
  | some (.slice e), some (.slice _), .slice a 0 0, .slice (some ⟨b, 0, none⟩) n _ => match P.info? e, s.get b with
    | some i, .rows n' k g _ _ _ _ => match i.zero, noneIn s a with
      | some z, some R1 => match (z.cells.size == i.size) && (i.bytes != 0) && (k == i.size) with
        | true => some (.slice (some ⟨s.next, 0, none⟩) n n, s.push (.rows n k g e true k false), 2 ^ b ||| R1, n' = n ∧ n ≠ 0 ∧ n * i.bytes ≤ 140737488355328)
        | false => none
      | _, _ => none
    | _, _ => none
  | _, _, _, _ => none
theorem rowCopy_snd {o : Oper} {c : Call} {vals : Operand → Value} {x y : Operand} {tS tX : TypeId} {v : Value} {p : Prop} (ho : o.op = .call c) (hc : c.callee = .builtin .append) (ha : c.args = #[x, y]) (hat : c.argTypes = #[tS, tX])
    (h : rowCopy P s tS tX (vals x) (vals y) = some (v, s1, R, p)) (hp : p) : SndO P rd o vals s v s1 R 0 := by
  unfold rowCopy at h
  split at h
  · rename_i e e2 a b n c0 htS htX hx hy
    split at h
    · rename_i i n' k g e' opn sz ro hi hb
      split at h
      · rename_i z R1 hz hR
        split at h
        · rename_i hk
          simp only [Bool.and_eq_true, beq_iff_eq, bne_iff_ne, ne_eq] at hk
          obtain ⟨⟨k1, k2⟩, k3⟩ := hk
          simp only [Option.some.injEq, Prod.mk.injEq] at h
          obtain ⟨rfl, rfl, rfl, rfl⟩ := h
          obtain ⟨rfl, hn, hbig⟩ := hp
          subst k3
          have hbl : s.get b ≠ .hole := by rw [hb]; simp
          let s' := s.put b (.cells (rowsL n' i.size g) e' opn sz ro)
          have hsb : s'.get b = .cells (rowsL n' i.size g) e' opn sz ro := St.get_put_same s b _ hbl
          have hE : Elt P tS tX e i z (.slice e2) := ⟨htS, htX, .inr ⟨_, rfl⟩, hi, hz, k1, k2⟩
          have hel : elemsM s' i.size (vals y) = some (n', rowsL n' i.size g, 2 ^ b) := by
            rw [hy]
            simp only [elemsM]
            rw [if_neg hn, hsb]
            simp only [Nat.zero_add]
            rw [if_pos (by rw [rowsL_len]; exact Nat.le_refl _), cut_whole (rowsL_len _ _ _)]
          have hold : ∀ (ρ : Ren) (C : Nat → MObj) (v' : Value) (w : World), WRel ρ C w → (∀ b, R1.testBit b = true → b < s'.next → C b = s'.get b) → VR ρ (vals x) v' →
              ∃ base sCap old, v' = .slice base 0 sCap ∧ ¬ 0 + n' ≤ sCap ∧ (∀ u : World, u.heap = w.heap → (Builtin.firstCells i.size 0 (.slice base 0 sCap)).run P u = .ok old u) ∧ VRs ρ ([] : List Value).toArray old := by
            unfold noneIn at hR
            split at hR
            · cases hR; exact old_none hn (.inl hx)
            · cases hR; exact old_none hn (.inr ⟨_, hx, rfl⟩)
            · rename_i b0
              split at hR
              · rename_i eb szb rb hb0
                cases hR
                have hne : b ≠ b0 := fun e => by rw [e, hb0] at hb; cases hb
                have hb0' : s'.get b0 = .cells [] eb false szb rb := by rw [St.get_put_other s b b0 _ (St.lt_of_live hbl) hne]; exact hb0
                intro ρ C v' w hr ag hv
                have := old_some (s := s') (P := P) (ρ := ρ) (C := C) (w := w) (v' := v') (size := i.size) (n := n') hb0' hx (by simp) (by omega) (Nat.le_refl _) hr ag hv
                simpa [cut] using this
              · cases hR
            · cases hR
          have hG := sndO_grow (rd := rd) (s := s') (sl := 0) (oldl := []) (R1 := R1) ho hc ha hat hE hel (rowsL_len _ _ _) (by simp) (by simpa using hbig) hold
          rw [Nat.zero_add] at hG
          refine hG.norm (s1 := s.push (.rows n' i.size g e true i.size false)) rfl rfl (norm_put hbl (by rw [hb]; rfl)) (fun q => ?_) (stat_push s _)
          rcases Nat.lt_trichotomy q s.next with c | c | c
          · rw [St.get_push_old s _ q c, St.get_push_old s' _ q c]
            exact norm_put hbl (by rw [hb]; rfl) q
          · subst c
            rw [St.get_push_new s]
            have := St.get_push_new s' (.cells ([] ++ rowsL n' i.size g) e true i.size false)
            rw [show s'.next = s.next from rfl] at this
            rw [this]
            rfl
          · rw [St.get_ge (show (s.push _).next ≤ q from c), St.get_ge (show (s'.push _).next ≤ q from c)]
        · cases h
      · cases h
    · cases h
  · cases h
def pushRow (n k : Nat) (g : Nat → Nat → Value) (l : List Value) : Nat → Nat → Value := fun a j => if a < n then g a j else l.getD ((a - n) * k + j) (.chan none)
theorem pushRow_rows {n k m : Nat} {g : Nat → Nat → Value} {l : List Value} (hl : l.length = m * k) : rowsL (n + m) k (pushRow n k g l) = rowsL n k g ++ l := by
  apply List.ext_getElem?
  intro j
  have e : (n + m) * k = n * k + m * k := Nat.add_mul _ _ _
  by_cases h : j < (n + m) * k
  · rw [rowsL_at h]
    have hk : 0 < k := by
      rcases Nat.eq_zero_or_pos k with c | c
      · rw [c] at h; simp at h
      · exact c
    by_cases c : j < n * k
    · rw [List.getElem?_append_left (by rw [rowsL_len]; exact c), rowsL_at c]
      unfold pushRow
      rw [if_pos ((Nat.div_lt_iff_lt_mul hk).2 c)]
    · rw [List.getElem?_append_right (by rw [rowsL_len]; omega), rowsL_len]
      unfold pushRow
      have h1 : n ≤ j / k := (Nat.le_div_iff_mul_le hk).2 (by omega)
      have h2 : (j / k - n) * k + j % k = j - n * k := by
        have := Nat.div_add_mod j k
        rw [Nat.sub_mul, Nat.mul_comm (j / k) k]
        have h3 : n * k ≤ k * (j / k) := by rw [Nat.mul_comm k]; exact Nat.mul_le_mul_right _ h1
        omega
      rw [if_neg (by omega), h2, List.getD_eq_getElem?_getD, List.getElem?_eq_getElem (show j - n * k < l.length by omega)]
      rfl
  · rw [List.getElem?_eq_none (by rw [rowsL_len]; omega), List.getElem?_eq_none (by rw [List.length_append, rowsL_len]; omega)]
def rowPush (P : Program) (s : St) (tS tX : TypeId) (x y : Value) : Option (Value × St × Nat × Nat × Prop) :=
  match P.underlying tS, P.underlying tX, x with
  | some (.slice e), some d, .slice (some ⟨b, 0, none⟩) sl sc => match P.info? e, s.get b with
    | some i, .rows n k g e' true sz false => match i.zero, elemsM (s.put b (.cells (rowsL n k g) e' true sz false)) i.size y with
      | some z, some (m, l, R0) => match isStrSl d && (z.cells.size == i.size) && (i.bytes != 0) && (k == i.size) && (sz == k) && decide (e' = e) && (m != 0) && (l.length == m * k) && l.all oneL with
        | true => some (.slice (some ⟨s.next, 0, none⟩) (n + m) (n + m), (s.put b .hole).push (.rows (n + m) k (pushRow n k g l) e true k false), R0, 2 ^ b, sl = n ∧ sc = n ∧ (n + m) * i.bytes ≤ 140737488355328)
        | false => none
      | _, _ => none
    | _, _ => none
  | _, _, _ => none
theorem rowPush_snd {o : Oper} {c : Call} {vals : Operand → Value} {x y : Operand} {tS tX : TypeId} {v : Value} {p : Prop} (ho : o.op = .call c) (hc : c.callee = .builtin .append) (ha : c.args = #[x, y]) (hat : c.argTypes = #[tS, tX])
    (h : rowPush P s tS tX (vals x) (vals y) = some (v, s1, R, W, p)) (hp : p) : SndO P rd o vals s v s1 R W := by
  unfold rowPush at h
  split at h
  · rename_i e d b sl sc htS htX hx
    split at h
    · rename_i i n k g e' sz hi hb
      split at h
      · rename_i z m l R0 hz hel
        split at h
        · rename_i hk
          simp only [Bool.and_eq_true, beq_iff_eq, bne_iff_ne, ne_eq, decide_eq_true_eq] at hk
          obtain ⟨⟨⟨⟨⟨⟨⟨⟨k1, k2⟩, k3⟩, k4⟩, k5⟩, k6⟩, k7⟩, k8⟩, k9⟩ := hk
          simp only [Option.some.injEq, Prod.mk.injEq] at h
          obtain ⟨rfl, rfl, rfl, rfl, rfl⟩ := h
          obtain ⟨rfl, rfl, hbig⟩ := hp
          subst k4 k5 k6
          have hbl : s.get b ≠ .hole := by rw [hb]; simp
          let s' := s.put b (.cells (rowsL sc i.size g) e' true i.size false)
          have hsb : s'.get b = .cells (rowsL sc i.size g) e' true i.size false := St.get_put_same s b _ hbl
          have hbl' : s'.get b ≠ .hole := by rw [hsb]; simp
          have hE : Elt P tS tX e' i z d := ⟨htS, htX, isStrSl_of k1, hi, hz, k2, k3⟩
          have hG := sndO_appendOn (rd := rd) (s := s') ho hc ha hat hE hel k8 k7 hx hsb rfl rfl (by rw [rowsL_len]; omega) (by omega) (Nat.le_refl _) k9 hbig
          refine hG.norm (s1 := (s.put b .hole).push (.rows (sc + m) i.size (pushRow sc i.size g l) e' true i.size false)) rfl rfl (norm_put hbl (by rw [hb]; rfl)) (fun q => ?_) (stat_on hbl _)
          rcases Nat.lt_trichotomy q s.next with c | c | c
          · rw [St.get_push_old (s.put b .hole) _ q c, St.get_push_old (s'.put b .hole) _ q c]
            by_cases e2 : q = b
            · subst e2
              rw [St.get_put_same _ _ _ hbl, St.get_put_same _ _ _ hbl']
            · rw [St.get_put_other s b q _ (St.lt_of_live hbl) (Ne.symm e2), St.get_put_other s' b q _ (St.lt_of_live hbl') (Ne.symm e2), St.get_put_other s b q _ (St.lt_of_live hbl) (Ne.symm e2)]
          · subst c
            have n1 := St.get_push_new (s.put b .hole) (.rows (sc + m) i.size (pushRow sc i.size g l) e' true i.size false)
            have n2 := St.get_push_new (s'.put b .hole) (.cells ((cut (rowsL sc i.size g) 0 (sc * i.size)).toList ++ l) e' true i.size false)
            rw [show (s.put b .hole).next = s.next from rfl] at n1
            rw [show (s'.put b .hole).next = s.next from rfl] at n2
            rw [n1, n2, cut_whole (rowsL_len _ _ _)]
            show MObj.cells _ _ _ _ _ = MObj.cells _ _ _ _ _
            rw [pushRow_rows k8]
          · rw [St.get_ge (show ((s.put b .hole).push _).next ≤ q from c), St.get_ge (show ((s'.put b .hole).push _).next ≤ q from c)]
        · cases h
      · cases h
    · cases h
  · cases h
end Mini
end Go.Proofs.YtbkpnhbcihcgaaaGreatDoor
end
section
namespace Go.Proofs.YtbkpnhbcihcgaaaGreatDoor
set_option linter.all false
namespace Mini
variable {P : Program} {rd : Option Nat} {s s1 : St} {R W : Nat}

structure Less (a a2 : MA) : Prop where
  n : a2.n = a.n
  d : a2.defers = a.defers
  tmps : ∀ t, t < a.n → (∃ r, a2.get t = .chan r) ∨ a2.get t = a.get t
theorem Less.ar {ρ : Ren} {a a2 : MA} (h : Less a a2) {a' : Act} (g : AR ρ a.act a') : AR ρ a2.act a' := by
  refine ⟨⟨?_, fun i v v' h1 h2 => ?_⟩, ?_⟩
  · show a2.tmps.size = _
    rw [a2.tmps_size, h.n, ← a.tmps_size]; exact g.tmps.1
  · have e2 : a2.tmps[i]? = some v := h1
    have hi : i < a2.n := by
      have := (Array.getElem?_eq_some_iff.1 e2).1
      rwa [a2.tmps_size] at this
    rw [a2.tmps_at i hi] at e2
    cases e2
    rcases h.tmps i (h.n ▸ hi) with ⟨r, hr⟩ | hr
    · rw [hr]; exact .junk _ _
    · rw [hr]; exact g.tmps.2 i _ _ (a.tmps_at i (h.n ▸ hi)) h2
  · show DR ρ a2.defers _
    rw [h.d]; exact g.defs
theorem Snd.enter {T : Tr} {a a2 : MA} {a1 : Act} {e : Exit} (h : Snd P rd T a2.act s e a1 s1 R W) (hl : Less a a2) : Snd P rd T a.act s e a1 s1 R W :=
  ⟨h.1, fun n ro ρ C a' w Q hp ha hQ => h.2 n ro ρ C a' w Q hp (hl.ar ha) hQ⟩
theorem Snd.leave {T : Tr} {a : Act} {a1 a2 : MA} {e : Exit} (h : Snd P rd T a s e a1.act s1 R W) (hl : Less a1 a2) : Snd P rd T a s e a2.act s1 R W :=
  ⟨h.1, fun n ro ρ C a' w Q hp ha hQ => h.2 n ro ρ C a' w Q hp ha fun ρ1 a1' w1 p1 r1 ha1 => hQ ρ1 a1' w1 p1 r1 (hl.ar ha1)⟩
def bitOf (m t : Nat) : Bool := Nat.beq (Nat.land (Nat.shiftRight m t) 1) 1
def maskL (m : Nat) (a : MA) : Nat → Nat → List Value
  | 0, _ => []
  | n + 1, t => (match bitOf m t with
    | true => a.get t
    | false => .chan none) :: maskL m a n (t + 1)
def maskA (m : Nat) (a : MA) : MA := MA.ofL a.n (maskL m a a.n 0) a.defers
theorem maskL_len (m : Nat) (a : MA) : ∀ n t, (maskL m a n t).length = n
  | 0, _ => rfl
  | n + 1, t => by simp [maskL, maskL_len m a n (t + 1)]
theorem maskL_at (m : Nat) (a : MA) : ∀ n t i, i < n → (maskL m a n t).getD i undef = match bitOf m (t + i) with
    | true => a.get (t + i)
    | false => .chan none
  | 0, t, i, h => by omega
  | n + 1, t, 0, h => by simp [maskL]
  | n + 1, t, i + 1, h => by
    rw [maskL, List.getD_cons_succ, maskL_at m a n (t + 1) i (by omega), show t + 1 + i = t + (i + 1) from by omega]
theorem maskA_get (m : Nat) (a : MA) {t : Nat} (h : t < a.n) : (maskA m a).get t = match bitOf m t with
    | true => a.get t
    | false => .chan none := by
  unfold maskA
  rw [MA.ofL_get _ _ _ (by rw [maskL_len]; exact Nat.le_refl _) t h, maskL_at m a a.n 0 t h, Nat.zero_add]
theorem less_mask (m : Nat) (a : MA) : Less a (maskA m a) := ⟨rfl, rfl, fun t ht => by
  rw [maskA_get m a ht]
  split
  · exact .inr rfl
  · exact .inl ⟨_, rfl⟩⟩

def wS (N : Nat) (l : List MObj) : St := l.foldl St.push ⟨N, .leaf, []⟩
theorem none_get (N b : Nat) : St.get ⟨N, .leaf, []⟩ b = .hole := by
  unfold St.get
  have h : ∀ h n, lookT h .leaf n = .hole := fun h n => by cases h <;> rfl
  split
  · split
    · exact h _ _
    · rfl
  · rfl
theorem fold_next : ∀ (l : List MObj) (s : St), (l.foldl St.push s).next = s.next + l.length
  | [], s => rfl
  | o :: l, s => by
    rw [List.foldl_cons, fold_next l (s.push o)]
    show s.next + 1 + l.length = s.next + (l.length + 1)
    omega
theorem fold_old : ∀ (l : List MObj) (s : St) (b : Nat), b < s.next → (l.foldl St.push s).get b = s.get b
  | [], s, b, h => rfl
  | o :: l, s, b, h => by
    rw [List.foldl_cons, fold_old l (s.push o) b (Nat.lt_succ_of_lt h), St.get_push_old s o b h]
theorem fold_new : ∀ (l : List MObj) (s : St) (i : Nat), i < l.length → (l.foldl St.push s).get (s.next + i) = l.getD i .hole
  | [], s, i, h => absurd h (by simp)
  | o :: l, s, 0, h => by
    rw [List.foldl_cons, Nat.add_zero, fold_old l (s.push o) s.next (Nat.lt_succ_self _), St.get_push_new]
    rfl
  | o :: l, s, i + 1, h => by
    rw [List.foldl_cons, List.getD_cons_succ, show s.next + (i + 1) = (s.push o).next + i from by show _ = s.next + 1 + i; omega]
    exact fold_new l (s.push o) i (by simpa using h)
theorem wS_next (N : Nat) (l : List MObj) : (wS N l).next = N + l.length := fold_next l ⟨N, .leaf, []⟩
theorem wS_low (N : Nat) (l : List MObj) {b : Nat} (h : b < N) : (wS N l).get b = .hole := (fold_old l ⟨N, .leaf, []⟩ b h).trans (none_get N b)
theorem wS_get (N : Nat) (l : List MObj) (i : Nat) : (wS N l).get (N + i) = l.getD i .hole := by
  rcases Nat.lt_or_ge i l.length with h | h
  · exact fold_new l ⟨N, .leaf, []⟩ i h
  · rw [St.get_ge (by rw [wS_next]; omega)]
    simp [List.getD, List.getElem?_eq_none h]
def getL (s : St) (b : Nat) : Nat → List MObj
  | 0 => []
  | k + 1 => s.get b :: getL s (b + 1) k
theorem getL_at (s : St) : ∀ (k b i : Nat), i < k → s.get (b + i) = (getL s b k).getD i .hole
  | 0, b, i, h => by omega
  | k + 1, b, 0, h => rfl
  | k + 1, b, i + 1, h => by
    rw [getL, List.getD_cons_succ, ← getL_at s k (b + 1) i (by omega), show b + 1 + i = b + (i + 1) from by omega]


theorem Snd.same {T : Tr} {a a1 : Act} {e : Exit} {s0 : St} (h : Snd P rd T a s0 e a1 s1 R W) (hn : s.next = s0.next) (hg : ∀ b, s.get b = s0.get b) : Snd P rd T a s e a1 s1 R W := by
  obtain ⟨hS, h⟩ := h
  refine ⟨⟨by rw [hn]; exact hS.1, fun b hb hw => by rw [hg]; exact hS.2 b (hn ▸ hb) hw⟩, fun n ro ρ C a' w Q hp ha hQ => ?_⟩
  refine h n ro ρ C a' w Q ⟨hp.glob, hp.round, fun b hb hlt => by rw [← hg]; exact hp.agree b hb (hn.symm ▸ hlt), fun b h1 h2 => hp.free b (by rw [hn]; exact h1) h2, hp.rel⟩ ha fun ρ1 a1' w1 p1 r1 h1 => hQ ρ1 a1' w1 ?_ ?_ h1
  · exact ⟨p1.sub, fun b hb => by rw [hn]; exact p1.dom b hb, fun b L h1 h2 => (p1.fresh b L h1 h2).imp id fun ⟨b0, L0, x1, x2, x3⟩ => ⟨b0, L0, x1, by rw [hn]; exact x2, x3⟩, p1.size, fun x hx hf => p1.frame x hx fun b L a c => hf b L a (by rw [hn]; exact c), p1.os, p1.tape, p1.output⟩
  · have : upd C s s1 W = upd C s0 s1 W := by unfold upd; rw [hn]
    rw [this]; exact r1
def LoopAt (m : Nat) (a A0 : MA) (N : Nat) (s : St) (L0 : List MObj) : Prop := maskA m a = A0 ∧ s.next = N + L0.length ∧ getL s 0 (N + L0.length) = List.replicate N .hole ++ L0
theorem loop_at {T : Tr} {m N : Nat} {a A0 : MA} {a1 : Act} {e : Exit} {L0 : List MObj} (h : Snd P rd T A0.act (wS N L0) e a1 s1 R W) (hl : LoopAt m a A0 N s L0) : Snd P rd T a.act s e a1 s1 R W := by
  obtain ⟨h1, h2, h3⟩ := hl
  refine Snd.enter (Snd.same h (by rw [wS_next]; exact h2) fun b => ?_) (h1 ▸ less_mask m a)
  rcases Nat.lt_or_ge b (N + L0.length) with c | c
  · have e1 := getL_at s (N + L0.length) 0 b c
    rw [Nat.zero_add, h3] at e1
    rw [e1]
    simp only [List.getD_eq_getElem?_getD]
    rcases Nat.lt_or_ge b N with c2 | c2
    · rw [wS_low _ _ c2, List.getElem?_append_left (by simpa using c2)]
      simp [c2]
    · rw [List.getElem?_append_right (by simpa using c2)]
      have := wS_get N L0 (b - N)
      rw [show N + (b - N) = b from by omega] at this
      rw [this, List.getD_eq_getElem?_getD]
      simp
  · rw [St.get_ge (by rw [h2]; exact c), St.get_ge (by rw [wS_next]; exact c)]
end Mini
end Go.Proofs.YtbkpnhbcihcgaaaGreatDoor
end
section
namespace Go.Proofs.YtbkpnhbcihcgaaaGreatDoor
set_option linter.all false
namespace Mini
variable {P : Program} {rd : Option Nat} {s s1 : St} {R W : Nat}
theorem rowsL_congrY {n k : Nat} {g h : Nat → Nat → Value} (e : ∀ i j, i < n → j < k → g i j = h i j) : rowsL n k g = rowsL n k h := by
  apply List.ext_getElem?
  intro q
  by_cases hq : q < n * k
  · have hk : 0 < k := by
      rcases Nat.eq_zero_or_pos k with c | c
      · rw [c] at hq; simp at hq
      · exact c
    rw [rowsL_at hq, rowsL_at hq, e _ _ ((Nat.div_lt_iff_lt_mul hk).2 hq) (Nat.mod_lt _ hk)]
  · rw [List.getElem?_eq_none (by rw [rowsL_len]; omega), List.getElem?_eq_none (by rw [rowsL_len]; omega)]
def catRow (n : Nat) (g g2 : Nat → Nat → Value) : Nat → Nat → Value := fun a j => if a < n then g a j else g2 (a - n) j
theorem catRow_rows {n m k : Nat} {g g2 : Nat → Nat → Value} : rowsL (n + m) k (catRow n g g2) = rowsL n k g ++ rowsL m k g2 := by
  rw [← pushRow_rows (l := rowsL m k g2) (rowsL_len _ _ _)]
  refine rowsL_congrY fun a j ha hj => ?_
  unfold catRow pushRow
  by_cases c : a < n
  · rw [if_pos c, if_pos c]
  · have h1 : (a - n) * k + j < m * k := by
      have : (a - n + 1) * k ≤ m * k := Nat.mul_le_mul_right k (by omega)
      rw [Nat.succ_mul] at this
      omega
    rw [if_neg c, if_neg c, List.getD_eq_getElem?_getD, rowsL_at h1, (div_row hj).1, (div_row hj).2]
    rfl
def rowCat (P : Program) (s : St) (tS tX : TypeId) (x y : Value) : Option (Value × St × Nat × Nat × Prop) :=
  match P.underlying tS, P.underlying tX, x, y with
  | some (.slice e), some (.slice _), .slice (some ⟨b, 0, none⟩) sl sc, .slice (some ⟨b2, 0, none⟩) m _ => match P.info? e, s.get b, s.get b2 with
    | some i, .rows n k g e' true sz false, .rows m' k' g2 _ _ _ _ => match i.zero with
      | some z => match (z.cells.size == i.size) && (i.bytes != 0) && (k == i.size) && (k' == i.size) && (sz == k) && decide (e' = e) && !(Nat.beq b b2) with
        | true => some (.slice (some ⟨s.next, 0, none⟩) (n + m) (n + m), (s.put b .hole).push (.rows (n + m) k (catRow n g g2) e true k false), 2 ^ b2, 2 ^ b, sl = n ∧ sc = n ∧ m' = m ∧ m ≠ 0 ∧ (n + m) * i.bytes ≤ 140737488355328 ∧ ∀ q j, q < m → j < k → oneL (g2 q j) = true)
        | false => none
      | none => none
    | _, _, _ => none
  | _, _, _, _ => none
theorem rowCat_snd {o : Oper} {c : Call} {vals : Operand → Value} {x y : Operand} {tS tX : TypeId} {v : Value} {p : Prop} (ho : o.op = .call c) (hc : c.callee = .builtin .append) (ha : c.args = #[x, y]) (hat : c.argTypes = #[tS, tX])
    (h : rowCat P s tS tX (vals x) (vals y) = some (v, s1, R, W, p)) (hp : p) : SndO P rd o vals s v s1 R W := by
  unfold rowCat at h
  split at h
  · rename_i e d b sl sc b2 m c2 htS htX hx hy
    split at h
    · rename_i i n k g e' sz m' k' g2 e2 opn2 sz2 ro2 hi hb hb2
      split at h
      · rename_i z hz
        split at h
        · rename_i hk
          simp only [Bool.and_eq_true, beq_iff_eq, bne_iff_ne, ne_eq, decide_eq_true_eq, Bool.not_eq_true'] at hk
          obtain ⟨⟨⟨⟨⟨⟨k2, k3⟩, k4⟩, k4'⟩, k5⟩, k6⟩, k7⟩ := hk
          simp only [Option.some.injEq, Prod.mk.injEq] at h
          obtain ⟨rfl, rfl, rfl, rfl, rfl⟩ := h
          obtain ⟨rfl, rfl, rfl, hm, hbig, hone⟩ := hp
          subst k4 k4' k5 k6
          have hne : b ≠ b2 := fun e => by rw [e, Nat.beq_refl] at k7; cases k7
          have hbl : s.get b ≠ .hole := by rw [hb]; simp
          have hbl2 : s.get b2 ≠ .hole := by rw [hb2]; simp
          let s0 := s.put b2 (.cells (rowsL m' i.size g2) e2 opn2 sz2 ro2)
          have hb0 : s0.get b = .rows sc i.size g e' true i.size false := by rw [St.get_put_other s b2 b _ (St.lt_of_live hbl2) (Ne.symm hne)]; exact hb
          have hbl0 : s0.get b ≠ .hole := by rw [hb0]; simp
          let s' := s0.put b (.cells (rowsL sc i.size g) e' true i.size false)
          have hsb : s'.get b = .cells (rowsL sc i.size g) e' true i.size false := St.get_put_same s0 b _ hbl0
          have hsb2 : s'.get b2 = .cells (rowsL m' i.size g2) e2 opn2 sz2 ro2 := by rw [St.get_put_other s0 b b2 _ (St.lt_of_live hbl0) hne]; exact St.get_put_same s b2 _ hbl2
          have hbl' : s'.get b ≠ .hole := by rw [hsb]; simp
          have hE : Elt P tS tX e' i z (.slice d) := ⟨htS, htX, .inr ⟨_, rfl⟩, hi, hz, k2, k3⟩
          have hel : elemsM s' i.size (vals y) = some (m', rowsL m' i.size g2, 2 ^ b2) := by
            rw [hy]
            simp only [elemsM]
            rw [if_neg hm, hsb2]
            simp only [Nat.zero_add]
            rw [if_pos (by rw [rowsL_len]; exact Nat.le_refl _), cut_whole (rowsL_len _ _ _)]
          have k9 : (rowsL m' i.size g2).all oneL = true := by
            rw [List.all_eq_true]
            intro u hu
            obtain ⟨q, hq, rfl⟩ := List.getElem_of_mem hu
            have hq' : q < m' * i.size := by rw [rowsL_len] at hq; exact hq
            have hz0 : 0 < i.size := by
              rcases Nat.eq_zero_or_pos i.size with c | c
              · rw [c] at hq'; simp at hq'
              · exact c
            have e1 := rowsL_at (g := g2) hq'
            rw [List.getElem?_eq_getElem hq] at e1
            rw [Option.some.inj e1]
            exact hone _ _ ((Nat.div_lt_iff_lt_mul hz0).2 hq') (Nat.mod_lt _ hz0)
          have hG := sndO_appendOn (rd := rd) (s := s') ho hc ha hat hE hel (rowsL_len _ _ _) hm hx hsb rfl rfl (by rw [rowsL_len]; omega) (by omega) (Nat.le_refl _) k9 hbig
          have hnrm : ∀ q, nrm (s'.get q) = nrm (s.get q) := fun q => (norm_put hbl0 (by rw [hb0]; rfl) q).trans (norm_put hbl2 (by rw [hb2]; rfl) q)
          refine hG.norm (s1 := (s.put b .hole).push (.rows (sc + m') i.size (catRow sc g g2) e' true i.size false)) rfl rfl hnrm (fun q => ?_) (stat_on hbl _)
          rcases Nat.lt_trichotomy q s.next with c | c | c
          · rw [St.get_push_old (s.put b .hole) _ q c, St.get_push_old (s'.put b .hole) _ q c]
            by_cases e2 : q = b
            · subst e2
              rw [St.get_put_same _ _ _ hbl, St.get_put_same _ _ _ hbl']
            · rw [St.get_put_other s b q _ (St.lt_of_live hbl) (Ne.symm e2), St.get_put_other s' b q _ (St.lt_of_live hbl') (Ne.symm e2)]
              exact hnrm q
          · subst c
            have n1 := St.get_push_new (s.put b .hole) (.rows (sc + m') i.size (catRow sc g g2) e' true i.size false)
            have n2 := St.get_push_new (s'.put b .hole) (.cells ((cut (rowsL sc i.size g) 0 (sc * i.size)).toList ++ rowsL m' i.size g2) e' true i.size false)
            rw [show (s.put b .hole).next = s.next from rfl] at n1
            rw [show (s'.put b .hole).next = s.next from rfl] at n2
            rw [n1, n2, cut_whole (rowsL_len _ _ _)]
            show MObj.cells _ _ _ _ _ = MObj.cells _ _ _ _ _
            rw [catRow_rows]
          · rw [St.get_ge (show ((s.put b .hole).push _).next ≤ q from c), St.get_ge (show ((s'.put b .hole).push _).next ≤ q from c)]
        · cases h
      · cases h
    · cases h
  · cases h
def rowSlice (P : Program) (s : St) (t : TypeId) (h : Nat) (x : Value) (lo hi mx : Option Value) : Option (Value × Nat × Prop) :=
  match P.underlying t, x, lo with
  | some (.slice e), .slice (some ⟨b, off, none⟩) n c, none => match P.info? e, s.get b with
    | some i, .rows _ _ _ _ opn sz _ => match Bool.or (!opn) (sz == i.size), hi, mx with
      | true, some (.int _ v), none => some (.slice (some ⟨b, off, none⟩) h c, 2 ^ b, v = (h : Int) ∧ h ≤ c ∧ n ≤ c)
      | true, some (.int _ v), some (.int _ w) => some (.slice (some dead) 0 0, 2 ^ b, v = 0 ∧ w = 0 ∧ n ≤ c)
      | _, _, _ => none
    | _, _ => none
  | _, _, _ => none
theorem oneBound_nat {k : IntKind} {m h : Nat} (hh : h ≤ m) : oneBound m (.int k (h : Int)) = some h := by
  unfold oneBound
  simp
  omega
theorem rowSlice_snd {o : Oper} {vals : Operand → Value} {t : TypeId} {x : Operand} {lo hi mx : Option Operand} {h R0 : Nat} {v : Value} {p : Prop} (ho : o.op = .slice t x lo hi mx) (hs : rowSlice P s t h (vals x) (lo.map vals) (hi.map vals) (mx.map vals) = some (v, R0, p)) (hp : p) : SndO P rd o vals s v s R0 0 := by
  unfold rowSlice at hs
  split at hs
  · rename_i e b off n c ht hx hlo
    split at hs
    · rename_i i n' kk g e' opn sz ro hi' hb
      have hbl : s.get b ≠ .hole := by rw [hb]; simp
      have hN := norm_put (o2 := .cells (rowsL n' kk g) e' opn sz ro) hbl (by rw [hb]; rfl)
      have hcell := St.get_put_same s b (.cells (rowsL n' kk g) e' opn sz ro) hbl
      have key : ∀ {l h m : Nat}, (opn = true → sz = i.size) → n ≤ c → isIntO (lo.map vals) = true → isIntO (hi.map vals) = true → isIntO (mx.map vals) = true → boundsM n c (lo.map vals) (hi.map vals) (mx.map vals) = some (l, h, m) → SndO P rd o vals s (subM b off i.size l h m mx.isSome) s (2 ^ b) 0 := fun k1 k2 k3 k4 k5 k6 =>
        (sndO_subSlice (rd := rd) ho ht hi' hx hcell k1 k2 k3 k4 k5 k6).norm (s := s) (s1 := s) rfl rfl hN hN (Stat.refl s)
      split at hs
      · rename_i k1 v0 hk hhi hmx
        simp only [Option.some.injEq, Prod.mk.injEq] at hs
        obtain ⟨rfl, rfl, rfl⟩ := hs
        obtain ⟨rfl, p2, p3⟩ := hp
        have hsz : opn = true → sz = i.size := fun ho => by
          subst ho
          simpa using hk
        have := key (l := 0) (h := h) (m := c) hsz p3 (by rw [hlo]; rfl) (by rw [hhi]; rfl) (by rw [hmx]; rfl) (by
          unfold boundsM
          rw [hlo, hhi, hmx]
          simp only
          rw [oneBound_nat p2])
        have hm : mx.isSome = false := by cases mx with
          | none => rfl
          | some y => simp at hmx
        rw [hm] at this
        simpa [subM] using this
      · rename_i k1 v0 k2 w0 hk hhi hmx
        simp only [Option.some.injEq, Prod.mk.injEq] at hs
        obtain ⟨rfl, rfl, rfl⟩ := hs
        obtain ⟨rfl, rfl, p3⟩ := hp
        have hsz : opn = true → sz = i.size := fun ho => by
          subst ho
          simpa using hk
        have := key (l := 0) (h := 0) (m := 0) hsz p3 (by rw [hlo]; rfl) (by rw [hhi]; rfl) (by rw [hmx]; rfl) (by
          unfold boundsM
          rw [hlo, hhi, hmx]
          have a1 : oneBound c (.int k2 0) = some 0 := oneBound_nat (h := 0) (Nat.zero_le _)
          have a2 : oneBound 0 (.int k1 0) = some 0 := oneBound_nat (h := 0) (Nat.zero_le _)
          simp only [a1, a2])
        have hm : mx.isSome = true := by cases mx with
          | none => simp at hmx
          | some y => rfl
        rw [hm] at this
        simpa [subM] using this
      · cases hs
    · cases hs
  · cases hs

theorem rowsL_pre {m n k : Nat} {g : Nat → Nat → Value} (h : m ≤ n) {i : Nat} {v : Value} (hi : (rowsL m k g)[i]? = some v) : (rowsL n k g)[i]? = some v := by
  rcases Nat.lt_or_ge i (m * k) with c | c
  · have h2 : m * k ≤ n * k := Nat.mul_le_mul_right _ h
    rw [rowsL_at c] at hi
    rw [rowsL_at (by omega)]
    exact hi
  · rw [List.getElem?_eq_none (by rw [rowsL_len]; exact c)] at hi
    cases hi
theorem or_cut {ρ : Ren} {L : Loc} {n m k : Nat} {g : Nat → Nat → Value} {e : TypeId} {sz : Nat} {ro : Bool} {o' : Obj} (h : m ≤ n) (hr : OR ρ L (.rows n k g e true sz ro) o') : OR ρ L (.rows m k g e true sz ro) o' := by
  cases o' <;> simp only [OR] at hr ⊢
  obtain ⟨h1, h2, h3, h4, h5, h6, h7, _⟩ := hr
  refine ⟨h1, h2, h3, h4, ?_, fun i v hi => h6 i v (rowsL_pre h hi), h7, fun hx => by cases hx⟩
  rw [rowsL_len] at h5 ⊢
  have : m * k ≤ n * k := Nat.mul_le_mul_right _ h
  omega
theorem SndO.cutRow {o : Oper} {vals : Operand → Value} {b n m k c : Nat} {g : Nat → Nat → Value} {e : TypeId} (h0 : SndO P rd o vals s (.slice (some ⟨b, 0, none⟩) m c) s R 0) (hb : s.get b = .rows n k g e true k false) (hm : m ≤ n) (hc : c = n) :
    SndO P rd o vals s (.slice (some ⟨b, 0, none⟩) m m) (s.put b (.rows m k g e true k false)) (R ||| 2 ^ b) (2 ^ b) := by
  have hbl : s.get b ≠ .hole := by rw [hb]; simp
  have hlt : b < s.next := St.lt_of_live hbl
  refine ⟨stat_put hbl _, fun n0 ro ρ C a' w next Q hp hv hQ => ?_⟩
  have hCb : C b = .rows n k g e true k false := by rw [hp.agree b (by simp [or_bit, bit_self]) hlt, hb]
  refine h0.2 n0 ro ρ C a' w next Q ⟨hp.glob, hp.round, fun x hx hxl => hp.agree x (by
    rw [or_bit] at hx
    rw [or_bit, or_bit]
    cases hz : R.testBit x with
    | true => rfl
    | false => rw [hz] at hx; simp at hx) hxl, fun x h1 h2 => absurd h1 (by omega), hp.rel⟩ hv fun ρ1 v' w1 p1 r1 hv1 => ?_
  rw [upd_zero] at r1
  obtain ⟨L, o', q1, q2, q3⟩ := r1.1 b (by rw [hCb]; simp)
  rw [hCb] at q3
  refine hQ ρ1 v' w1 ⟨p1.sub, fun x hx => p1.dom x hx, fun x L1 h1 h2 => (p1.fresh x L1 h1 h2).imp id fun ⟨b0, L0, z, _⟩ => by simp at z, p1.size, fun x hx _ => p1.frame x hx fun b1 L1 z => by simp at z, p1.os, p1.tape, p1.output⟩ ⟨fun x hx => ?_, fun x y L1 L2 h1 h2 hq e1 e2 he => ?_⟩ ?_
  · rw [upd_put hbl] at hx ⊢
    by_cases ex : x = b
    · subst ex
      rw [if_pos rfl]
      exact ⟨L, o', q1, q2, or_cut hm q3⟩
    · rw [if_neg ex] at hx ⊢
      exact r1.1 x hx
  · rw [upd_put hbl] at h1 h2 hq
    rw [upd_put hbl] at hq
    have k1 : C x ≠ .hole := by
      by_cases ex : x = b
      · subst ex; rw [hCb]; simp
      · rw [if_neg ex] at h1; exact h1
    have k2 : C y ≠ .hole := by
      by_cases ey : y = b
      · subst ey; rw [hCb]; simp
      · rw [if_neg ey] at h2; exact h2
    have r0 : ∀ z, roO (if z = b then MObj.rows m k g e true k false else C z) = roO (C z) := fun z => by
      by_cases ez : z = b
      · subst ez; rw [if_pos rfl, hCb]; rfl
      · rw [if_neg ez]
    rw [r0, r0] at hq
    exact r1.2 x y L1 L2 k1 k2 hq e1 e2 he
  · cases o' with
    | cells cs e' fr =>
      obtain ⟨z1, z2, z3, z4, z5, _⟩ := q3
      rw [rowsL_len] at z5
      cases hv1 with
      | empty a a' => exact .empty _ _
      | slice b off n1 c1 c' L1 hρ hcc =>
        rw [q1] at hρ
        cases hρ
        refine .slice b 0 m m c' L q1 (.inr ⟨z1, ?_, ?_⟩)
        · rcases hcc with h | h <;> omega
        · rcases hcc with h | h
          · subst h hc
            rw [z2]; omega
          · exact h.2.2
    | _ => simp [OR] at q3
def rowCut (P : Program) (s : St) (t : TypeId) (h : Nat) (x : Value) (lo hi mx : Option Value) : Option (Value × St × Nat × Prop) :=
  match P.underlying t, x, lo, hi, mx with
  | some (.slice e), .slice (some ⟨b, 0, none⟩) n c, none, some (.int _ v), none => match P.info? e, s.get b with
    | some i, .rows n' k g e' true sz false => match Bool.and (sz == k) (sz == i.size) with
      | true => some (.slice (some ⟨b, 0, none⟩) h h, s.put b (.rows h k g e' true sz false), 2 ^ b, v = (h : Int) ∧ h ≤ n ∧ n = n' ∧ c = n')
      | false => none
    | _, _ => none
  | _, _, _, _, _ => none
theorem rowCut_snd {o : Oper} {vals : Operand → Value} {t : TypeId} {x : Operand} {lo hi mx : Option Operand} {h R0 : Nat} {v : Value} {p : Prop} (ho : o.op = .slice t x lo hi mx) (hs : rowCut P s t h (vals x) (lo.map vals) (hi.map vals) (mx.map vals) = some (v, s1, R0, p)) (hp : p) : SndO P rd o vals s v s1 R0 R0 := by
  unfold rowCut at hs
  split at hs
  · rename_i e b n c k1 v0 ht hx hlo hhi hmx
    split at hs
    · rename_i i n' k g e' sz hi' hb
      split at hs
      · rename_i hk
        simp only [Bool.and_eq_true, beq_iff_eq] at hk
        simp only [Option.some.injEq, Prod.mk.injEq] at hs
        obtain ⟨rfl, rfl, rfl, rfl⟩ := hs
        obtain ⟨rfl, p2, rfl, rfl⟩ := hp
        obtain ⟨rfl, hsz⟩ := hk
        have hr : rowSlice P s t h (vals x) (lo.map vals) (hi.map vals) (mx.map vals) = some (.slice (some ⟨b, 0, none⟩) h c, 2 ^ b, ((h : Int) = (h : Int) ∧ h ≤ c ∧ c ≤ c)) := by
          unfold rowSlice
          rw [hx, hlo, hhi, hmx, ht]
          dsimp only
          rw [hi', hb]
          dsimp only
          rw [show (Bool.or (!true) (sz == i.size)) = true by simp [hsz]]
        have h0 := (rowSlice_snd (rd := rd) ho hr ⟨rfl, p2, Nat.le_refl _⟩).cutRow hb p2 rfl
        have e2 : 2 ^ b ||| 2 ^ b = 2 ^ b := Nat.or_self _
        rw [e2] at h0
        exact h0
      · cases hs
    · cases hs
  · cases hs

def rowMake1 (P : Program) (s : St) (t : TypeId) (n : Nat) (x y : Value) : Option (Value × St × Prop) :=
  match P.underlying t, x, y with
  | some (.slice e), .int _ l, .int _ c => match P.info? e with
    | some ie => match ie.zero with
      | some (.int k z) => match Bool.and (ie.size == 1) (ground 12 (.agg (Value.int k z).cells) && ((Value.int k z).cells.size == ie.size) && (ie.size != 0)) with
        | true => some (.slice (some ⟨s.next, 0, none⟩) n n, s.push (.rows n 1 (fun _ _ => .int k z) e false 0 false), l = (n : Int) ∧ c = (n : Int) ∧ (ie.bytes : Int) * n ≤ 281474976710656 ∧ n ≤ 1048576)
        | false => none
      | _ => none
    | none => none
  | _, _, _ => none
theorem rowMake1_snd {o : Oper} {vals : Operand → Value} {t : TypeId} {x y : Operand} {n : Nat} {v : Value} {p : Prop} (ho : o.op = .makeSlice t x y) (h : rowMake1 P s t n (vals x) (vals y) = some (v, s1, p)) (hp : p) : SndO P rd o vals s v s1 0 0 := by
  unfold rowMake1 at h
  split at h
  · rename_i e k1 l k2 c ht hx hy
    split at h
    · rename_i ie hi
      split at h
      · rename_i k z hz
        split at h
        · rename_i hc
          simp only [Bool.and_eq_true, beq_iff_eq] at hc
          obtain ⟨hc1, hc2⟩ := hc
          simp only [Option.some.injEq, Prod.mk.injEq] at h
          obtain ⟨rfl, rfl, rfl⟩ := h
          have hr : rowMake P s t n (vals x) (vals y) = some (.slice (some ⟨s.next, 0, none⟩) n n, s.push (.rows n ie.size (fun _ j => (Value.int k z).cells.getD j (.chan none)) e false 0 false), l = (n : Int) ∧ c = (n : Int) ∧ (ie.bytes : Int) * n ≤ 281474976710656 ∧ n ≤ 1048576) := by
            unfold rowMake
            rw [ht, hx, hy]
            dsimp only
            rw [hi]
            dsimp only
            rw [hz]
            dsimp only
            rw [show (ground 12 (.agg (Value.int k z).cells) && ((Value.int k z).cells.size == ie.size) && (ie.size != 0)) = true by
              simp only [Bool.and_eq_true, beq_iff_eq]; exact hc2]
          refine (rowMake_snd (rd := rd) ho hr hp).norm (s := s) rfl rfl (fun _ => rfl) (fun b => ?_) (stat_push s _)
          rcases Nat.lt_trichotomy b s.next with c0 | c0 | c0
          · rw [St.get_push_old _ _ _ c0, St.get_push_old _ _ _ c0]
          · subst c0
            rw [St.get_push_new, St.get_push_new]
            simp only [nrm]
            rw [hc1]
            refine congrArg (fun q => MObj.cells q e false 0 false) (rowsL_congrY fun i j _ hj => ?_)
            have : j = 0 := by omega
            subst this
            rfl
          · rw [St.get_beyond _ _ (by show s.next + 1 ≤ b; omega), St.get_beyond _ _ (by show s.next + 1 ≤ b; omega)]
        · cases h
      · cases h
    · cases h
  · cases h

end Mini
end Go.Proofs.YtbkpnhbcihcgaaaGreatDoor
end
