/-
  Operations: append, copy, bytes and strings, by the small world's words.
-/
import Derived.Test.YtgloclcbeohkhaaGreatDoorMiniG
namespace Go.Proofs.YtgloclcbeohkhaaGreatDoor
set_option linter.all false
namespace Mini
variable {P : Program} {rd : Option Nat} {s s1 : St} {R W : Nat} {ro : Option Nat} {ρ : Ren} {C : Nat → MObj} {w : World}

theorem exec_append {o : Oper} {c : Call} {x y : Operand} {tS tX : TypeId} (h : o.op = .call c) (hc : c.callee = .builtin .append) (ha : c.args = #[x, y]) (hat : c.argTypes = #[tS, tX]) (ev : Operand → Value) (w : World) :
    (execOp ev o).run P w = ((Builtin.append_ #[tS, tX] o.type #[ev x, ev y]).run P w).andThen fun v w' => .ok (.value v) w' := by
  simp [execOp, h, resolve, hc, ha, hat, invoke, builtin]
theorem vrs_append {a b a' b' : Array Value} (h : VRs ρ a a') (g : VRs ρ b b') : VRs ρ (a ++ b) (a' ++ b') := by
  refine ⟨by simp [h.1, g.1], fun i v v' h1 h2 => ?_⟩
  rw [Array.getElem?_append] at h1 h2
  rw [← h.1] at h2
  by_cases c : i < a.size
  · rw [if_pos c] at h1 h2; exact h.2 i v v' h1 h2
  · rw [if_neg c] at h1 h2; exact g.2 _ v v' h1 h2
theorem or_open {l : List Value} {a z : Array Value} (h : VRs ρ l.toArray a) (t : TypeId) (n sz : Nat) : OR ρ ⟨n, 0, true, sz, (a ++ z).size⟩ (.cells l t true sz false) (.cells (a ++ z) t (0, 0)) := by
  have hl : l.length = a.size := by simpa using h.1
  refine ⟨rfl, rfl, fun _ => rfl, rfl, by simp; omega, fun i v hi => ?_, fun _ => .inl rfl, fun hf => by cases hf⟩
  have hlt : i < l.length := (List.getElem?_eq_some_iff.1 hi).1
  have hlt' : i < a.size := hl ▸ hlt
  refine ⟨a[i], ?_, h.2 i v _ (by simpa using hi) (Array.getElem?_eq_getElem hlt')⟩
  simp only [Nat.zero_add]
  rw [Array.getElem?_append_left hlt', Array.getElem?_eq_getElem hlt']
theorem size_zeroCells (z : Array Value) (n : Nat) : (Builtin.zeroCells z n).size = n * z.size := by simp [Builtin.zeroCells]
theorem wrel_drew (h : WRel ρ C w) : WRel ρ C w.drew := h
theorem Pre.drew (h : Pre P rd s s1 R W ro ρ C w) : Pre P rd s s1 R W ro ρ C w.drew := ⟨h.glob, h.round, h.agree, h.free, h.rel⟩
theorem Post.drew {ρ1 : Ren} {w1 : World} (h : Post ρ s s1 W w.drew ρ1 w1) : Post ρ s s1 W w ρ1 w1 := ⟨h.sub, h.dom, h.fresh, h.size, h.frame, h.os, h.tape, h.output⟩

/-- What is known of an element's type where something is appended. -/
structure Elt (P : Program) (tS tX e : TypeId) (i : TypeInfo) (z : Value) (d : TypeDesc) : Prop where
  ht : P.underlying tS = some (.slice e)
  hd : P.underlying tX = some d
  hd' : d = .string ∨ ∃ e', d = .slice e'
  hi : P.info? e = some i
  hz : i.zero = some z
  hzs : z.cells.size = i.size
  hb0 : i.bytes ≠ 0

/-- A new row, what was and what comes. -/
theorem sndO_grow {o : Oper} {c : Call} {vals : Operand → Value} {x y : Operand} {tS tX e : TypeId} {i : TypeInfo} {z : Value} {d : TypeDesc} {n sl : Nat} {oldl l : List Value} {R0 R1 : Nat} (h : o.op = .call c) (hc : c.callee = .builtin .append) (ha : c.args = #[x, y]) (hat : c.argTypes = #[tS, tX])
    (hE : Elt P tS tX e i z d) (hel : elemsM s i.size (vals y) = some (n, l, R0)) (hll : l.length = n * i.size) (hol : oldl.length = sl * i.size) (hbig : (sl + n) * i.bytes ≤ 140737488355328)
    (hold : ∀ (ρ : Ren) (C : Nat → MObj) (v' : Value) (w : World), WRel ρ C w → (∀ b, R1.testBit b = true → b < s.next → C b = s.get b) → VR ρ (vals x) v' →
      ∃ base sCap old, v' = .slice base sl sCap ∧ ¬ sl + n ≤ sCap ∧ (∀ u : World, u.heap = w.heap → (Builtin.firstCells i.size sl (.slice base sl sCap)).run P u = .ok old u) ∧ VRs ρ oldl.toArray old) :
    SndO P rd o vals s (.slice (some ⟨s.next, 0, none⟩) (sl + n) (sl + n)) (s.push (.cells (oldl ++ l) e true i.size false)) (R0 ||| R1) 0 :=
  sndO_of (fun c => by rw [h]; simp) (stat_push s _) fun ro ρ C ev w hp hx => by
    have hop : o.op.operands = #[x, y] := by simp [h, Op.operands, Call.operands, hc, ha]
    have h1 := hx x (by rw [hop]; simp)
    have h2 := hx y (by rw [hop]; simp)
    have ag : ∀ b, (R0 ||| R1).testBit b = true → b < s.next → C b = s.get b := fun b hb => hp.agree b (by rw [or_bit, hb]; rfl)
    obtain ⟨base, sCap, old, k1, k2, k3, k4⟩ := hold ρ C (ev x) w hp.rel (fun b hb => ag b (by rw [or_bit, hb]; simp)) h1
    obtain ⟨q1, arr, q2, q3⟩ := elems_run (P := P) (w := w) hel h2 (fun b hb => ag b (by rw [or_bit, hb]; simp)) hp.rel
    obtain ⟨nc, g1, g2⟩ := append_grow (ty := o.type) (w := w) hE.ht hE.hd hE.hd' hE.hi hE.hz hE.hb0 hbig q1 q2 k3 k2
    have hso : old.size = sl * i.size := by rw [← k4.1]; simpa using hol
    have hsa : arr.size = n * i.size := by rw [← q3.1]; simpa using hll
    have hv : VRs ρ (oldl ++ l).toArray (old ++ arr) := by
      have := vrs_append k4 q3
      rwa [show oldl.toArray ++ l.toArray = (oldl ++ l).toArray from by simp] at this
    have ho := or_open (z := Builtin.zeroCells z.cells (nc - (sl + n))) hv e w.drew.heap.size i.size
    obtain ⟨p1, r1, hs⟩ := step_new hp.drew rfl ho
    have hs0 : (w.drew.heap.size) = w.heap.size := rfl
    refine ⟨_, .slice (some ⟨w.heap.size, 0, none⟩) (sl + n) nc, _, .inl (by rw [exec_append h hc ha hat, k1, g2]; rfl), p1.drew, r1, ?_⟩
    refine .slice s.next 0 (sl + n) (sl + n) nc _ hs (.inr ⟨rfl, g1, ?_⟩)
    simp only [Array.size_append, size_zeroCells, hE.hzs, hso, hsa, Nat.zero_add]
    have : sl * i.size + n * i.size + (nc - (sl + n)) * i.size = nc * i.size := by
      rw [← Nat.add_mul, ← Nat.add_mul]; congr 1; omega
    omega

/-- Nothing is appended. -/
theorem sndO_appendNone {o : Oper} {c : Call} {vals : Operand → Value} {x y : Operand} {tS tX e : TypeId} {i : TypeInfo} {z : Value} {d : TypeDesc} {l : List Value} {R0 sl sc : Nat} {a : Option Addr} (h : o.op = .call c) (hc : c.callee = .builtin .append) (ha : c.args = #[x, y]) (hat : c.argTypes = #[tS, tX])
    (hE : Elt P tS tX e i z d) (hel : elemsM s i.size (vals y) = some (0, l, R0)) (hl0 : l = []) (hx0 : vals x = .slice a sl sc) (hsc : sl ≤ sc) : SndO P rd o vals s (.slice a sl sc) s R0 0 :=
  sndO_still (fun c => by rw [h]; simp) fun ρ C ev w _ ag hr hx => by
    have hop : o.op.operands = #[x, y] := by simp [h, Op.operands, Call.operands, hc, ha]
    have h1 := hx x (by rw [hop]; simp)
    have h2 := hx y (by rw [hop]; simp)
    obtain ⟨q1, arr, q2, q3⟩ := elems_run (P := P) (w := w) hel h2 ag hr
    have hae : arr = #[] := by
      subst hl0
      have := q3.1
      apply Array.eq_empty_of_size_eq_zero
      rw [← this]; rfl
    subst hae
    rw [hx0] at h1
    have hv : ∃ a' sc', ev x = .slice a' sl sc' ∧ sl ≤ sc' := by
      generalize ev x = v at h1
      cases h1 with
      | slice0 n c => exact ⟨_, _, rfl, hsc⟩
      | empty a a' => exact ⟨_, _, rfl, Nat.le_refl _⟩
      | slice b o n c c' L k1 k2 => exact ⟨_, _, rfl, by rcases k2 with k | k <;> omega⟩
    obtain ⟨a', sc', e1, e2⟩ := hv
    refine ⟨ev x, ?_, h1⟩
    rw [exec_append h hc ha hat, e1, append_room (w1 := w) hE.ht hE.hd hE.hd' hE.hi q1 (q2 w rfl) (by omega) (by cases a' <;> simp [storeCells])]
    rfl

/-- There is room in a row that nothing lies behind. -/
theorem sndO_appendRoom {o : Oper} {c : Call} {vals : Operand → Value} {x y : Operand} {tS tX e e' : TypeId} {i : TypeInfo} {z : Value} {d : TypeDesc} {n sl sc b off sz : Nat} {l cc : List Value} {opn : Bool} {R0 : Nat} (h : o.op = .call c) (hc : c.callee = .builtin .append) (ha : c.args = #[x, y]) (hat : c.argTypes = #[tS, tX])
    (hE : Elt P tS tX e i z d) (hel : elemsM s i.size (vals y) = some (n, l, R0)) (hll : l.length = n * i.size) (hn : n ≠ 0) (hx0 : vals x = .slice (some ⟨b, off, none⟩) sl sc) (hb : s.get b = .cells cc e' opn sz false) (hroom : sl + n ≤ sc) (hlen : off + (sl + n) * i.size ≤ cc.length) (h1o : l.all Value.oneCell' = true) :
    SndO P rd o vals s (.slice (some ⟨b, off, none⟩) (sl + n) sc) (s.put b (.cells (setL cc (off + sl * i.size) l) e' opn sz false)) R0 (2 ^ b) := by
  have hbl : s.get b ≠ .hole := by rw [hb]; simp
  refine sndO_of (fun c => by rw [h]; simp) (stat_put hbl _) fun ro ρ C ev w hp hx => ?_
  have hop : o.op.operands = #[x, y] := by simp [h, Op.operands, Call.operands, hc, ha]
  have h1 := hx x (by rw [hop]; simp)
  have h2 := hx y (by rw [hop]; simp)
  obtain ⟨q1, arr, q2, q3⟩ := elems_run (P := P) (w := w) hel h2 (fun b hb => hp.agree b (by rw [or_bit, hb]; rfl)) hp.rel
  rw [hx0] at h1
  generalize hev : ev x = v at h1
  cases h1 with
  | empty a a' => omega
  | slice b off sl sc c' L k1 k2 =>
    have hCb := hp.agree b (by rw [or_bit, bit_self]; simp) (St.lt_of_live hbl)
    obtain ⟨L', cs, fr, g1, g2, g3⟩ := row_wr hp.rel (hCb.trans hb)
    rw [k1] at g1
    cases g1
    have hsa : arr.size = n * i.size := by rw [← q3.1]; simpa using hll
    obtain ⟨w1, o1, r1, d1, m1, m2⟩ := storeCells_run (P := P) (off := off + sl * i.size) l arr.toList cc 0 w _ g2 g3 (by rw [hll]; have := Nat.add_mul sl n i.size; omega) (by simpa using hll.trans hsa.symm)
      (fun j v v' p q => q3.2 j v v' (by simpa using p) (by simpa using q)) (all_one q3 (by simpa using h1o))
    obtain ⟨p1, r2⟩ := step_put (o' := .cells cs e' fr) hp hbl k1 d1 m1 (by simpa using m2)
    refine ⟨ρ, .slice (some ⟨L.blk, L.base + off, none⟩) (sl + n) c', w1, .inl ?_, p1, r2, .slice b off (sl + n) sc c' L k1 k2⟩
    rw [exec_append h hc ha hat, hev, append_room (w1 := w1) hE.ht hE.hd hE.hd' hE.hi q1 (q2 w rfl) (by rcases k2 with k | k <;> omega) (by simpa [add_mk, Nat.add_assoc] using r1)]
    rfl

/-- The old elements of a row that is copied. -/
theorem old_some {x : Value} {b off sl sc size sz : Nat} {cc : List Value} {e' : TypeId} {r : Bool} {n : Nat} (hb : s.get b = .cells cc e' false sz r) (hx : x = .slice (some ⟨b, off, none⟩) sl sc) (hlen : off + sl * size ≤ cc.length) (hno : ¬ sl + n ≤ sc) (hsl : sl ≤ sc)
    (ρ : Ren) (C : Nat → MObj) (v' : Value) (w : World) (hr : WRel ρ C w) (ag : ∀ k, (2 ^ b).testBit k = true → k < s.next → C k = s.get k) (hv : VR ρ x v') :
    ∃ base sCap old, v' = .slice base sl sCap ∧ ¬ sl + n ≤ sCap ∧ (∀ u : World, u.heap = w.heap → (Builtin.firstCells size sl (.slice base sl sCap)).run P u = .ok old u) ∧ VRs ρ (cut cc off (sl * size)).toList.toArray old := by
  subst hx
  have hbb := ag b (bit_self b) (St.lt_of_live (by rw [hb]; simp))
  obtain ⟨L', cs, fr, q1, q2, q3⟩ := row_of hr (hbb.trans hb)
  obtain ⟨p1, p2, p3, p4, p5, p6, p7, p8⟩ := q3
  cases hv with
  | empty a a' =>
    refine ⟨_, _, #[], rfl, by omega, fun u _ => by simp [Builtin.firstCells, loadCells, loadCellsFrom], ?_⟩
    simp [cut]
    exact ⟨rfl, fun i v v' h => by simp at h⟩
  | slice b off sl sc c' L k1 k2 =>
    rw [k1] at q1
    cases q1
    have hcc : c' = sc := by
      rcases k2 with k | ⟨k, _⟩
      · exact k
      · rw [p1] at k; cases k
    subst hcc
    refine ⟨_, _, cut cs.toList (L'.base + off) (sl * size), rfl, hno, fun u hu => ?_, ?_⟩
    · have hl := loadCells_run (P := P) (w := u) (base := L'.base + off) (by rw [hu]; exact q2) (sl * size) 0 #[] (by omega)
      simp [Builtin.firstCells, loadCells, hl, cut]
    · have := cut_vrs (ρ := ρ) (L := L') (c := cc) (cs := cs) (o := off) (n := sl * size) hlen (by omega) p6
      simpa using this
theorem old_none {x : Value} {size n : Nat} (hn : n ≠ 0) (hx : x = .slice none 0 0 ∨ ∃ a, x = .slice (some a) 0 0 ∧ a.spot.isSome = true)
    (ρ : Ren) (C : Nat → MObj) (v' : Value) (w : World) (hr : WRel ρ C w) (ag : ∀ k, (0 : Nat).testBit k = true → k < s.next → C k = s.get k) (hv : VR ρ x v') :
    ∃ base sCap old, v' = .slice base 0 sCap ∧ ¬ 0 + n ≤ sCap ∧ (∀ u : World, u.heap = w.heap → (Builtin.firstCells size 0 (.slice base 0 sCap)).run P u = .ok old u) ∧ VRs ρ ([] : List Value).toArray old := by
  have hnil : VRs ρ ([] : List Value).toArray #[] := ⟨rfl, fun i v v' h => by simp at h⟩
  rcases hx with rfl | ⟨a, rfl, ha⟩
  · cases hv
    exact ⟨_, _, #[], rfl, by omega, fun u _ => by simp [Builtin.firstCells], hnil⟩
  · cases hv with
    | empty a a' => exact ⟨_, _, #[], rfl, by omega, fun u _ => by simp [Builtin.firstCells, loadCells, loadCellsFrom], hnil⟩
    | slice b o n c c' L k1 k2 => simp at ha

/-- Cells stored, whatever lay there. -/
theorem storeRaw {k : Nat} {e : TypeId} {fr : Nat × Nat} : ∀ (vs : List Value) (p i : Nat) (w : World) (cs : Array Value), w.heap[k]? = some (.cells cs e fr) → p + i + vs.length ≤ cs.size → (∀ j, p + i ≤ j → j < cs.size → ¬ (fr.1 ≤ j ∧ j < fr.2)) → vs.all Value.oneCell' = true →
    ∃ w1 cs1, (storeCells ⟨k, p, none⟩ vs i).run P w = .ok () w1 ∧ OneOff w k w1 ∧ w1.heap[k]? = some (.cells cs1 e fr) ∧ cs1.size = cs.size ∧ (∀ j, j < p + i → cs1[j]? = cs[j]?) ∧ (∀ j, j < vs.length → cs1[p + i + j]? = vs[j]?)
  | [], p, i, w, cs, hw, hn, hf, h1 => ⟨w, cs, by simp [storeCells], OneOff.refl w k, hw, rfl, fun _ _ => rfl, fun j hj => by simp at hj⟩
  | v :: vs, p, i, w, cs, hw, hn, hf, h1 => by
    simp only [List.length_cons] at hn
    simp only [List.all_cons, Bool.and_eq_true] at h1
    have hin : p + i < cs.size := by omega
    have hcell : w.cell? ⟨k, p + i, none⟩ = some cs[p + i] := by rw [cell_row hw, Array.getElem?_eq_getElem hin]
    have hfr : w.frozen? ⟨k, p + i, none⟩ = false := by
      have := hf (p + i) (Nat.le_refl _) hin
      obtain ⟨lo, hi⟩ := fr
      simp only [World.frozen?, hw]
      simp only at this
      simpa using this
    have hw1 : (w.setCell ⟨k, p + i, none⟩ v).heap[k]? = some (.cells (cs.setIfInBounds (p + i) v) e fr) := by simp [World.setCell, Array.getElem?_modify, hw]
    have d1 : OneOff w k (w.setCell ⟨k, p + i, none⟩ v) := ⟨by simp, fun x hx => by simp [World.setCell, Array.getElem?_modify, Ne.symm hx], rfl, rfl, rfl⟩
    obtain ⟨w2, cs2, r2, d2, g2, g3, g4, g5⟩ := storeRaw vs p (i + 1) _ _ hw1 (by simp; omega) (fun j h2 h3 => hf j (by omega) (by simpa using h3)) h1.2
    refine ⟨w2, cs2, ?_, d1.trans d2, g2, by simpa using g3, fun j hj => ?_, fun j hj => ?_⟩
    · have hs : (store ⟨k, p + i, none⟩ v).run P w = .ok () (w.setCell ⟨k, p + i, none⟩ v) := by rw [run_store P w _ _ _ h1.1, hcell, hfr]; rfl
      simp only [storeCells, Sem.run_bind, add_mk, hs, Result.andThen_ok]
      exact r2
    · rw [g4 j (by omega), Array.getElem?_setIfInBounds, if_neg (by omega)]
    · match j, hj with
      | 0, _ =>
        rw [g4 _ (by omega)]
        simp [Array.getElem?_setIfInBounds, hin]
      | j + 1, hj =>
        have := g5 j (by simpa using hj)
        rw [show p + i + (j + 1) = p + (i + 1) + j from by omega, this]
        rfl

/-- A row that more room may lie behind: written there, or copied; its old name is given up. -/
theorem sndO_appendOn {o : Oper} {c : Call} {vals : Operand → Value} {x y : Operand} {tS tX e e' : TypeId} {i : TypeInfo} {z : Value} {d : TypeDesc} {n sl sc b off sz : Nat} {l cc : List Value} {R0 : Nat} (h : o.op = .call c) (hc : c.callee = .builtin .append) (ha : c.args = #[x, y]) (hat : c.argTypes = #[tS, tX])
    (hE : Elt P tS tX e i z d) (hel : elemsM s i.size (vals y) = some (n, l, R0)) (hll : l.length = n * i.size) (hn : n ≠ 0) (hx0 : vals x = .slice (some ⟨b, off, none⟩) sl sc) (hb : s.get b = .cells cc e' true sz false) (hsz : sz = i.size) (hee : e' = e) (hlen : off + sl * i.size ≤ cc.length) (hrm : sl + n ≤ sc → off + sc * i.size ≤ cc.length) (hsl : sl ≤ sc) (h1o : l.all Value.oneCell' = true) (hbig : (sl + n) * i.bytes ≤ 140737488355328) :
    SndO P rd o vals s (.slice (some ⟨s.next, 0, none⟩) (sl + n) (sl + n)) ((s.put b .hole).push (.cells ((cut cc off (sl * i.size)).toList ++ l) e true i.size false)) R0 (2 ^ b) := by
  subst hsz hee
  have hbl : s.get b ≠ .hole := by rw [hb]; simp
  refine sndO_of (fun c => by rw [h]; simp) (stat_on hbl _) fun ro ρ C ev w hp hx => ?_
  have hop : o.op.operands = #[x, y] := by simp [h, Op.operands, Call.operands, hc, ha]
  have h1 := hx x (by rw [hop]; simp)
  have h2 := hx y (by rw [hop]; simp)
  obtain ⟨q1, arr, q2, q3⟩ := elems_run (P := P) (w := w) hel h2 (fun b hb => hp.agree b (by rw [or_bit, hb]; rfl)) hp.rel
  have hsa : arr.size = n * i.size := by rw [← q3.1]; simpa using hll
  have hCb := hp.agree b (by rw [or_bit, bit_self]; simp) (St.lt_of_live hbl)
  obtain ⟨L, cs, fr, g1, g2, g3⟩ := row_wr hp.rel (hCb.trans hb)
  have g3' := g3
  obtain ⟨p1, p2, p3, p4, p5, p6, p7, p8⟩ := g3
  have hLlt := lt_of_some g2
  have hold : VRs ρ (cut cc off (sl * i.size)) (cut cs.toList (L.base + off) (sl * i.size)) := cut_vrs (ρ := ρ) (L := L) (c := cc) (cs := cs) hlen (by omega) p6
  have holdsz : (cut cs.toList (L.base + off) (sl * i.size)).size = sl * i.size := by simp [cut]; omega
  have hv : VRs ρ ((cut cc off (sl * i.size)).toList ++ l).toArray (cut cs.toList (L.base + off) (sl * i.size) ++ arr) := by
    have := vrs_append hold q3
    rwa [show cut cc off (sl * i.size) ++ l.toArray = ((cut cc off (sl * i.size)).toList ++ l).toArray from by apply Array.ext'; simp] at this
  -- a new row
  have fresh : ∀ (base : Option Addr) (sCap : Nat), ev x = .slice base sl sCap → ¬ sl + n ≤ sCap → (∃ old, (∀ u : World, u.heap = w.heap → (Builtin.firstCells i.size sl (.slice base sl sCap)).run P u = .ok old u) ∧ VRs ρ (cut cc off (sl * i.size)).toList.toArray old) →
      ∃ ρ1 v' w1, ((execOp ev o).run P w = .ok (.value v') w1 ∨ ((execOp ev o).run P w = .ok .skip w1 ∧ v' = undef)) ∧ Post ρ s ((s.put b .hole).push (.cells ((cut cc off (sl * i.size)).toList ++ l) e' true i.size false)) (2 ^ b) w ρ1 w1 ∧
        WRel ρ1 (upd C s ((s.put b .hole).push (.cells ((cut cc off (sl * i.size)).toList ++ l) e' true i.size false)) (2 ^ b)) w1 ∧ VR ρ1 (.slice (some ⟨s.next, 0, none⟩) (sl + n) (sl + n)) v' := fun base sCap he hno ⟨old, k3, k4⟩ => by
    obtain ⟨nc, m1, m2⟩ := append_grow (ty := o.type) (w := w) hE.ht hE.hd hE.hd' hE.hi hE.hz hE.hb0 hbig q1 q2 k3 hno
    have hso : old.size = sl * i.size := by rw [← k4.1]; simp [cut]; omega
    have hv2 : VRs ρ ((cut cc off (sl * i.size)).toList ++ l).toArray (old ++ arr) := by
      have := vrs_append k4 q3
      rwa [show (cut cc off (sl * i.size)).toList.toArray ++ l.toArray = ((cut cc off (sl * i.size)).toList ++ l).toArray from by simp] at this
    have ho := or_open (z := Builtin.zeroCells z.cells (nc - (sl + n))) hv2 e' w.drew.heap.size i.size
    obtain ⟨pp, rr, hs⟩ := step_on (w1 := w.drew.alloc (.cells (old ++ arr ++ Builtin.zeroCells z.cells (nc - (sl + n))) e')) (o1 := .cells (old ++ arr ++ Builtin.zeroCells z.cells (nc - (sl + n))) e') hp.drew hbl g1
      (by simp) (fun x hx hne => alloc_old _ _ x hx) rfl rfl rfl (alloc_new _ _) (.inr (Nat.le_refl _)) ho
    refine ⟨_, .slice (some ⟨w.heap.size, 0, none⟩) (sl + n) nc, _, .inl (by rw [exec_append h hc ha hat, he, m2]; rfl), pp.drew, rr, ?_⟩
    refine .slice s.next 0 (sl + n) (sl + n) nc _ hs (.inr ⟨rfl, m1, ?_⟩)
    simp only [Array.size_append, size_zeroCells, hE.hzs, hso, hsa, Nat.zero_add]
    have : sl * i.size + n * i.size + (nc - (sl + n)) * i.size = nc * i.size := by
      rw [← Nat.add_mul, ← Nat.add_mul]; congr 1; omega
    omega
  rw [hx0] at h1
  generalize hev : ev x = v at h1
  cases h1 with
  | empty a a' =>
    refine fresh (some a') 0 hev (by omega) ⟨#[], fun u _ => by simp [Builtin.firstCells, loadCells, loadCellsFrom], ?_⟩
    simp [cut]
    exact ⟨rfl, fun i v v' h => by simp at h⟩
  | slice b off sl sc c' L2 k1 k2 =>
    rw [k1] at g1
    cases g1
    have hcl : ∀ u : World, u.heap = w.heap → (Builtin.firstCells i.size sl (.slice (some ⟨L.blk, L.base + off, none⟩) sl c')).run P u = .ok (cut cs.toList (L.base + off) (sl * i.size)) u := fun u hu => by
      have hl := loadCells_run (P := P) (w := u) (base := L.base + off) (by rw [hu]; exact g2) (sl * i.size) 0 #[] (by omega)
      simp [Builtin.firstCells, loadCells, hl, cut]
    by_cases hroom : sl + n ≤ c'
    · -- room behind
      have hspace : L.base + off + (sl + n) * i.size ≤ L.lim := by
        rcases k2 with k | ⟨k, k5, k6⟩
        · have := hrm (k ▸ hroom)
          have := Nat.mul_le_mul_right i.size (k ▸ hroom : sl + n ≤ sc)
          omega
        · rw [p2] at k6
          have := Nat.mul_le_mul_right i.size hroom
          omega
      have hmul := Nat.add_mul sl n i.size
      obtain ⟨w1, cs1, r1, d1, m1, m2, m3, m4⟩ := storeRaw (P := P) (k := L.blk) (e := e') (fr := fr) arr.toList (L.base + off + sl * i.size) 0 w cs g2 (by simp [hsa]; omega) (fun j h2 h3 => unfrozen (p7 rfl) (by omega)) (all_one q3 (by simpa using h1o))
      have ho : OR ρ ⟨L.blk, L.base + off, true, i.size, L.lim⟩ (.cells ((cut cc off (sl * i.size)).toList ++ l) e' true i.size false) (.cells cs1 e' fr) := by
        have hcl : (cut cc off (sl * i.size)).toList.length = sl * i.size := by simp [cut]; omega
        refine ⟨rfl, rfl, fun _ => rfl, by rw [m2]; exact p4, by simp [hcl, hll, ← hmul]; omega, fun j u hu => ?_, fun _ => p7 rfl, fun hf => by cases hf⟩
        simp only
        by_cases hj : j < sl * i.size
        · rw [List.getElem?_append_left (by omega)] at hu
          have hu' : (cut cc off (sl * i.size))[j]? = some u := by simpa using hu
          have hb2 : j < (cut cs.toList (L.base + off) (sl * i.size)).size := by rw [holdsz]; exact hj
          refine ⟨(cut cs.toList (L.base + off) (sl * i.size))[j], ?_, hold.2 j u _ hu' (Array.getElem?_eq_getElem hb2)⟩
          rw [m3 _ (by omega), ← Array.getElem?_eq_getElem hb2]
          simp [cut, hj]
        · rw [List.getElem?_append_right (by omega), hcl] at hu
          have hjl : j - sl * i.size < l.length := (List.getElem?_eq_some_iff.1 hu).1
          have hja : j - sl * i.size < arr.size := by omega
          refine ⟨arr[j - sl * i.size], ?_, q3.2 (j - sl * i.size) u _ (by simpa using hu) (Array.getElem?_eq_getElem hja)⟩
          have := m4 (j - sl * i.size) (by simpa using hja)
          rw [show L.base + off + j = L.base + off + sl * i.size + 0 + (j - sl * i.size) from by omega, this]
          simp [hja]
      obtain ⟨pp, rr, hs⟩ := step_on (w1 := w1) (L1 := ⟨L.blk, L.base + off, true, i.size, L.lim⟩) hp hbl k1 (Nat.le_of_eq d1.size.symm) (fun x hx hne => d1.oth x hne) d1.os d1.tape d1.output m1 (.inl rfl) ho
      refine ⟨_, .slice (some ⟨L.blk, L.base + off, none⟩) (sl + n) c', w1, .inl ?_, pp, rr, ?_⟩
      · rw [exec_append h hc ha hat, hev, append_room (w1 := w1) hE.ht hE.hd hE.hd' hE.hi q1 (q2 w rfl) hroom (by simpa [add_mk, Nat.add_assoc] using r1)]
        rfl
      · have hcap : L.base + off + c' * i.size ≤ L.lim := by
          rcases k2 with k | ⟨k, k5, k6⟩
          · have := hrm (k ▸ hroom)
            rw [k]
            omega
          · rw [p2] at k6; exact k6
        exact .slice s.next 0 (sl + n) (sl + n) c' ⟨L.blk, L.base + off, true, i.size, L.lim⟩ hs (.inr ⟨rfl, hroom, hcap⟩)
    · exact fresh _ _ hev hroom ⟨_, hcl, by simpa using hold⟩
end Mini
end Go.Proofs.YtgloclcbeohkhaaGreatDoor
