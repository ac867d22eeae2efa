/-
  Operations on memory: addresses, loads, stores.
-/
import Derived.Test.YtgloclcbeohkhaaGreatDoorMiniC
namespace Go.Proofs.YtgloclcbeohkhaaGreatDoor
set_option linter.all false
namespace Mini
variable {P : Program} {rd : Option Nat} {s s1 : St} {R W : Nat} {ro : Option Nat} {ρ : Ren} {C : Nat → MObj} {w : World}

theorem add_mk (b o n : Nat) : Addr.add ⟨b, o, none⟩ n = ⟨b, o + n, none⟩ := Addr.add_lit b o n
theorem bit_self (b : Nat) : (2 ^ b).testBit b = true := by rw [Nat.testBit_two_pow]; simp
theorem bit_iff {b x : Nat} : (2 ^ b).testBit x = true ↔ x = b := by rw [Nat.testBit_two_pow]; simp; exact eq_comm

/-- The type of the elements of a real row. -/
def elemAt (w : World) (k : Nat) : TypeId := match w.heap[k]? with
  | some (.cells _ e _) => e
  | _ => 0
/-- A row of cells in the real world. -/
theorem row_of {b : Nat} {c : List Value} {e : TypeId} {opn ro : Bool} {sz : Nat} (hr : WRel ρ C w) (hc : C b = .cells c e opn sz ro) :
    ∃ L cs fr, ρ b = some L ∧ w.heap[L.blk]? = some (.cells cs (elemAt w L.blk) fr) ∧ OR ρ L (.cells c e opn sz ro) (.cells cs (elemAt w L.blk) fr) := by
  obtain ⟨L, o', h1, h2, h3⟩ := hr.1 b (by rw [hc]; simp)
  rw [hc] at h3
  cases o' with
  | cells cs e' fr =>
    have he : elemAt w L.blk = e' := by unfold elemAt; rw [h2]
    exact ⟨L, cs, fr, h1, by rw [he]; exact h2, by rw [he]; exact h3⟩
  | _ => simp [OR] at h3
/-- A row that may be written. -/
theorem row_wr {b : Nat} {c : List Value} {e : TypeId} {opn : Bool} {sz : Nat} (hr : WRel ρ C w) (hc : C b = .cells c e opn sz false) :
    ∃ L cs fr, ρ b = some L ∧ w.heap[L.blk]? = some (.cells cs e fr) ∧ OR ρ L (.cells c e opn sz false) (.cells cs e fr) := by
  obtain ⟨L, o', h1, h2, h3⟩ := hr.1 b (by rw [hc]; simp)
  rw [hc] at h3
  cases o' with
  | cells cs e' fr =>
    have he : e' = e := h3.2.2.1 rfl
    subst he
    exact ⟨L, cs, fr, h1, h2, h3⟩
  | _ => simp [OR] at h3
theorem cell_row {k : Nat} {cs : Array Value} {e : TypeId} {fr : Nat × Nat} (h : w.heap[k]? = some (.cells cs e fr)) (i : Nat) : w.cell? ⟨k, i, none⟩ = cs[i]? := by
  simp [World.cell?, h]
theorem ptr_inv {b o : Nat} {v' : Value} (h : VR ρ (.pointer (some ⟨b, o, none⟩)) v') : ∃ L, ρ b = some L ∧ v' = .pointer (some ⟨L.blk, L.base + o, none⟩) := by
  cases h with
  | ptr b o L h => exact ⟨L, h, rfl⟩
theorem slice_inv {b o n c : Nat} {v' : Value} (hn : n ≠ 0) (h : VR ρ (.slice (some ⟨b, o, none⟩) n c) v') :
    ∃ L c', ρ b = some L ∧ v' = .slice (some ⟨L.blk, L.base + o, none⟩) n c' ∧ (c' = c ∨ (L.opn = true ∧ c ≤ c' ∧ L.base + o + c' * L.sz ≤ L.lim)) := by
  cases h with
  | slice b o n c c' L h hc => exact ⟨L, c', h, rfl, hc⟩
  | empty a a' => exact absurd rfl hn
theorem int_inv {k : IntKind} {n : Int} {v' : Value} (h : VR ρ (.int k n) v') : v' = .int k n := by cases h; rfl

theorem sndO_nilCheck {o : Oper} {vals : Operand → Value} {x : Operand} (h : o.op = .nilCheck x)
    (hv : match vals x with | .pointer (some _) => True | .iface _ _ => True | .func fn _ _ => (match fn with | .method _ => False | _ => True) | _ => False) : SndO P rd o vals s (vals x) s 0 0 :=
  sndO_still (fun c => by rw [h]; simp) fun ρ C ev w _ _ _ hx => by
    have h1 := hx x (by simp [h, Op.operands])
    refine ⟨ev x, ?_, h1⟩
    generalize vals x = z at hv h1
    generalize he : ev x = y at h1
    cases h1 with
    | ptr b o L h2 => simp [execOp, h, he]
    | iface t v v' h2 => simp [execOp, h, he]
    | func fn as bs as' bs' hf _ _ _ _ => cases fn <;> first | (simp at hv; done) | simp [execOp, h, he]
    | yield l L _ => simp [execOp, h, he]
    | _ => simp at hv

theorem sndO_fieldAddr {o : Oper} {vals : Operand → Value} {t : TypeId} {x : Operand} {k : Nat} {fs : Array Field} {f : Field} {i : TypeInfo} {b off : Nat} (h : o.op = .fieldAddr t x k)
    (ht : P.underlying t = some (.struct fs)) (hf : fs[k]? = some f) (hi : P.info? f.type = some i) (hz : i.size ≠ 0) (hv : vals x = .pointer (some ⟨b, off, none⟩)) :
    SndO P rd o vals s (.pointer (some ⟨b, off + f.offset, none⟩)) s 0 0 :=
  sndO_still (fun c => by rw [h]; simp) fun ρ C ev w _ _ _ hx => by
    have h1 := hx x (by simp [h, Op.operands])
    rw [hv] at h1
    obtain ⟨L, h2, he⟩ := ptr_inv h1
    have hsz : (sizeOf f.type).run P w = .ok i.size w := by simp [sizeOf, run_typeInfo w hi]
    refine ⟨.pointer (some ⟨L.blk, L.base + off + f.offset, none⟩), ?_, ?_⟩
    · simp [execOp, h, he, Instr.fieldAt, run_underlying ht, hf, Instr.sureAddr, fieldPlace, hsz, hz, add_mk]
    · rw [Nat.add_assoc]; exact .ptr b (off + f.offset) L h2

theorem sndO_indexArr {o : Oper} {vals : Operand → Value} {t e : TypeId} {n : Nat} {x y : Operand} {i : TypeInfo} {k : IntKind} {j : Int} {b off : Nat} (h : o.op = .indexAddr t x y)
    (ht : P.underlying t = some (.array n e)) (hi : P.info? e = some i) (hy : vals y = .int k j) (hj : 0 ≤ j ∧ j < n) (hv : vals x = .pointer (some ⟨b, off, none⟩)) :
    SndO P rd o vals s (.pointer (some ⟨b, off + j.toNat * i.size, none⟩)) s 0 0 :=
  sndO_still (fun c => by rw [h]; simp) fun ρ C ev w _ _ _ hx => by
    have h1 := hx x (by simp [h, Op.operands])
    have h3 := hx y (by simp [h, Op.operands])
    rw [hv] at h1
    rw [hy] at h3
    obtain ⟨L, h2, he⟩ := ptr_inv h1
    have hey := int_inv h3
    have hsz : (sizeOf e).run P w = .ok i.size w := by simp [sizeOf, run_typeInfo w hi]
    refine ⟨.pointer (some ⟨L.blk, L.base + off + j.toNat * i.size, none⟩), ?_, ?_⟩
    · simp [execOp, h, he, hey, Instr.indexAt, run_underlying ht, asIntOf, Instr.sureAddr, hsz, hj.1, hj.2, add_mk]
    · rw [Nat.add_assoc]; exact .ptr b _ L h2
theorem sndO_indexSlice {o : Oper} {vals : Operand → Value} {t e : TypeId} {n c : Nat} {x y : Operand} {i : TypeInfo} {k : IntKind} {j : Int} {b off : Nat} (h : o.op = .indexAddr t x y)
    (ht : P.underlying t = some (.slice e)) (hi : P.info? e = some i) (hy : vals y = .int k j) (hj : 0 ≤ j ∧ j < n) (hv : vals x = .slice (some ⟨b, off, none⟩) n c) :
    SndO P rd o vals s (.pointer (some ⟨b, off + j.toNat * i.size, none⟩)) s 0 0 :=
  sndO_still (fun c => by rw [h]; simp) fun ρ C ev w _ _ _ hx => by
    have h1 := hx x (by simp [h, Op.operands])
    have h3 := hx y (by simp [h, Op.operands])
    rw [hv] at h1
    rw [hy] at h3
    obtain ⟨L, c', h2, he, _⟩ := slice_inv (by omega) h1
    have hey := int_inv h3
    have hsz : (sizeOf e).run P w = .ok i.size w := by simp [sizeOf, run_typeInfo w hi]
    refine ⟨.pointer (some ⟨L.blk, L.base + off + j.toNat * i.size, none⟩), ?_, ?_⟩
    · simp [execOp, h, he, hey, Instr.indexAt, run_underlying ht, asIntOf, hsz, hj.1, hj.2, add_mk]
    · rw [Nat.add_assoc]; exact .ptr b _ L h2

/-! ### Loads -/
theorem loadCells_run {k base : Nat} {cs : Array Value} {e : TypeId} {fr : Nat × Nat} (h : w.heap[k]? = some (.cells cs e fr)) :
    ∀ (n i : Nat) (acc : Array Value), base + i + n ≤ cs.size → (loadCellsFrom ⟨k, base, none⟩ i n acc).run P w = .ok (acc ++ ((cs.toList.drop (base + i)).take n).toArray) w
  | 0, i, acc, hn => by simp [loadCellsFrom]
  | n + 1, i, acc, hn => by
    have hlt : base + i < cs.size := by omega
    have hc : w.cell? ⟨k, base + i, none⟩ = some cs[base + i] := by rw [cell_row h, Array.getElem?_eq_getElem hlt]
    have ih := loadCells_run (base := base) h n (i + 1) (acc.push cs[base + i]) (by omega)
    simp only [loadCellsFrom, Sem.run_bind, add_mk, run_load, hc, Result.andThen_ok]
    rw [ih]
    congr 1
    rw [show (cs.toList.drop (base + i)).take (n + 1) = cs[base + i] :: (cs.toList.drop (base + (i + 1))).take n from by
      rw [List.drop_eq_getElem_cons (by simpa using hlt), List.take_succ_cons]
      simp [Nat.add_assoc]]
    apply Array.ext'
    simp

/-- What lies in a row from a place on. -/
def cut (c : List Value) (o n : Nat) : Array Value := ((c.drop o).take n).toArray
theorem cut_vrs {L : Loc} {c : List Value} {cs : Array Value} {o n : Nat} (hn : o + n ≤ c.length) (hb : L.base + c.length ≤ cs.size)
    (hv : ∀ (i : Nat) (v : Value), c[i]? = some v → ∃ v', cs[L.base + i]? = some v' ∧ VR ρ v v') : VRs ρ (cut c o n) (cut cs.toList (L.base + o) n) := by
  refine ⟨by simp [cut]; omega, fun i v v' h1 h2 => ?_⟩
  simp only [cut, List.getElem?_toArray, List.getElem?_take, List.getElem?_drop] at h1 h2
  by_cases hi : i < n
  · rw [if_pos hi] at h1 h2
    obtain ⟨v'', g1, g2⟩ := hv _ _ h1
    rw [Array.getElem?_toList, Nat.add_assoc, g1] at h2
    cases h2
    exact g2
  · rw [if_neg hi] at h1; cases h1

def aggT (P : Program) (t : TypeId) : Option Bool :=
  match P.underlying t with
  | some (.struct _) | some (.array _ _) => some true
  | some _ => some false
  | none => none
theorem isAgg_run {t : TypeId} {b : Bool} (h : aggT P t = some b) (w : World) : (isAgg t).run P w = .ok b w := by
  unfold aggT at h
  cases hd : P.underlying t with
  | none => rw [hd] at h; cases h
  | some d =>
    rw [hd] at h
    cases d <;> simp at h <;> subst h <;> simp [isAgg, run_underlying hd]

theorem sndO_loadAgg {o : Oper} {vals : Operand → Value} {t e : TypeId} {x : Operand} {i : TypeInfo} {b off sz : Nat} {c : List Value} {opn ro : Bool} (h : o.op = .load t x)
    (ht : aggT P t = some true) (hi : P.info? t = some i) (hv : vals x = .pointer (some ⟨b, off, none⟩)) (hc : s.get b = .cells c e opn sz ro) (hn : off + i.size ≤ c.length) :
    SndO P rd o vals s (.agg (cut c off i.size)) s (2 ^ b) 0 :=
  sndO_still (fun c => by rw [h]; simp) fun ρ C ev w _ ha hr hx => by
    have h1 := hx x (by simp [h, Op.operands])
    rw [hv] at h1
    obtain ⟨L, h2, he⟩ := ptr_inv h1
    have hb := ha b (bit_self b) (St.lt_of_live (by rw [hc]; simp))
    obtain ⟨L', cs, fr, g1, g2, g3⟩ := row_of hr (hb.trans hc)
    rw [h2] at g1
    cases g1
    obtain ⟨k1, k2, k3, k4, k5, k6, k7⟩ := g3
    have hsz : (sizeOf t).run P w = .ok i.size w := by simp [sizeOf, run_typeInfo w hi]
    have hl := loadCells_run (P := P) (w := w) (base := L.base + off) g2 i.size 0 #[] (by omega)
    refine ⟨.agg (cut cs.toList (L.base + off) i.size), ?_, ?_⟩
    · simp [execOp, h, he, Instr.loadAt, Instr.sureAddr, loadVar, isAgg_run ht, hsz, loadCells, hl, cut]
    · have := cut_vrs (ρ := ρ) (L := L) (c := c) (cs := cs) (o := off) (n := i.size) hn (by omega) k6
      exact .agg _ _ this.1 this.2
theorem sndO_loadOne {o : Oper} {vals : Operand → Value} {t e : TypeId} {x : Operand} {b off sz : Nat} {c : List Value} {opn ro : Bool} {v : Value} (h : o.op = .load t x)
    (ht : aggT P t = some false) (hv : vals x = .pointer (some ⟨b, off, none⟩)) (hc : s.get b = .cells c e opn sz ro) (hn : c[off]? = some v) : SndO P rd o vals s v s (2 ^ b) 0 :=
  sndO_still (fun c => by rw [h]; simp) fun ρ C ev w _ ha hr hx => by
    have h1 := hx x (by simp [h, Op.operands])
    rw [hv] at h1
    obtain ⟨L, h2, he⟩ := ptr_inv h1
    have hb := ha b (bit_self b) (St.lt_of_live (by rw [hc]; simp))
    obtain ⟨L', cs, fr, g1, g2, g3⟩ := row_of hr (hb.trans hc)
    rw [h2] at g1
    cases g1
    obtain ⟨k1, k2, k3, k4, k5, k6, k7⟩ := g3
    obtain ⟨v', m1, m2⟩ := k6 _ _ hn
    have hcell : w.cell? ⟨L.blk, L.base + off, none⟩ = some v' := (cell_row g2 _).trans m1
    exact ⟨v', by simp [execOp, h, he, Instr.loadAt, Instr.sureAddr, loadVar, isAgg_run ht, hcell], m2⟩

/-! ### Stores -/
/-- A world that differs in one block. -/
structure OneOff (w : World) (k : Nat) (w1 : World) : Prop where
  size : w1.heap.size = w.heap.size
  oth : ∀ x, x ≠ k → w1.heap[x]? = w.heap[x]?
  os : w1.os = w.os
  tape : w1.tape = w.tape
  output : w1.output = w.output
theorem OneOff.refl (w : World) (k : Nat) : OneOff w k w := ⟨rfl, fun _ _ => rfl, rfl, rfl, rfl⟩
theorem OneOff.trans {k : Nat} {a b c : World} (h : OneOff a k b) (g : OneOff b k c) : OneOff a k c :=
  ⟨g.size.trans h.size, fun x hx => (g.oth x hx).trans (h.oth x hx), g.os.trans h.os, g.tape.trans h.tape, g.output.trans h.output⟩

theorem stat_put {b : Nat} (hb : s.get b ≠ .hole) (o : MObj) : Stat s (s.put b o) (2 ^ b) :=
  ⟨Nat.le_refl _, fun x _ hx => s.get_put_other b x o (St.lt_of_live hb) (fun e => by rw [← e, bit_self] at hx; cases hx)⟩
theorem upd_put {b : Nat} (hb : s.get b ≠ .hole) (o : MObj) (C : Nat → MObj) (x : Nat) : upd C s (s.put b o) (2 ^ b) x = if x = b then o else C x := by
  have hlt := St.lt_of_live hb
  unfold upd
  by_cases e : x = b
  · subst e
    rw [if_pos (.inr ⟨bit_self x, hlt⟩), if_pos rfl, s.get_put_same x o hb]
  · rw [if_neg (by
      rintro (h | h)
      · have : (s.put b o).next = s.next := rfl
        omega
      · exact e (bit_iff.1 h.1)), if_neg e]
theorem step_put {b : Nat} {o : MObj} {o1 o' : Obj} {L : Loc} {w1 : World} (hp : Pre P rd s (s.put b o) R (2 ^ b) ro ρ C w) (hb : s.get b ≠ .hole) (hL : ρ b = some L) (h1 : OneOff w L.blk w1) (h2 : w1.heap[L.blk]? = some o1) (ho : OR ρ L o o1) :
    Post ρ s (s.put b o) (2 ^ b) w ρ w1 ∧ WRel ρ (upd C s (s.put b o) (2 ^ b)) w1 := by
  have hlt := St.lt_of_live hb
  have hCb : C b ≠ .hole := by rw [hp.agree b (by rw [or_bit, bit_self]; simp) hlt]; exact hb
  have live : ∀ x, upd C s (s.put b o) (2 ^ b) x ≠ .hole → C x ≠ .hole := fun x hx => by
    rw [upd_put hb] at hx
    by_cases e : x = b
    · rw [e]; exact hCb
    · rw [if_neg e] at hx; exact hx
  refine ⟨⟨Ren.le_refl _, fun x hx => absurd rfl hx, fun x L' g1 g2 => (by rw [g1] at g2; cases g2), Nat.le_of_eq h1.size.symm, fun x hx hf => h1.oth x (fun e => hf b L (bit_self b) hlt hL e.symm), h1.os, h1.tape, h1.output⟩, ⟨fun x hx => ?_, fun x x' L1 L2 g1 g2 => hp.rel.2 x x' L1 L2 (live x g1) (live x' g2)⟩⟩
  have hx' := live x hx
  rw [upd_put hb] at hx ⊢
  by_cases e : x = b
  · subst e
    rw [if_pos rfl]
    exact ⟨L, o1, hL, h2, ho⟩
  · rw [if_neg e]
    obtain ⟨L', o2, g1, g2, g3⟩ := hp.rel.1 x hx'
    refine ⟨L', o2, g1, (h1.oth _ fun e' => e ?_).trans g2, g3⟩
    exact hp.rel.2 x b L' L hx' hCb g1 hL e'

/-- One cell stored. -/
theorem store_one {L : Loc} {c : List Value} {e : TypeId} {opn : Bool} {sz o : Nat} {o' : Obj} {v v' : Value} (hw : w.heap[L.blk]? = some o') (ho : OR ρ L (.cells c e opn sz false) o') (hlt : o < c.length) (hv : VR ρ v v') (h1 : v'.oneCell' = true) :
    ∃ w1 o1, (store ⟨L.blk, L.base + o, none⟩ v').run P w = .ok () w1 ∧ OneOff w L.blk w1 ∧ w1.heap[L.blk]? = some o1 ∧ OR ρ L (.cells (c.set o v) e opn sz false) o1 := by
  cases o' with
  | cells cs e' fr =>
    obtain ⟨k1, k2, k3, k4, k5, k6, k7, k8⟩ := ho
    have hin : L.base + o < cs.size := by omega
    have hcell : w.cell? ⟨L.blk, L.base + o, none⟩ = some cs[L.base + o] := by rw [cell_row hw, Array.getElem?_eq_getElem hin]
    have hfr : w.frozen? ⟨L.blk, L.base + o, none⟩ = false := by
      have := unfrozen (k7 rfl) (j := L.base + o) (by omega)
      obtain ⟨lo, hi⟩ := fr
      simp only [World.frozen?, hw]
      simp only at this
      simpa using this
    refine ⟨w.setCell ⟨L.blk, L.base + o, none⟩ v', .cells (cs.setIfInBounds (L.base + o) v') e' fr, ?_, ⟨by simp, fun x hx => ?_, rfl, rfl, rfl⟩, ?_, ?_⟩
    · rw [run_store P w _ _ _ h1, hcell, hfr]; rfl
    · simp [World.setCell, Array.getElem?_modify, Ne.symm hx]
    · simp [World.setCell, Array.getElem?_modify, hw]
    · refine ⟨k1, k2, k3, by simp [k4], by simp; omega, fun i u hi => ?_, k7, fun hf => by simpa using k8 hf⟩
      by_cases ei : o = i
      · subst ei
        rw [List.getElem?_set_self hlt] at hi
        cases hi
        exact ⟨v', by simp [Array.getElem?_setIfInBounds, hin], hv⟩
      · rw [List.getElem?_set_ne ei] at hi
        obtain ⟨u', m1, m2⟩ := k6 i u hi
        exact ⟨u', by rw [Array.getElem?_setIfInBounds, if_neg (by omega)]; exact m1, m2⟩
  | _ => simp [OR] at ho

def setL : List Value → Nat → List Value → List Value
  | c, _, [] => c
  | c, o, v :: vs => setL (c.set o v) (o + 1) vs
theorem setL_length : ∀ (c : List Value) (o : Nat) (vs : List Value), (setL c o vs).length = c.length
  | c, o, [] => rfl
  | c, o, v :: vs => by rw [setL, setL_length]; simp
theorem storeCells_run {L : Loc} {e : TypeId} {opn : Bool} {sz off : Nat} : ∀ (vs vs' : List Value) (c : List Value) (i : Nat) (w : World) (o' : Obj), w.heap[L.blk]? = some o' → OR ρ L (.cells c e opn sz false) o' → off + i + vs.length ≤ c.length →
    vs.length = vs'.length → (∀ (j : Nat) (v v' : Value), vs[j]? = some v → vs'[j]? = some v' → VR ρ v v') → vs'.all Value.oneCell' = true →
    ∃ w1 o1, (storeCells ⟨L.blk, L.base + off, none⟩ vs' i).run P w = .ok () w1 ∧ OneOff w L.blk w1 ∧ w1.heap[L.blk]? = some o1 ∧ OR ρ L (.cells (setL c (off + i) vs) e opn sz false) o1
  | [], vs', c, i, w, o', hw, ho, hn, hl, hv, h1 => by
    have : vs' = [] := by cases vs' with
      | nil => rfl
      | cons a b => simp at hl
    subst this
    exact ⟨w, o', by simp [storeCells], OneOff.refl w _, hw, ho⟩
  | v :: vs, [], c, i, w, o', hw, ho, hn, hl, hv, h1 => by simp at hl
  | v :: vs, v' :: vs', c, i, w, o', hw, ho, hn, hl, hv, h1 => by
    simp only [List.length_cons] at hn hl
    simp only [List.all_cons, Bool.and_eq_true] at h1
    obtain ⟨w1, o1, r1, d1, g1, k1⟩ := store_one (P := P) (o := off + i) hw ho (by omega) (hv 0 v v' rfl rfl) h1.1
    obtain ⟨w2, o2, r2, d2, g2, k2⟩ := storeCells_run (off := off) vs vs' (c.set (off + i) v) (i + 1) w1 o1 g1 k1 (by simp; omega) (by omega) (fun j a b ha hb => hv (j + 1) a b (by simpa using ha) (by simpa using hb)) h1.2
    refine ⟨w2, o2, ?_, d1.trans d2, g2, ?_⟩
    · simp only [storeCells, Sem.run_bind, add_mk, Nat.add_assoc, r1, Result.andThen_ok]
      exact r2
    · rw [setL]; rw [← Nat.add_assoc] at k2; exact k2

theorem one_vr {v v' : Value} (h : VR ρ v v') : v'.oneCell' = v.oneCell' := by cases h <;> rfl
theorem all_one {a b : Array Value} (h : VRs ρ a b) (ha : a.toList.all Value.oneCell' = true) : b.toList.all Value.oneCell' = true := by
  rw [List.all_eq_true] at ha ⊢
  intro x hx
  rw [Array.mem_toList_iff] at hx
  obtain ⟨i, hi, rfl⟩ := Array.mem_iff_getElem.1 hx
  have hi' : i < a.size := h.1 ▸ hi
  rw [one_vr (h.2 i a[i] b[i] (Array.getElem?_eq_getElem hi') (Array.getElem?_eq_getElem hi))]
  exact ha _ (by simp)

theorem sndO_store {o : Oper} {vals : Operand → Value} {t e : TypeId} {x y : Operand} {i : TypeInfo} {b off sz : Nat} {c : List Value} {opn : Bool} (h : o.op = .store t x y)
    (hi : P.info? t = some i) (hv : vals x = .pointer (some ⟨b, off, none⟩)) (hc : s.get b = .cells c e opn sz false) (hz : (vals y).cells.size = i.size) (hn : off + i.size ≤ c.length) (h1 : (vals y).cells.toList.all Value.oneCell' = true) :
    SndO P rd o vals s undef (s.put b (.cells (setL c off (vals y).cells.toList) e opn sz false)) 0 (2 ^ b) := by
  have hb : s.get b ≠ .hole := by rw [hc]; simp
  refine sndO_of (fun c => by rw [h]; simp) (stat_put hb _) fun ro ρ C ev w hp hx => ?_
  have hx1 := hx x (by simp [h, Op.operands])
  have hy1 := cells_vrs (hx y (by simp [h, Op.operands]))
  rw [hv] at hx1
  obtain ⟨L, h2, he⟩ := ptr_inv hx1
  have hCb := hp.agree b (by rw [or_bit, bit_self]; simp) (St.lt_of_live hb)
  obtain ⟨L', cs, fr, g1, g2, g3⟩ := row_wr hp.rel (hCb.trans hc)
  rw [h2] at g1
  cases g1
  have hsz : (sizeOf t).run P w = .ok i.size w := by simp [sizeOf, run_typeInfo w hi]
  obtain ⟨w1, o1, r1, d1, k1, k2⟩ := storeCells_run (P := P) (off := off) (vals y).cells.toList (ev y).cells.toList c 0 w _ g2 g3 (by simp [hz]; omega) (by simpa using hy1.1) (fun j v v' a b => hy1.2 j v v' (by simpa using a) (by simpa using b)) (all_one hy1 h1)
  obtain ⟨p1, r2⟩ := step_put (o' := .cells cs e fr) hp hb h2 d1 k1 (by simpa using k2)
  refine ⟨ρ, undef, w1, .inr ⟨?_, rfl⟩, p1, r2, undef_vr ρ⟩
  have hs2 : (ev y).cells.size = i.size := hy1.1.symm.trans hz
  simp [execOp, h, he, Instr.storeAt, Instr.sureAddr, storeVar, hsz, hs2, r1]
end Mini
end Go.Proofs.YtgloclcbeohkhaaGreatDoor
