/-
  Operations: structs, arrays, slices, their making.
-/
import Derived.Test.YtgloclcbeohkhaaGreatDoorMiniD
import Derived.Laws.Tables
import Derived.Great.BuildSlice
import Derived.Laws.MakeOwn
namespace Go.Proofs.YtgloclcbeohkhaaGreatDoor
set_option linter.all false
namespace Mini
variable {P : Program} {rd : Option Nat} {s s1 : St} {R W : Nat} {ro : Option Nat} {ρ : Ren} {C : Nat → MObj} {w : World}

/-! ### Parts of aggregates -/
def partM (P : Program) (t : TypeId) (cs : Array Value) (off : Nat) : Option Value :=
  match aggT P t, P.info? t with
  | some true, some i => some (.agg (cs.extract off (off + i.size)))
  | some false, _ => cs[off]?
  | _, _ => none
theorem part_vr {t : TypeId} {cs cs' : Array Value} {off : Nat} {v : Value} (h : partM P t cs off = some v) (hv : VRs ρ cs cs') : ∃ v', (part t cs' off).run P w = .ok v' w ∧ VR ρ v v' := by
  unfold partM at h
  cases ha : aggT P t with
  | none => rw [ha] at h; cases h
  | some b =>
    cases hi : P.info? t with
    | none =>
      rw [ha, hi] at h
      cases b with
      | true => cases h
      | false =>
        simp only at h
        have hlt : off < cs.size := by
          rcases Nat.lt_or_ge off cs.size with g | g
          · exact g
          · rw [Array.getElem?_eq_none g] at h; cases h
        have e2 : cs'[off]? = some (cs'[off]'(hv.1 ▸ hlt)) := Array.getElem?_eq_getElem (hv.1 ▸ hlt)
        exact ⟨_, by simp [part, isAgg_run ha, e2], hv.2 off v _ h e2⟩
    | some i =>
      rw [ha, hi] at h
      cases b with
      | true =>
        simp only [Option.some.injEq] at h
        subst h
        have hsz : (sizeOf t).run P w = .ok i.size w := by simp [sizeOf, run_typeInfo w hi]
        refine ⟨.agg (cs'.extract off (off + i.size)), by simp [part, isAgg_run ha, hsz], .agg _ _ (by simp [hv.1]) fun j x x' h1 h2 => ?_⟩
        rw [Array.getElem?_extract] at h1 h2
        rw [hv.1] at h1
        by_cases c : j < min (off + i.size) cs'.size - off
        · rw [if_pos c] at h1 h2; exact hv.2 _ _ _ h1 h2
        · rw [if_neg c] at h1; cases h1
      | false =>
        simp only at h
        have hlt : off < cs.size := by
          rcases Nat.lt_or_ge off cs.size with g | g
          · exact g
          · rw [Array.getElem?_eq_none g] at h; cases h
        have e2 : cs'[off]? = some (cs'[off]'(hv.1 ▸ hlt)) := Array.getElem?_eq_getElem (hv.1 ▸ hlt)
        exact ⟨_, by simp [part, isAgg_run ha, e2], hv.2 off v _ h e2⟩
theorem agg_inv {cs : Array Value} {v' : Value} (h : VR ρ (.agg cs) v') : ∃ cs', v' = .agg cs' ∧ VRs ρ cs cs' := by
  cases h with
  | agg cs cs' h1 h2 => exact ⟨cs', rfl, h1, h2⟩
theorem tuple_inv {cs : Array Value} {v' : Value} (h : VR ρ (.tuple cs) v') : ∃ cs', v' = .tuple cs' ∧ VRs ρ cs cs' := by
  cases h with
  | tuple cs cs' h1 h2 => exact ⟨cs', rfl, h1, h2⟩

theorem sndO_field {o : Oper} {vals : Operand → Value} {t : TypeId} {x : Operand} {k : Nat} {fs : Array Field} {f : Field} {cs : Array Value} {v : Value} (h : o.op = .field t x k)
    (ht : P.underlying t = some (.struct fs)) (hf : fs[k]? = some f) (hx : vals x = .agg cs) (hv : partM P f.type cs f.offset = some v) : SndO P rd o vals s v s 0 0 :=
  sndO_still (fun c => by rw [h]; simp) fun ρ C ev w _ _ _ hxs => by
    have h1 := hxs x (by simp [h, Op.operands])
    rw [hx] at h1
    obtain ⟨cs', he, hcs⟩ := agg_inv h1
    obtain ⟨v', hr, hv'⟩ := part_vr (w := w) hv hcs
    exact ⟨v', by simp [execOp, h, he, Instr.field, run_underlying ht, hf, asAgg, hr], hv'⟩
theorem sndO_index {o : Oper} {vals : Operand → Value} {t e : TypeId} {n : Nat} {x y : Operand} {i : TypeInfo} {k : IntKind} {j : Int} {cs : Array Value} {v : Value} (h : o.op = .index t x y)
    (ht : P.underlying t = some (.array n e)) (hi : P.info? e = some i) (hy : vals y = .int k j) (hj : 0 ≤ j ∧ j < n) (hx : vals x = .agg cs) (hv : partM P e cs (j.toNat * i.size) = some v) : SndO P rd o vals s v s 0 0 :=
  sndO_still (fun c => by rw [h]; simp) fun ρ C ev w _ _ _ hxs => by
    have h1 := hxs x (by simp [h, Op.operands])
    have h3 := hxs y (by simp [h, Op.operands])
    rw [hx] at h1
    rw [hy] at h3
    obtain ⟨cs', he, hcs⟩ := agg_inv h1
    have hey := int_inv h3
    obtain ⟨v', hr, hv'⟩ := part_vr (w := w) hv hcs
    have hsz : (sizeOf e).run P w = .ok i.size w := by simp [sizeOf, run_typeInfo w hi]
    exact ⟨v', by simp [execOp, h, he, hey, Instr.index, run_underlying ht, asIntOf, hj.1, hj.2, hsz, hr], hv'⟩
theorem sndO_extract {o : Oper} {vals : Operand → Value} {x : Operand} {k : Nat} {cs : Array Value} {v : Value} (h : o.op = .extract x k) (hx : vals x = .tuple cs) (hv : cs[k]? = some v) : SndO P rd o vals s v s 0 0 :=
  sndO_still (fun c => by rw [h]; simp) fun ρ C ev w _ _ _ hxs => by
    have h1 := hxs x (by simp [h, Op.operands])
    rw [hx] at h1
    obtain ⟨cs', he, hcs⟩ := tuple_inv h1
    have hlt : k < cs.size := by
      rcases Nat.lt_or_ge k cs.size with g | g
      · exact g
      · rw [Array.getElem?_eq_none g] at hv; cases hv
    have e2 : cs'[k]? = some (cs'[k]'(hcs.1 ▸ hlt)) := Array.getElem?_eq_getElem (hcs.1 ▸ hlt)
    exact ⟨_, by simp [execOp, h, he, Instr.extract, e2], hcs.2 k v _ hv e2⟩

/-! ### What is built of parts -/
def PartsR (ρ : Ren) : List (Nat × Value) → List (Nat × Value) → Prop
  | [], [] => True
  | (i, v) :: l, (j, u) :: m => i = j ∧ VR ρ v u ∧ PartsR ρ l m
  | _, _ => False
theorem fold_vrs : ∀ (l l' : List Value) (off k : Nat) (a b : Array Value), l.length = l'.length → (∀ (j : Nat) (v v' : Value), l[j]? = some v → l'[j]? = some v' → VR ρ v v') → VRs ρ a b →
    VRs ρ ((l.zipIdx k).foldl (fun cs x => cs.setIfInBounds (off + x.2) x.1) a) ((l'.zipIdx k).foldl (fun cs x => cs.setIfInBounds (off + x.2) x.1) b)
  | [], [], off, k, a, b, _, _, h => h
  | v :: l, v' :: l', off, k, a, b, hl, hv, h => by
    simp only [List.zipIdx_cons, List.foldl_cons]
    exact fold_vrs l l' off (k + 1) _ _ (by simpa using hl) (fun j x x' h1 h2 => hv (j + 1) x x' (by simpa using h1) (by simpa using h2)) (h.set _ (hv 0 v v' rfl rfl))
  | [], _ :: _, off, k, a, b, hl, _, _ => by simp at hl
  | _ :: _, [], off, k, a, b, hl, _, _ => by simp at hl
theorem fill_vrs (place : Nat → Option (Nat × Nat)) : ∀ (l l' : List (Nat × Value)) (a b out : Array Value), PartsR ρ l l' → VRs ρ a b → Instr.fill place a l = some out → ∃ out', Instr.fill place b l' = some out' ∧ VRs ρ out out'
  | [], [], a, b, out, _, h, hf => by simp only [Instr.fill, Option.some.injEq] at hf; subst hf; exact ⟨b, rfl, h⟩
  | (i, v) :: l, (j, u) :: m, a, b, out, ⟨hij, hvu, hlm⟩, h, hf => by
    subst hij
    simp only [Instr.fill] at hf ⊢
    cases hp : place i with
    | none => rw [hp] at hf; cases hf
    | some q =>
      obtain ⟨off, size⟩ := q
      rw [hp] at hf
      simp only at hf ⊢
      have hc := cells_vrs hvu
      rw [← hc.1, ← h.1]
      by_cases hb : (decide (v.cells.size ≠ size) || decide (off + v.cells.size > a.size)) = true
      · rw [if_pos hb] at hf; cases hf
      · rw [if_neg hb] at hf ⊢
        refine fill_vrs place l m _ _ out hlm ?_ hf
        have e1 : ∀ (q r : Array Value), q.zipIdx.foldl (fun cs (x : Value × Nat) => cs.setIfInBounds (off + x.2) x.1) r = (q.toList.zipIdx 0).foldl (fun cs x => cs.setIfInBounds (off + x.2) x.1) r := fun q r => by
          rw [← Array.foldl_toList, Array.toList_zipIdx]
        have := fold_vrs v.cells.toList u.cells.toList off 0 a b (by simpa using hc.1) (fun j x x' h1 h2 => hc.2 j x x' (by simpa using h1) (by simpa using h2)) h
        rw [← e1, ← e1] at this
        exact this
  | [], _ :: _, a, b, out, h, _, _ => h.elim
  | _ :: _, [], a, b, out, h, _, _ => h.elim

def evals (f : Operand → Value) (ps : Array (Nat × Operand)) : Array (Nat × Value) := ps.map fun (i, x) => (i, f x)
theorem parts_vr (f g : Operand → Value) : ∀ (ps : List (Nat × Operand)), (∀ x, x ∈ ps.map (·.2) → VR ρ (f x) (g x)) → PartsR ρ (ps.map fun (i, x) => (i, f x)) (ps.map fun (i, x) => (i, g x))
  | [], _ => trivial
  | (i, x) :: ps, h => ⟨rfl, h x (by simp), parts_vr f g ps fun y hy => h y (by simp at hy ⊢; exact .inr hy)⟩
theorem evals_vr (f g : Operand → Value) (ps : Array (Nat × Operand)) (h : ∀ x, x ∈ ps.toList.map (·.2) → VR ρ (f x) (g x)) : PartsR ρ (evals f ps).toList (evals g ps).toList := by
  unfold evals
  rw [Array.toList_map, Array.toList_map]
  exact parts_vr f g ps.toList h

/-- 'P.built', its zero value naming no block. -/
def builtM (P : Program) (t : TypeId) (parts : List (Nat × Value)) : Option (Array Value) :=
  match P.info? t with
  | some it => match it.zero with
    | some z => if ground 12 (.agg z.cells) then P.built t parts else none
    | none => none
  | none => none
theorem built_vrs {t : TypeId} {l l' : List (Nat × Value)} {out : Array Value} (h : builtM P t l = some out) (hl : PartsR ρ l l') : ∃ out', P.built t l' = some out' ∧ VRs ρ out out' := by
  unfold builtM at h
  cases hit : P.info? t with
  | none => rw [hit] at h; cases h
  | some it =>
    rw [hit] at h
    simp only at h
    cases hz : it.zero with
    | none => rw [hz] at h; cases h
    | some z =>
      rw [hz] at h
      simp only at h
      by_cases hg : ground 12 (.agg z.cells) = true
      · rw [if_pos hg] at h
        have hzz : VRs ρ z.cells z.cells := by
          obtain ⟨cs', e, hv⟩ := agg_inv (ground_refl (ρ := ρ) 12 hg)
          cases e; exact hv
        unfold Program.built at h ⊢
        rw [hit] at h ⊢
        cases hu : P.underlying t with
        | none => rw [hu] at h; simp at h
        | some d =>
          rw [hu] at h
          cases d with
          | array n e =>
            simp only [hz] at h ⊢
            cases hie : P.info? e with
            | none => rw [hie] at h; cases h
            | some ie =>
              rw [hie] at h
              exact fill_vrs _ l l' _ _ out hl hzz h
          | struct fields =>
            simp only [hz] at h ⊢
            cases hp : fields.toList.mapM (fun f => (P.info? f.type).map fun i => (f.offset, i.size)) with
            | none => rw [hp] at h; cases h
            | some places =>
              rw [hp] at h
              exact fill_vrs _ l l' _ _ out hl hzz h
          | _ => simp at h
      · rw [if_neg hg] at h; cases h

theorem sndO_build {o : Oper} {vals : Operand → Value} {t : TypeId} {ps : Array (Nat × Operand)} {out : Array Value} (h : o.op = .build t ps) (hb : builtM P t (evals vals ps).toList = some out) : SndO P rd o vals s (.agg out) s 0 0 :=
  sndO_still (fun c => by rw [h]; simp) fun ρ C ev w _ _ _ hxs => by
    obtain ⟨out', h1, h2⟩ := built_vrs (ρ := ρ) hb (evals_vr vals ev ps fun x hx => hxs x (by rw [h]; simp only [Op.operands]; simpa using hx))
    have e : (Array.map (fun x => (x.1, ev x.2)) ps) = evals ev ps := rfl
    exact ⟨.agg out', (by simp only [execOp, h, Sem.run_bind]; rw [e, run_build w t _ out' h1]; rfl), .agg _ _ h2.1 h2.2⟩

/-- A row of zeros. -/
theorem made_vrs {z : Array Value} (n : Nat) (hz : z.size ≠ 0) (hg : ground 12 (.agg z) = true) : VRs ρ (madeCells z n) (madeCells z n) := by
  refine ⟨rfl, fun i v v' h1 h2 => ?_⟩
  rw [h1] at h2
  cases h2
  have hlt : i < n := by
    rcases Nat.lt_or_ge i n with g | g
    · exact g
    · rw [Array.getElem?_eq_none (by rw [size_madeCells]; exact g)] at h1; cases h1
  have hm : i % z.size < z.size := Nat.mod_lt _ (by omega)
  have e : (madeCells z n)[i]? = some z[i % z.size] := by simp [madeCells, hlt, getElem!_pos z (i % z.size) hm]
  rw [e] at h1
  cases h1
  obtain ⟨cs', e', hv⟩ := agg_inv (ground_refl (ρ := ρ) 12 hg)
  cases e'
  exact hv.2 _ _ _ (Array.getElem?_eq_getElem hm) (Array.getElem?_eq_getElem hm)

/-- A slice of a new row. -/
theorem sndO_newSlice {o : Oper} {vals : Operand → Value} {m : MObj} {n c : Nat} (hd : ∀ c, o.op ≠ .defer c)
    (h : ∀ (ρ : Ren) (ev : Operand → Value) (w : World), (∀ x, x ∈ o.op.operands → VR ρ (vals x) (ev x)) →
      ∃ (o' : Obj) (L : Loc), (execOp ev o).run P w = .ok (.value (.slice (some ⟨w.heap.size, 0, none⟩) n c)) (w.alloc o') ∧ L.blk = w.heap.size ∧ L.base = 0 ∧ OR ρ L m o') :
    SndO P rd o vals s (.slice (some ⟨s.next, 0, none⟩) n c) (s.push m) 0 0 :=
  sndO_of hd (stat_push s m) fun ro ρ C ev w hp hv => by
    obtain ⟨o', L, hr, hL, hb, ho⟩ := h ρ ev w hv
    obtain ⟨p1, r1, hs⟩ := step_new hp hL ho
    refine ⟨_, _, _, .inl hr, p1, r1, ?_⟩
    have := VR.slice (ρ := ρ.add s.next L) s.next 0 n c c L hs (.inl rfl)
    rw [hL, hb] at this
    exact this
theorem sndO_buildSlice {o : Oper} {vals : Operand → Value} {t e : TypeId} {n : Nat} {ps : Array (Nat × Operand)} {ie : TypeInfo} {z : Value} {out : Array Value} (h : o.op = .buildSlice t n ps)
    (ht : P.underlying t = some (.slice e)) (hi : P.info? e = some ie) (hz : ie.zero = some z) (hg : ground 12 (.agg z.cells) = true) (hzs : z.cells.size ≠ 0) (h1 : n * ie.size ≤ 16777216) (h0 : n * ie.size ≠ 0)
    (hf : Instr.fill (fun i => some (i * ie.size, ie.size)) (madeCells z.cells (n * ie.size)) (evals vals ps).toList = some out) :
    SndO P rd o vals s (.slice (some ⟨s.next, 0, none⟩) n n) (s.push (.cells out.toList e false 0 false)) 0 0 :=
  sndO_newSlice (fun c => by rw [h]; simp) fun ρ ev w hxs => by
    obtain ⟨out', g1, g2⟩ := fill_vrs (ρ := ρ) _ _ (evals ev ps).toList _ _ out (evals_vr vals ev ps fun x hx => hxs x (by rw [h]; simp only [Op.operands]; simpa using hx)) (made_vrs (n * ie.size) hzs hg) hf
    have hr := run_buildSlice w t e n (evals ev ps) out' ie z ht hi hz (by omega) h0 g1
    refine ⟨.cells out' e, ⟨w.heap.size, 0, false, 0, out'.size⟩, ?_, rfl, rfl, or_cells g2 e _ false rfl⟩
    simp only [execOp, h, Sem.run_bind]
    rw [show (Array.map (fun x => (x.1, ev x.2)) ps) = evals ev ps from rfl, hr]
    rfl
theorem sndO_buildEmpty {o : Oper} {vals : Operand → Value} {t e : TypeId} {n : Nat} {ps : Array (Nat × Operand)} {ie : TypeInfo} (h : o.op = .buildSlice t n ps)
    (ht : P.underlying t = some (.slice e)) (hi : P.info? e = some ie) (h0 : n * ie.size = 0) (hp : ps.toList = []) :
    SndO P rd o vals s (.slice (some ⟨s.next, 0, none⟩) n n) (s.push (.cells [] e false 0 false)) 0 0 :=
  sndO_newSlice (fun c => by rw [h]; simp) fun ρ ev w hxs => by
    obtain rfl : ps = #[] := by apply Array.ext'; simpa using hp
    have hsz : (sizeOf e).run P w = .ok ie.size w := by simp [sizeOf, run_typeInfo w hi]
    refine ⟨.cells #[] e, ⟨w.heap.size, 0, false, 0, 0⟩, ?_, rfl, rfl, or_cells (cs := #[]) (cs' := #[]) ⟨rfl, fun i v v' h => by simp at h⟩ e _ false rfl⟩
    simp [execOp, h, Instr.buildSlice, run_underlying ht, hsz, h0, newRow, Instr.fill, Array.range_zero']
theorem sndO_makeSlice {o : Oper} {vals : Operand → Value} {t e : TypeId} {x y : Operand} {ie : TypeInfo} {z : Value} {kl kc : IntKind} {l c : Int} (h : o.op = .makeSlice t x y)
    (ht : P.underlying t = some (.slice e)) (hi : P.info? e = some ie) (hz : ie.zero = some z) (hg : ground 12 (.agg z.cells) = true) (hzs : z.cells.size ≠ 0) (hx : vals x = .int kl l) (hy : vals y = .int kc c)
    (h0 : 0 ≤ l) (h1 : l ≤ c) (h2 : (ie.bytes : Int) * c ≤ 281474976710656) (h3 : c ≤ 9223372036854775807) :
    SndO P rd o vals s (.slice (some ⟨s.next, 0, none⟩) l.toNat c.toNat) (s.push (.cells (madeCells z.cells (c.toNat * ie.size)).toList e false 0 false)) 0 0 :=
  sndO_newSlice (fun c => by rw [h]; simp) fun ρ ev w hxs => by
    have e1 := hxs x (by simp [h, Op.operands])
    have e2 := hxs y (by simp [h, Op.operands])
    rw [hx] at e1
    rw [hy] at e2
    have f1 := int_inv e1
    have f2 := int_inv e2
    have hr := run_make (P := P) w t e ie z ht hi hz kl kc l c h0 h1 h2 h3
    refine ⟨.cells (madeCells z.cells (c.toNat * ie.size)) e, ⟨w.heap.size, 0, false, 0, (madeCells z.cells (c.toNat * ie.size)).size⟩, ?_, rfl, rfl, or_cells (made_vrs _ hzs hg) e _ false rfl⟩
    simp [execOp, h, f1, f2, hr]

/-! ### Lengths, function values, interfaces -/
theorem sndO_lenSlice {o : Oper} {vals : Operand → Value} {t e : TypeId} {x : Operand} {c : Call} {a : Option Addr} {n k : Nat} (h : o.op = .call c) (hc : c.callee = .builtin .len) (ha : c.args = #[x]) (hat : c.argTypes = #[t])
    (ht : P.underlying t = some (.slice e)) (hx : vals x = .slice a n k) : SndO P rd o vals s (.int .i64 n) s 0 0 :=
  sndO_still (fun c => by rw [h]; simp) fun ρ C ev w _ _ _ hxs => by
    have h1 := hxs x (by simp [h, Op.operands, Call.operands, hc, ha])
    rw [hx] at h1
    have he : ∃ a' k', ev x = .slice a' n k' := by
      generalize ev x = y at h1
      cases h1 <;> exact ⟨_, _, rfl⟩
    obtain ⟨a', k', he⟩ := he
    refine ⟨.int .i64 n, ?_, .int _ _⟩
    simp [execOp, h, resolve, hc, ha, hat, invoke, builtin, Builtin.len_, he, run_underlying ht, goInt]
theorem sndO_makeFunc {o : Oper} {vals : Operand → Value} {fn : Fn} {as bs : Array Operand} (h : o.op = .makeFunc fn as bs) (hf : plainFn fn = true) : SndO P rd o vals s (.func fn (as.map vals) (bs.map vals)) s 0 0 :=
  sndO_still (fun c => by rw [h]; simp) fun ρ C ev w _ _ _ hxs => by
    have hm : ∀ (l : Array Operand), (∀ x, x ∈ l → VR ρ (vals x) (ev x)) → ∀ (i : Nat) (v v' : Value), (l.map vals)[i]? = some v → (l.map ev)[i]? = some v' → VR ρ v v' := fun l hl i v v' h1 h2 => by
      simp only [Array.getElem?_map, Option.map_eq_some_iff] at h1 h2
      obtain ⟨x, g1, rfl⟩ := h1
      obtain ⟨x', g2, rfl⟩ := h2
      rw [g1] at g2
      cases g2
      exact hl x (Array.mem_of_getElem? g1)
    refine ⟨.func fn (as.map ev) (bs.map ev), by simp [execOp, h, Instr.makeFunc], .func _ _ _ _ _ hf (by simp) (by simp) (hm as fun x hx => hxs x (by simp [h, Op.operands, hx])) (hm bs fun x hx => hxs x (by simp [h, Op.operands, hx]))⟩
theorem sndO_iface {o : Oper} {vals : Operand → Value} {t : TypeId} {x : Operand} {d : TypeDesc} (h : o.op = .makeInterface t x) (ht : P.underlying t = some d) (hd : ∀ ms, d ≠ .interface ms) : SndO P rd o vals s (.iface t (vals x)) s 0 0 :=
  sndO_still (fun c => by rw [h]; simp) fun ρ C ev w _ _ _ hxs => by
    have h1 := hxs x (by simp [h, Op.operands])
    refine ⟨.iface t (ev x), ?_, .iface t _ _ h1⟩
    cases d <;> first | (exact absurd rfl (hd _)) | simp [execOp, h, Instr.makeInterface, run_underlying ht]
end Mini
end Go.Proofs.YtgloclcbeohkhaaGreatDoor
