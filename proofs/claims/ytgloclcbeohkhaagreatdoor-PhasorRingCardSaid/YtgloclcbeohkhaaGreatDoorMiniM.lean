/-
  The reckoner of the small world: operations.
-/
import Derived.Test.YtgloclcbeohkhaaGreatDoorMiniL
namespace Go.Proofs.YtgloclcbeohkhaaGreatDoor
set_option linter.all false
namespace Mini
variable {P : Program} {rd : Option Nat} {s s1 : St} {R W : Nat}

/-- A value, a world, what was read, what was written. -/
abbrev Out := Value × St × Nat × Nat
abbrev CallF := FuncId → Array Value → St → Option Out

def evGround (P : Program) (vals : Operand → Value) (o : Oper) (s : St) : Option Out :=
  match o.op with
  | .defer _ => none
  | .select _ _ => none
  | _ =>
    if o.op.operands.toList.all (fun x => ground 12 (vals x)) = true then
      match pureRun P (execOp vals o) with
      | some (.value v) => if ground 12 v = true then some (v, s, 0, 0) else none
      | _ => none
    else none
theorem evGround_snd {o : Oper} {vals : Operand → Value} {v : Value} (h : evGround P vals o s = some (v, s1, R, W)) : SndO P rd o vals s v s1 R W := by
  have hd : ∀ c, o.op ≠ .defer c := fun c e => by unfold evGround at h; rw [e] at h; cases h
  have hs : ∀ cs b, o.op ≠ .select cs b := fun cs b e => by unfold evGround at h; rw [e] at h; cases h
  have key : (if o.op.operands.toList.all (fun x => ground 12 (vals x)) = true then
      match pureRun P (execOp vals o) with
      | some (.value v) => if ground 12 v = true then some (v, s, 0, 0) else none
      | _ => none
    else none) = some (v, s1, R, W) := by
    unfold evGround at h
    split at h
    · cases h
    · cases h
    · exact h
  split at key
  · rename_i hg
    split at key
    · rename_i v0 hp
      split at key
      · rename_i hv
        simp only [Option.some.injEq, Prod.mk.injEq] at key
        obtain ⟨rfl, rfl, rfl, rfl⟩ := key
        exact sndO_ground hd hs hg hp hv
      · cases key
    · cases key
  · cases key

def evAlloc (P : Program) (t : TypeId) (s : St) : Option Out :=
  match P.info? t with
  | some i => match i.zero with
    | some z => if ground 12 z = true then some (.pointer (some ⟨s.next, 0, none⟩), s.push (.cells z.cells.toList t false 0 false), 0, 0) else none
    | none => none
  | none => none
theorem evAlloc_snd {o : Oper} {vals : Operand → Value} {t : TypeId} {v : Value} (ho : o.op = .alloc t) (h : evAlloc P t s = some (v, s1, R, W)) : SndO P rd o vals s v s1 R W := by
  unfold evAlloc at h
  split at h
  · rename_i i hi
    split at h
    · rename_i z hz
      split at h
      · rename_i hg
        simp only [Option.some.injEq, Prod.mk.injEq] at h
        obtain ⟨rfl, rfl, rfl, rfl⟩ := h
        exact sndO_alloc ho hi hz hg
      · cases h
    · cases h
  · cases h

def evStore (P : Program) (t : TypeId) (a x : Value) (s : St) : Option Out :=
  match P.info? t, a with
  | some i, .pointer (some ⟨b, off, none⟩) => match s.get b with
    | .cells c e opn sz false =>
      if x.cells.size = i.size ∧ off + i.size ≤ c.length ∧ x.cells.toList.all Value.oneCell' = true then some (undef, s.put b (.cells (setL c off x.cells.toList) e opn sz false), 0, 2 ^ b) else none
    | _ => none
  | _, _ => none
theorem evStore_snd {o : Oper} {vals : Operand → Value} {t : TypeId} {a x : Operand} {v : Value} (ho : o.op = .store t a x) (h : evStore P t (vals a) (vals x) s = some (v, s1, R, W)) : SndO P rd o vals s v s1 R W := by
  unfold evStore at h
  split at h
  · rename_i i b off hi ha
    split at h
    · rename_i c e opn sz hc
      split at h
      · rename_i hcond
        simp only [Option.some.injEq, Prod.mk.injEq] at h
        obtain ⟨rfl, rfl, rfl, rfl⟩ := h
        exact sndO_store ho hi ha hc hcond.1 hcond.2.1 hcond.2.2
      · cases h
    · cases h
  · cases h

def evNil (x : Value) (s : St) : Option Out :=
  match x with
  | .pointer (some _) => some (x, s, 0, 0)
  | .iface _ _ => some (x, s, 0, 0)
  | .func (.method _) _ _ => none
  | .func _ _ _ => some (x, s, 0, 0)
  | _ => none
theorem evNil_snd {o : Oper} {vals : Operand → Value} {x : Operand} {v : Value} (ho : o.op = .nilCheck x) (h : evNil (vals x) s = some (v, s1, R, W)) : SndO P rd o vals s v s1 R W := by
  have hr : v = vals x ∧ s1 = s ∧ R = 0 ∧ W = 0 := by
    unfold evNil at h
    split at h <;> first | (cases h; done) | (simp only [Option.some.injEq, Prod.mk.injEq] at h; obtain ⟨rfl, rfl, rfl, rfl⟩ := h; exact ⟨rfl, rfl, rfl, rfl⟩)
  obtain ⟨rfl, rfl, rfl, rfl⟩ := hr
  refine sndO_nilCheck ho ?_
  unfold evNil at h
  generalize vals x = y at h ⊢
  cases y with
  | pointer a => cases a <;> simp at h ⊢
  | iface t v => trivial
  | func fn as bs => cases fn <;> simp at h ⊢
  | _ => simp at h

def evFieldAddr (P : Program) (t : TypeId) (x : Value) (k : Nat) (s : St) : Option Out :=
  match P.underlying t, x with
  | some (.struct fs), .pointer (some ⟨b, off, none⟩) => match fs[k]? with
    | some f => match P.info? f.type with
      | some i => if i.size ≠ 0 then some (.pointer (some ⟨b, off + f.offset, none⟩), s, 0, 0) else none
      | none => none
    | none => none
  | _, _ => none
theorem evFieldAddr_snd {o : Oper} {vals : Operand → Value} {t : TypeId} {x : Operand} {k : Nat} {v : Value} (ho : o.op = .fieldAddr t x k) (h : evFieldAddr P t (vals x) k s = some (v, s1, R, W)) : SndO P rd o vals s v s1 R W := by
  unfold evFieldAddr at h
  split at h
  · rename_i fs b off ht hx
    split at h
    · rename_i f hf
      split at h
      · rename_i i hi
        split at h
        · rename_i hz
          simp only [Option.some.injEq, Prod.mk.injEq] at h
          obtain ⟨rfl, rfl, rfl, rfl⟩ := h
          exact sndO_fieldAddr ho ht hf hi hz hx
        · cases h
      · cases h
    · cases h
  · cases h

def evIndexAddr (P : Program) (t : TypeId) (x y : Value) (s : St) : Option Out :=
  match P.underlying t, x, y with
  | some (.array n e), .pointer (some ⟨b, off, none⟩), .int _ j => match P.info? e with
    | some i => if 0 ≤ j ∧ j < n then some (.pointer (some ⟨b, off + j.toNat * i.size, none⟩), s, 0, 0) else none
    | none => none
  | some (.slice e), .slice (some ⟨b, off, none⟩) n _, .int _ j => match P.info? e with
    | some i => if 0 ≤ j ∧ j < n then some (.pointer (some ⟨b, off + j.toNat * i.size, none⟩), s, 0, 0) else none
    | none => none
  | _, _, _ => none
theorem evIndexAddr_snd {o : Oper} {vals : Operand → Value} {t : TypeId} {x y : Operand} {v : Value} (ho : o.op = .indexAddr t x y) (h : evIndexAddr P t (vals x) (vals y) s = some (v, s1, R, W)) : SndO P rd o vals s v s1 R W := by
  unfold evIndexAddr at h
  split at h
  · rename_i n e b off k j ht hx hy
    split at h
    · rename_i i hi
      split at h
      · rename_i hj
        simp only [Option.some.injEq, Prod.mk.injEq] at h
        obtain ⟨rfl, rfl, rfl, rfl⟩ := h
        exact sndO_indexArr ho ht hi hy hj hx
      · cases h
    · cases h
  · rename_i e b off n c k j ht hx hy
    split at h
    · rename_i i hi
      split at h
      · rename_i hj
        simp only [Option.some.injEq, Prod.mk.injEq] at h
        obtain ⟨rfl, rfl, rfl, rfl⟩ := h
        exact sndO_indexSlice ho ht hi hy hj hx
      · cases h
    · cases h
  · cases h

def evField (P : Program) (t : TypeId) (x : Value) (k : Nat) (s : St) : Option Out :=
  match P.underlying t, x with
  | some (.struct fs), .agg cs => match fs[k]? with
    | some f => match partM P f.type cs f.offset with
      | some v => some (v, s, 0, 0)
      | none => none
    | none => none
  | _, _ => none
theorem evField_snd {o : Oper} {vals : Operand → Value} {t : TypeId} {x : Operand} {k : Nat} {v : Value} (ho : o.op = .field t x k) (h : evField P t (vals x) k s = some (v, s1, R, W)) : SndO P rd o vals s v s1 R W := by
  unfold evField at h
  split at h
  · rename_i fs cs ht hx
    split at h
    · rename_i f hf
      split at h
      · rename_i u hu
        simp only [Option.some.injEq, Prod.mk.injEq] at h
        obtain ⟨rfl, rfl, rfl, rfl⟩ := h
        exact sndO_field ho ht hf hx hu
      · cases h
    · cases h
  · cases h
def evIndex (P : Program) (t : TypeId) (x y : Value) (s : St) : Option Out :=
  match P.underlying t, x, y with
  | some (.array n e), .agg cs, .int _ j => match P.info? e with
    | some i => if 0 ≤ j ∧ j < n then (match partM P e cs (j.toNat * i.size) with
      | some v => some (v, s, 0, 0)
      | none => none) else none
    | none => none
  | _, _, _ => none
theorem evIndex_snd {o : Oper} {vals : Operand → Value} {t : TypeId} {x y : Operand} {v : Value} (ho : o.op = .index t x y) (h : evIndex P t (vals x) (vals y) s = some (v, s1, R, W)) : SndO P rd o vals s v s1 R W := by
  unfold evIndex at h
  split at h
  · rename_i n e cs k j ht hx hy
    split at h
    · rename_i i hi
      split at h
      · rename_i hj
        split at h
        · rename_i u hu
          simp only [Option.some.injEq, Prod.mk.injEq] at h
          obtain ⟨rfl, rfl, rfl, rfl⟩ := h
          exact sndO_index ho ht hi hy hj hx hu
        · cases h
      · cases h
    · cases h
  · cases h
def evExtract (x : Value) (k : Nat) (s : St) : Option Out :=
  match x with
  | .tuple cs => match cs[k]? with
    | some v => some (v, s, 0, 0)
    | none => none
  | _ => none
theorem evExtract_snd {o : Oper} {vals : Operand → Value} {x : Operand} {k : Nat} {v : Value} (ho : o.op = .extract x k) (h : evExtract (vals x) k s = some (v, s1, R, W)) : SndO P rd o vals s v s1 R W := by
  unfold evExtract at h
  split at h
  · rename_i cs hx
    split at h
    · rename_i u hu
      simp only [Option.some.injEq, Prod.mk.injEq] at h
      obtain ⟨rfl, rfl, rfl, rfl⟩ := h
      exact sndO_extract ho hx hu
    · cases h
  · cases h
def evBuild (P : Program) (vals : Operand → Value) (t : TypeId) (ps : Array (Nat × Operand)) (s : St) : Option Out :=
  match builtM P t (evals vals ps).toList with
  | some out => some (.agg out, s, 0, 0)
  | none => none
theorem evBuild_snd {o : Oper} {vals : Operand → Value} {t : TypeId} {ps : Array (Nat × Operand)} {v : Value} (ho : o.op = .build t ps) (h : evBuild P vals t ps s = some (v, s1, R, W)) : SndO P rd o vals s v s1 R W := by
  unfold evBuild at h
  split at h
  · rename_i out hb
    simp only [Option.some.injEq, Prod.mk.injEq] at h
    obtain ⟨rfl, rfl, rfl, rfl⟩ := h
    exact sndO_build ho hb
  · cases h
def evBuildSlice (P : Program) (vals : Operand → Value) (t : TypeId) (n : Nat) (ps : Array (Nat × Operand)) (s : St) : Option Out :=
  match P.underlying t with
  | some (.slice e) => match P.info? e with
    | some ie => match ie.zero with
      | some z =>
        if n * ie.size = 0 then (if ps.toList.isEmpty = true then some (.slice (some ⟨s.next, 0, none⟩) n n, s.push (.cells [] e false 0 false), 0, 0) else none)
        else if ground 12 (.agg z.cells) = true ∧ z.cells.size ≠ 0 ∧ n * ie.size ≤ 16777216 then
          (match Instr.fill (fun i => some (i * ie.size, ie.size)) (madeCells z.cells (n * ie.size)) (evals vals ps).toList with
          | some out => some (.slice (some ⟨s.next, 0, none⟩) n n, s.push (.cells out.toList e false 0 false), 0, 0)
          | none => none)
        else none
      | none => none
    | none => none
  | _ => none
theorem evBuildSlice_snd {o : Oper} {vals : Operand → Value} {t : TypeId} {n : Nat} {ps : Array (Nat × Operand)} {v : Value} (ho : o.op = .buildSlice t n ps) (h : evBuildSlice P vals t n ps s = some (v, s1, R, W)) : SndO P rd o vals s v s1 R W := by
  unfold evBuildSlice at h
  split at h
  · rename_i e ht
    split at h
    · rename_i ie hi
      split at h
      · rename_i z hz
        split at h
        · rename_i h0
          split at h
          · rename_i hp
            simp only [Option.some.injEq, Prod.mk.injEq] at h
            obtain ⟨rfl, rfl, rfl, rfl⟩ := h
            exact sndO_buildEmpty ho ht hi h0 (by simpa using hp)
          · cases h
        · rename_i h0
          split at h
          · rename_i hg
            split at h
            · rename_i out hf
              simp only [Option.some.injEq, Prod.mk.injEq] at h
              obtain ⟨rfl, rfl, rfl, rfl⟩ := h
              exact sndO_buildSlice ho ht hi hz hg.1 hg.2.1 hg.2.2 h0 hf
            · cases h
          · cases h
      · cases h
    · cases h
  · cases h
def evMakeSlice (P : Program) (t : TypeId) (x y : Value) (s : St) : Option Out :=
  match P.underlying t, x, y with
  | some (.slice e), .int _ l, .int _ c => match P.info? e with
    | some ie => match ie.zero with
      | some z =>
        if ground 12 (.agg z.cells) = true ∧ z.cells.size ≠ 0 ∧ 0 ≤ l ∧ l ≤ c ∧ (ie.bytes : Int) * c ≤ 281474976710656 ∧ c ≤ 1048576 then
          some (.slice (some ⟨s.next, 0, none⟩) l.toNat c.toNat, s.push (.cells (madeCells z.cells (c.toNat * ie.size)).toList e false 0 false), 0, 0)
        else none
      | none => none
    | none => none
  | _, _, _ => none
theorem evMakeSlice_snd {o : Oper} {vals : Operand → Value} {t : TypeId} {x y : Operand} {v : Value} (ho : o.op = .makeSlice t x y) (h : evMakeSlice P t (vals x) (vals y) s = some (v, s1, R, W)) : SndO P rd o vals s v s1 R W := by
  unfold evMakeSlice at h
  split at h
  · rename_i e k1 l k2 c ht hx hy
    split at h
    · rename_i ie hi
      split at h
      · rename_i z hz
        split at h
        · rename_i hg
          simp only [Option.some.injEq, Prod.mk.injEq] at h
          obtain ⟨rfl, rfl, rfl, rfl⟩ := h
          exact sndO_makeSlice ho ht hi hz hg.1 hg.2.1 hx hy hg.2.2.1 hg.2.2.2.1 hg.2.2.2.2.1 (by omega)
        · cases h
      · cases h
    · cases h
  · cases h
def evSlice (P : Program) (t : TypeId) (x : Value) (lo hi mx : Option Value) (s : St) : Option Out :=
  if isIntO lo = true ∧ isIntO hi = true ∧ isIntO mx = true then
    match P.underlying t, x with
    | some (.slice e), .slice (some ⟨b, off, none⟩) n c => match P.info? e, s.get b with
      | some i, .cells _ _ opn sz _ =>
        if (opn = true → sz = i.size) ∧ n ≤ c then (match boundsM n c lo hi mx with
          | some (l, h, m) => some (subM b off i.size l h m mx.isSome, s, 2 ^ b, 0)
          | none => none) else none
      | _, _ => none
    | some (.array n e), .pointer (some ⟨b, off, none⟩) => match P.info? e, boundsM n n lo hi mx with
      | some i, some (l, h, m) => some (if m = l then .slice (some dead) 0 0 else .slice (some ⟨b, off + l * i.size, none⟩) (h - l) (m - l), s, 0, 0)
      | _, _ => none
    | _, _ => none
  else none
theorem evSlice_snd {o : Oper} {vals : Operand → Value} {t : TypeId} {x : Operand} {lo hi mx : Option Operand} {v : Value} (ho : o.op = .slice t x lo hi mx) (h : evSlice P t (vals x) (lo.map vals) (hi.map vals) (mx.map vals) s = some (v, s1, R, W)) : SndO P rd o vals s v s1 R W := by
  unfold evSlice at h
  split at h
  · rename_i hint
    split at h
    · rename_i e b off n c ht hx
      split at h
      · rename_i i cc e' opn sz r hi' hc
        split at h
        · rename_i hcond
          split at h
          · rename_i l hh m hb
            simp only [Option.some.injEq, Prod.mk.injEq] at h
            obtain ⟨rfl, rfl, rfl, rfl⟩ := h
            have := sndO_subSlice (P := P) (rd := rd) ho ht hi' hx hc hcond.1 hcond.2 hint.1 hint.2.1 hint.2.2 hb
            rwa [show mx.isSome = (mx.map vals).isSome from by cases mx <;> rfl] at this
          · cases h
        · cases h
      · cases h
    · rename_i n e b off ht hx
      split at h
      · rename_i i l hh m hi' hb
        simp only [Option.some.injEq, Prod.mk.injEq] at h
        obtain ⟨rfl, rfl, rfl, rfl⟩ := h
        exact sndO_subArr ho ht hi' hx hint.1 hint.2.1 hint.2.2 hb
      · cases h
    · cases h
  · cases h
def evFunc (vals : Operand → Value) (fn : Fn) (as bs : Array Operand) (s : St) : Option Out := if plainFn fn = true then some (.func fn (as.map vals) (bs.map vals), s, 0, 0) else none
def evIface (P : Program) (t : TypeId) (x : Value) (s : St) : Option Out :=
  match P.underlying t with
  | some (.interface _) => none
  | some _ => some (.iface t x, s, 0, 0)
  | none => none
theorem evFunc_snd {o : Oper} {vals : Operand → Value} {fn : Fn} {as bs : Array Operand} {v : Value} (ho : o.op = .makeFunc fn as bs) (h : evFunc vals fn as bs s = some (v, s1, R, W)) : SndO P rd o vals s v s1 R W := by
  unfold evFunc at h
  split at h
  · rename_i hf
    simp only [Option.some.injEq, Prod.mk.injEq] at h
    obtain ⟨rfl, rfl, rfl, rfl⟩ := h
    exact sndO_makeFunc ho hf
  · cases h
theorem evIface_snd {o : Oper} {vals : Operand → Value} {t : TypeId} {x : Operand} {v : Value} (ho : o.op = .makeInterface t x) (h : evIface P t (vals x) s = some (v, s1, R, W)) : SndO P rd o vals s v s1 R W := by
  unfold evIface at h
  split at h
  · cases h
  · rename_i d hn ht
    simp only [Option.some.injEq, Prod.mk.injEq] at h
    obtain ⟨rfl, rfl, rfl, rfl⟩ := h
    exact sndO_iface ho ht (fun ms e => hn ms (by subst e; first | exact ht | rfl))
  · cases h
end Mini
end Go.Proofs.YtgloclcbeohkhaaGreatDoor
