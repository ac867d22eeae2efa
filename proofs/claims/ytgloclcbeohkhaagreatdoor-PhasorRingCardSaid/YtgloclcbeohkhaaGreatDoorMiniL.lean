/-
  Calls: a function's body, its results; loads by the small world's words.
-/
import Derived.Test.YtgloclcbeohkhaaGreatDoorMiniI
import Derived.Test.YtgloclcbeohkhaaGreatDoorMiniK
namespace Go.Proofs.YtgloclcbeohkhaaGreatDoor
set_option linter.all false
namespace Mini
variable {P : Program} {rd : Option Nat} {s s1 : St} {R W : Nat} {ro : Option Nat} {ρ : Ren} {C : Nat → MObj} {w : World}

/-- What a load gives, and the block that it reads. -/
def loadM (P : Program) (s : St) (t : TypeId) : Value → Option (Value × Nat)
  | .pointer (some ⟨b, off, none⟩) =>
    match s.get b with
    | .cells c _ _ _ _ =>
      match aggT P t with
      | some true => match P.info? t with
        | some i => if off + i.size ≤ c.length then some (.agg (cut c off i.size), 2 ^ b) else none
        | none => none
      | some false => match c[off]? with
        | some v => some (v, 2 ^ b)
        | none => none
      | none => none
    | _ => none
  | _ => none
theorem loadM_run {t : TypeId} {v u v' : Value} {R0 : Nat} (h : loadM P s t v = some (u, R0)) (hv : VR ρ v v') (ha : ∀ b, R0.testBit b = true → b < s.next → C b = s.get b) (hr : WRel ρ C w) :
    ∃ a' u', v' = .pointer (some a') ∧ (loadVar t a').run P w = .ok u' w ∧ VR ρ u u' := by
  unfold loadM at h
  split at h
  · rename_i b off
    cases hc : s.get b with
    | cells c e opn sz r =>
      rw [hc] at h
      simp only at h
      obtain ⟨L, h2, he⟩ := ptr_inv hv
      have fin : R0 = 2 ^ b → ∃ cs fr, w.heap[L.blk]? = some (.cells cs (elemAt w L.blk) fr) ∧ OR ρ L (.cells c e opn sz r) (.cells cs (elemAt w L.blk) fr) := fun hR => by
        have hb := ha b (by rw [hR]; exact bit_self b) (St.lt_of_live (by rw [hc]; simp))
        obtain ⟨L', cs, fr, g1, g2, g3⟩ := row_of hr (hb.trans hc)
        rw [h2] at g1
        cases g1
        exact ⟨cs, fr, g2, g3⟩
      cases ht : aggT P t with
      | none => rw [ht] at h; cases h
      | some q =>
        rw [ht] at h
        cases q with
        | true =>
          simp only at h
          cases hi : P.info? t with
          | none => rw [hi] at h; cases h
          | some i =>
            rw [hi] at h
            simp only at h
            by_cases hle : off + i.size ≤ c.length
            · rw [if_pos hle] at h
              simp only [Option.some.injEq, Prod.mk.injEq] at h
              obtain ⟨rfl, rfl⟩ := h
              obtain ⟨cs, fr, g2, g3⟩ := fin rfl
              obtain ⟨k1, k2, k3, k4, k5, k6, k7⟩ := g3
              have hsz : (sizeOf t).run P w = .ok i.size w := by simp [sizeOf, run_typeInfo w hi]
              have hl := loadCells_run (P := P) (w := w) (base := L.base + off) g2 i.size 0 #[] (by omega)
              refine ⟨_, .agg (cut cs.toList (L.base + off) i.size), he, by simp [loadVar, isAgg_run ht, hsz, loadCells, hl, cut], ?_⟩
              have := cut_vrs (ρ := ρ) (L := L) (c := c) (cs := cs) (o := off) (n := i.size) hle (by omega) k6
              exact .agg _ _ this.1 this.2
            · rw [if_neg hle] at h; cases h
        | false =>
          simp only at h
          cases hn : c[off]? with
          | none => rw [hn] at h; cases h
          | some x =>
            rw [hn] at h
            simp only [Option.some.injEq, Prod.mk.injEq] at h
            obtain ⟨rfl, rfl⟩ := h
            obtain ⟨cs, fr, g2, g3⟩ := fin rfl
            obtain ⟨k1, k2, k3, k4, k5, k6, k7⟩ := g3
            obtain ⟨x', m1, m2⟩ := k6 _ _ hn
            have hcell : w.cell? ⟨L.blk, L.base + off, none⟩ = some x' := (cell_row g2 _).trans m1
            exact ⟨_, x', he, by simp [loadVar, isAgg_run ht, hcell], m2⟩
    | _ => rw [hc] at h; simp at h
  · cases h
theorem sndO_load {o : Oper} {vals : Operand → Value} {t : TypeId} {x : Operand} {v : Value} {R0 : Nat} (h : o.op = .load t x) (hl : loadM P s t (vals x) = some (v, R0)) : SndO P rd o vals s v s R0 0 :=
  sndO_still (fun c => by rw [h]; simp) fun ρ C ev w _ ha hr hx => by
    obtain ⟨a', u', h1, h2, h3⟩ := loadM_run (w := w) hl (hx x (by simp [h, Op.operands])) ha hr
    exact ⟨u', by simp [execOp, h, h1, Instr.loadAt, Instr.sureAddr, h2], h3⟩

/-! ### A function's results -/
def resultM (P : Program) (s : St) (tmps : Array Value) : ResultVar → Option (Value × Nat)
  | .tmp t => some (tmps.getD t undef, 0)
  | .cell a t => loadM P s t (tmps.getD a undef)
def resultsL (P : Program) (s : St) (tmps : Array Value) : List ResultVar → Option (List Value × Nat)
  | [] => some ([], 0)
  | r :: rs => match resultM P s tmps r, resultsL P s tmps rs with
    | some (v, R1), some (vs, R2) => some (v :: vs, R1 ||| R2)
    | _, _ => none
/-- What a function hands back. -/
def outV : List Value → Value
  | [v] => v
  | vs => .tuple vs.toArray
theorem resultsL_run {tmps tmps' : Array Value} (ht : VRs ρ tmps tmps') (hr : WRel ρ C w) : ∀ (rs : List ResultVar) (vs : List Value) (R0 : Nat), resultsL P s tmps rs = some (vs, R0) → (∀ b, R0.testBit b = true → b < s.next → C b = s.get b) →
    ∃ vs' : List Value, (rs.mapM fun r => (match r with | .tmp t => pure (tmps'.getD t undef) | .cell a t => do loadVar t (← asAddr (tmps'.getD a undef)) : Sem Value)).run P w = .ok vs' w ∧ vs.length = vs'.length ∧ ∀ (i : Nat) (v v' : Value), vs[i]? = some v → vs'[i]? = some v' → VR ρ v v'
  | [], vs, R0, h, ha => by
    simp only [resultsL, Option.some.injEq, Prod.mk.injEq] at h
    obtain ⟨rfl, rfl⟩ := h
    exact ⟨[], by simp, rfl, fun i v v' h => by simp at h⟩
  | r :: rs, vs, R0, h, ha => by
    simp only [resultsL] at h
    cases h1 : resultM P s tmps r with
    | none => rw [h1] at h; simp at h
    | some q =>
      obtain ⟨v, R1⟩ := q
      cases h2 : resultsL P s tmps rs with
      | none => rw [h1, h2] at h; simp at h
      | some q2 =>
        obtain ⟨us, R2⟩ := q2
        rw [h1, h2] at h
        simp only [Option.some.injEq, Prod.mk.injEq] at h
        obtain ⟨rfl, rfl⟩ := h
        obtain ⟨us', g1, g2, g3⟩ := resultsL_run ht hr rs us R2 h2 (fun b hb => ha b (by rw [or_bit, hb]; simp))
        have hone : ∃ v', (match r with | .tmp t => pure (tmps'.getD t undef) | .cell a t => do loadVar t (← asAddr (tmps'.getD a undef)) : Sem Value).run P w = .ok v' w ∧ VR ρ v v' := by
          cases r with
          | tmp t =>
            simp only [resultM, Option.some.injEq, Prod.mk.injEq] at h1
            obtain ⟨rfl, rfl⟩ := h1
            exact ⟨_, rfl, ht.getD t⟩
          | cell a t =>
            simp only [resultM] at h1
            obtain ⟨a', u', k1, k2, k3⟩ := loadM_run (w := w) h1 (ht.getD a) (fun b hb => ha b (by rw [or_bit, hb]; simp)) hr
            exact ⟨u', by simp only [k1, asAddr, Sem.run_bind, Sem.run_pure, Result.andThen_ok, k2], k3⟩
        obtain ⟨v', m1, m2⟩ := hone
        refine ⟨v' :: us', ?_, by simp [g2], fun i x x' e1 e2 => ?_⟩
        · rw [List.mapM_cons]
          simp only [Sem.run_bind, m1, Result.andThen_ok, g1, Sem.run_pure]
        · match i, e1, e2 with
          | 0, e1, e2 => simp at e1 e2; subst e1 e2; exact m2
          | i + 1, e1, e2 => exact g3 i x x' (by simpa using e1) (by simpa using e2)
theorem results_run {fn : Func} {tmps tmps' : Array Value} {vs : List Value} {R0 : Nat} (ht : VRs ρ tmps tmps') (hr : WRel ρ C w) (h : resultsL P s tmps fn.results.toList = some (vs, R0)) (ha : ∀ b, R0.testBit b = true → b < s.next → C b = s.get b) :
    ∃ v', (results fn tmps').run P w = .ok v' w ∧ VR ρ (outV vs) v' := by
  obtain ⟨vs', h1, h2, h3⟩ := resultsL_run ht hr _ vs R0 h ha
  have hm : (fn.results.mapM fun r => (match r with | .tmp t => pure (tmps'.getD t undef) | .cell a t => do loadVar t (← asAddr (tmps'.getD a undef)) : Sem Value)).run P w = .ok vs'.toArray w := by
    rw [Array.mapM_eq_mapM_toList, Sem.run_map, h1]
    rfl
  refine ⟨outV vs', ?_, ?_⟩
  · have e : results fn tmps' = ((fn.results.mapM fun r => (match r with | .tmp t => pure (tmps'.getD t undef) | .cell a t => do loadVar t (← asAddr (tmps'.getD a undef)) : Sem Value)) >>= fun vs => pure (if h : vs.size = 1 then vs[0] else .tuple vs)) := rfl
    rw [e, Sem.run_bind, hm]
    match vs' with
    | [] => rfl
    | [v] => rfl
    | v :: u :: l => simp [outV]
  · match vs, vs', h2, h3 with
    | [], [], _, _ => exact undef_vr ρ
    | [v], [v'], _, h3 => exact h3 0 v v' rfl rfl
    | v :: u :: l, v' :: u' :: l', h2, h3 => exact .tuple _ _ (by simpa using h2) (fun i x x' e1 e2 => h3 i x x' (by simpa using e1) (by simpa using e2))
    | [], _ :: _, h2, _ => simp at h2
    | _ :: _, [], h2, _ => simp at h2
    | [_], _ :: _ :: _, h2, _ => simp at h2
    | _ :: _ :: _, [_], h2, _ => simp at h2

/-- A function that leads from one small world to another one. -/
def SndF (P : Program) (f : FuncId) (args : Array Value) (s : St) (v : Value) (s1 : St) (R W : Nat) : Prop :=
  Stat s s1 W ∧ ∀ (n : Nat) (ρ : Ren) (C : Nat → MObj) (args' : Array Value) (w : World) (Q : Ending → World → Prop), Pre P none s s1 R W none ρ C w → VRs ρ args args' →
    (∀ ρ1 v' w1, Post ρ s s1 W w ρ1 w1 → WRel ρ1 (upd C s s1 W) w1 → VR ρ1 v v' → Q (.returned v') w1) → CallsIn (Fw none) n P f args' w Q

/-- The temporaries at a function's begin. -/
def startA (fn : Func) (args : Array Value) : Act := { tmps := args ++ Array.replicate (fn.ntmps - args.size) undef, defers := [] }
theorem startA_ar {fn : Func} {args args' : Array Value} (h : VRs ρ args args') : AR ρ (startA fn args) (startA fn args') := by
  refine ⟨?_, trivial⟩
  unfold startA
  simp only
  rw [← h.1]
  refine vrs_append h ⟨rfl, fun i v v' h1 h2 => ?_⟩
  rw [h1] at h2
  cases h2
  rw [Array.getElem?_replicate] at h1
  split at h1
  · cases h1; exact undef_vr ρ
  · cases h1

/-- A function's contract out of its body's walk. -/
theorem sndF_of {f : FuncId} {fn : Func} {c : Code} {args : Array Value} {e : Exit} {a1 : Act} {vs : List Value} {R1 R2 : Nat} (hf : P.funcs[f]? = some fn) (hb : fn.body = some c) (he : e = .normal ∨ e = .ret) (hd : a1.defers = [])
    (h : SndC P none c (startA fn args) s e a1 s1 R1 W) (hv : resultsL P s1 a1.tmps fn.results.toList = some (vs, R2)) : SndF P f args s (outV vs) s1 (R1 ||| R2) W := by
  refine ⟨h.1, fun n ρ C args' w Q hp ha hQ => ?_⟩
  refine callsIn_of_wp hf hb (Fw_fn none f) ?_ rfl
  have hp1 : Pre P none s s1 R1 W none ρ C w := ⟨hp.glob, hp.round, fun b hb => hp.agree b (by simp only [or_bit, Bool.or_eq_true] at hb ⊢; rcases hb with k | k <;> simp [k]), hp.free, hp.rel⟩
  refine h.2 n none ρ C _ w _ hp1 (startA_ar ha) fun ρ1 a1' w1 p1 r1 ha1 => ?_
  have hag : ∀ b, R2.testBit b = true → b < s1.next → upd C s s1 W b = s1.get b := fun b hb hlt => by
    unfold upd
    split
    · rfl
    · rename_i hn
      have hlo : b < s.next := by
        rcases Nat.lt_or_ge b s.next with c | c
        · exact c
        · exact absurd (.inl ⟨c, hlt⟩) hn
      rw [hp.agree b (by simp only [or_bit, Bool.or_eq_true]; exact .inl (.inr hb)) hlo]
      refine (h.1.2 b hlo ?_).symm
      cases hw : W.testBit b with
      | false => rfl
      | true => exact absurd (.inr ⟨hw, hlo⟩) hn
  obtain ⟨v', g1, g2⟩ := results_run ha1.tmps r1 hv hag
  have hd' : a1'.defers = [] := by
    have := ha1.defs
    rw [hd] at this
    cases hdd : a1'.defers with
    | nil => rfl
    | cons x xs => rw [hdd] at this; exact this.elim
  rcases he with rfl | rfl <;> exact ⟨hd', v', g1, hQ ρ1 v' w1 p1 r1 g2⟩

/-- A call of a function with a body. -/
theorem sndO_call {o : Oper} {vals : Operand → Value} {c : Call} {x : Operand} {f : FuncId} {fn : Func} {as bs : Array Value} {v : Value} (h : o.op = .call c) (hc : c.callee = .value x) (hx : vals x = .func (.func f) as bs) (hf : P.funcs[f]? = some fn) (hb : fn.body.isSome = true) (hn : (fn.name == "runtime.NumGoroutine") = false)
    (hF : SndF P f (as ++ c.args.map vals ++ bs) s v s1 R W) : SndO P rd o vals s v s1 R W := by
  refine ⟨hF.1, fun n ro ρ C a' w next Q hp hv hQ => ?_⟩
  have hop : o.op.operands = #[x] ++ c.args := by simp [h, Op.operands, Call.operands, hc]
  have h1 := hv x (by rw [hop]; simp)
  rw [hx] at h1
  have hargs : VRs ρ (c.args.map vals) (c.args.map a'.eval) := by
    refine ⟨by simp, fun i v v' g1 g2 => ?_⟩
    simp only [Array.getElem?_map, Option.map_eq_some_iff] at g1 g2
    obtain ⟨y, k1, rfl⟩ := g1
    obtain ⟨y', k2, rfl⟩ := g2
    rw [k1] at k2
    cases k2
    exact hv y (by rw [hop]; simp [Array.mem_of_getElem? k1])
  generalize he : a'.eval x = z at h1
  cases h1 with
  | func fn' as' bs' as2 bs2 hpf e1 e2 e3 e4 =>
    have hb' : fn.body.isNone = false := by cases hbb : fn.body <;> simp_all
    have hrun : (execOp a'.eval o).run P w = .ok (.enter f (as2 ++ c.args.map a'.eval ++ bs2)) w := by
      simp only [execOp, h, resolve, hc, he, Deferred.ofValue, Sem.run_bind, Sem.run_pure, Result.andThen_ok, invoke, callFunc, run_program, hf, hn, Bool.false_eq_true, if_false, hb']
    refine ⟨fun g _ => Fw_fn ro g, ?_⟩
    rw [Oper.semAt_eq _ _ _ (fun c => by rw [h]; simp), hrun]
    refine ⟨fun hd => by simp [Fw, Fence.wide] at hd, ?_⟩
    refine hF.2 (n - 1) ρ C _ w _ ⟨hp.glob, trivial, hp.agree, hp.free, hp.rel⟩ (vrs_append (vrs_append ⟨e1, e3⟩ hargs) ⟨e2, e4⟩) fun ρ1 v' w1 p1 r1 h2 => hQ ρ1 v' w1 p1 r1 h2
end Mini
end Go.Proofs.YtgloclcbeohkhaaGreatDoor
