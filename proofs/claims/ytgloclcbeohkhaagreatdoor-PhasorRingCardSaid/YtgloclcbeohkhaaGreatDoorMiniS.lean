/-
  The reckoner with unknown numbers: which way a branch goes is foretold by a list of numbers, and what must hold for it is gathered.
-/
import Derived.Test.YtgloclcbeohkhaaGreatDoorMiniT
namespace Go.Proofs.YtgloclcbeohkhaaGreatDoor
set_option linter.all false
open Go.RowKit
namespace Mini
variable {P : Program} {rd : Option Nat} {s s1 : St} {R W : Nat}

/-- What is foretold, and what must hold. -/
structure Orc where
  rest : List Nat
  ob : Prop
abbrev OutS := Value × St × Nat × Nat × Orc
abbrev CallS := FuncId → Array Value → St → Orc → Option OutS
def FOkS (P : Program) (F : CallS) : Prop := ∀ f as s q v s1 R W q1, F f as s q = some (v, s1, R, W, q1) → (q1.ob → q.ob) ∧ (q1.ob → SndF P f as s v s1 R W)
def OpOk (P : Program) (o : Oper) (vals : Operand → Value) (s : St) (q : Orc) (r : OutS) : Prop := (r.2.2.2.2.ob → q.ob) ∧ (∀ rd, r.2.2.2.2.ob → SndO P rd o vals s r.1 r.2.1 r.2.2.1 r.2.2.2.1)

def noF : CallF := fun _ _ _ => none
theorem noF_ok : ∀ f as s v s1 R W, noF f as s = some (v, s1, R, W) → SndF P f as s v s1 R W := fun f as s v s1 R W h => by cases h
def wrap (r : Option Out) (q : Orc) : Option OutS := match r with
  | some (v, s1, R, W) => some (v, s1, R, W, q)
  | none => none
theorem wrap_ok {o : Oper} {vals : Operand → Value} {q : Orc} {r : OutS} {m : Option Out} (h : wrap m q = some r) (hm : ∀ rd v s1 R W, m = some (v, s1, R, W) → SndO P rd o vals s v s1 R W) : OpOk P o vals s q r := by
  unfold wrap at h
  split at h
  · cases h
    exact ⟨id, fun rd _ => hm rd _ _ _ _ rfl⟩
  · cases h
/-- An index, foretold. -/
def evIndexS (P : Program) (t : TypeId) (x y : Value) (s : St) (q : Orc) : Option OutS :=
  match y, q.rest with
  | .int k j, m :: rest => wrap (evIndexAddr P t x (.int k m) s) ⟨rest, q.ob ∧ j = (m : Int)⟩
  | _, _ => none
def evIndexVS (P : Program) (t : TypeId) (x y : Value) (s : St) (q : Orc) : Option OutS :=
  match y, q.rest with
  | .int k j, m :: rest => wrap (evIndex P t x (.int k m) s) ⟨rest, q.ob ∧ j = (m : Int)⟩
  | _, _ => none
def evPickS (c x y : Value) (s : St) (q : Orc) : Option OutS :=
  match c, q.rest with
  | .bool b, d :: rest => match (d == 1) with
    | true => some (x, s, 0, 0, ⟨rest, q.ob ∧ b = true⟩)
    | false => some (y, s, 0, 0, ⟨rest, q.ob ∧ b = false⟩)
  | _, _ => none
theorem evPickS_ok {o : Oper} {vals : Operand → Value} {c x y : Operand} {q : Orc} {r : OutS} (ho : o.op = .pick c x y) (h : evPickS (vals c) (vals x) (vals y) s q = some r) : OpOk P o vals s q r := by
  unfold evPickS at h
  split at h
  · rename_i b d rest hc hq
    split at h
    · cases h
      refine ⟨fun hb => hb.1, fun rd hb => ?_⟩
      have := sndO_pick (P := P) (rd := rd) (s := s) (vals := vals) ho hc
      rw [hb.2] at this
      exact this
    · cases h
      refine ⟨fun hb => hb.1, fun rd hb => ?_⟩
      have := sndO_pick (P := P) (rd := rd) (s := s) (vals := vals) ho hc
      rw [hb.2] at this
      exact this
  · cases h
def evOpS (P : Program) (F : CallS) (vals : Operand → Value) (o : Oper) (s : St) (q : Orc) : Option OutS :=
  match o.op with
  | .indexAddr t x y => evIndexS P t (vals x) (vals y) s q
  | .pick c x y => evPickS (vals c) (vals x) (vals y) s q
  | .binOp op t x y _ => wrap (orElse (evEqAgg P op t (vals x) (vals y) s) (evOp P noF vals o s)) q
  | .index t x y => match evIndexVS P t (vals x) (vals y) s q with
    | some r => some r
    | none => wrap (evOp P noF vals o s) q
  | .call c => match c.callee with
    | .value x => match vals x with
      | .func (.func f) as bs => match P.funcs[f]? with
        | some fn => match fn.body.isSome with
          | true => match (fn.name == "runtime.NumGoroutine") with
            | false => F f (as ++ c.args.map vals ++ bs) s q
            | true => none
          | false => wrap (evOp P noF vals o s) q
        | none => none
      | _ => none
    | _ => wrap (evOp P noF vals o s) q
  | _ => wrap (evOp P noF vals o s) q
theorem evIndexS_ok {o : Oper} {vals : Operand → Value} {t : TypeId} {x y : Operand} {q : Orc} {r : OutS} (ho : o.op = .indexAddr t x y) (h : evIndexS P t (vals x) (vals y) s q = some r) : OpOk P o vals s q r := by
  unfold evIndexS at h
  split at h
  · rename_i k j m rest hy hq
    unfold wrap at h
    split at h
    · rename_i v s1 R W hr
      cases h
      refine ⟨fun hb => hb.1, fun rd hb => evIndexAddr_snd ho ?_⟩
      rw [hy, hb.2]
      exact hr
    · cases h
  · cases h
theorem evIndexVS_ok {o : Oper} {vals : Operand → Value} {t : TypeId} {x y : Operand} {q : Orc} {r : OutS} (ho : o.op = .index t x y) (h : evIndexVS P t (vals x) (vals y) s q = some r) : OpOk P o vals s q r := by
  unfold evIndexVS at h
  split at h
  · rename_i k j m rest hy hq
    unfold wrap at h
    split at h
    · rename_i v s1 R W hr
      cases h
      refine ⟨fun hb => hb.1, fun rd hb => evIndex_snd ho ?_⟩
      rw [hy, hb.2]
      exact hr
    · cases h
  · cases h
theorem evOpS_ok {F : CallS} {o : Oper} {vals : Operand → Value} {q : Orc} {r : OutS} (hF : FOkS P F) (h : evOpS P F vals o s q = some r) : OpOk P o vals s q r := by
  unfold evOpS at h
  split at h
  · rename_i t x y ho
    exact evIndexS_ok ho h
  · rename_i c x y ho
    exact evPickS_ok ho h
  · rename_i op t x y ty ho
    refine wrap_ok h fun rd v s1 R W hr => ?_
    rcases orElse_cases hr with hr | hr
    · exact evEqAgg_snd ho hr
    · exact evOp_snd noF_ok hr
  · rename_i t x y ho
    split at h
    · rename_i r' hr
      cases h
      exact evIndexVS_ok ho hr
    · exact wrap_ok h fun rd v s1 R W hr => evOp_snd noF_ok hr
  · rename_i c ho
    split at h
    · rename_i x hc
      split at h
      · rename_i f as bs hx
        split at h
        · rename_i fn hf
          split at h
          · rename_i hb
            split at h
            · rename_i hn
              obtain ⟨v, s1, R, W, q1⟩ := r
              obtain ⟨h1, h2⟩ := hF _ _ _ _ _ _ _ _ _ h
              exact ⟨h1, fun rd hq => sndO_call ho hc hx hf hb hn (h2 hq)⟩
            · cases h
          · exact wrap_ok h fun rd v s1 R W hr => evOp_snd noF_ok hr
        · cases h
      · cases h
    · exact wrap_ok h fun rd v s1 R W hr => evOp_snd noF_ok hr
  · exact wrap_ok h fun rd v s1 R W hr => evOp_snd noF_ok hr

/-! ### Regions -/
def stepS (P : Program) (F : CallS) (ops : Array Oper) (o : Oper) (a : Act) (s : St) (q : Orc) : Option (Row × Orc) :=
  match o.op.operands.toList.all (okOp P) with
  | false => none
  | true => match o.guard with
    | none => match evOpS P F a.eval o s q with
      | some (v, s1, R, W, q1) => some ((a.put o.dst v, s1, R, W), q1)
      | none => none
    | some (j, want) => match q.rest, yielded ops a.tmps j with
      | d :: rest, some b => match (d == 1) with
        | true => match evOpS P F a.eval o s ⟨rest, q.ob ∧ b = want⟩ with
          | some (v, s1, R, W, q1) => some ((a.put o.dst v, s1, R, W), q1)
          | none => none
        | false => some ((a.put o.dst undef, s, 0, 0), ⟨rest, q.ob ∧ b = !want⟩)
      | _, _ => none
def runS (P : Program) (F : CallS) (ops : Array Oper) : List Oper → Act → St → Orc → Option (List Row × Orc)
  | [], _, _, q => some ([], q)
  | o :: os, a, s, q => match stepS P F ops o a s q with
    | some ((a1, s1, R, W), q1) => match runS P F ops os a1 s1 q1 with
      | some (rs, q2) => some ((a1, s1, R, W) :: rs, q2)
      | none => none
    | none => none
/-- What a step means. -/
def StepOk (P : Program) (ops : Array Oper) (o : Oper) (a : Act) (s : St) (r : Row) : Prop := ∃ v, r.1 = a.put o.dst v ∧ o.op.operands.toList.all (okOp P) = true ∧
    ((Region.wanted o (yielded ops a.tmps) = true ∧ ∀ rd, SndO P rd o a.eval s v r.2.1 r.2.2.1 r.2.2.2) ∨ (Region.wanted o (yielded ops a.tmps) = false ∧ v = undef ∧ r.2.1 = s ∧ r.2.2.1 = 0 ∧ r.2.2.2 = 0))
theorem wanted_free {o : Oper} {f : Nat → Option Bool} (h : o.guard = none) : Region.wanted o f = true := by simp [Region.wanted, h]
theorem stepS_ok {F : CallS} {ops : Array Oper} {o : Oper} {a : Act} {q q1 : Orc} {r : Row} (hF : FOkS P F) (h : stepS P F ops o a s q = some (r, q1)) : (q1.ob → q.ob) ∧ (q1.ob → StepOk P ops o a s r) := by
  unfold stepS at h
  split at h
  · cases h
  · rename_i hok
    split at h
    · rename_i hg
      split at h
      · rename_i v s1 R W q2 he
        cases h
        obtain ⟨h1, h2⟩ := evOpS_ok hF he
        exact ⟨h1, fun hb => ⟨v, rfl, hok, .inl ⟨wanted_free hg, fun rd => h2 rd hb⟩⟩⟩
      · cases h
    · rename_i j want hg
      split at h
      · rename_i d rest b hq hy
        split at h
        · split at h
          · rename_i v s1 R W q2 he
            cases h
            obtain ⟨h1, h2⟩ := evOpS_ok hF he
            exact ⟨fun hb => (h1 hb).1, fun hb => ⟨v, rfl, hok, .inl ⟨by rw [Region.wanted, hg]; simp only; rw [hy, (h1 hb).2]; simp, fun rd => h2 rd hb⟩⟩⟩
          · cases h
        · cases h
          exact ⟨fun hb => hb.1, fun hb => ⟨undef, rfl, hok, .inr ⟨by rw [Region.wanted, hg]; simp only; rw [hy, hb.2]; cases want <;> rfl, rfl, rfl, rfl, rfl⟩⟩⟩
      · cases h

def RowsOk (P : Program) (ops : Array Oper) : List Oper → Act → St → List Row → Prop
  | [], _, _, rs => rs = []
  | o :: os, a, s, rs => ∃ r rs', rs = r :: rs' ∧ StepOk P ops o a s r ∧ RowsOk P ops os r.1 r.2.1 rs'
theorem runS_ok {F : CallS} {ops : Array Oper} (hF : FOkS P F) : ∀ (os : List Oper) (a : Act) (s : St) (q : Orc) (rs : List Row) (q1 : Orc), runS P F ops os a s q = some (rs, q1) → (q1.ob → q.ob) ∧ (q1.ob → RowsOk P ops os a s rs)
  | [], a, s, q, rs, q1, h => by cases h; exact ⟨id, fun _ => rfl⟩
  | o :: os, a, s, q, rs, q1, h => by
    simp only [runS] at h
    split at h
    · rename_i a1 s1 R W q2 h1
      split at h
      · rename_i rs' q3 h2
        cases h
        obtain ⟨g1, g2⟩ := stepS_ok hF h1
        obtain ⟨k1, k2⟩ := runS_ok hF os _ _ _ _ _ h2
        exact ⟨fun hb => g1 (k1 hb), fun hb => ⟨_, _, rfl, g2 (k1 hb), k2 hb⟩⟩
      · cases h
    · cases h
theorem rows_len {ops : Array Oper} : ∀ (os : List Oper) (a : Act) (s : St) (rs : List Row), RowsOk P ops os a s rs → rs.length = os.length
  | [], a, s, rs, h => by cases h; rfl
  | o :: os, a, s, rs, h => by
    obtain ⟨r, rs', rfl, h1, h2⟩ := h
    simp [rows_len os _ _ _ h2]
theorem rows_at {ops : Array Oper} : ∀ (os : List Oper) (a : Act) (s : St) (rs : List Row), RowsOk P ops os a s rs → ∀ k o, os[k]? = some o → StepOk P ops o (stA a rs k) (stS s rs k) (rs.getD k dRow)
  | [], a, s, rs, h, k, o, ho => by simp at ho
  | o' :: os, a, s, rs, h, k, o, ho => by
    obtain ⟨r, rs', rfl, h1, h2⟩ := h
    cases k with
    | zero =>
      simp at ho
      subst ho
      exact h1
    | succ k =>
      have := rows_at os _ _ _ h2 k o (by simpa using ho)
      have e1 : stA a (r :: rs') (k + 1) = stA r.1 rs' k := by cases k <;> rfl
      have e2 : stS s (r :: rs') (k + 1) = stS r.2.1 rs' k := by cases k <;> rfl
      rw [e1, e2]
      exact this
theorem sqS {ops : Array Oper} {a : Act} {rs : List Row} (h : RowsOk P ops ops.toList a s rs) : Sq P rd ops (stA a rs) (stS s rs) (stR rs) (stW rs) :=
  ⟨fun i hi => by
    have ho : ops[i]? = some ops[i] := Array.getElem?_eq_getElem hi
    obtain ⟨v, h1, h2, h3⟩ := rows_at ops.toList a s rs h i ops[i] (by simp [hi])
    refine ⟨ops[i], v, ho, h1, h2, ?_⟩
    rcases h3 with ⟨g1, g2⟩ | ⟨g1, g2, g3, g4, g5⟩
    · exact .inl ⟨g1, g2 rd⟩
    · exact .inr ⟨g1, g2, g3, g5⟩⟩
theorem seqS {ops : Array Oper} : ∀ (os : List Oper) (i : Nat) (a : Act) (s : St) (rs : List Row), RowsOk P ops os a s rs → (∀ k o, os[k]? = some o → ops[i + k]? = some o) →
    Snd P rd (TOps P ops (List.range' i os.length)) a s .normal (lastA a rs) (lastS s rs) (orR rs) (orW rs)
  | [], i, a, s, rs, h, ho => by cases h; exact snd_ops_nil
  | o :: os, i, a, s, rs, h, ho => by
    obtain ⟨r, rs', rfl, h1, h2⟩ := h
    have ih := seqS os (i + 1) _ _ _ h2 (fun k o hk => by rw [show i + 1 + k = i + (k + 1) from by omega]; exact ho (k + 1) o (by simpa using hk))
    have hoi : ops[i]? = some o := ho 0 o rfl
    obtain ⟨v, g1, g2, g3⟩ := h1
    show Snd P rd (TOps P ops (i :: List.range' (i + 1) os.length)) a s .normal (lastA r.1 rs') (lastS r.2.1 rs') (r.2.2.1 ||| orR rs') (r.2.2.2 ||| orW rs')
    rcases g3 with ⟨k1, k2⟩ | ⟨k1, k2, k3, k4, k5⟩
    · rw [g1] at ih ⊢
      exact snd_ops_yes hoi k1 g2 (k2 rd) ih
    · rw [k4, k5, Nat.zero_or, Nat.zero_or]
      rw [g1, k2, k3] at ih
      rw [g1, k2, k3]
      exact snd_ops_no hoi k1 ih

/-! ### Code -/
abbrev OutCS := Exit × Act × St × Nat × Nat × Orc
def evRegionS (P : Program) (F : CallS) (ops : Array Oper) (draw : Bool) (a : Act) (s : St) (q : Orc) : Option OutCS :=
  match runS P F ops ops.toList a s q with
  | none => none
  | some (rs, q1) => match draw with
    | false => some (.normal, lastA a rs, lastS s rs, orR rs, orW rs, q1)
    | true => match drawOk ops with
      | false => none
      | true => match pairsOk [] 0 0 (bitsL s rs) (preds ops) with
        | true => some (.normal, lastA a rs, lastS s rs, orR rs, orW rs, q1)
        | false => none
def COk (P : Program) (rd : Option Nat) (T : Tr) (a : Act) (s : St) (q : Orc) (r : OutCS) : Prop := (r.2.2.2.2.2.ob → q.ob) ∧ (r.2.2.2.2.2.ob → Snd P rd T a s r.1 r.2.1 r.2.2.1 r.2.2.2.1 r.2.2.2.2.1)
theorem evRegionS_ok {F : CallS} {ops : Array Oper} {id : Nat} {draw : Bool} {a : Act} {q : Orc} {r : OutCS} (hm : P.follows .mixedOrders = true) (hF : FOkS P F) (h : evRegionS P F ops draw a s q = some r) :
    COk P rd (TC P (.region id ops draw)) a s q r := by
  unfold evRegionS at h
  split at h
  · cases h
  · rename_i rs q1 hr
    obtain ⟨k1, k2⟩ := runS_ok hF _ _ _ _ _ _ hr
    split at h
    · cases h
      refine ⟨k1, fun hb => sndC_region ?_⟩
      have := seqS (rd := rd) ops.toList 0 a s rs (k2 hb) (fun k o hk => by simpa using hk)
      rwa [show List.range' 0 ops.toList.length = List.range ops.size from by rw [List.range_eq_range']; simp] at this
    · split at h
      · cases h
      · rename_i hd
        split at h
        · rename_i hp
          cases h
          refine ⟨k1, fun hb => ?_⟩
          have hl : rs.length = ops.size := by rw [rows_len _ _ _ _ (k2 hb)]; simp
          have := sndC_draw (id := id) hm (sqS (rd := rd) (k2 hb)) (apart_of hl hd hp) (ords_of (by simp only [drawOk, Bool.and_eq_true] at hd; exact hd.1))
          rw [← hl, stA_last, stS_last, orUpto_R, orUpto_W] at this
          exact this
        · cases h

abbrev EvS := Bool → Code → Act → St → Orc → Option OutCS
def evFnS (P : Program) (X : CallS) (ev : EvS) : CallS := fun f args s q =>
  match X f args s q with
  | some r => some r
  | none => match P.funcs[f]? with
  | none => none
  | some fn => match fn.body with
    | none => none
    | some c => match ev false c (startA fn args) s q with
      | some (e, a1, s1, R1, W, q1) => match e, a1.defers with
        | .normal, [] => match resultsL P s1 a1.tmps fn.results.toList with
          | some (vs, R2) => some (outV vs, s1, R1 ||| R2, W, q1)
          | none => none
        | .ret, [] => match resultsL P s1 a1.tmps fn.results.toList with
          | some (vs, R2) => some (outV vs, s1, R1 ||| R2, W, q1)
          | none => none
        | _, _ => none
      | none => none
def EvOkS (P : Program) (ev : EvS) : Prop := ∀ rd flag c a s q r, ev flag c a s q = some r → COk P rd (TF P flag c) a s q r
theorem evFnS_ok {X : CallS} {ev : EvS} (hX : FOkS P X) (h : EvOkS P ev) : FOkS P (evFnS P X ev) := fun f as s q v s1 R W q1 he => by
  unfold evFnS at he
  split at he
  · rename_i hx
    cases he
    exact hX _ _ _ _ _ _ _ _ _ hx
  split at he
  · cases he
  · rename_i fn hf
    split at he
    · cases he
    · rename_i c hb
      split at he
      · rename_i e a1 s2 R1 W1 q2 hc
        obtain ⟨g1, g2⟩ := h none false c (startA fn as) s q _ hc
        split at he
        · rename_i hd
          split at he
          · rename_i vs R2 hv
            cases he
            exact ⟨g1, fun hq => sndF_of hf hb (.inl rfl) hd (g2 hq) hv⟩
          · cases he
        · rename_i hd
          split at he
          · rename_i vs R2 hv
            cases he
            exact ⟨g1, fun hq => sndF_of hf hb (.inr rfl) hd (g2 hq) hv⟩
          · cases he
        · cases he
      · cases he

def evStepS (P : Program) (X : CallS) (ev : EvS) : EvS := fun flag c a s q =>
  match flag with
  | true => match ev false c a s q with
    | some (e, a1, s1, R1, W1, q1) => match isNormal e with
      | true => match ev true c a1 s1 q1 with
        | some (e2, a2, s2, R2, W2, q2) => some (e2, a2, s2, R1 ||| R2, W1 ||| W2, q2)
        | none => none
      | false => some (e, a1, s1, R1, W1, q1)
    | none => none
  | false => match c with
    | .skip => some (.normal, a, s, 0, 0, q)
    | .label _ => some (.normal, a, s, 0, 0, q)
    | .exit l => some (.exit l, a, s, 0, 0, q)
    | .ret => some (.ret, a, s, 0, 0, q)
    | .region _ ops draw => evRegionS P (evFnS P X ev) ops draw a s q
    | .seq x y => match ev false x a s q with
      | some (e, a1, s1, R1, W1, q1) => match isNormal e with
        | true => match ev false y a1 s1 q1 with
          | some (e2, a2, s2, R2, W2, q2) => some (e2, a2, s2, R1 ||| R2, W1 ||| W2, q2)
          | none => none
        | false => some (e, a1, s1, R1, W1, q1)
      | none => none
    | .cond x t f => match okOp P x with
      | true => match a.eval x with
        | .bool b => match q.rest with
          | d :: rest => match (d == 1) with
            | true => ev false t a s ⟨rest, q.ob ∧ b = true⟩
            | false => ev false f a s ⟨rest, q.ob ∧ b = false⟩
          | [] => none
        | _ => none
      | false => none
    | .block id x => match ev false x a s q with
      | some (e, a1, s1, R1, W1, q1) => some (outOf id e, a1, s1, R1, W1, q1)
      | none => none
    | .loop x => ev true x a s q
    | .scope x => match ev false x a s q with
      | some (e, a1, s1, R1, W1, q1) => match isGoto e with
        | false => some (e, a1, s1, R1, W1, q1)
        | true => none
      | none => none
    | _ => none
theorem evStepS_ok {X : CallS} {ev : EvS} (hm : P.follows .mixedOrders = true) (hX : FOkS P X) (h : EvOkS P ev) : EvOkS P (evStepS P X ev) := fun rd flag c a s q r he => by
  unfold evStepS at he
  split at he
  · split at he
    · rename_i h1
      obtain ⟨k1, g1⟩ := h rd false _ _ _ _ _ h1
      split at he
      · rename_i hn
        cases isNormal_iff hn
        split at he
        · rename_i h2
          cases he
          obtain ⟨k2, g2⟩ := h rd true _ _ _ _ _ h2
          exact ⟨fun hb => k1 (k2 hb), fun hb => snd_from_on (g1 (k2 hb)) (g2 hb)⟩
        · cases he
      · rename_i hn
        cases he
        exact ⟨k1, fun hb => snd_from_stop (isNormal_no hn) (g1 hb)⟩
    · cases he
  · split at he
    · cases he; exact ⟨id, fun _ => sndC_skip⟩
    · cases he; exact ⟨id, fun _ => sndC_label⟩
    · cases he; exact ⟨id, fun _ => sndC_exit⟩
    · cases he; exact ⟨id, fun _ => sndC_ret⟩
    · exact evRegionS_ok hm (evFnS_ok hX h) he
    · split at he
      · rename_i h1
        obtain ⟨k1, g1⟩ := h rd false _ _ _ _ _ h1
        split at he
        · rename_i hn
          cases isNormal_iff hn
          split at he
          · rename_i h2
            cases he
            obtain ⟨k2, g2⟩ := h rd false _ _ _ _ _ h2
            exact ⟨fun hb => k1 (k2 hb), fun hb => sndC_seq (g1 (k2 hb)) (g2 hb)⟩
          · cases he
        · rename_i hn
          cases he
          exact ⟨k1, fun hb => sndC_seq_stop (isNormal_no hn) (g1 hb)⟩
      · cases he
    · split at he
      · rename_i hx
        split at he
        · rename_i b hb
          split at he
          · split at he
            · obtain ⟨k2, g2⟩ := h rd false _ _ _ _ _ he
              exact ⟨fun hq => (k2 hq).1, fun hq => sndC_cond (t := true) hx (by rw [hb, (k2 hq).2]) (g2 hq)⟩
            · obtain ⟨k2, g2⟩ := h rd false _ _ _ _ _ he
              exact ⟨fun hq => (k2 hq).1, fun hq => sndC_cond (t := false) hx (by rw [hb, (k2 hq).2]) (g2 hq)⟩
          · cases he
        · cases he
      · cases he
    · split at he
      · rename_i h1
        cases he
        obtain ⟨k1, g1⟩ := h rd false _ _ _ _ _ h1
        exact ⟨k1, fun hq => sndC_block (g1 hq)⟩
      · cases he
    · obtain ⟨k1, g1⟩ := h rd true _ _ _ _ _ he
      exact ⟨k1, fun hq => sndC_loop (g1 hq)⟩
    · split at he
      · rename_i h1
        split at he
        · rename_i hg
          cases he
          obtain ⟨k1, g1⟩ := h rd false _ _ _ _ _ h1
          exact ⟨k1, fun hq => sndC_scope hg (g1 hq)⟩
        · cases he
      · cases he
    · cases he

def evCS (P : Program) (X : CallS) : Nat → EvS
  | 0 => fun _ _ _ _ _ => none
  | n + 1 => evStepS P X (evCS P X n)
theorem evCS_ok {X : CallS} (hm : P.follows .mixedOrders = true) (hX : FOkS P X) : ∀ n, EvOkS P (evCS P X n)
  | 0 => fun rd flag c a s q r he => by cases he
  | n + 1 => evStepS_ok hm hX (evCS_ok hm hX n)
def evFS (P : Program) (X : CallS) (n : Nat) : CallS := evFnS P X (evCS P X n)
theorem evFS_ok {X : CallS} (hm : P.follows .mixedOrders = true) (hX : FOkS P X) (n : Nat) : FOkS P (evFS P X n) := evFnS_ok hX (evCS_ok hm hX n)
def noXS : CallS := fun _ _ _ _ => none
theorem noXS_ok : FOkS P noXS := fun f as s q v s1 R W q1 h => by cases h
end Mini
end Go.Proofs.YtgloclcbeohkhaaGreatDoor
