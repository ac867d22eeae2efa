/-
  Contracts: what is answered.
  The small worlds between the steps.
  Expressions over integers of known ranges, by reflection: their ranges, and what is left when no operation overflows.
  Plain facts on numbers: turns, norms, products, bounds. No program is used here.
  Plain functions on integers that the program's small functions compute: no program is imported here.
  THE SMALL WORLD: a known function without arguments where tables of integers and of strings hold.
  A law reckoned in the small world: what it answers and what must hold, told apart.
  Contracts that hold where tables lie; contracts for the reckoner of closed calls.
  A step of a small world is one of each greater world that holds it: names may be others, what is not wanted any more may be forgotten.
  Contracts by shapes, for the reckoner with unknown numbers; from a way through a function to its contract.
  A function that reads the package's tables alone, known to the reckoner; the bridge to a real call, with unknown numbers.
  The reckoner with unknown numbers: which way a branch goes is foretold by a list of numbers, and what must hold for it is gathered.
-/
import Derived.Test.YtencngffhbhifaaGreatDoorGLW1
import Derived.WalkKit
import Derived.IntWalk
import Derived.Test.YtencngffhbhifaaGreatDoorProg
section
namespace Go.Proofs.YtencngffhbhifaaGreatDoor
set_option linter.all false
open Go.RowKit
namespace Mini
variable {P : Program} {rd : Option Nat} {s s1 : St} {R W : Nat}

inductive Tok where
  | n (m : Nat)
  | row (i k : Nat)
  | azz (v : Value)
  | out (e : Exit) (a : MA) (s : St) (R W : Nat)
  | lp (m : Nat) (A0 : MA) (N : Nat) (L0 : List MObj) (e : Exit) (a1 : MA) (L1 : List MObj) (R W : Nat)
instance (m : Nat) : OfNat Tok m := ⟨.n m⟩
structure Orc where
  rest : List Tok
  ob : Prop
abbrev OutS := Value × St × Nat × Nat × Orc
abbrev CallS := FuncId → Array Value → St → Orc → Option OutS
def FOkS (P : Program) (F : CallS) : Prop := ∀ f azz s q v s1 R W q1, F f azz s q = some (v, s1, R, W, q1) → (q1.ob → q.ob) ∧ (q1.ob → SndF P f azz s v s1 R W)
def OpOk (P : Program) (o : Oper) (vals : Operand → Value) (s : St) (q : Orc) (r : OutS) : Prop := (r.2.2.2.2.ob → q.ob) ∧ (∀ rd, r.2.2.2.2.ob → SndO P rd o vals s r.1 r.2.1 r.2.2.1 r.2.2.2.1)

def noF : CallF := fun _ _ _ => none
theorem noF_ok : ∀ f azz s v s1 R W, noF f azz s = some (v, s1, R, W) → SndF P f azz s v s1 R W := fun f azz s v s1 R W h => by cases h
def wrap (r : Option Out) (q : Orc) : Option OutS := match r with
  | some (v, s1, R, W) => some (v, s1, R, W, q)
  | none => none
theorem wrap_ok {o : Oper} {vals : Operand → Value} {q : Orc} {r : OutS} {m : Option Out} (h : wrap m q = some r) (hm : ∀ rd v s1 R W, m = some (v, s1, R, W) → SndO P rd o vals s v s1 R W) : OpOk P o vals s q r := by
  unfold wrap at h
  split at h
  · cases h
    exact ⟨id, fun rd _ => hm rd _ _ _ _ rfl⟩
  · cases h
def evIndexS (P : Program) (t : TypeId) (x y : Value) (s : St) (q : Orc) : Option OutS :=
  match y, q.rest with
  | .int k j, .n m :: rest => wrap (evIndexAddr P t x (.int k m) s) ⟨rest, q.ob ∧ j = (m : Int)⟩
  | _, _ => none
def evIndexVS (P : Program) (t : TypeId) (x y : Value) (s : St) (q : Orc) : Option OutS :=
  match y, q.rest with
  | .int k j, .n m :: rest => wrap (evIndex P t x (.int k m) s) ⟨rest, q.ob ∧ j = (m : Int)⟩
  | _, _ => none
def evPickS (c x y : Value) (s : St) (q : Orc) : Option OutS :=
  match c, q.rest with
  | .bool b, .n d :: rest => match (d == 1) with
    | true => some (x, s, 0, 0, ⟨rest, q.ob ∧ b = true⟩)
    | false => some (y, s, 0, 0, ⟨rest, q.ob ∧ b = false⟩)
  | _, _ => none
theorem evPickS_ok {o : Oper} {vals : Operand → Value} {c x y : Operand} {q : Orc} {r : OutS} (ho : o.op = .pick c x y) (h : evPickS (vals c) (vals x) (vals y) s q = some r) : OpOk P o vals s q r := by
  unfold evPickS at h
  split at h
  · rename_i b d rest hc hq
    split at h
    · cases h
      refine ⟨fun hb => hb.1, fun rd hb => ?_⟩
      have := sndO_pick (P := P) (rd := rd) (s := s) (vals := vals) ho hc
      rw [hb.2] at this
      exact this
    · cases h
      refine ⟨fun hb => hb.1, fun rd hb => ?_⟩
      have := sndO_pick (P := P) (rd := rd) (s := s) (vals := vals) ho hc
      rw [hb.2] at this
      exact this
  · cases h
def evDivS (op : BinOp) (x y : Value) (s : St) (q : Orc) : Option OutS :=
  match op, x, y with
  | .quo, .int k a, .int k' b => match decide (k = k') with
    | true => some (.int k (k.wrap (a.tdiv b)), s, 0, 0, ⟨q.rest, q.ob ∧ (b == 0) = false⟩)
    | false => none
  | .rem, .int k a, .int k' b => match decide (k = k') with
    | true => some (.int k (a.tmod b), s, 0, 0, ⟨q.rest, q.ob ∧ (b == 0) = false⟩)
    | false => none
  | _, _, _ => none
theorem int_only {ρ : Ren} {k : IntKind} {n : Int} {v : Value} (h : VR ρ (.int k n) v) : v = .int k n := by cases h; rfl
theorem evDivS_ok {o : Oper} {vals : Operand → Value} {op : BinOp} {t ty : TypeId} {x y : Operand} {q : Orc} {r : OutS} (ho : o.op = .binOp op t x y ty) (h : evDivS op (vals x) (vals y) s q = some r) : OpOk P o vals s q r := by
  unfold evDivS at h
  split at h
  · rename_i k a k' b hx hy
    split at h
    · rename_i hk
      have hk := of_decide_eq_true hk
      subst hk
      cases h
      refine ⟨fun hb => hb.1, fun rd hb => sndO_still (fun c => by rw [ho]; simp) fun ρ C ev w _ _ _ hxs => ?_⟩
      have h1 := hxs x (by simp [ho, Op.operands])
      have h2 := hxs y (by simp [ho, Op.operands])
      rw [hx] at h1
      rw [hy] at h2
      have e1 := int_only h1
      have e2 := int_only h2
      have hb0 : ¬ b = 0 := by have := hb.2; simpa using this
      exact ⟨_, by simp [execOp, ho, e1, e2, eqGuard, binOp, Op.intDiv, hb0], .int _ _⟩
    · cases h
  · rename_i k a k' b hx hy
    split at h
    · rename_i hk
      have hk := of_decide_eq_true hk
      subst hk
      cases h
      refine ⟨fun hb => hb.1, fun rd hb => sndO_still (fun c => by rw [ho]; simp) fun ρ C ev w _ _ _ hxs => ?_⟩
      have h1 := hxs x (by simp [ho, Op.operands])
      have h2 := hxs y (by simp [ho, Op.operands])
      rw [hx] at h1
      rw [hy] at h2
      have e1 := int_only h1
      have e2 := int_only h2
      have hb0 : ¬ b = 0 := by have := hb.2; simpa using this
      exact ⟨_, by simp [execOp, ho, e1, e2, eqGuard, binOp, Op.intDiv, hb0], .int _ _⟩
    · cases h
  · cases h
def evOpS0 (P : Program) (F : CallS) (vals : Operand → Value) (o : Oper) (s : St) (q : Orc) : Option OutS :=
  match o.op with
  | .indexAddr t x y => evIndexS P t (vals x) (vals y) s q
  | .pick c x y => evPickS (vals c) (vals x) (vals y) s q
  | .binOp op t x y _ => match evDivS op (vals x) (vals y) s q with
    | some r => some r
    | none => wrap (orElse (evEqAgg P op t (vals x) (vals y) s) (evOp P noF vals o s)) q
  | .index t x y => match evIndexVS P t (vals x) (vals y) s q with
    | some r => some r
    | none => wrap (evOp P noF vals o s) q
  | .call c => match c.callee with
    | .value x => match vals x with
      | .func (.func f) azz bs => match P.funcs[f]? with
        | some fn => match fn.body.isSome with
          | true => match (fn.name == "runtime.NumGoroutine") with
            | false => F f (azz ++ c.args.map vals ++ bs) s q
            | true => none
          | false => wrap (evOp P noF vals o s) q
        | none => none
      | _ => none
    | _ => wrap (evOp P noF vals o s) q
  | _ => wrap (evOp P noF vals o s) q
theorem evIndexS_ok {o : Oper} {vals : Operand → Value} {t : TypeId} {x y : Operand} {q : Orc} {r : OutS} (ho : o.op = .indexAddr t x y) (h : evIndexS P t (vals x) (vals y) s q = some r) : OpOk P o vals s q r := by
  unfold evIndexS at h
  split at h
  · rename_i k j m rest hy hq
    unfold wrap at h
    split at h
    · rename_i v s1 R W hr
      cases h
      refine ⟨fun hb => hb.1, fun rd hb => evIndexAddr_snd ho ?_⟩
      rw [hy, hb.2]
      exact hr
    · cases h
  · cases h
theorem evIndexVS_ok {o : Oper} {vals : Operand → Value} {t : TypeId} {x y : Operand} {q : Orc} {r : OutS} (ho : o.op = .index t x y) (h : evIndexVS P t (vals x) (vals y) s q = some r) : OpOk P o vals s q r := by
  unfold evIndexVS at h
  split at h
  · rename_i k j m rest hy hq
    unfold wrap at h
    split at h
    · rename_i v s1 R W hr
      cases h
      refine ⟨fun hb => hb.1, fun rd hb => evIndex_snd ho ?_⟩
      rw [hy, hb.2]
      exact hr
    · cases h
  · cases h
theorem evOpS0_ok {F : CallS} {o : Oper} {vals : Operand → Value} {q : Orc} {r : OutS} (hF : FOkS P F) (h : evOpS0 P F vals o s q = some r) : OpOk P o vals s q r := by
  unfold evOpS0 at h
  split at h
  · rename_i t x y ho
    exact evIndexS_ok ho h
  · rename_i c x y ho
    exact evPickS_ok ho h
  · rename_i op t x y ty ho
    split at h
    · rename_i r' hr
      cases h
      exact evDivS_ok ho hr
    refine wrap_ok h fun rd v s1 R W hr => ?_
    rcases orElse_cases hr with hr | hr
    · exact evEqAgg_snd ho hr
    · exact evOp_snd noF_ok hr
  · rename_i t x y ho
    split at h
    · rename_i r' hr
      cases h
      exact evIndexVS_ok ho hr
    · exact wrap_ok h fun rd v s1 R W hr => evOp_snd noF_ok hr
  · rename_i c ho
    split at h
    · rename_i x hc
      split at h
      · rename_i f azz bs hx
        split at h
        · rename_i fn hf
          split at h
          · rename_i hb
            split at h
            · rename_i hn
              obtain ⟨v, s1, R, W, q1⟩ := r
              obtain ⟨h1, h2⟩ := hF _ _ _ _ _ _ _ _ _ h
              exact ⟨h1, fun rd hq => sndO_call ho hc hx hf hb hn (h2 hq)⟩
            · cases h
          · exact wrap_ok h fun rd v s1 R W hr => evOp_snd noF_ok hr
        · cases h
      · cases h
    · exact wrap_ok h fun rd v s1 R W hr => evOp_snd noF_ok hr
  · exact wrap_ok h fun rd v s1 R W hr => evOp_snd noF_ok hr

def evRow (P : Program) (vals : Operand → Value) (o : Oper) (s : St) (i k : Nat) (q : Orc) : Option OutS :=
  match o.op with
  | .load t x => match rowLoad P s t i k (vals x) with
    | some (v, R, p) => some (v, s, R, 0, ⟨q.rest, q.ob ∧ p⟩)
    | none => none
  | .indexAddr t x y => match rowIndex P s t i (vals x) (vals y) with
    | some (v, p) => some (v, s, 0, 0, ⟨q.rest, q.ob ∧ p⟩)
    | none => none
  | .store t x y => match rowStore P s t i k (vals x) (vals y) with
    | some (s1, W, p) => some (undef, s1, 0, W, ⟨q.rest, q.ob ∧ p⟩)
    | none => none
  | .makeSlice t x y => match rowMake P s t i (vals x) (vals y) with
    | some (v, s1, p) => some (v, s1, 0, 0, ⟨q.rest, q.ob ∧ p⟩)
    | none => none
  | .call c => match c.callee, c.args.toList, c.argTypes.toList with
    | .builtin .append, [x, y], [tS, tX] => match rowCopy P s tS tX (vals x) (vals y) with
      | some (v, s1, R, p) => some (v, s1, R, 0, ⟨q.rest, q.ob ∧ p⟩)
      | none => match rowPush P s tS tX (vals x) (vals y) with
        | some (v, s1, R, W, p) => some (v, s1, R, W, ⟨q.rest, q.ob ∧ p⟩)
        | none => none
    | _, _, _ => none
  | _ => none
theorem evRow_ok {o : Oper} {vals : Operand → Value} {i k : Nat} {q : Orc} {r : OutS} (h : evRow P vals o s i k q = some r) : OpOk P o vals s q r := by
  unfold evRow at h
  split at h
  · rename_i t x ho
    split at h
    · rename_i hl; cases h; exact ⟨fun hb => hb.1, fun rd hb => rowLoad_snd ho hl hb.2⟩
    · cases h
  · rename_i t x y ho
    split at h
    · rename_i hl; cases h; exact ⟨fun hb => hb.1, fun rd hb => rowIndex_snd ho hl hb.2⟩
    · cases h
  · rename_i t x y ho
    split at h
    · rename_i hl; cases h; exact ⟨fun hb => hb.1, fun rd hb => rowStore_snd ho hl hb.2⟩
    · cases h
  · rename_i t x y ho
    split at h
    · rename_i hl; cases h; exact ⟨fun hb => hb.1, fun rd hb => rowMake_snd ho hl hb.2⟩
    · cases h
  · rename_i c ho
    split at h
    · rename_i x y tS tX hc ha hat
      have ha' : c.args = #[x, y] := by apply Array.ext'; simpa using ha
      have hat' : c.argTypes = #[tS, tX] := by apply Array.ext'; simpa using hat
      split at h
      · rename_i hl; cases h; exact ⟨fun hb => hb.1, fun rd hb => rowCopy_snd ho hc ha' hat' hl hb.2⟩
      · split at h
        · rename_i hl; cases h; exact ⟨fun hb => hb.1, fun rd hb => rowPush_snd ho hc ha' hat' hl hb.2⟩
        · cases h
    · cases h
  · cases h
def asOp : Op → Bool
  | .binOp .. => true
  | .unOp .. => true
  | .convert .. => true
  | .call _ => true
  | _ => false
def evOpR (P : Program) (F : CallS) (vals : Operand → Value) (o : Oper) (s : St) (q : Orc) : Option OutS :=
  match q.rest with
  | .row i k :: rest => match evRow P vals o s i k ⟨rest, q.ob⟩ with
    | some r => some r
    | none => evOpS0 P F vals o s q
  | _ => evOpS0 P F vals o s q
theorem evOpR_ok {F : CallS} {o : Oper} {vals : Operand → Value} {q : Orc} {r : OutS} (hF : FOkS P F) (h : evOpR P F vals o s q = some r) : OpOk P o vals s q r := by
  unfold evOpR at h
  split at h
  · split at h
    · rename_i he; cases h; have := evRow_ok he; exact this
    · exact evOpS0_ok hF h
  · exact evOpS0_ok hF h
def evOpS (P : Program) (F : CallS) (vals : Operand → Value) (o : Oper) (s : St) (q : Orc) : Option OutS :=
  match q.rest with
  | .azz v :: rest => match asOp o.op with
    | true => match evOpR P F vals o s ⟨rest, q.ob⟩ with
      | some (v0, s1, R, W, q1) => some (v, s1, R, W, ⟨q1.rest, q1.ob ∧ v0 = v⟩)
      | none => none
    | false => evOpS0 P F vals o s q
  | _ => evOpR P F vals o s q
theorem evOpS_ok {F : CallS} {o : Oper} {vals : Operand → Value} {q : Orc} {r : OutS} (hF : FOkS P F) (h : evOpS P F vals o s q = some r) : OpOk P o vals s q r := by
  unfold evOpS at h
  split at h
  · rename_i v rest hq
    split at h
    · split at h
      · rename_i v0 s1 R W q1 he
        cases h
        have key : OpOk P o vals s ⟨rest, q.ob⟩ (v0, s1, R, W, q1) := evOpR_ok hF he
        refine ⟨fun hb => key.1 hb.1, fun rd hb => ?_⟩
        have := key.2 rd hb.1
        rw [hb.2] at this
        exact this
      · cases h
    · exact evOpS0_ok hF h
  · exact evOpR_ok hF h

abbrev YieldS := Nat → Array Value → St → Orc → Option OutS
structure FYS where
  f : CallS
  y : YieldS
structure FYOkS (P : Program) (F : FYS) : Prop where
  f : FOkS P F.f
  y : ∀ l azz s q v s1 R W q1, F.y l azz s q = some (v, s1, R, W, q1) → (q1.ob → q.ob) ∧ (q1.ob → ∀ rd, SndY P rd l azz s v s1 R W)
def evOpYS (P : Program) (F : FYS) (vals : Operand → Value) (o : Oper) (s : St) (q : Orc) : Option OutS :=
  match o.op with
  | .call c => match c.callee with
    | .value x => match vals x with
      | .func (.yield l) azz bs => match azz.toList, bs.toList with
        | [], [] => F.y l (c.args.map vals) s q
        | _, _ => none
      | _ => evOpS P F.f vals o s q
    | _ => evOpS P F.f vals o s q
  | _ => evOpS P F.f vals o s q
theorem evOpYS_ok {F : FYS} {o : Oper} {vals : Operand → Value} {q : Orc} {r : OutS} (hF : FYOkS P F) (h : evOpYS P F vals o s q = some r) : OpOk P o vals s q r := by
  unfold evOpYS at h
  split at h
  · rename_i c ho
    split at h
    · rename_i x hc
      split at h
      · rename_i l azz bs hx
        split at h
        · rename_i h1 h2
          have e1 : azz = #[] := by apply Array.ext'; simpa using h1
          have e2 : bs = #[] := by apply Array.ext'; simpa using h2
          subst e1 e2
          obtain ⟨v, s1, R, W, q1⟩ := r
          obtain ⟨k1, k2⟩ := hF.y _ _ _ _ _ _ _ _ _ h
          exact ⟨k1, fun rd hq => k2 hq rd o c vals x ho hc hx rfl⟩
        · cases h
      · exact evOpS_ok hF.f h
    · exact evOpS_ok hF.f h
  · exact evOpS_ok hF.f h

def stepS (P : Program) (F : FYS) (ops : Array Oper) (o : Oper) (a : MA) (s : St) (q : Orc) : Option (Row × Orc) :=
  match o.op.operands.toList.all (okOp P) with
  | false => none
  | true => match o.guard with
    | none => match evOpYS P F a.eval o s q with
      | some (v, s1, R, W, q1) => some ((a.put o.dst v, s1, R, W), q1)
      | none => none
    | some (j, want) => match q.rest, a.yielded ops j with
      | .n d :: rest, some b => match (d == 1) with
        | true => match evOpYS P F a.eval o s ⟨rest, q.ob ∧ b = want⟩ with
          | some (v, s1, R, W, q1) => some ((a.put o.dst v, s1, R, W), q1)
          | none => none
        | false => some ((a.put o.dst undef, s, 0, 0), ⟨rest, q.ob ∧ b = !want⟩)
      | .n _ :: rest, none => match a.guardOk ops o with
        | true => some ((a.put o.dst undef, s, 0, 0), ⟨rest, q.ob⟩)
        | false => none
      | _, _ => none
def runS (P : Program) (F : FYS) (ops : Array Oper) : List Oper → MA → St → Orc → Option (List Row × Orc)
  | [], _, _, q => some ([], q)
  | o :: os, a, s, q => match stepS P F ops o a s q with
    | some ((a1, s1, R, W), q1) => match runS P F ops os a1 s1 q1 with
      | some (rs, q2) => some ((a1, s1, R, W) :: rs, q2)
      | none => none
    | none => none
def StepOk (P : Program) (ops : Array Oper) (o : Oper) (a : MA) (s : St) (r : Row) : Prop := ∃ v, r.1.act = a.act.put o.dst v ∧ okAll P ops o a.act = true ∧
    ((Region.wanted o (yielded ops a.act.tmps) = true ∧ ∀ rd, SndO P rd o a.act.eval s v r.2.1 r.2.2.1 r.2.2.2) ∨ (Region.wanted o (yielded ops a.act.tmps) = false ∧ v = undef ∧ r.2.1 = s ∧ r.2.2.1 = 0 ∧ r.2.2.2 = 0))
theorem okAll_of {ops : Array Oper} {o : Oper} {a : Act} (h1 : o.op.operands.toList.all (okOp P) = true) (h2 : guardOk ops o a.tmps = true) : okAll P ops o a = true := by
  simp only [okAll, h1, h2, Bool.and_self]
theorem guard_of {ops : Array Oper} {o : Oper} {t : Array Value} {j : Nat} {want b : Bool} (hg : o.guard = some (j, want)) (hy : yielded ops t j = some b) : guardOk ops o t = true := by
  unfold guardOk
  rw [hg]
  simp only
  unfold yielded at hy
  cases hd : (ops[j]?).bind (·.dst) with
  | none => rfl
  | some d =>
    rw [hd] at hy
    simp only [Option.bind_some] at hy ⊢
    rcases Nat.lt_or_ge d t.size with c | c
    · rw [Array.getElem?_eq_getElem c] at hy
      rw [show t.getD d undef = t[d] from by simp [Array.getD, c]]
      generalize t[d] = v at hy
      cases v <;> first | rfl | (simp at hy)
    · rw [show t.getD d undef = undef from by simp [Array.getD, Nat.not_lt.2 c]]
      rfl
theorem wanted_free {o : Oper} {f : Nat → Option Bool} (h : o.guard = none) : Region.wanted o f = true := by simp [Region.wanted, h]
theorem stepS_ok {F : FYS} {ops : Array Oper} {o : Oper} {a : MA} {q q1 : Orc} {r : Row} (hF : FYOkS P F) (h : stepS P F ops o a s q = some (r, q1)) : (q1.ob → q.ob) ∧ (q1.ob → StepOk P ops o a s r) := by
  unfold StepOk
  rw [MA.eval_act]
  unfold stepS at h
  split at h
  · cases h
  · rename_i hok
    split at h
    · rename_i hg
      split at h
      · rename_i v s1 R W q2 he
        cases h
        obtain ⟨h1, h2⟩ := evOpYS_ok hF he
        exact ⟨h1, fun hb => ⟨v, MA.put_act _ _ _, okAll_of hok (by simp [guardOk, hg]), .inl ⟨wanted_free hg, fun rd => h2 rd hb⟩⟩⟩
      · cases h
    · rename_i j want hg
      split at h
      · rename_i d rest b hq hy
        have hy : yielded ops a.act.tmps j = some b := by rw [MA.yielded_act]; exact hy
        split at h
        · split at h
          · rename_i v s1 R W q2 he
            cases h
            obtain ⟨h1, h2⟩ := evOpYS_ok hF he
            exact ⟨fun hb => (h1 hb).1, fun hb => ⟨v, MA.put_act _ _ _, okAll_of hok (guard_of hg hy), .inl ⟨by rw [Region.wanted, hg]; simp only; rw [hy, (h1 hb).2]; simp, fun rd => h2 rd hb⟩⟩⟩
          · cases h
        · cases h
          exact ⟨fun hb => hb.1, fun hb => ⟨undef, MA.put_act _ _ _, okAll_of hok (guard_of hg hy), .inr ⟨by rw [Region.wanted, hg]; simp only; rw [hy, hb.2]; cases want <;> rfl, rfl, rfl, rfl, rfl⟩⟩⟩
      · rename_i d rest hq hy
        have hy : yielded ops a.act.tmps j = none := by rw [MA.yielded_act]; exact hy
        split at h
        · rename_i hgo
          cases h
          refine ⟨id, fun hb => ⟨undef, MA.put_act _ _ _, ?_, .inr ⟨by rw [Region.wanted, hg]; simp only; rw [hy]; rfl, rfl, rfl, rfl, rfl⟩⟩⟩
          rw [MA.okAll_act]
          unfold MA.okAll
          rw [hok]
          exact hgo
        · cases h
      · cases h

def RowsOk (P : Program) (ops : Array Oper) : List Oper → MA → St → List Row → Prop
  | [], _, _, rs => rs = []
  | o :: os, a, s, rs => ∃ r rs', rs = r :: rs' ∧ StepOk P ops o a s r ∧ RowsOk P ops os r.1 r.2.1 rs'
theorem runS_ok {F : FYS} {ops : Array Oper} (hF : FYOkS P F) : ∀ (os : List Oper) (a : MA) (s : St) (q : Orc) (rs : List Row) (q1 : Orc), runS P F ops os a s q = some (rs, q1) → (q1.ob → q.ob) ∧ (q1.ob → RowsOk P ops os a s rs)
  | [], a, s, q, rs, q1, h => by cases h; exact ⟨id, fun _ => rfl⟩
  | o :: os, a, s, q, rs, q1, h => by
    simp only [runS] at h
    split at h
    · rename_i a1 s1 R W q2 h1
      split at h
      · rename_i rs' q3 h2
        cases h
        obtain ⟨g1, g2⟩ := stepS_ok hF h1
        obtain ⟨k1, k2⟩ := runS_ok hF os _ _ _ _ _ h2
        exact ⟨fun hb => g1 (k1 hb), fun hb => ⟨_, _, rfl, g2 (k1 hb), k2 hb⟩⟩
      · cases h
    · cases h
theorem rows_len {ops : Array Oper} : ∀ (os : List Oper) (a : MA) (s : St) (rs : List Row), RowsOk P ops os a s rs → rs.length = os.length
  | [], a, s, rs, h => by cases h; rfl
  | o :: os, a, s, rs, h => by
    obtain ⟨r, rs', rfl, h1, h2⟩ := h
    simp [rows_len os _ _ _ h2]
theorem rows_at {ops : Array Oper} : ∀ (os : List Oper) (a : MA) (s : St) (rs : List Row), RowsOk P ops os a s rs → ∀ k o, os[k]? = some o → StepOk P ops o (stA a rs k) (stS s rs k) (rs.getD k dRow)
  | [], a, s, rs, h, k, o, ho => by simp at ho
  | o' :: os, a, s, rs, h, k, o, ho => by
    obtain ⟨r, rs', rfl, h1, h2⟩ := h
    cases k with
    | zero =>
      simp at ho
      subst ho
      exact h1
    | succ k =>
      have := rows_at os _ _ _ h2 k o (by simpa using ho)
      have e1 : stA a (r :: rs') (k + 1) = stA r.1 rs' k := by cases k <;> rfl
      have e2 : stS s (r :: rs') (k + 1) = stS r.2.1 rs' k := by cases k <;> rfl
      rw [e1, e2]
      exact this
theorem sqS {ops : Array Oper} {a : MA} {rs : List Row} (h : RowsOk P ops ops.toList a s rs) : Sq P rd ops (fun k => (stA a rs k).act) (stS s rs) (stR rs) (stW rs) :=
  ⟨fun i hi => by
    have ho : ops[i]? = some ops[i] := Array.getElem?_eq_getElem hi
    obtain ⟨v, h1, h2, h3⟩ := rows_at ops.toList a s rs h i ops[i] (by simp [hi])
    refine ⟨ops[i], v, ho, h1, h2, ?_⟩
    rcases h3 with ⟨g1, g2⟩ | ⟨g1, g2, g3, g4, g5⟩
    · exact .inl ⟨g1, g2 rd⟩
    · exact .inr ⟨g1, g2, g3, g5⟩⟩
theorem seqS {ops : Array Oper} : ∀ (os : List Oper) (i : Nat) (a : MA) (s : St) (rs : List Row), RowsOk P ops os a s rs → (∀ k o, os[k]? = some o → ops[i + k]? = some o) →
    Snd P rd (TOps P ops (List.range' i os.length)) a.act s .normal (lastA a rs).act (lastS s rs) (orR rs) (orW rs)
  | [], i, a, s, rs, h, ho => by cases h; exact snd_ops_nil
  | o :: os, i, a, s, rs, h, ho => by
    obtain ⟨r, rs', rfl, h1, h2⟩ := h
    have ih := seqS os (i + 1) _ _ _ h2 (fun k o hk => by rw [show i + 1 + k = i + (k + 1) from by omega]; exact ho (k + 1) o (by simpa using hk))
    have hoi : ops[i]? = some o := ho 0 o rfl
    obtain ⟨v, g1, g2, g3⟩ := h1
    show Snd P rd (TOps P ops (i :: List.range' (i + 1) os.length)) a.act s .normal (lastA r.1 rs').act (lastS r.2.1 rs') (r.2.2.1 ||| orR rs') (r.2.2.2 ||| orW rs')
    rcases g3 with ⟨k1, k2⟩ | ⟨k1, k2, k3, k4, k5⟩
    · rw [g1] at ih
      exact snd_ops_yes hoi k1 g2 (k2 rd) ih
    · rw [k4, k5, Nat.zero_or, Nat.zero_or]
      rw [g1, k2, k3] at ih
      rw [k3]
      exact snd_ops_no hoi k1 g2 ih

abbrev OutCS := Exit × MA × St × Nat × Nat × Orc
def evRegionS (P : Program) (F : FYS) (ops : Array Oper) (draw : Bool) (a : MA) (s : St) (q : Orc) : Option OutCS :=
  match runS P F ops ops.toList a s q with
  | none => none
  | some (rs, q1) => match draw with
    | false => some (.normal, lastA a rs, lastS s rs, orR rs, orW rs, q1)
    | true => match drawOk ops with
      | false => none
      | true => match pairsOk [] 0 0 (bitsL s rs) (preds ops) with
        | true => some (.normal, lastA a rs, lastS s rs, orR rs, orW rs, q1)
        | false => none
def COk (P : Program) (rd : Option Nat) (T : Tr) (a : MA) (s : St) (q : Orc) (r : OutCS) : Prop := (r.2.2.2.2.2.ob → q.ob) ∧ (r.2.2.2.2.2.ob → Snd P rd T a.act s r.1 r.2.1.act r.2.2.1 r.2.2.2.1 r.2.2.2.2.1)
theorem evRegionS_ok {F : FYS} {ops : Array Oper} {id : Nat} {draw : Bool} {a : MA} {q : Orc} {r : OutCS} (hm : P.follows .mixedOrders = true) (hF : FYOkS P F) (h : evRegionS P F ops draw a s q = some r) :
    COk P rd (TC P (.region id ops draw)) a s q r := by
  unfold evRegionS at h
  split at h
  · cases h
  · rename_i rs q1 hr
    obtain ⟨k1, k2⟩ := runS_ok hF _ _ _ _ _ _ hr
    split at h
    · cases h
      refine ⟨k1, fun hb => sndC_region ?_⟩
      have := seqS (rd := rd) ops.toList 0 a s rs (k2 hb) (fun k o hk => by simpa using hk)
      rwa [show List.range' 0 ops.toList.length = List.range ops.size from by rw [List.range_eq_range']; simp] at this
    · split at h
      · cases h
      · rename_i hd
        split at h
        · rename_i hp
          cases h
          refine ⟨k1, fun hb => ?_⟩
          have hl : rs.length = ops.size := by rw [rows_len _ _ _ _ (k2 hb)]; simp
          have := sndC_draw (id := id) hm (sqS (rd := rd) (k2 hb)) (apart_of hl hd hp) (ords_of (by simp only [drawOk, Bool.and_eq_true] at hd; exact hd.1))
          rw [← hl, stA_last, stS_last, orUpto_R, orUpto_W] at this
          exact this
        · cases h

abbrev EvS := Bool → Code → MA → St → Orc → Option OutCS
def withQ (r : Value × St × Nat × Nat) (q : Orc) : OutS := (r.1, r.2.1, r.2.2.1, r.2.2.2, q)
theorem withQ_eq {r : Value × St × Nat × Nat} {q q1 : Orc} {v : Value} {s1 : St} {R W : Nat} (h : withQ r q = (v, s1, R, W, q1)) : r = (v, s1, R, W) ∧ q = q1 := by
  obtain ⟨a, b, c, d⟩ := r
  simp only [withQ, Prod.mk.injEq] at h
  obtain ⟨rfl, rfl, rfl, rfl, rfl⟩ := h
  exact ⟨rfl, rfl⟩
def evFnS (P : Program) (X : CallS) (ev : EvS) : CallS := fun f args s q =>
  match X f args s q with
  | some r => some r
  | none => match P.funcs[f]? with
  | none => none
  | some fn => match fn.body with
    | none => none
    | some c => match ev false c (startM fn args) s q with
      | some (e, a1, s1, R1, W, q1) => match e with
        | .normal => match shutM a1.defers s1 with
          | some (s2, W2) => match resultsG P s2 a1.get fn.results.toList with
            | some (vs, R2) => some (withQ (gcO s (outV vs, s2, R1 ||| R2, W ||| W2)) q1)
            | none => none
          | none => none
        | .ret => match shutM a1.defers s1 with
          | some (s2, W2) => match resultsG P s2 a1.get fn.results.toList with
            | some (vs, R2) => some (withQ (gcO s (outV vs, s2, R1 ||| R2, W ||| W2)) q1)
            | none => none
          | none => none
        | _ => none
      | none => none
def EvOkS (P : Program) (rd : Option Nat) (ev : EvS) : Prop := ∀ flag c a s q r, ev flag c a s q = some r → COk P rd (TF P flag c) a s q r
theorem evFnS_ok {X : CallS} {ev : EvS} (hX : FOkS P X) (h : EvOkS P none ev) : FOkS P (evFnS P X ev) := fun f azz s q v s1 R W q1 he => by
  unfold evFnS at he
  split at he
  · rename_i hx
    cases he
    exact hX _ _ _ _ _ _ _ _ _ hx
  split at he
  · cases he
  · rename_i fn hf
    split at he
    · cases he
    · rename_i c hb
      split at he
      · rename_i e a1 s2 R1 W1 q2 hc
        obtain ⟨g1, g2⟩ := h false c (startM fn azz) s q _ hc
        rw [startM_act] at g2
        split at he
        · split at he
          · rename_i hm
            split at he
            · rename_i vs R2 hv
              obtain ⟨e1, rfl⟩ := withQ_eq (Option.some.inj he)
              exact ⟨g1, fun hq => gcO_snd (sndF_of_marks hf hb (.inl rfl) (g2 hq) hm ((resultsL_act _ _).trans hv)) e1⟩
            · cases he
          · cases he
        · split at he
          · rename_i hm
            split at he
            · rename_i vs R2 hv
              obtain ⟨e1, rfl⟩ := withQ_eq (Option.some.inj he)
              exact ⟨g1, fun hq => gcO_snd (sndF_of_marks hf hb (.inr rfl) (g2 hq) hm ((resultsL_act _ _).trans hv)) e1⟩
            · cases he
          · cases he
        · cases he
      · cases he

abbrev EvRS := Option Nat → EvS
def evYS (ev : EvRS) : YieldS := fun l args s q =>
  match s.get l with
  | .loop r => match args.size == r.params.size with
    | true => match ev (some l) false r.assign (MA.ofA (setArgs r.params args r.tmps) []) s q with
      | some (e1, a1, s1, R1, W1, q1) => match isNormal e1, s1.get l with
        | true, .loop rB => match isReady rB.state with
          | true => match ev (some l) false r.body a1 (s1.put l (.loop { rB with state := .busy })) q1 with
            | some (e, _, s2, R2, W2, q2) => match roundJump e, s2.get l with
              | some jump, .loop rE => some (.bool jump.isNone, s2.put l (.loop { rE with state := if jump.isNone then .ready else .done, pending := jump }), 2 ^ l ||| (R1 ||| (0 ||| (R2 ||| 0))), W1 ||| (2 ^ l ||| (W2 ||| 2 ^ l)), q2)
              | _, _ => none
            | none => none
          | false => none
        | _, _ => none
      | none => none
    | false => none
  | _ => none
theorem evYS_ok {ev : EvRS} (h : ∀ rd, EvOkS P rd (ev rd)) : ∀ l azz s q v s1 R W q1, evYS ev l azz s q = some (v, s1, R, W, q1) → (q1.ob → q.ob) ∧ (q1.ob → ∀ rd, SndY P rd l azz s v s1 R W) := fun l azz s q v s1 R W q1 he => by
  unfold evYS at he
  split at he
  · rename_i r hl
    split at he
    · rename_i hsz
      split at he
      · rename_i e1 a1 s2 R1 W1 q2 h1
        split at he
        · rename_i rB hn hB
          split at he
          · rename_i hst
            split at he
            · rename_i e a2 s3 R2 W2 q3 h2
              split at he
              · rename_i jump rE hj hE
                cases he
                cases isNormal_iff hn
                obtain ⟨k1, g1⟩ := h (some l) _ _ _ _ _ _ h1
                rw [MA.ofA_act] at g1
                obtain ⟨k2, g2⟩ := h (some l) _ _ _ _ _ _ h2
                refine ⟨fun hq => k1 (k2 hq), fun hq rd o c vals x ho hc hx ha => ?_⟩
                subst ha
                exact sndO_yield ho hc hx hl (by simpa using hsz) (g1 (k2 hq)) hB (isReady_iff hst) (g2 hq) hj hE
              · cases he
            · cases he
          · cases he
        · cases he
      · cases he
    · cases he
  · cases he
def evRangeS (P : Program) (F : CallS) (rd : Option Nat) (g : Operand) (ps : Array Tmp) (azz b : Code) (a : MA) (s : St) (q : Orc) : Option OutCS :=
  match okOp P g, a.eval g with
  | true, .func (.func f) xs ys => match P.funcs[f]? with
    | some fn => match fn.body.isSome && !(fn.name == "runtime.NumGoroutine") with
      | true => match rd with
        | none => match F f (xs ++ #[.func (.yield (s.next + 1)) #[] #[]] ++ ys) ((s.push .marks).push (.loop (recOf a.act.tmps ps azz b s.next))) q with
          | some (_, s1, R, W, q1) => match s1.get (s.next + 1) with
            | .loop r => match isBusy r.state, jumpOk r.pending with
              | false, true => some (exitOf r.pending, ⟨a.n, a.t, mark s.next :: a.defers⟩, (s1.put (s.next + 1) (.loop { r with state := .exhausted })).put (s.next + 1) .hole, 0 ||| (0 ||| (R ||| 0)), 0 ||| (0 ||| (W ||| 2 ^ (s.next + 1))), q1)
              | _, _ => none
            | _ => none
          | none => none
        | some l0 => match s.get l0 with
          | .loop r0 => match F f (xs ++ #[.func (.yield s.next) #[] #[]] ++ ys) (s.push (.loop (recOf a.act.tmps ps azz b r0.defers))) q with
            | some (_, s1, R, W, q1) => match s1.get s.next with
              | .loop r => match isBusy r.state, jumpOk r.pending with
                | false, true => some (exitOf r.pending, a, (s1.put s.next (.loop { r with state := .exhausted })).put s.next .hole, 2 ^ l0 ||| (R ||| 0), 0 ||| (W ||| 2 ^ s.next), q1)
                | _, _ => none
              | _ => none
            | none => none
          | _ => none
      | false => none
    | none => none
  | _, _ => none
theorem evRangeS_ok {F : CallS} {g : Operand} {ps : Array Tmp} {azz b : Code} {a : MA} {q : Orc} {r : OutCS} (hF : FOkS P F) (h : evRangeS P F rd g ps azz b a s q = some r) : COk P rd (TC P (.rangeFunc g ps azz b)) a s q r := by
  unfold evRangeS at h
  rw [← MA.eval_act] at h
  split at h
  · rename_i f xs ys hg hx
    split at h
    · rename_i fn hf
      split at h
      · rename_i hb
        simp only [Bool.and_eq_true, Bool.not_eq_true'] at hb
        split at h
        · split at h
          · rename_i hc
            obtain ⟨k1, k2⟩ := hF _ _ _ _ _ _ _ _ _ hc
            split at h
            · rename_i r hl
              split at h
              · rename_i hbu hj
                cases h
                exact ⟨k1, fun hq => Snd.drop (sndC_rangeFunc hg hx hf hb.1 hb.2 (k2 hq) hl (isBusy_iff hbu) hj) (Nat.le_succ _) (by have q := lt_of_loop hl; exact q)⟩
              · cases h
            · cases h
          · cases h
        · split at h
          · rename_i r0 h0
            split at h
            · rename_i hc
              obtain ⟨k1, k2⟩ := hF _ _ _ _ _ _ _ _ _ hc
              split at h
              · rename_i r hl
                split at h
                · rename_i hbu hj
                  cases h
                  exact ⟨k1, fun hq => Snd.drop (sndC_rangeFuncI h0 hg hx hf hb.1 hb.2 (k2 hq) hl (isBusy_iff hbu) hj) (Nat.le_refl _) (by have q := lt_of_loop hl; exact q)⟩
                · cases h
              · cases h
            · cases h
          · cases h
      · cases h
    · cases h
  · cases h

def evStepS (P : Program) (X : CallS) (ev : EvRS) : EvRS := fun rd flag c a s q =>
  match flag with
  | true => match ev rd false c a s q with
    | some (e, a1, s1, R1, W1, q1) => match isNormal e with
      | true => match ev rd true c a1 s1 q1 with
        | some (e2, a2, s2, R2, W2, q2) => some (e2, a2, s2, R1 ||| R2, W1 ||| W2, q2)
        | none => none
      | false => some (e, a1, s1, R1, W1, q1)
    | none => none
  | false => match c with
    | .skip => some (.normal, a, s, 0, 0, q)
    | .label _ => some (.normal, a, s, 0, 0, q)
    | .exit l => some (.exit l, a, s, 0, 0, q)
    | .ret => some (.ret, a, s, 0, 0, q)
    | .region _ ops draw => evRegionS P ⟨evFnS P X (ev none), evYS ev⟩ ops draw a s q
    | .seq x y => match ev rd false x a s q with
      | some (e, a1, s1, R1, W1, q1) => match isNormal e with
        | true => match ev rd false y a1 s1 q1 with
          | some (e2, a2, s2, R2, W2, q2) => some (e2, a2, s2, R1 ||| R2, W1 ||| W2, q2)
          | none => none
        | false => some (e, a1, s1, R1, W1, q1)
      | none => none
    | .cond x t f => match okOp P x with
      | true => match a.eval x with
        | .bool b => match q.rest with
          | .n d :: rest => match (d == 1) with
            | true => ev rd false t a s ⟨rest, q.ob ∧ b = true⟩
            | false => ev rd false f a s ⟨rest, q.ob ∧ b = false⟩
          | _ => none
        | _ => none
      | false => none
    | .block id x => match ev rd false x a s q with
      | some (e, a1, s1, R1, W1, q1) => some (outOf id e, a1, s1, R1, W1, q1)
      | none => none
    | .loop x => match q.rest with
      | .out e a1 s1 R W :: rest => some (e, a1, s1, R, W, ⟨rest, q.ob ∧ SndC P rd (.loop x) a.act s e a1.act s1 R W⟩)
      | .lp m A0 N L0 e a1 L1 R W :: rest => some (e, a1, wS N L1, R, W, ⟨rest, q.ob ∧ ((maskA m a = A0 ∧ s.next = N + L0.length ∧ getL s 0 (N + L0.length) = List.replicate N .hole ++ L0) ∧ SndC P rd (.loop x) A0.act (wS N L0) e a1.act (wS N L1) R W)⟩)
      | _ => ev rd true x a s q
    | .scope x => match ev rd false x a s q with
      | some (e, a1, s1, R1, W1, q1) => match isGoto e with
        | false => some (e, a1, s1, R1, W1, q1)
        | true => none
      | none => none
    | .rangeFunc g ps azz b => evRangeS P (evFnS P X (ev none)) rd g ps azz b a s q
    | _ => none
theorem evStepS_ok {X : CallS} {ev : EvRS} (hm : P.follows .mixedOrders = true) (hX : FOkS P X) (h : ∀ rd, EvOkS P rd (ev rd)) : ∀ rd, EvOkS P rd (evStepS P X ev rd) := fun rd flag c a s q r he => by
  unfold evStepS at he
  split at he
  · split at he
    · rename_i h1
      obtain ⟨k1, g1⟩ := h rd false _ _ _ _ _ h1
      split at he
      · rename_i hn
        cases isNormal_iff hn
        split at he
        · rename_i h2
          cases he
          obtain ⟨k2, g2⟩ := h rd true _ _ _ _ _ h2
          exact ⟨fun hb => k1 (k2 hb), fun hb => snd_from_on (g1 (k2 hb)) (g2 hb)⟩
        · cases he
      · rename_i hn
        cases he
        exact ⟨k1, fun hb => snd_from_stop (isNormal_no hn) (g1 hb)⟩
    · cases he
  · split at he
    · cases he; exact ⟨id, fun _ => sndC_skip⟩
    · cases he; exact ⟨id, fun _ => sndC_label⟩
    · cases he; exact ⟨id, fun _ => sndC_exit⟩
    · cases he; exact ⟨id, fun _ => sndC_ret⟩
    · exact evRegionS_ok (F := ⟨evFnS P X (ev none), evYS ev⟩) hm ⟨evFnS_ok hX (h none), evYS_ok h⟩ he
    · split at he
      · rename_i h1
        obtain ⟨k1, g1⟩ := h rd false _ _ _ _ _ h1
        split at he
        · rename_i hn
          cases isNormal_iff hn
          split at he
          · rename_i h2
            cases he
            obtain ⟨k2, g2⟩ := h rd false _ _ _ _ _ h2
            exact ⟨fun hb => k1 (k2 hb), fun hb => sndC_seq (g1 (k2 hb)) (g2 hb)⟩
          · cases he
        · rename_i hn
          cases he
          exact ⟨k1, fun hb => sndC_seq_stop (isNormal_no hn) (g1 hb)⟩
      · cases he
    · split at he
      · rename_i hx
        split at he
        · rename_i b hb
          split at he
          · split at he
            · obtain ⟨k2, g2⟩ := h rd false _ _ _ _ _ he
              exact ⟨fun hq => (k2 hq).1, fun hq => sndC_cond (t := true) hx (by rw [MA.eval_act, hb, (k2 hq).2]) (g2 hq)⟩
            · obtain ⟨k2, g2⟩ := h rd false _ _ _ _ _ he
              exact ⟨fun hq => (k2 hq).1, fun hq => sndC_cond (t := false) hx (by rw [MA.eval_act, hb, (k2 hq).2]) (g2 hq)⟩
          · cases he
        · cases he
      · cases he
    · split at he
      · rename_i h1
        cases he
        obtain ⟨k1, g1⟩ := h rd false _ _ _ _ _ h1
        exact ⟨k1, fun hq => sndC_block (g1 hq)⟩
      · cases he
    · split at he
      · cases he
        exact ⟨fun hq => hq.1, fun hq => hq.2⟩
      · cases he
        exact ⟨fun hq => hq.1, fun hq => loop_at hq.2.2 hq.2.1⟩
      · obtain ⟨k1, g1⟩ := h rd true _ _ _ _ _ he
        exact ⟨k1, fun hq => sndC_loop (g1 hq)⟩
    · split at he
      · rename_i h1
        split at he
        · rename_i hg
          cases he
          obtain ⟨k1, g1⟩ := h rd false _ _ _ _ _ h1
          exact ⟨k1, fun hq => sndC_scope hg (g1 hq)⟩
        · cases he
      · cases he
    · exact evRangeS_ok (evFnS_ok hX (h none)) he
    · cases he

def evCRS (P : Program) (X : CallS) : Nat → EvRS
  | 0 => fun _ _ _ _ _ _ => none
  | n + 1 => evStepS P X (evCRS P X n)
theorem evCRS_ok {X : CallS} (hm : P.follows .mixedOrders = true) (hX : FOkS P X) : ∀ n rd, EvOkS P rd (evCRS P X n rd)
  | 0 => fun rd flag c a s q r he => by cases he
  | n + 1 => evStepS_ok hm hX (evCRS_ok hm hX n)
def evCS (P : Program) (X : CallS) (n : Nat) : EvS := evCRS P X n none
theorem evCS_ok {X : CallS} (hm : P.follows .mixedOrders = true) (hX : FOkS P X) (n : Nat) : EvOkS P none (evCS P X n) := evCRS_ok hm hX n none
def evFS (P : Program) (X : CallS) (n : Nat) : CallS := evFnS P X (evCS P X n)
theorem evFS_ok {X : CallS} (hm : P.follows .mixedOrders = true) (hX : FOkS P X) (n : Nat) : FOkS P (evFS P X n) := evFnS_ok hX (evCS_ok hm hX n)
def noXS : CallS := fun _ _ _ _ => none
theorem noXS_ok : FOkS P noXS := fun f azz s q v s1 R W q1 h => by cases h
end Mini
end Go.Proofs.YtencngffhbhifaaGreatDoor
end
section
namespace Go.Proofs.YtencngffhbhifaaGreatDoor
set_option linter.all false
open Go.RowKit
namespace Mini
variable {P : Program} {s s0 s1 : St} {R W : Nat}

theorem sndF_quietG {f : FuncId} {args : Array Value} {v : Value} (hg : ground 8 v = true)
    (h : ∀ (ρ : Ren) (C : Nat → MObj) (args' : Array Value) (w : World), Glob P ρ → (∀ b, R.testBit b = true → b < s.next → C b = s.get b) → WRel ρ C w → VRs ρ args args' → Calls P f args' w fun e w' => e = .returned v ∧ Below w.heap.size w w') :
    SndF P f args s v s R 0 := by
  refine ⟨Stat.refl s, fun n ρ C args' w Q hp ha hQ => ?_⟩
  have hc := h ρ C args' w hp.glob (fun b hb => hp.agree b (by rw [or_bit, hb]; rfl)) hp.rel ha
  refine callsIn_wide.2 (hc.mono fun e w' he => ?_)
  obtain ⟨rfl, hb⟩ := he
  refine hQ ρ v w' ⟨Ren.le_refl _, fun b hne => absurd rfl hne, fun b L h1 h2 => (by rw [h1] at h2; cases h2), hb.size, fun x hx _ => hb.block x hx, hb.os, hb.tape, hb.output⟩ ?_ (ground_refl 8 hg)
  rw [upd_zero]
  refine ⟨fun b hne => ?_, hp.rel.2⟩
  obtain ⟨L, o', h1, h2, h3⟩ := hp.rel.1 b hne
  have hlt : L.blk < w.heap.size := (Array.getElem?_eq_some_iff.1 h2).1
  exact ⟨L, o', h1, (hb.block L.blk hlt).trans h2, h3⟩

def valsEq : List Value → List Value → Bool
  | [], _ => true
  | .int k a :: l, .int k' b :: l' => decide (k = k') && (a == b) && valsEq l l'
  | _, _ => false
theorem valsEq_at : ∀ (c c' : List Value), valsEq c c' = true → ∀ (i : Nat) (v : Value), c[i]? = some v → c'[i]? = some v ∧ ∃ k a, v = .int k a
  | [], c', h, i, v, hi => by simp at hi
  | x :: l, [], h, i, v, hi => by cases x <;> simp [valsEq] at h
  | x :: l, y :: l', h, i, v, hi => by
    cases x with
    | int k a => cases y with
      | int k' b =>
        simp only [valsEq, Bool.and_eq_true, decide_eq_true_eq, beq_iff_eq] at h
        obtain ⟨⟨rfl, rfl⟩, h3⟩ := h
        cases i with
        | zero => simp at hi; subst hi; exact ⟨rfl, k, a, rfl⟩
        | succ i => exact valsEq_at l l' h3 i v (by simpa using hi)
      | _ => simp [valsEq] at h
    | _ => simp [valsEq] at h
def tabEq : MObj → MObj → Bool
  | .hole, _ => true
  | .cells c _ _ _ _, .cells c' _ _ _ _ => valsEq c c'
  | _, _ => false
def tabsEq (s0 s : St) : Nat → Bool
  | 0 => true
  | n + 1 => tabEq (s0.get n) (s.get n) && tabsEq s0 s n
theorem tabsEq_at : ∀ (n : Nat), tabsEq s0 s n = true → ∀ b, b < n → tabEq (s0.get b) (s.get b) = true
  | 0, h, b, hb => by omega
  | n + 1, h, b, hb => by
    simp only [tabsEq, Bool.and_eq_true] at h
    rcases Nat.lt_or_ge b n with c | c
    · exact tabsEq_at n h.2 b c
    · rw [show b = n from by omega]; exact h.1
def tabOk : MObj → Bool
  | .hole => true
  | .cells c _ true 0 true => !c.isEmpty && c.all (ground 8)
  | _ => false
def tabsOk (s0 : St) : Nat → Bool
  | 0 => true
  | n + 1 => tabOk (s0.get n) && tabsOk s0 n
theorem tabsOk_at : ∀ (n : Nat), tabsOk s0 n = true → ∀ b, b < n → tabOk (s0.get b) = true
  | 0, h, b, hb => by omega
  | n + 1, h, b, hb => by
    simp only [tabsOk, Bool.and_eq_true] at h
    rcases Nat.lt_or_ge b n with c | c
    · exact tabsOk_at n h.2 b c
    · rw [show b = n from by omega]; exact h.1
theorem holds_of {ρ : Ren} {C : Nat → MObj} {w : World} (hn : s0.next = P.globals.size) (hok : tabsOk s0 s0.next = true) (heq : tabsEq s0 s s0.next = true) (hG : Glob P ρ) (ag : ∀ b, (2 ^ s0.next - 1).testBit b = true → b < s.next → C b = s.get b) (hr : WRel ρ C w) : Holds P s0 w := by
  refine ⟨hn, fun b hb => ?_⟩
  rw [← hn] at hb
  have h1 := tabsOk_at _ hok b hb
  have h2 := tabsEq_at _ heq b hb
  cases hs : s0.get b with
  | hole => exact .inl rfl
  | cells c e opn sz r =>
    rw [hs] at h1 h2
    cases ho : s.get b with
    | cells c' e' opn' sz' r' =>
      rw [ho] at h2
      simp only [tabEq] at h2
      cases opn <;> cases r <;> cases sz <;> simp only [tabOk, Bool.and_eq_true, Bool.not_eq_true', Bool.false_eq_true] at h1
      refine .inr ⟨c, e, rfl, by intro hc; rw [hc] at h1; simp at h1, h1.2, fun i v hi => ?_⟩
      obtain ⟨k1, k, a, rfl⟩ := valsEq_at c c' h2 i v hi
      have hlt : b < s.next := St.lt_of_live (by rw [ho]; simp)
      have hC : C b = .cells c' e' opn' sz' r' := (ag b (by rw [Nat.testBit_two_pow_sub_one]; simpa using hb) hlt).trans ho
      obtain ⟨L, cs, fr, q1, q2, q3⟩ := row_of hr hC
      obtain ⟨L', g1, g2, g3⟩ := hG b (hn ▸ hb)
      rw [q1] at g1
      cases g1
      obtain ⟨p1, p2, p3, p4, p5, p6, p7, p8⟩ := q3
      obtain ⟨v', z1, z2⟩ := p6 i _ k1
      have := int_inv z2
      subst this
      rw [g2] at q2
      rw [cell_row q2]
      rw [g3, Nat.zero_add] at z1
      exact z1
    | _ => rw [ho] at h2; simp [tabEq] at h2
  | _ => rw [hs] at h1; simp [tabOk] at h1

def tabX (s0 : St) (f0 : FuncId) : CallS := fun f xs s q =>
  match decide (f = f0) && xs.toList.isEmpty && tabsOk s0 s0.next && tabsEq s0 s s0.next with
  | true => some (.bool true, s, 2 ^ s0.next - 1, 0, q)
  | false => none
theorem tabX_ok {f0 : FuncId} (hn : s0.next = P.globals.size) (h : ∀ w, Holds P s0 w → Calls P f0 #[] w fun e w' => e = .returned (.bool true) ∧ Below w.heap.size w w') : FOkS P (tabX s0 f0) := fun f xs s q v s1 R W q1 he => by
  unfold tabX at he
  split at he
  · rename_i hc
    cases he
    simp only [Bool.and_eq_true, decide_eq_true_eq] at hc
    obtain ⟨⟨⟨rfl, h2⟩, h3⟩, h4⟩ := hc
    have hx : xs = #[] := by
      apply Array.ext'
      simpa using h2
    subst hx
    refine ⟨id, fun _ => sndF_quietG rfl fun ρ C args' w hG ag hr ha => ?_⟩
    have ea : args' = #[] := Array.eq_empty_of_size_eq_zero (ha.1.symm.trans rfl)
    subst ea
    exact h w (holds_of hn h3 h4 hG ag hr)
  · cases he

def resOf : Option OutS → Value
  | some (v, _, _, _, _) => v
  | none => .nilFunc
def obOf : Option OutS → Prop
  | some (_, _, _, _, q) => q.ob
  | none => False
def cleanOf (n : Nat) : Option OutS → Bool
  | some (_, _, _, W, _) => (W % 2 ^ n) == 0
  | none => false
theorem calls_ofS {X : CallS} {f : FuncId} {args : Array Value} {v : Value} {q : Orc} {w : World} {n : Nat} (hm : P.follows .mixedOrders = true) (hX : FOkS P X) (hv : resOf (evFS P X n f args s q) = v) (hg : ground 8 v = true) (ha : args.toList.all (ground 8) = true)
    (hc : cleanOf P.globals.size (evFS P X n f args s q) = true) (hob : obOf (evFS P X n f args s q)) (hh : Holds P s w) : Calls P f args w fun e w' => e = .returned v ∧ Below w.heap.size w w' := by
  cases hr : evFS P X n f args s q with
  | none => rw [hr] at hc; simp [cleanOf] at hc
  | some r =>
    obtain ⟨v0, s1, R, W, q1⟩ := r
    rw [hr] at hv hc hob
    simp only [resOf] at hv
    subst hv
    simp only [cleanOf, beq_iff_eq] at hc
    refine calls_of ((evFS_ok hm hX n _ _ _ _ _ _ _ _ _ hr).2 hob) hg ha (fun b hb => ?_) hh
    have : (W % 2 ^ P.globals.size).testBit b = false := by rw [hc]; simp
    rw [Nat.testBit_mod_two_pow] at this
    simpa [hb] using this
structure BoxedP (p : Prop) : Prop where
  out : p
theorem calls_ofR {X : CallS} {f : FuncId} {args : Array Value} {v : Value} {q : Orc} {w : World} {n : Nat} {r : Option OutS} (hr : r = evFS P X n f args s q) (hm : P.follows .mixedOrders = true) (hX : FOkS P X) (hv : resOf r = v) (hg : ground 8 v = true) (ha : args.toList.all (ground 8) = true)
    (hc : cleanOf P.globals.size r = true) (hob : BoxedP (obOf r)) (hh : Holds P s w) : Calls P f args w fun e w' => e = .returned v ∧ Below w.heap.size w w' := by
  subst hr
  exact calls_ofS hm hX hv hg ha hc hob.out hh
end Mini
end Go.Proofs.YtencngffhbhifaaGreatDoor
end
section
namespace Go.Proofs.YtencngffhbhifaaGreatDoor
set_option linter.all false
open Go.RowKit
namespace Mini
variable {P : Program} {s s1 : St}

inductive Sh where
  | int (k : IntKind)
  | agg (l : List IntKind)
def ints : List IntKind → List Value → Option (List Int)
  | [], [] => some []
  | k :: ks, .int k' n :: vs => match decide (k = k') with
    | true => match ints ks vs with
      | some l => some (n :: l)
      | none => none
    | false => none
  | _, _ => none
def flat : List Sh → List Value → Option (List Int)
  | [], [] => some []
  | .int k :: ss, .int k' n :: vs => match decide (k = k') with
    | true => match flat ss vs with
      | some l => some (n :: l)
      | none => none
    | false => none
  | .agg ks :: ss, .agg x :: vs => match ints ks x.toList with
    | some l => match flat ss vs with
      | some r => some (l ++ r)
      | none => none
    | none => none
  | _, _ => none
def size : List Sh → Nat
  | [] => 0
  | .int _ :: ss => size ss + 1
  | .agg ks :: ss => ks.length + size ss
def backI : List IntKind → List Int → List Value
  | k :: ks, n :: ns => .int k n :: backI ks ns
  | _, _ => []
def back : List Sh → List Int → List Value
  | .int k :: ss, n :: ns => .int k n :: back ss ns
  | .agg ks :: ss, ns => .agg (backI ks (ns.take ks.length)).toArray :: back ss (ns.drop ks.length)
  | _, _ => []
theorem ints_back : ∀ (ks : List IntKind) (vs : List Value) (l : List Int), ints ks vs = some l → vs = backI ks l ∧ l.length = ks.length
  | [], [], l, h => by cases h; exact ⟨rfl, rfl⟩
  | [], v :: vs, l, h => by cases v <;> cases h
  | k :: ks, [], l, h => by cases h
  | k :: ks, v :: vs, l, h => by
    cases v with
    | int k' n =>
      simp only [ints] at h
      split at h
      · rename_i hk
        have hk := of_decide_eq_true hk
        subst hk
        split at h
        · rename_i l' hl
          cases h
          obtain ⟨h1, h2⟩ := ints_back ks vs l' hl
          exact ⟨by rw [h1]; rfl, by simp [h2]⟩
        · cases h
      · cases h
    | _ => cases h
theorem flat_back : ∀ (ss : List Sh) (vs : List Value) (l : List Int), flat ss vs = some l → vs = back ss l ∧ l.length = size ss
  | [], [], l, h => by cases h; exact ⟨rfl, rfl⟩
  | [], v :: vs, l, h => by cases v <;> cases h
  | s :: ss, [], l, h => by cases s <;> cases h
  | .int k :: ss, v :: vs, l, h => by
    cases v with
    | int k' n =>
      simp only [flat] at h
      split at h
      · rename_i hk
        have hk := of_decide_eq_true hk
        subst hk
        split at h
        · rename_i l' hl
          cases h
          obtain ⟨h1, h2⟩ := flat_back ss vs l' hl
          exact ⟨by rw [h1]; rfl, by simp [size, h2]⟩
        · cases h
      · cases h
    | _ => cases h
  | .agg ks :: ss, v :: vs, l, h => by
    cases v with
    | agg x =>
      simp only [flat] at h
      split at h
      · rename_i l' hl
        split at h
        · rename_i r hr
          cases h
          obtain ⟨h1, h2⟩ := ints_back ks _ l' hl
          obtain ⟨h3, h4⟩ := flat_back ss vs r hr
          refine ⟨?_, by simp [size, h2, h4]⟩
          have hx : x = (backI ks l').toArray := by apply Array.ext'; simpa using h1
          rw [show back (.agg ks :: ss) (l' ++ r) = .agg (backI ks ((l' ++ r).take ks.length)).toArray :: back ss ((l' ++ r).drop ks.length) from rfl]
          rw [← h2, List.take_left' rfl, List.drop_left' rfl, ← h3, hx]
        · cases h
      · cases h
    | _ => cases h
theorem backI_ground : ∀ (ks : List IntKind) (l : List Int), (backI ks l).all (ground 7) = true
  | [], l => by cases l <;> rfl
  | k :: ks, [] => rfl
  | k :: ks, n :: ns => by
    simp only [backI, List.all_cons, Bool.and_eq_true]
    exact ⟨rfl, backI_ground ks ns⟩
theorem back_ground : ∀ (ss : List Sh) (l : List Int), (back ss l).all (ground 8) = true
  | [], l => by cases l <;> rfl
  | .int k :: ss, [] => rfl
  | .int k :: ss, n :: ns => by
    simp only [back, List.all_cons, Bool.and_eq_true]
    exact ⟨rfl, back_ground ss ns⟩
  | .agg ks :: ss, ns => by
    rw [show back (.agg ks :: ss) ns = .agg (backI ks (ns.take ks.length)).toArray :: back ss (ns.drop ks.length) from rfl]
    simp only [List.all_cons, Bool.and_eq_true]
    refine ⟨?_, back_ground ss _⟩
    have := backI_ground ks (ns.take ks.length)
    simpa [ground] using this

structure Con where
  f : FuncId
  sh : List Sh
  val : List Int → Value
  pre : List Int → Prop
def kOf (c : Con) : CallS := fun f xs s q => match decide (f = c.f) with
  | true => match flat c.sh xs.toList with
    | some ns => some (c.val ns, s, 0, 0, ⟨q.rest, q.ob ∧ c.pre ns⟩)
    | none => none
  | false => none
def ConOk (P : Program) (c : Con) : Prop := ∀ ns, ns.length = size c.sh → ground 8 (c.val ns) = true ∧ (c.pre ns → ∀ w, Calls P c.f (back c.sh ns).toArray w fun e w' => e = .returned (c.val ns) ∧ Below w.heap.size w w')
theorem vrs_ground {ρ : Ren} {xs bs : Array Value} (hg : xs.toList.all (ground 8) = true) (h : VRs ρ xs bs) : bs = xs := arr_eq (fun v v' => ground_eq 8) xs bs h.1 hg h.2
theorem kOf_ok {c : Con} (h : ConOk P c) : FOkS P (kOf c) := fun f xs s q v s1 R W q1 he => by
  unfold kOf at he
  split at he
  · rename_i hf
    have hf := of_decide_eq_true hf
    subst hf
    split at he
    · rename_i ns hn
      cases he
      obtain ⟨h1, h2⟩ := flat_back _ _ _ hn
      obtain ⟨g1, g2⟩ := h ns h2
      have hx : xs = (back c.sh ns).toArray := by apply Array.ext'; simpa using h1
      refine ⟨fun hb => hb.1, fun hb => sndF_quietG g1 fun ρ C args' w _ _ _ ha => ?_⟩
      have hg : xs.toList.all (ground 8) = true := by rw [h1]; exact back_ground _ _
      rw [vrs_ground hg ha, hx]
      exact g2 hb.2 w
    · cases he
  · cases he
def bothX (X Y : CallS) : CallS := fun f xs s q => match X f xs s q with
  | some r => some r
  | none => Y f xs s q
theorem bothX_ok {X Y : CallS} (hX : FOkS P X) (hY : FOkS P Y) : FOkS P (bothX X Y) := fun f xs s q v s1 R W q1 he => by
  unfold bothX at he
  split at he
  · rename_i hx
    cases he
    exact hX _ _ _ _ _ _ _ _ _ hx
  · exact hY _ _ _ _ _ _ _ _ _ he
def kAll : List Con → CallS
  | [] => noXS
  | c :: cs => bothX (kOf c) (kAll cs)
def ConsOk (P : Program) : List Con → Prop
  | [] => True
  | c :: cs => ConOk P c ∧ ConsOk P cs
theorem kAll_ok : ∀ (l : List Con), ConsOk P l → FOkS P (kAll l)
  | [], _ => noXS_ok
  | c :: cs, h => bothX_ok (kOf_ok h.1) (kAll_ok cs h.2)

def noTabs (n : Nat) : St := ⟨n, .leaf, []⟩
theorem noTabs_get (n b : Nat) : (noTabs n).get b = .hole := by
  unfold noTabs St.get
  split
  · split <;> rfl
  · rfl
theorem noTabs_holds (w : World) : Holds P (noTabs P.globals.size) w := ⟨rfl, fun b _ => .inl (noTabs_get _ b)⟩
theorem len_cons {ns : List Int} {n : Nat} (h : ns.length = n + 1) : ∃ a r, ns = a :: r ∧ r.length = n := by
  cases ns with
  | nil => cases h
  | cons a r => exact ⟨a, r, rfl, by simpa using h⟩
theorem len_nil {ns : List Int} (h : ns.length = 0) : ns = [] := List.length_eq_zero_iff.1 h
theorem calls_way {X : CallS} {f : FuncId} {args : Array Value} {v : Value} {q : Orc} {w : World} {n : Nat} {s : St} {r : Option OutS} {p : Prop} (hr : r = evFS P X n f args s q) (hm : P.follows .mixedOrders = true) (hX : FOkS P X) (hv : resOf r = v) (hg : ground 8 v = true) (ha : args.toList.all (ground 8) = true)
    (hc : cleanOf P.globals.size r = true) (ho : obOf r = p) (hp : p) (hh : Holds P s w) : Calls P f args w fun e w' => e = .returned v ∧ Below w.heap.size w w' :=
  calls_ofR hr hm hX hv hg ha hc ⟨by rw [ho]; exact hp⟩ hh
end Mini
end Go.Proofs.YtencngffhbhifaaGreatDoor
end
section
namespace Go.Proofs.YtencngffhbhifaaGreatDoor
set_option linter.all false
namespace Mini
variable {P : Program} {rd rd0 : Option Nat} {s s1 s0 s01 : St} {R W R0 W0 : Nat}

abbrev Nm := Nat → Nat → Prop
def RenOk (f : Nm) (ρ ρ' : Ren) : Prop := ∀ b b' L, f b b' → ρ b = some L → ρ' b' = some L
def WV (f : Nm) (v u : Value) : Prop := ∀ ρ ρ' : Ren, RenOk f ρ ρ' → ∀ v', VR ρ v v' → VR ρ' u v'
def WO (f : Nm) (o o2 : MObj) : Prop := (o2 ≠ .hole → o ≠ .hole) ∧ (o2 ≠ .hole → roO o = true → roO o2 = true) ∧ ∀ ρ ρ' : Ren, RenOk f ρ ρ' → ∀ L o', OR ρ L o o' → OR ρ' L o2 o'
def WVs (f : Nm) (a a2 : Array Value) : Prop := a.size = a2.size ∧ ∀ (i : Nat) (v u : Value), a[i]? = some v → a2[i]? = some u → WV f v u
structure WA (f : Nm) (a a2 : Act) : Prop where
  tmps : WVs f a.tmps a2.tmps
  d : a.defers = []
  d2 : a2.defers = []
theorem WVs.vrs {f : Nm} {ρ ρ' : Ren} (hf : RenOk f ρ ρ') {a a2 a' : Array Value} (h : WVs f a a2) (g : VRs ρ a a') : VRs ρ' a2 a' := by
  refine ⟨h.1.symm.trans g.1, fun i u v' e1 e2 => ?_⟩
  have hlt : i < a.size := h.1 ▸ (Array.getElem?_eq_some_iff.1 e1).1
  have e0 : a[i]? = some a[i] := Array.getElem?_eq_getElem hlt
  exact h.2 i _ _ e0 e1 ρ ρ' hf v' (g.2 i _ _ e0 e2)
theorem WA.ar {f : Nm} {ρ ρ' : Ren} (hf : RenOk f ρ ρ') {a a2 a' : Act} (h : WA f a a2) (g : AR ρ a a') : AR ρ' a2 a' := by
  refine ⟨h.tmps.vrs hf g.tmps, ?_⟩
  have := g.defs
  rw [h.d] at this
  rw [h.d2]
  cases hd : a'.defers with
  | nil => trivial
  | cons x xs => rw [hd] at this; exact this.elim

structure Emb (P : Program) (s0 s01 : St) (R0 W0 : Nat) (s s1 : St) (R W : Nat) (ι : Nat → Nat) (κ : Nat → Option Nat) : Prop where
  glob : ∀ g, g < P.globals.size → g < s0.next ∧ ι g = g
  lt : ∀ b, b < s0.next → ι b < s.next
  inj : ∀ b b', b < s0.next → b' < s0.next → ι b = ι b' → b = b'
  reads : ∀ b, b < s0.next → (R0 ||| W0).testBit b = true → (R ||| W).testBit (ι b) = true
  writes : ∀ b, b < s0.next → W0.testBit b = true → W.testBit (ι b) = true ∧ s0.get b ≠ .hole ∧ roO (s.get (ι b)) = false
  obj : ∀ b, b < s0.next → (R0 ||| W0).testBit b = true → WO (fun x y => y < s0.next ∧ x = ι y) (s.get (ι b)) (s0.get b)
  stat : Stat s s1 W
  kold : ∀ b, b < s0.next → κ b = some (ι b)
  knew : ∀ b x, s0.next ≤ b → κ b = some x → s.next ≤ x ∧ x < s1.next
  kinj : ∀ b b' x, κ b = some x → κ b' = some x → b = b'
  wrote : ∀ x, x < s.next → W.testBit x = true → ∃ b, b < s0.next ∧ ι b = x ∧ W0.testBit b = true ∧ WO (fun y z => κ y = some z) (s01.get b) (s1.get x)
  new : ∀ x, s.next ≤ x → x < s1.next → s1.get x = .hole ∨ ∃ b, s0.next ≤ b ∧ b < s01.next ∧ κ b = some x ∧ WO (fun y z => κ y = some z) (s01.get b) (s1.get x)

open Classical in
theorem Snd.embed {T : Tr} {a0 a01 a a1 : Act} {e : Exit} {ι : Nat → Nat} {κ : Nat → Option Nat} (h : Snd P rd0 T a0 s0 e a01 s01 R0 W0) (E : Emb P s0 s01 R0 W0 s s1 R W ι κ)
    (hrd : (rd0 = none ∧ rd = none) ∨ ∃ l, l < s0.next ∧ rd0 = some l ∧ rd = some (ι l)) (ha : WA (fun x y => y < s0.next ∧ x = ι y) a a0) (ha1 : WA (fun y z => κ y = some z) a01 a1) : Snd P rd T a s e a1 s1 R W := by
  refine ⟨E.stat, fun n ro ρ C a' w Q hp har hQ => ?_⟩
  have hst := E.stat
  let ρ0 : Ren := fun b => if b < s0.next then ρ (ι b) else none
  let C0 : Nat → MObj := fun b => if b < s0.next ∧ (R0 ||| W0).testBit b = true then s0.get b else .hole
  have hρ0 : ∀ b, b < s0.next → ρ0 b = ρ (ι b) := fun b hb => if_pos hb
  have hρn : ∀ b, s0.next ≤ b → ρ0 b = none := fun b hb => if_neg (by omega)
  have hf : RenOk (fun x y => y < s0.next ∧ x = ι y) ρ ρ0 := fun x y L hxy hx => by
    obtain ⟨h1, rfl⟩ := hxy
    rw [hρ0 y h1]; exact hx
  have hCs : ∀ b, b < s0.next → (R0 ||| W0).testBit b = true → C (ι b) = s.get (ι b) := fun b hb hbit => hp.agree _ (E.reads b hb hbit) (E.lt b hb)
  have hWb : ∀ b, W0.testBit b = true → (R0 ||| W0).testBit b = true := fun b hb => by rw [or_bit, hb]; simp
  have hliveW : ∀ b, b < s0.next → W0.testBit b = true → C (ι b) ≠ .hole := fun b hb hbit => by
    rw [hCs b hb (hWb b hbit)]
    exact (E.obj b hb (hWb b hbit)).1 (E.writes b hb hbit).2.1
  have hp0 : Pre P rd0 s0 s01 R0 W0 ro ρ0 C0 w := by
    refine ⟨fun g hg => ?_, ?_, fun b hb hlt => if_pos ⟨hlt, hb⟩, fun b h1 h2 => ⟨hρn b h1, if_neg (by omega)⟩, fun b hb => ?_, fun b b' L L' h1 h2 hq e1 e2 he => ?_⟩
    · obtain ⟨g1, g2⟩ := E.glob g hg
      rw [hρ0 g g1, g2]
      exact hp.glob g hg
    · have hr := hp.round
      rcases hrd with ⟨e1, e2⟩ | ⟨l, hl, e1, e2⟩
      · rw [e2] at hr; rw [e1]
        cases ro with
        | none => trivial
        | some l' => exact hr.elim
      · rw [e2] at hr; rw [e1]
        cases ro with
        | none => exact hr.elim
        | some l' =>
          obtain ⟨L, q1, q2⟩ := hr
          exact ⟨L, by rw [hρ0 l hl]; exact q1, q2⟩
    · have hc : b < s0.next ∧ (R0 ||| W0).testBit b = true := by
        by_cases c : b < s0.next ∧ (R0 ||| W0).testBit b = true
        · exact c
        · exact absurd (if_neg c) hb
      have e0 : C0 b = s0.get b := if_pos hc
      have hwo := E.obj b hc.1 hc.2
      rw [e0] at hb ⊢
      have hne : C (ι b) ≠ .hole := by rw [hCs b hc.1 hc.2]; exact hwo.1 hb
      obtain ⟨L, o', q1, q2, q3⟩ := hp.rel.1 _ hne
      refine ⟨L, o', by rw [hρ0 b hc.1]; exact q1, q2, hwo.2.2 ρ ρ0 hf L o' ?_⟩
      rw [← hCs b hc.1 hc.2]; exact q3
    · have k : ∀ b, C0 b ≠ .hole → (b < s0.next ∧ (R0 ||| W0).testBit b = true) ∧ C (ι b) ≠ .hole := fun b hb => by
        have hc : b < s0.next ∧ (R0 ||| W0).testBit b = true := by
          by_cases c : b < s0.next ∧ (R0 ||| W0).testBit b = true
          · exact c
          · exact absurd (if_neg c) hb
        refine ⟨hc, ?_⟩
        rw [show C0 b = s0.get b from if_pos hc] at hb
        rw [hCs b hc.1 hc.2]; exact (E.obj b hc.1 hc.2).1 hb
      obtain ⟨c1, n1⟩ := k b h1
      obtain ⟨c2, n2⟩ := k b' h2
      rw [hρ0 b c1.1] at e1
      rw [hρ0 b' c2.1] at e2
      have hro : ∀ b, (b < s0.next ∧ (R0 ||| W0).testBit b = true) → C0 b ≠ .hole → roO (C (ι b)) = true → roO (C0 b) = true := fun b hc hb hr => by
        rw [show C0 b = s0.get b from if_pos hc] at hb ⊢
        rw [hCs b hc.1 hc.2] at hr
        exact (E.obj b hc.1 hc.2).2.1 hb hr
      have hq2 : (roO (C (ι b)) && roO (C (ι b'))) = false := by
        cases hA : roO (C (ι b)) && roO (C (ι b')) with
        | false => rfl
        | true =>
          rw [Bool.and_eq_true] at hA
          rw [hro b c1 h1 hA.1, hro b' c2 h2 hA.2] at hq
          cases hq
      exact E.inj b b' c1.1 c2.1 (hp.rel.2 _ _ L L' n1 n2 hq2 e1 e2 he)
  refine h.2 n ro ρ0 C0 a' w Q hp0 (ha.ar hf har) fun ρ01 a1' w1 p1 r1 har1 => ?_
  let ρ1 : Ren := fun x => if hx : ∃ b, s0.next ≤ b ∧ κ b = some x then ρ01 hx.choose else ρ x
  have hnew : ∀ b x, s0.next ≤ b → κ b = some x → ρ1 x = ρ01 b := fun b x h1 h2 => by
    have hx : ∃ b, s0.next ≤ b ∧ κ b = some x := ⟨b, h1, h2⟩
    have e1 : ρ1 x = ρ01 hx.choose := dif_pos hx
    rw [e1, E.kinj _ _ x hx.choose_spec.2 h2]
  have hold : ∀ x, (∀ b, s0.next ≤ b → κ b ≠ some x) → ρ1 x = ρ x := fun x hx => dif_neg (by rintro ⟨b, h1, h2⟩; exact hx b h1 h2)
  have hout : ∀ x, ¬ (s.next ≤ x ∧ x < s1.next) → ρ1 x = ρ x := fun x hx => hold x fun b h1 h2 => hx (E.knew b x h1 h2)
  have hsame : ∀ b, b < s0.next → ρ01 b = ρ0 b := fun b hb => by
    by_cases c : ρ01 b = ρ0 b
    · exact c
    · have := p1.dom b c; omega
  have hκ : RenOk (fun y z => κ y = some z) ρ01 ρ1 := fun y z L hyz hy => by
    have hyz : κ y = some z := hyz
    by_cases c : y < s0.next
    · have e1 := E.kold y c
      rw [e1] at hyz
      cases hyz
      rw [hout _ (by have := E.lt y c; omega), ← hρ0 y c, ← hsame y c]; exact hy
    · rw [hnew y z (by omega) hyz]; exact hy
  have hpost : Post ρ s s1 W w ρ1 w1 := by
    refine ⟨fun x L hx => ?_, fun x hx => ?_, fun x L hx hx1 => ?_, p1.size, fun x hx hfr => p1.frame x hx fun b L hb hlt hL => hfr (ι b) L (E.writes b hlt hb).1 (E.lt b hlt) ((hρ0 b hlt) ▸ hL), p1.os, p1.tape, p1.output⟩
    · by_cases c : s.next ≤ x ∧ x < s1.next
      · rw [(hp.free x c.1 c.2).1] at hx; cases hx
      · rw [hout x c]; exact hx
    · by_cases c : s.next ≤ x ∧ x < s1.next
      · exact c
      · exact absurd (hout x c) hx
    · by_cases c : ∃ b, s0.next ≤ b ∧ κ b = some x
      · obtain ⟨b, c1, c2⟩ := c
        rw [hnew b x c1 c2] at hx1
        rcases p1.fresh b L (hρn b c1) hx1 with k | ⟨b0, L0, k1, k2, k3, k4⟩
        · exact .inl k
        · exact .inr ⟨ι b0, L0, (E.writes b0 k2 k1).1, E.lt b0 k2, (hρ0 b0 k2) ▸ k3, k4⟩
      · rw [hold x (fun b h1 h2 => c ⟨b, h1, h2⟩), hx] at hx1; cases hx1
  have can : ∀ x, ((s.next ≤ x ∧ x < s1.next) ∨ (W.testBit x = true ∧ x < s.next)) → s1.get x ≠ .hole →
      ∃ b, κ b = some x ∧ ((s0.next ≤ b ∧ b < s01.next) ∨ (b < s0.next ∧ W0.testBit b = true)) ∧ upd C0 s0 s01 W0 b = s01.get b ∧ s01.get b ≠ .hole ∧ WO (fun y z => κ y = some z) (s01.get b) (s1.get x) := fun x hx hne => by
    rcases hx with ⟨c1, c2⟩ | ⟨c1, c2⟩
    · rcases E.new x c1 c2 with k | ⟨b, k1, k2, k3, k4⟩
      · exact absurd k hne
      · exact ⟨b, k3, .inl ⟨k1, k2⟩, if_pos (.inl ⟨k1, k2⟩), k4.1 hne, k4⟩
    · obtain ⟨b, k1, k2, k3, k4⟩ := E.wrote x c2 c1
      exact ⟨b, by rw [E.kold b k1, k2], .inr ⟨k1, k3⟩, if_pos (.inr ⟨k3, k1⟩), k4.1 hne, k4⟩
  have updIn : ∀ x, ((s.next ≤ x ∧ x < s1.next) ∨ (W.testBit x = true ∧ x < s.next)) → upd C s s1 W x = s1.get x := fun x hx => if_pos hx
  have updOut : ∀ x, ¬ ((s.next ≤ x ∧ x < s1.next) ∨ (W.testBit x = true ∧ x < s.next)) → upd C s s1 W x = C x := fun x hx => if_neg hx
  -- what is not touched lies apart from what is
  have apart : ∀ x L b, ¬ ((s.next ≤ x ∧ x < s1.next) ∨ (W.testBit x = true ∧ x < s.next)) → C x ≠ .hole → ρ x = some L → b < s0.next → W0.testBit b = true → ∀ L', ρ0 b = some L' → L'.blk ≠ L.blk := fun x L b hx hc hL hb hW L' hL' he => by
    rw [hρ0 b hb] at hL'
    have hrW : roO (C (ι b)) = false := by rw [hCs b hb (hWb b hW)]; exact (E.writes b hb hW).2.2
    have := hp.rel.2 _ _ L' L (hliveW b hb hW) hc (by rw [hrW, Bool.false_and]) hL' hL he
    exact hx (.inr (this ▸ ⟨(E.writes b hb hW).1, E.lt b hb⟩))
  have mixed : ∀ x x' L L', ((s.next ≤ x ∧ x < s1.next) ∨ (W.testBit x = true ∧ x < s.next)) → ¬ ((s.next ≤ x' ∧ x' < s1.next) ∨ (W.testBit x' = true ∧ x' < s.next)) → s1.get x ≠ .hole → C x' ≠ .hole → ρ1 x = some L → ρ1 x' = some L' → L.blk ≠ L'.blk := fun x x' L L' hx hx' hn hn' e1 e2 he => by
    rw [hout x' (fun c => hx' (.inl c))] at e2
    obtain ⟨b, k1, k2, k3, k4, k5⟩ := can x hx hn
    obtain ⟨L2, o2, q1, q2, q3⟩ := r1.1 b (by rw [k3]; exact k4)
    have e3 := hκ b x L2 k1 q1
    rw [e1] at e3
    cases e3
    obtain ⟨L3, o3, z1, z2, z3⟩ := hp.rel.1 x' hn'
    rw [e2] at z1
    cases z1
    have hlt : L'.blk < w.heap.size := (Array.getElem?_eq_some_iff.1 z2).1
    rcases k2 with ⟨c1, c2⟩ | ⟨c1, c2⟩
    · rcases p1.fresh b L (hρn b c1) q1 with m | ⟨b0, L0, m1, m2, m3, m4⟩
      · omega
      · exact apart x' L' b0 hx' hn' e2 m2 m1 L0 m3 (m4.trans he)
    · rw [hsame b c1] at q1
      exact apart x' L' b hx' hn' e2 c1 c2 L q1 he
  refine hQ ρ1 a1' w1 hpost ⟨fun x hx => ?_, fun x x' L L' h1 h2 hq e1 e2 he => ?_⟩ (ha1.ar hκ har1)
  · by_cases c : (s.next ≤ x ∧ x < s1.next) ∨ (W.testBit x = true ∧ x < s.next)
    · rw [updIn x c] at hx ⊢
      obtain ⟨b, k1, k2, k3, k4, k5⟩ := can x c hx
      obtain ⟨L, o', q1, q2, q3⟩ := r1.1 b (by rw [k3]; exact k4)
      rw [k3] at q3
      exact ⟨L, o', hκ b x L k1 q1, q2, k5.2.2 ρ01 ρ1 hκ L o' q3⟩
    · rw [updOut x c] at hx ⊢
      obtain ⟨L, o', q1, q2, q3⟩ := hp.rel.1 x hx
      have hlt : L.blk < w.heap.size := (Array.getElem?_eq_some_iff.1 q2).1
      refine ⟨L, o', by rw [hout x (fun k => c (.inl k))]; exact q1, ?_, q3.mono hpost.sub⟩
      rw [p1.frame L.blk hlt fun b L' hb hlt' hL' => apart x L b c hx q1 hlt' hb L' hL']; exact q2
  · by_cases c : (s.next ≤ x ∧ x < s1.next) ∨ (W.testBit x = true ∧ x < s.next)
    · rw [updIn x c] at h1
      by_cases c' : (s.next ≤ x' ∧ x' < s1.next) ∨ (W.testBit x' = true ∧ x' < s.next)
      · rw [updIn x' c'] at h2
        obtain ⟨b, k1, k2, k3, k4, k5⟩ := can x c h1
        obtain ⟨b', k1', k2', k3', k4', k5'⟩ := can x' c' h2
        obtain ⟨L2, o2, q1, q2, q3⟩ := r1.1 b (by rw [k3]; exact k4)
        obtain ⟨L2', o2', q1', q2', q3'⟩ := r1.1 b' (by rw [k3']; exact k4')
        have f1 := hκ b x L2 k1 q1
        have f2 := hκ b' x' L2' k1' q1'
        rw [e1] at f1
        rw [e2] at f2
        cases f1
        cases f2
        have hq2 : (roO (upd C0 s0 s01 W0 b) && roO (upd C0 s0 s01 W0 b')) = false := by
          rw [k3, k3']
          rw [updIn x c, updIn x' c'] at hq
          cases hA : roO (s01.get b) && roO (s01.get b') with
          | false => rfl
          | true =>
            rw [Bool.and_eq_true] at hA
            rw [k5.2.1 h1 hA.1, k5'.2.1 h2 hA.2] at hq
            cases hq
        have := r1.2 b b' L L' (by rw [k3]; exact k4) (by rw [k3']; exact k4') hq2 q1 q1' he
        subst this
        rw [k1] at k1'
        cases k1'
        rfl
      · rw [updOut x' c'] at h2
        exact absurd he (mixed x x' L L' c c' h1 h2 e1 e2)
    · rw [updOut x c] at h1
      by_cases c' : (s.next ≤ x' ∧ x' < s1.next) ∨ (W.testBit x' = true ∧ x' < s.next)
      · rw [updIn x' c'] at h2
        exact absurd he.symm (mixed x' x L' L c' c h2 h1 e2 e1)
      · rw [updOut x' c'] at h2
        rw [hout x (fun k => c (.inl k))] at e1
        rw [hout x' (fun k => c' (.inl k))] at e2
        rw [updOut x c, updOut x' c'] at hq
        exact hp.rel.2 x x' L L' h1 h2 hq e1 e2 he
end Mini
end Go.Proofs.YtencngffhbhifaaGreatDoor
end
section
namespace Go.Proofs.YtencngffhbhifaaGreatDoor
set_option linter.all false
open Go.RowKit
namespace Mini
variable {P : Program} {s0 : St}

def ConOkT (P : Program) (s0 : St) (c : Con) : Prop := ∀ ns, ns.length = size c.sh → ground 8 (c.val ns) = true ∧ (c.pre ns → ∀ w, Holds P s0 w → Calls P c.f (back c.sh ns).toArray w fun e w' => e = .returned (c.val ns) ∧ Below w.heap.size w w')
theorem ConOk.t {c : Con} (h : ConOk P c) : ConOkT P s0 c := fun ns hl => ⟨(h ns hl).1, fun hp w _ => (h ns hl).2 hp w⟩
def kOfT (s0 : St) (c : Con) : CallS := fun f xs s q => match decide (f = c.f) with
  | true => match flat c.sh xs.toList with
    | some ns => match tabsOk s0 s0.next && tabsEq s0 s s0.next with
      | true => some (c.val ns, s, 2 ^ s0.next - 1, 0, ⟨q.rest, q.ob ∧ c.pre ns⟩)
      | false => none
    | none => none
  | false => none
theorem conT_sndF {c : Con} {xs : Array Value} {ns : List Int} {s : St} (hn : s0.next = P.globals.size) (h : ConOkT P s0 c) (hf : flat c.sh xs.toList = some ns) (ht : tabsOk s0 s0.next = true ∧ tabsEq s0 s s0.next = true) (hp : c.pre ns) : SndF P c.f xs s (c.val ns) s (2 ^ s0.next - 1) 0 := by
  obtain ⟨h1, h2⟩ := flat_back _ _ _ hf
  obtain ⟨g1, g2⟩ := h ns h2
  have hx : xs = (back c.sh ns).toArray := by apply Array.ext'; simpa using h1
  refine sndF_quietG g1 fun ρ C args' w hG ag hr ha => ?_
  have hg : xs.toList.all (ground 8) = true := by rw [h1]; exact back_ground _ _
  rw [vrs_ground hg ha, hx]
  exact g2 hp w (holds_of hn ht.1 ht.2 hG ag hr)
theorem kOfT_ok {c : Con} (hn : s0.next = P.globals.size) (h : ConOkT P s0 c) : FOkS P (kOfT s0 c) := fun f xs s q v s1 R W q1 he => by
  unfold kOfT at he
  split at he
  · rename_i hf
    have hf := of_decide_eq_true hf
    subst hf
    split at he
    · rename_i ns hns
      split at he
      · rename_i ht
        cases he
        simp only [Bool.and_eq_true] at ht
        exact ⟨fun hb => hb.1, fun hb => conT_sndF hn h hns ht hb.2⟩
      · cases he
    · cases he
  · cases he
def kAllT (s0 : St) : List Con → CallS
  | [] => noXS
  | c :: cs => bothX (kOfT s0 c) (kAllT s0 cs)
def ConsOkT (P : Program) (s0 : St) : List Con → Prop
  | [] => True
  | c :: cs => ConOkT P s0 c ∧ ConsOkT P s0 cs
theorem kAllT_ok (hn : s0.next = P.globals.size) : ∀ (l : List Con), ConsOkT P s0 l → FOkS P (kAllT s0 l)
  | [], _ => noXS_ok
  | c :: cs, h => bothX_ok (kOfT_ok hn h.1) (kAllT_ok hn cs h.2)

def kOfC (s0 : St) (c : Con) (dec : List Int → Bool) : CallF := fun f xs s => match decide (f = c.f) with
  | true => match flat c.sh xs.toList with
    | some ns => match dec ns with
      | true => match tabsOk s0 s0.next && tabsEq s0 s s0.next with
        | true => some (c.val ns, s, 2 ^ s0.next - 1, 0)
        | false => none
      | false => none
    | none => none
  | false => none
theorem kOfC_ok {c : Con} {dec : List Int → Bool} (hn : s0.next = P.globals.size) (h : ConOkT P s0 c) (hd : ∀ ns, dec ns = true → c.pre ns) : FOk P (kOfC s0 c dec) := fun f xs s v s1 R W he => by
  unfold kOfC at he
  split at he
  · rename_i hf
    have hf := of_decide_eq_true hf
    subst hf
    split at he
    · rename_i ns hns
      split at he
      · rename_i hdec
        split at he
        · rename_i ht
          cases he
          simp only [Bool.and_eq_true] at ht
          exact conT_sndF hn h hns ht (hd _ hdec)
        · cases he
      · cases he
    · cases he
  · cases he
def orX (X Y : CallF) : CallF := fun f xs s => match X f xs s with
  | some r => some r
  | none => Y f xs s
theorem orX_ok {X Y : CallF} (hX : FOk P X) (hY : FOk P Y) : FOk P (orX X Y) := fun f xs s v s1 R W he => by
  unfold orX at he
  split at he
  · rename_i hx
    cases he
    exact hX _ _ _ _ _ _ _ hx
  · exact hY _ _ _ _ _ _ _ he
end Mini
end Go.Proofs.YtencngffhbhifaaGreatDoor
end
section
namespace Go.Proofs.YtencngffhbhifaaGreatDoor
set_option linter.all false
namespace Mini
def obY (r : Option OutS) : Prop := match r with
  | some (_, _, _, _, q) => q.ob
  | none => False
def goodY (r : Option OutS) : Bool := match r with
  | some (.bool true, _, _, 0, ⟨[], _⟩) => true
  | _ => false
theorem sndY {P : Program} {X : CallS} {n : Nat} {f : FuncId} {xs : Array Value} {s : St} {q : Orc} {r : Option OutS} (he : r = evFS P X n f xs s q) (hm : P.follows .mixedOrders = true) (hX : FOkS P X) (hg : goodY r = true) (ho : obY r) : ∃ s1 R, SndF P f xs s (.bool true) s1 R 0 := by
  unfold goodY at hg
  split at hg
  · exact ⟨_, _, (evFS_ok hm hX n _ _ _ _ _ _ _ _ _ he.symm).2 ho⟩
  · cases hg
end Mini
end Go.Proofs.YtencngffhbhifaaGreatDoor
end
section
namespace Go.Proofs.YtencngffhbhifaaGreatDoor
set_option linter.all false
open Go.RowKit
namespace Mini
variable {P : Program} {s0 s : St}
def valsEqT : List Value → List Value → Bool
  | [], _ => true
  | .int k a :: l, .int k' b :: l' => decide (k = k') && (a == b) && valsEqT l l'
  | .string a :: l, .string b :: l' => decide (a.data.toList = b.data.toList) && valsEqT l l'
  | _, _ => false
theorem valsEqT_at : ∀ (c c' : List Value), valsEqT c c' = true → ∀ (i : Nat) (v : Value), c[i]? = some v → c'[i]? = some v ∧ ((∃ k a, v = .int k a) ∨ ∃ a, v = .string a)
  | [], c', h, i, v, hi => by simp at hi
  | x :: l, [], h, i, v, hi => by cases x <;> simp [valsEqT] at h
  | x :: l, y :: l', h, i, v, hi => by
    cases x with
    | int k a => cases y with
      | int k' b =>
        simp only [valsEqT, Bool.and_eq_true, decide_eq_true_eq, beq_iff_eq] at h
        obtain ⟨⟨rfl, rfl⟩, h3⟩ := h
        cases i with
        | zero => simp at hi; subst hi; exact ⟨rfl, .inl ⟨k, a, rfl⟩⟩
        | succ i => exact valsEqT_at l l' h3 i v (by simpa using hi)
      | _ => simp [valsEqT] at h
    | string a => cases y with
      | string b =>
        simp only [valsEqT, Bool.and_eq_true, decide_eq_true_eq] at h
        obtain ⟨h2, h3⟩ := h
        have e : a = b := by
          cases a; cases b
          exact congrArg ByteArray.mk (Array.ext' h2)
        subst e
        cases i with
        | zero => simp at hi; subst hi; exact ⟨rfl, .inr ⟨a, rfl⟩⟩
        | succ i => exact valsEqT_at l l' h3 i v (by simpa using hi)
      | _ => simp [valsEqT] at h
    | _ => simp [valsEqT] at h
theorem string_inv {ρ : Ren} {a : ByteArray} {v' : Value} (h : VR ρ (.string a) v') : v' = .string a := by cases h; rfl
def tabEqT : MObj → MObj → Bool
  | .hole, _ => true
  | .cells c _ _ _ _, .cells c' _ _ _ _ => valsEqT c c'
  | _, _ => false
def tabsEqT (s0 s : St) : Nat → Bool
  | 0 => true
  | n + 1 => tabEqT (s0.get n) (s.get n) && tabsEqT s0 s n
theorem tabsEqT_at : ∀ (n : Nat), tabsEqT s0 s n = true → ∀ b, b < n → tabEqT (s0.get b) (s.get b) = true
  | 0, h, b, hb => by omega
  | n + 1, h, b, hb => by
    simp only [tabsEqT, Bool.and_eq_true] at h
    rcases Nat.lt_or_ge b n with c | c
    · exact tabsEqT_at n h.2 b c
    · rw [show b = n from by omega]; exact h.1
theorem holdsT_of {ρ : Ren} {C : Nat → MObj} {w : World} (hn : s0.next = P.globals.size) (hok : tabsOk s0 s0.next = true) (heq : tabsEqT s0 s s0.next = true) (hG : Glob P ρ) (ag : ∀ b, (2 ^ s0.next - 1).testBit b = true → b < s.next → C b = s.get b) (hr : WRel ρ C w) : Holds P s0 w := by
  refine ⟨hn, fun b hb => ?_⟩
  rw [← hn] at hb
  have h1 := tabsOk_at _ hok b hb
  have h2 := tabsEqT_at _ heq b hb
  cases hs : s0.get b with
  | hole => exact .inl rfl
  | cells c e opn sz r =>
    rw [hs] at h1 h2
    cases ho : s.get b with
    | cells c' e' opn' sz' r' =>
      rw [ho] at h2
      simp only [tabEqT] at h2
      cases opn <;> cases r <;> cases sz <;> simp only [tabOk, Bool.and_eq_true, Bool.not_eq_true', Bool.false_eq_true] at h1
      refine .inr ⟨c, e, rfl, by intro hc; rw [hc] at h1; simp at h1, h1.2, fun i v hi => ?_⟩
      obtain ⟨k1, k2⟩ := valsEqT_at c c' h2 i v hi
      have hlt : b < s.next := St.lt_of_live (by rw [ho]; simp)
      have hC : C b = .cells c' e' opn' sz' r' := (ag b (by rw [Nat.testBit_two_pow_sub_one]; simpa using hb) hlt).trans ho
      obtain ⟨L, cs, fr, q1, q2, q3⟩ := row_of hr hC
      obtain ⟨L', g1, g2, g3⟩ := hG b (hn ▸ hb)
      rw [q1] at g1
      cases g1
      obtain ⟨p1, p2, p3, p4, p5, p6, p7, p8⟩ := q3
      obtain ⟨v', z1, z2⟩ := p6 i _ k1
      have e : v' = v := by
        rcases k2 with ⟨k, a, rfl⟩ | ⟨a, rfl⟩
        · exact int_inv z2
        · exact string_inv z2
      subst e
      rw [g2] at q2
      rw [cell_row q2]
      rw [g3, Nat.zero_add] at z1
      exact z1
    | _ => rw [ho] at h2; simp [tabEqT] at h2
  | _ => rw [hs] at h1; simp [tabOk] at h1
def tabT (s0 : St) (f0 : FuncId) : CallS := fun f xs s q =>
  match decide (f = f0) && xs.toList.isEmpty && tabsOk s0 s0.next && tabsEqT s0 s s0.next with
  | true => some (.bool true, s, 2 ^ s0.next - 1, 0, q)
  | false => none
theorem tabT_ok {f0 : FuncId} (hn : s0.next = P.globals.size) (h : ∀ w, Holds P s0 w → Calls P f0 #[] w fun e w' => e = .returned (.bool true) ∧ Below w.heap.size w w') : FOkS P (tabT s0 f0) := fun f xs s q v s1 R W q1 he => by
  unfold tabT at he
  split at he
  · rename_i hc
    cases he
    simp only [Bool.and_eq_true, decide_eq_true_eq] at hc
    obtain ⟨⟨⟨rfl, h2⟩, h3⟩, h4⟩ := hc
    have hx : xs = #[] := by
      apply Array.ext'
      simpa using h2
    subst hx
    refine ⟨id, fun _ => sndF_quietG rfl fun ρ C args' w hG ag hr ha => ?_⟩
    have ea : args' = #[] := Array.eq_empty_of_size_eq_zero (ha.1.symm.trans rfl)
    subst ea
    exact h w (holdsT_of hn h3 h4 hG ag hr)
  · cases he
end Mini
end Go.Proofs.YtencngffhbhifaaGreatDoor
end
section
namespace Go.Proofs.YtencngffhbhifaaGreatDoor
set_option linter.all false
namespace Pl

def cr (n lo hi : Int) : Int := if n < lo ∨ hi < n then 3 else 0
def firstE : List Int → Int
  | [] => 0
  | e :: l => if e = 0 then firstE l else e
def parts (a b m : Int) : Int := firstE [cr a (-m) m, cr b (-m) m]
def clamp (x : Int) : Int := min (max x (-1048576)) 1048576
def sixth (p : Int × Int) : Int × Int := (p.1 - p.2, p.1)
def turnN : Nat → Int × Int → Int × Int
  | 0, p => p
  | n + 1, p => sixth (turnN n p)
def turn (p : Int × Int) (n : Int) : Int × Int := turnN (n % 6).toNat p
def inB (m : Int) (p : Int × Int) : Prop := -m ≤ p.1 ∧ p.1 ≤ m ∧ -m ≤ p.2 ∧ p.2 ≤ m
instance (m : Int) (p : Int × Int) : Decidable (inB m p) := by unfold inB; infer_instance
def lim (p : Int × Int) : (Int × Int) × Int := if inB 1048576 p then (p, 0) else ((0, 0), 4)
def add (p q : Int × Int) : Int × Int := (p.1 + q.1, p.2 + q.2)
def mul (p q : Int × Int) : Int × Int := (p.1 * q.1 - p.2 * q.2, p.1 * q.2 + p.2 * q.1 - p.2 * q.2)
def bar (p : Int × Int) : Int × Int := (p.1 - p.2, -p.2)
def norm (p : Int × Int) : Int := p.1 * p.1 - p.1 * p.2 + p.2 * p.2

theorem rest_emod (n m : Int) (hm : 0 < m) : (n.tmod m + m) % m = n % m := by
  rw [Int.add_emod_right, Int.tmod_eq_emod]
  split
  · simp
  · rw [Int.sub_emod]
    have : (m.natAbs : Int) % m = 0 := by rw [Int.natAbs_of_nonneg (by omega)]; simp
    rw [this]; simp
end Pl
end Go.Proofs.YtencngffhbhifaaGreatDoor
end
section
namespace Go.Proofs.YtencngffhbhifaaGreatDoor
set_option linter.all false

theorem turnN_add (m n : Nat) (p : Int × Int) : Pl.turnN (m + n) p = Pl.turnN m (Pl.turnN n p) := by
  induction m with
  | zero => simp [Pl.turnN]
  | succ m ih => rw [Nat.succ_add]; show Pl.sixth _ = Pl.sixth _; rw [ih]
theorem turnN_two (p : Int × Int) : Pl.turnN 2 p = (-p.2, p.1 - p.2) := by
  show (p.1 - p.2 - p.1, p.1 - p.2) = _
  exact Prod.ext (by simp only; omega) rfl
theorem turnN_three (p : Int × Int) : Pl.turnN 3 p = (-p.1, -p.2) := by
  rw [show (3 : Nat) = 1 + 2 from rfl, turnN_add, turnN_two]
  show (-p.2 - (p.1 - p.2), -p.2) = _
  exact Prod.ext (by simp only; omega) rfl
theorem turnN_four (p : Int × Int) : Pl.turnN 4 p = (p.2 - p.1, -p.1) := by
  rw [show (4 : Nat) = 1 + 3 from rfl, turnN_add, turnN_three]
  show (-p.1 - -p.2, -p.1) = _
  exact Prod.ext (by simp only; omega) rfl
theorem turnN_five (p : Int × Int) : Pl.turnN 5 p = (p.2, p.2 - p.1) := by
  rw [show (5 : Nat) = 1 + 4 from rfl, turnN_add, turnN_four]
  show (p.2 - p.1 - -p.1, p.2 - p.1) = _
  exact Prod.ext (by simp only; omega) rfl
theorem turnN_six (p : Int × Int) : Pl.turnN 6 p = p := by
  rw [show (6 : Nat) = 3 + 3 from rfl, turnN_add, turnN_three, turnN_three]
  exact Prod.ext (by simp only; omega) (by simp only; omega)
theorem turnN_six_mul (q r : Nat) (p : Int × Int) : Pl.turnN (6 * q + r) p = Pl.turnN r p := by
  induction q with
  | zero => simp
  | succ q ih => rw [show 6 * (q + 1) + r = 6 + (6 * q + r) by omega, turnN_add, turnN_six, ih]
theorem turnN_mod (k : Nat) (p : Int × Int) : Pl.turnN k p = Pl.turnN (k % 6) p := by
  have h := turnN_six_mul (k / 6) (k % 6) p
  rwa [show 6 * (k / 6) + k % 6 = k by omega] at h
theorem turn_turn (p : Int × Int) (m n : Int) : Pl.turn (Pl.turn p m) n = Pl.turn p (m + n) := by
  unfold Pl.turn
  rw [← turnN_add, turnN_mod]
  congr 1
  omega
theorem turn_mod (p : Int × Int) (m n : Int) (h : m % 6 = n % 6) : Pl.turn p m = Pl.turn p n := by unfold Pl.turn; rw [h]
theorem turn_0 (p : Int × Int) (n : Int) (h : n % 6 = 0) : Pl.turn p n = p := by unfold Pl.turn; rw [h]; rfl
theorem turn_1 (p : Int × Int) (n : Int) (h : n % 6 = 1) : Pl.turn p n = (p.1 - p.2, p.1) := by unfold Pl.turn; rw [h]; rfl
theorem turn_2 (p : Int × Int) (n : Int) (h : n % 6 = 2) : Pl.turn p n = (-p.2, p.1 - p.2) := by unfold Pl.turn; rw [h]; exact turnN_two p
theorem turn_3 (p : Int × Int) (n : Int) (h : n % 6 = 3) : Pl.turn p n = (-p.1, -p.2) := by unfold Pl.turn; rw [h]; exact turnN_three p
theorem turn_4 (p : Int × Int) (n : Int) (h : n % 6 = 4) : Pl.turn p n = (p.2 - p.1, -p.1) := by unfold Pl.turn; rw [h]; exact turnN_four p
theorem turn_5 (p : Int × Int) (n : Int) (h : n % 6 = 5) : Pl.turn p n = (p.2, p.2 - p.1) := by unfold Pl.turn; rw [h]; exact turnN_five p
theorem turn_cases (p : Int × Int) (n : Int) :
    (n % 6 = 0 ∧ Pl.turn p n = p) ∨ (n % 6 = 1 ∧ Pl.turn p n = (p.1 - p.2, p.1)) ∨ (n % 6 = 2 ∧ Pl.turn p n = (-p.2, p.1 - p.2)) ∨ (n % 6 = 3 ∧ Pl.turn p n = (-p.1, -p.2)) ∨
    (n % 6 = 4 ∧ Pl.turn p n = (p.2 - p.1, -p.1)) ∨ (n % 6 = 5 ∧ Pl.turn p n = (p.2, p.2 - p.1)) := by
  have h : n % 6 = 0 ∨ n % 6 = 1 ∨ n % 6 = 2 ∨ n % 6 = 3 ∨ n % 6 = 4 ∨ n % 6 = 5 := by omega
  rcases h with h | h | h | h | h | h
  · exact .inl ⟨h, turn_0 p n h⟩
  · exact .inr (.inl ⟨h, turn_1 p n h⟩)
  · exact .inr (.inr (.inl ⟨h, turn_2 p n h⟩))
  · exact .inr (.inr (.inr (.inl ⟨h, turn_3 p n h⟩)))
  · exact .inr (.inr (.inr (.inr (.inl ⟨h, turn_4 p n h⟩))))
  · exact .inr (.inr (.inr (.inr (.inr ⟨h, turn_5 p n h⟩))))
theorem turn_in (p : Int × Int) (n m : Int) (h : Pl.inB m p) : Pl.inB (2 * m) (Pl.turn p n) := by
  obtain ⟨h1, h2, h3, h4⟩ := h
  rcases turn_cases p n with ⟨g, e⟩ | ⟨g, e⟩ | ⟨g, e⟩ | ⟨g, e⟩ | ⟨g, e⟩ | ⟨g, e⟩ <;> rw [e] <;> (refine ⟨?_, ?_, ?_, ?_⟩ <;> (try simp only) <;> omega)

theorem sq_nn (x : Int) : 0 ≤ x * x := by
  rcases Int.le_total 0 x with h | h
  · exact Int.mul_nonneg h h
  · have e : x * x = (-x) * (-x) := (Int.neg_mul_neg x x).symm
    rw [e]; exact Int.mul_nonneg (by omega) (by omega)
theorem norm4 (a b : Int) : 4 * Pl.norm (a, b) = (2 * a - b) * (2 * a - b) + 3 * (b * b) := by
  unfold Pl.norm; simp only; grind
theorem norm_nn (a b : Int) : 0 ≤ Pl.norm (a, b) := by
  have h := norm4 a b
  have h1 := sq_nn (2 * a - b)
  have h2 := sq_nn b
  omega
theorem norm_zero (a b : Int) : Pl.norm (a, b) = 0 ↔ a = 0 ∧ b = 0 := by
  constructor
  · intro h0
    have h := norm4 a b
    have h1 := sq_nn (2 * a - b)
    have h2 := sq_nn b
    have hb : b * b = 0 := by omega
    have hb0 : b = 0 := by rcases Int.mul_eq_zero.1 hb with h | h <;> exact h
    subst hb0
    have ha : a * a = 0 := by unfold Pl.norm at h0; simpa using h0
    exact ⟨by rcases Int.mul_eq_zero.1 ha with h | h <;> exact h, rfl⟩
  · rintro ⟨rfl, rfl⟩; rfl
theorem norm_mul (a b : Int × Int) : Pl.norm (Pl.mul a b) = Pl.norm a * Pl.norm b := by
  obtain ⟨a, b⟩ := a
  rename_i q
  obtain ⟨c, d⟩ := q
  unfold Pl.norm Pl.mul; simp only; grind
theorem mul_comm' (a b : Int × Int) : Pl.mul a b = Pl.mul b a := by
  obtain ⟨a, b⟩ := a
  rename_i q
  obtain ⟨c, d⟩ := q
  unfold Pl.mul; simp only [Prod.mk.injEq]; constructor <;> grind
theorem add_comm' (a b : Int × Int) : Pl.add a b = Pl.add b a := by
  unfold Pl.add; simp only [Prod.mk.injEq]; omega
theorem mul_add' (a b c : Int × Int) : Pl.mul (Pl.add a b) c = Pl.add (Pl.mul a c) (Pl.mul b c) := by
  obtain ⟨a1, a2⟩ := a
  obtain ⟨b1, b2⟩ := b
  obtain ⟨c1, c2⟩ := c
  unfold Pl.mul Pl.add; simp only [Prod.mk.injEq]; constructor <;> grind
theorem norm_turn (a : Int × Int) (n : Int) : Pl.norm (Pl.turn a n) = Pl.norm a := by
  obtain ⟨x, y⟩ := a
  rcases turn_cases (x, y) n with ⟨g, e⟩ | ⟨g, e⟩ | ⟨g, e⟩ | ⟨g, e⟩ | ⟨g, e⟩ | ⟨g, e⟩ <;> rw [e] <;> unfold Pl.norm <;> simp only <;> grind
theorem mul_turn2 (a b : Int × Int) (n : Int) : Pl.mul (Pl.turn a n) (Pl.turn b 2) = Pl.turn (Pl.mul a b) (n + 2) := by
  rw [← turn_turn, turn_2 b 2 (by decide), turn_2 _ 2 (by decide)]
  obtain ⟨a1, a2⟩ := a
  obtain ⟨b1, b2⟩ := b
  rcases turn_cases (a1, a2) n with ⟨g, e⟩ | ⟨g, e⟩ | ⟨g, e⟩ | ⟨g, e⟩ | ⟨g, e⟩ | ⟨g, e⟩ <;> rw [e]
  · rw [turn_0 _ _ g]; unfold Pl.mul; simp only [Prod.mk.injEq]; constructor <;> grind
  · rw [turn_1 _ _ g]; unfold Pl.mul; simp only [Prod.mk.injEq]; constructor <;> grind
  · rw [turn_2 _ _ g]; unfold Pl.mul; simp only [Prod.mk.injEq]; constructor <;> grind
  · rw [turn_3 _ _ g]; unfold Pl.mul; simp only [Prod.mk.injEq]; constructor <;> grind
  · rw [turn_4 _ _ g]; unfold Pl.mul; simp only [Prod.mk.injEq]; constructor <;> grind
  · rw [turn_5 _ _ g]; unfold Pl.mul; simp only [Prod.mk.injEq]; constructor <;> grind
theorem turn_add3 (a : Int × Int) (n : Int) : Pl.turn a (n + 3) = (-(Pl.turn a n).1, -(Pl.turn a n).2) := by
  rw [← turn_turn, turn_3 _ 3 (by decide)]
theorem turn_add6 (a : Int × Int) (n : Int) : Pl.turn a (n + 6) = Pl.turn a n := turn_mod _ _ _ (by omega)
theorem mul_one1 (a : Int × Int) : Pl.mul a (1, 1) = Pl.turn a 1 := by
  rw [turn_1 a 1 (by decide)]; unfold Pl.mul; simp

theorem inB_mono {m k : Int} {p : Int × Int} (h : Pl.inB m p) (hk : m ≤ k) : Pl.inB k p := by
  obtain ⟨h1, h2, h3, h4⟩ := h; exact ⟨by omega, by omega, by omega, by omega⟩
theorem inB_add {m k : Int} {p q : Int × Int} (h : Pl.inB m p) (g : Pl.inB k q) : Pl.inB (m + k) (Pl.add p q) := by
  obtain ⟨h1, h2, h3, h4⟩ := h; obtain ⟨g1, g2, g3, g4⟩ := g
  unfold Pl.add; refine ⟨?_, ?_, ?_, ?_⟩ <;> simp only <;> omega
theorem mul_bd2 (m k x y : Int) (hm : 0 ≤ m) (hk : 0 ≤ k) (h1 : -m ≤ x) (h2 : x ≤ m) (h3 : -k ≤ y) (h4 : y ≤ k) : -(m * k) ≤ x * y ∧ x * y ≤ m * k := by
  have e : (x * y).natAbs ≤ (m * k).natAbs := by
    rw [Int.natAbs_mul, Int.natAbs_mul]; exact Nat.mul_le_mul (by omega) (by omega)
  have : 0 ≤ m * k := Int.mul_nonneg hm hk
  omega
theorem inB_mul {m k : Int} {p q : Int × Int} (hm : 0 ≤ m) (hk : 0 ≤ k) (h : Pl.inB m p) (g : Pl.inB k q) : Pl.inB (3 * (m * k)) (Pl.mul p q) := by
  obtain ⟨h1, h2, h3, h4⟩ := h; obtain ⟨g1, g2, g3, g4⟩ := g
  have a := mul_bd2 m k _ _ hm hk h1 h2 g1 g2
  have b := mul_bd2 m k _ _ hm hk h3 h4 g3 g4
  have c := mul_bd2 m k _ _ hm hk h1 h2 g3 g4
  have d := mul_bd2 m k _ _ hm hk h3 h4 g1 g2
  unfold Pl.mul; refine ⟨?_, ?_, ?_, ?_⟩ <;> simp only <;> omega

end Go.Proofs.YtencngffhbhifaaGreatDoor
end
section
namespace Go.Proofs.YtencngffhbhifaaGreatDoor
set_option linter.all false
namespace Mini
inductive Cm where
  | lt | le | gt | ge | eq | ne | eqd
inductive IE where
  | v (i : Nat)
  | k (c : Int)
  | add (a b : IE)
  | sub (a b : IE)
  | mul (a b : IE)
  | neg (a : IE)
  | wr (a : IE)
  | md (a : IE) (m : Nat)
  | dv (a : IE) (m : Nat)
  | ite (o : Cm) (x y a b : IE)
inductive BE where
  | t
  | f
  | cm (o : Cm) (x y : IE)
  | not (b : BE)
  | and (a b : BE)
  | or (a b : BE)
  | beq (a b : BE)
def Cm.ev : Cm → Int → Int → Bool
  | .lt, x, y => decide (x < y)
  | .le, x, y => decide (x ≤ y)
  | .gt, x, y => decide (x > y)
  | .ge, x, y => decide (x ≥ y)
  | .eq, x, y => x == y
  | .ne, x, y => x != y
  | .eqd, x, y => decide (x = y)
def Cm.ite {α : Type} : Cm → Int → Int → α → α → α
  | .lt, x, y, a, b => if x < y then a else b
  | .le, x, y, a, b => if x ≤ y then a else b
  | .gt, x, y, a, b => if x > y then a else b
  | .ge, x, y, a, b => if x ≥ y then a else b
  | .eq, x, y, a, b => if x = y then a else b
  | .ne, x, y, a, b => if x = y then b else a
  | .eqd, x, y, a, b => if x = y then a else b
def IE.ev (ρ : List Int) : IE → Int
  | .v i => ρ.getD i 0
  | .k c => c
  | .add a b => a.ev ρ + b.ev ρ
  | .sub a b => a.ev ρ - b.ev ρ
  | .mul a b => a.ev ρ * b.ev ρ
  | .neg a => -(a.ev ρ)
  | .wr a => IntKind.i64.wrap (a.ev ρ)
  | .md a m => (a.ev ρ).tmod (m : Int)
  | .dv a m => (a.ev ρ).tdiv (m : Int)
  | .ite o x y a b => o.ite (x.ev ρ) (y.ev ρ) (a.ev ρ) (b.ev ρ)
def BE.ev (ρ : List Int) : BE → Bool
  | .t => true
  | .f => false
  | .cm o x y => o.ev (x.ev ρ) (y.ev ρ)
  | .not b => Bool.not (b.ev ρ)
  | .and a b => Bool.and (a.ev ρ) (b.ev ρ)
  | .or a b => Bool.or (a.ev ρ) (b.ev ρ)
  | .beq a b => a.ev ρ == b.ev ρ
theorem Cm.ite_eq {α : Type} (o : Cm) (x y : Int) (a b : α) : o.ite x y a b = match o.ev x y with
    | true => a
    | false => b := by
  cases o <;> simp only [Cm.ite, Cm.ev]
  · by_cases h : x < y <;> simp [h]
  · by_cases h : x ≤ y <;> simp [h]
  · by_cases h : x > y <;> simp [h]
  · by_cases h : x ≥ y <;> simp [h]
  · by_cases h : x = y
    · subst h; simp
    · rw [if_neg h, show (x == y) = false from beq_eq_false_iff_ne.2 h]
  · by_cases h : x = y
    · subst h; simp
    · rw [if_neg h, show (x != y) = true from bne_iff_ne.2 h]
  · by_cases h : x = y <;> simp [h]
abbrev Rg := Int × Int
def Rg.has (r : Rg) (x : Int) : Prop := r.1 ≤ x ∧ x ≤ r.2
def mn (a b : Int) : Int := match Int.decLt a b with
  | .isTrue _ => a
  | .isFalse _ => b
def mx (a b : Int) : Int := match Int.decLt a b with
  | .isTrue _ => b
  | .isFalse _ => a
theorem mn_le (a b : Int) : mn a b ≤ a ∧ mn a b ≤ b := by unfold mn; split <;> omega
theorem le_mx (a b : Int) : a ≤ mx a b ∧ b ≤ mx a b := by unfold mx; split <;> omega
def leB (a b : Int) : Bool := decide (a ≤ b)
def ltB (a b : Int) : Bool := decide (a < b)
def Cm.tri : Cm → Rg → Rg → Option Bool
  | .lt, r, q => match ltB r.2 q.1 with
    | true => some true
    | false => match leB q.2 r.1 with
      | true => some false
      | false => none
  | .le, r, q => match leB r.2 q.1 with
    | true => some true
    | false => match ltB q.2 r.1 with
      | true => some false
      | false => none
  | .gt, r, q => match ltB q.2 r.1 with
    | true => some true
    | false => match leB r.2 q.1 with
      | true => some false
      | false => none
  | .ge, r, q => match leB q.2 r.1 with
    | true => some true
    | false => match ltB r.2 q.1 with
      | true => some false
      | false => none
  | .eq, r, q => eqT r q
  | .eqd, r, q => eqT r q
  | .ne, r, q => (eqT r q).map Bool.not
where eqT (r q : Rg) : Option Bool := match ltB r.2 q.1 with
    | true => some false
    | false => match ltB q.2 r.1 with
      | true => some false
      | false => match decide (r.1 = r.2 ∧ q.1 = q.2 ∧ r.1 = q.1) with
        | true => some true
        | false => none
theorem eqT_ok {r q : Rg} {x y : Int} (hx : r.has x) (hy : q.has y) {b : Bool} (h : Cm.tri.eqT r q = some b) : decide (x = y) = b := by
  obtain ⟨h1, h2⟩ := hx
  obtain ⟨g1, g2⟩ := hy
  unfold Cm.tri.eqT at h
  split at h
  · rename_i e; cases h; simp [ltB] at e; exact decide_eq_false (by omega)
  · split at h
    · rename_i e; cases h; simp [ltB] at e; exact decide_eq_false (by omega)
    · split at h
      · rename_i e; cases h; simp at e; exact decide_eq_true (by omega)
      · cases h
theorem Cm.tri_ok {r q : Rg} {x y : Int} (hx : r.has x) (hy : q.has y) : ∀ {o : Cm} {b : Bool}, o.tri r q = some b → o.ev x y = b := by
  intro o b h
  have hx' := hx
  have hy' := hy
  obtain ⟨h1, h2⟩ := hx
  obtain ⟨g1, g2⟩ := hy
  cases o <;> simp only [Cm.tri] at h <;> simp only [Cm.ev]
  case eq => rw [show (x == y) = decide (x = y) from rfl]; exact eqT_ok hx' hy' h
  case eqd => exact eqT_ok hx' hy' h
  case ne =>
    simp only [Option.map_eq_some_iff] at h
    obtain ⟨c, h, rfl⟩ := h
    rw [show (x != y) = Bool.not (decide (x = y)) from rfl, eqT_ok hx' hy' h]
  all_goals
    split at h
    · rename_i e; cases h; simp [leB, ltB] at e; exact decide_eq_true (by omega)
    · split at h
      · rename_i e; cases h; simp [leB, ltB] at e; exact decide_eq_false (by omega)
      · cases h
def inside (r : Rg) : Bool := Bool.and (leB (-9223372036854775808) r.1) (leB r.2 9223372036854775807)
def IE.rng (β : List Rg) : IE → Rg
  | .v i => β.getD i (0, 0)
  | .k c => (c, c)
  | .add a b => match a.rng β, b.rng β with
    | (l, h), (l', h') => (l + l', h + h')
  | .sub a b => match a.rng β, b.rng β with
    | (l, h), (l', h') => (l - h', h - l')
  | .mul a b => match a.rng β, b.rng β with
    | (l, h), (l', h') => (mn (mn (l * l') (l * h')) (mn (h * l') (h * h')), mx (mx (l * l') (l * h')) (mx (h * l') (h * h')))
  | .neg a => match a.rng β with
    | (l, h) => (-h, -l)
  | .wr a => match a.rng β with
    | r => match inside r with
      | true => r
      | false => (-9223372036854775808, 9223372036854775807)
  | .md a m => match a.rng β with
    | (l, h) => match Bool.and (ltB (-(m : Int)) l) (ltB h (m : Int)) with
      | true => (l, h)
      | false => (match leB 0 l with
        | true => 0
        | false => -((m : Int) - 1), match leB h 0 with
        | true => 0
        | false => (m : Int) - 1)
  | .dv a m => match a.rng β with
    | (l, h) => (l.tdiv m, h.tdiv m)
  | .ite o x y a b => match o.tri (x.rng β) (y.rng β) with
    | some true => a.rng β
    | some false => b.rng β
    | none => match a.rng β, b.rng β with
      | (l, h), (l', h') => (mn l l', mx h h')
def IE.good : IE → Bool
  | .v _ | .k _ => true
  | .add a b | .sub a b | .mul a b => Bool.and a.good b.good
  | .neg a | .wr a => a.good
  | .md a m | .dv a m => Bool.and (Nat.blt 0 m) a.good
  | .ite _ x y a b => Bool.and (Bool.and x.good y.good) (Bool.and a.good b.good)
def InR : List Rg → List Int → Prop
  | r :: β, x :: ρ => r.has x ∧ InR β ρ
  | [], [] => True
  | _, _ => False
theorem InR.at : ∀ {β : List Rg} {ρ : List Int}, InR β ρ → ∀ i, (β.getD i (0, 0)).has (ρ.getD i 0)
  | [], [], _, i => by simp [Rg.has]
  | r :: β, x :: ρ, h, 0 => h.1
  | r :: β, x :: ρ, h, i + 1 => by
    have := h.2.at i
    simpa using this
theorem mul_lo {x y l h : Int} (g : l ≤ y ∧ y ≤ h) : mn (x * l) (x * h) ≤ x * y ∧ x * y ≤ mx (x * l) (x * h) := by
  have h1 := mn_le (x * l) (x * h)
  have h2 := le_mx (x * l) (x * h)
  by_cases c : 0 ≤ x
  · have a1 := Int.mul_le_mul_of_nonneg_left g.1 c
    have a2 := Int.mul_le_mul_of_nonneg_left g.2 c
    omega
  · have a1 := Int.mul_le_mul_of_nonpos_left (by omega : x ≤ 0) g.1
    have a2 := Int.mul_le_mul_of_nonpos_left (by omega : x ≤ 0) g.2
    omega
theorem tdiv_mono {x y m : Int} (hm : 0 < m) (h : x ≤ y) : x.tdiv m ≤ y.tdiv m := by
  rcases Int.le_total 0 x with hx | hx
  · rw [Int.tdiv_eq_ediv_of_nonneg hx, Int.tdiv_eq_ediv_of_nonneg (by omega)]
    exact Int.ediv_le_ediv hm h
  · rcases Int.le_total 0 y with hy | hy
    · have a1 : 0 ≤ (-x).tdiv m := Int.tdiv_nonneg (by omega) (by omega)
      have e1 : x.tdiv m = -((-x).tdiv m) := by rw [Int.neg_tdiv, Int.neg_neg]
      have a2 : 0 ≤ y.tdiv m := Int.tdiv_nonneg hy (by omega)
      omega
    · have e1 : x.tdiv m = -((-x).tdiv m) := by rw [Int.neg_tdiv, Int.neg_neg]
      have e2 : y.tdiv m = -((-y).tdiv m) := by rw [Int.neg_tdiv, Int.neg_neg]
      rw [e1, e2, Int.tdiv_eq_ediv_of_nonneg (by omega), Int.tdiv_eq_ediv_of_nonneg (by omega)]
      have := Int.ediv_le_ediv hm (show -y ≤ -x by omega)
      omega
theorem IE.rng_ok {β : List Rg} {ρ : List Int} (hr : InR β ρ) : ∀ {e : IE}, e.good = true → (e.rng β).has (e.ev ρ) := by
  intro e
  induction e with
  | v i => intro _; exact hr.at i
  | k c => intro _; exact ⟨Int.le_refl _, Int.le_refl _⟩
  | add a b ha hb =>
    intro hg
    simp only [IE.good, Bool.and_eq_true] at hg
    obtain ⟨h1, h2⟩ := ha hg.1
    obtain ⟨h3, h4⟩ := hb hg.2
    simp only [IE.rng, IE.ev, Rg.has]
    omega
  | sub a b ha hb =>
    intro hg
    simp only [IE.good, Bool.and_eq_true] at hg
    obtain ⟨h1, h2⟩ := ha hg.1
    obtain ⟨h3, h4⟩ := hb hg.2
    simp only [IE.rng, IE.ev, Rg.has]
    omega
  | mul a b ha hb =>
    intro hg
    simp only [IE.good, Bool.and_eq_true] at hg
    obtain ⟨h1, h2⟩ := ha hg.1
    obtain ⟨h3, h4⟩ := hb hg.2
    simp only [IE.rng, IE.ev, Rg.has]
    generalize a.ev ρ = x at *
    generalize b.ev ρ = y at *
    generalize (a.rng β).1 = l at *
    generalize (a.rng β).2 = h at *
    generalize (b.rng β).1 = l' at *
    generalize (b.rng β).2 = h' at *
    have a1 := mul_lo (x := x) (y := y) ⟨h3, h4⟩
    have a2 := mul_lo (x := l') (y := x) ⟨h1, h2⟩
    have a3 := mul_lo (x := h') (y := x) ⟨h1, h2⟩
    rw [Int.mul_comm x l', Int.mul_comm x h'] at a1
    rw [Int.mul_comm l l', Int.mul_comm l h', Int.mul_comm h l', Int.mul_comm h h']
    have b1 := mn_le (l' * l) (h' * l)
    have b2 := mn_le (l' * h) (h' * h)
    have b3 := mn_le (mn (l' * l) (h' * l)) (mn (l' * h) (h' * h))
    have c1 := le_mx (l' * l) (h' * l)
    have c2 := le_mx (l' * h) (h' * h)
    have c3 := le_mx (mx (l' * l) (h' * l)) (mx (l' * h) (h' * h))
    have d1 : mn (l' * l) (l' * h) = l' * l ∨ mn (l' * l) (l' * h) = l' * h := by unfold mn; split <;> simp
    have d2 : mn (h' * l) (h' * h) = h' * l ∨ mn (h' * l) (h' * h) = h' * h := by unfold mn; split <;> simp
    have d3 : mx (l' * l) (l' * h) = l' * l ∨ mx (l' * l) (l' * h) = l' * h := by unfold mx; split <;> simp
    have d4 : mx (h' * l) (h' * h) = h' * l ∨ mx (h' * l) (h' * h) = h' * h := by unfold mx; split <;> simp
    have d5 : mn (l' * x) (h' * x) = l' * x ∨ mn (l' * x) (h' * x) = h' * x := by unfold mn; split <;> simp
    have d6 : mx (l' * x) (h' * x) = l' * x ∨ mx (l' * x) (h' * x) = h' * x := by unfold mx; split <;> simp
    constructor
    · rcases d5 with e | e <;> rw [e] at a1
      · rcases d1 with e1 | e1 <;> rw [e1] at a2 <;> omega
      · rcases d2 with e1 | e1 <;> rw [e1] at a3 <;> omega
    · rcases d6 with e | e <;> rw [e] at a1
      · rcases d3 with e1 | e1 <;> rw [e1] at a2 <;> omega
      · rcases d4 with e1 | e1 <;> rw [e1] at a3 <;> omega
  | neg a ha =>
    intro hg
    obtain ⟨h1, h2⟩ := ha hg
    simp only [IE.rng, IE.ev, Rg.has]
    omega
  | wr a ha =>
    intro hg
    obtain ⟨h1, h2⟩ := ha hg
    simp only [IE.rng, IE.ev]
    split
    · rename_i hi
      simp [inside, leB] at hi
      rw [IntWalk.i64_in _ ⟨by omega, by omega⟩]
      exact ⟨h1, h2⟩
    · simp only [Rg.has]
      rw [IntKind.wrap_i64]
      omega
  | md a m ha =>
    intro hg
    simp only [IE.good, Bool.and_eq_true] at hg
    have hm : 0 < m := by have := hg.1; simpa [Nat.blt_eq] using this
    obtain ⟨h1, h2⟩ := ha hg.2
    simp only [IE.rng, IE.ev]
    generalize a.ev ρ = x at *
    have m1 := Int.tmod_lt_of_pos x (b := (m : Int)) (by omega)
    have m2 := Int.lt_tmod_of_pos x (b := (m : Int)) (by omega)
    split
    · rename_i hi
      simp [ltB] at hi
      have : x.tmod (m : Int) = x := by
        rcases Int.le_total 0 x with hx | hx
        · exact Int.tmod_eq_of_lt hx (by omega)
        · have e : x.tmod (m : Int) = -((-x).tmod (m : Int)) := by rw [Int.neg_tmod, Int.neg_neg]
          rw [e, Int.tmod_eq_of_lt (by omega) (by omega)]
          omega
      rw [this]
      exact ⟨h1, h2⟩
    · simp only [Rg.has]
      constructor
      · split
        · rename_i hl
          simp [leB] at hl
          exact Int.tmod_nonneg _ (by omega)
        · omega
      · split
        · rename_i hl
          simp [leB] at hl
          have e : x.tmod (m : Int) = -((-x).tmod (m : Int)) := by rw [Int.neg_tmod, Int.neg_neg]
          have := Int.tmod_nonneg (a := -x) (m : Int) (by omega)
          omega
        · omega
  | dv a m ha =>
    intro hg
    simp only [IE.good, Bool.and_eq_true] at hg
    have hm : 0 < m := by have := hg.1; simpa [Nat.blt_eq] using this
    obtain ⟨h1, h2⟩ := ha hg.2
    simp only [IE.rng, IE.ev, Rg.has]
    exact ⟨tdiv_mono (by omega) h1, tdiv_mono (by omega) h2⟩
  | ite o x y a b hx hy ha hb =>
    intro hg
    simp only [IE.good, Bool.and_eq_true] at hg
    obtain ⟨⟨g1, g2⟩, g3, g4⟩ := hg
    simp only [IE.rng, IE.ev, Cm.ite_eq]
    have k1 := hx g1
    have k2 := hy g2
    have k3 := ha g3
    have k4 := hb g4
    split
    · rename_i ht
      rw [Cm.tri_ok k1 k2 ht]; exact k3
    · rename_i ht
      rw [Cm.tri_ok k1 k2 ht]; exact k4
    · obtain ⟨a1, a2⟩ := k3
      obtain ⟨a3, a4⟩ := k4
      have b1 := mn_le (a.rng β).1 (b.rng β).1
      have b2 := le_mx (a.rng β).2 (b.rng β).2
      simp only [Rg.has]
      cases o.ev (x.ev ρ) (y.ev ρ) <;> simp only <;> omega
def BE.good : BE → Bool
  | .t | .f => true
  | .cm _ x y => Bool.and x.good y.good
  | .not b => b.good
  | .and a b | .or a b | .beq a b => Bool.and a.good b.good
def BE.tri (β : List Rg) : BE → Option Bool
  | .t => some true
  | .f => some false
  | .cm o x y => o.tri (x.rng β) (y.rng β)
  | .not b => match b.tri β with
    | some c => some (Bool.not c)
    | none => none
  | .and a b => match a.tri β with
    | some false => some false
    | some true => b.tri β
    | none => match b.tri β with
      | some false => some false
      | _ => none
  | .or a b => match a.tri β with
    | some true => some true
    | some false => b.tri β
    | none => match b.tri β with
      | some true => some true
      | _ => none
  | .beq a b => match a.tri β, b.tri β with
    | some x, some y => some (x == y)
    | _, _ => none
theorem BE.tri_ok {β : List Rg} {ρ : List Int} (hr : InR β ρ) : ∀ {e : BE} {c : Bool}, e.good = true → e.tri β = some c → e.ev ρ = c := by
  intro e
  induction e with
  | t => intro c _ h; cases h; rfl
  | f => intro c _ h; cases h; rfl
  | cm o x y =>
    intro c hg h
    simp only [BE.good, Bool.and_eq_true] at hg
    exact Cm.tri_ok (IE.rng_ok hr hg.1) (IE.rng_ok hr hg.2) h
  | not b ih =>
    intro c hg h
    simp only [BE.tri] at h
    split at h
    · rename_i d hd
      cases h
      simp only [BE.ev]
      rw [ih hg hd]
    · cases h
  | and a b ia ib =>
    intro c hg h
    simp only [BE.good, Bool.and_eq_true] at hg
    simp only [BE.tri] at h
    simp only [BE.ev]
    split at h
    · rename_i e; cases h; rw [ia hg.1 e]; rfl
    · rename_i e; rw [ia hg.1 e, ib hg.2 h]; rfl
    · split at h
      · rename_i e; cases h; rw [ib hg.2 e]; cases a.ev ρ <;> rfl
      · cases h
  | or a b ia ib =>
    intro c hg h
    simp only [BE.good, Bool.and_eq_true] at hg
    simp only [BE.tri] at h
    simp only [BE.ev]
    split at h
    · rename_i e; cases h; rw [ia hg.1 e]; rfl
    · rename_i e; rw [ia hg.1 e, ib hg.2 h]; rfl
    · split at h
      · rename_i e; cases h; rw [ib hg.2 e]; cases a.ev ρ <;> rfl
      · cases h
  | beq a b ia ib =>
    intro c hg h
    simp only [BE.good, Bool.and_eq_true] at hg
    simp only [BE.tri] at h
    simp only [BE.ev]
    split at h
    · rename_i e1 e2; cases h; rw [ia hg.1 e1, ib hg.2 e2]
    · cases h
def IE.str (β : List Rg) : IE → IE
  | .v i => .v i
  | .k c => .k c
  | .add a b => .add (a.str β) (b.str β)
  | .sub a b => .sub (a.str β) (b.str β)
  | .mul a b => .mul (a.str β) (b.str β)
  | .neg a => .neg (a.str β)
  | .wr a => match inside (a.rng β) with
    | true => a.str β
    | false => .wr (a.str β)
  | .md a m => .md (a.str β) m
  | .dv a m => .dv (a.str β) m
  | .ite o x y a b => match o.tri (x.rng β) (y.rng β) with
    | some true => a.str β
    | some false => b.str β
    | none => .ite o (x.str β) (y.str β) (a.str β) (b.str β)
theorem IE.str_ok {β : List Rg} {ρ : List Int} (hr : InR β ρ) : ∀ {e : IE}, e.good = true → (e.str β).ev ρ = e.ev ρ := by
  intro e
  induction e with
  | v i => intro _; rfl
  | k c => intro _; rfl
  | add a b ha hb => intro hg; simp only [IE.good, Bool.and_eq_true] at hg; simp only [IE.str, IE.ev]; rw [ha hg.1, hb hg.2]
  | sub a b ha hb => intro hg; simp only [IE.good, Bool.and_eq_true] at hg; simp only [IE.str, IE.ev]; rw [ha hg.1, hb hg.2]
  | mul a b ha hb => intro hg; simp only [IE.good, Bool.and_eq_true] at hg; simp only [IE.str, IE.ev]; rw [ha hg.1, hb hg.2]
  | neg a ha => intro hg; simp only [IE.str, IE.ev]; rw [ha hg]
  | wr a ha =>
    intro hg
    simp only [IE.str]
    split
    · rename_i hi
      obtain ⟨h1, h2⟩ := IE.rng_ok hr (e := a) hg
      simp [inside, leB] at hi
      rw [ha hg]
      simp only [IE.ev]
      rw [IntWalk.i64_in _ ⟨by omega, by omega⟩]
    · simp only [IE.ev]; rw [ha hg]
  | md a m ha => intro hg; simp only [IE.good, Bool.and_eq_true] at hg; simp only [IE.str, IE.ev]; rw [ha hg.2]
  | dv a m ha => intro hg; simp only [IE.good, Bool.and_eq_true] at hg; simp only [IE.str, IE.ev]; rw [ha hg.2]
  | ite o x y a b hx hy ha hb =>
    intro hg
    simp only [IE.good, Bool.and_eq_true] at hg
    obtain ⟨⟨g1, g2⟩, g3, g4⟩ := hg
    simp only [IE.str]
    split
    · rename_i ht
      simp only [IE.ev, Cm.ite_eq]
      rw [Cm.tri_ok (IE.rng_ok hr g1) (IE.rng_ok hr g2) ht]; exact ha g3
    · rename_i ht
      simp only [IE.ev, Cm.ite_eq]
      rw [Cm.tri_ok (IE.rng_ok hr g1) (IE.rng_ok hr g2) ht]; exact hb g4
    · simp only [IE.ev]
      rw [hx g1, hy g2, ha g3, hb g4]
theorem IE.str_to {β : List Rg} {ρ : List Int} (hr : InR β ρ) (e e' : IE) (hg : e.good = true) (he : e.str β = e') : e.ev ρ = e'.ev ρ := he ▸ (IE.str_ok hr hg).symm
theorem IE.is_k {β : List Rg} {ρ : List Int} (hr : InR β ρ) (e : IE) (c : Int) (hg : e.good = true) (he : e.rng β = (c, c)) : e.ev ρ = c := by
  obtain ⟨h1, h2⟩ := IE.rng_ok hr hg
  rw [he] at h1 h2
  simp only at h1 h2
  omega
def BE.str (β : List Rg) : BE → BE
  | .t => .t
  | .f => .f
  | .cm o x y => match o.tri (x.rng β) (y.rng β) with
    | some true => .t
    | some false => .f
    | none => .cm o (x.str β) (y.str β)
  | .not b => .not (b.str β)
  | .and a b => .and (a.str β) (b.str β)
  | .or a b => .or (a.str β) (b.str β)
  | .beq a b => .beq (a.str β) (b.str β)
theorem BE.str_ok {β : List Rg} {ρ : List Int} (hr : InR β ρ) : ∀ {e : BE}, e.good = true → (e.str β).ev ρ = e.ev ρ := by
  intro e
  induction e with
  | t => intro _; rfl
  | f => intro _; rfl
  | cm o x y =>
    intro hg
    simp only [BE.good, Bool.and_eq_true] at hg
    simp only [BE.str]
    split
    · rename_i ht
      simp only [BE.ev]; exact (Cm.tri_ok (IE.rng_ok hr hg.1) (IE.rng_ok hr hg.2) ht).symm
    · rename_i ht
      simp only [BE.ev]; exact (Cm.tri_ok (IE.rng_ok hr hg.1) (IE.rng_ok hr hg.2) ht).symm
    · simp only [BE.ev]; rw [IE.str_ok hr hg.1, IE.str_ok hr hg.2]
  | not b ih => intro hg; simp only [BE.str, BE.ev]; rw [ih hg]
  | and a b ia ib => intro hg; simp only [BE.good, Bool.and_eq_true] at hg; simp only [BE.str, BE.ev]; rw [ia hg.1, ib hg.2]
  | or a b ia ib => intro hg; simp only [BE.good, Bool.and_eq_true] at hg; simp only [BE.str, BE.ev]; rw [ia hg.1, ib hg.2]
  | beq a b ia ib => intro hg; simp only [BE.good, Bool.and_eq_true] at hg; simp only [BE.str, BE.ev]; rw [ia hg.1, ib hg.2]
def allN (f : Int → Bool) : Nat → Int → Bool
  | 0, _ => true
  | n + 1, l => match f l with
    | true => allN f n (l + 1)
    | false => false
theorem allN_ok {f : Int → Bool} : ∀ {n : Nat} {l : Int}, allN f n l = true → ∀ x, l ≤ x → x < l + n → f x = true
  | 0, l, _, x, h1, h2 => by omega
  | n + 1, l, h, x, h1, h2 => by
    simp only [allN] at h
    split at h
    · rename_i e
      rcases Int.lt_or_le l x with c | c
      · exact allN_ok h x (by omega) (by omega)
      · rw [show x = l by omega]; exact e
    · cases h
def allR : List Rg → (List Int → Bool) → Bool
  | [], f => f []
  | r :: β, f => allN (fun x => allR β fun ρ => f (x :: ρ)) (r.2 - r.1 + 1).toNat r.1
theorem allR_ok : ∀ {β : List Rg} {f : List Int → Bool}, allR β f = true → ∀ {ρ : List Int}, InR β ρ → f ρ = true
  | [], f, h, [], _ => h
  | [], f, h, _ :: _, g => g.elim
  | r :: β, f, h, [], g => g.elim
  | r :: β, f, h, x :: ρ, g => by
    obtain ⟨⟨g1, g2⟩, g3⟩ := g
    have := allN_ok h x g1 (by omega)
    exact allR_ok this g3
theorem BE.all_ok {β : List Rg} {ρ : List Int} (hr : InR β ρ) (e : BE) (h : allR β e.ev = true) : e.ev ρ = true := allR_ok (f := fun ρ => e.ev ρ) h hr
theorem tmR (x : Int) (m : Nat) (h : Nat.blt 0 m = true) : Rg.has (-((m : Int) - 1), (m : Int) - 1) (x.tmod (m : Int)) := by
  have hm : 0 < m := by simpa [Nat.blt_eq] using h
  have m1 := Int.tmod_lt_of_pos x (b := (m : Int)) (by omega)
  have m2 := Int.lt_tmod_of_pos x (b := (m : Int)) (by omega)
  exact ⟨by simp only; omega, by simp only; omega⟩
def zr (c : Int) : Bool := decide (c = 0)
def mulS : IE → IE → IE
  | .k c, .k d => .k (c * d)
  | .k c, b => match zr c with
    | true => .k 0
    | false => .mul (.k c) b
  | a, .k d => match zr d with
    | true => .k 0
    | false => .mul a (.k d)
  | a, b => .mul a b
def addS : IE → IE → IE
  | .k c, .k d => .k (c + d)
  | .k c, b => match zr c with
    | true => b
    | false => .add (.k c) b
  | a, .k d => match zr d with
    | true => a
    | false => .add a (.k d)
  | a, b => .add a b
def subS : IE → IE → IE
  | .k c, .k d => .k (c - d)
  | a, .k d => match zr d with
    | true => a
    | false => .sub a (.k d)
  | a, b => .sub a b
theorem zr_iff {c : Int} (h : zr c = true) : c = 0 := of_decide_eq_true h
theorem mulS_ok (ρ : List Int) (a b : IE) : (mulS a b).ev ρ = a.ev ρ * b.ev ρ := by
  unfold mulS
  split
  · rfl
  · split
    · rename_i h; simp only [IE.ev]; rw [zr_iff h, Int.zero_mul]
    · rfl
  · split
    · rename_i h; simp only [IE.ev]; rw [zr_iff h, Int.mul_zero]
    · rfl
  · rfl
theorem addS_ok (ρ : List Int) (a b : IE) : (addS a b).ev ρ = a.ev ρ + b.ev ρ := by
  unfold addS
  split
  · rfl
  · split
    · rename_i h; simp only [IE.ev]; rw [zr_iff h, Int.zero_add]
    · rfl
  · split
    · rename_i h; simp only [IE.ev]; rw [zr_iff h, Int.add_zero]
    · rfl
  · rfl
theorem subS_ok (ρ : List Int) (a b : IE) : (subS a b).ev ρ = a.ev ρ - b.ev ρ := by
  unfold subS
  split
  · rfl
  · split
    · rename_i h; simp only [IE.ev]; rw [zr_iff h, Int.sub_zero]
    · rfl
  · rfl
def IE.smp (β : List Rg) : IE → IE
  | .v i => match β.getD i (0, 0) with
    | (l, h) => match decide (l = h) with
      | true => .k l
      | false => .v i
  | .k c => .k c
  | .add a b => addS (a.smp β) (b.smp β)
  | .sub a b => subS (a.smp β) (b.smp β)
  | .mul a b => mulS (a.smp β) (b.smp β)
  | .neg a => .neg (a.smp β)
  | .wr a => match inside (a.rng β) with
    | true => a.smp β
    | false => .wr (a.smp β)
  | .md a m => .md (a.smp β) m
  | .dv a m => .dv (a.smp β) m
  | .ite o x y a b => match o.tri (x.rng β) (y.rng β) with
    | some true => a.smp β
    | some false => b.smp β
    | none => .ite o (x.smp β) (y.smp β) (a.smp β) (b.smp β)
theorem IE.smp_ok {β : List Rg} {ρ : List Int} (hr : InR β ρ) : ∀ {e : IE}, e.good = true → (e.smp β).ev ρ = e.ev ρ := by
  intro e
  induction e with
  | v i =>
    intro _
    have h := hr.at i
    simp only [IE.smp]
    split
    · rename_i hlh
      have hlh := of_decide_eq_true hlh
      obtain ⟨h1, h2⟩ := h
      simp only [IE.ev]
      omega
    · rfl
  | k c => intro _; rfl
  | add a b ha hb => intro hg; simp only [IE.good, Bool.and_eq_true] at hg; simp only [IE.smp]; rw [addS_ok, ha hg.1, hb hg.2]; rfl
  | sub a b ha hb => intro hg; simp only [IE.good, Bool.and_eq_true] at hg; simp only [IE.smp]; rw [subS_ok, ha hg.1, hb hg.2]; rfl
  | mul a b ha hb => intro hg; simp only [IE.good, Bool.and_eq_true] at hg; simp only [IE.smp]; rw [mulS_ok, ha hg.1, hb hg.2]; rfl
  | neg a ha => intro hg; simp only [IE.smp, IE.ev]; rw [ha hg]
  | wr a ha =>
    intro hg
    simp only [IE.smp]
    split
    · rename_i hi
      obtain ⟨h1, h2⟩ := IE.rng_ok hr (e := a) hg
      simp [inside, leB] at hi
      rw [ha hg]
      simp only [IE.ev]
      rw [IntWalk.i64_in _ ⟨by omega, by omega⟩]
    · simp only [IE.ev]; rw [ha hg]
  | md a m ha => intro hg; simp only [IE.good, Bool.and_eq_true] at hg; simp only [IE.smp, IE.ev]; rw [ha hg.2]
  | dv a m ha => intro hg; simp only [IE.good, Bool.and_eq_true] at hg; simp only [IE.smp, IE.ev]; rw [ha hg.2]
  | ite o x y a b hx hy ha hb =>
    intro hg
    simp only [IE.good, Bool.and_eq_true] at hg
    obtain ⟨⟨g1, g2⟩, g3, g4⟩ := hg
    simp only [IE.smp]
    split
    · rename_i ht
      simp only [IE.ev, Cm.ite_eq]
      rw [Cm.tri_ok (IE.rng_ok hr g1) (IE.rng_ok hr g2) ht]; exact ha g3
    · rename_i ht
      simp only [IE.ev, Cm.ite_eq]
      rw [Cm.tri_ok (IE.rng_ok hr g1) (IE.rng_ok hr g2) ht]; exact hb g4
    · simp only [IE.ev]
      rw [hx g1, hy g2, ha g3, hb g4]
def BE.smp (β : List Rg) : BE → BE
  | .t => .t
  | .f => .f
  | .cm o x y => match o.tri (x.rng β) (y.rng β) with
    | some true => .t
    | some false => .f
    | none => .cm o (x.smp β) (y.smp β)
  | .not b => .not (b.smp β)
  | .and a b => .and (a.smp β) (b.smp β)
  | .or a b => .or (a.smp β) (b.smp β)
  | .beq a b => .beq (a.smp β) (b.smp β)
theorem BE.smp_to {β : List Rg} {ρ : List Int} (hr : InR β ρ) : ∀ (e e' : BE), e.good = true → e.smp β = e' → e.ev ρ = e'.ev ρ := by
  intro e e' hg he
  subst he
  induction e with
  | t => rfl
  | f => rfl
  | cm o x y =>
    simp only [BE.good, Bool.and_eq_true] at hg
    simp only [BE.smp]
    split
    · rename_i ht
      simp only [BE.ev]; exact Cm.tri_ok (IE.rng_ok hr hg.1) (IE.rng_ok hr hg.2) ht
    · rename_i ht
      simp only [BE.ev]; exact Cm.tri_ok (IE.rng_ok hr hg.1) (IE.rng_ok hr hg.2) ht
    · simp only [BE.ev]; rw [IE.smp_ok hr hg.1, IE.smp_ok hr hg.2]
  | not b ih => simp only [BE.smp, BE.ev]; rw [← ih hg]
  | and a b ia ib => simp only [BE.good, Bool.and_eq_true] at hg; simp only [BE.smp, BE.ev]; rw [← ia hg.1, ← ib hg.2]
  | or a b ia ib => simp only [BE.good, Bool.and_eq_true] at hg; simp only [BE.smp, BE.ev]; rw [← ia hg.1, ← ib hg.2]
  | beq a b ia ib => simp only [BE.good, Bool.and_eq_true] at hg; simp only [BE.smp, BE.ev]; rw [← ia hg.1, ← ib hg.2]
def Cm.refl : Cm → Bool
  | .eq | .eqd | .le | .ge => true
  | _ => false
theorem Cm.refl_ok (o : Cm) (x : Int) : o.ev x x = o.refl := by cases o <;> simp [Cm.ev, Cm.refl]
theorem BE.same_ok {β : List Rg} {ρ : List Int} (hr : InR β ρ) (e : BE) (o : Cm) (L R : IE) (c : Bool) (hg : e.good = true) (hs : e.str β = .cm o L R) (hLR : ∀ ρ, L.ev ρ = R.ev ρ) (hc : o.refl = c) : e.ev ρ = c := by
  rw [← BE.str_ok hr hg, hs, ← hc, ← Cm.refl_ok o (R.ev ρ)]
  simp only [BE.ev]
  rw [hLR]
theorem BE.poly_ok {β : List Rg} {ρ : List Int} (hr : InR β ρ) (e : BE) (o : Cm) (L R L2 R2 : IE) {c : Bool} (hg : e.good = true) (hs : e.str β = .cm o L R) (hL : ∀ ρ, L.ev ρ = L2.ev ρ) (hR : ∀ ρ, R.ev ρ = R2.ev ρ) (hg2 : (BE.cm o L2 R2).good = true)
    (ht : (BE.cm o L2 R2).tri β = some c) : e.ev ρ = c := by
  rw [← BE.str_ok hr hg, hs, ← BE.tri_ok hr hg2 ht]
  simp only [BE.ev]
  rw [hL, hR]
theorem wrR (x : Int) : Rg.has (-9223372036854775808, 9223372036854775807) (IntKind.i64.wrap x) := by
  simp only [Rg.has]
  rw [IntKind.wrap_i64]
  omega
theorem rgE {x k : Int} (h : x = k) : Rg.has (k, k) x := by subst h; exact ⟨Int.le_refl _, Int.le_refl _⟩
theorem rgB {lo hi x : Int} (h : Bool.and (decide (lo ≤ x)) (decide (x ≤ hi)) = true) : Rg.has (lo, hi) x := by
  simp only [Bool.and_eq_true, decide_eq_true_eq] at h
  exact h
theorem notF {a : Bool} (h : a = false) : Bool.not a = true := by subst h; rfl
theorem orT {a b : Bool} (h : Bool.or (Bool.not a) b = true) (ha : a = true) : b = true := by subst ha; exact h
theorem orF {a b : Bool} (h : Bool.or a b = true) (ha : a = false) : b = true := by subst ha; exact h
theorem notT {a : Bool} (h : Bool.not a = true) : a = false := by cases a; rfl; cases h
end Mini
end Go.Proofs.YtencngffhbhifaaGreatDoor
end
section
set_option linter.all false
set_option maxRecDepth 1000000
namespace Go.Proofs.YtencngffhbhifaaGreatDoor
open Mini
noncomputable def aw3B : Code := bodyOf Tryz.prog 4
noncomputable def aw3A0 : MA := ⟨291, .leaf, []⟩
noncomputable def aw3H0 : Tri := (.node (.node (.one (.cells [.int .i64 (1), .int .i64 (0), .int .i64 (0), .int .i64 (1), .int .i64 (-1), .int .i64 (0), .int .i64 (0), .int .i64 (-1)] 92 true 0 true)) (.one (.cells [.string ⟨#[112, 108, 97, 110, 116, 110, 117, 109]⟩, .string ⟨#[112, 108, 97, 110, 116, 100, 101, 110]⟩, .string ⟨#[99, 111, 110, 116, 114, 111, 108, 108, 101, 114, 110, 117, 109]⟩, .string ⟨#[99, 111, 110, 116, 114, 111, 108, 108, 101, 114, 100, 101, 110]⟩] 112 true 0 true))) (.node (.one (.cells [.int .u64 (1), .int .u64 (10), .int .u64 (100), .int .u64 (1000), .int .u64 (10000), .int .u64 (100000), .int .u64 (1000000), .int .u64 (10000000), .int .u64 (100000000), .int .u64 (1000000000), .int .u64 (10000000000), .int .u64 (100000000000), .int .u64 (1000000000000), .int .u64 (10000000000000), .int .u64 (100000000000000), .int .u64 (1000000000000000), .int .u64 (10000000000000000), .int .u64 (100000000000000000), .int .u64 (1000000000000000000), .int .u64 (10000000000000000000)] 181 true 0 true)) .leaf))
noncomputable def aw3H1 : Tri := (.node (.node (.node (.node (.node (.node (.node (.node (.node (.node (.node (.node (.node (.node (.node (.node (.node (.node (.node (.node aw3H0 .leaf) .leaf) .leaf) .leaf) .leaf) .leaf) .leaf) .leaf) .leaf) .leaf) .leaf) .leaf) .leaf) .leaf) .leaf) .leaf) .leaf) .leaf) .leaf) .leaf)
noncomputable def aw3S0 : St := ⟨6, aw3H1, []⟩
noncomputable def aw3H2 : TV := (.node (.node (.node (.node (.one (.bool false)) .leaf) .leaf) .leaf) .leaf)
noncomputable def aw3A1 : MA := ⟨291, (.node (.node (.node (.node (.node aw3H2 .leaf) .leaf) .leaf) .leaf) .leaf), []⟩
noncomputable def aw3S1 : St := ⟨6, aw3H1, []⟩
noncomputable def aw3H3 : TV := (.node (.one (.bool false)) (.one (.slice (some ⟨13, 0, none⟩) 2 2)))
noncomputable def aw3H4 : TV := (.one (.tuple #[.slice (some ⟨13, 0, none⟩) 2 2, .int .i64 (0)]))
noncomputable def aw3H5 : TV := (.node aw3H4 (.one (.slice (some ⟨6, 0, none⟩) 3 3)))
noncomputable def aw3H6 : TV := (.node aw3H4 (.one (.slice (some ⟨13, 0, none⟩) 2 2)))
noncomputable def aw3A2 : MA := ⟨291, (.node (.node (.node (.node (.node (.node (.node (.node aw3H3 (.node (.one (.int .i64 (0))) .leaf)) .leaf) .leaf) .leaf) (.node (.node .leaf (.node (.node .leaf aw3H5) (.node aw3H6 (.node (.one (.int .i64 (0))) .leaf)))) .leaf)) .leaf) .leaf) .leaf), []⟩
noncomputable def aw3H7 : Tri := (.one (.cells [.int .i64 (1), .int .i64 (0), .int .i64 (2)] 3 false 0 false))
noncomputable def aw3H8 : Tri := (.node aw3H0 (.node .leaf (.node aw3H7 (.one (.cells [] 3 false 0 false)))))
noncomputable def aw3H9 : Tri := (.one (.cells [.int .i64 (1), .int .i64 (0), .int .i64 (2)] 3 true 1 false))
noncomputable def aw3H10 : Tri := (.one (.cells [.int .i64 (0), .int .i64 (3)] 3 true 1 false))
noncomputable def aw3H11 : Tri := (.node (.node aw3H9 (.one (.cells [.slice (some ⟨8, 0, none⟩) 3 3] 96 false 0 false))) (.node (.one (.cells [] 3 false 0 false)) aw3H10))
noncomputable def aw3H12 : Tri := (.node (.one (.cells [.slice (some ⟨11, 0, none⟩) 2 2] 96 false 0 false)) (.one (.cells [.slice (some ⟨8, 0, none⟩) 3 3, .slice (some ⟨11, 0, none⟩) 2 2] 96 true 1 false)))
noncomputable def aw3S2 : St := ⟨14, (.node (.node (.node (.node (.node (.node (.node (.node (.node (.node (.node (.node (.node (.node (.node (.node (.node (.node (.node aw3H8 (.node aw3H11 (.node aw3H12 .leaf))) .leaf) .leaf) .leaf) .leaf) .leaf) .leaf) .leaf) .leaf) .leaf) .leaf) .leaf) .leaf) .leaf) .leaf) .leaf) .leaf) .leaf) .leaf), []⟩
noncomputable def aw3H13 : TV := (.node (.one (.int .i64 (0))) (.one (.slice (some ⟨17, 0, none⟩) 1 1)))
noncomputable def aw3H14 : TV := (.node (.node (.one (.int .i64 (0))) .leaf) .leaf)
noncomputable def aw3H15 : TV := (.one (.tuple #[.slice (some ⟨17, 0, none⟩) 1 1, .int .i64 (0)]))
noncomputable def aw3H16 : TV := (.node aw3H6 (.node (.one (.int .i64 (0))) aw3H15))
noncomputable def aw3H17 : TV := (.node .leaf (.node (.node .leaf aw3H5) aw3H16))
noncomputable def aw3H18 : TV := (.node (.node (.one (.slice (some ⟨14, 0, none⟩) 3 3)) aw3H15) (.node (.one (.slice (some ⟨17, 0, none⟩) 1 1)) (.one (.int .i64 (0)))))
noncomputable def aw3A3 : MA := ⟨291, (.node (.node (.node (.node (.node (.node (.node (.node aw3H3 aw3H13) aw3H14) .leaf) .leaf) (.node aw3H17 (.node (.node aw3H18 .leaf) .leaf))) .leaf) .leaf) .leaf), []⟩
noncomputable def aw3H19 : Tri := (.one (.cells [.int .i64 (2), .int .i64 (3), .int .i64 (1)] 3 false 0 false))
noncomputable def aw3H20 : Tri := (.node aw3H8 (.node aw3H11 (.node aw3H12 (.node aw3H19 (.one (.cells [] 3 false 0 false))))))
noncomputable def aw3H21 : Tri := (.one (.cells [.int .i64 (2), .int .i64 (3), .int .i64 (1)] 3 true 1 false))
noncomputable def aw3H22 : Tri := (.node aw3H21 (.one (.cells [.slice (some ⟨16, 0, none⟩) 3 3] 96 false 0 false)))
noncomputable def aw3S3 : St := ⟨18, (.node (.node (.node (.node (.node (.node (.node (.node (.node (.node (.node (.node (.node (.node (.node (.node (.node (.node aw3H20 (.node (.node (.node aw3H22 .leaf) .leaf) .leaf)) .leaf) .leaf) .leaf) .leaf) .leaf) .leaf) .leaf) .leaf) .leaf) .leaf) .leaf) .leaf) .leaf) .leaf) .leaf) .leaf) .leaf), []⟩
noncomputable def aw3H23 : TV := (.node (.one (.int .i64 (0))) (.one (.bool true)))
noncomputable def aw3H24 : TV := (.node aw3H23 (.node (.one (.int .i64 (0))) .leaf))
noncomputable def aw3H25 : TV := (.one (.tuple #[.bool true, .int .i64 (0)]))
noncomputable def aw3H26 : TV := (.node aw3H18 (.node (.node aw3H25 (.one (.slice (some ⟨18, 0, none⟩) 3 3))) (.node aw3H25 (.one (.bool true)))))
noncomputable def aw3A4 : MA := ⟨291, (.node (.node (.node (.node (.node (.node (.node (.node aw3H3 aw3H13) aw3H24) .leaf) .leaf) (.node aw3H17 (.node aw3H26 (.node aw3H14 .leaf)))) .leaf) .leaf) .leaf), []⟩
noncomputable def aw3H27 : Tri := (.node (.node aw3H22 (.node aw3H7 .leaf)) .leaf)
noncomputable def aw3S4 : St := ⟨26, (.node (.node (.node (.node (.node (.node (.node (.node (.node (.node (.node (.node (.node (.node (.node (.node (.node (.node aw3H20 (.node aw3H27 .leaf)) .leaf) .leaf) .leaf) .leaf) .leaf) .leaf) .leaf) .leaf) .leaf) .leaf) .leaf) .leaf) .leaf) .leaf) .leaf) .leaf) .leaf), []⟩
noncomputable def aw3H28 : TV := (.node aw3H23 (.node (.one (.int .i64 (0))) (.one (.bool false))))
noncomputable def aw3H29 : TV := (.one (.tuple #[.bool false, .int .i64 (0)]))
noncomputable def aw3H30 : TV := (.node (.node (.one (.int .i64 (0))) aw3H29) (.node (.one (.slice (some ⟨26, 0, none⟩) 3 3)) aw3H29))
noncomputable def aw3H31 : TV := (.node (.one (.bool false)) (.one (.int .i64 (0))))
noncomputable def aw3A5 : MA := ⟨291, (.node (.node (.node (.node (.node (.node (.node (.node aw3H3 aw3H13) aw3H28) (.node aw3H14 .leaf)) .leaf) (.node aw3H17 (.node aw3H26 (.node aw3H30 (.node aw3H31 .leaf))))) .leaf) .leaf) .leaf), []⟩
noncomputable def aw3S5 : St := ⟨30, (.node (.node (.node (.node (.node (.node (.node (.node (.node (.node (.node (.node (.node (.node (.node (.node (.node (.node aw3H20 (.node aw3H27 (.node (.node .leaf (.node aw3H19 .leaf)) .leaf))) .leaf) .leaf) .leaf) .leaf) .leaf) .leaf) .leaf) .leaf) .leaf) .leaf) .leaf) .leaf) .leaf) .leaf) .leaf) .leaf) .leaf), []⟩
noncomputable def aw3H32 : TV := (.node (.one (.int .i64 (0))) (.one (.pointer (some ⟨42, 0, none⟩))))
noncomputable def aw3H33 : TV := (.one (.tuple #[.agg #[.int .i64 (-1), .int .i64 (0)], .int .i64 (0)]))
noncomputable def aw3H34 : TV := (.node aw3H26 (.node aw3H30 (.node aw3H31 (.node aw3H33 (.one (.slice (some ⟨30, 0, none⟩) 3 3))))))
noncomputable def aw3H35 : TV := (.one (.agg #[.int .i64 (-1), .int .i64 (0)]))
noncomputable def aw3H36 : TV := (.node (.node (.one (.agg #[.int .i64 (0), .int .i64 (1)])) aw3H33) (.node aw3H35 (.one (.int .i64 (0)))))
noncomputable def aw3A6 : MA := ⟨291, (.node (.node (.node (.node (.node (.node (.node (.node aw3H3 aw3H13) aw3H28) (.node (.node aw3H32 (.node (.one (.int .i64 (0))) .leaf)) .leaf)) .leaf) (.node aw3H17 aw3H34)) (.node (.node (.node (.node aw3H36 .leaf) .leaf) .leaf) .leaf)) .leaf) .leaf), []⟩
noncomputable def aw3H37 : Tri := (.node aw3H20 (.node aw3H27 (.node (.node .leaf (.node aw3H19 .leaf)) (.node .leaf (.node aw3H7 .leaf)))))
noncomputable def aw3H38 : Tri := (.one (.cells [.int .i64 (-1), .int .i64 (0)] 41 false 0 false))
noncomputable def aw3S6 : St := ⟨43, (.node (.node (.node (.node (.node (.node (.node (.node (.node (.node (.node (.node (.node (.node (.node (.node (.node aw3H37 (.node (.node .leaf (.node (.node .leaf (.node aw3H38 .leaf)) .leaf)) .leaf)) .leaf) .leaf) .leaf) .leaf) .leaf) .leaf) .leaf) .leaf) .leaf) .leaf) .leaf) .leaf) .leaf) .leaf) .leaf) .leaf), []⟩
noncomputable def aw3H39 : TV := (.node aw3H32 (.node (.one (.int .i64 (0))) (.one (.slice (some ⟨55, 0, none⟩) 2 2))))
noncomputable def aw3H40 : TV := (.one (.tuple #[.slice (some ⟨55, 0, none⟩) 2 2, .int .i64 (0)]))
noncomputable def aw3H41 : TV := (.node aw3H36 (.node (.node aw3H40 (.one (.agg #[.slice (some ⟨44, 0, none⟩) 1 1, .slice (some ⟨45, 0, none⟩) 2 2, .slice (some ⟨46, 0, none⟩) 1 1, .slice (some ⟨47, 0, none⟩) 1 1]))) (.node aw3H40 (.one (.slice (some ⟨55, 0, none⟩) 2 2)))))
noncomputable def aw3A7 : MA := ⟨291, (.node (.node (.node (.node (.node (.node (.node (.node aw3H3 aw3H13) aw3H28) (.node aw3H39 aw3H14)) .leaf) (.node aw3H17 aw3H34)) (.node (.node (.node aw3H41 (.node aw3H14 .leaf)) .leaf) .leaf)) .leaf) .leaf), []⟩
noncomputable def aw3H42 : Tri := (.one (.cells [.slice (some ⟨44, 0, none⟩) 1 1, .slice (some ⟨45, 0, none⟩) 2 2, .slice (some ⟨46, 0, none⟩) 1 1, .slice (some ⟨47, 0, none⟩) 1 1] 47 false 0 false))
noncomputable def aw3H43 : Tri := (.one (.cells [.int .i64 (1)] 3 false 0 false))
noncomputable def aw3H44 : Tri := (.one (.cells [.int .i64 (-1), .int .i64 (2)] 3 false 0 false))
noncomputable def aw3H45 : Tri := (.node (.node aw3H43 aw3H44) (.node aw3H43 aw3H43))
noncomputable def aw3H46 : Tri := (.node .leaf (.node (.node .leaf (.node aw3H38 aw3H42)) aw3H45))
noncomputable def aw3H47 : Tri := (.one (.cells [.int .i64 (0), .int .i64 (2)] 3 true 1 false))
noncomputable def aw3H48 : Tri := (.node (.node (.node aw3H42 .leaf) (.node (.one (.cells [.int .i64 (0), .int .i64 (0), .int .i64 (0), .int .i64 (0), .int .i64 (0)] 28 false 0 false)) aw3H42)) (.node (.node aw3H44 aw3H43) (.node (.one (.cells [] 3 false 0 false)) aw3H47)))
noncomputable def aw3S7 : St := ⟨56, (.node (.node (.node (.node (.node (.node (.node (.node (.node (.node (.node (.node (.node (.node (.node (.node (.node aw3H37 (.node aw3H46 (.node aw3H48 .leaf))) .leaf) .leaf) .leaf) .leaf) .leaf) .leaf) .leaf) .leaf) .leaf) .leaf) .leaf) .leaf) .leaf) .leaf) .leaf) .leaf), []⟩
noncomputable def aw3H49 : TV := (.node (.one (.int .i64 (0))) (.one (.pointer (some ⟨104, 0, none⟩))))
noncomputable def aw3H50 : TV := (.one (.tuple #[.agg #[.complex .f64 4611686018427387904 0, .complex .f64 0 4611686018427387904, .complex .f64 13835058055282163712 0, .complex .f64 0 13835058055282163712], .int .i64 (0)]))
noncomputable def aw3H51 : TV := (.node (.node (.one (.int .i64 (0))) aw3H50) (.node (.one (.agg #[.slice (some ⟨57, 0, none⟩) 1 1, .slice (some ⟨58, 0, none⟩) 2 2, .slice (some ⟨59, 0, none⟩) 1 1, .slice (some ⟨60, 0, none⟩) 1 1])) aw3H50))
noncomputable def aw3H52 : TV := (.one (.agg #[.complex .f64 4611686018427387904 0, .complex .f64 0 4611686018427387904, .complex .f64 13835058055282163712 0, .complex .f64 0 13835058055282163712]))
noncomputable def aw3A8 : MA := ⟨291, (.node (.node (.node (.node (.node (.node (.node (.node aw3H3 aw3H13) aw3H28) (.node aw3H39 (.node aw3H49 (.node (.one (.int .i64 (0))) .leaf)))) .leaf) (.node aw3H17 aw3H34)) (.node (.node (.node aw3H41 (.node aw3H51 (.node (.node aw3H52 (.one (.int .i64 (0)))) .leaf))) .leaf) .leaf)) .leaf) .leaf), []⟩
noncomputable def aw3H53 : Tri := (.node aw3H37 (.node aw3H46 (.node aw3H48 (.node (.node (.node (.one (.cells [.slice (some ⟨57, 0, none⟩) 1 1, .slice (some ⟨58, 0, none⟩) 2 2, .slice (some ⟨59, 0, none⟩) 1 1, .slice (some ⟨60, 0, none⟩) 1 1] 47 false 0 false)) aw3H43) (.node aw3H44 aw3H43)) (.node (.node aw3H43 .leaf) .leaf)))))
noncomputable def aw3H54 : Tri := (.one (.cells [.complex .f64 4611686018427387904 0, .complex .f64 0 4611686018427387904, .complex .f64 13835058055282163712 0, .complex .f64 0 13835058055282163712] 50 false 0 false))
noncomputable def aw3S8 : St := ⟨105, (.node (.node (.node (.node (.node (.node (.node (.node (.node (.node (.node (.node (.node (.node (.node (.node aw3H53 (.node .leaf (.node (.node .leaf (.node (.node (.node aw3H54 .leaf) .leaf) .leaf)) .leaf))) .leaf) .leaf) .leaf) .leaf) .leaf) .leaf) .leaf) .leaf) .leaf) .leaf) .leaf) .leaf) .leaf) .leaf) .leaf), []⟩
noncomputable def aw3H55 : TV := (.node (.one (.int .i64 (0))) (.one (.int .i64 (3))))
noncomputable def aw3H56 : TV := (.node (.node (.node aw3H3 aw3H13) aw3H28) (.node aw3H39 (.node aw3H49 aw3H55)))
noncomputable def aw3H57 : TV := (.node (.node aw3H56 (.node (.node aw3H14 .leaf) .leaf)) (.node aw3H17 aw3H34))
noncomputable def aw3H58 : TV := (.one (.tuple #[.int .i64 (3), .int .i64 (0)]))
noncomputable def aw3H59 : TV := (.node aw3H41 (.node aw3H51 (.node (.node aw3H52 (.one (.int .i64 (0)))) (.node aw3H58 (.one (.agg #[.slice (some ⟨106, 0, none⟩) 1 1, .slice (some ⟨107, 0, none⟩) 2 2, .slice (some ⟨108, 0, none⟩) 1 1, .slice (some ⟨109, 0, none⟩) 1 1]))))))
noncomputable def aw3A9 : MA := ⟨291, (.node (.node (.node aw3H57 (.node (.node aw3H59 (.node (.node (.node (.node aw3H58 (.one (.int .i64 (3)))) (.node (.one (.int .i64 (0))) .leaf)) .leaf) .leaf)) .leaf)) .leaf) .leaf), []⟩
noncomputable def aw3H60 : Tri := (.node aw3H53 (.node .leaf (.node (.node .leaf (.node (.node (.node aw3H54 (.one (.cells [.slice (some ⟨106, 0, none⟩) 1 1, .slice (some ⟨107, 0, none⟩) 2 2, .slice (some ⟨108, 0, none⟩) 1 1, .slice (some ⟨109, 0, none⟩) 1 1] 47 false 0 false))) (.node aw3H43 aw3H44)) (.node (.node aw3H43 aw3H43) .leaf))) .leaf)))
noncomputable def aw3S9 : St := ⟨151, (.node (.node (.node (.node (.node (.node (.node (.node (.node (.node (.node (.node (.node (.node (.node aw3H60 .leaf) .leaf) .leaf) .leaf) .leaf) .leaf) .leaf) .leaf) .leaf) .leaf) .leaf) .leaf) .leaf) .leaf) .leaf), []⟩
noncomputable def aw3H61 : TV := (.node (.one (.int .i64 (0))) (.one (.int .i64 (0))))
noncomputable def aw3H62 : TV := (.node (.node aw3H61 aw3H61) (.node aw3H61 aw3H61))
noncomputable def aw3H63 : TV := (.node (.one (.bool false)) (.one (.bool false)))
noncomputable def aw3H64 : TV := (.node (.one (.bool false)) (.one (.bool true)))
noncomputable def aw3H65 : TV := (.node (.node aw3H59 (.node (.node (.node (.node aw3H58 (.one (.int .i64 (3)))) aw3H61) (.node aw3H61 aw3H61)) aw3H62)) (.node (.node (.node (.node aw3H61 aw3H63) (.node (.node (.one (.slice (some ⟨13, 0, none⟩) 2 2)) (.one (.slice (some ⟨158, 0, none⟩) 2 2))) (.node (.one (.slice (some ⟨159, 0, none⟩) 3 3)) (.one (.slice (some ⟨160, 0, none⟩) 2 2))))) (.node (.node (.node (.one (.slice (some ⟨161, 0, none⟩) 2 2)) (.one (.bool true))) aw3H63) (.node (.node (.one (.bool false)) (.one (.slice (some ⟨17, 0, none⟩) 1 1))) (.node (.one (.slice (some ⟨165, 0, none⟩) 1 1)) (.one (.slice (some ⟨166, 0, none⟩) 3 3)))))) (.node (.node (.node (.node (.one (.slice (some ⟨167, 0, none⟩) 1 1)) (.one (.bool true))) aw3H63) (.node aw3H64 aw3H63)) (.node (.node aw3H63 aw3H63) (.node (.node aw3H35 aw3H35) aw3H63)))))
noncomputable def aw3H66 : TV := (.node (.node (.node (.one (.bool false)) (.one (.slice (some ⟨55, 0, none⟩) 2 2))) (.node (.one (.slice (some ⟨168, 0, none⟩) 2 2)) (.one (.bool true)))) (.node aw3H63 (.node (.one (.bool false)) aw3H52)))
noncomputable def aw3H67 : TV := (.node (.node aw3H52 (.one (.bool false))) aw3H63)
noncomputable def aw3H68 : TV := (.node (.one (.int .i64 (3))) (.one (.bool false)))
noncomputable def aw3A10 : MA := ⟨291, (.node (.node (.node aw3H57 aw3H65) (.node (.node (.node (.node aw3H66 (.node aw3H67 (.node aw3H68 (.node (.one (.bool false)) .leaf)))) .leaf) .leaf) .leaf)) .leaf), []⟩
noncomputable def aw3H69 : Tri := (.node .leaf (.node (.node .leaf (.node .leaf (.node .leaf (.one (.cells [] 3 false 0 false))))) (.node (.node (.node aw3H9 (.one (.cells [.slice (some ⟨152, 0, none⟩) 3 3] 26 false 0 false))) (.node (.one (.hole)) (.one (.cells [] 3 false 0 false)))) (.node (.node aw3H10 (.one (.cells [.slice (some ⟨156, 0, none⟩) 2 2] 26 false 0 false))) (.node (.one (.cells [.slice (some ⟨152, 0, none⟩) 3 3, .slice (some ⟨156, 0, none⟩) 2 2] 26 true 1 false)) aw3H7)))))
noncomputable def aw3H70 : Tri := (.node (.node (.node (.one (.cells [.int .i64 (0), .int .i64 (3)] 3 false 0 false)) (.one (.cells [.slice (some ⟨159, 0, none⟩) 3 3, .slice (some ⟨160, 0, none⟩) 2 2] 26 false 0 false))) (.node (.one (.cells [] 3 false 0 false)) aw3H21)) (.node (.node (.one (.cells [.slice (some ⟨163, 0, none⟩) 3 3] 26 false 0 false)) (.one (.cells [.slice (some ⟨163, 0, none⟩) 3 3] 26 true 1 false))) (.node aw3H19 (.one (.cells [.slice (some ⟨166, 0, none⟩) 3 3] 26 false 0 false)))))
noncomputable def aw3H71 : Tri := (.one (.cells [.int .i64 (0), .int .i64 (2)] 3 false 0 false))
noncomputable def aw3S10 : St := ⟨169, (.node (.node (.node (.node (.node (.node (.node (.node (.node (.node (.node (.node (.node (.node (.node aw3H60 (.node (.node aw3H69 (.node (.node aw3H70 (.node (.node (.node aw3H71 .leaf) .leaf) .leaf)) .leaf)) .leaf)) .leaf) .leaf) .leaf) .leaf) .leaf) .leaf) .leaf) .leaf) .leaf) .leaf) .leaf) .leaf) .leaf) .leaf), []⟩
noncomputable def aw3H72 : TV := (.one (.slice (some ⟨265, 0, none⟩) 1 1))
noncomputable def aw3H73 : TV := (.node (.node (.one (.int .i64 (0))) aw3H72) (.node (.one (.bool true)) (.one (.int .i64 (0)))))
noncomputable def aw3H74 : TV := (.one (.tuple #[.slice (some ⟨265, 0, none⟩) 1 1, .bool true, .int .i64 (0)]))
noncomputable def aw3H75 : TV := (.node aw3H66 (.node aw3H67 (.node aw3H68 (.node (.one (.bool false)) aw3H74))))
noncomputable def aw3H76 : TV := (.node (.node (.one (.agg #[.slice (some ⟨170, 0, none⟩) 1 1, .slice (some ⟨171, 0, none⟩) 2 2, .slice (some ⟨172, 0, none⟩) 1 1, .slice (some ⟨173, 0, none⟩) 1 1])) (.one (.agg #[.int .i64 (1), .int .i64 (4)]))) (.node (.one (.slice (some ⟨174, 0, none⟩) 1 1)) aw3H74))
noncomputable def aw3A11 : MA := ⟨291, (.node (.node (.node (.node (.node aw3H56 (.node (.node aw3H73 .leaf) .leaf)) (.node aw3H17 aw3H34)) aw3H65) (.node (.node (.node aw3H75 (.node (.node aw3H76 (.node (.node aw3H72 (.one (.bool true))) (.node (.one (.int .i64 (0))) .leaf))) .leaf)) .leaf) .leaf)) .leaf), []⟩
noncomputable def aw3H77 : Tri := (.one (.cells [.slice (some ⟨170, 0, none⟩) 1 1, .slice (some ⟨171, 0, none⟩) 2 2, .slice (some ⟨172, 0, none⟩) 1 1, .slice (some ⟨173, 0, none⟩) 1 1] 47 false 0 false))
noncomputable def aw3H78 : Tri := (.one (.cells [.int .i64 (1)] 3 true 1 false))
noncomputable def aw3H79 : Tri := (.one (.cells [.int .i64 (2)] 3 false 0 false))
noncomputable def aw3H80 : Tri := (.one (.cells [.int .i64 (2)] 3 true 1 false))
noncomputable def aw3H81 : Tri := (.node aw3H60 (.node (.node aw3H69 (.node (.node aw3H70 (.node (.node (.node aw3H71 aw3H77) (.node aw3H43 aw3H44)) (.node (.node aw3H43 aw3H43) (.node (.one (.cells [.int .i64 (1), .int .i64 (4)] 62 false 0 false)) aw3H77)))) .leaf)) (.node .leaf (.node (.node .leaf (.node (.node .leaf (.node (.one (.cells [.slice (some ⟨265, 0, none⟩) 1 1] 31 false 0 false)) (.one (.cells [.slice (some ⟨174, 0, none⟩) 1 1] 64 false 0 false)))) (.node (.node (.one (.hole)) (.one (.hole))) (.node aw3H43 aw3H78)))) (.node (.node (.node (.node (.one (.cells [] 3 false 0 false)) aw3H78) (.node aw3H77 aw3H44)) (.node (.node aw3H43 (.one (.cells [] 3 false 0 false))) (.node aw3H47 (.one (.cells [] 3 false 0 false))))) (.node (.node (.node aw3H47 (.one (.cells [.slice (some ⟨248, 0, none⟩) 2 2] 96 false 0 false))) (.node aw3H79 aw3H80)) (.node (.node (.one (.cells [] 3 false 0 false)) aw3H80) (.node aw3H77 aw3H44))))))))
noncomputable def aw3H82 : Tri := (.one (.cells [.int .i64 (1), .int .i64 (2)] 3 true 1 false))
noncomputable def aw3H83 : Tri := (.one (.cells [.int .i64 (3)] 3 false 0 false))
noncomputable def aw3H84 : Tri := (.one (.cells [.int .i64 (3)] 3 true 1 false))
noncomputable def aw3H85 : Tri := (.one (.cells [.int .i64 (2), .int .i64 (2)] 3 true 1 false))
noncomputable def aw3H86 : Tri := (.node (.node (.node (.node aw3H79 (.one (.cells [] 3 false 0 false))) (.node aw3H82 (.one (.cells [] 3 false 0 false)))) (.node (.node aw3H82 (.one (.cells [.slice (some ⟨260, 0, none⟩) 2 2] 96 false 0 false))) (.node aw3H83 aw3H84))) (.node (.node (.node (.one (.cells [] 3 false 0 false)) aw3H84) (.node aw3H77 aw3H44)) (.node (.node aw3H83 (.one (.cells [] 3 false 0 false))) (.node aw3H85 (.one (.cells [] 3 false 0 false))))))
noncomputable def aw3H87 : Tri := (.node aw3H85 (.one (.cells [.slice (some ⟨272, 0, none⟩) 2 2] 96 false 0 false)))
noncomputable def aw3S11 : St := ⟨274, (.node (.node (.node (.node (.node (.node (.node (.node (.node (.node (.node (.node (.node (.node aw3H81 (.node (.node (.node (.node aw3H86 (.node (.node (.node aw3H87 .leaf) .leaf) .leaf)) .leaf) .leaf) .leaf)) .leaf) .leaf) .leaf) .leaf) .leaf) .leaf) .leaf) .leaf) .leaf) .leaf) .leaf) .leaf) .leaf), []⟩
noncomputable def aw3H88 : TV := (.node (.one (.slice none 0 0)) (.one (.bool false)))
noncomputable def aw3H89 : TV := (.node aw3H88 (.node (.one (.int .i64 (0))) .leaf))
noncomputable def aw3H90 : TV := (.one (.tuple #[.slice none 0 0, .bool false, .int .i64 (0)]))
noncomputable def aw3H91 : TV := (.node aw3H76 (.node (.node aw3H72 (.one (.bool true))) (.node (.one (.int .i64 (0))) aw3H90)))
noncomputable def aw3H92 : TV := (.one (.agg #[.int .i64 (1), .int .i64 (2)]))
noncomputable def aw3H93 : TV := (.node (.node (.one (.agg #[.slice (some ⟨275, 0, none⟩) 1 1, .slice (some ⟨276, 0, none⟩) 2 2, .slice (some ⟨277, 0, none⟩) 1 1, .slice (some ⟨278, 0, none⟩) 1 1])) aw3H92) (.node (.one (.slice (some ⟨279, 0, none⟩) 1 1)) aw3H90))
noncomputable def aw3A12 : MA := ⟨291, (.node (.node (.node (.node (.node aw3H56 (.node (.node aw3H73 aw3H89) .leaf)) (.node aw3H17 aw3H34)) aw3H65) (.node (.node (.node aw3H75 (.node aw3H91 (.node aw3H93 aw3H89))) .leaf) .leaf)) .leaf), []⟩
noncomputable def aw3H94 : Tri := (.node (.node aw3H86 (.node (.node (.node aw3H87 (.node (.one (.cells [.slice (some ⟨275, 0, none⟩) 1 1, .slice (some ⟨276, 0, none⟩) 2 2, .slice (some ⟨277, 0, none⟩) 1 1, .slice (some ⟨278, 0, none⟩) 1 1] 47 false 0 false)) aw3H43)) (.node (.node aw3H44 aw3H43) (.node aw3H43 (.one (.cells [.int .i64 (1), .int .i64 (2)] 62 false 0 false))))) .leaf)) .leaf)
noncomputable def aw3S12 : St := ⟨349, (.node (.node (.node (.node (.node (.node (.node (.node (.node (.node (.node (.node (.node (.node aw3H81 (.node (.node aw3H94 .leaf) .leaf)) .leaf) .leaf) .leaf) .leaf) .leaf) .leaf) .leaf) .leaf) .leaf) .leaf) .leaf) .leaf) .leaf), []⟩
noncomputable def aw3H95 : TV := (.one (.slice (some ⟨358, 0, none⟩) 2 2))
noncomputable def aw3H96 : TV := (.node aw3H73 (.node aw3H88 (.node (.one (.int .i64 (0))) aw3H95)))
noncomputable def aw3H97 : TV := (.one (.tuple #[.slice (some ⟨358, 0, none⟩) 2 2, .int .i64 (0)]))
noncomputable def aw3H98 : TV := (.node aw3H75 (.node aw3H91 (.node aw3H93 (.node aw3H88 (.node (.one (.int .i64 (0))) aw3H97)))))
noncomputable def aw3H99 : TV := (.node (.node (.one (.slice (some ⟨349, 0, none⟩) 2 2)) (.one (.agg #[.int .i64 (2), .int .i64 (1)]))) (.node aw3H97 aw3H95))
noncomputable def aw3A13 : MA := ⟨291, (.node (.node (.node (.node (.node aw3H56 (.node aw3H96 (.node aw3H14 .leaf))) (.node aw3H17 aw3H34)) aw3H65) (.node (.node aw3H98 (.node (.node (.node aw3H99 aw3H14) .leaf) .leaf)) .leaf)) .leaf), []⟩
noncomputable def aw3H100 : Tri := (.one (.cells [.int .i64 (2), .int .i64 (1)] 67 false 0 false))
noncomputable def aw3H101 : Tri := (.node .leaf (.node .leaf (.node .leaf (.node (.node .leaf aw3H44) (.node aw3H100 .leaf)))))
noncomputable def aw3H102 : Tri := (.one (.cells [.int .i64 (0), .int .i64 (0)] 28 false 0 false))
noncomputable def aw3H103 : Tri := (.node (.node .leaf aw3H102) (.node aw3H100 (.one (.cells [] 3 false 0 false))))
noncomputable def aw3H104 : Tri := (.node (.one (.cells [.int .i64 (-2), .int .i64 (2)] 3 true 1 false)) aw3H79)
noncomputable def aw3H105 : Tri := (.one (.cells [.int .i64 (-1), .int .i64 (1)] 3 false 0 false))
noncomputable def aw3S13 : St := ⟨359, (.node (.node (.node (.node (.node (.node (.node (.node (.node (.node (.node (.node (.node (.node aw3H81 (.node (.node aw3H94 (.node aw3H101 (.node (.node (.node aw3H103 (.node aw3H104 (.node aw3H105 .leaf))) .leaf) .leaf))) .leaf)) .leaf) .leaf) .leaf) .leaf) .leaf) .leaf) .leaf) .leaf) .leaf) .leaf) .leaf) .leaf) .leaf), []⟩
noncomputable def aw3H106 : TV := (.node aw3H99 (.node (.node (.one (.int .i64 (0))) aw3H25) (.node (.one (.slice (some ⟨359, 0, none⟩) 2 2)) (.one (.agg #[.int .i64 (1), .int .i64 (1)])))))
noncomputable def aw3A14 : MA := ⟨291, (.node (.node (.node (.node (.node aw3H56 (.node aw3H96 (.node aw3H24 .leaf))) (.node aw3H17 aw3H34)) aw3H65) (.node (.node aw3H98 (.node (.node aw3H106 (.node (.node (.node aw3H25 (.one (.bool true))) (.node (.one (.int .i64 (0))) .leaf)) .leaf)) .leaf)) .leaf)) .leaf), []⟩
noncomputable def aw3H107 : Tri := (.node (.node aw3H103 (.node aw3H104 (.node aw3H105 aw3H44))) .leaf)
noncomputable def aw3S14 : St := ⟨373, (.node (.node (.node (.node (.node (.node (.node (.node (.node (.node (.node (.node (.node (.node aw3H81 (.node (.node aw3H94 (.node aw3H101 (.node aw3H107 .leaf))) .leaf)) .leaf) .leaf) .leaf) .leaf) .leaf) .leaf) .leaf) .leaf) .leaf) .leaf) .leaf) .leaf) .leaf), []⟩
noncomputable def aw3H108 : TV := (.node aw3H106 (.node (.node (.node aw3H25 (.one (.bool true))) (.node (.one (.int .i64 (0))) aw3H29)) (.node (.node (.one (.slice (some ⟨373, 0, none⟩) 2 2)) aw3H92) (.node aw3H29 (.one (.bool false))))))
noncomputable def aw3A15 : MA := ⟨291, (.node (.node (.node (.node (.node aw3H56 (.node aw3H96 (.node aw3H28 aw3H14))) (.node aw3H17 aw3H34)) aw3H65) (.node (.node aw3H98 (.node aw3H108 (.node (.node aw3H14 .leaf) .leaf))) .leaf)) .leaf), []⟩
noncomputable def aw3H109 : Tri := (.node aw3H94 (.node aw3H101 (.node aw3H107 (.node (.node .leaf (.node (.node .leaf aw3H44) .leaf)) .leaf))))
noncomputable def aw3S15 : St := ⟨387, (.node (.node (.node (.node (.node (.node (.node (.node (.node (.node (.node (.node (.node (.node aw3H81 (.node aw3H109 .leaf)) .leaf) .leaf) .leaf) .leaf) .leaf) .leaf) .leaf) .leaf) .leaf) .leaf) .leaf) .leaf) .leaf), []⟩
noncomputable def aw3H110 : TV := (.one (.slice (some ⟨398, 0, none⟩) 4 4))
noncomputable def aw3H111 : TV := (.one (.tuple #[.slice (some ⟨398, 0, none⟩) 4 4, .int .i64 (0)]))
noncomputable def aw3H112 : TV := (.node (.node (.one (.int .i64 (0))) aw3H111) (.node (.one (.slice (some ⟨387, 0, none⟩) 2 2)) (.one (.slice (some ⟨388, 0, none⟩) 1 1))))
noncomputable def aw3A16 : MA := ⟨291, (.node (.node (.node (.node (.node aw3H56 (.node aw3H96 (.node aw3H28 (.node (.node (.one (.int .i64 (0))) aw3H110) (.node (.one (.int .i64 (0))) .leaf))))) (.node aw3H17 aw3H34)) aw3H65) (.node (.node aw3H98 (.node aw3H108 (.node (.node aw3H112 (.node (.node aw3H111 aw3H110) (.node (.one (.int .i64 (0))) .leaf))) .leaf))) .leaf)) .leaf), []⟩
noncomputable def aw3H113 : Tri := (.one (.cells [.int .i64 (8)] 3 false 0 false))
noncomputable def aw3H114 : Tri := (.one (.cells [.int .i64 (0), .int .i64 (0), .int .i64 (0)] 28 false 0 false))
noncomputable def aw3H115 : Tri := (.node (.node .leaf (.node .leaf aw3H44)) (.node (.node aw3H113 aw3H114) (.node aw3H113 (.one (.cells [.int .i64 (-1)] 86 false 0 false)))))
noncomputable def aw3H116 : Tri := (.node (.node (.one (.cells [.int .i64 (1)] 86 false 0 false)) aw3H113) (.node (.one (.hole)) aw3H113))
noncomputable def aw3H117 : Tri := (.one (.cells [.int .i64 (8), .int .i64 (8), .int .i64 (8), .int .i64 (8)] 3 true 1 false))
noncomputable def aw3S16 : St := ⟨399, (.node (.node (.node (.node (.node (.node (.node (.node (.node (.node (.node (.node (.node (.node aw3H81 (.node aw3H109 (.node (.node (.node (.node aw3H115 (.node aw3H116 (.node (.node (.one (.hole)) aw3H113) (.node aw3H117 .leaf)))) .leaf) .leaf) .leaf))) .leaf) .leaf) .leaf) .leaf) .leaf) .leaf) .leaf) .leaf) .leaf) .leaf) .leaf) .leaf) .leaf), []⟩
noncomputable def aw3H118 : TV := (.one (.slice (some ⟨406, 0, none⟩) 3 3))
noncomputable def aw3H119 : TV := (.node aw3H96 (.node aw3H28 (.node (.node (.one (.int .i64 (0))) aw3H110) (.node (.one (.int .i64 (0))) aw3H118))))
noncomputable def aw3H120 : TV := (.node (.node (.node aw3H56 aw3H119) (.node (.node (.node aw3H14 .leaf) (.node (.node .leaf aw3H5) aw3H16)) aw3H34)) aw3H65)
noncomputable def aw3H121 : TV := (.one (.tuple #[.slice (some ⟨406, 0, none⟩) 3 3, .int .i64 (0)]))
noncomputable def aw3H122 : TV := (.node aw3H112 (.node (.node aw3H111 aw3H110) (.node (.one (.int .i64 (0))) aw3H121)))
noncomputable def aw3H123 : TV := (.node (.node (.one (.slice (some ⟨399, 0, none⟩) 3 3)) (.one (.slice (some ⟨400, 0, none⟩) 2 2))) (.node aw3H121 aw3H118))
noncomputable def aw3A17 : MA := ⟨291, (.node (.node aw3H120 (.node (.node aw3H98 (.node aw3H108 (.node aw3H122 (.node aw3H123 aw3H14)))) .leaf)) .leaf), []⟩
noncomputable def aw3H124 : Tri := (.node aw3H115 (.node aw3H116 (.node (.node (.one (.hole)) aw3H113) (.node aw3H117 (.one (.cells [.int .i64 (0), .int .i64 (0), .int .i64 (3)] 3 false 0 false))))))
noncomputable def aw3H125 : Tri := (.one (.cells [.int .i64 (0), .int .i64 (0)] 86 false 0 false))
noncomputable def aw3H126 : Tri := (.node (.node (.one (.cells [.int .i64 (5), .int .i64 (7)] 3 false 0 false)) aw3H114) (.node (.one (.cells [.int .i64 (5), .int .i64 (21)] 3 false 0 false)) aw3H125))
noncomputable def aw3H127 : Tri := (.one (.cells [.int .i64 (0)] 3 false 0 false))
noncomputable def aw3H128 : Tri := (.one (.cells [.int .i64 (5), .int .i64 (21), .int .i64 (0)] 3 true 1 false))
noncomputable def aw3S17 : St := ⟨407, (.node (.node (.node (.node (.node (.node (.node (.node (.node (.node (.node (.node (.node (.node aw3H81 (.node aw3H109 (.node (.node (.node aw3H124 (.node (.node aw3H126 (.node (.node aw3H125 aw3H127) (.node aw3H128 .leaf))) .leaf)) .leaf) .leaf))) .leaf) .leaf) .leaf) .leaf) .leaf) .leaf) .leaf) .leaf) .leaf) .leaf) .leaf) .leaf) .leaf), []⟩
noncomputable def aw3H129 : TV := (.node aw3H98 (.node aw3H108 (.node aw3H122 (.node aw3H123 (.node aw3H61 aw3H61)))))
noncomputable def aw3H130 : TV := (.node (.one (.bool true)) (.one (.bool false)))
noncomputable def aw3H131 : TV := (.node (.node aw3H62 (.node (.node aw3H61 aw3H63) (.node aw3H130 aw3H63))) (.node (.node (.node (.node aw3H72 (.one (.slice (some ⟨407, 0, none⟩) 1 1))) aw3H130) (.node aw3H63 aw3H63)) (.node (.node (.node (.one (.bool false)) aw3H95) (.node (.one (.slice (some ⟨408, 0, none⟩) 2 2)) (.one (.bool true)))) (.node aw3H63 aw3H64))))
noncomputable def aw3H132 : TV := (.node (.node (.node aw3H63 aw3H63) (.node aw3H63 (.node aw3H110 (.one (.slice (some ⟨409, 0, none⟩) 4 4))))) (.node (.node aw3H130 aw3H63) (.node (.node aw3H118 (.one (.slice (some ⟨410, 0, none⟩) 3 3))) aw3H130)))
noncomputable def aw3A18 : MA := ⟨291, (.node (.node aw3H120 (.node aw3H129 (.node aw3H131 (.node aw3H132 aw3H2)))) .leaf), []⟩
noncomputable def aw3H133 : Tri := (.node aw3H126 (.node (.node aw3H125 aw3H127) (.node aw3H128 aw3H83)))
noncomputable def aw3H134 : Tri := (.node aw3H105 (.one (.cells [.int .i64 (8), .int .i64 (8), .int .i64 (8), .int .i64 (8)] 3 false 0 false)))
noncomputable def aw3H135 : Tri := (.one (.cells [.int .i64 (5), .int .i64 (21), .int .i64 (0)] 3 false 0 false))
noncomputable def aw3S18 : St := ⟨411, (.node (.node (.node (.node (.node (.node (.node (.node (.node (.node (.node (.node (.node (.node aw3H81 (.node aw3H109 (.node (.node (.node aw3H124 (.node aw3H133 (.node (.node aw3H134 (.node aw3H135 .leaf)) .leaf))) .leaf) .leaf))) .leaf) .leaf) .leaf) .leaf) .leaf) .leaf) .leaf) .leaf) .leaf) .leaf) .leaf) .leaf) .leaf), []⟩
noncomputable def aw3H136 : TV := (.one (.slice (some ⟨412, 0, none⟩) 6 6))
noncomputable def aw3H137 : TV := (.one (.tuple #[.slice (some ⟨412, 0, none⟩) 6 6, .int .i64 (0)]))
noncomputable def aw3H138 : TV := (.node (.node (.one (.bool false)) aw3H137) (.node aw3H137 aw3H136))
noncomputable def aw3A19 : MA := ⟨291, (.node (.node (.node (.node (.node aw3H56 aw3H119) (.node (.node (.node (.node (.node (.one (.int .i64 (0))) aw3H136) (.node (.one (.int .i64 (0))) .leaf)) .leaf) (.node (.node .leaf aw3H5) aw3H16)) aw3H34)) aw3H65) (.node aw3H129 (.node aw3H131 (.node aw3H132 (.node (.node aw3H138 aw3H14) .leaf))))) .leaf), []⟩
noncomputable def aw3H139 : Tri := (.one (.cells [.int .i64 (1), .int .i64 (2), .int .i64 (2), .int .i64 (2), .int .i64 (3), .int .i64 (0)] 3 false 0 false))
noncomputable def aw3S19 : St := ⟨413, (.node (.node (.node (.node (.node (.node (.node (.node (.node (.node (.node (.node (.node (.node aw3H81 (.node aw3H109 (.node (.node (.node aw3H124 (.node aw3H133 (.node (.node aw3H134 (.node aw3H135 aw3H114)) (.node (.node aw3H139 .leaf) .leaf)))) .leaf) .leaf))) .leaf) .leaf) .leaf) .leaf) .leaf) .leaf) .leaf) .leaf) .leaf) .leaf) .leaf) .leaf) .leaf), []⟩
noncomputable def aw3H140 : TV := (.node (.node (.one (.int .i64 (0))) aw3H136) aw3H55)
noncomputable def aw3H141 : TV := (.node aw3H138 (.node (.node (.one (.int .i64 (0))) aw3H58) (.node (.one (.slice (some ⟨413, 0, none⟩) 6 6)) aw3H58)))
noncomputable def aw3H142 : TV := (.node (.one (.int .i64 (3))) (.one (.int .i64 (0))))
noncomputable def aw3A20 : MA := ⟨291, (.node (.node (.node (.node (.node aw3H56 aw3H119) (.node (.node (.node aw3H140 aw3H14) (.node (.node .leaf aw3H5) aw3H16)) aw3H34)) aw3H65) (.node aw3H129 (.node aw3H131 (.node aw3H132 (.node aw3H141 (.node (.node aw3H142 .leaf) .leaf)))))) .leaf), []⟩
noncomputable def aw3H143 : Tri := (.node aw3H124 (.node aw3H133 (.node (.node aw3H134 (.node aw3H135 aw3H114)) (.node (.node aw3H139 aw3H139) .leaf))))
noncomputable def aw3S20 : St := ⟨416, (.node (.node (.node (.node (.node (.node (.node (.node (.node (.node (.node (.node (.node (.node aw3H81 (.node aw3H109 (.node (.node aw3H143 .leaf) .leaf))) .leaf) .leaf) .leaf) .leaf) .leaf) .leaf) .leaf) .leaf) .leaf) .leaf) .leaf) .leaf) .leaf), []⟩
noncomputable def aw3H144 : TV := (.one (.slice (some ⟨430, 0, none⟩) 6 6))
noncomputable def aw3H145 : TV := (.one (.tuple #[.slice (some ⟨430, 0, none⟩) 6 6, .int .i64 (0)]))
noncomputable def aw3H146 : TV := (.node aw3H142 (.node aw3H145 (.one (.slice (some ⟨416, 0, none⟩) 6 6))))
noncomputable def aw3A21 : MA := ⟨291, (.node (.node (.node (.node (.node aw3H56 aw3H119) (.node (.node (.node aw3H140 (.node (.node (.one (.int .i64 (0))) aw3H144) (.node (.one (.int .i64 (0))) .leaf))) (.node (.node .leaf aw3H5) aw3H16)) aw3H34)) aw3H65) (.node aw3H129 (.node aw3H131 (.node aw3H132 (.node aw3H141 (.node aw3H146 (.node (.node aw3H145 aw3H144) (.node (.one (.int .i64 (0))) .leaf)))))))) .leaf), []⟩
noncomputable def aw3H147 : Tri := (.node (.node (.node aw3H139 .leaf) (.node aw3H102 aw3H127)) (.node (.node (.one (.hole)) aw3H43) (.node (.one (.hole)) aw3H79)))
noncomputable def aw3H148 : Tri := (.node (.node (.one (.hole)) aw3H83) (.node (.one (.hole)) (.one (.cells [.int .i64 (4)] 3 false 0 false))))
noncomputable def aw3H149 : Tri := (.node (.one (.hole)) (.one (.cells [.int .i64 (5)] 3 false 0 false)))
noncomputable def aw3H150 : Tri := (.one (.cells [.int .i64 (0), .int .i64 (1), .int .i64 (2), .int .i64 (3), .int .i64 (4), .int .i64 (5)] 3 true 1 false))
noncomputable def aw3S21 : St := ⟨431, (.node (.node (.node (.node (.node (.node (.node (.node (.node (.node (.node (.node (.node (.node aw3H81 (.node aw3H109 (.node (.node aw3H143 (.node (.node aw3H147 (.node aw3H148 (.node aw3H149 (.node aw3H150 .leaf)))) .leaf)) .leaf))) .leaf) .leaf) .leaf) .leaf) .leaf) .leaf) .leaf) .leaf) .leaf) .leaf) .leaf) .leaf) .leaf), []⟩
noncomputable def aw3H151 : TV := (.node aw3H140 (.node (.node (.one (.int .i64 (0))) aw3H144) aw3H61))
noncomputable def aw3H152 : TV := (.node aw3H129 (.node aw3H131 (.node aw3H132 (.node aw3H141 (.node aw3H146 (.node (.node aw3H145 aw3H144) (.node (.one (.int .i64 (0))) (.one (.slice (some ⟨431, 0, none⟩) 6 6)))))))))
noncomputable def aw3H153 : TV := (.node (.one (.slice (some ⟨432, 0, none⟩) 6 6)) (.one (.int .i64 (0))))
noncomputable def aw3A22 : MA := ⟨291, (.node (.node (.node (.node (.node aw3H56 aw3H119) (.node (.node aw3H151 (.node (.node .leaf aw3H5) aw3H16)) aw3H34)) aw3H65) aw3H152) (.node (.node (.node (.node (.node (.node (.node aw3H153 .leaf) .leaf) .leaf) .leaf) .leaf) .leaf) .leaf)), []⟩
noncomputable def aw3H154 : Tri := (.node aw3H147 (.node aw3H148 (.node aw3H149 (.node aw3H150 aw3H139))))
noncomputable def aw3H155 : Tri := (.node (.one (.cells [.int .i64 (2), .int .i64 (1), .int .i64 (0), .int .i64 (1), .int .i64 (2), .int .i64 (3)] 3 false 0 false)) .leaf)
noncomputable def aw3S22 : St := ⟨435, (.node (.node (.node (.node (.node (.node (.node (.node (.node (.node (.node (.node (.node (.node aw3H81 (.node aw3H109 (.node (.node aw3H143 (.node aw3H154 (.node (.node (.node aw3H155 .leaf) .leaf) .leaf))) .leaf))) .leaf) .leaf) .leaf) .leaf) .leaf) .leaf) .leaf) .leaf) .leaf) .leaf) .leaf) .leaf) .leaf), []⟩
noncomputable def aw3H156 : TV := (.one (.string ⟨#[112, 108, 97, 110, 116, 110, 117, 109, 32, 49, 10, 112, 108, 97, 110, 116, 100, 101, 110, 32, 45, 49, 32, 50, 10, 99, 111, 110, 116, 114, 111, 108, 108, 101, 114, 110, 117, 109, 32, 49, 10, 99, 111, 110, 116, 114, 111, 108, 108, 101, 114, 100, 101, 110, 32, 49, 10]⟩))
noncomputable def aw3H157 : TV := (.node (.node aw3H151 (.node (.node (.node aw3H156 (.one (.int .i64 (0)))) aw3H5) aw3H16)) aw3H34)
noncomputable def aw3H158 : TV := (.one (.tuple #[.string ⟨#[112, 108, 97, 110, 116, 110, 117, 109, 32, 49, 10, 112, 108, 97, 110, 116, 100, 101, 110, 32, 45, 49, 32, 50, 10, 99, 111, 110, 116, 114, 111, 108, 108, 101, 114, 110, 117, 109, 32, 49, 10, 99, 111, 110, 116, 114, 111, 108, 108, 101, 114, 100, 101, 110, 32, 49, 10]⟩, .int .i64 (0)]))
noncomputable def aw3H159 : TV := (.node aw3H153 (.node aw3H158 (.one (.agg #[.slice (some ⟨436, 0, none⟩) 1 1, .slice (some ⟨437, 0, none⟩) 2 2, .slice (some ⟨438, 0, none⟩) 1 1, .slice (some ⟨439, 0, none⟩) 1 1]))))
noncomputable def aw3A23 : MA := ⟨291, (.node (.node (.node (.node (.node aw3H56 aw3H119) aw3H157) aw3H65) aw3H152) (.node (.node (.node (.node (.node (.node aw3H159 (.node (.node aw3H158 aw3H156) (.node (.one (.int .i64 (0))) .leaf))) .leaf) .leaf) .leaf) .leaf) .leaf)), []⟩
noncomputable def aw3H160 : Tri := (.node aw3H143 (.node aw3H154 (.node (.node (.node aw3H155 (.node .leaf (.one (.cells [.slice (some ⟨436, 0, none⟩) 1 1, .slice (some ⟨437, 0, none⟩) 2 2, .slice (some ⟨438, 0, none⟩) 1 1, .slice (some ⟨439, 0, none⟩) 1 1] 47 false 0 false)))) aw3H45) .leaf)))
noncomputable def aw3S23 : St := ⟨464, (.node (.node (.node (.node (.node (.node (.node (.node (.node (.node (.node (.node (.node (.node aw3H81 (.node aw3H109 (.node aw3H160 .leaf))) .leaf) .leaf) .leaf) .leaf) .leaf) .leaf) .leaf) .leaf) .leaf) .leaf) .leaf) .leaf) .leaf), []⟩
noncomputable def aw3H161 : TV := (.node (.one (.bool true)) (.one (.bool true)))
noncomputable def aw3H162 : TV := (.node (.node (.node (.node (.node (.node (.node (.node (.node (.one (.bool true)) (.one (.slice (some ⟨13, 0, none⟩) 2 2))) aw3H13) aw3H28) (.node aw3H39 (.node aw3H49 aw3H55))) aw3H119) aw3H157) aw3H65) aw3H152) (.node (.node (.node (.node (.node (.node aw3H159 (.node (.node aw3H158 aw3H156) aw3H61)) aw3H62) (.node (.node (.node aw3H161 (.node aw3H136 (.one (.slice (some ⟨464, 0, none⟩) 6 6)))) (.node aw3H161 (.node (.one (.bool true)) (.one (.int .i64 (3)))))) (.node (.node aw3H161 (.node (.one (.bool true)) aw3H144)) (.node (.node (.one (.slice (some ⟨465, 0, none⟩) 6 6)) (.one (.bool true))) aw3H161)))) (.node (.node (.node (.node (.node aw3H156 (.one (.bool true))) (.node (.one (.bool true)) .leaf)) .leaf) .leaf) .leaf)) .leaf) .leaf))
noncomputable def aw3A24 : MA := ⟨291, aw3H162, []⟩
noncomputable def aw3H163 : Tri := (.node (.node (.node (.node (.node (.node (.node (.node (.node (.node (.node (.node (.node (.node aw3H81 (.node aw3H109 (.node aw3H160 (.node (.node .leaf (.node (.node (.node (.node aw3H139 (.one (.cells [.int .i64 (0), .int .i64 (1), .int .i64 (2), .int .i64 (3), .int .i64 (4), .int .i64 (5)] 3 false 0 false))) .leaf) .leaf) .leaf)) .leaf)))) .leaf) .leaf) .leaf) .leaf) .leaf) .leaf) .leaf) .leaf) .leaf) .leaf) .leaf) .leaf) .leaf)
noncomputable def aw3S24 : St := ⟨466, aw3H163, []⟩
noncomputable def aw3A25 : MA := ⟨291, aw3H162, []⟩
noncomputable def aw3S25 : St := ⟨466, aw3H163, []⟩
def aw3R0 : Nat := 0
def aw3W0 : Nat := 0
def aw3RR0 : Nat := 142902310678056587604909754600731638422318421984864386643669642159944849417504598702114284873728616299881533201409689947487610737044052508615
def aw3WW0 : Nat := 89648761530908179774528531960903737588787524080458361052119002694918968717662416604848289712437060341694781082138596535661773195264
def aw3R1 : Nat := 8128
def aw3W1 : Nat := 2048
def aw3RR1 : Nat := 142902310678056587604909754600731638422318421984864386643669642159944849417504598702114284873728616299881533201409689947487610737044052508615
def aw3WW1 : Nat := 89648761530908179774528531960903737588787524080458361052119002694918968717662416604848289712437060341694781082138596535661773195264
def aw3R2 : Nat := 114688
def aw3W2 : Nat := 0
def aw3RR2 : Nat := 142902310678056587604909754600731638422318421984864386643669642159944849417504598702114284873728616299881533201409689947487610737044052502791
def aw3WW2 : Nat := 89648761530908179774528531960903737588787524080458361052119002694918968717662416604848289712437060341694781082138596535661773193216
def aw3R3 : Nat := 262144
def aw3W3 : Nat := 0
def aw3RR3 : Nat := 142902310678056587604909754600731638422318421984864386643669642159944849417504598702114284873728616299881533201409689947487610737044052453639
def aw3WW3 : Nat := 89648761530908179774528531960903737588787524080458361052119002694918968717662416604848289712437060341694781082138596535661773193216
def aw3R4 : Nat := 67108864
def aw3W4 : Nat := 0
def aw3RR4 : Nat := 142902310678056587604909754600731638422318421984864386643669642159944849417504598702114284873728616299881533201409689947487610737044052191495
def aw3WW4 : Nat := 89648761530908179774528531960903737588787524080458361052119002694918968717662416604848289712437060341694781082138596535661773193216
def aw3R5 : Nat := 1073741824
def aw3W5 : Nat := 4398046511104
def aw3RR5 : Nat := 142902310678056587604909754600731638422318421984864386643669642159944849417504598702114284873728616299881533201409689947487610737043985082631
def aw3WW5 : Nat := 89648761530908179774528531960903737588787524080458361052119002694918968717662416604848289712437060341694781082138596535661773193216
def aw3R6 : Nat := 71485847991484416
def aw3W6 : Nat := 49548391994097664
def aw3RR6 : Nat := 142902310678056587604909754600731638422318421984864386643669642159944849417504598702114284873728616299881533201409689947487610737042911340807
def aw3WW6 : Nat := 89648761530908179774528531960903737588787524080458361052119002694918968717662416604848289712437060341694781082138596531263726682112
def aw3R7 : Nat := 2233785415175766017
def aw3W7 : Nat := 20282409603651742481541289213952
def aw3RR7 : Nat := 142902310678056587604909754600731638422318421984864386643669642159944849417504598702114284873728616299881533201409689947487575279991938820359
def aw3WW7 : Nat := 89648761530908179774528531960903737588787524080458361052119002694918968717662416604848289712437060341694781082138546982871732584448
def aw3R8 : Nat := 1257509395426403566284729579732992
def aw3W8 : Nat := 40564819207303340847894502572032
def aw3RR8 : Nat := 142902310678056587604909754600731638422318421984864386643669642159944849417504598702114284873728616299881533201409689947485341494576763054342
def aw3WW8 : Nat := 89648761530908179774528531960903737588787524080458361052119002694918968717662416604848289712437060321412371478486804501330443370496
def aw3R9 : Nat := 748263147854953586862709994806938521608524889532672
def aw3W9 : Nat := 22835963083295358096932575511191922182123945984
def aw3RR9 : Nat := 142902310678056587604909754600731638422318421984864386643669642159944849417504598702114284873728616299881531943900294521081775209847183321350
def aw3WW9 : Nat := 89648761530908179774528531960903737588787524080458361052119002694918968717662416604848289712437060280847552271183463653435940798464
def aw3R10 : Nat := 30354201440888981806180781018463820481507870982493934242678704758137236329529868288
def aw3W10 : Nat := 2609201198670497000107967110970804630665207338103372528024796621718171317591605248
def aw3RR10 : Nat := 142902310678056587604909754600731638422318421984864386643669642159944849417504598702114284125465468444927945081190299714143253601322293788678
def aw3WW10 : Nat := 89648761530908179774528531960903737588787524080458361052119002694918968717662416604825453749353764922750619695672271731253816852480
def aw3R11 : Nat := 1912314690784702054186345314529401423726119232191949841232252840836733905748877115392
def aw3W11 : Nat := 30354201441027016733116592294117482916287606860189680019559568902170379456331382784
def aw3RR11 : Nat := 142902310678056587604909754600731638422318421984864386643639347244053649941590474789440144753192781448177599954916409211668128416515139567622
def aw3WW11 : Nat := 89648761530908179774528531960903737588787524080455751850920332197918860750551445800194788542015661550222594899050553559936225247232
def aw3R12 : Nat := 1159363550382981149119269962575204948572663602024566108049351158310089513862729070479394378597168534553362432
def aw3W12 : Nat := 1027487379963552037201647761095334949476861115147389943434439800045341448487641194015368311793336307576471552
def aw3RR12 : Nat := 142902310678056587604909754600731638422318421984864386641727032553268947887404129474910743329466662215985650113684156370831394510766262452230
def aw3WW12 : Nat := 89648761530908179774528531960903737588787524080425397649479305181185744158257328317278500935155471870203035330148383180479893864448
def aw3R13 : Nat := 1174271291386916613944740298394668513687841274454159935353645485766104512557304221731849499192384351515967488
def aw3W13 : Nat := 0
def aw3RR13 : Nat := 142902310678056587604909754600731066194413732462022239741913654682577219144439331988770370801051235178728066036724542901202393534407467073542
def aw3WW13 : Nat := 89648761530908179774527504473523774036750322432664302314529828320070596768313893877478455593706984229009019961836589844172317392896
def aw3R14 : Nat := 19239260838083241802870625048898248928261591440656956380834127638791856333738872368854622194768025215237611323392
def aw3W14 : Nat := 0
def aw3RR14 : Nat := 142902310678056587604909754600729891923122345545408295001615260014063531303164877828835017155565469074215508732502811051703201150055951106054
def aw3WW14 : Nat := 89648761530908179774527504473523774036750322432664302314529828320070596768313893877478455593706984229009019961836589844172317392896
def aw3R15 : Nat := 645247253472155991580281560679951819671985810293142154634321252787927939730038320972520024189995378533849339969264418816
def aw3W15 : Nat := 219390370501524460253969695277599641666683988257951607047136097674840178823696468684354634507199210288011304650028351488
def aw3RR15 : Nat := 142902310678056587604909754581490631085039103742537669952717011085801939862507921448000889516773612740476636363648188856935175934818339782662
def aw3WW15 : Nat := 89648761530908179774527504473523774036750322432664302314529828320070596768313893877478455593706984229009019961836589844172317392896
def aw3R16 : Nat := 163972867258518695443150867422191254019936317844655693064746869140331123998069415858982479933288752296179851420269465829376
def aw3W16 : Nat := 72302996586433440510365736816084332481231762199218258359258461983138133416471553449630069891843859280205288815236929814528
def aw3RR16 : Nat := 142902310678056587604264507328018475093458822181857718133045025275508797707873600195212961577043574419504116339458193478401326594849075363846
def aw3WW16 : Nat := 89648761530688789404025980013269804341472722790997618326271876713023460670639053698654759125022629594501820751548578539522289041408
def aw3R17 : Nat := 5123829320593948956160403310505283284008867976041193288760765112164092045257868844370362219706193146153723477230622347362304
def aw3W17 : Nat := 0
def aw3RR17 : Nat := 142902310678056587440291640069499779650307954759666464113108707430853104643126731054881837578974158560521636406169441182221475174579609534470
def aw3WW17 : Nat := 89648761458385792817592539502904067525388390309765856127053618353764998687500920282183205675392559702657961471343289724285359226880
def aw3R18 : Nat := 5288447750321988791615322464262168318627237463714249754277190362195246329890490766601513683517722278780729696200186866434048
def aw3W18 : Nat := 10576895500643977583230644928524336637254474927428499508554380724390492659780981533203027367035444557561459392400373732868096
def aw3RR18 : Nat := 142902310678056582316462319475550823489904644254383180104240731389659815882361618890789792321105314190159416699976295028497997943957262172166
def aw3WW18 : Nat := 89648761458385792817592539502904067525388390309765856127053618353764998687500920282183205675392559702657961471343289724285359226880
def aw3R19 : Nat := 21153791001287955166461289857048673274508949854856999017108761448780985319561963066406054734070889115122918784800747465736192
def aw3W19 : Nat := 0
def aw3RR19 : Nat := 142902310678056577028014569153562031874582179992214861477003267675410061605171256695543462430614547588645733182254016247768301743770395738118
def aw3WW19 : Nat := 89648750881490292173614956272259139001051753055290928698554109799384274297008260501201672472365192667213403909883897323911626358784
def aw3R20 : Nat := 1848841333512567281548716733506054044192082217314501714095305750623458116929715572003889183757795708661743101791585328505343180800
def aw3W20 : Nat := 923320669624216667105702379680460491085766643264798293098763219716392447228240563922491477032726168096885159118983025384453308416
def aw3RR20 : Nat := 142902310678056555874223567865606865413292322943541586968053412818411044496409807914558142868651481182590999111364901124849516943022930001926
def aw3WW20 : Nat := 89648750881490292173614956272259139001051753055290928698554109799384274297008260501201672472365192667213403909883897323911626358784
def aw3R21 : Nat := 16636018164724889157470485104858502220618622452254899451022877483687727846833753738239846436624837468584347265768421430973844946944
def aw3W21 : Nat := 0
def aw3RR21 : Nat := 142902310676207714540711000584058148679786268899349504750738911104315738745786349797628427296647591998833203402703158023057931614517586821126
def aw3WW21 : Nat := 88725430211866075506509253892578678509965986412026130405455346579667881849780019937279180995332466499116518750764914298527173050368
def aw3R22 : Nat := 2750488336567848340701786870669939033808945578772810042569115743969704337343180618055654610855306461472612081273712343254342364561414
def aw3W22 : Nat := 88725430211866075506509253892578678509965986412026130405455346579667881849780019937279180995332466499116518750764914298527173050368
def aw3RR22 : Nat := 142902310659571696375986111426587663574927766678730882298484011653292861262098621950794673558407745562208365934118810757289510183543741874182
def aw3WW22 : Nat := 88725430211866075506509253892578678509965986412026130405455346579667881849780019937279180995332466499116518750764914298527173050368
def aw3R23 : Nat := 142902307909083359808137770724800792904988732869785303525673969084177117292394284607614055502753134706901904461506729483577166929201377312768
def aw3W23 : Nat := 0
def aw3RR23 : Nat := 142902307909083359808137770724800792904988732869785303525673969084177117292394284607614055502753134706901904461506729483577166929201377312768
def aw3WW23 : Nat := 0
def aw3R24 : Nat := 0
def aw3W24 : Nat := 0
end Go.Proofs.YtencngffhbhifaaGreatDoor
end
section
set_option linter.all false
set_option maxRecDepth 1000000
open Go.RowKit
namespace Go.Proofs.YtencngffhbhifaaGreatDoor
open Mini
theorem gsz : Tryz.prog.globals.size = 6 := by kernel_rfl
theorem gfol : Tryz.prog.follows .mixedOrders = true := by kernel_rfl
theorem bl (w : World) : Holds Tryz.prog (noTabs 6) w := gsz ▸ noTabs_holds w

noncomputable def x_lw1f : CallS := bothX (kAll []) (tabT aw3S0 4)
noncomputable def lw1f_e0 (x0 f0 f1 f2 f3 : Int) (c : Nat) : Option OutS := evFS Tryz.prog x_lw1f 1000 3 #[.slice (some ⟨6, 0, none⟩) 1 c, .bool false, .agg #[.int .i16 f0, .int .i16 f1, .int .i16 f2, .int .i16 f3]] (aw3S0.push (.cells [.int .i8 x0] 0 true 0 true)) ⟨[1, 1, 1, 0, 0, 1, 0, 0, 1, 1, 1, 0, 1, 1, 1, 0, 0, 0, 0, 1, 0, 1, 1, 1, 0, 0, 0, 1, 1, 1, 1, 1, 0, 0, 0, 0, 0, 1, 0, 0, 0, 0, 0, 0, 0, 0, 0, 1, 0, 0, 1, 1, 1, 1, 1, 0, 0, 1], True⟩
noncomputable def lw1f_e1 (x0 f0 f1 f2 f3 : Int) (c : Nat) : Option OutS := evFS Tryz.prog x_lw1f 1000 3 #[.slice (some ⟨6, 0, none⟩) 1 c, .bool false, .agg #[.int .i16 f0, .int .i16 f1, .int .i16 f2, .int .i16 f3]] (aw3S0.push (.cells [.int .i8 x0] 0 true 0 true)) ⟨[1, 1, 1, 0, 0, 1, 0, 0, 1, 1, 1, 0, 1, 1, 1, 0, 0, 0, 0, 1, 0, 1, 1, 1, 0, 0, 0, 1, 1, 1, 1, 1, 0, 0, 0, 0, 0, 1, 0, 0, 0, 0, 0, 0, 0, 0, 0, 1, 0, 0, 1, 0, 0, 1, 1, 1, 0, 0, 0, 0, 0, 1, 0, 1, 1, 1, 0, 0, 0, 1, 1, 1, 1, 1, 0, 0, 0, 0, 0, 1, 0, 0, 0, 1, 0, 1, 1, 1, 0, 0, 0, 0, 1, 1, 1, 0, 0, 1, 0, 0, 1, 1, 0, 1, 2, 0, 0, 0, 1, 0, 1, 0, 0, 0, 1, 0, 1, 0, 0, 0, 1, 0, 0, 0, 1, 1, 0, 0, 0, 1, 1, 1, 0, 0, 0, 1, 1, 0, 1, 0, 1, 1, 1, 0, 0, 0, 1, 1, 0, 2, 0, 1, 1, 1, 0, 0, 0, 1, 1, 0, 3, 0, 1, 1, 1, 0, 0, 0, 1, 1, 0, 4, 0, 1, 1, 1, 0, 0, 0, 1, 1, 0, 5, 0, 1, 1, 1, 0, 0, 0, 0, 1, 1, 1, 1, 1, 1, 0, 0, 1, 0, 0, 1, 1, 0, 1, 2, 0, 1, 3, 0, 1, 4, 0, 1, 5, 0, 0], True⟩
noncomputable def x_lw1t : CallS := bothX (kAll []) (tabT aw3S0 4)
noncomputable def lw1t_e0 (x0 f0 f1 f2 f3 : Int) (c : Nat) : Option OutS := evFS Tryz.prog x_lw1t 1000 3 #[.slice (some ⟨6, 0, none⟩) 1 c, .bool true, .agg #[.int .i16 f0, .int .i16 f1, .int .i16 f2, .int .i16 f3]] (aw3S0.push (.cells [.int .i8 x0] 0 true 0 true)) ⟨[1, 1, 1, 0, 0, 1, 0, 0, 1, 1, 1, 0, 1, 1, 1, 0, 1, 0, 0, 1, 0, 1, 1, 1, 0, 0, 0, 1, 1, 1, 1, 1, 0, 0, 0, 0, 0, 1, 0, 0, 0, 0, 0, 0, 0, 0, 0, 1, 0, 0, 1, 1, 1, 1, 1, 0, 0, 1], True⟩
noncomputable def lw1t_e1 (x0 f0 f1 f2 f3 : Int) (c : Nat) : Option OutS := evFS Tryz.prog x_lw1t 1000 3 #[.slice (some ⟨6, 0, none⟩) 1 c, .bool true, .agg #[.int .i16 f0, .int .i16 f1, .int .i16 f2, .int .i16 f3]] (aw3S0.push (.cells [.int .i8 x0] 0 true 0 true)) ⟨[1, 1, 1, 0, 0, 1, 0, 0, 1, 1, 1, 0, 1, 1, 1, 0, 1, 0, 0, 1, 0, 1, 1, 1, 0, 0, 0, 1, 1, 1, 1, 1, 0, 0, 0, 0, 0, 1, 0, 0, 0, 0, 0, 0, 0, 0, 0, 1, 0, 0, 1, 0, 0, 1, 1, 1, 0, 0, 0, 0, 0, 1, 0, 1, 1, 1, 0, 0, 0, 1, 1, 1, 1, 1, 0, 0, 0, 0, 0, 1, 0, 0, 0, 1, 0, 1, 1, 1, 0, 0, 0, 0, 1, 1, 1, 0, 0, 1, 0, 0, 1, 1, 0, 1, 2, 0, 0, 0, 1, 0, 1, 0, 0, 0, 1, 0, 1, 0, 0, 0, 1, 0, 0, 0, 1, 1, 0, 0, 0, 1, 1, 1, 0, 0, 0, 1, 1, 0, 1, 0, 1, 1, 1, 0, 0, 0, 1, 1, 0, 2, 0, 1, 1, 1, 0, 0, 0, 1, 1, 0, 3, 0, 1, 1, 1, 0, 0, 0, 1, 1, 0, 4, 0, 1, 1, 1, 0, 0, 0, 1, 1, 0, 5, 0, 1, 1, 1, 0, 0, 0, 0, 1, 1, 1, 1, 1, 1, 0, 0, 1, 0, 0, 1, 1, 0, 1, 2, 0, 1, 3, 0, 1, 4, 0, 1, 5, 0, 0], True⟩
noncomputable def x_lw2f : CallS := bothX (kAll []) (tabT aw3S0 4)
noncomputable def lw2f_e0 (x0 x1 f0 f1 f2 f3 : Int) (c : Nat) : Option OutS := evFS Tryz.prog x_lw2f 1000 3 #[.slice (some ⟨6, 0, none⟩) 2 c, .bool false, .agg #[.int .i16 f0, .int .i16 f1, .int .i16 f2, .int .i16 f3]] (aw3S0.push (.cells [.int .i8 x0, .int .i8 x1] 0 true 0 true)) ⟨[1, 1, 1, 0, 0, 1, 0, 0, 1, 1, 1, 0, 1, 1, 1, 1, 1, 1, 0, 0, 0, 0, 0, 0, 0, 0, 0, 0, 1, 0, 1, 1, 1, 0, 0, 0, 1, 1, 1, 1, 1, 0, 0, 0, 1, 2, 1, 1, 1, 0, 0, 0, 0, 0, 2, 0, 0, 0, 0, 1, 1, 0, 2, 1, 1, 0, 1, 0, 0, 2, 1, 1, 1, 1, 0, 0, 1], True⟩
noncomputable def lw2f_e1 (x0 x1 f0 f1 f2 f3 : Int) (c : Nat) : Option OutS := evFS Tryz.prog x_lw2f 1000 3 #[.slice (some ⟨6, 0, none⟩) 2 c, .bool false, .agg #[.int .i16 f0, .int .i16 f1, .int .i16 f2, .int .i16 f3]] (aw3S0.push (.cells [.int .i8 x0, .int .i8 x1] 0 true 0 true)) ⟨[1, 1, 1, 0, 0, 1, 0, 0, 1, 1, 1, 0, 1, 1, 1, 1, 1, 1, 1, 1, 1, 1, 1, 1, 1, 0, 0, 0, 0, 1, 0, 1, 1, 1, 0, 0, 0, 1, 1, 1, 1, 1, 0, 0, 0, 1, 2, 1, 1, 1, 0, 0, 0, 0, 0, 2, 0, 0, 0, 0, 1, 1, 0, 2, 1, 1, 1, 0, 1, 2, 0, 0, 1, 0, 1, 2, 1, 0, 0, 1, 0, 0, 0, 0, 0, 0, 1, 0, 0, 2, 0, 1, 1, 0, 1, 1, 1, 1, 1, 0, 0, 1], True⟩
noncomputable def lw2f_e2 (x0 x1 f0 f1 f2 f3 : Int) (c : Nat) : Option OutS := evFS Tryz.prog x_lw2f 1000 3 #[.slice (some ⟨6, 0, none⟩) 2 c, .bool false, .agg #[.int .i16 f0, .int .i16 f1, .int .i16 f2, .int .i16 f3]] (aw3S0.push (.cells [.int .i8 x0, .int .i8 x1] 0 true 0 true)) ⟨[1, 1, 1, 0, 0, 1, 0, 0, 1, 1, 1, 0, 1, 1, 1, 1, 1, 1, 1, 1, 1, 1, 1, 1, 1, 0, 0, 0, 0, 1, 0, 1, 1, 1, 0, 0, 0, 1, 1, 1, 1, 1, 0, 0, 0, 1, 2, 1, 1, 1, 0, 0, 0, 0, 0, 2, 0, 0, 0, 0, 1, 1, 0, 2, 1, 1, 1, 0, 1, 2, 0, 0, 1, 0, 1, 2, 1, 0, 0, 1, 0, 0, 0, 0, 0, 0, 1, 0, 0, 2, 0, 1, 1, 0, 1, 0, 0, 1, 1, 1, 0, 0, 0, 0, 0, 1, 0, 1, 1, 1, 0, 0, 0, 1, 1, 1, 1, 1, 0, 0, 0, 1, 2, 1, 1, 1, 0, 0, 0, 0, 0, 2, 0, 0, 0, 1, 0, 1, 1, 1, 0, 0, 0, 1, 1, 1, 1, 1, 0, 0, 0, 0, 1, 1, 1, 0, 0, 1, 0, 0, 1, 1, 0, 1, 2, 0, 0, 0, 1, 0, 2, 0, 0, 1, 1, 2, 1, 0, 1, 0, 1, 0, 2, 1, 0, 0, 1, 1, 2, 0, 1, 0, 1, 0, 0, 1, 1, 1, 0, 1, 1, 0, 0, 1, 1, 1, 0, 1, 1, 1, 0, 0, 0, 1, 1, 0, 1, 1, 1, 2, 0, 1, 1, 1, 0, 0, 0, 1, 1, 0, 2, 1, 1, 3, 0, 1, 1, 1, 0, 0, 0, 1, 1, 0, 3, 1, 1, 4, 0, 1, 1, 1, 0, 0, 0, 1, 1, 0, 4, 1, 1, 5, 0, 1, 1, 1, 0, 0, 0, 1, 1, 0, 5, 1, 1, 6, 0, 1, 1, 1, 0, 0, 0, 0, 1, 1, 1, 1, 1, 1, 0, 0, 1, 0, 0, 1, 1, 0, 1, 2, 0, 1, 3, 0, 1, 4, 0, 1, 5, 0, 0], True⟩
noncomputable def x_lw2t : CallS := bothX (kAll []) (tabT aw3S0 4)
noncomputable def lw2t_e0 (x0 x1 f0 f1 f2 f3 : Int) (c : Nat) : Option OutS := evFS Tryz.prog x_lw2t 1000 3 #[.slice (some ⟨6, 0, none⟩) 2 c, .bool true, .agg #[.int .i16 f0, .int .i16 f1, .int .i16 f2, .int .i16 f3]] (aw3S0.push (.cells [.int .i8 x0, .int .i8 x1] 0 true 0 true)) ⟨[1, 1, 1, 0, 0, 1, 0, 0, 1, 1, 1, 0, 1, 1, 1, 1, 1, 1, 0, 0, 0, 0, 0, 0, 0, 1, 0, 0, 1, 0, 1, 1, 1, 0, 0, 0, 1, 1, 1, 1, 1, 0, 0, 0, 1, 2, 1, 1, 1, 0, 0, 0, 0, 0, 2, 0, 0, 0, 0, 1, 1, 0, 2, 1, 1, 0, 1, 0, 0, 2, 1, 1, 1, 1, 0, 0, 1], True⟩
noncomputable def lw2t_e1 (x0 x1 f0 f1 f2 f3 : Int) (c : Nat) : Option OutS := evFS Tryz.prog x_lw2t 1000 3 #[.slice (some ⟨6, 0, none⟩) 2 c, .bool true, .agg #[.int .i16 f0, .int .i16 f1, .int .i16 f2, .int .i16 f3]] (aw3S0.push (.cells [.int .i8 x0, .int .i8 x1] 0 true 0 true)) ⟨[1, 1, 1, 0, 0, 1, 0, 0, 1, 1, 1, 0, 1, 1, 1, 1, 1, 1, 1, 1, 1, 1, 1, 1, 1, 0, 1, 0, 0, 1, 0, 1, 1, 1, 0, 0, 0, 1, 1, 1, 1, 1, 0, 0, 0, 1, 2, 1, 1, 1, 0, 0, 0, 0, 0, 2, 0, 0, 0, 0, 1, 1, 0, 2, 1, 1, 1, 0, 1, 2, 0, 0, 1, 0, 1, 2, 1, 0, 0, 1, 0, 0, 0, 0, 0, 0, 1, 0, 0, 2, 0, 1, 1, 0, 1, 1, 1, 1, 1, 0, 0, 1], True⟩
noncomputable def lw2t_e2 (x0 x1 f0 f1 f2 f3 : Int) (c : Nat) : Option OutS := evFS Tryz.prog x_lw2t 1000 3 #[.slice (some ⟨6, 0, none⟩) 2 c, .bool true, .agg #[.int .i16 f0, .int .i16 f1, .int .i16 f2, .int .i16 f3]] (aw3S0.push (.cells [.int .i8 x0, .int .i8 x1] 0 true 0 true)) ⟨[1, 1, 1, 0, 0, 1, 0, 0, 1, 1, 1, 0, 1, 1, 1, 1, 1, 1, 1, 1, 1, 1, 1, 1, 1, 0, 1, 0, 0, 1, 0, 1, 1, 1, 0, 0, 0, 1, 1, 1, 1, 1, 0, 0, 0, 1, 2, 1, 1, 1, 0, 0, 0, 0, 0, 2, 0, 0, 0, 0, 1, 1, 0, 2, 1, 1, 1, 0, 1, 2, 0, 0, 1, 0, 1, 2, 1, 0, 0, 1, 0, 0, 0, 0, 0, 0, 1, 0, 0, 2, 0, 1, 1, 0, 1, 0, 0, 1, 1, 1, 0, 0, 0, 0, 0, 1, 0, 1, 1, 1, 0, 0, 0, 1, 1, 1, 1, 1, 0, 0, 0, 1, 2, 1, 1, 1, 0, 0, 0, 0, 0, 2, 0, 0, 0, 1, 0, 1, 1, 1, 0, 0, 0, 1, 1, 1, 1, 1, 0, 0, 0, 0, 1, 1, 1, 0, 0, 1, 0, 0, 1, 1, 0, 1, 2, 0, 0, 0, 1, 0, 2, 0, 0, 1, 1, 2, 1, 0, 1, 0, 1, 0, 2, 1, 0, 0, 1, 1, 2, 0, 1, 0, 1, 0, 0, 1, 1, 1, 0, 1, 1, 0, 0, 1, 1, 1, 0, 1, 1, 1, 0, 0, 0, 1, 1, 0, 1, 1, 1, 2, 0, 1, 1, 1, 0, 0, 0, 1, 1, 0, 2, 1, 1, 3, 0, 1, 1, 1, 0, 0, 0, 1, 1, 0, 3, 1, 1, 4, 0, 1, 1, 1, 0, 0, 0, 1, 1, 0, 4, 1, 1, 5, 0, 1, 1, 1, 0, 0, 0, 1, 1, 0, 5, 1, 1, 6, 0, 1, 1, 1, 0, 0, 0, 0, 1, 1, 1, 1, 1, 1, 0, 0, 1, 0, 0, 1, 1, 0, 1, 2, 0, 1, 3, 0, 1, 4, 0, 1, 5, 0, 0], True⟩
noncomputable def x_lw3f : CallS := bothX (kAll []) (tabT aw3S0 4)
noncomputable def lw3f_e0 (x0 x1 x2 f0 f1 f2 f3 : Int) (c : Nat) : Option OutS := evFS Tryz.prog x_lw3f 1000 3 #[.slice (some ⟨6, 0, none⟩) 3 c, .bool false, .agg #[.int .i16 f0, .int .i16 f1, .int .i16 f2, .int .i16 f3]] (aw3S0.push (.cells [.int .i8 x0, .int .i8 x1, .int .i8 x2] 0 true 0 true)) ⟨[1, 1, 1, 0, 0, 1, 0, 0, 1, 1, 1, 0, 1, 1, 1, 1, 1, 1, 0, 0, 0, 0, 0, 0, 1, 2, 2, 0, 0, 0, 0, 0, 0, 0, 0, 0, 0, 1, 0, 1, 1, 1, 0, 0, 0, 1, 1, 1, 1, 1, 0, 0, 0, 1, 2, 1, 1, 1, 0, 0, 0, 1, 3, 1, 1, 1, 0, 0, 0, 0, 0, 3, 0, 0, 0, 0, 1, 1, 0, 3, 1, 1, 0, 1, 0, 0, 3, 1, 1, 1, 1, 0, 0, 1], True⟩
noncomputable def lw3f_e1 (x0 x1 x2 f0 f1 f2 f3 : Int) (c : Nat) : Option OutS := evFS Tryz.prog x_lw3f 1000 3 #[.slice (some ⟨6, 0, none⟩) 3 c, .bool false, .agg #[.int .i16 f0, .int .i16 f1, .int .i16 f2, .int .i16 f3]] (aw3S0.push (.cells [.int .i8 x0, .int .i8 x1, .int .i8 x2] 0 true 0 true)) ⟨[1, 1, 1, 0, 0, 1, 0, 0, 1, 1, 1, 0, 1, 1, 1, 1, 1, 1, 1, 1, 1, 1, 1, 1, 1, 1, 2, 2, 0, 0, 0, 0, 0, 0, 0, 0, 0, 0, 1, 0, 1, 1, 1, 0, 0, 0, 1, 1, 1, 1, 1, 0, 0, 0, 1, 2, 1, 1, 1, 0, 0, 0, 1, 3, 1, 1, 1, 0, 0, 0, 0, 0, 3, 0, 0, 0, 0, 1, 1, 0, 3, 1, 1, 1, 0, 1, 3, 0, 0, 2, 0, 1, 3, 1, 0, 1, 1, 1, 3, 2, 0, 0, 2, 0, 1, 1, 0, 2, 1, 1, 0, 1, 0, 0, 3, 0, 1, 1, 0, 2, 1, 1, 1, 1, 0, 0, 1], True⟩
noncomputable def lw3f_e2 (x0 x1 x2 f0 f1 f2 f3 : Int) (c : Nat) : Option OutS := evFS Tryz.prog x_lw3f 1000 3 #[.slice (some ⟨6, 0, none⟩) 3 c, .bool false, .agg #[.int .i16 f0, .int .i16 f1, .int .i16 f2, .int .i16 f3]] (aw3S0.push (.cells [.int .i8 x0, .int .i8 x1, .int .i8 x2] 0 true 0 true)) ⟨[1, 1, 1, 0, 0, 1, 0, 0, 1, 1, 1, 0, 1, 1, 1, 1, 1, 1, 1, 1, 1, 1, 1, 1, 1, 1, 2, 2, 1, 1, 1, 2, 1, 1, 1, 0, 0, 0, 0, 1, 0, 1, 1, 1, 0, 0, 0, 1, 1, 1, 1, 1, 0, 0, 0, 1, 2, 1, 1, 1, 0, 0, 0, 1, 3, 1, 1, 1, 0, 0, 0, 0, 0, 3, 0, 0, 0, 0, 1, 1, 0, 3, 1, 1, 1, 0, 1, 3, 0, 0, 2, 0, 1, 3, 1, 0, 1, 1, 1, 3, 2, 0, 0, 2, 0, 1, 1, 0, 2, 1, 1, 1, 0, 1, 2, 0, 0, 1, 0, 1, 2, 1, 0, 0, 1, 0, 0, 0, 0, 0, 0, 1, 0, 0, 3, 0, 1, 1, 0, 2, 0, 1, 2, 0, 1, 1, 1, 1, 1, 0, 0, 1], True⟩
noncomputable def lw3f_e3 (x0 x1 x2 f0 f1 f2 f3 : Int) (c : Nat) : Option OutS := evFS Tryz.prog x_lw3f 1000 3 #[.slice (some ⟨6, 0, none⟩) 3 c, .bool false, .agg #[.int .i16 f0, .int .i16 f1, .int .i16 f2, .int .i16 f3]] (aw3S0.push (.cells [.int .i8 x0, .int .i8 x1, .int .i8 x2] 0 true 0 true)) ⟨[1, 1, 1, 0, 0, 1, 0, 0, 1, 1, 1, 0, 1, 1, 1, 1, 1, 1, 1, 1, 1, 1, 1, 1, 1, 1, 2, 2, 1, 1, 1, 2, 1, 1, 1, 0, 0, 0, 0, 1, 0, 1, 1, 1, 0, 0, 0, 1, 1, 1, 1, 1, 0, 0, 0, 1, 2, 1, 1, 1, 0, 0, 0, 1, 3, 1, 1, 1, 0, 0, 0, 0, 0, 3, 0, 0, 0, 0, 1, 1, 0, 3, 1, 1, 1, 0, 1, 3, 0, 0, 2, 0, 1, 3, 1, 0, 1, 1, 1, 3, 2, 0, 0, 2, 0, 1, 1, 0, 2, 1, 1, 1, 0, 1, 2, 0, 0, 1, 0, 1, 2, 1, 0, 0, 1, 0, 0, 0, 0, 0, 0, 1, 0, 0, 3, 0, 1, 1, 0, 2, 0, 1, 2, 0, 1, 0, 0, 1, 1, 1, 0, 0, 0, 0, 0, 1, 0, 1, 1, 1, 0, 0, 0, 1, 1, 1, 1, 1, 0, 0, 0, 1, 2, 1, 1, 1, 0, 0, 0, 1, 3, 1, 1, 1, 0, 0, 0, 0, 0, 3, 0, 0, 0, 1, 0, 1, 1, 1, 0, 0, 0, 1, 1, 1, 1, 1, 0, 0, 0, 1, 2, 1, 1, 1, 0, 0, 0, 0, 1, 1, 1, 0, 0, 1, 0, 0, 1, 1, 0, 1, 2, 0, 0, 0, 1, 0, 3, 0, 0, 1, 1, 3, 1, 0, 1, 1, 2, 3, 1, 1, 0, 2, 0, 1, 0, 3, 1, 1, 0, 0, 1, 1, 3, 1, 0, 1, 1, 2, 3, 0, 2, 0, 1, 0, 0, 1, 1, 1, 1, 2, 2, 0, 1, 1, 0, 0, 1, 1, 1, 1, 2, 2, 0, 1, 1, 1, 0, 0, 0, 1, 1, 0, 1, 1, 1, 2, 1, 2, 3, 0, 1, 1, 1, 0, 0, 0, 1, 1, 0, 2, 1, 1, 3, 1, 2, 4, 0, 1, 1, 1, 0, 0, 0, 1, 1, 0, 3, 1, 1, 4, 1, 2, 5, 0, 1, 1, 1, 0, 0, 0, 1, 1, 0, 4, 1, 1, 5, 1, 2, 6, 0, 1, 1, 1, 0, 0, 0, 1, 1, 0, 5, 1, 1, 6, 1, 2, 7, 0, 1, 1, 1, 0, 0, 0, 0, 1, 1, 1, 1, 1, 1, 0, 0, 1, 0, 0, 1, 1, 0, 1, 2, 0, 1, 3, 0, 1, 4, 0, 1, 5, 0, 0], True⟩
noncomputable def x_lw3t : CallS := bothX (kAll []) (tabT aw3S0 4)
noncomputable def lw3t_e0 (x0 x1 x2 f0 f1 f2 f3 : Int) (c : Nat) : Option OutS := evFS Tryz.prog x_lw3t 1000 3 #[.slice (some ⟨6, 0, none⟩) 3 c, .bool true, .agg #[.int .i16 f0, .int .i16 f1, .int .i16 f2, .int .i16 f3]] (aw3S0.push (.cells [.int .i8 x0, .int .i8 x1, .int .i8 x2] 0 true 0 true)) ⟨[1, 1, 1, 0, 0, 1, 0, 0, 1, 1, 1, 0, 1, 1, 1, 1, 1, 1, 0, 0, 0, 0, 0, 0, 1, 2, 2, 0, 0, 0, 0, 0, 0, 0, 1, 0, 0, 1, 0, 1, 1, 1, 0, 0, 0, 1, 1, 1, 1, 1, 0, 0, 0, 1, 2, 1, 1, 1, 0, 0, 0, 1, 3, 1, 1, 1, 0, 0, 0, 0, 0, 3, 0, 0, 0, 0, 1, 1, 0, 3, 1, 1, 0, 1, 0, 0, 3, 1, 1, 1, 1, 0, 0, 1], True⟩
noncomputable def lw3t_e1 (x0 x1 x2 f0 f1 f2 f3 : Int) (c : Nat) : Option OutS := evFS Tryz.prog x_lw3t 1000 3 #[.slice (some ⟨6, 0, none⟩) 3 c, .bool true, .agg #[.int .i16 f0, .int .i16 f1, .int .i16 f2, .int .i16 f3]] (aw3S0.push (.cells [.int .i8 x0, .int .i8 x1, .int .i8 x2] 0 true 0 true)) ⟨[1, 1, 1, 0, 0, 1, 0, 0, 1, 1, 1, 0, 1, 1, 1, 1, 1, 1, 1, 1, 1, 1, 1, 1, 1, 1, 2, 2, 0, 0, 0, 0, 0, 0, 0, 1, 0, 0, 1, 0, 1, 1, 1, 0, 0, 0, 1, 1, 1, 1, 1, 0, 0, 0, 1, 2, 1, 1, 1, 0, 0, 0, 1, 3, 1, 1, 1, 0, 0, 0, 0, 0, 3, 0, 0, 0, 0, 1, 1, 0, 3, 1, 1, 1, 0, 1, 3, 0, 0, 2, 0, 1, 3, 1, 0, 1, 1, 1, 3, 2, 0, 0, 2, 0, 1, 1, 0, 2, 1, 1, 0, 1, 0, 0, 3, 0, 1, 1, 0, 2, 1, 1, 1, 1, 0, 0, 1], True⟩
noncomputable def lw3t_e2 (x0 x1 x2 f0 f1 f2 f3 : Int) (c : Nat) : Option OutS := evFS Tryz.prog x_lw3t 1000 3 #[.slice (some ⟨6, 0, none⟩) 3 c, .bool true, .agg #[.int .i16 f0, .int .i16 f1, .int .i16 f2, .int .i16 f3]] (aw3S0.push (.cells [.int .i8 x0, .int .i8 x1, .int .i8 x2] 0 true 0 true)) ⟨[1, 1, 1, 0, 0, 1, 0, 0, 1, 1, 1, 0, 1, 1, 1, 1, 1, 1, 1, 1, 1, 1, 1, 1, 1, 1, 2, 2, 1, 1, 1, 2, 1, 1, 1, 0, 1, 0, 0, 1, 0, 1, 1, 1, 0, 0, 0, 1, 1, 1, 1, 1, 0, 0, 0, 1, 2, 1, 1, 1, 0, 0, 0, 1, 3, 1, 1, 1, 0, 0, 0, 0, 0, 3, 0, 0, 0, 0, 1, 1, 0, 3, 1, 1, 1, 0, 1, 3, 0, 0, 2, 0, 1, 3, 1, 0, 1, 1, 1, 3, 2, 0, 0, 2, 0, 1, 1, 0, 2, 1, 1, 1, 0, 1, 2, 0, 0, 1, 0, 1, 2, 1, 0, 0, 1, 0, 0, 0, 0, 0, 0, 1, 0, 0, 3, 0, 1, 1, 0, 2, 0, 1, 2, 0, 1, 1, 1, 1, 1, 0, 0, 1], True⟩
noncomputable def lw3t_e3 (x0 x1 x2 f0 f1 f2 f3 : Int) (c : Nat) : Option OutS := evFS Tryz.prog x_lw3t 1000 3 #[.slice (some ⟨6, 0, none⟩) 3 c, .bool true, .agg #[.int .i16 f0, .int .i16 f1, .int .i16 f2, .int .i16 f3]] (aw3S0.push (.cells [.int .i8 x0, .int .i8 x1, .int .i8 x2] 0 true 0 true)) ⟨[1, 1, 1, 0, 0, 1, 0, 0, 1, 1, 1, 0, 1, 1, 1, 1, 1, 1, 1, 1, 1, 1, 1, 1, 1, 1, 2, 2, 1, 1, 1, 2, 1, 1, 1, 0, 1, 0, 0, 1, 0, 1, 1, 1, 0, 0, 0, 1, 1, 1, 1, 1, 0, 0, 0, 1, 2, 1, 1, 1, 0, 0, 0, 1, 3, 1, 1, 1, 0, 0, 0, 0, 0, 3, 0, 0, 0, 0, 1, 1, 0, 3, 1, 1, 1, 0, 1, 3, 0, 0, 2, 0, 1, 3, 1, 0, 1, 1, 1, 3, 2, 0, 0, 2, 0, 1, 1, 0, 2, 1, 1, 1, 0, 1, 2, 0, 0, 1, 0, 1, 2, 1, 0, 0, 1, 0, 0, 0, 0, 0, 0, 1, 0, 0, 3, 0, 1, 1, 0, 2, 0, 1, 2, 0, 1, 0, 0, 1, 1, 1, 0, 0, 0, 0, 0, 1, 0, 1, 1, 1, 0, 0, 0, 1, 1, 1, 1, 1, 0, 0, 0, 1, 2, 1, 1, 1, 0, 0, 0, 1, 3, 1, 1, 1, 0, 0, 0, 0, 0, 3, 0, 0, 0, 1, 0, 1, 1, 1, 0, 0, 0, 1, 1, 1, 1, 1, 0, 0, 0, 1, 2, 1, 1, 1, 0, 0, 0, 0, 1, 1, 1, 0, 0, 1, 0, 0, 1, 1, 0, 1, 2, 0, 0, 0, 1, 0, 3, 0, 0, 1, 1, 3, 1, 0, 1, 1, 2, 3, 1, 1, 0, 2, 0, 1, 0, 3, 1, 1, 0, 0, 1, 1, 3, 1, 0, 1, 1, 2, 3, 0, 2, 0, 1, 0, 0, 1, 1, 1, 1, 2, 2, 0, 1, 1, 0, 0, 1, 1, 1, 1, 2, 2, 0, 1, 1, 1, 0, 0, 0, 1, 1, 0, 1, 1, 1, 2, 1, 2, 3, 0, 1, 1, 1, 0, 0, 0, 1, 1, 0, 2, 1, 1, 3, 1, 2, 4, 0, 1, 1, 1, 0, 0, 0, 1, 1, 0, 3, 1, 1, 4, 1, 2, 5, 0, 1, 1, 1, 0, 0, 0, 1, 1, 0, 4, 1, 1, 5, 1, 2, 6, 0, 1, 1, 1, 0, 0, 0, 1, 1, 0, 5, 1, 1, 6, 1, 2, 7, 0, 1, 1, 1, 0, 0, 0, 0, 1, 1, 1, 1, 1, 1, 0, 0, 1, 0, 0, 1, 1, 0, 1, 2, 0, 1, 3, 0, 1, 4, 0, 1, 5, 0, 0], True⟩
noncomputable def x_lw4f : CallS := bothX (kAll []) (tabT aw3S0 4)
noncomputable def lw4f_e0 (x0 x1 x2 x3 f0 f1 f2 f3 : Int) (c : Nat) : Option OutS := evFS Tryz.prog x_lw4f 1000 3 #[.slice (some ⟨6, 0, none⟩) 4 c, .bool false, .agg #[.int .i16 f0, .int .i16 f1, .int .i16 f2, .int .i16 f3]] (aw3S0.push (.cells [.int .i8 x0, .int .i8 x1, .int .i8 x2, .int .i8 x3] 0 true 0 true)) ⟨[1, 1, 1, 0, 0, 1, 0, 0, 1, 1, 1, 0, 1, 1, 1, 1, 1, 1, 0, 0, 0, 0, 0, 0, 1, 2, 2, 0, 0, 0, 0, 0, 0, 1, 3, 3, 0, 0, 0, 0, 0, 0, 0, 0, 0, 0, 1, 0, 1, 1, 1, 0, 0, 0, 1, 1, 1, 1, 1, 0, 0, 0, 1, 2, 1, 1, 1, 0, 0, 0, 1, 3, 1, 1, 1, 0, 0, 0, 1, 4, 1, 1, 1, 0, 0, 0, 0, 0, 4, 0, 0, 0, 0, 1, 1, 0, 4, 1, 1, 0, 1, 0, 0, 4, 1, 1, 1, 1, 0, 0, 1], True⟩
noncomputable def lw4f_e1 (x0 x1 x2 x3 f0 f1 f2 f3 : Int) (c : Nat) : Option OutS := evFS Tryz.prog x_lw4f 1000 3 #[.slice (some ⟨6, 0, none⟩) 4 c, .bool false, .agg #[.int .i16 f0, .int .i16 f1, .int .i16 f2, .int .i16 f3]] (aw3S0.push (.cells [.int .i8 x0, .int .i8 x1, .int .i8 x2, .int .i8 x3] 0 true 0 true)) ⟨[1, 1, 1, 0, 0, 1, 0, 0, 1, 1, 1, 0, 1, 1, 1, 1, 1, 1, 1, 1, 1, 1, 1, 1, 1, 1, 2, 2, 0, 0, 0, 0, 0, 0, 1, 3, 3, 0, 0, 0, 0, 0, 0, 0, 0, 0, 0, 1, 0, 1, 1, 1, 0, 0, 0, 1, 1, 1, 1, 1, 0, 0, 0, 1, 2, 1, 1, 1, 0, 0, 0, 1, 3, 1, 1, 1, 0, 0, 0, 1, 4, 1, 1, 1, 0, 0, 0, 0, 0, 4, 0, 0, 0, 0, 1, 1, 0, 4, 1, 1, 1, 0, 1, 4, 0, 0, 3, 0, 1, 4, 1, 0, 2, 1, 1, 4, 2, 0, 1, 2, 1, 4, 3, 0, 0, 3, 0, 1, 1, 0, 3, 1, 1, 0, 1, 0, 0, 4, 0, 1, 1, 0, 3, 1, 1, 1, 1, 0, 0, 1], True⟩
noncomputable def lw4f_e2 (x0 x1 x2 x3 f0 f1 f2 f3 : Int) (c : Nat) : Option OutS := evFS Tryz.prog x_lw4f 1000 3 #[.slice (some ⟨6, 0, none⟩) 4 c, .bool false, .agg #[.int .i16 f0, .int .i16 f1, .int .i16 f2, .int .i16 f3]] (aw3S0.push (.cells [.int .i8 x0, .int .i8 x1, .int .i8 x2, .int .i8 x3] 0 true 0 true)) ⟨[1, 1, 1, 0, 0, 1, 0, 0, 1, 1, 1, 0, 1, 1, 1, 1, 1, 1, 1, 1, 1, 1, 1, 1, 1, 1, 2, 2, 1, 1, 1, 2, 1, 1, 1, 1, 3, 3, 0, 0, 0, 0, 0, 0, 0, 0, 0, 0, 1, 0, 1, 1, 1, 0, 0, 0, 1, 1, 1, 1, 1, 0, 0, 0, 1, 2, 1, 1, 1, 0, 0, 0, 1, 3, 1, 1, 1, 0, 0, 0, 1, 4, 1, 1, 1, 0, 0, 0, 0, 0, 4, 0, 0, 0, 0, 1, 1, 0, 4, 1, 1, 1, 0, 1, 4, 0, 0, 3, 0, 1, 4, 1, 0, 2, 1, 1, 4, 2, 0, 1, 2, 1, 4, 3, 0, 0, 3, 0, 1, 1, 0, 3, 1, 1, 1, 0, 1, 3, 0, 0, 2, 0, 1, 3, 1, 0, 1, 1, 1, 3, 2, 0, 0, 2, 0, 1, 1, 0, 2, 1, 1, 0, 1, 0, 0, 4, 0, 1, 1, 0, 3, 0, 1, 2, 0, 2, 1, 1, 1, 1, 0, 0, 1], True⟩
noncomputable def lw4f_e3 (x0 x1 x2 x3 f0 f1 f2 f3 : Int) (c : Nat) : Option OutS := evFS Tryz.prog x_lw4f 1000 3 #[.slice (some ⟨6, 0, none⟩) 4 c, .bool false, .agg #[.int .i16 f0, .int .i16 f1, .int .i16 f2, .int .i16 f3]] (aw3S0.push (.cells [.int .i8 x0, .int .i8 x1, .int .i8 x2, .int .i8 x3] 0 true 0 true)) ⟨[1, 1, 1, 0, 0, 1, 0, 0, 1, 1, 1, 0, 1, 1, 1, 1, 1, 1, 1, 1, 1, 1, 1, 1, 1, 1, 2, 2, 1, 1, 1, 2, 1, 1, 1, 1, 3, 3, 1, 1, 1, 3, 1, 1, 1, 0, 0, 0, 0, 1, 0, 1, 1, 1, 0, 0, 0, 1, 1, 1, 1, 1, 0, 0, 0, 1, 2, 1, 1, 1, 0, 0, 0, 1, 3, 1, 1, 1, 0, 0, 0, 1, 4, 1, 1, 1, 0, 0, 0, 0, 0, 4, 0, 0, 0, 0, 1, 1, 0, 4, 1, 1, 1, 0, 1, 4, 0, 0, 3, 0, 1, 4, 1, 0, 2, 1, 1, 4, 2, 0, 1, 2, 1, 4, 3, 0, 0, 3, 0, 1, 1, 0, 3, 1, 1, 1, 0, 1, 3, 0, 0, 2, 0, 1, 3, 1, 0, 1, 1, 1, 3, 2, 0, 0, 2, 0, 1, 1, 0, 2, 1, 1, 1, 0, 1, 2, 0, 0, 1, 0, 1, 2, 1, 0, 0, 1, 0, 0, 0, 0, 0, 0, 1, 0, 0, 4, 0, 1, 1, 0, 3, 0, 1, 2, 0, 2, 0, 1, 3, 0, 1, 1, 1, 1, 1, 0, 0, 1], True⟩
noncomputable def lw4f_e4 (x0 x1 x2 x3 f0 f1 f2 f3 : Int) (c : Nat) : Option OutS := evFS Tryz.prog x_lw4f 1000 3 #[.slice (some ⟨6, 0, none⟩) 4 c, .bool false, .agg #[.int .i16 f0, .int .i16 f1, .int .i16 f2, .int .i16 f3]] (aw3S0.push (.cells [.int .i8 x0, .int .i8 x1, .int .i8 x2, .int .i8 x3] 0 true 0 true)) ⟨[1, 1, 1, 0, 0, 1, 0, 0, 1, 1, 1, 0, 1, 1, 1, 1, 1, 1, 1, 1, 1, 1, 1, 1, 1, 1, 2, 2, 1, 1, 1, 2, 1, 1, 1, 1, 3, 3, 1, 1, 1, 3, 1, 1, 1, 0, 0, 0, 0, 1, 0, 1, 1, 1, 0, 0, 0, 1, 1, 1, 1, 1, 0, 0, 0, 1, 2, 1, 1, 1, 0, 0, 0, 1, 3, 1, 1, 1, 0, 0, 0, 1, 4, 1, 1, 1, 0, 0, 0, 0, 0, 4, 0, 0, 0, 0, 1, 1, 0, 4, 1, 1, 1, 0, 1, 4, 0, 0, 3, 0, 1, 4, 1, 0, 2, 1, 1, 4, 2, 0, 1, 2, 1, 4, 3, 0, 0, 3, 0, 1, 1, 0, 3, 1, 1, 1, 0, 1, 3, 0, 0, 2, 0, 1, 3, 1, 0, 1, 1, 1, 3, 2, 0, 0, 2, 0, 1, 1, 0, 2, 1, 1, 1, 0, 1, 2, 0, 0, 1, 0, 1, 2, 1, 0, 0, 1, 0, 0, 0, 0, 0, 0, 1, 0, 0, 4, 0, 1, 1, 0, 3, 0, 1, 2, 0, 2, 0, 1, 3, 0, 1, 0, 0, 1, 1, 1, 0, 0, 0, 0, 0, 1, 0, 1, 1, 1, 0, 0, 0, 1, 1, 1, 1, 1, 0, 0, 0, 1, 2, 1, 1, 1, 0, 0, 0, 1, 3, 1, 1, 1, 0, 0, 0, 1, 4, 1, 1, 1, 0, 0, 0, 0, 0, 4, 0, 0, 0, 1, 0, 1, 1, 1, 0, 0, 0, 1, 1, 1, 1, 1, 0, 0, 0, 1, 2, 1, 1, 1, 0, 0, 0, 1, 3, 1, 1, 1, 0, 0, 0, 0, 1, 1, 1, 0, 0, 1, 0, 0, 1, 1, 0, 1, 2, 0, 0, 0, 1, 0, 4, 0, 0, 1, 1, 4, 1, 0, 1, 1, 2, 4, 1, 1, 0, 2, 1, 3, 4, 1, 1, 1, 0, 3, 0, 1, 0, 4, 1, 1, 1, 0, 0, 1, 1, 4, 1, 1, 0, 1, 1, 2, 4, 1, 0, 2, 1, 3, 4, 0, 3, 0, 1, 0, 0, 1, 1, 1, 1, 2, 2, 1, 3, 3, 0, 1, 1, 0, 0, 1, 1, 1, 1, 2, 2, 1, 3, 3, 0, 1, 1, 1, 0, 0, 0, 1, 1, 0, 1, 1, 1, 2, 1, 2, 3, 1, 3, 4, 0, 1, 1, 1, 0, 0, 0, 1, 1, 0, 2, 1, 1, 3, 1, 2, 4, 1, 3, 5, 0, 1, 1, 1, 0, 0, 0, 1, 1, 0, 3, 1, 1, 4, 1, 2, 5, 1, 3, 6, 0, 1, 1, 1, 0, 0, 0, 1, 1, 0, 4, 1, 1, 5, 1, 2, 6, 1, 3, 7, 0, 1, 1, 1, 0, 0, 0, 1, 1, 0, 5, 1, 1, 6, 1, 2, 7, 1, 3, 8, 0, 1, 1, 1, 0, 0, 0, 0, 1, 1, 1, 1, 1, 1, 0, 0, 1, 0, 0, 1, 1, 0, 1, 2, 0, 1, 3, 0, 1, 4, 0, 1, 5, 0, 0], True⟩
noncomputable def x_lw4t : CallS := bothX (kAll []) (tabT aw3S0 4)
noncomputable def lw4t_e0 (x0 x1 x2 x3 f0 f1 f2 f3 : Int) (c : Nat) : Option OutS := evFS Tryz.prog x_lw4t 1000 3 #[.slice (some ⟨6, 0, none⟩) 4 c, .bool true, .agg #[.int .i16 f0, .int .i16 f1, .int .i16 f2, .int .i16 f3]] (aw3S0.push (.cells [.int .i8 x0, .int .i8 x1, .int .i8 x2, .int .i8 x3] 0 true 0 true)) ⟨[1, 1, 1, 0, 0, 1, 0, 0, 1, 1, 1, 0, 1, 1, 1, 1, 1, 1, 0, 0, 0, 0, 0, 0, 1, 2, 2, 0, 0, 0, 0, 0, 0, 1, 3, 3, 0, 0, 0, 0, 0, 0, 0, 1, 0, 0, 1, 0, 1, 1, 1, 0, 0, 0, 1, 1, 1, 1, 1, 0, 0, 0, 1, 2, 1, 1, 1, 0, 0, 0, 1, 3, 1, 1, 1, 0, 0, 0, 1, 4, 1, 1, 1, 0, 0, 0, 0, 0, 4, 0, 0, 0, 0, 1, 1, 0, 4, 1, 1, 0, 1, 0, 0, 4, 1, 1, 1, 1, 0, 0, 1], True⟩
noncomputable def lw4t_e1 (x0 x1 x2 x3 f0 f1 f2 f3 : Int) (c : Nat) : Option OutS := evFS Tryz.prog x_lw4t 1000 3 #[.slice (some ⟨6, 0, none⟩) 4 c, .bool true, .agg #[.int .i16 f0, .int .i16 f1, .int .i16 f2, .int .i16 f3]] (aw3S0.push (.cells [.int .i8 x0, .int .i8 x1, .int .i8 x2, .int .i8 x3] 0 true 0 true)) ⟨[1, 1, 1, 0, 0, 1, 0, 0, 1, 1, 1, 0, 1, 1, 1, 1, 1, 1, 1, 1, 1, 1, 1, 1, 1, 1, 2, 2, 0, 0, 0, 0, 0, 0, 1, 3, 3, 0, 0, 0, 0, 0, 0, 0, 1, 0, 0, 1, 0, 1, 1, 1, 0, 0, 0, 1, 1, 1, 1, 1, 0, 0, 0, 1, 2, 1, 1, 1, 0, 0, 0, 1, 3, 1, 1, 1, 0, 0, 0, 1, 4, 1, 1, 1, 0, 0, 0, 0, 0, 4, 0, 0, 0, 0, 1, 1, 0, 4, 1, 1, 1, 0, 1, 4, 0, 0, 3, 0, 1, 4, 1, 0, 2, 1, 1, 4, 2, 0, 1, 2, 1, 4, 3, 0, 0, 3, 0, 1, 1, 0, 3, 1, 1, 0, 1, 0, 0, 4, 0, 1, 1, 0, 3, 1, 1, 1, 1, 0, 0, 1], True⟩
noncomputable def lw4t_e2 (x0 x1 x2 x3 f0 f1 f2 f3 : Int) (c : Nat) : Option OutS := evFS Tryz.prog x_lw4t 1000 3 #[.slice (some ⟨6, 0, none⟩) 4 c, .bool true, .agg #[.int .i16 f0, .int .i16 f1, .int .i16 f2, .int .i16 f3]] (aw3S0.push (.cells [.int .i8 x0, .int .i8 x1, .int .i8 x2, .int .i8 x3] 0 true 0 true)) ⟨[1, 1, 1, 0, 0, 1, 0, 0, 1, 1, 1, 0, 1, 1, 1, 1, 1, 1, 1, 1, 1, 1, 1, 1, 1, 1, 2, 2, 1, 1, 1, 2, 1, 1, 1, 1, 3, 3, 0, 0, 0, 0, 0, 0, 0, 1, 0, 0, 1, 0, 1, 1, 1, 0, 0, 0, 1, 1, 1, 1, 1, 0, 0, 0, 1, 2, 1, 1, 1, 0, 0, 0, 1, 3, 1, 1, 1, 0, 0, 0, 1, 4, 1, 1, 1, 0, 0, 0, 0, 0, 4, 0, 0, 0, 0, 1, 1, 0, 4, 1, 1, 1, 0, 1, 4, 0, 0, 3, 0, 1, 4, 1, 0, 2, 1, 1, 4, 2, 0, 1, 2, 1, 4, 3, 0, 0, 3, 0, 1, 1, 0, 3, 1, 1, 1, 0, 1, 3, 0, 0, 2, 0, 1, 3, 1, 0, 1, 1, 1, 3, 2, 0, 0, 2, 0, 1, 1, 0, 2, 1, 1, 0, 1, 0, 0, 4, 0, 1, 1, 0, 3, 0, 1, 2, 0, 2, 1, 1, 1, 1, 0, 0, 1], True⟩
noncomputable def lw4t_e3 (x0 x1 x2 x3 f0 f1 f2 f3 : Int) (c : Nat) : Option OutS := evFS Tryz.prog x_lw4t 1000 3 #[.slice (some ⟨6, 0, none⟩) 4 c, .bool true, .agg #[.int .i16 f0, .int .i16 f1, .int .i16 f2, .int .i16 f3]] (aw3S0.push (.cells [.int .i8 x0, .int .i8 x1, .int .i8 x2, .int .i8 x3] 0 true 0 true)) ⟨[1, 1, 1, 0, 0, 1, 0, 0, 1, 1, 1, 0, 1, 1, 1, 1, 1, 1, 1, 1, 1, 1, 1, 1, 1, 1, 2, 2, 1, 1, 1, 2, 1, 1, 1, 1, 3, 3, 1, 1, 1, 3, 1, 1, 1, 0, 1, 0, 0, 1, 0, 1, 1, 1, 0, 0, 0, 1, 1, 1, 1, 1, 0, 0, 0, 1, 2, 1, 1, 1, 0, 0, 0, 1, 3, 1, 1, 1, 0, 0, 0, 1, 4, 1, 1, 1, 0, 0, 0, 0, 0, 4, 0, 0, 0, 0, 1, 1, 0, 4, 1, 1, 1, 0, 1, 4, 0, 0, 3, 0, 1, 4, 1, 0, 2, 1, 1, 4, 2, 0, 1, 2, 1, 4, 3, 0, 0, 3, 0, 1, 1, 0, 3, 1, 1, 1, 0, 1, 3, 0, 0, 2, 0, 1, 3, 1, 0, 1, 1, 1, 3, 2, 0, 0, 2, 0, 1, 1, 0, 2, 1, 1, 1, 0, 1, 2, 0, 0, 1, 0, 1, 2, 1, 0, 0, 1, 0, 0, 0, 0, 0, 0, 1, 0, 0, 4, 0, 1, 1, 0, 3, 0, 1, 2, 0, 2, 0, 1, 3, 0, 1, 1, 1, 1, 1, 0, 0, 1], True⟩
noncomputable def lw4t_e4 (x0 x1 x2 x3 f0 f1 f2 f3 : Int) (c : Nat) : Option OutS := evFS Tryz.prog x_lw4t 1000 3 #[.slice (some ⟨6, 0, none⟩) 4 c, .bool true, .agg #[.int .i16 f0, .int .i16 f1, .int .i16 f2, .int .i16 f3]] (aw3S0.push (.cells [.int .i8 x0, .int .i8 x1, .int .i8 x2, .int .i8 x3] 0 true 0 true)) ⟨[1, 1, 1, 0, 0, 1, 0, 0, 1, 1, 1, 0, 1, 1, 1, 1, 1, 1, 1, 1, 1, 1, 1, 1, 1, 1, 2, 2, 1, 1, 1, 2, 1, 1, 1, 1, 3, 3, 1, 1, 1, 3, 1, 1, 1, 0, 1, 0, 0, 1, 0, 1, 1, 1, 0, 0, 0, 1, 1, 1, 1, 1, 0, 0, 0, 1, 2, 1, 1, 1, 0, 0, 0, 1, 3, 1, 1, 1, 0, 0, 0, 1, 4, 1, 1, 1, 0, 0, 0, 0, 0, 4, 0, 0, 0, 0, 1, 1, 0, 4, 1, 1, 1, 0, 1, 4, 0, 0, 3, 0, 1, 4, 1, 0, 2, 1, 1, 4, 2, 0, 1, 2, 1, 4, 3, 0, 0, 3, 0, 1, 1, 0, 3, 1, 1, 1, 0, 1, 3, 0, 0, 2, 0, 1, 3, 1, 0, 1, 1, 1, 3, 2, 0, 0, 2, 0, 1, 1, 0, 2, 1, 1, 1, 0, 1, 2, 0, 0, 1, 0, 1, 2, 1, 0, 0, 1, 0, 0, 0, 0, 0, 0, 1, 0, 0, 4, 0, 1, 1, 0, 3, 0, 1, 2, 0, 2, 0, 1, 3, 0, 1, 0, 0, 1, 1, 1, 0, 0, 0, 0, 0, 1, 0, 1, 1, 1, 0, 0, 0, 1, 1, 1, 1, 1, 0, 0, 0, 1, 2, 1, 1, 1, 0, 0, 0, 1, 3, 1, 1, 1, 0, 0, 0, 1, 4, 1, 1, 1, 0, 0, 0, 0, 0, 4, 0, 0, 0, 1, 0, 1, 1, 1, 0, 0, 0, 1, 1, 1, 1, 1, 0, 0, 0, 1, 2, 1, 1, 1, 0, 0, 0, 1, 3, 1, 1, 1, 0, 0, 0, 0, 1, 1, 1, 0, 0, 1, 0, 0, 1, 1, 0, 1, 2, 0, 0, 0, 1, 0, 4, 0, 0, 1, 1, 4, 1, 0, 1, 1, 2, 4, 1, 1, 0, 2, 1, 3, 4, 1, 1, 1, 0, 3, 0, 1, 0, 4, 1, 1, 1, 0, 0, 1, 1, 4, 1, 1, 0, 1, 1, 2, 4, 1, 0, 2, 1, 3, 4, 0, 3, 0, 1, 0, 0, 1, 1, 1, 1, 2, 2, 1, 3, 3, 0, 1, 1, 0, 0, 1, 1, 1, 1, 2, 2, 1, 3, 3, 0, 1, 1, 1, 0, 0, 0, 1, 1, 0, 1, 1, 1, 2, 1, 2, 3, 1, 3, 4, 0, 1, 1, 1, 0, 0, 0, 1, 1, 0, 2, 1, 1, 3, 1, 2, 4, 1, 3, 5, 0, 1, 1, 1, 0, 0, 0, 1, 1, 0, 3, 1, 1, 4, 1, 2, 5, 1, 3, 6, 0, 1, 1, 1, 0, 0, 0, 1, 1, 0, 4, 1, 1, 5, 1, 2, 6, 1, 3, 7, 0, 1, 1, 1, 0, 0, 0, 1, 1, 0, 5, 1, 1, 6, 1, 2, 7, 1, 3, 8, 0, 1, 1, 1, 0, 0, 0, 0, 1, 1, 1, 1, 1, 1, 0, 0, 1, 0, 0, 1, 1, 0, 1, 2, 0, 1, 3, 0, 1, 4, 0, 1, 5, 0, 0], True⟩
end Go.Proofs.YtencngffhbhifaaGreatDoor
end
