/-
  What all texts of the pieces between worlds told anew ask: bodies, the loops of a function by their number, rows that are told by their numbers.
  What all texts of a seat ask of its program; rows of numbers.
  Plain facts on numbers: turns, norms, products, bounds. No program is used here.
  Plain functions on integers that the program's small functions compute: no program is imported here.
  A piece of code that leaves the small world as it is, as a step of each greater world.
  The reckoner of code between worlds that are told anew; a function's contract out of it: what it answers, the new blocks that its answer names.
  A small world told anew: its first names stay, behind them stand the blocks of some names; all others are forgotten.
  A row that grows with each round of a loop, from nothing on: its name changes each time; behind the loop it is one new row.
  Pieces of code between small worlds of which the second need not hold the first: what may be forgotten, renamed, or told anew between two pieces. The names below B are what they were; what is written is told by the bits of W.
  Loops told by a table: dead temporaries are masked out; rounds that go on or stop; rows that grow with each round.
  A call that reads one row, lifted to each world in which such a row lies.
  Loops of unknown length; what a round made is forgotten; a call in a small world is one in each greater world that holds it.
  Contracts that hold where tables lie; contracts for the reckoner of closed calls.
  A step of a small world is one of each greater world that holds it: names may be others, what is not wanted any more may be forgotten.
  Contracts by shapes, for the reckoner with unknown numbers; from a way through a function to its contract.
  A function that reads the package's tables alone, known to the reckoner; the bridge to a real call, with unknown numbers.
  The reckoner with unknown numbers: which way a branch goes is foretold by a list of numbers, and what must hold for it is gathered.
-/
import Derived.Test.YtbkpnhbcihcgaaaGreatDoorGP1
import Derived.WalkKit
import Derived.Test.YtbkpnhbcihcgaaaGreatDoorProg
section
namespace Go.Proofs.YtbkpnhbcihcgaaaGreatDoor
set_option linter.all false
open Go.RowKit
namespace Mini
variable {P : Program} {rd : Option Nat} {s s1 : St} {R W : Nat}

inductive Tok where
  | n (m : Nat)
  | row (i k : Nat)
  | azz (v : Value)
  | out (e : Exit) (a : MA) (s : St) (R W : Nat)
  | lp (m : Nat) (A0 : MA) (N : Nat) (L0 : List MObj) (e : Exit) (a1 : MA) (L1 : List MObj) (R W : Nat)
instance (m : Nat) : OfNat Tok m := ⟨.n m⟩
structure Orc where
  rest : List Tok
  ob : Prop
abbrev OutS := Value × St × Nat × Nat × Orc
abbrev CallS := FuncId → Array Value → St → Orc → Option OutS
def FOkS (P : Program) (F : CallS) : Prop := ∀ f azz s q v s1 R W q1, F f azz s q = some (v, s1, R, W, q1) → (q1.ob → q.ob) ∧ (q1.ob → SndF P f azz s v s1 R W)
def OpOk (P : Program) (o : Oper) (vals : Operand → Value) (s : St) (q : Orc) (r : OutS) : Prop := (r.2.2.2.2.ob → q.ob) ∧ (∀ rd, r.2.2.2.2.ob → SndO P rd o vals s r.1 r.2.1 r.2.2.1 r.2.2.2.1)

def noF : CallF := fun _ _ _ => none
theorem noF_ok : ∀ f azz s v s1 R W, noF f azz s = some (v, s1, R, W) → SndF P f azz s v s1 R W := fun f azz s v s1 R W h => by cases h
def wrap (r : Option Out) (q : Orc) : Option OutS := match r with
  | some (v, s1, R, W) => some (v, s1, R, W, q)
  | none => none
theorem wrap_ok {o : Oper} {vals : Operand → Value} {q : Orc} {r : OutS} {m : Option Out} (h : wrap m q = some r) (hm : ∀ rd v s1 R W, m = some (v, s1, R, W) → SndO P rd o vals s v s1 R W) : OpOk P o vals s q r := by
  unfold wrap at h
  split at h
  · cases h
    exact ⟨id, fun rd _ => hm rd _ _ _ _ rfl⟩
  · cases h
def evIndexS (P : Program) (t : TypeId) (x y : Value) (s : St) (q : Orc) : Option OutS :=
  match y, q.rest with
  | .int k j, .n m :: rest => wrap (evIndexAddr P t x (.int k m) s) ⟨rest, q.ob ∧ j = (m : Int)⟩
  | _, _ => none
def evIndexVS (P : Program) (t : TypeId) (x y : Value) (s : St) (q : Orc) : Option OutS :=
  match y, q.rest with
  | .int k j, .n m :: rest => wrap (evIndex P t x (.int k m) s) ⟨rest, q.ob ∧ j = (m : Int)⟩
  | _, _ => none
def evPickS (c x y : Value) (s : St) (q : Orc) : Option OutS :=
  match c, q.rest with
  | .bool b, .n d :: rest => match (d == 1) with
    | true => some (x, s, 0, 0, ⟨rest, q.ob ∧ b = true⟩)
    | false => some (y, s, 0, 0, ⟨rest, q.ob ∧ b = false⟩)
  | _, _ => none
theorem evPickS_ok {o : Oper} {vals : Operand → Value} {c x y : Operand} {q : Orc} {r : OutS} (ho : o.op = .pick c x y) (h : evPickS (vals c) (vals x) (vals y) s q = some r) : OpOk P o vals s q r := by
  unfold evPickS at h
  split at h
  · rename_i b d rest hc hq
    split at h
    · cases h
      refine ⟨fun hb => hb.1, fun rd hb => ?_⟩
      have := sndO_pick (P := P) (rd := rd) (s := s) (vals := vals) ho hc
      rw [hb.2] at this
      exact this
    · cases h
      refine ⟨fun hb => hb.1, fun rd hb => ?_⟩
      have := sndO_pick (P := P) (rd := rd) (s := s) (vals := vals) ho hc
      rw [hb.2] at this
      exact this
  · cases h
def evDivS (op : BinOp) (x y : Value) (s : St) (q : Orc) : Option OutS :=
  match op, x, y with
  | .quo, .int k a, .int k' b => match decide (k = k') with
    | true => some (.int k (k.wrap (a.tdiv b)), s, 0, 0, ⟨q.rest, q.ob ∧ (b == 0) = false⟩)
    | false => none
  | .rem, .int k a, .int k' b => match decide (k = k') with
    | true => some (.int k (a.tmod b), s, 0, 0, ⟨q.rest, q.ob ∧ (b == 0) = false⟩)
    | false => none
  | _, _, _ => none
theorem int_only {ρ : Ren} {k : IntKind} {n : Int} {v : Value} (h : VR ρ (.int k n) v) : v = .int k n := by cases h; rfl
theorem evDivS_ok {o : Oper} {vals : Operand → Value} {op : BinOp} {t ty : TypeId} {x y : Operand} {q : Orc} {r : OutS} (ho : o.op = .binOp op t x y ty) (h : evDivS op (vals x) (vals y) s q = some r) : OpOk P o vals s q r := by
  unfold evDivS at h
  split at h
  · rename_i k a k' b hx hy
    split at h
    · rename_i hk
      have hk := of_decide_eq_true hk
      subst hk
      cases h
      refine ⟨fun hb => hb.1, fun rd hb => sndO_still (fun c => by rw [ho]; simp) fun ρ C ev w _ _ _ hxs => ?_⟩
      have h1 := hxs x (by simp [ho, Op.operands])
      have h2 := hxs y (by simp [ho, Op.operands])
      rw [hx] at h1
      rw [hy] at h2
      have e1 := int_only h1
      have e2 := int_only h2
      have hb0 : ¬ b = 0 := by have := hb.2; simpa using this
      exact ⟨_, by simp [execOp, ho, e1, e2, eqGuard, binOp, Op.intDiv, hb0], .int _ _⟩
    · cases h
  · rename_i k a k' b hx hy
    split at h
    · rename_i hk
      have hk := of_decide_eq_true hk
      subst hk
      cases h
      refine ⟨fun hb => hb.1, fun rd hb => sndO_still (fun c => by rw [ho]; simp) fun ρ C ev w _ _ _ hxs => ?_⟩
      have h1 := hxs x (by simp [ho, Op.operands])
      have h2 := hxs y (by simp [ho, Op.operands])
      rw [hx] at h1
      rw [hy] at h2
      have e1 := int_only h1
      have e2 := int_only h2
      have hb0 : ¬ b = 0 := by have := hb.2; simpa using this
      exact ⟨_, by simp [execOp, ho, e1, e2, eqGuard, binOp, Op.intDiv, hb0], .int _ _⟩
    · cases h
  · cases h
def evOpS0 (P : Program) (F : CallS) (vals : Operand → Value) (o : Oper) (s : St) (q : Orc) : Option OutS :=
  match o.op with
  | .indexAddr t x y => evIndexS P t (vals x) (vals y) s q
  | .pick c x y => evPickS (vals c) (vals x) (vals y) s q
  | .binOp op t x y _ => match evDivS op (vals x) (vals y) s q with
    | some r => some r
    | none => wrap (orElse (evEqAgg P op t (vals x) (vals y) s) (evOp P noF vals o s)) q
  | .index t x y => match evIndexVS P t (vals x) (vals y) s q with
    | some r => some r
    | none => wrap (evOp P noF vals o s) q
  | .call c => match c.callee with
    | .value x => match vals x with
      | .func (.func f) azz bs => match P.funcs[f]? with
        | some fn => match fn.body.isSome with
          | true => match (fn.name == "runtime.NumGoroutine") with
            | false => F f (azz ++ c.args.map vals ++ bs) s q
            | true => none
          | false => wrap (evOp P noF vals o s) q
        | none => none
      | _ => none
    | _ => wrap (evOp P noF vals o s) q
  | _ => wrap (evOp P noF vals o s) q
theorem evIndexS_ok {o : Oper} {vals : Operand → Value} {t : TypeId} {x y : Operand} {q : Orc} {r : OutS} (ho : o.op = .indexAddr t x y) (h : evIndexS P t (vals x) (vals y) s q = some r) : OpOk P o vals s q r := by
  unfold evIndexS at h
  split at h
  · rename_i k j m rest hy hq
    unfold wrap at h
    split at h
    · rename_i v s1 R W hr
      cases h
      refine ⟨fun hb => hb.1, fun rd hb => evIndexAddr_snd ho ?_⟩
      rw [hy, hb.2]
      exact hr
    · cases h
  · cases h
theorem evIndexVS_ok {o : Oper} {vals : Operand → Value} {t : TypeId} {x y : Operand} {q : Orc} {r : OutS} (ho : o.op = .index t x y) (h : evIndexVS P t (vals x) (vals y) s q = some r) : OpOk P o vals s q r := by
  unfold evIndexVS at h
  split at h
  · rename_i k j m rest hy hq
    unfold wrap at h
    split at h
    · rename_i v s1 R W hr
      cases h
      refine ⟨fun hb => hb.1, fun rd hb => evIndex_snd ho ?_⟩
      rw [hy, hb.2]
      exact hr
    · cases h
  · cases h
theorem evOpS0_ok {F : CallS} {o : Oper} {vals : Operand → Value} {q : Orc} {r : OutS} (hF : FOkS P F) (h : evOpS0 P F vals o s q = some r) : OpOk P o vals s q r := by
  unfold evOpS0 at h
  split at h
  · rename_i t x y ho
    exact evIndexS_ok ho h
  · rename_i c x y ho
    exact evPickS_ok ho h
  · rename_i op t x y ty ho
    split at h
    · rename_i r' hr
      cases h
      exact evDivS_ok ho hr
    refine wrap_ok h fun rd v s1 R W hr => ?_
    rcases orElse_cases hr with hr | hr
    · exact evEqAgg_snd ho hr
    · exact evOp_snd noF_ok hr
  · rename_i t x y ho
    split at h
    · rename_i r' hr
      cases h
      exact evIndexVS_ok ho hr
    · exact wrap_ok h fun rd v s1 R W hr => evOp_snd noF_ok hr
  · rename_i c ho
    split at h
    · rename_i x hc
      split at h
      · rename_i f azz bs hx
        split at h
        · rename_i fn hf
          split at h
          · rename_i hb
            split at h
            · rename_i hn
              obtain ⟨v, s1, R, W, q1⟩ := r
              obtain ⟨h1, h2⟩ := hF _ _ _ _ _ _ _ _ _ h
              exact ⟨h1, fun rd hq => sndO_call ho hc hx hf hb hn (h2 hq)⟩
            · cases h
          · exact wrap_ok h fun rd v s1 R W hr => evOp_snd noF_ok hr
        · cases h
      · cases h
    · exact wrap_ok h fun rd v s1 R W hr => evOp_snd noF_ok hr
  · exact wrap_ok h fun rd v s1 R W hr => evOp_snd noF_ok hr

def evRow (P : Program) (vals : Operand → Value) (o : Oper) (s : St) (i k : Nat) (q : Orc) : Option OutS :=
  match o.op with
  | .load t x => match rowLoad P s t i k (vals x) with
    | some (v, R, p) => some (v, s, R, 0, ⟨q.rest, q.ob ∧ p⟩)
    | none => none
  | .indexAddr t x y => match rowIndex P s t i (vals x) (vals y) with
    | some (v, p) => some (v, s, 0, 0, ⟨q.rest, q.ob ∧ p⟩)
    | none => none
  | .store t x y => match rowStore P s t i k (vals x) (vals y) with
    | some (s1, W, p) => some (undef, s1, 0, W, ⟨q.rest, q.ob ∧ p⟩)
    | none => none
  | .makeSlice t x y => match k with
    | 0 => match rowMake P s t i (vals x) (vals y) with
      | some (v, s1, p) => some (v, s1, 0, 0, ⟨q.rest, q.ob ∧ p⟩)
      | none => none
    | _ => match rowMake1 P s t i (vals x) (vals y) with
      | some (v, s1, p) => some (v, s1, 0, 0, ⟨q.rest, q.ob ∧ p⟩)
      | none => none
  | .slice t x lo hi mx => match rowCut P s t i (vals x) (lo.map vals) (hi.map vals) (mx.map vals) with
    | some (v, s1, R, p) => some (v, s1, R, R, ⟨q.rest, q.ob ∧ p⟩)
    | none => match rowSlice P s t i (vals x) (lo.map vals) (hi.map vals) (mx.map vals) with
      | some (v, R, p) => some (v, s, R, 0, ⟨q.rest, q.ob ∧ p⟩)
      | none => none
  | .call c => match c.callee, c.args.toList, c.argTypes.toList with
    | .builtin .append, [x, y], [tS, tX] => match rowCopy P s tS tX (vals x) (vals y) with
      | some (v, s1, R, p) => some (v, s1, R, 0, ⟨q.rest, q.ob ∧ p⟩)
      | none => match rowPush P s tS tX (vals x) (vals y) with
        | some (v, s1, R, W, p) => some (v, s1, R, W, ⟨q.rest, q.ob ∧ p⟩)
        | none => match rowCat P s tS tX (vals x) (vals y) with
          | some (v, s1, R, W, p) => some (v, s1, R, W, ⟨q.rest, q.ob ∧ p⟩)
          | none => none
    | _, _, _ => none
  | _ => none
theorem evRow_ok {o : Oper} {vals : Operand → Value} {i k : Nat} {q : Orc} {r : OutS} (h : evRow P vals o s i k q = some r) : OpOk P o vals s q r := by
  unfold evRow at h
  split at h
  · rename_i t x ho
    split at h
    · rename_i hl; cases h; exact ⟨fun hb => hb.1, fun rd hb => rowLoad_snd ho hl hb.2⟩
    · cases h
  · rename_i t x y ho
    split at h
    · rename_i hl; cases h; exact ⟨fun hb => hb.1, fun rd hb => rowIndex_snd ho hl hb.2⟩
    · cases h
  · rename_i t x y ho
    split at h
    · rename_i hl; cases h; exact ⟨fun hb => hb.1, fun rd hb => rowStore_snd ho hl hb.2⟩
    · cases h
  · rename_i t x y ho
    split at h
    · split at h
      · rename_i hl; cases h; exact ⟨fun hb => hb.1, fun rd hb => rowMake_snd ho hl hb.2⟩
      · cases h
    · split at h
      · rename_i hl; cases h; exact ⟨fun hb => hb.1, fun rd hb => rowMake1_snd ho hl hb.2⟩
      · cases h
  · rename_i t x lo hi mx ho
    split at h
    · rename_i hl; cases h; exact ⟨fun hb => hb.1, fun rd hb => rowCut_snd ho hl hb.2⟩
    · split at h
      · rename_i hl; cases h; exact ⟨fun hb => hb.1, fun rd hb => rowSlice_snd ho hl hb.2⟩
      · cases h
  · rename_i c ho
    split at h
    · rename_i x y tS tX hc ha hat
      have ha' : c.args = #[x, y] := by apply Array.ext'; simpa using ha
      have hat' : c.argTypes = #[tS, tX] := by apply Array.ext'; simpa using hat
      split at h
      · rename_i hl; cases h; exact ⟨fun hb => hb.1, fun rd hb => rowCopy_snd ho hc ha' hat' hl hb.2⟩
      · split at h
        · rename_i hl; cases h; exact ⟨fun hb => hb.1, fun rd hb => rowPush_snd ho hc ha' hat' hl hb.2⟩
        · split at h
          · rename_i hl; cases h; exact ⟨fun hb => hb.1, fun rd hb => rowCat_snd ho hc ha' hat' hl hb.2⟩
          · cases h
    · cases h
  · cases h
def asOp : Op → Bool
  | .binOp .. => true
  | .unOp .. => true
  | .convert .. => true
  | .call _ => true
  | _ => false
def evOpR (P : Program) (F : CallS) (vals : Operand → Value) (o : Oper) (s : St) (q : Orc) : Option OutS :=
  match q.rest with
  | .row i k :: rest => match evRow P vals o s i k ⟨rest, q.ob⟩ with
    | some r => some r
    | none => evOpS0 P F vals o s q
  | _ => evOpS0 P F vals o s q
theorem evOpR_ok {F : CallS} {o : Oper} {vals : Operand → Value} {q : Orc} {r : OutS} (hF : FOkS P F) (h : evOpR P F vals o s q = some r) : OpOk P o vals s q r := by
  unfold evOpR at h
  split at h
  · split at h
    · rename_i he; cases h; have := evRow_ok he; exact this
    · exact evOpS0_ok hF h
  · exact evOpS0_ok hF h
def evOpS (P : Program) (F : CallS) (vals : Operand → Value) (o : Oper) (s : St) (q : Orc) : Option OutS :=
  match q.rest with
  | .azz v :: rest => match asOp o.op with
    | true => match evOpR P F vals o s ⟨rest, q.ob⟩ with
      | some (v0, s1, R, W, q1) => some (v, s1, R, W, ⟨q1.rest, q1.ob ∧ v0 = v⟩)
      | none => none
    | false => evOpS0 P F vals o s q
  | _ => evOpR P F vals o s q
theorem evOpS_ok {F : CallS} {o : Oper} {vals : Operand → Value} {q : Orc} {r : OutS} (hF : FOkS P F) (h : evOpS P F vals o s q = some r) : OpOk P o vals s q r := by
  unfold evOpS at h
  split at h
  · rename_i v rest hq
    split at h
    · split at h
      · rename_i v0 s1 R W q1 he
        cases h
        have key : OpOk P o vals s ⟨rest, q.ob⟩ (v0, s1, R, W, q1) := evOpR_ok hF he
        refine ⟨fun hb => key.1 hb.1, fun rd hb => ?_⟩
        have := key.2 rd hb.1
        rw [hb.2] at this
        exact this
      · cases h
    · exact evOpS0_ok hF h
  · exact evOpR_ok hF h

abbrev YieldS := Nat → Array Value → St → Orc → Option OutS
structure FYS where
  f : CallS
  y : YieldS
structure FYOkS (P : Program) (F : FYS) : Prop where
  f : FOkS P F.f
  y : ∀ l azz s q v s1 R W q1, F.y l azz s q = some (v, s1, R, W, q1) → (q1.ob → q.ob) ∧ (q1.ob → ∀ rd, SndY P rd l azz s v s1 R W)
def evOpYS (P : Program) (F : FYS) (vals : Operand → Value) (o : Oper) (s : St) (q : Orc) : Option OutS :=
  match o.op with
  | .call c => match c.callee with
    | .value x => match vals x with
      | .func (.yield l) azz bs => match azz.toList, bs.toList with
        | [], [] => F.y l (c.args.map vals) s q
        | _, _ => none
      | _ => evOpS P F.f vals o s q
    | _ => evOpS P F.f vals o s q
  | _ => evOpS P F.f vals o s q
theorem evOpYS_ok {F : FYS} {o : Oper} {vals : Operand → Value} {q : Orc} {r : OutS} (hF : FYOkS P F) (h : evOpYS P F vals o s q = some r) : OpOk P o vals s q r := by
  unfold evOpYS at h
  split at h
  · rename_i c ho
    split at h
    · rename_i x hc
      split at h
      · rename_i l azz bs hx
        split at h
        · rename_i h1 h2
          have e1 : azz = #[] := by apply Array.ext'; simpa using h1
          have e2 : bs = #[] := by apply Array.ext'; simpa using h2
          subst e1 e2
          obtain ⟨v, s1, R, W, q1⟩ := r
          obtain ⟨k1, k2⟩ := hF.y _ _ _ _ _ _ _ _ _ h
          exact ⟨k1, fun rd hq => k2 hq rd o c vals x ho hc hx rfl⟩
        · cases h
      · exact evOpS_ok hF.f h
    · exact evOpS_ok hF.f h
  · exact evOpS_ok hF.f h

def stepS (P : Program) (F : FYS) (ops : Array Oper) (o : Oper) (a : MA) (s : St) (q : Orc) : Option (Row × Orc) :=
  match o.op.operands.toList.all (okOp P) with
  | false => none
  | true => match o.guard with
    | none => match evOpYS P F a.eval o s q with
      | some (v, s1, R, W, q1) => some ((a.put o.dst v, s1, R, W), q1)
      | none => none
    | some (j, want) => match q.rest, a.yielded ops j with
      | .n d :: rest, some b => match (d == 1) with
        | true => match evOpYS P F a.eval o s ⟨rest, q.ob ∧ b = want⟩ with
          | some (v, s1, R, W, q1) => some ((a.put o.dst v, s1, R, W), q1)
          | none => none
        | false => some ((a.put o.dst undef, s, 0, 0), ⟨rest, q.ob ∧ b = !want⟩)
      | .n _ :: rest, none => match a.guardOk ops o with
        | true => some ((a.put o.dst undef, s, 0, 0), ⟨rest, q.ob⟩)
        | false => none
      | _, _ => none
def runS (P : Program) (F : FYS) (ops : Array Oper) : List Oper → MA → St → Orc → Option (List Row × Orc)
  | [], _, _, q => some ([], q)
  | o :: os, a, s, q => match stepS P F ops o a s q with
    | some ((a1, s1, R, W), q1) => match runS P F ops os a1 s1 q1 with
      | some (rs, q2) => some ((a1, s1, R, W) :: rs, q2)
      | none => none
    | none => none
def StepOk (P : Program) (ops : Array Oper) (o : Oper) (a : MA) (s : St) (r : Row) : Prop := ∃ v, r.1.act = a.act.put o.dst v ∧ okAll P ops o a.act = true ∧
    ((Region.wanted o (yielded ops a.act.tmps) = true ∧ ∀ rd, SndO P rd o a.act.eval s v r.2.1 r.2.2.1 r.2.2.2) ∨ (Region.wanted o (yielded ops a.act.tmps) = false ∧ v = undef ∧ r.2.1 = s ∧ r.2.2.1 = 0 ∧ r.2.2.2 = 0))
theorem okAll_of {ops : Array Oper} {o : Oper} {a : Act} (h1 : o.op.operands.toList.all (okOp P) = true) (h2 : guardOk ops o a.tmps = true) : okAll P ops o a = true := by
  simp only [okAll, h1, h2, Bool.and_self]
theorem guard_of {ops : Array Oper} {o : Oper} {t : Array Value} {j : Nat} {want b : Bool} (hg : o.guard = some (j, want)) (hy : yielded ops t j = some b) : guardOk ops o t = true := by
  unfold guardOk
  rw [hg]
  simp only
  unfold yielded at hy
  cases hd : (ops[j]?).bind (·.dst) with
  | none => rfl
  | some d =>
    rw [hd] at hy
    simp only [Option.bind_some] at hy ⊢
    rcases Nat.lt_or_ge d t.size with c | c
    · rw [Array.getElem?_eq_getElem c] at hy
      rw [show t.getD d undef = t[d] from by simp [Array.getD, c]]
      generalize t[d] = v at hy
      cases v <;> first | rfl | (simp at hy)
    · rw [show t.getD d undef = undef from by simp [Array.getD, Nat.not_lt.2 c]]
      rfl
theorem wanted_free {o : Oper} {f : Nat → Option Bool} (h : o.guard = none) : Region.wanted o f = true := by simp [Region.wanted, h]
theorem stepS_ok {F : FYS} {ops : Array Oper} {o : Oper} {a : MA} {q q1 : Orc} {r : Row} (hF : FYOkS P F) (h : stepS P F ops o a s q = some (r, q1)) : (q1.ob → q.ob) ∧ (q1.ob → StepOk P ops o a s r) := by
  unfold StepOk
  rw [MA.eval_act]
  unfold stepS at h
  split at h
  · cases h
  · rename_i hok
    split at h
    · rename_i hg
      split at h
      · rename_i v s1 R W q2 he
        cases h
        obtain ⟨h1, h2⟩ := evOpYS_ok hF he
        exact ⟨h1, fun hb => ⟨v, MA.put_act _ _ _, okAll_of hok (by simp [guardOk, hg]), .inl ⟨wanted_free hg, fun rd => h2 rd hb⟩⟩⟩
      · cases h
    · rename_i j want hg
      split at h
      · rename_i d rest b hq hy
        have hy : yielded ops a.act.tmps j = some b := by rw [MA.yielded_act]; exact hy
        split at h
        · split at h
          · rename_i v s1 R W q2 he
            cases h
            obtain ⟨h1, h2⟩ := evOpYS_ok hF he
            exact ⟨fun hb => (h1 hb).1, fun hb => ⟨v, MA.put_act _ _ _, okAll_of hok (guard_of hg hy), .inl ⟨by rw [Region.wanted, hg]; simp only; rw [hy, (h1 hb).2]; simp, fun rd => h2 rd hb⟩⟩⟩
          · cases h
        · cases h
          exact ⟨fun hb => hb.1, fun hb => ⟨undef, MA.put_act _ _ _, okAll_of hok (guard_of hg hy), .inr ⟨by rw [Region.wanted, hg]; simp only; rw [hy, hb.2]; cases want <;> rfl, rfl, rfl, rfl, rfl⟩⟩⟩
      · rename_i d rest hq hy
        have hy : yielded ops a.act.tmps j = none := by rw [MA.yielded_act]; exact hy
        split at h
        · rename_i hgo
          cases h
          refine ⟨id, fun hb => ⟨undef, MA.put_act _ _ _, ?_, .inr ⟨by rw [Region.wanted, hg]; simp only; rw [hy]; rfl, rfl, rfl, rfl, rfl⟩⟩⟩
          rw [MA.okAll_act]
          unfold MA.okAll
          rw [hok]
          exact hgo
        · cases h
      · cases h

def RowsOk (P : Program) (ops : Array Oper) : List Oper → MA → St → List Row → Prop
  | [], _, _, rs => rs = []
  | o :: os, a, s, rs => ∃ r rs', rs = r :: rs' ∧ StepOk P ops o a s r ∧ RowsOk P ops os r.1 r.2.1 rs'
theorem runS_ok {F : FYS} {ops : Array Oper} (hF : FYOkS P F) : ∀ (os : List Oper) (a : MA) (s : St) (q : Orc) (rs : List Row) (q1 : Orc), runS P F ops os a s q = some (rs, q1) → (q1.ob → q.ob) ∧ (q1.ob → RowsOk P ops os a s rs)
  | [], a, s, q, rs, q1, h => by cases h; exact ⟨id, fun _ => rfl⟩
  | o :: os, a, s, q, rs, q1, h => by
    simp only [runS] at h
    split at h
    · rename_i a1 s1 R W q2 h1
      split at h
      · rename_i rs' q3 h2
        cases h
        obtain ⟨g1, g2⟩ := stepS_ok hF h1
        obtain ⟨k1, k2⟩ := runS_ok hF os _ _ _ _ _ h2
        exact ⟨fun hb => g1 (k1 hb), fun hb => ⟨_, _, rfl, g2 (k1 hb), k2 hb⟩⟩
      · cases h
    · cases h
theorem rows_len {ops : Array Oper} : ∀ (os : List Oper) (a : MA) (s : St) (rs : List Row), RowsOk P ops os a s rs → rs.length = os.length
  | [], a, s, rs, h => by cases h; rfl
  | o :: os, a, s, rs, h => by
    obtain ⟨r, rs', rfl, h1, h2⟩ := h
    simp [rows_len os _ _ _ h2]
theorem rows_at {ops : Array Oper} : ∀ (os : List Oper) (a : MA) (s : St) (rs : List Row), RowsOk P ops os a s rs → ∀ k o, os[k]? = some o → StepOk P ops o (stA a rs k) (stS s rs k) (rs.getD k dRow)
  | [], a, s, rs, h, k, o, ho => by simp at ho
  | o' :: os, a, s, rs, h, k, o, ho => by
    obtain ⟨r, rs', rfl, h1, h2⟩ := h
    cases k with
    | zero =>
      simp at ho
      subst ho
      exact h1
    | succ k =>
      have := rows_at os _ _ _ h2 k o (by simpa using ho)
      have e1 : stA a (r :: rs') (k + 1) = stA r.1 rs' k := by cases k <;> rfl
      have e2 : stS s (r :: rs') (k + 1) = stS r.2.1 rs' k := by cases k <;> rfl
      rw [e1, e2]
      exact this
theorem sqS {ops : Array Oper} {a : MA} {rs : List Row} (h : RowsOk P ops ops.toList a s rs) : Sq P rd ops (fun k => (stA a rs k).act) (stS s rs) (stR rs) (stW rs) :=
  ⟨fun i hi => by
    have ho : ops[i]? = some ops[i] := Array.getElem?_eq_getElem hi
    obtain ⟨v, h1, h2, h3⟩ := rows_at ops.toList a s rs h i ops[i] (by simp [hi])
    refine ⟨ops[i], v, ho, h1, h2, ?_⟩
    rcases h3 with ⟨g1, g2⟩ | ⟨g1, g2, g3, g4, g5⟩
    · exact .inl ⟨g1, g2 rd⟩
    · exact .inr ⟨g1, g2, g3, g5⟩⟩
theorem seqS {ops : Array Oper} : ∀ (os : List Oper) (i : Nat) (a : MA) (s : St) (rs : List Row), RowsOk P ops os a s rs → (∀ k o, os[k]? = some o → ops[i + k]? = some o) →
    Snd P rd (TOps P ops (List.range' i os.length)) a.act s .normal (lastA a rs).act (lastS s rs) (orR rs) (orW rs)
  | [], i, a, s, rs, h, ho => by cases h; exact snd_ops_nil
  | o :: os, i, a, s, rs, h, ho => by
    obtain ⟨r, rs', rfl, h1, h2⟩ := h
    have ih := seqS os (i + 1) _ _ _ h2 (fun k o hk => by rw [show i + 1 + k = i + (k + 1) from by omega]; exact ho (k + 1) o (by simpa using hk))
    have hoi : ops[i]? = some o := ho 0 o rfl
    obtain ⟨v, g1, g2, g3⟩ := h1
    show Snd P rd (TOps P ops (i :: List.range' (i + 1) os.length)) a.act s .normal (lastA r.1 rs').act (lastS r.2.1 rs') (r.2.2.1 ||| orR rs') (r.2.2.2 ||| orW rs')
    rcases g3 with ⟨k1, k2⟩ | ⟨k1, k2, k3, k4, k5⟩
    · rw [g1] at ih
      exact snd_ops_yes hoi k1 g2 (k2 rd) ih
    · rw [k4, k5, Nat.zero_or, Nat.zero_or]
      rw [g1, k2, k3] at ih
      rw [k3]
      exact snd_ops_no hoi k1 g2 ih

abbrev OutCS := Exit × MA × St × Nat × Nat × Orc
def evRegionS (P : Program) (F : FYS) (ops : Array Oper) (draw : Bool) (a : MA) (s : St) (q : Orc) : Option OutCS :=
  match runS P F ops ops.toList a s q with
  | none => none
  | some (rs, q1) => match draw with
    | false => some (.normal, lastA a rs, lastS s rs, orR rs, orW rs, q1)
    | true => match drawOk ops with
      | false => none
      | true => match pairsOk [] 0 0 (bitsL s rs) (preds ops) with
        | true => some (.normal, lastA a rs, lastS s rs, orR rs, orW rs, q1)
        | false => none
def COk (P : Program) (rd : Option Nat) (T : Tr) (a : MA) (s : St) (q : Orc) (r : OutCS) : Prop := (r.2.2.2.2.2.ob → q.ob) ∧ (r.2.2.2.2.2.ob → Snd P rd T a.act s r.1 r.2.1.act r.2.2.1 r.2.2.2.1 r.2.2.2.2.1)
theorem evRegionS_ok {F : FYS} {ops : Array Oper} {id : Nat} {draw : Bool} {a : MA} {q : Orc} {r : OutCS} (hm : P.follows .mixedOrders = true) (hF : FYOkS P F) (h : evRegionS P F ops draw a s q = some r) :
    COk P rd (TC P (.region id ops draw)) a s q r := by
  unfold evRegionS at h
  split at h
  · cases h
  · rename_i rs q1 hr
    obtain ⟨k1, k2⟩ := runS_ok hF _ _ _ _ _ _ hr
    split at h
    · cases h
      refine ⟨k1, fun hb => sndC_region ?_⟩
      have := seqS (rd := rd) ops.toList 0 a s rs (k2 hb) (fun k o hk => by simpa using hk)
      rwa [show List.range' 0 ops.toList.length = List.range ops.size from by rw [List.range_eq_range']; simp] at this
    · split at h
      · cases h
      · rename_i hd
        split at h
        · rename_i hp
          cases h
          refine ⟨k1, fun hb => ?_⟩
          have hl : rs.length = ops.size := by rw [rows_len _ _ _ _ (k2 hb)]; simp
          have := sndC_draw (id := id) hm (sqS (rd := rd) (k2 hb)) (apart_of hl hd hp) (ords_of (by simp only [drawOk, Bool.and_eq_true] at hd; exact hd.1))
          rw [← hl, stA_last, stS_last, orUpto_R, orUpto_W] at this
          exact this
        · cases h

abbrev EvS := Bool → Code → MA → St → Orc → Option OutCS
def withQ (r : Value × St × Nat × Nat) (q : Orc) : OutS := (r.1, r.2.1, r.2.2.1, r.2.2.2, q)
theorem withQ_eq {r : Value × St × Nat × Nat} {q q1 : Orc} {v : Value} {s1 : St} {R W : Nat} (h : withQ r q = (v, s1, R, W, q1)) : r = (v, s1, R, W) ∧ q = q1 := by
  obtain ⟨a, b, c, d⟩ := r
  simp only [withQ, Prod.mk.injEq] at h
  obtain ⟨rfl, rfl, rfl, rfl, rfl⟩ := h
  exact ⟨rfl, rfl⟩
def evFnS (P : Program) (X : CallS) (ev : EvS) : CallS := fun f args s q =>
  match X f args s q with
  | some r => some r
  | none => match P.funcs[f]? with
  | none => none
  | some fn => match fn.body with
    | none => none
    | some c => match ev false c (startM fn args) s q with
      | some (e, a1, s1, R1, W, q1) => match e with
        | .normal => match shutM a1.defers s1 with
          | some (s2, W2) => match resultsG P s2 a1.get fn.results.toList with
            | some (vs, R2) => some (withQ (gcO s (outV vs, s2, R1 ||| R2, W ||| W2)) q1)
            | none => none
          | none => none
        | .ret => match shutM a1.defers s1 with
          | some (s2, W2) => match resultsG P s2 a1.get fn.results.toList with
            | some (vs, R2) => some (withQ (gcO s (outV vs, s2, R1 ||| R2, W ||| W2)) q1)
            | none => none
          | none => none
        | _ => none
      | none => none
def EvOkS (P : Program) (rd : Option Nat) (ev : EvS) : Prop := ∀ flag c a s q r, ev flag c a s q = some r → COk P rd (TF P flag c) a s q r
theorem evFnS_ok {X : CallS} {ev : EvS} (hX : FOkS P X) (h : EvOkS P none ev) : FOkS P (evFnS P X ev) := fun f azz s q v s1 R W q1 he => by
  unfold evFnS at he
  split at he
  · rename_i hx
    cases he
    exact hX _ _ _ _ _ _ _ _ _ hx
  split at he
  · cases he
  · rename_i fn hf
    split at he
    · cases he
    · rename_i c hb
      split at he
      · rename_i e a1 s2 R1 W1 q2 hc
        obtain ⟨g1, g2⟩ := h false c (startM fn azz) s q _ hc
        rw [startM_act] at g2
        split at he
        · split at he
          · rename_i hm
            split at he
            · rename_i vs R2 hv
              obtain ⟨e1, rfl⟩ := withQ_eq (Option.some.inj he)
              exact ⟨g1, fun hq => gcO_snd (sndF_of_marks hf hb (.inl rfl) (g2 hq) hm ((resultsL_act _ _).trans hv)) e1⟩
            · cases he
          · cases he
        · split at he
          · rename_i hm
            split at he
            · rename_i vs R2 hv
              obtain ⟨e1, rfl⟩ := withQ_eq (Option.some.inj he)
              exact ⟨g1, fun hq => gcO_snd (sndF_of_marks hf hb (.inr rfl) (g2 hq) hm ((resultsL_act _ _).trans hv)) e1⟩
            · cases he
          · cases he
        · cases he
      · cases he

abbrev EvRS := Option Nat → EvS
def evYS (ev : EvRS) : YieldS := fun l args s q =>
  match s.get l with
  | .loop r => match args.size == r.params.size with
    | true => match ev (some l) false r.assign (MA.ofA (setArgs r.params args r.tmps) []) s q with
      | some (e1, a1, s1, R1, W1, q1) => match isNormal e1, s1.get l with
        | true, .loop rB => match isReady rB.state with
          | true => match ev (some l) false r.body a1 (s1.put l (.loop { rB with state := .busy })) q1 with
            | some (e, _, s2, R2, W2, q2) => match roundJump e, s2.get l with
              | some jump, .loop rE => some (.bool jump.isNone, s2.put l (.loop { rE with state := if jump.isNone then .ready else .done, pending := jump }), 2 ^ l ||| (R1 ||| (0 ||| (R2 ||| 0))), W1 ||| (2 ^ l ||| (W2 ||| 2 ^ l)), q2)
              | _, _ => none
            | none => none
          | false => none
        | _, _ => none
      | none => none
    | false => none
  | _ => none
theorem evYS_ok {ev : EvRS} (h : ∀ rd, EvOkS P rd (ev rd)) : ∀ l azz s q v s1 R W q1, evYS ev l azz s q = some (v, s1, R, W, q1) → (q1.ob → q.ob) ∧ (q1.ob → ∀ rd, SndY P rd l azz s v s1 R W) := fun l azz s q v s1 R W q1 he => by
  unfold evYS at he
  split at he
  · rename_i r hl
    split at he
    · rename_i hsz
      split at he
      · rename_i e1 a1 s2 R1 W1 q2 h1
        split at he
        · rename_i rB hn hB
          split at he
          · rename_i hst
            split at he
            · rename_i e a2 s3 R2 W2 q3 h2
              split at he
              · rename_i jump rE hj hE
                cases he
                cases isNormal_iff hn
                obtain ⟨k1, g1⟩ := h (some l) _ _ _ _ _ _ h1
                rw [MA.ofA_act] at g1
                obtain ⟨k2, g2⟩ := h (some l) _ _ _ _ _ _ h2
                refine ⟨fun hq => k1 (k2 hq), fun hq rd o c vals x ho hc hx ha => ?_⟩
                subst ha
                exact sndO_yield ho hc hx hl (by simpa using hsz) (g1 (k2 hq)) hB (isReady_iff hst) (g2 hq) hj hE
              · cases he
            · cases he
          · cases he
        · cases he
      · cases he
    · cases he
  · cases he
def evRangeS (P : Program) (F : CallS) (rd : Option Nat) (g : Operand) (ps : Array Tmp) (azz b : Code) (a : MA) (s : St) (q : Orc) : Option OutCS :=
  match okOp P g, a.eval g with
  | true, .func (.func f) xs ys => match P.funcs[f]? with
    | some fn => match fn.body.isSome && !(fn.name == "runtime.NumGoroutine") with
      | true => match rd with
        | none => match F f (xs ++ #[.func (.yield (s.next + 1)) #[] #[]] ++ ys) ((s.push .marks).push (.loop (recOf a.act.tmps ps azz b s.next))) q with
          | some (_, s1, R, W, q1) => match s1.get (s.next + 1) with
            | .loop r => match isBusy r.state, jumpOk r.pending with
              | false, true => some (exitOf r.pending, ⟨a.n, a.t, mark s.next :: a.defers⟩, (s1.put (s.next + 1) (.loop { r with state := .exhausted })).put (s.next + 1) .hole, 0 ||| (0 ||| (R ||| 0)), 0 ||| (0 ||| (W ||| 2 ^ (s.next + 1))), q1)
              | _, _ => none
            | _ => none
          | none => none
        | some l0 => match s.get l0 with
          | .loop r0 => match F f (xs ++ #[.func (.yield s.next) #[] #[]] ++ ys) (s.push (.loop (recOf a.act.tmps ps azz b r0.defers))) q with
            | some (_, s1, R, W, q1) => match s1.get s.next with
              | .loop r => match isBusy r.state, jumpOk r.pending with
                | false, true => some (exitOf r.pending, a, (s1.put s.next (.loop { r with state := .exhausted })).put s.next .hole, 2 ^ l0 ||| (R ||| 0), 0 ||| (W ||| 2 ^ s.next), q1)
                | _, _ => none
              | _ => none
            | none => none
          | _ => none
      | false => none
    | none => none
  | _, _ => none
theorem evRangeS_ok {F : CallS} {g : Operand} {ps : Array Tmp} {azz b : Code} {a : MA} {q : Orc} {r : OutCS} (hF : FOkS P F) (h : evRangeS P F rd g ps azz b a s q = some r) : COk P rd (TC P (.rangeFunc g ps azz b)) a s q r := by
  unfold evRangeS at h
  rw [← MA.eval_act] at h
  split at h
  · rename_i f xs ys hg hx
    split at h
    · rename_i fn hf
      split at h
      · rename_i hb
        simp only [Bool.and_eq_true, Bool.not_eq_true'] at hb
        split at h
        · split at h
          · rename_i hc
            obtain ⟨k1, k2⟩ := hF _ _ _ _ _ _ _ _ _ hc
            split at h
            · rename_i r hl
              split at h
              · rename_i hbu hj
                cases h
                exact ⟨k1, fun hq => Snd.drop (sndC_rangeFunc hg hx hf hb.1 hb.2 (k2 hq) hl (isBusy_iff hbu) hj) (Nat.le_succ _) (by have q := lt_of_loop hl; exact q)⟩
              · cases h
            · cases h
          · cases h
        · split at h
          · rename_i r0 h0
            split at h
            · rename_i hc
              obtain ⟨k1, k2⟩ := hF _ _ _ _ _ _ _ _ _ hc
              split at h
              · rename_i r hl
                split at h
                · rename_i hbu hj
                  cases h
                  exact ⟨k1, fun hq => Snd.drop (sndC_rangeFuncI h0 hg hx hf hb.1 hb.2 (k2 hq) hl (isBusy_iff hbu) hj) (Nat.le_refl _) (by have q := lt_of_loop hl; exact q)⟩
                · cases h
              · cases h
            · cases h
          · cases h
      · cases h
    · cases h
  · cases h

def evStepS (P : Program) (X : CallS) (ev : EvRS) : EvRS := fun rd flag c a s q =>
  match flag with
  | true => match ev rd false c a s q with
    | some (e, a1, s1, R1, W1, q1) => match isNormal e with
      | true => match ev rd true c a1 s1 q1 with
        | some (e2, a2, s2, R2, W2, q2) => some (e2, a2, s2, R1 ||| R2, W1 ||| W2, q2)
        | none => none
      | false => some (e, a1, s1, R1, W1, q1)
    | none => none
  | false => match c with
    | .skip => some (.normal, a, s, 0, 0, q)
    | .label _ => some (.normal, a, s, 0, 0, q)
    | .exit l => some (.exit l, a, s, 0, 0, q)
    | .ret => some (.ret, a, s, 0, 0, q)
    | .region _ ops draw => evRegionS P ⟨evFnS P X (ev none), evYS ev⟩ ops draw a s q
    | .seq x y => match ev rd false x a s q with
      | some (e, a1, s1, R1, W1, q1) => match isNormal e with
        | true => match ev rd false y a1 s1 q1 with
          | some (e2, a2, s2, R2, W2, q2) => some (e2, a2, s2, R1 ||| R2, W1 ||| W2, q2)
          | none => none
        | false => some (e, a1, s1, R1, W1, q1)
      | none => none
    | .cond x t f => match okOp P x with
      | true => match a.eval x with
        | .bool b => match q.rest with
          | .n d :: rest => match (d == 1) with
            | true => ev rd false t a s ⟨rest, q.ob ∧ b = true⟩
            | false => ev rd false f a s ⟨rest, q.ob ∧ b = false⟩
          | _ => none
        | _ => none
      | false => none
    | .block id x => match ev rd false x a s q with
      | some (e, a1, s1, R1, W1, q1) => some (outOf id e, a1, s1, R1, W1, q1)
      | none => none
    | .loop x => match q.rest with
      | .out e a1 s1 R W :: rest => some (e, a1, s1, R, W, ⟨rest, q.ob ∧ SndC P rd (.loop x) a.act s e a1.act s1 R W⟩)
      | .lp m A0 N L0 e a1 L1 R W :: rest => some (e, a1, wS N L1, R, W, ⟨rest, q.ob ∧ ((maskA m a = A0 ∧ s.next = N + L0.length ∧ getL s 0 (N + L0.length) = List.replicate N .hole ++ L0) ∧ SndC P rd (.loop x) A0.act (wS N L0) e a1.act (wS N L1) R W)⟩)
      | _ => ev rd true x a s q
    | .scope x => match ev rd false x a s q with
      | some (e, a1, s1, R1, W1, q1) => match isGoto e with
        | false => some (e, a1, s1, R1, W1, q1)
        | true => none
      | none => none
    | .rangeFunc g ps azz b => evRangeS P (evFnS P X (ev none)) rd g ps azz b a s q
    | _ => none
theorem evStepS_ok {X : CallS} {ev : EvRS} (hm : P.follows .mixedOrders = true) (hX : FOkS P X) (h : ∀ rd, EvOkS P rd (ev rd)) : ∀ rd, EvOkS P rd (evStepS P X ev rd) := fun rd flag c a s q r he => by
  unfold evStepS at he
  split at he
  · split at he
    · rename_i h1
      obtain ⟨k1, g1⟩ := h rd false _ _ _ _ _ h1
      split at he
      · rename_i hn
        cases isNormal_iff hn
        split at he
        · rename_i h2
          cases he
          obtain ⟨k2, g2⟩ := h rd true _ _ _ _ _ h2
          exact ⟨fun hb => k1 (k2 hb), fun hb => snd_from_on (g1 (k2 hb)) (g2 hb)⟩
        · cases he
      · rename_i hn
        cases he
        exact ⟨k1, fun hb => snd_from_stop (isNormal_no hn) (g1 hb)⟩
    · cases he
  · split at he
    · cases he; exact ⟨id, fun _ => sndC_skip⟩
    · cases he; exact ⟨id, fun _ => sndC_label⟩
    · cases he; exact ⟨id, fun _ => sndC_exit⟩
    · cases he; exact ⟨id, fun _ => sndC_ret⟩
    · exact evRegionS_ok (F := ⟨evFnS P X (ev none), evYS ev⟩) hm ⟨evFnS_ok hX (h none), evYS_ok h⟩ he
    · split at he
      · rename_i h1
        obtain ⟨k1, g1⟩ := h rd false _ _ _ _ _ h1
        split at he
        · rename_i hn
          cases isNormal_iff hn
          split at he
          · rename_i h2
            cases he
            obtain ⟨k2, g2⟩ := h rd false _ _ _ _ _ h2
            exact ⟨fun hb => k1 (k2 hb), fun hb => sndC_seq (g1 (k2 hb)) (g2 hb)⟩
          · cases he
        · rename_i hn
          cases he
          exact ⟨k1, fun hb => sndC_seq_stop (isNormal_no hn) (g1 hb)⟩
      · cases he
    · split at he
      · rename_i hx
        split at he
        · rename_i b hb
          split at he
          · split at he
            · obtain ⟨k2, g2⟩ := h rd false _ _ _ _ _ he
              exact ⟨fun hq => (k2 hq).1, fun hq => sndC_cond (t := true) hx (by rw [MA.eval_act, hb, (k2 hq).2]) (g2 hq)⟩
            · obtain ⟨k2, g2⟩ := h rd false _ _ _ _ _ he
              exact ⟨fun hq => (k2 hq).1, fun hq => sndC_cond (t := false) hx (by rw [MA.eval_act, hb, (k2 hq).2]) (g2 hq)⟩
          · cases he
        · cases he
      · cases he
    · split at he
      · rename_i h1
        cases he
        obtain ⟨k1, g1⟩ := h rd false _ _ _ _ _ h1
        exact ⟨k1, fun hq => sndC_block (g1 hq)⟩
      · cases he
    · split at he
      · cases he
        exact ⟨fun hq => hq.1, fun hq => hq.2⟩
      · cases he
        exact ⟨fun hq => hq.1, fun hq => loop_at hq.2.2 hq.2.1⟩
      · obtain ⟨k1, g1⟩ := h rd true _ _ _ _ _ he
        exact ⟨k1, fun hq => sndC_loop (g1 hq)⟩
    · split at he
      · rename_i h1
        split at he
        · rename_i hg
          cases he
          obtain ⟨k1, g1⟩ := h rd false _ _ _ _ _ h1
          exact ⟨k1, fun hq => sndC_scope hg (g1 hq)⟩
        · cases he
      · cases he
    · exact evRangeS_ok (evFnS_ok hX (h none)) he
    · cases he

def evCRS (P : Program) (X : CallS) : Nat → EvRS
  | 0 => fun _ _ _ _ _ _ => none
  | n + 1 => evStepS P X (evCRS P X n)
theorem evCRS_ok {X : CallS} (hm : P.follows .mixedOrders = true) (hX : FOkS P X) : ∀ n rd, EvOkS P rd (evCRS P X n rd)
  | 0 => fun rd flag c a s q r he => by cases he
  | n + 1 => evStepS_ok hm hX (evCRS_ok hm hX n)
def evCS (P : Program) (X : CallS) (n : Nat) : EvS := evCRS P X n none
theorem evCS_ok {X : CallS} (hm : P.follows .mixedOrders = true) (hX : FOkS P X) (n : Nat) : EvOkS P none (evCS P X n) := evCRS_ok hm hX n none
def evFS (P : Program) (X : CallS) (n : Nat) : CallS := evFnS P X (evCS P X n)
theorem evFS_ok {X : CallS} (hm : P.follows .mixedOrders = true) (hX : FOkS P X) (n : Nat) : FOkS P (evFS P X n) := evFnS_ok hX (evCS_ok hm hX n)
def noXS : CallS := fun _ _ _ _ => none
theorem noXS_ok : FOkS P noXS := fun f azz s q v s1 R W q1 h => by cases h
end Mini
end Go.Proofs.YtbkpnhbcihcgaaaGreatDoor
end
section
namespace Go.Proofs.YtbkpnhbcihcgaaaGreatDoor
set_option linter.all false
open Go.RowKit
namespace Mini
variable {P : Program} {s s0 s1 : St} {R W : Nat}

theorem sndF_quietG {f : FuncId} {args : Array Value} {v : Value} (hg : ground 8 v = true)
    (h : ∀ (ρ : Ren) (C : Nat → MObj) (args' : Array Value) (w : World), Glob P ρ → (∀ b, R.testBit b = true → b < s.next → C b = s.get b) → WRel ρ C w → VRs ρ args args' → Calls P f args' w fun e w' => e = .returned v ∧ Below w.heap.size w w') :
    SndF P f args s v s R 0 := by
  refine ⟨Stat.refl s, fun n ρ C args' w Q hp ha hQ => ?_⟩
  have hc := h ρ C args' w hp.glob (fun b hb => hp.agree b (by rw [or_bit, hb]; rfl)) hp.rel ha
  refine callsIn_wide.2 (hc.mono fun e w' he => ?_)
  obtain ⟨rfl, hb⟩ := he
  refine hQ ρ v w' ⟨Ren.le_refl _, fun b hne => absurd rfl hne, fun b L h1 h2 => (by rw [h1] at h2; cases h2), hb.size, fun x hx _ => hb.block x hx, hb.os, hb.tape, hb.output⟩ ?_ (ground_refl 8 hg)
  rw [upd_zero]
  refine ⟨fun b hne => ?_, hp.rel.2⟩
  obtain ⟨L, o', h1, h2, h3⟩ := hp.rel.1 b hne
  have hlt : L.blk < w.heap.size := (Array.getElem?_eq_some_iff.1 h2).1
  exact ⟨L, o', h1, (hb.block L.blk hlt).trans h2, h3⟩

def valsEq : List Value → List Value → Bool
  | [], _ => true
  | .int k a :: l, .int k' b :: l' => decide (k = k') && (a == b) && valsEq l l'
  | _, _ => false
theorem valsEq_at : ∀ (c c' : List Value), valsEq c c' = true → ∀ (i : Nat) (v : Value), c[i]? = some v → c'[i]? = some v ∧ ∃ k a, v = .int k a
  | [], c', h, i, v, hi => by simp at hi
  | x :: l, [], h, i, v, hi => by cases x <;> simp [valsEq] at h
  | x :: l, y :: l', h, i, v, hi => by
    cases x with
    | int k a => cases y with
      | int k' b =>
        simp only [valsEq, Bool.and_eq_true, decide_eq_true_eq, beq_iff_eq] at h
        obtain ⟨⟨rfl, rfl⟩, h3⟩ := h
        cases i with
        | zero => simp at hi; subst hi; exact ⟨rfl, k, a, rfl⟩
        | succ i => exact valsEq_at l l' h3 i v (by simpa using hi)
      | _ => simp [valsEq] at h
    | _ => simp [valsEq] at h
def tabEq : MObj → MObj → Bool
  | .hole, _ => true
  | .cells c _ _ _ _, .cells c' _ _ _ _ => valsEq c c'
  | _, _ => false
def tabsEq (s0 s : St) : Nat → Bool
  | 0 => true
  | n + 1 => tabEq (s0.get n) (s.get n) && tabsEq s0 s n
theorem tabsEq_at : ∀ (n : Nat), tabsEq s0 s n = true → ∀ b, b < n → tabEq (s0.get b) (s.get b) = true
  | 0, h, b, hb => by omega
  | n + 1, h, b, hb => by
    simp only [tabsEq, Bool.and_eq_true] at h
    rcases Nat.lt_or_ge b n with c | c
    · exact tabsEq_at n h.2 b c
    · rw [show b = n from by omega]; exact h.1
def tabOk : MObj → Bool
  | .hole => true
  | .cells c _ true 0 true => !c.isEmpty && c.all (ground 8)
  | _ => false
def tabsOk (s0 : St) : Nat → Bool
  | 0 => true
  | n + 1 => tabOk (s0.get n) && tabsOk s0 n
theorem tabsOk_at : ∀ (n : Nat), tabsOk s0 n = true → ∀ b, b < n → tabOk (s0.get b) = true
  | 0, h, b, hb => by omega
  | n + 1, h, b, hb => by
    simp only [tabsOk, Bool.and_eq_true] at h
    rcases Nat.lt_or_ge b n with c | c
    · exact tabsOk_at n h.2 b c
    · rw [show b = n from by omega]; exact h.1
theorem holds_of {ρ : Ren} {C : Nat → MObj} {w : World} (hn : s0.next = P.globals.size) (hok : tabsOk s0 s0.next = true) (heq : tabsEq s0 s s0.next = true) (hG : Glob P ρ) (ag : ∀ b, (2 ^ s0.next - 1).testBit b = true → b < s.next → C b = s.get b) (hr : WRel ρ C w) : Holds P s0 w := by
  refine ⟨hn, fun b hb => ?_⟩
  rw [← hn] at hb
  have h1 := tabsOk_at _ hok b hb
  have h2 := tabsEq_at _ heq b hb
  cases hs : s0.get b with
  | hole => exact .inl rfl
  | cells c e opn sz r =>
    rw [hs] at h1 h2
    cases ho : s.get b with
    | cells c' e' opn' sz' r' =>
      rw [ho] at h2
      simp only [tabEq] at h2
      cases opn <;> cases r <;> cases sz <;> simp only [tabOk, Bool.and_eq_true, Bool.not_eq_true', Bool.false_eq_true] at h1
      refine .inr ⟨c, e, rfl, by intro hc; rw [hc] at h1; simp at h1, h1.2, fun i v hi => ?_⟩
      obtain ⟨k1, k, a, rfl⟩ := valsEq_at c c' h2 i v hi
      have hlt : b < s.next := St.lt_of_live (by rw [ho]; simp)
      have hC : C b = .cells c' e' opn' sz' r' := (ag b (by rw [Nat.testBit_two_pow_sub_one]; simpa using hb) hlt).trans ho
      obtain ⟨L, cs, fr, q1, q2, q3⟩ := row_of hr hC
      obtain ⟨L', g1, g2, g3⟩ := hG b (hn ▸ hb)
      rw [q1] at g1
      cases g1
      obtain ⟨p1, p2, p3, p4, p5, p6, p7, p8⟩ := q3
      obtain ⟨v', z1, z2⟩ := p6 i _ k1
      have := int_inv z2
      subst this
      rw [g2] at q2
      rw [cell_row q2]
      rw [g3, Nat.zero_add] at z1
      exact z1
    | _ => rw [ho] at h2; simp [tabEq] at h2
  | _ => rw [hs] at h1; simp [tabOk] at h1

def tabX (s0 : St) (f0 : FuncId) : CallS := fun f xs s q =>
  match decide (f = f0) && xs.toList.isEmpty && tabsOk s0 s0.next && tabsEq s0 s s0.next with
  | true => some (.bool true, s, 2 ^ s0.next - 1, 0, q)
  | false => none
def resOf : Option OutS → Value
  | some (v, _, _, _, _) => v
  | none => .nilFunc
def obOf : Option OutS → Prop
  | some (_, _, _, _, q) => q.ob
  | none => False
def cleanOf (n : Nat) : Option OutS → Bool
  | some (_, _, _, W, _) => (W % 2 ^ n) == 0
  | none => false
theorem calls_ofS {X : CallS} {f : FuncId} {args : Array Value} {v : Value} {q : Orc} {w : World} {n : Nat} (hm : P.follows .mixedOrders = true) (hX : FOkS P X) (hv : resOf (evFS P X n f args s q) = v) (hg : ground 8 v = true) (ha : args.toList.all (ground 8) = true)
    (hc : cleanOf P.globals.size (evFS P X n f args s q) = true) (hob : obOf (evFS P X n f args s q)) (hh : Holds P s w) : Calls P f args w fun e w' => e = .returned v ∧ Below w.heap.size w w' := by
  cases hr : evFS P X n f args s q with
  | none => rw [hr] at hc; simp [cleanOf] at hc
  | some r =>
    obtain ⟨v0, s1, R, W, q1⟩ := r
    rw [hr] at hv hc hob
    simp only [resOf] at hv
    subst hv
    simp only [cleanOf, beq_iff_eq] at hc
    refine calls_of ((evFS_ok hm hX n _ _ _ _ _ _ _ _ _ hr).2 hob) hg ha (fun b hb => ?_) hh
    have : (W % 2 ^ P.globals.size).testBit b = false := by rw [hc]; simp
    rw [Nat.testBit_mod_two_pow] at this
    simpa [hb] using this
structure BoxedP (p : Prop) : Prop where
  out : p
theorem calls_ofR {X : CallS} {f : FuncId} {args : Array Value} {v : Value} {q : Orc} {w : World} {n : Nat} {r : Option OutS} (hr : r = evFS P X n f args s q) (hm : P.follows .mixedOrders = true) (hX : FOkS P X) (hv : resOf r = v) (hg : ground 8 v = true) (ha : args.toList.all (ground 8) = true)
    (hc : cleanOf P.globals.size r = true) (hob : BoxedP (obOf r)) (hh : Holds P s w) : Calls P f args w fun e w' => e = .returned v ∧ Below w.heap.size w w' := by
  subst hr
  exact calls_ofS hm hX hv hg ha hc hob.out hh
end Mini
end Go.Proofs.YtbkpnhbcihcgaaaGreatDoor
end
section
namespace Go.Proofs.YtbkpnhbcihcgaaaGreatDoor
set_option linter.all false
open Go.RowKit
namespace Mini
variable {P : Program} {s s1 : St}

inductive Sh where
  | int (k : IntKind)
  | agg (l : List IntKind)
def ints : List IntKind → List Value → Option (List Int)
  | [], [] => some []
  | k :: ks, .int k' n :: vs => match decide (k = k') with
    | true => match ints ks vs with
      | some l => some (n :: l)
      | none => none
    | false => none
  | _, _ => none
def flat : List Sh → List Value → Option (List Int)
  | [], [] => some []
  | .int k :: ss, .int k' n :: vs => match decide (k = k') with
    | true => match flat ss vs with
      | some l => some (n :: l)
      | none => none
    | false => none
  | .agg ks :: ss, .agg x :: vs => match ints ks x.toList with
    | some l => match flat ss vs with
      | some r => some (l ++ r)
      | none => none
    | none => none
  | _, _ => none
def size : List Sh → Nat
  | [] => 0
  | .int _ :: ss => size ss + 1
  | .agg ks :: ss => ks.length + size ss
def backI : List IntKind → List Int → List Value
  | k :: ks, n :: ns => .int k n :: backI ks ns
  | _, _ => []
def back : List Sh → List Int → List Value
  | .int k :: ss, n :: ns => .int k n :: back ss ns
  | .agg ks :: ss, ns => .agg (backI ks (ns.take ks.length)).toArray :: back ss (ns.drop ks.length)
  | _, _ => []
theorem ints_back : ∀ (ks : List IntKind) (vs : List Value) (l : List Int), ints ks vs = some l → vs = backI ks l ∧ l.length = ks.length
  | [], [], l, h => by cases h; exact ⟨rfl, rfl⟩
  | [], v :: vs, l, h => by cases v <;> cases h
  | k :: ks, [], l, h => by cases h
  | k :: ks, v :: vs, l, h => by
    cases v with
    | int k' n =>
      simp only [ints] at h
      split at h
      · rename_i hk
        have hk := of_decide_eq_true hk
        subst hk
        split at h
        · rename_i l' hl
          cases h
          obtain ⟨h1, h2⟩ := ints_back ks vs l' hl
          exact ⟨by rw [h1]; rfl, by simp [h2]⟩
        · cases h
      · cases h
    | _ => cases h
theorem flat_back : ∀ (ss : List Sh) (vs : List Value) (l : List Int), flat ss vs = some l → vs = back ss l ∧ l.length = size ss
  | [], [], l, h => by cases h; exact ⟨rfl, rfl⟩
  | [], v :: vs, l, h => by cases v <;> cases h
  | s :: ss, [], l, h => by cases s <;> cases h
  | .int k :: ss, v :: vs, l, h => by
    cases v with
    | int k' n =>
      simp only [flat] at h
      split at h
      · rename_i hk
        have hk := of_decide_eq_true hk
        subst hk
        split at h
        · rename_i l' hl
          cases h
          obtain ⟨h1, h2⟩ := flat_back ss vs l' hl
          exact ⟨by rw [h1]; rfl, by simp [size, h2]⟩
        · cases h
      · cases h
    | _ => cases h
  | .agg ks :: ss, v :: vs, l, h => by
    cases v with
    | agg x =>
      simp only [flat] at h
      split at h
      · rename_i l' hl
        split at h
        · rename_i r hr
          cases h
          obtain ⟨h1, h2⟩ := ints_back ks _ l' hl
          obtain ⟨h3, h4⟩ := flat_back ss vs r hr
          refine ⟨?_, by simp [size, h2, h4]⟩
          have hx : x = (backI ks l').toArray := by apply Array.ext'; simpa using h1
          rw [show back (.agg ks :: ss) (l' ++ r) = .agg (backI ks ((l' ++ r).take ks.length)).toArray :: back ss ((l' ++ r).drop ks.length) from rfl]
          rw [← h2, List.take_left' rfl, List.drop_left' rfl, ← h3, hx]
        · cases h
      · cases h
    | _ => cases h
theorem backI_ground : ∀ (ks : List IntKind) (l : List Int), (backI ks l).all (ground 7) = true
  | [], l => by cases l <;> rfl
  | k :: ks, [] => rfl
  | k :: ks, n :: ns => by
    simp only [backI, List.all_cons, Bool.and_eq_true]
    exact ⟨rfl, backI_ground ks ns⟩
theorem back_ground : ∀ (ss : List Sh) (l : List Int), (back ss l).all (ground 8) = true
  | [], l => by cases l <;> rfl
  | .int k :: ss, [] => rfl
  | .int k :: ss, n :: ns => by
    simp only [back, List.all_cons, Bool.and_eq_true]
    exact ⟨rfl, back_ground ss ns⟩
  | .agg ks :: ss, ns => by
    rw [show back (.agg ks :: ss) ns = .agg (backI ks (ns.take ks.length)).toArray :: back ss (ns.drop ks.length) from rfl]
    simp only [List.all_cons, Bool.and_eq_true]
    refine ⟨?_, back_ground ss _⟩
    have := backI_ground ks (ns.take ks.length)
    simpa [ground] using this

structure Con where
  f : FuncId
  sh : List Sh
  val : List Int → Value
  pre : List Int → Prop
def kOf (c : Con) : CallS := fun f xs s q => match decide (f = c.f) with
  | true => match flat c.sh xs.toList with
    | some ns => some (c.val ns, s, 0, 0, ⟨q.rest, q.ob ∧ c.pre ns⟩)
    | none => none
  | false => none
def ConOk (P : Program) (c : Con) : Prop := ∀ ns, ns.length = size c.sh → ground 8 (c.val ns) = true ∧ (c.pre ns → ∀ w, Calls P c.f (back c.sh ns).toArray w fun e w' => e = .returned (c.val ns) ∧ Below w.heap.size w w')
theorem vrs_ground {ρ : Ren} {xs bs : Array Value} (hg : xs.toList.all (ground 8) = true) (h : VRs ρ xs bs) : bs = xs := arr_eq (fun v v' => ground_eq 8) xs bs h.1 hg h.2
theorem kOf_ok {c : Con} (h : ConOk P c) : FOkS P (kOf c) := fun f xs s q v s1 R W q1 he => by
  unfold kOf at he
  split at he
  · rename_i hf
    have hf := of_decide_eq_true hf
    subst hf
    split at he
    · rename_i ns hn
      cases he
      obtain ⟨h1, h2⟩ := flat_back _ _ _ hn
      obtain ⟨g1, g2⟩ := h ns h2
      have hx : xs = (back c.sh ns).toArray := by apply Array.ext'; simpa using h1
      refine ⟨fun hb => hb.1, fun hb => sndF_quietG g1 fun ρ C args' w _ _ _ ha => ?_⟩
      have hg : xs.toList.all (ground 8) = true := by rw [h1]; exact back_ground _ _
      rw [vrs_ground hg ha, hx]
      exact g2 hb.2 w
    · cases he
  · cases he
def bothX (X Y : CallS) : CallS := fun f xs s q => match X f xs s q with
  | some r => some r
  | none => Y f xs s q
theorem bothX_ok {X Y : CallS} (hX : FOkS P X) (hY : FOkS P Y) : FOkS P (bothX X Y) := fun f xs s q v s1 R W q1 he => by
  unfold bothX at he
  split at he
  · rename_i hx
    cases he
    exact hX _ _ _ _ _ _ _ _ _ hx
  · exact hY _ _ _ _ _ _ _ _ _ he
def kAll : List Con → CallS
  | [] => noXS
  | c :: cs => bothX (kOf c) (kAll cs)
def ConsOk (P : Program) : List Con → Prop
  | [] => True
  | c :: cs => ConOk P c ∧ ConsOk P cs
theorem kAll_ok : ∀ (l : List Con), ConsOk P l → FOkS P (kAll l)
  | [], _ => noXS_ok
  | c :: cs, h => bothX_ok (kOf_ok h.1) (kAll_ok cs h.2)

def noTabs (n : Nat) : St := ⟨n, .leaf, []⟩
theorem noTabs_get (n b : Nat) : (noTabs n).get b = .hole := by
  unfold noTabs St.get
  split
  · split <;> rfl
  · rfl
theorem noTabs_holds (w : World) : Holds P (noTabs P.globals.size) w := ⟨rfl, fun b _ => .inl (noTabs_get _ b)⟩
theorem len_cons {ns : List Int} {n : Nat} (h : ns.length = n + 1) : ∃ a r, ns = a :: r ∧ r.length = n := by
  cases ns with
  | nil => cases h
  | cons a r => exact ⟨a, r, rfl, by simpa using h⟩
theorem len_nil {ns : List Int} (h : ns.length = 0) : ns = [] := List.length_eq_zero_iff.1 h
theorem calls_way {X : CallS} {f : FuncId} {args : Array Value} {v : Value} {q : Orc} {w : World} {n : Nat} {s : St} {r : Option OutS} {p : Prop} (hr : r = evFS P X n f args s q) (hm : P.follows .mixedOrders = true) (hX : FOkS P X) (hv : resOf r = v) (hg : ground 8 v = true) (ha : args.toList.all (ground 8) = true)
    (hc : cleanOf P.globals.size r = true) (ho : obOf r = p) (hp : p) (hh : Holds P s w) : Calls P f args w fun e w' => e = .returned v ∧ Below w.heap.size w w' :=
  calls_ofR hr hm hX hv hg ha hc ⟨by rw [ho]; exact hp⟩ hh
end Mini
end Go.Proofs.YtbkpnhbcihcgaaaGreatDoor
end
section
namespace Go.Proofs.YtbkpnhbcihcgaaaGreatDoor
set_option linter.all false
namespace Mini
variable {P : Program} {rd rd0 : Option Nat} {s s1 s0 s01 : St} {R W R0 W0 : Nat}

abbrev Nm := Nat → Nat → Prop
def RenOk (f : Nm) (ρ ρ' : Ren) : Prop := ∀ b b' L, f b b' → ρ b = some L → ρ' b' = some L
def WV (f : Nm) (v u : Value) : Prop := ∀ ρ ρ' : Ren, RenOk f ρ ρ' → ∀ v', VR ρ v v' → VR ρ' u v'
def WO (f : Nm) (o o2 : MObj) : Prop := (o2 ≠ .hole → o ≠ .hole) ∧ (o2 ≠ .hole → roO o = true → roO o2 = true) ∧ ∀ ρ ρ' : Ren, RenOk f ρ ρ' → ∀ L o', OR ρ L o o' → OR ρ' L o2 o'
def WVs (f : Nm) (a a2 : Array Value) : Prop := a.size = a2.size ∧ ∀ (i : Nat) (v u : Value), a[i]? = some v → a2[i]? = some u → WV f v u
structure WA (f : Nm) (a a2 : Act) : Prop where
  tmps : WVs f a.tmps a2.tmps
  d : a.defers = []
  d2 : a2.defers = []
theorem WVs.vrs {f : Nm} {ρ ρ' : Ren} (hf : RenOk f ρ ρ') {a a2 a' : Array Value} (h : WVs f a a2) (g : VRs ρ a a') : VRs ρ' a2 a' := by
  refine ⟨h.1.symm.trans g.1, fun i u v' e1 e2 => ?_⟩
  have hlt : i < a.size := h.1 ▸ (Array.getElem?_eq_some_iff.1 e1).1
  have e0 : a[i]? = some a[i] := Array.getElem?_eq_getElem hlt
  exact h.2 i _ _ e0 e1 ρ ρ' hf v' (g.2 i _ _ e0 e2)
theorem WA.ar {f : Nm} {ρ ρ' : Ren} (hf : RenOk f ρ ρ') {a a2 a' : Act} (h : WA f a a2) (g : AR ρ a a') : AR ρ' a2 a' := by
  refine ⟨h.tmps.vrs hf g.tmps, ?_⟩
  have := g.defs
  rw [h.d] at this
  rw [h.d2]
  cases hd : a'.defers with
  | nil => trivial
  | cons x xs => rw [hd] at this; exact this.elim

structure Emb (P : Program) (s0 s01 : St) (R0 W0 : Nat) (s s1 : St) (R W : Nat) (ι : Nat → Nat) (κ : Nat → Option Nat) : Prop where
  glob : ∀ g, g < P.globals.size → g < s0.next ∧ ι g = g
  lt : ∀ b, b < s0.next → ι b < s.next
  inj : ∀ b b', b < s0.next → b' < s0.next → ι b = ι b' → b = b'
  reads : ∀ b, b < s0.next → (R0 ||| W0).testBit b = true → (R ||| W).testBit (ι b) = true
  writes : ∀ b, b < s0.next → W0.testBit b = true → W.testBit (ι b) = true ∧ s0.get b ≠ .hole ∧ roO (s.get (ι b)) = false
  obj : ∀ b, b < s0.next → (R0 ||| W0).testBit b = true → WO (fun x y => y < s0.next ∧ x = ι y) (s.get (ι b)) (s0.get b)
  stat : Stat s s1 W
  kold : ∀ b, b < s0.next → κ b = some (ι b)
  knew : ∀ b x, s0.next ≤ b → κ b = some x → s.next ≤ x ∧ x < s1.next
  kinj : ∀ b b' x, κ b = some x → κ b' = some x → b = b'
  wrote : ∀ x, x < s.next → W.testBit x = true → ∃ b, b < s0.next ∧ ι b = x ∧ W0.testBit b = true ∧ WO (fun y z => κ y = some z) (s01.get b) (s1.get x)
  new : ∀ x, s.next ≤ x → x < s1.next → s1.get x = .hole ∨ ∃ b, s0.next ≤ b ∧ b < s01.next ∧ κ b = some x ∧ WO (fun y z => κ y = some z) (s01.get b) (s1.get x)

open Classical in
theorem Snd.embed {T : Tr} {a0 a01 a a1 : Act} {e : Exit} {ι : Nat → Nat} {κ : Nat → Option Nat} (h : Snd P rd0 T a0 s0 e a01 s01 R0 W0) (E : Emb P s0 s01 R0 W0 s s1 R W ι κ)
    (hrd : (rd0 = none ∧ rd = none) ∨ ∃ l, l < s0.next ∧ rd0 = some l ∧ rd = some (ι l)) (ha : WA (fun x y => y < s0.next ∧ x = ι y) a a0) (ha1 : WA (fun y z => κ y = some z) a01 a1) : Snd P rd T a s e a1 s1 R W := by
  refine ⟨E.stat, fun n ro ρ C a' w Q hp har hQ => ?_⟩
  have hst := E.stat
  let ρ0 : Ren := fun b => if b < s0.next then ρ (ι b) else none
  let C0 : Nat → MObj := fun b => if b < s0.next ∧ (R0 ||| W0).testBit b = true then s0.get b else .hole
  have hρ0 : ∀ b, b < s0.next → ρ0 b = ρ (ι b) := fun b hb => if_pos hb
  have hρn : ∀ b, s0.next ≤ b → ρ0 b = none := fun b hb => if_neg (by omega)
  have hf : RenOk (fun x y => y < s0.next ∧ x = ι y) ρ ρ0 := fun x y L hxy hx => by
    obtain ⟨h1, rfl⟩ := hxy
    rw [hρ0 y h1]; exact hx
  have hCs : ∀ b, b < s0.next → (R0 ||| W0).testBit b = true → C (ι b) = s.get (ι b) := fun b hb hbit => hp.agree _ (E.reads b hb hbit) (E.lt b hb)
  have hWb : ∀ b, W0.testBit b = true → (R0 ||| W0).testBit b = true := fun b hb => by rw [or_bit, hb]; simp
  have hliveW : ∀ b, b < s0.next → W0.testBit b = true → C (ι b) ≠ .hole := fun b hb hbit => by
    rw [hCs b hb (hWb b hbit)]
    exact (E.obj b hb (hWb b hbit)).1 (E.writes b hb hbit).2.1
  have hp0 : Pre P rd0 s0 s01 R0 W0 ro ρ0 C0 w := by
    refine ⟨fun g hg => ?_, ?_, fun b hb hlt => if_pos ⟨hlt, hb⟩, fun b h1 h2 => ⟨hρn b h1, if_neg (by omega)⟩, fun b hb => ?_, fun b b' L L' h1 h2 hq e1 e2 he => ?_⟩
    · obtain ⟨g1, g2⟩ := E.glob g hg
      rw [hρ0 g g1, g2]
      exact hp.glob g hg
    · have hr := hp.round
      rcases hrd with ⟨e1, e2⟩ | ⟨l, hl, e1, e2⟩
      · rw [e2] at hr; rw [e1]
        cases ro with
        | none => trivial
        | some l' => exact hr.elim
      · rw [e2] at hr; rw [e1]
        cases ro with
        | none => exact hr.elim
        | some l' =>
          obtain ⟨L, q1, q2⟩ := hr
          exact ⟨L, by rw [hρ0 l hl]; exact q1, q2⟩
    · have hc : b < s0.next ∧ (R0 ||| W0).testBit b = true := by
        by_cases c : b < s0.next ∧ (R0 ||| W0).testBit b = true
        · exact c
        · exact absurd (if_neg c) hb
      have e0 : C0 b = s0.get b := if_pos hc
      have hwo := E.obj b hc.1 hc.2
      rw [e0] at hb ⊢
      have hne : C (ι b) ≠ .hole := by rw [hCs b hc.1 hc.2]; exact hwo.1 hb
      obtain ⟨L, o', q1, q2, q3⟩ := hp.rel.1 _ hne
      refine ⟨L, o', by rw [hρ0 b hc.1]; exact q1, q2, hwo.2.2 ρ ρ0 hf L o' ?_⟩
      rw [← hCs b hc.1 hc.2]; exact q3
    · have k : ∀ b, C0 b ≠ .hole → (b < s0.next ∧ (R0 ||| W0).testBit b = true) ∧ C (ι b) ≠ .hole := fun b hb => by
        have hc : b < s0.next ∧ (R0 ||| W0).testBit b = true := by
          by_cases c : b < s0.next ∧ (R0 ||| W0).testBit b = true
          · exact c
          · exact absurd (if_neg c) hb
        refine ⟨hc, ?_⟩
        rw [show C0 b = s0.get b from if_pos hc] at hb
        rw [hCs b hc.1 hc.2]; exact (E.obj b hc.1 hc.2).1 hb
      obtain ⟨c1, n1⟩ := k b h1
      obtain ⟨c2, n2⟩ := k b' h2
      rw [hρ0 b c1.1] at e1
      rw [hρ0 b' c2.1] at e2
      have hro : ∀ b, (b < s0.next ∧ (R0 ||| W0).testBit b = true) → C0 b ≠ .hole → roO (C (ι b)) = true → roO (C0 b) = true := fun b hc hb hr => by
        rw [show C0 b = s0.get b from if_pos hc] at hb ⊢
        rw [hCs b hc.1 hc.2] at hr
        exact (E.obj b hc.1 hc.2).2.1 hb hr
      have hq2 : (roO (C (ι b)) && roO (C (ι b'))) = false := by
        cases hA : roO (C (ι b)) && roO (C (ι b')) with
        | false => rfl
        | true =>
          rw [Bool.and_eq_true] at hA
          rw [hro b c1 h1 hA.1, hro b' c2 h2 hA.2] at hq
          cases hq
      exact E.inj b b' c1.1 c2.1 (hp.rel.2 _ _ L L' n1 n2 hq2 e1 e2 he)
  refine h.2 n ro ρ0 C0 a' w Q hp0 (ha.ar hf har) fun ρ01 a1' w1 p1 r1 har1 => ?_
  let ρ1 : Ren := fun x => if hx : ∃ b, s0.next ≤ b ∧ κ b = some x then ρ01 hx.choose else ρ x
  have hnew : ∀ b x, s0.next ≤ b → κ b = some x → ρ1 x = ρ01 b := fun b x h1 h2 => by
    have hx : ∃ b, s0.next ≤ b ∧ κ b = some x := ⟨b, h1, h2⟩
    have e1 : ρ1 x = ρ01 hx.choose := dif_pos hx
    rw [e1, E.kinj _ _ x hx.choose_spec.2 h2]
  have hold : ∀ x, (∀ b, s0.next ≤ b → κ b ≠ some x) → ρ1 x = ρ x := fun x hx => dif_neg (by rintro ⟨b, h1, h2⟩; exact hx b h1 h2)
  have hout : ∀ x, ¬ (s.next ≤ x ∧ x < s1.next) → ρ1 x = ρ x := fun x hx => hold x fun b h1 h2 => hx (E.knew b x h1 h2)
  have hsame : ∀ b, b < s0.next → ρ01 b = ρ0 b := fun b hb => by
    by_cases c : ρ01 b = ρ0 b
    · exact c
    · have := p1.dom b c; omega
  have hκ : RenOk (fun y z => κ y = some z) ρ01 ρ1 := fun y z L hyz hy => by
    have hyz : κ y = some z := hyz
    by_cases c : y < s0.next
    · have e1 := E.kold y c
      rw [e1] at hyz
      cases hyz
      rw [hout _ (by have := E.lt y c; omega), ← hρ0 y c, ← hsame y c]; exact hy
    · rw [hnew y z (by omega) hyz]; exact hy
  have hpost : Post ρ s s1 W w ρ1 w1 := by
    refine ⟨fun x L hx => ?_, fun x hx => ?_, fun x L hx hx1 => ?_, p1.size, fun x hx hfr => p1.frame x hx fun b L hb hlt hL => hfr (ι b) L (E.writes b hlt hb).1 (E.lt b hlt) ((hρ0 b hlt) ▸ hL), p1.os, p1.tape, p1.output⟩
    · by_cases c : s.next ≤ x ∧ x < s1.next
      · rw [(hp.free x c.1 c.2).1] at hx; cases hx
      · rw [hout x c]; exact hx
    · by_cases c : s.next ≤ x ∧ x < s1.next
      · exact c
      · exact absurd (hout x c) hx
    · by_cases c : ∃ b, s0.next ≤ b ∧ κ b = some x
      · obtain ⟨b, c1, c2⟩ := c
        rw [hnew b x c1 c2] at hx1
        rcases p1.fresh b L (hρn b c1) hx1 with k | ⟨b0, L0, k1, k2, k3, k4⟩
        · exact .inl k
        · exact .inr ⟨ι b0, L0, (E.writes b0 k2 k1).1, E.lt b0 k2, (hρ0 b0 k2) ▸ k3, k4⟩
      · rw [hold x (fun b h1 h2 => c ⟨b, h1, h2⟩), hx] at hx1; cases hx1
  have can : ∀ x, ((s.next ≤ x ∧ x < s1.next) ∨ (W.testBit x = true ∧ x < s.next)) → s1.get x ≠ .hole →
      ∃ b, κ b = some x ∧ ((s0.next ≤ b ∧ b < s01.next) ∨ (b < s0.next ∧ W0.testBit b = true)) ∧ upd C0 s0 s01 W0 b = s01.get b ∧ s01.get b ≠ .hole ∧ WO (fun y z => κ y = some z) (s01.get b) (s1.get x) := fun x hx hne => by
    rcases hx with ⟨c1, c2⟩ | ⟨c1, c2⟩
    · rcases E.new x c1 c2 with k | ⟨b, k1, k2, k3, k4⟩
      · exact absurd k hne
      · exact ⟨b, k3, .inl ⟨k1, k2⟩, if_pos (.inl ⟨k1, k2⟩), k4.1 hne, k4⟩
    · obtain ⟨b, k1, k2, k3, k4⟩ := E.wrote x c2 c1
      exact ⟨b, by rw [E.kold b k1, k2], .inr ⟨k1, k3⟩, if_pos (.inr ⟨k3, k1⟩), k4.1 hne, k4⟩
  have updIn : ∀ x, ((s.next ≤ x ∧ x < s1.next) ∨ (W.testBit x = true ∧ x < s.next)) → upd C s s1 W x = s1.get x := fun x hx => if_pos hx
  have updOut : ∀ x, ¬ ((s.next ≤ x ∧ x < s1.next) ∨ (W.testBit x = true ∧ x < s.next)) → upd C s s1 W x = C x := fun x hx => if_neg hx
  -- what is not touched lies apart from what is
  have apart : ∀ x L b, ¬ ((s.next ≤ x ∧ x < s1.next) ∨ (W.testBit x = true ∧ x < s.next)) → C x ≠ .hole → ρ x = some L → b < s0.next → W0.testBit b = true → ∀ L', ρ0 b = some L' → L'.blk ≠ L.blk := fun x L b hx hc hL hb hW L' hL' he => by
    rw [hρ0 b hb] at hL'
    have hrW : roO (C (ι b)) = false := by rw [hCs b hb (hWb b hW)]; exact (E.writes b hb hW).2.2
    have := hp.rel.2 _ _ L' L (hliveW b hb hW) hc (by rw [hrW, Bool.false_and]) hL' hL he
    exact hx (.inr (this ▸ ⟨(E.writes b hb hW).1, E.lt b hb⟩))
  have mixed : ∀ x x' L L', ((s.next ≤ x ∧ x < s1.next) ∨ (W.testBit x = true ∧ x < s.next)) → ¬ ((s.next ≤ x' ∧ x' < s1.next) ∨ (W.testBit x' = true ∧ x' < s.next)) → s1.get x ≠ .hole → C x' ≠ .hole → ρ1 x = some L → ρ1 x' = some L' → L.blk ≠ L'.blk := fun x x' L L' hx hx' hn hn' e1 e2 he => by
    rw [hout x' (fun c => hx' (.inl c))] at e2
    obtain ⟨b, k1, k2, k3, k4, k5⟩ := can x hx hn
    obtain ⟨L2, o2, q1, q2, q3⟩ := r1.1 b (by rw [k3]; exact k4)
    have e3 := hκ b x L2 k1 q1
    rw [e1] at e3
    cases e3
    obtain ⟨L3, o3, z1, z2, z3⟩ := hp.rel.1 x' hn'
    rw [e2] at z1
    cases z1
    have hlt : L'.blk < w.heap.size := (Array.getElem?_eq_some_iff.1 z2).1
    rcases k2 with ⟨c1, c2⟩ | ⟨c1, c2⟩
    · rcases p1.fresh b L (hρn b c1) q1 with m | ⟨b0, L0, m1, m2, m3, m4⟩
      · omega
      · exact apart x' L' b0 hx' hn' e2 m2 m1 L0 m3 (m4.trans he)
    · rw [hsame b c1] at q1
      exact apart x' L' b hx' hn' e2 c1 c2 L q1 he
  refine hQ ρ1 a1' w1 hpost ⟨fun x hx => ?_, fun x x' L L' h1 h2 hq e1 e2 he => ?_⟩ (ha1.ar hκ har1)
  · by_cases c : (s.next ≤ x ∧ x < s1.next) ∨ (W.testBit x = true ∧ x < s.next)
    · rw [updIn x c] at hx ⊢
      obtain ⟨b, k1, k2, k3, k4, k5⟩ := can x c hx
      obtain ⟨L, o', q1, q2, q3⟩ := r1.1 b (by rw [k3]; exact k4)
      rw [k3] at q3
      exact ⟨L, o', hκ b x L k1 q1, q2, k5.2.2 ρ01 ρ1 hκ L o' q3⟩
    · rw [updOut x c] at hx ⊢
      obtain ⟨L, o', q1, q2, q3⟩ := hp.rel.1 x hx
      have hlt : L.blk < w.heap.size := (Array.getElem?_eq_some_iff.1 q2).1
      refine ⟨L, o', by rw [hout x (fun k => c (.inl k))]; exact q1, ?_, q3.mono hpost.sub⟩
      rw [p1.frame L.blk hlt fun b L' hb hlt' hL' => apart x L b c hx q1 hlt' hb L' hL']; exact q2
  · by_cases c : (s.next ≤ x ∧ x < s1.next) ∨ (W.testBit x = true ∧ x < s.next)
    · rw [updIn x c] at h1
      by_cases c' : (s.next ≤ x' ∧ x' < s1.next) ∨ (W.testBit x' = true ∧ x' < s.next)
      · rw [updIn x' c'] at h2
        obtain ⟨b, k1, k2, k3, k4, k5⟩ := can x c h1
        obtain ⟨b', k1', k2', k3', k4', k5'⟩ := can x' c' h2
        obtain ⟨L2, o2, q1, q2, q3⟩ := r1.1 b (by rw [k3]; exact k4)
        obtain ⟨L2', o2', q1', q2', q3'⟩ := r1.1 b' (by rw [k3']; exact k4')
        have f1 := hκ b x L2 k1 q1
        have f2 := hκ b' x' L2' k1' q1'
        rw [e1] at f1
        rw [e2] at f2
        cases f1
        cases f2
        have hq2 : (roO (upd C0 s0 s01 W0 b) && roO (upd C0 s0 s01 W0 b')) = false := by
          rw [k3, k3']
          rw [updIn x c, updIn x' c'] at hq
          cases hA : roO (s01.get b) && roO (s01.get b') with
          | false => rfl
          | true =>
            rw [Bool.and_eq_true] at hA
            rw [k5.2.1 h1 hA.1, k5'.2.1 h2 hA.2] at hq
            cases hq
        have := r1.2 b b' L L' (by rw [k3]; exact k4) (by rw [k3']; exact k4') hq2 q1 q1' he
        subst this
        rw [k1] at k1'
        cases k1'
        rfl
      · rw [updOut x' c'] at h2
        exact absurd he (mixed x x' L L' c c' h1 h2 e1 e2)
    · rw [updOut x c] at h1
      by_cases c' : (s.next ≤ x' ∧ x' < s1.next) ∨ (W.testBit x' = true ∧ x' < s.next)
      · rw [updIn x' c'] at h2
        exact absurd he.symm (mixed x' x L' L c' c h2 h1 e2 e1)
      · rw [updOut x' c'] at h2
        rw [hout x (fun k => c (.inl k))] at e1
        rw [hout x' (fun k => c' (.inl k))] at e2
        rw [updOut x c, updOut x' c'] at hq
        exact hp.rel.2 x x' L L' h1 h2 hq e1 e2 he
end Mini
end Go.Proofs.YtbkpnhbcihcgaaaGreatDoor
end
section
namespace Go.Proofs.YtbkpnhbcihcgaaaGreatDoor
set_option linter.all false
open Go.RowKit
namespace Mini
variable {P : Program} {s0 : St}

def ConOkT (P : Program) (s0 : St) (c : Con) : Prop := ∀ ns, ns.length = size c.sh → ground 8 (c.val ns) = true ∧ (c.pre ns → ∀ w, Holds P s0 w → Calls P c.f (back c.sh ns).toArray w fun e w' => e = .returned (c.val ns) ∧ Below w.heap.size w w')
theorem ConOk.t {c : Con} (h : ConOk P c) : ConOkT P s0 c := fun ns hl => ⟨(h ns hl).1, fun hp w _ => (h ns hl).2 hp w⟩
def kOfC (s0 : St) (c : Con) (dec : List Int → Bool) : CallF := fun f xs s => match decide (f = c.f) with
  | true => match flat c.sh xs.toList with
    | some ns => match dec ns with
      | true => match tabsOk s0 s0.next && tabsEq s0 s s0.next with
        | true => some (c.val ns, s, 2 ^ s0.next - 1, 0)
        | false => none
      | false => none
    | none => none
  | false => none
end Mini
end Go.Proofs.YtbkpnhbcihcgaaaGreatDoor
end
section
namespace Go.Proofs.YtbkpnhbcihcgaaaGreatDoor
set_option linter.all false
namespace Mini
variable {P : Program} {rd : Option Nat} {s s1 : St} {R W : Nat}

theorem snd_rounds {c : Code} {A : Nat → Act} {S : Nat → St} {e : Exit} {a1 : Act} : ∀ (m i : Nat), (∀ k, i ≤ k → k < i + m → SndC P rd c (A k) (S k) .normal (A (k + 1)) (S (k + 1)) R W) →
    SndC P rd c (A (i + m)) (S (i + m)) e a1 s1 R W → e ≠ .normal → Snd P rd (LoopFrom P c) (A i) (S i) e a1 s1 R W
  | 0, i, _, h, he => snd_from_stop he h
  | m + 1, i, hs, h, he => by
    have ih := snd_rounds (A := A) (S := S) m (i + 1) (fun k h1 h2 => hs k (by omega) (by omega)) (by rw [show i + 1 + m = i + (m + 1) from by omega]; exact h) he
    have := snd_from_on (hs i (Nat.le_refl _) (by omega)) ih
    rwa [Nat.or_self, Nat.or_self] at this
theorem sndC_rounds {c : Code} {A : Nat → Act} {S : Nat → St} {e : Exit} {a1 : Act} (m : Nat) (hs : ∀ k, k < m → SndC P rd c (A k) (S k) .normal (A (k + 1)) (S (k + 1)) R W)
    (h : SndC P rd c (A m) (S m) e a1 s1 R W) (he : e ≠ .normal) : SndC P rd (.loop c) (A 0) (S 0) e a1 s1 R W :=
  sndC_loop (snd_rounds m 0 (fun k _ h2 => hs k (by omega)) (by rw [Nat.zero_add]; exact h) he)
theorem Snd.widen {T : Tr} {a a1 : Act} {e : Exit} {R2 W2 : Nat} (h : Snd P rd T a s e a1 s1 R W) (hW : W2 = W) (hR : ∀ b, R.testBit b = true → (R2 ||| W2).testBit b = true) : Snd P rd T a s e a1 s1 R2 W2 := by
  subst hW
  refine ⟨h.1, fun n ro ρ C a' w Q hp ha hQ => h.2 n ro ρ C a' w Q ⟨hp.glob, hp.round, fun b hb hlt => hp.agree b ?_ hlt, hp.free, hp.rel⟩ ha hQ⟩
  simp only [or_bit, Bool.or_eq_true] at hb ⊢
  rcases hb with k | k
  · have := hR b k; simpa only [or_bit, Bool.or_eq_true] using this
  · exact .inr k

def Tfn (P : Program) (f : FuncId) : Tr := fun F n Q a w => CallsIn F n P f a.tmps w fun en w' => ∃ v, en = .returned v ∧ Q .normal ⟨#[v], []⟩ w'
theorem sndF_snd {f : FuncId} {args : Array Value} {v : Value} (h : SndF P f args s v s1 R W) : Snd P none (Tfn P f) ⟨args, []⟩ s .normal ⟨#[v], []⟩ s1 R W := by
  refine ⟨h.1, fun n ro ρ C a' w Q hp ha hQ => ?_⟩
  have hro : ro = none := by
    have := hp.round
    cases ro with
    | none => rfl
    | some l => exact this.elim
  subst hro
  refine h.2 n ρ C a'.tmps w _ hp ha.tmps fun ρ1 v' w1 p1 r1 hv => ⟨v', rfl, hQ ρ1 _ w1 p1 r1 ⟨⟨rfl, fun i x x' h1 h2 => ?_⟩, trivial⟩⟩
  cases i with
  | zero => simp at h1 h2; subst h1 h2; exact hv
  | succ i => simp at h1
theorem snd_sndF {f : FuncId} {args : Array Value} {v : Value} (h : Snd P none (Tfn P f) ⟨args, []⟩ s .normal ⟨#[v], []⟩ s1 R W) : SndF P f args s v s1 R W := by
  refine ⟨h.1, fun n ρ C args' w Q hp ha hQ => ?_⟩
  have := h.2 n none ρ C ⟨args', []⟩ w (fun e a w' => e = .normal ∧ ∃ v', a = ⟨#[v'], []⟩ ∧ Q (.returned v') w') hp ⟨ha, trivial⟩ fun ρ1 a1' w1 p1 r1 ha1 => by
    obtain ⟨t, d⟩ := a1'
    have hd : d = [] := by
      have := ha1.defs
      cases d with
      | nil => rfl
      | cons x xs => exact this.elim
    subst hd
    have hs : t.size = 1 := ha1.tmps.1.symm
    have ht : t = #[t[0]'(by omega)] := by
      apply Array.ext
      · simp [hs]
      · intro i h1 h2
        have : i = 0 := by omega
        subst this; rfl
    refine ⟨rfl, t[0]'(by omega), by rw [← ht], hQ ρ1 _ w1 p1 r1 (ha1.tmps.2 0 _ _ rfl (Array.getElem?_eq_getElem (show 0 < t.size by omega)))⟩
  exact this.mono fun en w' ⟨v', e, _, x, hx, hq⟩ => by
    have hx := congrArg Act.tmps hx
    simp at hx
    rw [e, hx]; exact hq
theorem SndF.embed {f : FuncId} {args args2 : Array Value} {v v2 : Value} {s0 s01 : St} {R0 W0 : Nat} {ι : Nat → Nat} {κ : Nat → Option Nat} (h : SndF P f args s0 v s01 R0 W0) (E : Emb P s0 s01 R0 W0 s s1 R W ι κ)
    (ha : WVs (fun x y => y < s0.next ∧ x = ι y) args2 args) (hv : WV (fun y z => κ y = some z) v v2) : SndF P f args2 s v2 s1 R W :=
  snd_sndF ((sndF_snd h).embed E (.inl ⟨rfl, rfl⟩) ⟨ha, rfl, rfl⟩ ⟨⟨rfl, fun i x u h1 h2 => by
    cases i with
    | zero => simp at h1 h2; subst h1 h2; exact hv
    | succ i => simp at h1⟩, rfl, rfl⟩)

def keepB (N : Nat → Bool) : Nat → Value → Bool
  | _, .bool _ | _, .int _ _ | _, .float _ _ | _, .complex _ _ _ | _, .string _ | _, .pointer none | _, .slice none _ _ | _, .map none | _, .nilFunc | _, .nilIface | _, .chan _ => true
  | _, .pointer (some ⟨b, _, none⟩) => N b
  | _, .slice (some ⟨b, _, none⟩) _ _ => N b
  | _, .map (some b) => N b
  | n + 1, .func (.yield l) azz bs => match azz.toList, bs.toList with
    | [], [] => N l
    | _, _ => false
  | n + 1, .func fn azz bs => plainFn fn && azz.toList.all (keepB N n) && bs.toList.all (keepB N n)
  | n + 1, .iface _ v => keepB N n v
  | n + 1, .agg cs => cs.toList.all (keepB N n)
  | n + 1, .tuple cs => cs.toList.all (keepB N n)
  | _, _ => false
theorem keep_wv {f : Nm} {N : Nat → Bool} (hN : ∀ b, N b = true → f b b) : ∀ (n : Nat) {v : Value}, keepB N n v = true → WV f v v := by
  have arr : ∀ (n : Nat) (cs : Array Value), cs.toList.all (keepB N n) = true → (∀ {v : Value}, keepB N n v = true → WV f v v) → ∀ (ρ ρ' : Ren), RenOk f ρ ρ' → ∀ (cs' : Array Value),
      (∀ (i : Nat) (v v' : Value), cs[i]? = some v → cs'[i]? = some v' → VR ρ v v') → ∀ (i : Nat) (v v' : Value), cs[i]? = some v → cs'[i]? = some v' → VR ρ' v v' := fun n cs hc ih ρ ρ' hr cs' h i v v' h1 h2 => by
    refine ih ?_ ρ ρ' hr v' (h i v v' h1 h2)
    rw [List.all_eq_true] at hc
    exact hc _ (by rw [Array.mem_toList_iff]; exact Array.mem_of_getElem? h1)
  intro n
  induction n with
  | zero =>
    intro v hk ρ ρ' hr v' hv
    cases hv with
    | bool b => exact .bool b
    | int k n => exact .int k n
    | float k n => exact .float k n
    | complex k a b => exact .complex k a b
    | string s => exact .string s
    | ptr0 => exact .ptr0
    | ptr b o L h => exact .ptr b o L (hr b b L (hN b (by simpa [keepB] using hk)) h)
    | slice0 n c => exact .slice0 n c
    | empty a a' => exact .empty a a'
    | slice b o n c c' L h hc => exact .slice b o n c c' L (hr b b L (hN b (by simpa [keepB] using hk)) h) hc
    | map0 => exact .map0
    | map b L h => exact .map b L (hr b b L (hN b (by simpa [keepB] using hk)) h)
    | nilFunc => exact .nilFunc
    | nilIface => exact .nilIface
    | junk r v' => exact .junk r v'
    | _ => simp [keepB] at hk
  | succ n ih =>
    intro v hk ρ ρ' hr v' hv
    cases hv with
    | bool b => exact .bool b
    | int k n => exact .int k n
    | float k n => exact .float k n
    | complex k a b => exact .complex k a b
    | string s => exact .string s
    | ptr0 => exact .ptr0
    | ptr b o L h => exact .ptr b o L (hr b b L (hN b (by simpa [keepB] using hk)) h)
    | slice0 n c => exact .slice0 n c
    | empty a a' => exact .empty a a'
    | slice b o n c c' L h hc => exact .slice b o n c c' L (hr b b L (hN b (by simpa [keepB] using hk)) h) hc
    | map0 => exact .map0
    | map b L h => exact .map b L (hr b b L (hN b (by simpa [keepB] using hk)) h)
    | func fn azz bs as' bs' hf h1 h2 h3 h4 =>
      have hk' : (plainFn fn && azz.toList.all (keepB N n) && bs.toList.all (keepB N n)) = true := by
        cases fn <;> first | (simp only [keepB] at hk; exact hk) | (simp [plainFn] at hf)
      simp only [Bool.and_eq_true] at hk'
      exact .func fn azz bs as' bs' hf h1 h2 (arr n azz hk'.1.2 ih ρ ρ' hr as' h3) (arr n bs hk'.2 ih ρ ρ' hr bs' h4)
    | yield l L h => exact .yield l L (hr l l L (hN l (by simpa [keepB] using hk)) h)
    | nilFunc => exact .nilFunc
    | nilIface => exact .nilIface
    | iface t v v' h => simp only [keepB] at hk; exact .iface t v v' (ih hk ρ ρ' hr v' h)
    | agg cs cs' h1 h2 => simp only [keepB] at hk; exact .agg cs cs' h1 (arr n cs hk ih ρ ρ' hr cs' h2)
    | tuple cs cs' h1 h2 => simp only [keepB] at hk; exact .tuple cs cs' h1 (arr n cs hk ih ρ ρ' hr cs' h2)
    | junk r v' => exact .junk r v'
theorem junk_wv {f : Nm} (v : Value) (r) : WV f v (.chan r) := fun ρ ρ' _ v' _ => .junk r v'
def keepO (N : Nat → Bool) : MObj → Prop
  | .hole => True
  | .cells c _ _ _ _ => c.all (keepB N 8) = true
  | .rows _ _ g _ _ _ _ => ∀ i k, keepB N 8 (g i k) = true
  | .iter _ _ => True
  | .marks => True
  | _ => False
theorem keep_wo {f : Nm} {N : Nat → Bool} (hN : ∀ b, N b = true → f b b) {o : MObj} (h : keepO N o) : WO f o o := by
  refine ⟨id, fun _ h => h, fun ρ ρ' hr L o' ho => ?_⟩
  cases o with
  | hole => trivial
  | cells c e opn sz ro =>
    cases o' <;> simp only [OR] at ho ⊢
    obtain ⟨h1, h2, h3, h4, h5, h6, h7⟩ := ho
    exact ⟨h1, h2, h3, h4, h5, fun i v hi => let ⟨v', a, b⟩ := h6 i v hi; ⟨v', a, keep_wv hN 8 (List.all_eq_true.1 h v (List.mem_of_getElem? hi)) ρ ρ' hr v' b⟩, h7⟩
  | rows n k g e opn sz ro =>
    cases o' <;> simp only [OR] at ho ⊢
    obtain ⟨h1, h2, h3, h4, h5, h6, h7⟩ := ho
    refine ⟨h1, h2, h3, h4, h5, fun i v hi => let ⟨v', a, b⟩ := h6 i v hi; ⟨v', a, keep_wv hN 8 ?_ ρ ρ' hr v' b⟩, h7⟩
    have hlt : i < n * k := by
      have := (List.getElem?_eq_some_iff.1 hi).1
      rwa [rowsL_len] at this
    rw [rowsL_at hlt] at hi
    cases hi
    exact h _ _
  | iter s p => cases o' <;> simp only [OR] at ho ⊢; exact ho
  | marks => cases o' <;> simp only [OR] at ho ⊢; exact ho
  | map es k => exact h.elim
  | loop l => exact h.elim
  | miter m si sn la => exact h.elim

structure Fits (N : Nat → Bool) (a a2 : MA) : Prop where
  n : a2.n = a.n
  d : a.defers = []
  d2 : a2.defers = []
  tmps : ∀ t, t < a.n → (∃ r, a2.get t = .chan r) ∨ (a2.get t = a.get t ∧ keepB N 8 (a.get t) = true)
theorem Fits.wa {f : Nm} {N : Nat → Bool} (hN : ∀ b, N b = true → f b b) {a a2 : MA} (h : Fits N a a2) : WA f a.act a2.act := by
  refine ⟨⟨?_, fun i v u h1 h2 => ?_⟩, h.d, h.d2⟩
  · show a.tmps.size = a2.tmps.size
    rw [a.tmps_size, a2.tmps_size, h.n]
  · have hi : i < a.n := by
      have := (Array.getElem?_eq_some_iff.1 h1).1
      have h3 : i < a.tmps.size := this
      rwa [a.tmps_size] at h3
    have e1 : a.tmps[i]? = some v := h1
    have e2 : a2.tmps[i]? = some u := h2
    rw [a.tmps_at i hi] at e1
    rw [a2.tmps_at i (h.n ▸ hi)] at e2
    cases e1
    cases e2
    rcases h.tmps i hi with ⟨r, hr⟩ | ⟨hr, hk⟩
    · rw [hr]; exact junk_wv _ r
    · rw [hr]; exact keep_wv hN 8 hk
theorem Snd.forget {T : Tr} {a a1 a2 : MA} {e : Exit} {s2 : St} (h : Snd P none T a.act s e a1.act s1 R W) (hg : P.globals.size ≤ s.next) (ha : Fits (fun b => Nat.ble (b + 1) s.next) a a)
    (ha1 : Fits (fun b => Nat.ble (b + 1) s.next) a1 a2) (hn : s2.next = s.next) (hr : ∀ b, b < s.next → (R ||| W).testBit b = true → keepO (fun b => Nat.ble (b + 1) s.next) (s.get b))
    (hw : ∀ b, b < s.next → W.testBit b = true → s.get b ≠ .hole ∧ roO (s.get b) = false ∧ s2.get b = s1.get b ∧ keepO (fun b => Nat.ble (b + 1) s.next) (s1.get b)) (hs : ∀ b, b < s.next → W.testBit b = false → s2.get b = s.get b) :
    Snd P none T a.act s e a2.act s2 R W := by
  have hN : ∀ b, Nat.ble (b + 1) s.next = true → b < s.next ∧ b = id b := fun b hb => ⟨Nat.le_of_ble_eq_true hb, rfl⟩
  have hK : ∀ b, Nat.ble (b + 1) s.next = true → (fun y z => (if y < s.next then some y else none) = some z) b b := fun b hb => if_pos (Nat.le_of_ble_eq_true hb)
  refine h.embed (ι := id) (κ := fun b => if b < s.next then some b else none) ⟨fun g hg' => ⟨by omega, rfl⟩, fun b hb => hb, fun b b' _ _ e => e, fun b _ hb => hb, fun b hb hb' => ⟨hb', (hw b hb hb').1, (hw b hb hb').2.1⟩, fun b hb hb' => keep_wo hN (hr b hb hb'), ⟨by rw [hn]; exact Nat.le_refl _, hs⟩, fun b hb => if_pos hb, fun b x hb hx => ?_, fun b b' x h1 h2 => ?_, fun x hx hxw => ⟨x, hx, rfl, hxw, ?_⟩, fun x h1 h2 => ?_⟩ (.inl ⟨rfl, rfl⟩) ?_ ?_
  · rw [if_neg (by omega)] at hx; cases hx
  · split at h1
    · split at h2
      · cases h1; cases h2; rfl
      · cases h2
    · cases h1
  · rw [(hw x hx hxw).2.2.1]
    exact keep_wo hK (hw x hx hxw).2.2.2
  · omega
  · exact ha.wa hN
  · exact ha1.wa hK

def theLoop : Code → Option Code
  | .loop x => some x
  | .seq a b => match theLoop a with
    | some x => some x
    | none => theLoop b
  | .block _ a => theLoop a
  | .scope a => theLoop a
  | .cond _ a b => match theLoop a with
    | some x => some x
    | none => theLoop b
  | _ => none
def loopOf (P : Program) (f : FuncId) : Code := (theLoop (bodyOf P f)).getD .skip
def lessL (a a2 : MA) : Nat → Prop
  | 0 => True
  | n + 1 => lessL a a2 n ∧ (match a2.get n with
    | .chan _ => True
    | v => v = a.get n)
end Mini
end Go.Proofs.YtbkpnhbcihcgaaaGreatDoor
end
section
namespace Go.Proofs.YtbkpnhbcihcgaaaGreatDoor
set_option linter.all false
namespace Mini
variable {P : Program} {rd : Option Nat} {s s1 : St} {R W : Nat}

theorem ground_wv {f : Nm} {n : Nat} {v : Value} (h : ground n v = true) : WV f v v := fun ρ ρ' _ v' hv => by
  have e := ground_eq n h hv
  subst e
  exact ground_refl n h
theorem wo_rows {f : Nm} {o : MObj} {n k : Nat} {G : Nat → Nat → Value} {e : TypeId} {opn : Bool} {sz : Nat} {ro : Bool} (h : nrm o = .cells (rowsL n k G) e opn sz ro) (hg : ∀ i j, i < n → j < k → ground 8 (G i j) = true) :
    WO f o (.rows n k G e opn sz ro) := by
  refine ⟨fun _ e => ?_, fun _ hr => by rw [nrm_ro (show nrm o = nrm (.rows n k G e opn sz ro) from h)] at hr; exact hr, fun ρ ρ' hr L o' ho => ?_⟩
  · subst e; simp [nrm] at h
  · have h1 : OR ρ L (.rows n k G e opn sz ro) o' := or_congr (show nrm o = nrm (.rows n k G e opn sz ro) from h) ho
    cases o' <;> simp only [OR] at h1 ⊢
    obtain ⟨k1, k2, k3, k4, k5, k6, k7⟩ := h1
    refine ⟨k1, k2, k3, k4, k5, fun i v hi => ?_, k7⟩
    obtain ⟨v', a, b⟩ := k6 i v hi
    refine ⟨v', a, ?_⟩
    have hlt : i < n * k := by
      have := (List.getElem?_eq_some_iff.1 hi).1
      rwa [rowsL_len] at this
    have hv := hi
    rw [rowsL_at hlt] at hv
    cases hv
    have hk : 0 < k := by
      rcases Nat.eq_zero_or_pos k with z | z
      · subst z; simp at hlt
      · exact z
    exact ground_wv (f := f) (hg _ _ ((Nat.div_lt_iff_lt_mul hk).2 hlt) (Nat.mod_lt _ hk)) ρ ρ' hr v' b
theorem SndF.row {f : FuncId} {args args2 : Array Value} {v : Value} {o : MObj} {N b : Nat} (hN : N = P.globals.size) (h : SndF P f args ((noTabs N).push o) v ((noTabs N).push o) (2 ^ N) 0) (hv : ground 8 v = true)
    (hb : N ≤ b) (hbs : b < s.next) (ho : ∀ f : Nm, WO f (s.get b) o) (ha : ∀ f : Nm, (∀ x, x < N → f x x) → f b N → WVs f args2 args) : SndF P f args2 s v s (2 ^ b) 0 := by
  have hn : ((noTabs N).push o).next = N + 1 := rfl
  have hbit : ∀ {m x : Nat}, (2 ^ m).testBit x = true → x = m := fun hx => bit_iff.1 hx
  refine h.embed (ι := fun x => if x = N then b else x) (κ := fun x => if x = N then some b else if x < N then some x else none) ⟨fun g hg => ⟨by rw [hn]; omega, if_neg (by omega)⟩, fun x hx => ?_, fun x y hx hy e => ?_, fun x _ hx => ?_, fun x _ hx => ?_, fun x hx hbx => ?_, Stat.refl s, fun x hx => ?_, fun x y hx hk => ?_, fun x y z h1 h2 => ?_, fun x _ hx => ?_, fun x h1 h2 => ?_⟩ ?_ ?_
  · rw [hn] at hx
    show (if x = N then b else x) < s.next
    split <;> omega
  · rw [hn] at hx hy
    have e : (if x = N then b else x) = (if y = N then b else y) := e
    split at e <;> split at e <;> omega
  · have hx : (2 ^ N ||| 0).testBit x = true := hx
    rw [Nat.or_zero] at hx
    have := hbit hx
    subst this
    show (2 ^ b ||| 0).testBit (if x = x then b else x) = true
    rw [if_pos rfl, Nat.or_zero]; exact bit_self b
  · simp at hx
  · have hbx : (2 ^ N ||| 0).testBit x = true := hbx
    rw [Nat.or_zero] at hbx
    have := hbit hbx
    subst this
    show WO _ (s.get (if x = x then b else x)) _
    rw [if_pos rfl, show ((noTabs x).push o).get x = o from (noTabs x).get_push_new o]
    exact ho _
  · rw [hn] at hx
    show (if x = N then some b else if x < N then some x else none) = some (if x = N then b else x)
    split
    · rfl
    · rw [if_pos (by omega)]
  · rw [hn] at hx
    have hk : (if x = N then some b else if x < N then some x else none) = some y := hk
    rw [if_neg (by omega), if_neg (by omega)] at hk
    cases hk
  · have h1 : (if x = N then some b else if x < N then some x else none) = some z := h1
    have h2 : (if y = N then some b else if y < N then some y else none) = some z := h2
    split at h1 <;> split at h2
    · omega
    · split at h2
      · cases h1; cases h2; omega
      · cases h2
    · split at h1
      · cases h1; cases h2; omega
      · cases h1
    · split at h1
      · split at h2
        · cases h1; cases h2; rfl
        · cases h2
      · cases h1
  · simp at hx
  · omega
  · refine ha _ (fun x hx => ⟨by rw [hn]; omega, (if_neg (by omega)).symm⟩) ⟨by rw [hn]; omega, (if_pos rfl).symm⟩
  · exact ground_wv hv

theorem SndF.rows {f : FuncId} {args args2 : Array Value} {v : Value} {s0 : St} {N R0 : Nat} {bs : List Nat} (hN : N = P.globals.size) (h : SndF P f args s0 v s0 R0 0) (hv : ground 8 v = true) (hn : s0.next = N + bs.length)
    (hb : ∀ b, b ∈ bs → N ≤ b ∧ b < s.next) (hd : bs.Nodup) (hNs : N ≤ s.next) (hR0 : ∀ x, R0.testBit x = true → x < N + bs.length → N ≤ x) (hR : ∀ b, b ∈ bs → R.testBit b = true)
    (ho : ∀ (f : Nm) (j : Nat) (hj : j < bs.length), WO f (s.get bs[j]) (s0.get (N + j))) (ha : ∀ f : Nm, (∀ x, x < N → f x x) → (∀ (j : Nat) (hj : j < bs.length), f bs[j] (N + j)) → WVs f args2 args) : SndF P f args2 s v s R 0 := by
  have hι : ∀ x (hx : x < N + bs.length), (if x < N then x else bs.getD (x - N) 0) = if hc : x < N then x else bs[x - N]'(by omega) := fun x hx => by
    split
    · rfl
    · simp [List.getD, List.getElem?_eq_getElem (show x - N < bs.length by omega)]
  refine h.embed (ι := fun x => if x < N then x else bs.getD (x - N) 0) (κ := fun x => if x < N + bs.length then some (if x < N then x else bs.getD (x - N) 0) else none) ⟨fun g hg => ⟨by rw [hn]; omega, if_pos (by omega)⟩, fun x hx => ?_, fun x y hx hy e => ?_, fun x hx hbx => ?_, fun x _ hx => ?_, fun x hx hbx => ?_, Stat.refl s, fun x hx => if_pos (by rw [hn] at hx; exact hx), fun x y hx hk => ?_, fun x y z h1 h2 => ?_, fun x _ hx => ?_, fun x h1 h2 => ?_⟩ ?_ ?_
  · rw [hn] at hx
    show (if x < N then x else bs.getD (x - N) 0) < s.next
    rw [hι x hx]
    split
    · omega
    · exact (hb _ (List.getElem_mem _)).2
  · rw [hn] at hx hy
    have e : (if x < N then x else bs.getD (x - N) 0) = (if y < N then y else bs.getD (y - N) 0) := e
    rw [hι x hx, hι y hy] at e
    split at e <;> split at e
    · exact e
    · have := (hb _ (List.getElem_mem (show y - N < bs.length by omega))).1; omega
    · have := (hb _ (List.getElem_mem (show x - N < bs.length by omega))).1; omega
    · have := (List.getElem_inj (i := x - N) (j := y - N) hd).1 e
      omega
  · rw [hn] at hx
    have hbx : (R0 ||| 0).testBit x = true := hbx
    rw [Nat.or_zero] at hbx
    have hNx := hR0 x hbx hx
    show (R ||| 0).testBit (if x < N then x else bs.getD (x - N) 0) = true
    rw [Nat.or_zero, hι x hx, dif_neg (by omega)]
    exact hR _ (List.getElem_mem _)
  · simp at hx
  · rw [hn] at hx
    have hbx : (R0 ||| 0).testBit x = true := hbx
    rw [Nat.or_zero] at hbx
    have hNx := hR0 x hbx hx
    show WO _ (s.get (if x < N then x else bs.getD (x - N) 0)) _
    rw [hι x hx, dif_neg (by omega)]
    have := ho (fun x_1 y => y < s0.next ∧ x_1 = if y < N then y else bs.getD (y - N) 0) (x - N) (by omega)
    rw [show N + (x - N) = x from by omega] at this
    exact this
  · rw [hn] at hx
    have hk : (if x < N + bs.length then some (if x < N then x else bs.getD (x - N) 0) else none) = some y := hk
    rw [if_neg (by omega)] at hk
    cases hk
  · have h1 : (if x < N + bs.length then some (if x < N then x else bs.getD (x - N) 0) else none) = some z := h1
    have h2 : (if y < N + bs.length then some (if y < N then y else bs.getD (y - N) 0) else none) = some z := h2
    split at h1
    · split at h2
      · rename_i hx hy
        have e := (Option.some.inj h1).trans (Option.some.inj h2).symm
        rw [hι x hx, hι y hy] at e
        split at e <;> split at e
        · exact e
        · have := (hb _ (List.getElem_mem (show y - N < bs.length by omega))).1; omega
        · have := (hb _ (List.getElem_mem (show x - N < bs.length by omega))).1; omega
        · have := (List.getElem_inj (i := x - N) (j := y - N) hd).1 e
          omega
      · cases h2
    · cases h1
  · simp at hx
  · omega
  · refine ha _ (fun x hx => ⟨by rw [hn]; omega, (if_pos hx).symm⟩) fun j hj => ⟨by rw [hn]; omega, ?_⟩
    show bs[j] = (if N + j < N then N + j else bs.getD (N + j - N) 0)
    rw [hι (N + j) (by omega), dif_neg (by omega)]
    simp
  · exact ground_wv hv
theorem SndF.rowsNew {f : FuncId} {args args2 : Array Value} {v v2 : Value} {s0 : St} {o1 o2 : MObj} {N R0 : Nat} {bs : List Nat} (hN : N = P.globals.size) (h : SndF P f args s0 v (s0.push o1) R0 0) (hn : s0.next = N + bs.length)
    (hb : ∀ b, b ∈ bs → N ≤ b ∧ b < s.next) (hd : bs.Nodup) (hNs : N ≤ s.next) (hR0 : ∀ x, R0.testBit x = true → x < N + bs.length → N ≤ x) (hR : ∀ b, b ∈ bs → R.testBit b = true)
    (ho : ∀ (f : Nm) (j : Nat) (hj : j < bs.length), WO f (s.get bs[j]) (s0.get (N + j))) (ha : ∀ f : Nm, (∀ x, x < N → f x x) → (∀ (j : Nat) (hj : j < bs.length), f bs[j] (N + j)) → WVs f args2 args) (hv : ∀ f : Nm, (∀ x, x < N → f x x) → (∀ (j : Nat) (hj : j < bs.length), f (N + j) bs[j]) → f (N + bs.length) s.next → WV f v v2 ∧ WO f o1 o2) : SndF P f args2 s v2 (s.push o2) R 0 := by
  have hι : ∀ x (hx : x < N + bs.length), (if x < N then x else bs.getD (x - N) 0) = if hc : x < N then x else bs[x - N]'(by omega) := fun x hx => by
    split
    · rfl
    · simp [List.getD, List.getElem?_eq_getElem (show x - N < bs.length by omega)]
  have hK1 : ∀ x, x < N → (fun y z => (if y < N + bs.length then some (if y < N then y else bs.getD (y - N) 0) else if y = N + bs.length then some s.next else none) = some z) x x := fun x hx => by
    show (if x < N + bs.length then some (if x < N then x else bs.getD (x - N) 0) else _) = some x
    rw [if_pos (by omega), if_pos hx]
  have hK2 : ∀ (j : Nat) (hj : j < bs.length), (fun y z => (if y < N + bs.length then some (if y < N then y else bs.getD (y - N) 0) else if y = N + bs.length then some s.next else none) = some z) (N + j) bs[j] := fun j hj => by
    show (if N + j < N + bs.length then some (if N + j < N then N + j else bs.getD (N + j - N) 0) else _) = some bs[j]
    rw [if_pos (by omega), hι (N + j) (by omega), dif_neg (by omega)]
    simp
  have hK3 : (fun y z => (if y < N + bs.length then some (if y < N then y else bs.getD (y - N) 0) else if y = N + bs.length then some s.next else none) = some z) (N + bs.length) s.next := by
    show (if N + bs.length < N + bs.length then _ else if N + bs.length = N + bs.length then some s.next else none) = some s.next
    rw [if_neg (Nat.lt_irrefl _), if_pos rfl]
  refine h.embed (ι := fun x => if x < N then x else bs.getD (x - N) 0) (κ := fun x => if x < N + bs.length then some (if x < N then x else bs.getD (x - N) 0) else if x = N + bs.length then some s.next else none) ⟨fun g hg => ⟨by rw [hn]; omega, if_pos (by omega)⟩, fun x hx => ?_, fun x y hx hy e => ?_, fun x hx hbx => ?_, fun x _ hx => ?_, fun x hx hbx => ?_, stat_push s _, fun x hx => if_pos (by rw [hn] at hx; exact hx), fun x y hx hk => ?_, fun x y z h1 h2 => ?_, fun x _ hx => ?_, fun x h1 h2 => ?_⟩ ?_ ?_
  · rw [hn] at hx
    show (if x < N then x else bs.getD (x - N) 0) < s.next
    rw [hι x hx]
    split
    · omega
    · exact (hb _ (List.getElem_mem _)).2
  · rw [hn] at hx hy
    have e : (if x < N then x else bs.getD (x - N) 0) = (if y < N then y else bs.getD (y - N) 0) := e
    rw [hι x hx, hι y hy] at e
    split at e <;> split at e
    · exact e
    · have := (hb _ (List.getElem_mem (show y - N < bs.length by omega))).1; omega
    · have := (hb _ (List.getElem_mem (show x - N < bs.length by omega))).1; omega
    · have := (List.getElem_inj (i := x - N) (j := y - N) hd).1 e
      omega
  · rw [hn] at hx
    have hbx : (R0 ||| 0).testBit x = true := hbx
    rw [Nat.or_zero] at hbx
    have hNx := hR0 x hbx hx
    show (R ||| 0).testBit (if x < N then x else bs.getD (x - N) 0) = true
    rw [Nat.or_zero, hι x hx, dif_neg (by omega)]
    exact hR _ (List.getElem_mem _)
  · simp at hx
  · rw [hn] at hx
    have hbx : (R0 ||| 0).testBit x = true := hbx
    rw [Nat.or_zero] at hbx
    have hNx := hR0 x hbx hx
    show WO _ (s.get (if x < N then x else bs.getD (x - N) 0)) _
    rw [hι x hx, dif_neg (by omega)]
    have := ho (fun x_1 y => y < s0.next ∧ x_1 = if y < N then y else bs.getD (y - N) 0) (x - N) (by omega)
    rw [show N + (x - N) = x from by omega] at this
    exact this
  · rw [hn] at hx
    have hk : (if x < N + bs.length then some (if x < N then x else bs.getD (x - N) 0) else if x = N + bs.length then some s.next else none) = some y := hk
    rw [if_neg (by omega)] at hk
    split at hk
    · cases hk; exact ⟨Nat.le_refl _, Nat.lt_succ_self _⟩
    · cases hk
  · have h1 : (if x < N + bs.length then some (if x < N then x else bs.getD (x - N) 0) else if x = N + bs.length then some s.next else none) = some z := h1
    have h2 : (if y < N + bs.length then some (if y < N then y else bs.getD (y - N) 0) else if y = N + bs.length then some s.next else none) = some z := h2
    have hlt : ∀ x (hx : x < N + bs.length), (if x < N then x else bs.getD (x - N) 0) < s.next := fun x hx => by
      rw [hι x hx]
      split
      · omega
      · exact (hb _ (List.getElem_mem _)).2
    split at h1
    · rename_i hx
      split at h2
      · rename_i hy
        have e := (Option.some.inj h1).trans (Option.some.inj h2).symm
        rw [hι x hx, hι y hy] at e
        split at e <;> split at e
        · exact e
        · have := (hb _ (List.getElem_mem (show y - N < bs.length by omega))).1; omega
        · have := (hb _ (List.getElem_mem (show x - N < bs.length by omega))).1; omega
        · have := (List.getElem_inj (i := x - N) (j := y - N) hd).1 e
          omega
      · split at h2
        · have e := (Option.some.inj h1).trans (Option.some.inj h2).symm
          have := hlt x hx
          omega
        · cases h2
    · split at h1
      · split at h2
        · rename_i hy
          have e := (Option.some.inj h1).trans (Option.some.inj h2).symm
          have := hlt y hy
          omega
        · split at h2
          · omega
          · cases h2
      · cases h1
  · simp at hx
  · have e : x = s.next := by have : (s.push o2).next = s.next + 1 := rfl; omega
    subst e
    refine .inr ⟨N + bs.length, by rw [hn]; exact Nat.le_refl _, by show N + bs.length < s0.next + 1; rw [hn]; omega, ?_, ?_⟩
    · show (if N + bs.length < N + bs.length then _ else if N + bs.length = N + bs.length then some s.next else none) = some s.next
      rw [if_neg (Nat.lt_irrefl _), if_pos rfl]
    · rw [St.get_push_new s, show (s0.push o1).get (N + bs.length) = o1 from hn ▸ St.get_push_new s0 o1]
      exact (hv _ hK1 hK2 hK3).2
  · refine ha _ (fun x hx => ⟨by rw [hn]; omega, (if_pos hx).symm⟩) fun j hj => ⟨by rw [hn]; omega, ?_⟩
    show bs[j] = (if N + j < N then N + j else bs.getD (N + j - N) 0)
    rw [hι (N + j) (by omega), dif_neg (by omega)]
    simp
  · exact (hv _ hK1 hK2 hK3).1
theorem rowsL_congr {n k : Nat} {G G' : Nat → Nat → Value} (h : ∀ i j, i < n → j < k → G i j = G' i j) : rowsL n k G = rowsL n k G' := by
  unfold rowsL
  apply List.map_congr_left
  intro j hj
  have hlt : j < n * k := by simpa using hj
  have hk : 0 < k := by
    rcases Nat.eq_zero_or_pos k with z | z
    · subst z; simp at hlt
    · exact z
  exact h _ _ ((Nat.div_lt_iff_lt_mul hk).2 hlt) (Nat.mod_lt _ hk)
theorem slice_wv {f : Nm} {b N n c : Nat} (h : f b N) : WV f (.slice (some ⟨b, 0, none⟩) n c) (.slice (some ⟨N, 0, none⟩) n c) := fun ρ ρ' hr v' hv => by
  generalize hx : Value.slice (some ⟨b, 0, none⟩) n c = x at hv
  cases hv with
  | slice b' o n' c1 c' L h1 hc => cases hx; exact .slice N 0 n c c' L (hr b N L h h1) hc
  | empty a a' => cases hx; exact .empty _ _
  | _ => cases hx
theorem wvs_two {f : Nm} {a b a2 b2 : Value} (h1 : WV f a a2) (h2 : WV f b b2) : WVs f #[a, b] #[a2, b2] := ⟨rfl, fun i v u e1 e2 => by
  match i, e1, e2 with
  | 0, e1, e2 => simp at e1 e2; subst e1 e2; exact h1
  | 1, e1, e2 => simp at e1 e2; subst e1 e2; exact h2
  | i + 2, e1, e2 => simp at e1⟩
def gI : Value → Int
  | .int _ x => x
  | _ => 0

theorem SndF.mask {f : FuncId} {args : Array Value} {v : Value} {R2 W2 : Nat} (h : SndF P f args s v s1 R W) (hR : ∀ b, b < s.next → R.testBit b = true → R2.testBit b = true) (hW : ∀ b, b < s.next → W2.testBit b = W.testBit b) : SndF P f args s v s1 R2 W2 := by
  have hu : ∀ C, upd C s s1 W2 = upd C s s1 W := fun C => by
    funext b
    unfold upd
    have : ((s.next ≤ b ∧ b < s1.next) ∨ (W2.testBit b = true ∧ b < s.next)) ↔ ((s.next ≤ b ∧ b < s1.next) ∨ (W.testBit b = true ∧ b < s.next)) :=
      ⟨fun k => k.imp id fun ⟨k1, k2⟩ => ⟨hW b k2 ▸ k1, k2⟩, fun k => k.imp id fun ⟨k1, k2⟩ => ⟨(hW b k2).symm ▸ k1, k2⟩⟩
    by_cases c : (s.next ≤ b ∧ b < s1.next) ∨ (W.testBit b = true ∧ b < s.next)
    · rw [if_pos c, if_pos (this.2 c)]
    · rw [if_neg c, if_neg (fun k => c (this.1 k))]
  refine ⟨⟨h.1.1, fun b hb hw => h.1.2 b hb ((hW b hb).symm.trans hw)⟩, fun n ρ C args' w Q hp ha hQ => ?_⟩
  refine h.2 n ρ C args' w Q ⟨hp.glob, hp.round, fun b hb hlt => hp.agree b ?_ hlt, hp.free, hp.rel⟩ ha fun ρ1 v' w1 p1 r1 hv => hQ ρ1 v' w1 ⟨p1.sub, p1.dom, fun b L a c => (p1.fresh b L a c).imp id fun ⟨b0, L0, x1, x2, x3⟩ => ⟨b0, L0, (hW b0 x2).trans x1, x2, x3⟩, p1.size, fun x hx hf => p1.frame x hx fun b L a c => hf b L ((hW b c).trans a) c, p1.os, p1.tape, p1.output⟩ (by rw [hu]; exact r1) hv
  simp only [or_bit, Bool.or_eq_true] at hb ⊢
  rcases hb with k | k
  · exact .inl (hR b hlt k)
  · exact .inr ((hW b hlt).trans k)
def fitsL (N : Nat → Bool) (a a2 : MA) : Nat → Prop
  | 0 => True
  | n + 1 => fitsL N a a2 n ∧ (match a2.get n with
    | .chan _ => True
    | v => v = a.get n ∧ keepB N 8 v = true)
theorem Snd.wide {T : Tr} {a a1 : Act} {e : Exit} {R2 W2 : Nat} (h : Snd P rd T a s e a1 s1 R W) (hR : ∀ b, R.testBit b = true → (R2 ||| W2).testBit b = true) (hW : ∀ b, W.testBit b = true → W2.testBit b = true) : Snd P rd T a s e a1 s1 R2 W2 := by
  have hW' : ∀ b, W2.testBit b = false → W.testBit b = false := fun b hb => by
    cases hw : W.testBit b with
    | false => rfl
    | true => rw [hW b hw] at hb; cases hb
  refine ⟨⟨h.1.1, fun b hb hw => h.1.2 b hb (hW' b hw)⟩, fun n ro ρ C a' w Q hp ha hQ => ?_⟩
  have hu : upd C s s1 W2 = upd C s s1 W := by
    funext b
    unfold upd
    by_cases c : (s.next ≤ b ∧ b < s1.next) ∨ (W.testBit b = true ∧ b < s.next)
    · rw [if_pos c, if_pos (c.imp id fun ⟨k1, k2⟩ => ⟨hW b k1, k2⟩)]
    · rw [if_neg c]
      by_cases c2 : (s.next ≤ b ∧ b < s1.next) ∨ (W2.testBit b = true ∧ b < s.next)
      · rw [if_pos c2]
        rcases c2 with k | ⟨k1, k2⟩
        · exact absurd (.inl k) c
        · rw [hp.agree b (by rw [or_bit, k1]; simp) k2]
          refine h.1.2 b k2 ?_
          cases hw : W.testBit b with
          | false => rfl
          | true => exact absurd (.inr ⟨hw, k2⟩) c
      · rw [if_neg c2]
  refine h.2 n ro ρ C a' w Q ⟨hp.glob, hp.round, fun b hb hlt => hp.agree b ?_ hlt, hp.free, hp.rel⟩ ha fun ρ1 a1' w1 p1 r1 ha1 => hQ ρ1 a1' w1 ⟨p1.sub, p1.dom, fun b L a c => (p1.fresh b L a c).imp id fun ⟨b0, L0, x1, x2, x3⟩ => ⟨b0, L0, hW b0 x1, x2, x3⟩, p1.size, fun x hx hf => p1.frame x hx fun b L a c => hf b L (hW b a) c, p1.os, p1.tape, p1.output⟩ (by rw [hu]; exact r1) ha1
  simp only [or_bit, Bool.or_eq_true] at hb hR ⊢
  rcases hb with k | k
  · exact hR b k
  · exact .inr (hW b k)

def rowOf (k : IntKind) (s : St) (b n : Nat) : Option ((Nat → Int) × TypeId × Bool × Nat × Bool × Prop) := match s.get b with
  | .rows n' 1 G e opn sz ro => some (fun i => gI (G i 0), e, opn, sz, ro, n' = n ∧ ∀ i, i < n → G i 0 = .int k (gI (G i 0)))
  | .cells cs e opn sz ro => some (fun i => gI (cs.getD i undef), e, opn, sz, ro, cs.length = n ∧ ∀ i, i < n → cs.getD i undef = .int k (gI (cs.getD i undef)))
  | _ => none
end Mini
end Go.Proofs.YtbkpnhbcihcgaaaGreatDoor
end
section
namespace Go.Proofs.YtbkpnhbcihcgaaaGreatDoor
set_option linter.all false
namespace Mini
variable {P : Program} {rd : Option Nat} {s s1 : St} {R W : Nat}

def seen (m : Nat) (r : Option OutCS) : Option OutCS := match r with
  | some (e, a, s, R, W, q) => some (e, maskA m a, s, R, W, q)
  | none => none
def below (B : Nat) : Nat → Bool := fun b => Nat.ble (b + 1) B
def maskF (B m : Nat) (a : MA) : Nat → Nat → List Value
  | 0, _ => []
  | n + 1, t => (match bitOf m t, keepB (below B) 8 (a.get t) with
    | true, true => a.get t
    | _, _ => .chan none) :: maskF B m a n (t + 1)
theorem maskF_len (B m : Nat) (a : MA) : ∀ n t, (maskF B m a n t).length = n
  | 0, _ => rfl
  | n + 1, t => by simp [maskF, maskF_len B m a n (t + 1)]
theorem maskF_at (B m : Nat) (a : MA) : ∀ n t i, i < n → (maskF B m a n t).getD i undef = match bitOf m (t + i), keepB (below B) 8 (a.get (t + i)) with
    | true, true => a.get (t + i)
    | _, _ => .chan none
  | 0, t, i, h => by omega
  | n + 1, t, 0, h => by simp [maskF]
  | n + 1, t, i + 1, h => by
    rw [maskF, List.getD_cons_succ, maskF_at B m a n (t + 1) i (by omega), show t + 1 + i = t + (i + 1) from by omega]
def maskFA (B m : Nat) (a : MA) : MA := MA.ofL a.n (maskF B m a a.n 0) []
theorem fits_mask {B m : Nat} {a : MA} (hd : a.defers = []) : Fits (below B) a (maskFA B m a) := ⟨rfl, hd, rfl, fun t ht => by
  unfold maskFA
  rw [MA.ofL_get _ _ _ (by rw [maskF_len]; exact Nat.le_refl _) t ht, maskF_at B m a a.n 0 t ht, Nat.zero_add]
  cases h1 : bitOf m t <;> cases h2 : keepB (below B) 8 (a.get t)
  · exact .inl ⟨_, rfl⟩
  · exact .inl ⟨_, rfl⟩
  · exact .inl ⟨_, rfl⟩
  · exact .inr ⟨rfl, rfl⟩⟩
def allKeep (B : Nat) (a : MA) : Nat → Bool
  | 0 => true
  | n + 1 => keepB (below B) 8 (a.get n) && allKeep B a n
theorem allKeep_at {B : Nat} {a : MA} : ∀ {n t : Nat}, allKeep B a n = true → t < n → keepB (below B) 8 (a.get t) = true
  | 0, t, h, ht => by omega
  | n + 1, t, h, ht => by
    simp only [allKeep, Bool.and_eq_true] at h
    rcases Nat.lt_or_ge t n with c | c
    · exact allKeep_at h.2 c
    · have : t = n := by omega
      subst this; exact h.1
theorem fits_self {B : Nat} {a : MA} (hd : a.defers = []) (h : allKeep B a a.n = true) : Fits (below B) a a := ⟨rfl, hd, hd, fun t ht => .inr ⟨rfl, allKeep_at h ht⟩⟩
def nil? : List Deferred → Bool
  | [] => true
  | _ => false
theorem nil_of {l : List Deferred} (h : nil? l = true) : l = [] := by cases l <;> first | rfl | cases h
def seenF (N k m : Nat) (r : Option OutCS) : Option (Exit × MA × List MObj × Nat × Nat × Orc) := match r with
  | some (e, a, s, R, W, q) => match nil? a.defers with
    | true => some (e, maskFA (N + k) m a, getL s N k, R, W, q)
    | false => none
  | none => none
theorem Snd.maskS {T : Tr} {a a1 : Act} {e : Exit} {R2 W2 : Nat} (h : Snd P rd T a s e a1 s1 R W) (hR : ∀ b, b < s.next → R.testBit b = true → R2.testBit b = true) (hW : ∀ b, b < s.next → W2.testBit b = W.testBit b) : Snd P rd T a s e a1 s1 R2 W2 := by
  have hu : ∀ C, upd C s s1 W2 = upd C s s1 W := fun C => by
    funext b
    unfold upd
    have : ((s.next ≤ b ∧ b < s1.next) ∨ (W2.testBit b = true ∧ b < s.next)) ↔ ((s.next ≤ b ∧ b < s1.next) ∨ (W.testBit b = true ∧ b < s.next)) :=
      ⟨fun k => k.imp id fun ⟨k1, k2⟩ => ⟨hW b k2 ▸ k1, k2⟩, fun k => k.imp id fun ⟨k1, k2⟩ => ⟨(hW b k2).symm ▸ k1, k2⟩⟩
    by_cases c : (s.next ≤ b ∧ b < s1.next) ∨ (W.testBit b = true ∧ b < s.next)
    · rw [if_pos c, if_pos (this.2 c)]
    · rw [if_neg c, if_neg (fun k => c (this.1 k))]
  refine ⟨⟨h.1.1, fun b hb hw => h.1.2 b hb ((hW b hb).symm.trans hw)⟩, fun n ro ρ C a' w Q hp ha hQ => ?_⟩
  refine h.2 n ro ρ C a' w Q ⟨hp.glob, hp.round, fun b hb hlt => hp.agree b ?_ hlt, hp.free, hp.rel⟩ ha fun ρ1 a1' w1 p1 r1 hv => hQ ρ1 a1' w1 ⟨p1.sub, p1.dom, fun b L a c => (p1.fresh b L a c).imp id fun ⟨b0, L0, x1, x2, x3⟩ => ⟨b0, L0, (hW b0 x2).trans x1, x2, x3⟩, p1.size, fun x hx hf => p1.frame x hx fun b L a c => hf b L ((hW b c).trans a) c, p1.os, p1.tape, p1.output⟩ (by rw [hu]; exact r1) hv
  simp only [or_bit, Bool.or_eq_true] at hb ⊢
  rcases hb with k | k
  · exact .inl (hR b hlt k)
  · exact .inr ((hW b hlt).trans k)
theorem wayF_ok {X : CallS} {c : Code} {A A2 : MA} {L L2 : List MObj} {e : Exit} {l : List Tok} {OB : Prop} {N m : Nat} (hm : P.follows .mixedOrders = true) (hX : FOkS P X) (hN : N = P.globals.size)
    (h : seenF N L.length m (evCRS P X 1000 none false c A (wS N L) ⟨l, True⟩) = some (e, A2, L2, R, W, ⟨[], OB⟩)) (ho : OB) (hd : A.defers = []) (hA : allKeep (N + L.length) A A.n = true)
    (hk : ∀ o, o ∈ L → keepO (below (N + L.length)) o) (hk2 : ∀ o, o ∈ L2 → keepO (below (N + L.length)) o) (hh : ∀ i, i < L.length → W.testBit (N + i) = true → L.getD i .hole ≠ .hole ∧ roO (L.getD i .hole) = false) (hW : ∀ b, b < N → W.testBit b = false) {R2 W2 : Nat} (hR2 : ∀ b, b < N + L.length → R.testBit b = true → R2.testBit b = true) (hW2 : ∀ b, b < N + L.length → W2.testBit b = W.testBit b) : SndC P none c A.act (wS N L) e A2.act (wS N L2) R2 W2 := by
  refine Snd.maskS (R := R) (W := W) ?_ (fun b hb => hR2 b (by rwa [wS_next] at hb)) (fun b hb => hW2 b (by rwa [wS_next] at hb))
  unfold seenF at h
  split at h
  · rename_i e' a s' R' W' q he
    split at h
    · rename_i hnil
      cases h
      have hs := (evCRS_ok hm hX 1000 none false c A (wS N L) ⟨l, True⟩ _ he).2 ho
      have hlen : (getL s' N L.length).length = L.length := by
        have : ∀ k b, (getL s' b k).length = k := fun k => by
          induction k with
          | zero => intro b; rfl
          | succ k ih => intro b; simp [getL, ih]
        exact this _ _
      have hget : ∀ i, i < L.length → (wS N (getL s' N L.length)).get (N + i) = s'.get (N + i) := fun i hi => by
        rw [wS_get, getL_at s' L.length N i hi]
      have hmem : ∀ (l : List MObj) (i : Nat), i < l.length → l.getD i .hole ∈ l := fun l i hi => by
        simp [List.getD, List.getElem?_eq_getElem hi]
      refine Snd.forget hs (by rw [wS_next, hN]; omega) (by rw [wS_next]; exact fits_self hd hA) (by rw [wS_next]; exact fits_mask (nil_of hnil)) (by rw [wS_next, wS_next, hlen]) (fun b hb _ => ?_) (fun b hb hw => ?_) (fun b hb hw => ?_)
      · rw [wS_next] at hb ⊢
        rcases Nat.lt_or_ge b N with c1 | c1
        · rw [wS_low _ _ c1]; trivial
        · rw [show b = N + (b - N) from by omega, wS_get]
          exact hk _ (hmem _ _ (by omega))
      · rw [wS_next] at hb ⊢
        rcases Nat.lt_or_ge b N with c1 | c1
        · rw [hW b c1] at hw; cases hw
        · rw [show b = N + (b - N) from by omega]
          have hh' := hh (b - N) (by omega) (by rw [show N + (b - N) = b from by omega]; exact hw)
          refine ⟨by rw [wS_get]; exact hh'.1, by rw [wS_get]; exact hh'.2, hget _ (by omega), ?_⟩
          rw [getL_at s' L.length N (b - N) (by omega)]
          exact hk2 _ (hmem _ _ (by rw [hlen]; omega))
      · have hb' := hb
        rw [wS_next] at hb'
        rcases Nat.lt_or_ge b N with c1 | c1
        · rw [wS_low _ _ c1, wS_low _ _ c1]
        · have e1 := hs.1.2 b hb hw
          rw [← e1, show b = N + (b - N) from by omega]
          exact hget _ (by omega)
    · cases h
  · cases h

theorem wayF_ok0 {X : CallS} {c : Code} {A A2 : MA} {L L2 : List MObj} {e : Exit} {l : List Tok} {OB : Prop} {N m : Nat} (hm : P.follows .mixedOrders = true) (hX : FOkS P X) (hN : N = P.globals.size)
    (h : seenF N L.length m (evCRS P X 1000 none false c A (wS N L) ⟨l, True⟩) = some (e, A2, L2, R, W, ⟨[], OB⟩)) (ho : OB) (hd : A.defers = []) (hA : allKeep (N + L.length) A A.n = true)
    (hk : ∀ o, o ∈ L → keepO (below (N + L.length)) o) (hk2 : ∀ o, o ∈ L2 → keepO (below (N + L.length)) o) (hW : ∀ b, b < N + L.length → W.testBit b = false) {R2 : Nat} (hR2 : ∀ b, b < N + L.length → R.testBit b = true → R2.testBit b = true) : SndC P none c A.act (wS N L) e A2.act (wS N L2) R2 0 :=
  wayF_ok hm hX hN h ho hd hA hk hk2 (fun i hi hw => by rw [hW _ (by omega)] at hw; cases hw) (fun b hb => hW b (by omega)) hR2 (fun b hb => by rw [hW b hb]; simp)

theorem loop_split {c : Code} {A : Nat → Act} {S : Nat → St} {A1 : Nat → Act} {S1 : Nat → St} {e1 e2 : Exit} {a2 : Act} {s2 : St} {good : Nat → Prop} (hg : ∀ i, good i ∨ ¬ good i) (n : Nat)
    (hs : ∀ i, i < n → good i → SndC P rd c (A i) (S i) .normal (A (i + 1)) (S (i + 1)) R W) (hb : ∀ i, i < n → ¬ good i → SndC P rd c (A i) (S i) e1 (A1 i) (S1 i) R W) (he : SndC P rd c (A n) (S n) e2 a2 s2 R W) (h1 : e1 ≠ .normal) (h2 : e2 ≠ .normal) :
    ((∀ i, i < n → good i) ∧ SndC P rd (.loop c) (A 0) (S 0) e2 a2 s2 R W) ∨ ∃ j, j < n ∧ (∀ i, i < j → good i) ∧ ¬ good j ∧ SndC P rd (.loop c) (A 0) (S 0) e1 (A1 j) (S1 j) R W := by
  have key : ∀ m i, i + m = n → (∀ k, k < i → good k) → ((∀ i, i < n → good i) ∧ Snd P rd (LoopFrom P c) (A i) (S i) e2 a2 s2 R W) ∨ ∃ j, j < n ∧ (∀ i, i < j → good i) ∧ ¬ good j ∧ Snd P rd (LoopFrom P c) (A i) (S i) e1 (A1 j) (S1 j) R W := by
    intro m
    induction m with
    | zero =>
      intro i hi hk
      have : i = n := by omega
      subst this
      exact .inl ⟨hk, snd_from_stop h2 he⟩
    | succ m ih =>
      intro i hi hk
      rcases hg i with g | g
      · rcases ih (i + 1) (by omega) (fun k h => by
          rcases Nat.lt_or_ge k i with c | c
          · exact hk k c
          · have : k = i := by omega
            subst this; exact g) with ⟨k1, k2⟩ | ⟨j, k1, k2, k3, k4⟩
        · refine .inl ⟨k1, ?_⟩
          have := snd_from_on (hs i (by omega) g) k2
          rwa [Nat.or_self, Nat.or_self] at this
        · refine .inr ⟨j, k1, k2, k3, ?_⟩
          have := snd_from_on (hs i (by omega) g) k4
          rwa [Nat.or_self, Nat.or_self] at this
      · exact .inr ⟨i, by omega, hk, g, snd_from_stop h1 (hb i (by omega) g)⟩
  rcases key n 0 (by omega) (fun k h => by omega) with ⟨k1, k2⟩ | ⟨j, k1, k2, k3, k4⟩
  · exact .inl ⟨k1, sndC_loop k2⟩
  · exact .inr ⟨j, k1, k2, k3, sndC_loop k4⟩
def intsL (kd : IntKind) : List Value → Option (List Int)
  | [] => some []
  | .int k n :: cs => match decide (k = kd), intsL kd cs with
    | true, some l => some (n :: l)
    | _, _ => none
  | _ :: _ => none
theorem intsL_at {kd : IntKind} : ∀ {cs : List Value} {l : List Int}, intsL kd cs = some l → cs.length = l.length ∧ ∀ q, q < l.length → cs.getD q undef = .int kd (l.getD q 0)
  | [], l, h => by cases h; exact ⟨rfl, fun q hq => absurd hq (by simp)⟩
  | v :: cs, l, h => by
    unfold intsL at h
    split at h
    · contradiction
    · rename_i k n cs' he
      cases he
      split at h
      · rename_i l' hk hl
        cases h
        have hk := of_decide_eq_true hk
        subst hk
        obtain ⟨h1, h2⟩ := intsL_at hl
        refine ⟨by simp [h1], fun q hq => ?_⟩
        cases q with
        | zero => rfl
        | succ q => simpa using h2 q (by simpa using hq)
      · cases h
    · cases h
def rowK (k : Nat) (kd : IntKind) (s : St) (b n : Nat) : Option ((Nat → Nat → Int) × TypeId × Bool × Nat × Bool × Prop) := match s.get b with
  | .rows n' k' G e opn sz ro => match Nat.beq k' k with
    | true => some (fun i j => gI (G i j), e, opn, sz, ro, n' = n ∧ ∀ i, i < n → ∀ j, j < k → G i j = .int kd (gI (G i j)))
    | false => none
  | .cells cs e opn sz ro => match intsL kd cs with
    | some l => some (fun i j => l.getD (i * k + j) 0, e, opn, sz, ro, l.length = n * k)
    | none => none
  | _ => none
theorem rowsL_cellsK {cs : List Value} {n k : Nat} {G : Nat → Nat → Value} (hl : cs.length = n * k) (h : ∀ i, i < n → ∀ j, j < k → cs.getD (i * k + j) undef = G i j) : cs = rowsL n k G := by
  apply List.ext_getElem?
  intro q
  by_cases hq : q < n * k
  · have hk : 0 < k := by
      rcases Nat.eq_zero_or_pos k with c | c
      · rw [c] at hq; simp at hq
      · exact c
    have h1 := h (q / k) ((Nat.div_lt_iff_lt_mul hk).2 hq) (q % k) (Nat.mod_lt _ hk)
    rw [Nat.div_add_mod' q k] at h1
    rw [rowsL_at hq, ← h1]
    simp [List.getD, List.getElem?_eq_getElem (show q < cs.length by omega)]
  · rw [List.getElem?_eq_none (by omega), List.getElem?_eq_none (by rw [rowsL_len]; omega)]
theorem rowK_wo {k : Nat} {kd : IntKind} {b n : Nat} {g : Nat → Nat → Int} {e : TypeId} {opn : Bool} {sz : Nat} {ro : Bool} {p : Prop} (h : rowK k kd s b n = some (g, e, opn, sz, ro, p)) (hp : p) : b < s.next ∧ ∀ f : Nm, WO f (s.get b) (.rows n k (fun i j => .int kd (g i j)) e opn sz ro) := by
  unfold rowK at h
  split at h
  · rename_i n' k' G e' opn' sz' ro' ho
    split at h
    · rename_i hk
      have hk := Nat.eq_of_beq_eq_true hk
      subst hk
      cases h
      obtain ⟨rfl, hg⟩ := hp
      refine ⟨St.lt_of_live (by rw [ho]; simp), fun f => ?_⟩
      rw [ho]
      exact wo_rows (congrArg (fun l => MObj.cells l e opn sz ro) (rowsL_congr fun i j hi hj => hg i hi j hj)) fun i j _ _ => rfl
    · cases h
  · rename_i cs e' opn' sz' ro' ho
    split at h
    · rename_i l hI
      cases h
      have hl : l.length = n * k := hp
      obtain ⟨h1, h2⟩ := intsL_at hI
      refine ⟨St.lt_of_live (by rw [ho]; simp), fun f => ?_⟩
      rw [ho]
      exact wo_rows (congrArg (fun l => MObj.cells l e opn sz ro) (rowsL_cellsK (h1.trans hl) fun i hi j hj => h2 _ (by
        have : (i + 1) * k ≤ n * k := Nat.mul_le_mul_right k hi
        rw [Nat.succ_mul] at this
        omega))) fun i j _ _ => rfl
    · cases h
  · cases h
end Mini
end Go.Proofs.YtbkpnhbcihcgaaaGreatDoor
end
section
namespace Go.Proofs.YtbkpnhbcihcgaaaGreatDoor
set_option linter.all false
namespace Mini
variable {P : Program} {rd : Option Nat} {s s1 s2 : St} {R W W1 W2 B B1 B2 : Nat}

structure Sim (P : Program) (rd : Option Nat) (ρ : Ren) (a : Act) (s : St) (ro : Option Nat) (a' : Act) (w : World) : Prop where
  glob : Glob P ρ
  round : RoR ρ rd ro
  dom : ∀ b, s.next ≤ b → ρ b = none
  rel : WRel ρ s.get w
  ar : AR ρ a a'
structure Link (ρ : Ren) (s : St) (B W : Nat) (w : World) (ρ2 : Ren) (w2 : World) : Prop where
  keep : ∀ b, b < B → ρ2 b = ρ b
  fresh : ∀ b L, B ≤ b → ρ2 b = some L → w.heap.size ≤ L.blk ∨ ∃ b0 L0, W.testBit b0 = true ∧ b0 < s.next ∧ ρ b0 = some L0 ∧ L0.blk = L.blk
  size : w.heap.size ≤ w2.heap.size
  frame : ∀ x, x < w.heap.size → (∀ b L, W.testBit b = true → b < s.next → ρ b = some L → L.blk ≠ x) → w2.heap[x]? = w.heap[x]?
  os : w2.os = w.os
  tape : w2.tape = w.tape
  output : w2.output = w.output
def KT (P : Program) (rd : Option Nat) (T : Tr) (a : Act) (s : St) (e : Exit) (a2 : Act) (s2 : St) (B W : Nat) : Prop :=
  ∀ (n : Nat) (ro : Option Nat) (ρ : Ren) (a' : Act) (w : World) (Q : Exit → Act → World → Prop), Sim P rd ρ a s ro a' w →
    (∀ ρ2 a2' w2, Link ρ s B W w ρ2 w2 → Sim P rd ρ2 a2 s2 ro a2' w2 → Q e a2' w2) → T (Fw ro) n Q a' w
abbrev KC (P : Program) (rd : Option Nat) (c : Code) := KT P rd (TC P c)

theorem Link.refl (ρ : Ren) (s : St) (w : World) (hd : ∀ b, s.next ≤ b → ρ b = none) : Link ρ s s.next 0 w ρ w :=
  ⟨fun _ _ => rfl, fun b L hb h => (by rw [hd b hb] at h; cases h), Nat.le_refl _, fun _ _ _ => rfl, rfl, rfl, rfl⟩
theorem upd_get {W : Nat} (h : Stat s s1 W) : upd s.get s s1 W = s1.get := by
  funext b
  unfold upd
  split
  · rfl
  · rename_i hn
    rcases Nat.lt_or_ge b s.next with c | c
    · refine (h.2 b c ?_).symm
      cases hw : W.testBit b with
      | false => rfl
      | true => exact absurd (.inr ⟨hw, c⟩) hn
    · have : s1.next ≤ b := by
        rcases Nat.lt_or_ge b s1.next with c2 | c2
        · exact absurd (.inl ⟨c, c2⟩) hn
        · exact c2
      rw [St.get_ge c, St.get_ge this]
theorem KT.of_snd {T : Tr} {a a1 : Act} {e : Exit} (h : Snd P rd T a s e a1 s1 R W) : KT P rd T a s e a1 s1 s.next W := fun n ro ρ a' w Q hs hQ => by
  refine h.2 n ro ρ s.get a' w Q ⟨hs.glob, hs.round, fun _ _ _ => rfl, fun b h1 h2 => ⟨hs.dom b h1, St.get_ge h1⟩, hs.rel⟩ hs.ar fun ρ1 a1' w1 p1 r1 ha1 => ?_
  have hkeep : ∀ b, ¬ (s.next ≤ b ∧ b < s1.next) → ρ1 b = ρ b := fun b hb => by
    by_cases c : ρ1 b = ρ b
    · exact c
    · exact absurd (p1.dom b c) hb
  rw [upd_get h.1] at r1
  refine hQ ρ1 a1' w1 ⟨fun b hb => hkeep b (by omega), fun b L hb hL => p1.fresh b L (hs.dom b hb) hL, p1.size, p1.frame, p1.os, p1.tape, p1.output⟩ ⟨hs.glob.mono p1.sub, hs.round.mono p1.sub, fun b hb => ?_, r1, ha1⟩
  have := h.1.1
  rw [hkeep b (by omega)]
  exact hs.dom b (by omega)

theorem Link.trans {ρ ρ1 ρ2 : Ren} {w w1 w2 : World} (h : Link ρ s B1 W w ρ1 w1) (g : Link ρ1 s1 B2 W2 w1 ρ2 w2) (hW : ∀ b, b < B1 → W2.testBit b = true → b < s.next ∧ W.testBit b = true) : Link ρ s (min B1 B2) W w ρ2 w2 := by
  have key : ∀ b L, W2.testBit b = true → ρ1 b = some L → w.heap.size ≤ L.blk ∨ ∃ b0 L0, W.testBit b0 = true ∧ b0 < s.next ∧ ρ b0 = some L0 ∧ L0.blk = L.blk := fun b L hb hL => by
    rcases Nat.lt_or_ge b B1 with c | c
    · rw [h.keep b c] at hL
      obtain ⟨h1, h2⟩ := hW b c hb
      exact .inr ⟨b, L, h2, h1, hL, rfl⟩
    · exact h.fresh b L c hL
  refine ⟨fun b hb => ?_, fun b L hb hL => ?_, Nat.le_trans h.size g.size, fun x hx hf => ?_, g.os.trans h.os, g.tape.trans h.tape, g.output.trans h.output⟩
  · rw [g.keep b (by omega), h.keep b (by omega)]
  · rcases Nat.lt_or_ge b B2 with c | c
    · rw [g.keep b c] at hL
      exact h.fresh b L (by omega) hL
    · rcases g.fresh b L c hL with k | ⟨b0, L0, k1, k2, k3, k4⟩
      · exact .inl (Nat.le_trans h.size k)
      · rw [← k4]; exact key b0 L0 k1 k3
  · rw [g.frame x (Nat.lt_of_lt_of_le hx h.size) fun b L hb hlt hL he => ?_, h.frame x hx hf]
    rcases key b L hb hL with k | ⟨b0, L0, k1, k2, k3, k4⟩
    · omega
    · exact hf b0 L0 k1 k2 k3 (k4.trans he)
theorem Link.more {ρ ρ2 : Ren} {w w2 : World} (h : Link ρ s B W1 w ρ2 w2) (hW : ∀ b, W1.testBit b = true → b < s.next → W.testBit b = true) : Link ρ s B W w ρ2 w2 :=
  ⟨h.keep, fun b L hb hL => (h.fresh b L hb hL).imp id fun ⟨b0, L0, k1, k2, k3, k4⟩ => ⟨b0, L0, hW b0 k1 k2, k2, k3, k4⟩, h.size, fun x hx hf => h.frame x hx fun b L hb hlt hL => hf b L (hW b hb hlt) hlt hL, h.os, h.tape, h.output⟩
theorem Link.less {ρ ρ2 : Ren} {w w2 : World} (h : Link ρ s B1 W w ρ2 w2) (hd : ∀ b, s.next ≤ b → ρ b = none) (hB : B ≤ B1) (hW : ∀ b, B ≤ b → b < B1 → b < s.next → W.testBit b = true) : Link ρ s B W w ρ2 w2 :=
  ⟨fun b hb => h.keep b (by omega), fun b L hb hL => (by
    rcases Nat.lt_or_ge b B1 with c | c
    · rw [h.keep b c] at hL
      rcases Nat.lt_or_ge b s.next with c2 | c2
      · exact .inr ⟨b, L, hW b hb c c2, c2, hL, rfl⟩
      · rw [hd b c2] at hL; cases hL
    · exact h.fresh b L c hL), h.size, h.frame, h.os, h.tape, h.output⟩

theorem KT.bind {T1 T2 T : Tr} (hT : ∀ F n Q a w, T1 F n (Exit.then (T2 F n Q) Q) a w → T F n Q a w) {a a1 a2 : Act} {e : Exit}
    (h : KT P rd T1 a s .normal a1 s1 B1 W1) (g : KT P rd T2 a1 s1 e a2 s2 B2 W2) : KT P rd T a s e a2 s2 (min B1 B2) (W1 ||| (W2 % 2 ^ B1)) := fun n ro ρ a' w Q hs hQ => by
  refine hT _ _ _ _ _ ?_
  refine h n ro ρ a' w _ hs fun ρ1 a1' w1 l1 s1' => ?_
  show T2 (Fw ro) n Q a1' w1
  refine g n ro ρ1 a1' w1 Q s1' fun ρ2 a2' w2 l2 s2' => ?_
  -- a name that the second piece writes and the first one has not: it lies below s.next, or nowhere
  have h1 := l1.more (W := W1 ||| (W2 % 2 ^ B1)) fun b hb _ => by rw [or_bit, hb]; rfl
  have hbit : ∀ b, b < B1 → W2.testBit b = true → (W1 ||| (W2 % 2 ^ B1)).testBit b = true := fun b hb hw => by
    rw [or_bit, Nat.testBit_mod_two_pow, hw]; simp [hb]
  refine hQ ρ2 a2' w2 ?_ s2'
  -- names that are nowhere are not written
  have g1 : Link ρ1 s1 B2 W2 w1 ρ2 w2 := l2
  refine ⟨fun b hb => ?_, fun b L hb hL => ?_, Nat.le_trans h1.size g1.size, fun x hx hf => ?_, g1.os.trans h1.os, g1.tape.trans h1.tape, g1.output.trans h1.output⟩
  · rw [g1.keep b (by omega), h1.keep b (by omega)]
  · rcases Nat.lt_or_ge b B2 with c | c
    · rw [g1.keep b c] at hL
      exact h1.fresh b L (by omega) hL
    · rcases g1.fresh b L c hL with k | ⟨b0, L0, k1, k2, k3, k4⟩
      · exact .inl (Nat.le_trans h1.size k)
      · rcases Nat.lt_or_ge b0 B1 with c1 | c1
        · rw [h1.keep b0 c1] at k3
          rcases Nat.lt_or_ge b0 s.next with c2 | c2
          · exact .inr ⟨b0, L0, hbit b0 c1 k1, c2, k3, k4⟩
          · rw [hs.dom b0 c2] at k3; cases k3
        · rw [← k4]; exact h1.fresh b0 L0 c1 k3
  · rw [g1.frame x (Nat.lt_of_lt_of_le hx h1.size) fun b L hb hlt hL he => ?_, h1.frame x hx hf]
    rcases Nat.lt_or_ge b B1 with c1 | c1
    · rw [h1.keep b c1] at hL
      rcases Nat.lt_or_ge b s.next with c2 | c2
      · exact hf b L (hbit b c1 hb) c2 hL he
      · rw [hs.dom b c2] at hL; cases hL
    · rcases h1.fresh b L c1 hL with k | ⟨b0, L0, k1, k2, k3, k4⟩
      · omega
      · exact hf b0 L0 k1 k2 k3 (k4.trans he)
theorem KT.stop {T1 T : Tr} {K : Fence → Nat → (Exit → Act → World → Prop) → Act → World → Prop} (hT : ∀ F n Q a w, T1 F n (Exit.then (K F n Q) Q) a w → T F n Q a w)
    {a a1 : Act} {e : Exit} (he : e ≠ .normal) (h : KT P rd T1 a s e a1 s1 B W) : KT P rd T a s e a1 s1 B W := fun n ro ρ a' w Q hs hQ => by
  refine hT _ _ _ _ _ (h n ro ρ a' w _ hs fun ρ1 a1' w1 l1 s1' => ?_)
  have := hQ ρ1 a1' w1 l1 s1'
  cases e with
  | normal => exact absurd rfl he
  | _ => exact this
theorem KT.map {T1 T : Tr} {a a1 : Act} {e e' : Exit} (hT : ∀ F n Q a w, T1 F n (fun x b v => x = e → Q e' b v) a w → T F n Q a w) (h : KT P rd T1 a s e a1 s1 B W) : KT P rd T a s e' a1 s1 B W :=
  fun n ro ρ a' w Q hs hQ => hT _ _ _ _ _ (h n ro ρ a' w _ hs fun ρ1 a1' w1 l1 s1' _ => hQ ρ1 a1' w1 l1 s1')
theorem KT.still {T : Tr} {a : Act} {e : Exit} (hT : ∀ F n Q a w, Q e a w → T F n Q a w) : KT P rd T a s e a s s.next 0 :=
  fun n ro ρ a' w Q hs hQ => hT _ _ _ _ _ (hQ ρ a' w (Link.refl ρ s w hs.dom) hs)
theorem KT.more {T : Tr} {a a1 : Act} {e : Exit} (h : KT P rd T a s e a1 s1 B W1) (hW : ∀ b, b < s.next → W1.testBit b = true → W.testBit b = true) : KT P rd T a s e a1 s1 B W :=
  fun n ro ρ a' w Q hs hQ => h n ro ρ a' w Q hs fun ρ1 a1' w1 l1 s1' => hQ ρ1 a1' w1 (l1.more fun b h1 h2 => hW b h2 h1) s1'
theorem KT.less {T : Tr} {a a1 : Act} {e : Exit} (h : KT P rd T a s e a1 s1 B1 W) (hB : B ≤ B1) (hW : ∀ b, B ≤ b → b < B1 → b < s.next → W.testBit b = true) : KT P rd T a s e a1 s1 B W :=
  fun n ro ρ a' w Q hs hQ => h n ro ρ a' w Q hs fun ρ1 a1' w1 l1 s1' => hQ ρ1 a1' w1 (l1.less hs.dom hB hW) s1'

section
variable {a a1 a2 : Act} {e : Exit}
theorem kC_seq {x y : Code} (h : KC P rd x a s .normal a1 s1 B1 W1) (g : KC P rd y a1 s1 e a2 s2 B2 W2) : KC P rd (.seq x y) a s e a2 s2 (min B1 B2) (W1 ||| (W2 % 2 ^ B1)) :=
  KT.bind (fun _ _ _ _ _ h => wpIn_seq h) h g
theorem kC_seq_stop {x y : Code} (he : e ≠ .normal) (h : KC P rd x a s e a1 s1 B W) : KC P rd (.seq x y) a s e a1 s1 B W :=
  KT.stop (K := fun F n Q a w => y.wpIn F n P Q a w) (fun _ _ _ _ _ h => wpIn_seq h) he h
theorem kC_cond {x y : Code} {c : Operand} {t : Bool} (hx : okOp P c = true) (hc : a.eval c = .bool t) (h : KC P rd (if t then x else y) a s e a1 s1 B W) : KC P rd (.cond c x y) a s e a1 s1 B W := fun n ro ρ a' w Q hs hQ => by
  have hv := okOp_vr hs.glob hs.ar.tmps hx
  rw [hc] at hv
  have he : a'.eval c = .bool t := by generalize a'.eval c = z at hv; cases hv; rfl
  exact wpIn_cond he (h n ro ρ a' w Q hs hQ)
theorem kC_block {id : Nat} {c : Code} (h : KC P rd c a s e a1 s1 B W) : KC P rd (.block id c) a s (outOf id e) a1 s1 B W := fun n ro ρ a' w Q hs hQ => by
  refine wpIn_block (h n ro ρ a' w _ hs fun ρ1 a1' w1 l1 s1' => ?_)
  have hq := hQ ρ1 a1' w1 l1 s1'
  cases e with
  | exit i =>
    simp only [outOf] at hq
    simp only [Exit.inBlock]
    by_cases c : i = id
    · rw [if_pos c] at hq ⊢; exact hq
    · rw [if_neg c] at hq ⊢; exact hq
  | _ => exact hq
theorem kC_scope {c : Code} (he : isGoto e = false) (h : KC P rd c a s e a1 s1 B W) : KC P rd (.scope c) a s e a1 s1 B W := fun n ro ρ a' w Q hs hQ => by
  refine wpIn_scope_straight (h n ro ρ a' w _ hs fun ρ1 a1' w1 l1 s1' => ?_)
  have hq := hQ ρ1 a1' w1 l1 s1'
  cases e with
  | goto l => simp [isGoto] at he
  | _ => exact hq
theorem k_from_on {c : Code} (h : KC P rd c a s .normal a1 s1 B1 W1) (g : KT P rd (LoopFrom P c) a1 s1 e a2 s2 B2 W2) : KT P rd (LoopFrom P c) a s e a2 s2 (min B1 B2) (W1 ||| (W2 % 2 ^ B1)) :=
  KT.bind (fun _ _ _ _ _ h => loopFrom_step h) h g
theorem k_from_stop {c : Code} (he : e ≠ .normal) (h : KC P rd c a s e a1 s1 B W) : KT P rd (LoopFrom P c) a s e a1 s1 B W :=
  KT.stop (K := fun F n Q a w => LoopFrom P c F n Q a w) (fun _ _ _ _ _ h => loopFrom_step h) he h
theorem kC_loop {c : Code} (h : KT P rd (LoopFrom P c) a s e a1 s1 B W) : KC P rd (.loop c) a s e a1 s1 B W :=
  fun n ro ρ a' w Q hs hQ => loop_of_from (h n ro ρ a' w Q hs hQ)
end
theorem K_rounds {c : Code} {e : Exit} {a2 : Act} {A : Nat → Act} {S : Nat → St} (n : Nat) (h : ∀ i, i < n → KC P rd c (A i) (S i) .normal (A (i + 1)) (S (i + 1)) B W) (he : KC P rd c (A n) (S n) e a2 s2 B W) (hn : e ≠ .normal) : KC P rd (.loop c) (A 0) (S 0) e a2 s2 B W := by
  have key : ∀ m i, i + m = n → KT P rd (LoopFrom P c) (A i) (S i) e a2 s2 B W := fun m => by
    induction m with
    | zero =>
      intro i hi
      have : i = n := by omega
      subst this
      exact k_from_stop hn he
    | succ m ih =>
      intro i hi
      have := k_from_on (h i (by omega)) (ih (i + 1) (by omega))
      rw [Nat.min_self] at this
      refine this.more fun b _ hb => ?_
      rw [or_bit, Nat.testBit_mod_two_pow, Bool.or_eq_true, Bool.and_eq_true] at hb
      exact hb.elim id fun k => k.2
  exact kC_loop (key n 0 (by omega))
end Mini
end Go.Proofs.YtbkpnhbcihcgaaaGreatDoor
end
section
namespace Go.Proofs.YtbkpnhbcihcgaaaGreatDoor
set_option linter.all false
namespace Mini
variable {P : Program} {rd : Option Nat} {s s1 : St} {R W : Nat}

def shN (B j b : Nat) : Nat := if b < B then b else b + j
def renV (g : Nat → Nat) : Value → Value
  | .slice (some ⟨b, o, none⟩) n c => .slice (some ⟨g b, o, none⟩) n c
  | v => v
def renL (g : Nat → Nat) (a : MA) : Nat → Nat → List Value
  | 0, _ => []
  | n + 1, t => renV g (a.get t) :: renL g a n (t + 1)
def renA (g : Nat → Nat) (a : MA) : MA := MA.ofL a.n (renL g a a.n 0) []
theorem renL_len (g : Nat → Nat) (a : MA) : ∀ n t, (renL g a n t).length = n
  | 0, _ => rfl
  | n + 1, t => by simp [renL, renL_len g a n (t + 1)]
theorem renL_at (g : Nat → Nat) (a : MA) : ∀ n t i, i < n → (renL g a n t).getD i undef = renV g (a.get (t + i))
  | 0, t, i, h => by omega
  | n + 1, t, 0, h => by simp [renL]
  | n + 1, t, i + 1, h => by
    rw [renL, List.getD_cons_succ, renL_at g a n (t + 1) i (by omega), show t + 1 + i = t + (i + 1) from by omega]
theorem renA_get (g : Nat → Nat) (a : MA) {t : Nat} (h : t < a.n) : (renA g a).get t = renV g (a.get t) := by
  unfold renA
  rw [MA.ofL_get _ _ _ (by rw [renL_len]; exact Nat.le_refl _) t h, renL_at g a a.n 0 t h, Nat.zero_add]
theorem renV_id (v : Value) : renV (fun b => b) v = v := by
  unfold renV; split <;> rfl
def okV (B T : Nat) (v : Value) : Bool := match v with
  | .slice (some ⟨b, _, none⟩) _ _ => Nat.ble (b + 1) T
  | v => keepB (below B) 8 v
def okA (B T : Nat) (a : MA) : Nat → Bool
  | 0 => true
  | n + 1 => okV B T (a.get n) && okA B T a n
theorem okA_at {B T : Nat} {a : MA} : ∀ {n t : Nat}, okA B T a n = true → t < n → okV B T (a.get t) = true
  | 0, t, h, ht => by omega
  | n + 1, t, h, ht => by
    simp only [okA, Bool.and_eq_true] at h
    rcases Nat.lt_or_ge t n with c | c
    · exact okA_at h.2 c
    · have : t = n := by omega
      subst this; exact h.1
theorem slice_wv' {f : Nm} {b b' o n c : Nat} (h : f b b') : WV f (.slice (some ⟨b, o, none⟩) n c) (.slice (some ⟨b', o, none⟩) n c) := fun ρ ρ' hr v' hv => by
  cases hv with
  | empty a a' => exact .empty _ _
  | slice _ _ _ _ c' L h1 hc => exact .slice b' o n c c' L (hr b b' L h h1) hc
theorem ren_wv {f : Nm} {B T : Nat} {g g' : Nat → Nat} (hf : ∀ b, b < T → f (g b) (g' b)) (hl : ∀ b, b < B → f b b) {v : Value} (h : okV B T v = true) : WV f (renV g v) (renV g' v) := by
  unfold okV at h
  split at h
  · exact slice_wv' (hf _ (Nat.le_of_ble_eq_true h))
  · rename_i hv
    have e : ∀ g : Nat → Nat, renV g v = v := fun g => by
      unfold renV
      split
      · exact (hv _ _ _ _ rfl).elim
      · rfl
    rw [e, e]
    exact keep_wv (fun b hb => hl b (Nat.le_of_ble_eq_true hb)) 8 h
theorem wa_of {f : Nm} {a a2 : MA} (hn : a2.n = a.n) (hd : a.defers = []) (hd2 : a2.defers = []) (h : ∀ t, t < a.n → WV f (a.get t) (a2.get t)) : WA f a.act a2.act := by
  refine ⟨⟨?_, fun i v u h1 h2 => ?_⟩, hd, hd2⟩
  · show a.tmps.size = a2.tmps.size
    rw [a.tmps_size, a2.tmps_size, hn]
  · have hi : i < a.n := by
      have h3 : i < a.tmps.size := (Array.getElem?_eq_some_iff.1 h1).1
      rwa [a.tmps_size] at h3
    have e1 : a.tmps[i]? = some v := h1
    have e2 : a2.tmps[i]? = some u := h2
    rw [a.tmps_at i hi] at e1
    rw [a2.tmps_at i (hn ▸ hi)] at e2
    cases e1
    cases e2
    exact h i hi
theorem ren_wa_to {f : Nm} {B T : Nat} {g : Nat → Nat} {a : MA} (hd : a.defers = []) (hf : ∀ b, b < T → f b (g b)) (hl : ∀ b, b < B → f b b) (ok : okA B T a a.n = true) : WA f a.act (renA g a).act :=
  wa_of rfl hd rfl fun t ht => by
    rw [renA_get g a ht]
    have := ren_wv (f := f) (g := fun b => b) (g' := g) hf hl (okA_at ok ht)
    rwa [renV_id] at this
theorem ren_wa_from {f : Nm} {B T : Nat} {g : Nat → Nat} {a : MA} (hd : a.defers = []) (hf : ∀ b, b < T → f (g b) b) (hl : ∀ b, b < B → f b b) (ok : okA B T a a.n = true) : WA f (renA g a).act a.act :=
  wa_of rfl rfl hd fun t ht => by
    have ht : t < a.n := ht
    rw [renA_get g a ht]
    have := ren_wv (f := f) (g := g) (g' := fun b => b) hf hl (okA_at ok ht)
    rwa [renV_id] at this

def growV (B r : Nat) (v : Value) : Value := match v with
  | .slice (some ⟨b, o, none⟩) n c => match Nat.ble (b + 1) B with
    | true => .slice (some ⟨b, o, none⟩) n c
    | false => match Nat.beq b r with
      | true => .slice (some ⟨B, o, none⟩) n c
      | false => .chan none
  | v => match keepB (below B) 8 v with
    | true => v
    | false => .chan none
def growL (B r m : Nat) (a : MA) : Nat → Nat → List Value
  | 0, _ => []
  | n + 1, t => (match bitOf m t with
    | true => growV B r (a.get t)
    | false => .chan none) :: growL B r m a n (t + 1)
def growA (B r m : Nat) (a : MA) : MA := MA.ofL a.n (growL B r m a a.n 0) []
theorem growL_len (B r m : Nat) (a : MA) : ∀ n t, (growL B r m a n t).length = n
  | 0, _ => rfl
  | n + 1, t => by simp [growL, growL_len B r m a n (t + 1)]
theorem growL_at (B r m : Nat) (a : MA) : ∀ n t i, i < n → (growL B r m a n t).getD i undef = match bitOf m (t + i) with
    | true => growV B r (a.get (t + i))
    | false => .chan none
  | 0, t, i, h => by omega
  | n + 1, t, 0, h => by simp [growL]
  | n + 1, t, i + 1, h => by
    rw [growL, List.getD_cons_succ, growL_at B r m a n (t + 1) i (by omega), show t + 1 + i = t + (i + 1) from by omega]
theorem growA_get (B r m : Nat) (a : MA) {t : Nat} (h : t < a.n) : (growA B r m a).get t = match bitOf m t with
    | true => growV B r (a.get t)
    | false => .chan none := by
  unfold growA
  rw [MA.ofL_get _ _ _ (by rw [growL_len]; exact Nat.le_refl _) t h, growL_at B r m a a.n 0 t h, Nat.zero_add]
theorem growV_wv {f : Nm} {B r J : Nat} (hl : ∀ b, b < B → f b b) (hr : B ≤ r → f r (B + J)) (v : Value) : WV f v (renV (shN B J) (growV B r v)) := by
  unfold growV
  split
  · rename_i b o n c
    cases h1 : Nat.ble (b + 1) B with
    | true =>
      have := Nat.le_of_ble_eq_true h1
      show WV f _ (.slice (some ⟨shN B J b, o, none⟩) n c)
      rw [show shN B J b = b from if_pos this]
      exact slice_wv' (hl b this)
    | false =>
      have hb := ble_no h1
      cases h2 : Nat.beq b r with
      | true =>
        have e := Nat.eq_of_beq_eq_true h2
        subst e
        show WV f _ (.slice (some ⟨shN B J B, o, none⟩) n c)
        rw [show shN B J B = B + J from if_neg (Nat.lt_irrefl _)]
        exact slice_wv' (hr (by omega))
      | false => exact junk_wv _ _
  · rename_i hv
    cases h1 : keepB (below B) 8 v with
    | true =>
      have e : renV (shN B J) v = v := by
        unfold renV
        split
        · exact (hv _ _ _ _ rfl).elim
        · rfl
      show WV f v (renV (shN B J) v)
      rw [e]
      exact keep_wv (fun b hb => hl b (Nat.le_of_ble_eq_true hb)) 8 h1
    | false => exact junk_wv _ _
theorem grow_wa {f : Nm} {B r J m : Nat} {a : MA} (hd : a.defers = []) (hl : ∀ b, b < B → f b b) (hr : B ≤ r → f r (B + J)) : WA f a.act (renA (shN B J) (growA B r m a)).act :=
  wa_of rfl hd rfl fun t ht => by
    rw [renA_get (shN B J) (growA B r m a) ht, growA_get B r m a ht]
    split
    · exact growV_wv hl hr _
    · exact junk_wv _ _

def kap (B q j : Nat) (ro : Option Nat) (b : Nat) : Option Nat := if b < B then some b else if b < B + q then some (b + j) else if ro = some b then some (B + j + q) else none
theorem hole_wo {f : Nm} : WO f .hole .hole := ⟨id, fun _ h => h, fun _ _ _ _ _ _ => trivial⟩
theorem getD_app {l m : List MObj} {i : Nat} : (l ++ m).getD i .hole = if i < l.length then l.getD i .hole else m.getD (i - l.length) .hole := by
  simp only [List.getD_eq_getElem?_getD]
  split
  · rename_i h; rw [List.getElem?_append_left h]
  · rename_i h; rw [List.getElem?_append_right (by omega)]
theorem getD_rep {j i : Nat} : (List.replicate j MObj.hole).getD i .hole = .hole := by
  simp only [List.getD_eq_getElem?_getD]
  rcases Nat.lt_or_ge i j with h | h
  · simp [List.getElem?_replicate, h]
  · simp [List.getElem?_replicate, Nat.not_lt.2 h]
theorem getD_mem {l : List MObj} {i : Nat} (h : i < l.length) : l.getD i .hole ∈ l := by
  simp [List.getD, List.getElem?_eq_getElem h]
theorem shift {T : Tr} {l c0 c1 n1 : List MObj} {a a1 a' a2 : Act} {e : Exit} {s01 : St} {R0 W0 j N : Nat} {ro : Option Nat} (h : Snd P none T a (wS N (l ++ c0)) e a1 s01 R0 W0) (hN : N = P.globals.size) (hc : c1.length = c0.length)
    (hn1 : (n1 = [] ∧ ro = none) ∨ ∃ x2 r, n1 = [x2] ∧ ro = some r ∧ N + l.length + c0.length ≤ r ∧ r < s01.next ∧ ∀ f : Nm, (∀ b, b < N + l.length → f b b) → WO f (s01.get r) x2)
    (hk : ∀ o, o ∈ l ++ c0 → ∀ f : Nm, (∀ b, b < N + l.length → f b b) → WO f o o) (hlive : ∀ o, o ∈ c0 → o ≠ .hole ∧ roO o = false) (hW0 : ∀ b, b < N + l.length → W0.testBit b = false)
    (hs : ∀ i, i < c0.length → (W0.testBit (N + l.length + i) = true → ∀ f : Nm, (∀ b, b < N + l.length → f b b) → WO f (s01.get (N + l.length + i)) (c1.getD i .hole)) ∧ (W0.testBit (N + l.length + i) = false → c1.getD i .hole = c0.getD i .hole))
    (hR : ∀ b, b < N + l.length → R0.testBit b = true → R.testBit b = true) (hRc : ∀ i, i < c0.length → R.testBit (N + l.length + j + i) = true) (hWl : ∀ b, b < N + l.length + j → W.testBit b = false)
    (hWc : ∀ i, i < c0.length → W.testBit (N + l.length + j + i) = W0.testBit (N + l.length + i)) (ha : WA (fun x y => y < N + l.length + c0.length ∧ x = shN (N + l.length) j y) a' a)
    (ha2 : WA (fun y z => kap (N + l.length) c0.length j ro y = some z) a1 a2) :
    Snd P none T a' (wS N (l ++ List.replicate j .hole ++ c0)) e a2 (wS N (l ++ List.replicate j .hole ++ c1 ++ n1)) R W := by
  have n0 : (wS N (l ++ c0)).next = N + l.length + c0.length := by rw [wS_next, List.length_append]; omega
  have ns : (wS N (l ++ List.replicate j .hole ++ c0)).next = N + l.length + j + c0.length := by rw [wS_next]; simp only [List.length_append, List.length_replicate]; omega
  have ns1 : (wS N (l ++ List.replicate j .hole ++ c1 ++ n1)).next = N + l.length + j + c0.length + n1.length := by rw [wS_next]; simp only [List.length_append, List.length_replicate]; omega
  -- the blocks of the four worlds
  have g0l : ∀ b, b < N + l.length → (wS N (l ++ c0)).get b = (wS N l).get b := fun b hb => by
    rcases Nat.lt_or_ge b N with c | c
    · rw [wS_low _ _ c, wS_low _ _ c]
    · rw [show b = N + (b - N) from by omega, wS_get, wS_get, getD_app, if_pos (by omega)]
  have g0c : ∀ i, i < c0.length → (wS N (l ++ c0)).get (N + l.length + i) = c0.getD i .hole := fun i hi => by
    rw [Nat.add_assoc, wS_get, getD_app, if_neg (by omega), show l.length + i - l.length = i from by omega]
  have gl : ∀ (m : List MObj) b, b < N + l.length → (wS N (l ++ List.replicate j .hole ++ m)).get b = (wS N l).get b := fun m b hb => by
    rcases Nat.lt_or_ge b N with c | c
    · rw [wS_low _ _ c, wS_low _ _ c]
    · rw [show b = N + (b - N) from by omega, wS_get, wS_get, getD_app, if_pos (by simp only [List.length_append, List.length_replicate]; omega), getD_app, if_pos (by omega)]
  have gh : ∀ (m : List MObj) b, N + l.length ≤ b → b < N + l.length + j → (wS N (l ++ List.replicate j .hole ++ m)).get b = .hole := fun m b h1 h2 => by
    rw [show b = N + (b - N) from by omega, wS_get, getD_app, if_pos (by simp only [List.length_append, List.length_replicate]; omega), getD_app, if_neg (by omega), getD_rep]
  have gm : ∀ (m : List MObj) i, (wS N (l ++ List.replicate j .hole ++ m)).get (N + l.length + j + i) = m.getD i .hole := fun m i => by
    rw [show N + l.length + j + i = N + (l.length + j + i) from by omega, wS_get, getD_app, if_neg (by simp only [List.length_append, List.length_replicate]; omega)]
    simp only [List.length_append, List.length_replicate]
    rw [show l.length + j + i - (l.length + j) = i from by omega]
  have g1m : ∀ i, (wS N (l ++ List.replicate j .hole ++ c1 ++ n1)).get (N + l.length + j + i) = (c1 ++ n1).getD i .hole := fun i => by rw [List.append_assoc (l ++ List.replicate j MObj.hole) c1 n1]; exact gm _ i
  have hlow : ∀ f : Nm, (∀ b, b < N + l.length → f b b) → ∀ b, b < N + l.length → WO f ((wS N l).get b) ((wS N l).get b) := fun f hf b hb => by
    rcases Nat.lt_or_ge b N with c | c
    · rw [wS_low _ _ c]; exact hole_wo
    · rw [show b = N + (b - N) from by omega, wS_get]
      exact hk _ (List.mem_append_left _ (getD_mem (by omega))) f hf
  have hfi : ∀ b, b < N + l.length → (fun x y => y < N + l.length + c0.length ∧ x = shN (N + l.length) j y) b b := fun b hb => ⟨by omega, (if_pos hb).symm⟩
  have hfk : ∀ b, b < N + l.length → (fun y z => kap (N + l.length) c0.length j ro y = some z) b b := fun b hb => if_pos hb
  refine h.embed (ι := shN (N + l.length) j) (κ := kap (N + l.length) c0.length j ro) ⟨fun g hg => ⟨by rw [n0]; omega, if_pos (by omega)⟩, fun b hb => ?_, fun b b' hb hb' he => ?_, fun b hb hbit => ?_, fun b hb hbit => ?_, fun b hb hbit => ?_, ⟨by rw [ns, ns1]; omega, fun b hb hw => ?_⟩, fun b hb => ?_, fun b x hb hx => ?_, fun b b' x h1 h2 => ?_, fun x hx hxw => ?_, fun x h1 h2 => ?_⟩ (.inl ⟨rfl, rfl⟩) ?_ ha2
  · rw [n0] at hb
    rw [ns]
    unfold shN
    split <;> omega
  · unfold shN at he
    split at he <;> split at he <;> omega
  · rw [n0] at hb
    unfold shN
    rw [or_bit, Bool.or_eq_true]
    split
    · rename_i hlt
      rw [or_bit, hW0 b hlt, Bool.or_false] at hbit
      exact .inl (hR b hlt hbit)
    · rename_i hge
      have := hRc (b - (N + l.length)) (by omega)
      rw [show N + l.length + j + (b - (N + l.length)) = b + j from by omega] at this
      exact .inl this
  · rw [n0] at hb
    rcases Nat.lt_or_ge b (N + l.length) with c | c
    · rw [hW0 b c] at hbit; cases hbit
    · have e1 := hWc (b - (N + l.length)) (by omega)
      rw [show N + l.length + j + (b - (N + l.length)) = b + j from by omega, show N + l.length + (b - (N + l.length)) = b from by omega, hbit] at e1
      refine ⟨by rw [show shN (N + l.length) j b = b + j from if_neg (by omega)]; exact e1, ?_⟩
      have := g0c (b - (N + l.length)) (by omega)
      rw [show N + l.length + (b - (N + l.length)) = b from by omega] at this
      have e2 := gm c0 (b - (N + l.length))
      rw [show N + l.length + j + (b - (N + l.length)) = b + j from by omega] at e2
      rw [this, show shN (N + l.length) j b = b + j from if_neg (by omega), e2]
      exact hlive _ (getD_mem (by omega))
  · rw [n0] at hb
    rw [n0]
    rcases Nat.lt_or_ge b (N + l.length) with c | c
    · rw [show shN (N + l.length) j b = b from if_pos c, gl c0 b c, g0l b c]
      exact hlow _ hfi b c
    · have e1 := gm c0 (b - (N + l.length))
      rw [show N + l.length + j + (b - (N + l.length)) = b + j from by omega] at e1
      have e2 := g0c (b - (N + l.length)) (by omega)
      rw [show N + l.length + (b - (N + l.length)) = b from by omega] at e2
      rw [show shN (N + l.length) j b = b + j from if_neg (by omega), e1, e2]
      exact hk _ (List.mem_append_right _ (getD_mem (by omega))) _ hfi
  · rw [ns] at hb
    rcases Nat.lt_or_ge b (N + l.length) with c | c
    · rw [List.append_assoc (l ++ List.replicate j MObj.hole) c1 n1, gl _ b c, gl _ b c]
    · rcases Nat.lt_or_ge b (N + l.length + j) with c2 | c2
      · rw [List.append_assoc (l ++ List.replicate j MObj.hole) c1 n1, gh _ b c c2, gh _ b c c2]
      · have e3 : b = N + l.length + j + (b - (N + l.length + j)) := by omega
        have hi : b - (N + l.length + j) < c0.length := by omega
        rw [e3, g1m, gm, getD_app, if_pos (by omega)]
        refine (hs _ hi).2 ?_
        rw [← hWc _ hi, ← e3]; exact hw
  · rw [n0] at hb
    unfold kap shN
    split
    · rfl
    · rfl
  · rw [n0] at hb
    rw [ns, ns1]
    unfold kap at hx
    rw [if_neg (by omega), if_neg (by omega)] at hx
    split at hx
    · rename_i er
      cases hx
      rcases hn1 with ⟨k, kr⟩ | ⟨x2, r, k, kr, k1, k2, k3⟩
      · rw [kr] at er; cases er
      · rw [k]; exact ⟨by omega, by simp⟩
    · cases hx
  · unfold kap at h1 h2
    split at h1
    · have h1 := Option.some.inj h1
      split at h2
      · have h2 := Option.some.inj h2; omega
      · split at h2
        · have h2 := Option.some.inj h2; omega
        · split at h2
          · have h2 := Option.some.inj h2; omega
          · cases h2
    · split at h1
      · have h1 := Option.some.inj h1
        split at h2
        · have h2 := Option.some.inj h2; omega
        · split at h2
          · have h2 := Option.some.inj h2; omega
          · split at h2
            · have h2 := Option.some.inj h2; omega
            · cases h2
      · split at h1
        · rename_i er1
          have h1 := Option.some.inj h1
          split at h2
          · have h2 := Option.some.inj h2; omega
          · split at h2
            · have h2 := Option.some.inj h2; omega
            · split at h2
              · rename_i er2
                rw [er1] at er2; exact Option.some.inj er2
              · cases h2
        · cases h1
  · rw [ns] at hx
    rcases Nat.lt_or_ge x (N + l.length + j) with c | c
    · rw [hWl x c] at hxw; cases hxw
    · have hi : x - (N + l.length + j) < c0.length := by omega
      have e1 := hWc _ hi
      have e3 : N + l.length + j + (x - (N + l.length + j)) = x := by omega
      rw [e3, hxw] at e1
      refine ⟨N + l.length + (x - (N + l.length + j)), by rw [n0]; omega, by unfold shN; rw [if_neg (by omega)]; omega, e1.symm, ?_⟩
      have e4 := g1m (x - (N + l.length + j))
      rw [e3, getD_app, if_pos (by omega)] at e4
      rw [e4]
      exact (hs _ hi).1 e1.symm _ hfk
  · rw [ns] at h1
    rw [ns1] at h2
    rcases hn1 with ⟨k, kr⟩ | ⟨x2, r, k, kr, k1, k2, k3⟩
    · rw [k] at h2; simp at h2; omega
    · have e : x = N + l.length + j + c0.length := by rw [k] at h2; simp at h2; omega
      subst e
      refine .inr ⟨r, by rw [n0]; exact k1, k2, ?_, ?_⟩
      · unfold kap
        rw [if_neg (by omega), if_neg (by omega), if_pos kr]
      · rw [g1m, getD_app, if_neg (by omega), k, hc, Nat.sub_self]
        exact k3 _ hfk
  · rw [n0]; exact ha
def cur (X : Nat → MObj) : Nat → List MObj
  | 0 => []
  | i + 1 => [X (i + 1)]
def lowB (B Rl R W : Nat) : Prop := ∀ b, b < B → W.testBit b = false ∧ (R.testBit b = true → Rl.testBit b = true)
def Grow (P : Program) (N : Nat) (l : List MObj) (c : Code) (X : Nat → MObj) (A : Nat → MA) (Rl i : Nat) : Prop := ∃ a1 s1 r m R0 W0, SndC P none c (A i).act (wS N (l ++ cur X i)) .normal (MA.act a1) s1 R0 W0 ∧ a1.defers = [] ∧ N + l.length + (cur X i).length ≤ r ∧ r < s1.next ∧
  (∀ f : Nm, WO f (s1.get r) (X (i + 1))) ∧ lowB (N + l.length) Rl R0 W0 ∧ (0 < i → W0.testBit (N + l.length) = true ∧ s1.get (N + l.length) = .hole) ∧ growA (N + l.length) r m a1 = A (i + 1)
def Last (P : Program) (N : Nat) (l : List MObj) (c : Code) (X : Nat → MObj) (A : Nat → MA) (Rl i : Nat) (e : Exit) (a2 : MA) (keep : Bool) : Prop := ∃ a1 s1 k m R0 W0, SndC P none c (A i).act (wS N (l ++ cur X i)) e (MA.act a1) s1 R0 W0 ∧ a1.defers = [] ∧
  lowB (N + l.length) Rl R0 W0 ∧ (0 < i → W0.testBit (N + l.length) = false) ∧ (k < N + l.length ∨ (k = N + l.length ∧ 0 < i ∧ keep = true)) ∧ growA (N + l.length) k m a1 = a2
theorem lowB_or {B Rl R W R2 W2 : Nat} (h : lowB B Rl R W) (g : lowB B Rl R2 W2) : lowB B Rl (R ||| R2) (W ||| W2) := fun b hb => ⟨by rw [or_bit, (h b hb).1, (g b hb).1]; rfl, fun k => by
  rw [or_bit, Bool.or_eq_true] at k
  rcases k with k | k
  · exact (h b hb).2 k
  · exact (g b hb).2 k⟩
theorem okV_mono {B T T2 : Nat} (h : T ≤ T2) {v : Value} (k : okV B T v = true) : okV B T2 v = true := by
  unfold okV at k ⊢
  split at k
  · have := Nat.le_of_ble_eq_true k
    exact Nat.ble_eq_true_of_le (by omega)
  · exact k
theorem okA_mono {B T T2 : Nat} {a : MA} (h : T ≤ T2) : ∀ {n}, okA B T a n = true → okA B T2 a n = true
  | 0, _ => rfl
  | n + 1, k => by
    simp only [okA, Bool.and_eq_true] at k ⊢
    exact ⟨okV_mono h k.1, okA_mono h k.2⟩
theorem cur_len (X : Nat → MObj) (i : Nat) : (cur X i).length ≤ 1 ∧ (0 < i → (cur X i).length = 1) := by
  cases i with
  | zero => exact ⟨by simp [cur], fun h => absurd h (by omega)⟩
  | succ i => exact ⟨by simp [cur], fun _ => rfl⟩
theorem cur_mem {X : Nat → MObj} {i : Nat} {o : MObj} (h : o ∈ cur X i) : 0 < i ∧ o = X i := by
  cases i with
  | zero => simp [cur] at h
  | succ i => simp [cur] at h; exact ⟨by omega, h⟩
theorem grow_okA (B r m : Nat) (a : MA) : okA B (B + 1) (growA B r m a) (growA B r m a).n = true := by
  have : ∀ n, n ≤ a.n → okA B (B + 1) (growA B r m a) n = true := fun n => by
    induction n with
    | zero => intro _; rfl
    | succ n ih =>
      intro hn
      rw [okA, ih (by omega), Bool.and_true, growA_get B r m a (by omega)]
      split
      · unfold growV
        split
        · split
          · rename_i hb
            have := Nat.le_of_ble_eq_true hb
            show Nat.ble _ _ = true
            exact Nat.ble_eq_true_of_le (by omega)
          · split
            · show Nat.ble _ _ = true
              exact Nat.ble_eq_true_of_le (by omega)
            · rfl
        · rename_i hv
          split
          · rename_i hk
            unfold okV
            split
            · rename_i hb; exact (hv _ _ _ _ hb).elim
            · exact hk
          · rfl
      · rfl
  exact this a.n (Nat.le_refl _)
section
variable {c : Code} {N n : Nat} {l : List MObj} {X : Nat → MObj} {A : Nat → MA} {Rl : Nat}
def grA (N : Nat) (l : List MObj) (A : Nat → MA) (i : Nat) : MA := renA (shN (N + l.length) (i - 1)) (A i)
def grS (N : Nat) (l : List MObj) (X : Nat → MObj) (i : Nat) : St := wS N (l ++ List.replicate (i - 1) .hole ++ cur X i)
theorem keep_wo' {B : Nat} {o : MObj} (h : keepO (below B) o) (f : Nm) (hf : ∀ b, b < B → f b b) : WO f o o := keep_wo (fun b hb => hf b (Nat.le_of_ble_eq_true hb)) h
theorem grow_step {i : Nat} (hN : N = P.globals.size) (hl : ∀ o, o ∈ l → keepO (below (N + l.length)) o) (hX : 0 < i → keepO (below (N + l.length)) (X i) ∧ X i ≠ .hole ∧ roO (X i) = false) (hd : (A i).defers = []) (hok : okA (N + l.length) (N + l.length + (cur X i).length) (A i) (A i).n = true)
    (h : Grow P N l c X A Rl i) : ∃ R W, lowB (N + l.length) Rl R W ∧ SndC P none c (grA N l A i).act (grS N l X i) .normal (grA N l A (i + 1)).act (grS N l X (i + 1)) R W := by
  obtain ⟨a1, s1, r, m, R0, W0, h, hd1, hr1, hr2, hwo, hlow, hB, ha⟩ := h
  have hcl := cur_len X i
  have hok2 := grow_okA (N + l.length) r m a1
  rw [ha] at hok2
  have hbit : ∀ b, b < N + l.length → (2 ^ (N + l.length + (i - 1))).testBit b = false := fun b hb => by
    cases hq : (2 ^ (N + l.length + (i - 1))).testBit b with
    | false => rfl
    | true => have := bit_iff.1 hq; omega
  have key := shift (e := .normal) (a' := (grA N l A i).act) (a2 := (grA N l A (i + 1)).act) (c1 := if 0 < i then [.hole] else []) (n1 := [X (i + 1)]) (R := R0 ||| 2 ^ (N + l.length + (i - 1))) (W := if 0 < i then 2 ^ (N + l.length + (i - 1)) else 0) (j := i - 1) (ro := some r) h hN
    (by cases i <;> rfl) (.inr ⟨_, r, rfl, rfl, hr1, hr2, fun f _ => hwo f⟩) (fun o ho f hf => ?_) (fun o ho => ?_) (fun b hb => (hlow b hb).1) (fun k hk => ?_) (fun b hb hb2 => by rw [or_bit, hb2]; rfl) (fun k hk => ?_) (fun b hb => ?_) (fun k hk => ?_) ?_ ?_
  · refine ⟨R0 ||| 2 ^ (N + l.length + (i - 1)), if 0 < i then 2 ^ (N + l.length + (i - 1)) else 0, fun b hb => ⟨?_, fun hb2 => ?_⟩, ?_⟩
    · split
      · exact hbit b hb
      · simp
    · rw [or_bit, hbit b hb, Bool.or_false] at hb2
      exact (hlow b hb).2 hb2
    · have e : grS N l X (i + 1) = wS N (l ++ List.replicate (i - 1) .hole ++ (if 0 < i then [.hole] else []) ++ [X (i + 1)]) := by
        unfold grS
        cases i with
        | zero => simp [cur]
        | succ i => simp [cur, List.replicate_succ']
      rw [e]; exact key
  · rcases List.mem_append.1 ho with k | k
    · exact keep_wo' (hl o k) f hf
    · obtain ⟨k1, rfl⟩ := cur_mem k
      exact keep_wo' (hX k1).1 f hf
  · obtain ⟨k1, rfl⟩ := cur_mem ho
    exact (hX k1).2
  · have hi : 0 < i := by
      cases i with
      | zero => simp [cur] at hk
      | succ i => omega
    have : k = 0 := by omega
    subst this
    refine ⟨fun _ f hf => ?_, fun hw => ?_⟩
    · rw [if_pos hi, Nat.add_zero, (hB hi).2]; exact hole_wo
    · rw [Nat.add_zero, (hB hi).1] at hw; cases hw
  · have : k = 0 := by omega
    subst this
    rw [or_bit, Nat.add_zero, bit_self]; simp
  · split
    · cases hq : (2 ^ (N + l.length + (i - 1))).testBit b with
      | false => rfl
      | true => have := bit_iff.1 hq; omega
    · simp
  · have hi : 0 < i := by
      cases i with
      | zero => simp [cur] at hk
      | succ i => omega
    have : k = 0 := by omega
    subst this
    rw [if_pos hi, Nat.add_zero, Nat.add_zero, bit_self, (hB hi).1]
  · exact ren_wa_from hd (T := N + l.length + (cur X i).length) (fun b hb => ⟨hb, rfl⟩) (fun b hb => ⟨by omega, (if_pos hb).symm⟩) hok
  · rw [show grA N l A (i + 1) = renA (shN (N + l.length) i) (growA (N + l.length) r m a1) from by unfold grA; rw [ha]; rfl]
    refine grow_wa hd1 (fun b hb => if_pos hb) (fun hr => ?_)
    unfold kap
    rw [if_neg (by omega), if_neg (by omega), if_pos rfl]
    congr 1
    cases i with
    | zero => simp [cur]
    | succ i => simp [cur]; omega
theorem grow_okB {B k m : Nat} (a : MA) (T : Nat) (hk : k < B ∧ T = B ∨ k = B ∧ T = B + 1) : okA B T (growA B k m a) (growA B k m a).n = true := by
  have : ∀ n, n ≤ a.n → okA B T (growA B k m a) n = true := fun n => by
    induction n with
    | zero => intro _; rfl
    | succ n ih =>
      intro hn
      rw [okA, ih (by omega), Bool.and_true, growA_get B k m a (by omega)]
      split
      · unfold growV
        split
        · split
          · rename_i hb
            have := Nat.le_of_ble_eq_true hb
            show Nat.ble _ _ = true
            exact Nat.ble_eq_true_of_le (by omega)
          · rename_i hb
            have hb := ble_no hb
            split
            · rename_i he
              have he := Nat.eq_of_beq_eq_true he
              show Nat.ble _ _ = true
              exact Nat.ble_eq_true_of_le (by omega)
            · rfl
        · rename_i hv
          split
          · rename_i hk
            unfold okV
            split
            · rename_i hb; exact (hv _ _ _ _ hb).elim
            · exact hk
          · rfl
      · rfl
  exact this a.n (Nat.le_refl _)
theorem last_step {i : Nat} {e : Exit} {a2 : MA} {keep : Bool} (hN : N = P.globals.size) (hl : ∀ o, o ∈ l → keepO (below (N + l.length)) o) (hX : 0 < i → keepO (below (N + l.length)) (X i) ∧ X i ≠ .hole ∧ roO (X i) = false) (hd : (A i).defers = []) (hok : okA (N + l.length) (N + l.length + (cur X i).length) (A i) (A i).n = true)
    (h : Last P N l c X A Rl i e a2 keep) : (∃ R W, lowB (N + l.length) Rl R W ∧ SndC P none c (grA N l A i).act (grS N l X i) e (renA (shN (N + l.length) (i - 1)) a2).act (grS N l X i) R W) ∧ okA (N + l.length) (N + l.length + (if keep then (cur X i).length else 0)) a2 a2.n = true ∧ a2.defers = [] := by
  obtain ⟨a1, s1, k, m, R0, W0, h, hd1, hlow, hB, hk0, ha⟩ := h
  have hcl := cur_len X i
  refine ⟨?_, ?_, by rw [← ha]; rfl⟩
  · have hbit : ∀ b, b < N + l.length → (2 ^ (N + l.length + (i - 1))).testBit b = false := fun b hb => by
      cases hq : (2 ^ (N + l.length + (i - 1))).testBit b with
      | false => rfl
      | true => have := bit_iff.1 hq; omega
    have key := shift (e := e) (a' := (grA N l A i).act) (a2 := (renA (shN (N + l.length) (i - 1)) a2).act) (c1 := cur X i) (n1 := []) (R := R0 ||| 2 ^ (N + l.length + (i - 1))) (W := 0) (j := i - 1) (ro := none) h hN
      rfl (.inl ⟨rfl, rfl⟩) (fun o ho f hf => ?_) (fun o ho => ?_) (fun b hb => (hlow b hb).1) (fun k hk => ?_) (fun b hb hb2 => by rw [or_bit, hb2]; rfl) (fun k hk => ?_) (fun b hb => by simp) (fun k hk => ?_) ?_ ?_
    · refine ⟨R0 ||| 2 ^ (N + l.length + (i - 1)), 0, fun b hb => ⟨by simp, fun hb2 => ?_⟩, ?_⟩
      · rw [or_bit, hbit b hb, Bool.or_false] at hb2
        exact (hlow b hb).2 hb2
      · rw [List.append_nil] at key
        exact key
    · rcases List.mem_append.1 ho with k | k
      · exact keep_wo' (hl o k) f hf
      · obtain ⟨k1, rfl⟩ := cur_mem k
        exact keep_wo' (hX k1).1 f hf
    · obtain ⟨k1, rfl⟩ := cur_mem ho
      exact (hX k1).2
    · have hi : 0 < i := by
        cases i with
        | zero => simp [cur] at hk
        | succ i => omega
      have : k = 0 := by omega
      subst this
      refine ⟨fun hw => ?_, fun _ => rfl⟩
      rw [Nat.add_zero, hB hi] at hw; cases hw
    · have : k = 0 := by omega
      subst this
      rw [or_bit, Nat.add_zero, bit_self]; simp
    · have hi : 0 < i := by
        cases i with
        | zero => simp [cur] at hk
        | succ i => omega
      have : k = 0 := by omega
      subst this
      rw [Nat.add_zero, Nat.add_zero, hB hi]; simp
    · exact ren_wa_from hd (T := N + l.length + (cur X i).length) (fun b hb => ⟨hb, rfl⟩) (fun b hb => ⟨by omega, (if_pos hb).symm⟩) hok
    · rw [← ha]
      refine grow_wa hd1 (fun b hb => if_pos hb) (fun hr => ?_)
      rcases hk0 with c | ⟨c, c2, c3⟩
      · omega
      · subst c
        unfold kap
        rw [if_neg (by omega), if_pos (by rw [hcl.2 c2]; omega)]
  · rw [← ha]
    rcases hk0 with c | ⟨c, c2, c3⟩
    · have h0 := grow_okB (B := N + l.length) (k := k) (m := m) a1 (N + l.length) (.inl ⟨c, rfl⟩)
      refine okA_mono (by omega) h0
    · rw [c3, if_pos rfl, hcl.2 c2]
      exact grow_okB a1 _ (.inr ⟨c, rfl⟩)
theorem wrap_up {T : Tr} {i : Nat} {e : Exit} {a2 : MA} {keep : Bool} {R W : Nat} (hN : N = P.globals.size) (hl : ∀ o, o ∈ l → keepO (below (N + l.length)) o) (hX : 0 < i → keepO (below (N + l.length)) (X i) ∧ X i ≠ .hole ∧ roO (X i) = false) (hd : (A 0).defers = []) (hok : okA (N + l.length) (N + l.length) (A 0) (A 0).n = true)
    (h : Snd P none T (grA N l A 0).act (grS N l X 0) e (renA (shN (N + l.length) (i - 1)) a2).act (grS N l X i) R W) (hlow : lowB (N + l.length) Rl R W) (hok2 : okA (N + l.length) (N + l.length + (if keep then (cur X i).length else 0)) a2 a2.n = true) (hd2 : a2.defers = []) :
    Snd P none T (A 0).act (wS N l) e a2.act (wS N (l ++ if keep then cur X i else [])) Rl 0 := by
  have hcl := cur_len X i
  have e0 : grS N l X 0 = wS N (l ++ []) := by unfold grS; simp [cur]
  rw [e0] at h
  have hb0 : ∀ b, b < N + l.length → shN (N + l.length) 0 b = b := fun b hb => if_pos hb
  have hgS : ∀ h : 0 < i, (grS N l X i).get (N + l.length + (i - 1)) = X i ∧ N + l.length + (i - 1) < (grS N l X i).next := fun h => by
    obtain ⟨q, rfl⟩ : ∃ q, i = q + 1 := ⟨i - 1, by omega⟩
    unfold grS
    refine ⟨?_, by rw [wS_next]; simp [cur]; omega⟩
    rw [show N + l.length + (q + 1 - 1) = N + (l.length + q) from by omega, wS_get, getD_app, if_neg (by simp), show l.length + q - (l ++ List.replicate (q + 1 - 1) MObj.hole).length = 0 from by simp]
    rfl
  have key := shift (l := l) (c0 := []) (c1 := []) (n1 := if keep then cur X i else []) (e := e) (a' := (A 0).act) (a2 := a2.act) (R := Rl) (W := 0) (j := 0) (ro := if keep = true ∧ 0 < i then some (N + l.length + (i - 1)) else none) h hN rfl ?_
    (fun o ho f hf => by rw [List.append_nil] at ho; exact keep_wo' (hl o ho) f hf) (fun o ho => by simp at ho) (fun b hb => (hlow b hb).1) (fun k hk => by simp at hk) (fun b hb hb2 => (hlow b hb).2 hb2) (fun k hk => by simp at hk) (fun b hb => by simp) (fun k hk => by simp at hk) ?_ ?_
  · simpa using key
  · cases keep with
    | false => exact .inl ⟨rfl, by simp⟩
    | true =>
      rcases Nat.eq_zero_or_pos i with z | z
      · subst z; exact .inl ⟨rfl, by simp⟩
      · refine .inr ⟨X i, N + l.length + (i - 1), ?_, by rw [if_pos ⟨rfl, z⟩], by simp, (hgS z).2, fun f hf => ?_⟩
        · obtain ⟨q, rfl⟩ : ∃ q, i = q + 1 := ⟨i - 1, by omega⟩
          rfl
        · rw [(hgS z).1]
          exact keep_wo' (hX z).1 f hf
  · exact ren_wa_to hd (T := N + l.length) (fun b hb => ⟨by rw [hb0 b hb]; simpa using hb, by rw [hb0 b hb]; exact (hb0 b hb).symm⟩) (fun b hb => ⟨by simpa using hb, (if_pos hb).symm⟩) hok
  · refine ren_wa_from hd2 (T := _) (fun b hb => ?_) (fun b hb => if_pos hb) hok2
    unfold shN
    by_cases c : b < N + l.length
    · rw [if_pos c]; exact if_pos c
    · rw [if_neg c]
      cases keep with
      | false => simp at hb; omega
      | true =>
        rcases Nat.eq_zero_or_pos i with z | z
        · subst z; simp [cur] at hb; omega
        · have : b = N + l.length := by rw [if_pos rfl, hcl.2 z] at hb; omega
          subst this
          unfold kap
          rw [if_neg (by omega), if_neg (by simp), if_pos (by rw [if_pos ⟨rfl, z⟩])]
          simp
theorem grow_loop {e1 e2 : Exit} {A1 : Nat → MA} {A2 : MA} {good : Nat → Prop} (hg : ∀ i, good i ∨ ¬ good i) (hN : N = P.globals.size) (hl : ∀ o, o ∈ l → keepO (below (N + l.length)) o) (hX : ∀ i, 0 < i → keepO (below (N + l.length)) (X i) ∧ X i ≠ .hole ∧ roO (X i) = false)
    (hd : (A 0).defers = []) (hok : okA (N + l.length) (N + l.length) (A 0) (A 0).n = true) (hs : ∀ i, i < n → good i → Grow P N l c X A Rl i) (hb : ∀ i, i < n → ¬ good i → Last P N l c X A Rl i e1 (A1 i) false) (he : Last P N l c X A Rl n e2 A2 true) (h1 : e1 ≠ .normal) (h2 : e2 ≠ .normal) :
    ((∀ i, i < n → good i) ∧ SndC P none (.loop c) (A 0).act (wS N l) e2 A2.act (wS N (l ++ cur X n)) Rl 0) ∨ ∃ j, j < n ∧ (∀ i, i < j → good i) ∧ ¬ good j ∧ SndC P none (.loop c) (A 0).act (wS N l) e1 (A1 j).act (wS N l) Rl 0 := by
  have key : ∀ m i, i + m = n → (∀ k, k < i → good k) → (A i).defers = [] → okA (N + l.length) (N + l.length + (cur X i).length) (A i) (A i).n = true →
      ((∀ i, i < n → good i) ∧ (∃ R W, lowB (N + l.length) Rl R W ∧ Snd P none (LoopFrom P c) (grA N l A i).act (grS N l X i) e2 (renA (shN (N + l.length) (n - 1)) A2).act (grS N l X n) R W) ∧ okA (N + l.length) (N + l.length + (if true then (cur X n).length else 0)) A2 A2.n = true ∧ A2.defers = []) ∨
      ∃ j, j < n ∧ (∀ i, i < j → good i) ∧ ¬ good j ∧ (∃ R W, lowB (N + l.length) Rl R W ∧ Snd P none (LoopFrom P c) (grA N l A i).act (grS N l X i) e1 (renA (shN (N + l.length) (j - 1)) (A1 j)).act (grS N l X j) R W) ∧ okA (N + l.length) (N + l.length + (if false then (cur X j).length else 0)) (A1 j) (A1 j).n = true ∧ (A1 j).defers = [] := by
    intro m
    induction m with
    | zero =>
      intro i hi hk d0 o0
      have : i = n := by omega
      subst this
      obtain ⟨⟨R, W, k1, k2⟩, k3, k4⟩ := last_step hN hl (hX i) d0 o0 he
      exact .inl ⟨hk, ⟨R, W, k1, snd_from_stop h2 k2⟩, k3, k4⟩
    | succ m ih =>
      intro i hi hk d0 o0
      rcases hg i with g | g
      · have G := hs i (by omega) g
        have d1 : (A (i + 1)).defers = [] ∧ okA (N + l.length) (N + l.length + (cur X (i + 1)).length) (A (i + 1)) (A (i + 1)).n = true := by
          obtain ⟨a1, s1, r, m, R0, W0, _, _, _, _, _, _, _, ha⟩ := G
          rw [← ha]
          exact ⟨rfl, grow_okA _ _ _ _⟩
        obtain ⟨R, W, l1, S1⟩ := grow_step hN hl (hX i) d0 o0 G
        rcases ih (i + 1) (by omega) (fun k h => by
          rcases Nat.lt_or_ge k i with c | c
          · exact hk k c
          · have : k = i := by omega
            subst this; exact g) d1.1 d1.2 with ⟨k1, ⟨R2, W2, l2, S2⟩, k2⟩ | ⟨j, k1, k2, k3, ⟨R2, W2, l2, S2⟩, k4⟩
        · exact .inl ⟨k1, ⟨R ||| R2, W ||| W2, lowB_or l1 l2, snd_from_on S1 S2⟩, k2⟩
        · exact .inr ⟨j, k1, k2, k3, ⟨R ||| R2, W ||| W2, lowB_or l1 l2, snd_from_on S1 S2⟩, k4⟩
      · obtain ⟨⟨R, W, k1, k2⟩, k3, k4⟩ := last_step hN hl (hX i) d0 o0 (hb i (by omega) g)
        exact .inr ⟨i, by omega, hk, g, ⟨R, W, k1, snd_from_stop h1 k2⟩, k3, k4⟩
  rcases key n 0 (by omega) (fun k h => by omega) hd hok with ⟨k1, ⟨R, W, l1, S1⟩, k2, k3⟩ | ⟨j, k1, k2, k3, ⟨R, W, l1, S1⟩, k4, k5⟩
  · exact .inl ⟨k1, sndC_loop (wrap_up (keep := true) hN hl (hX n) hd hok S1 l1 k2 k3)⟩
  · have := sndC_loop (wrap_up (keep := false) hN hl (hX j) hd hok S1 l1 k4 k5)
    rw [if_neg (by simp), List.append_nil] at this
    exact .inr ⟨j, k1, k2, k3, this⟩
end

def seenG (B r m : Nat) (res : Option OutCS) : Option (Exit × MA × MObj × MObj × Nat × Nat × Orc) := match res with
  | some (e, a, s, R, W, q) => match nil? a.defers, Nat.ble (r + 1) s.next with
    | true, true => some (e, growA B r m a, s.get r, s.get B, R, W, q)
    | _, _ => none
  | none => none
def seenH (B r m : Nat) (res : Option OutCS) : Option (Exit × MA × Nat × Nat × Orc) := match res with
  | some (e, a, s, R, W, q) => match nil? a.defers with
    | true => some (e, growA B r m a, R, W, q)
    | false => none
  | none => none
def seenG0 (B r m : Nat) (res : Option OutCS) : Option (Exit × MA × MObj × Nat × Nat × Orc) := match res with
  | some (e, a, s, R, W, q) => match nil? a.defers, Nat.ble (r + 1) s.next with
    | true, true => some (e, growA B r m a, s.get r, R, W, q)
    | _, _ => none
  | none => none
theorem args_wa {f : Nm} {args : Array Value} {v v2 : Value} (h : WV f v v2) : WA f ⟨#[v], []⟩ ⟨#[v2], []⟩ := ⟨⟨rfl, fun i x u h1 h2 => by
    cases i with
    | zero => simp at h1 h2; subst h1 h2; exact h
    | succ i => simp at h1⟩, rfl, rfl⟩
theorem keep_wvs {f : Nm} {B : Nat} (hf : ∀ b, b < B → f b b) {args : Array Value} (h : args.toList.all (keepB (below B) 8) = true) : WVs f args args := ⟨rfl, fun i v u e1 e2 => by
  rw [e1] at e2
  cases e2
  rw [List.all_eq_true] at h
  exact keep_wv (fun b hb => hf b (Nat.le_of_ble_eq_true hb)) 8 (h _ (by rw [Array.mem_toList_iff]; exact Array.mem_of_getElem? e1))⟩
theorem SndF.tidy {f : FuncId} {args : Array Value} {v v2 : Value} {N R0 W0 r : Nat} {l : List MObj} {o2 : MObj} {s01 : St} (h : SndF P f args (wS N l) v s01 R0 W0) (hN : N = P.globals.size) (hr : N + l.length ≤ r) (hr2 : r < s01.next) (ho : ∀ f : Nm, WO f (s01.get r) o2)
    (hk : ∀ o, o ∈ l → keepO (below (N + l.length)) o) (hW0 : ∀ b, b < N + l.length → W0.testBit b = false) (ha : args.toList.all (keepB (below (N + l.length)) 8) = true) (hv : ∀ f : Nm, (∀ b, b < N + l.length → f b b) → f r (N + l.length) → WV f v v2) :
    SndF P f args (wS N l) v2 (wS N (l ++ [o2])) R0 0 := by
  have h' := sndF_snd h
  rw [show wS N l = wS N (l ++ []) from by rw [List.append_nil]] at h'
  have hs : ∀ b, b < N + l.length → shN (N + l.length) 0 b = b := fun b hb => if_pos hb
  have key := shift (l := l) (c0 := []) (c1 := []) (n1 := [o2]) (a' := ⟨args, []⟩) (a2 := ⟨#[v2], []⟩) (R := R0) (W := 0) (j := 0) (ro := some r) h' hN rfl (.inr ⟨o2, r, rfl, rfl, by simpa using hr, hr2, fun f _ => ho f⟩)
    (fun o ho f hf => by rw [List.append_nil] at ho; exact keep_wo' (hk o ho) f hf) (fun o ho => by simp at ho) hW0 (fun k hk => by simp at hk) (fun b hb hb2 => hb2) (fun k hk => by simp at hk) (fun b hb => by simp) (fun k hk => by simp at hk)
    ⟨keep_wvs (fun b hb => ⟨by simpa using hb, (hs b hb).symm⟩) ha, rfl, rfl⟩ (args_wa (args := args) (hv _ (fun b hb => if_pos hb) (by unfold kap; rw [if_neg (by omega), if_neg (by simp; omega), if_pos rfl]; simp)))
  exact snd_sndF (by simpa using key)
theorem SndF.tidy0 {f : FuncId} {args : Array Value} {v : Value} {N R0 W0 : Nat} {l : List MObj} {s01 : St} (h : SndF P f args (wS N l) v s01 R0 W0) (hN : N = P.globals.size)
    (hk : ∀ o, o ∈ l → keepO (below (N + l.length)) o) (hW0 : ∀ b, b < N + l.length → W0.testBit b = false) (ha : args.toList.all (keepB (below (N + l.length)) 8) = true) (hv : ground 8 v = true) :
    SndF P f args (wS N l) v (wS N l) R0 0 := by
  have h' := sndF_snd h
  rw [show wS N l = wS N (l ++ []) from by rw [List.append_nil]] at h'
  have hs : ∀ b, b < N + l.length → shN (N + l.length) 0 b = b := fun b hb => if_pos hb
  have key := shift (l := l) (c0 := []) (c1 := []) (n1 := []) (a' := ⟨args, []⟩) (a2 := ⟨#[v], []⟩) (R := R0) (W := 0) (j := 0) (ro := none) h' hN rfl (.inl ⟨rfl, rfl⟩)
    (fun o ho f hf => by rw [List.append_nil] at ho; exact keep_wo' (hk o ho) f hf) (fun o ho => by simp at ho) hW0 (fun k hk => by simp at hk) (fun b hb hb2 => hb2) (fun k hk => by simp at hk) (fun b hb => by simp) (fun k hk => by simp at hk)
    ⟨keep_wvs (fun b hb => ⟨by simpa using hb, (hs b hb).symm⟩) ha, rfl, rfl⟩ (args_wa (args := args) (ground_wv hv))
  exact snd_sndF (by simpa using key)
end Mini
end Go.Proofs.YtbkpnhbcihcgaaaGreatDoor
end
section
namespace Go.Proofs.YtbkpnhbcihcgaaaGreatDoor
set_option linter.all false
namespace Mini
variable {P : Program} {rd : Option Nat} {s s1 s2 : St} {R W W1 W2 B B1 B2 : Nat}

def idxN : List Nat → Nat → Nat → Option Nat
  | [], _, _ => none
  | m :: ms, b, k => match Nat.beq m b with
    | true => some k
    | false => idxN ms b (k + 1)
def invN (B : Nat) (ms : List Nat) (b : Nat) : Option Nat := match Nat.ble (b + 1) B with
  | true => some b
  | false => idxN ms b B
theorem idxN_at : ∀ {ms : List Nat} {b k x : Nat}, idxN ms b k = some x → ∃ j, x = k + j ∧ ms[j]? = some b
  | [], b, k, x, h => by cases h
  | m :: ms, b, k, x, h => by
    unfold idxN at h
    split at h
    · rename_i he
      cases h
      exact ⟨0, rfl, by simp [Nat.eq_of_beq_eq_true he]⟩
    · obtain ⟨j, h1, h2⟩ := idxN_at h
      exact ⟨j + 1, by omega, by simpa using h2⟩
theorem ptr_wv {f : Nm} {b b' o : Nat} (h : f b b') : WV f (.pointer (some ⟨b, o, none⟩)) (.pointer (some ⟨b', o, none⟩)) := fun ρ ρ' hr v' hv => by
  cases hv with
  | ptr _ _ L h1 => exact .ptr b' o L (hr b b' L h h1)
theorem map_wv {f : Nm} {b b' : Nat} (h : f b b') : WV f (.map (some b)) (.map (some b')) := fun ρ ρ' hr v' hv => by
  cases hv with
  | map _ L h1 => exact .map b' L (hr b b' L h h1)
def tellV (f : Nat → Option Nat) : Nat → Value → Value
  | 0, v => match v with
    | .slice (some ⟨b, o, none⟩) n c => match f b with
      | some b' => .slice (some ⟨b', o, none⟩) n c
      | none => .chan none
    | .pointer (some ⟨b, o, none⟩) => match f b with
      | some b' => .pointer (some ⟨b', o, none⟩)
      | none => .chan none
    | .map (some b) => match f b with
      | some b' => .map (some b')
      | none => .chan none
    | v => match ground 8 v with
      | true => v
      | false => .chan none
  | k + 1, v => match v with
    | .slice (some ⟨b, o, none⟩) n c => match f b with
      | some b' => .slice (some ⟨b', o, none⟩) n c
      | none => .chan none
    | .pointer (some ⟨b, o, none⟩) => match f b with
      | some b' => .pointer (some ⟨b', o, none⟩)
      | none => .chan none
    | .map (some b) => match f b with
      | some b' => .map (some b')
      | none => .chan none
    | .agg cs => .agg ⟨cs.toList.map (tellV f k)⟩
    | .tuple cs => .tuple ⟨cs.toList.map (tellV f k)⟩
    | .func fn azz bs => match plainFn fn with
      | true => .func fn ⟨azz.toList.map (tellV f k)⟩ ⟨bs.toList.map (tellV f k)⟩
      | false => .chan none
    | v => match ground 8 v with
      | true => v
      | false => .chan none
def NmOf (f : Nat → Option Nat) : Nm := fun b b' => f b = some b'
theorem map_vrs {f : Nm} {g : Value → Value} (hg : ∀ v, WV f v (g v)) {ρ ρ' : Ren} (hr : RenOk f ρ ρ') {cs cs' : Array Value} (h1 : cs.size = cs'.size) (h2 : ∀ (i : Nat) (v v' : Value), cs[i]? = some v → cs'[i]? = some v' → VR ρ v v') :
    (⟨cs.toList.map g⟩ : Array Value).size = cs'.size ∧ ∀ (i : Nat) (v v' : Value), (⟨cs.toList.map g⟩ : Array Value)[i]? = some v → cs'[i]? = some v' → VR ρ' v v' := by
  refine ⟨by simpa using h1, fun i v v' e1 e2 => ?_⟩
  have e3 : (cs.toList.map g)[i]? = some v := by simpa using e1
  rw [List.getElem?_map, Option.map_eq_some_iff] at e3
  obtain ⟨u, k1, rfl⟩ := e3
  exact hg u ρ ρ' hr v' (h2 i u v' (by simpa using k1) e2)
theorem tell_wv {f : Nat → Option Nat} : ∀ (k : Nat) (v : Value), WV (NmOf f) v (tellV f k v)
  | 0, v => by
    unfold tellV
    split
    · split
      · rename_i h; exact slice_wv' h
      · exact junk_wv _ _
    · split
      · rename_i h; exact ptr_wv h
      · exact junk_wv _ _
    · split
      · rename_i h; exact map_wv h
      · exact junk_wv _ _
    · split
      · rename_i h; exact ground_wv h
      · exact junk_wv _ _
  | k + 1, v => by
    unfold tellV
    split
    · split
      · rename_i h; exact slice_wv' h
      · exact junk_wv _ _
    · split
      · rename_i h; exact ptr_wv h
      · exact junk_wv _ _
    · split
      · rename_i h; exact map_wv h
      · exact junk_wv _ _
    · intro ρ ρ' hr v' hv
      cases hv with
      | agg cs cs' h1 h2 =>
        obtain ⟨k1, k2⟩ := map_vrs (tell_wv k) hr h1 h2
        exact .agg _ _ k1 k2
    · intro ρ ρ' hr v' hv
      cases hv with
      | tuple cs cs' h1 h2 =>
        obtain ⟨k1, k2⟩ := map_vrs (tell_wv k) hr h1 h2
        exact .tuple _ _ k1 k2
    · split
      · rename_i hp
        intro ρ ρ' hr v' hv
        cases hv with
        | func fn azz bs as' bs' hf h1 h2 h3 h4 =>
          obtain ⟨k1, k2⟩ := map_vrs (tell_wv k) hr h1 h3
          obtain ⟨k3, k4⟩ := map_vrs (tell_wv k) hr h2 h4
          exact .func _ _ _ _ _ hf k1 k3 k2 k4
        | yield l L h => simp [plainFn] at hp
      · exact junk_wv _ _
    · split
      · rename_i h; exact ground_wv h
      · exact junk_wv _ _
def tellO (f : Nat → Option Nat) : MObj → MObj
  | .cells c e opn sz ro => .cells (c.map (tellV f 8)) e opn sz ro
  | .rows n k g e opn sz ro => .rows n k (fun i j => tellV f 8 (g i j)) e opn sz ro
  | _ => .hole
theorem cells_wo {f : Nm} {g : Value → Value} (hg : ∀ v, WV f v (g v)) {c : List Value} {e : TypeId} {opn : Bool} {sz : Nat} {ro : Bool} {ρ ρ' : Ren} (hr : RenOk f ρ ρ') {L : Loc} {o' : Obj} (h : OR ρ L (.cells c e opn sz ro) o') : OR ρ' L (.cells (c.map g) e opn sz ro) o' := by
  cases o' <;> simp only [OR] at h ⊢
  obtain ⟨k1, k2, k3, k4, k5, k6, k7, k8⟩ := h
  refine ⟨k1, k2, k3, k4, by simpa using k5, fun i v hi => ?_, k7, fun hq => by simpa using k8 hq⟩
  rw [List.getElem?_map, Option.map_eq_some_iff] at hi
  obtain ⟨u, h1, rfl⟩ := hi
  obtain ⟨v', a, b⟩ := k6 i u h1
  exact ⟨v', a, hg u ρ ρ' hr v' b⟩
theorem rowsL_map (n k : Nat) (g : Nat → Nat → Value) (t : Value → Value) : rowsL n k (fun i j => t (g i j)) = (rowsL n k g).map t := by simp [rowsL, Function.comp_def]
theorem tell_wo {f : Nat → Option Nat} (o : MObj) : WO (NmOf f) o (tellO f o) := by
  cases o with
  | cells c e opn sz ro => exact ⟨fun _ h => (by cases h), fun _ h => h, fun ρ ρ' hr L o' h => cells_wo (tell_wv 8) hr h⟩
  | rows n k g e opn sz ro =>
    refine ⟨fun _ h => (by cases h), fun _ h => h, fun ρ ρ' hr L o' h => ?_⟩
    have h1 : OR ρ L (.cells (rowsL n k g) e opn sz ro) o' := by cases o' <;> exact h
    have h2 := cells_wo (tell_wv (f := f) 8) hr h1
    rw [← rowsL_map] at h2
    cases o' <;> exact h2
  | _ => exact ⟨fun h => absurd rfl h, fun h => absurd rfl h, fun _ _ _ _ _ _ => trivial⟩

def tellL (f : Nat → Option Nat) (m : Nat) (a : MA) : Nat → Nat → List Value
  | 0, _ => []
  | n + 1, t => (match bitOf m t with
    | true => tellV f 8 (a.get t)
    | false => .chan none) :: tellL f m a n (t + 1)
theorem tellL_len (f : Nat → Option Nat) (m : Nat) (a : MA) : ∀ n t, (tellL f m a n t).length = n
  | 0, _ => rfl
  | n + 1, t => by simp [tellL, tellL_len f m a n (t + 1)]
theorem tellL_at (f : Nat → Option Nat) (m : Nat) (a : MA) : ∀ n t i, i < n → (tellL f m a n t).getD i undef = match bitOf m (t + i) with
    | true => tellV f 8 (a.get (t + i))
    | false => .chan none
  | 0, t, i, h => by omega
  | n + 1, t, 0, h => by simp [tellL]
  | n + 1, t, i + 1, h => by
    rw [tellL, List.getD_cons_succ, tellL_at f m a n (t + 1) i (by omega), show t + 1 + i = t + (i + 1) from by omega]
def tellA (f : Nat → Option Nat) (m : Nat) (a : MA) : MA := MA.ofL a.n (tellL f m a a.n 0) []
theorem tell_wa {f : Nat → Option Nat} {m : Nat} {a : MA} (hd : a.defers = []) : WA (NmOf f) a.act (tellA f m a).act :=
  wa_of rfl hd rfl fun t ht => by
    unfold tellA
    rw [MA.ofL_get _ _ _ (by rw [tellL_len]; exact Nat.le_refl _) t ht, tellL_at f m a a.n 0 t ht, Nat.zero_add]
    split
    · exact tell_wv 8 _
    · exact junk_wv _ _
def tellS (N k : Nat) (ms : List Nat) (s : St) : List MObj := (getL s N k).map (tellO (invN (N + k) ms)) ++ ms.map fun b => tellO (invN (N + k) ms) (s.get b)
theorem getL_len (s : St) : ∀ (k b : Nat), (getL s b k).length = k
  | 0, b => rfl
  | k + 1, b => by simp [getL, getL_len s k (b + 1)]
def srcN (B : Nat) (ms : List Nat) (b : Nat) : Nat := if b < B then b else ms.getD (b - B) 0
theorem tellS_get {N k : Nat} {ms : List Nat} {b : Nat} (hb : N ≤ b) (hlt : b < N + k + ms.length) : (wS N (tellS N k ms s)).get b = tellO (invN (N + k) ms) (s.get (srcN (N + k) ms b)) := by
  have e : b = N + (b - N) := by omega
  rw [e, wS_get, ← e]
  unfold tellS srcN
  rw [getD_app]
  simp only [List.length_map, getL_len]
  by_cases c : b < N + k
  · rw [if_pos (by omega), if_pos c]
    have := getL_at s k N (b - N) (by omega)
    rw [← e] at this
    rw [this]
    simp [List.getD, List.getElem?_eq_getElem (show b - N < (getL s N k).length by rw [getL_len]; omega)]
  · rw [if_neg (by omega), if_neg c, show b - N - k = b - (N + k) from by omega]
    simp [List.getD, List.getElem?_eq_getElem (show b - (N + k) < ms.length by omega)]
theorem tellS_next {N k : Nat} {ms : List Nat} : (wS N (tellS N k ms s)).next = N + k + ms.length := by
  rw [wS_next]
  unfold tellS
  simp [getL_len]
  omega
def msOk (B B1 W : Nat) : List Nat → Bool
  | [] => true
  | b :: ms => Nat.ble B b && (Nat.ble B1 b || bitOf W b) && !(ms.any fun x => Nat.beq x b) && msOk B B1 W ms
theorem bitOf_test {W b : Nat} : bitOf W b = W.testBit b := by
  unfold bitOf
  rw [Nat.testBit_eq_decide_div_mod_eq]
  show Nat.beq ((W >>> b) &&& 1) 1 = _
  rw [Nat.and_one_is_mod, Nat.shiftRight_eq_div_pow]
  cases h : Nat.beq (W / 2 ^ b % 2) 1 with
  | true => exact (decide_eq_true (Nat.eq_of_beq_eq_true h)).symm
  | false => exact (decide_eq_false (Nat.ne_of_beq_eq_false h)).symm
theorem msOk_at {B B1 W : Nat} : ∀ {ms : List Nat}, msOk B B1 W ms = true → ms.Nodup ∧ ∀ b, b ∈ ms → B ≤ b ∧ (B1 ≤ b ∨ W.testBit b = true)
  | [], _ => ⟨List.nodup_nil, fun b hb => by cases hb⟩
  | x :: ms, h => by
    simp only [msOk, Bool.and_eq_true, Bool.or_eq_true, Bool.not_eq_true'] at h
    obtain ⟨⟨⟨h1, h2⟩, h3⟩, h4⟩ := h
    obtain ⟨g1, g2⟩ := msOk_at h4
    refine ⟨List.nodup_cons.2 ⟨fun hm => ?_, g1⟩, fun b hb => ?_⟩
    · rw [List.any_eq_false] at h3
      exact h3 x hm (Nat.beq_refl x)
    · rcases List.mem_cons.1 hb with rfl | hb
      · refine ⟨Nat.le_of_ble_eq_true h1, h2.imp Nat.le_of_ble_eq_true fun k => ?_⟩
        rwa [bitOf_test] at k
      · exact g2 b hb
theorem Sim.tell {a : Act} {a1 : MA} {N k m : Nat} {ms : List Nat} {ρ ρ2 : Ren} {ro : Option Nat} {a' a2' : Act} {w w2 : World} (hs : Sim P none ρ a s ro a' w) (l2 : Link ρ s B1 W w ρ2 w2) (s2' : Sim P none ρ2 a1.act s1 ro a2' w2) (hN : N = P.globals.size) (hd : a1.defers = []) (hk : N + k ≤ B1) (hms : msOk (N + k) B1 W ms = true) :
    ∃ ρ3, RenOk (NmOf (invN (N + k) ms)) ρ2 ρ3 ∧ Link ρ s (N + k) W w ρ3 w2 ∧ Sim P none ρ3 (tellA (invN (N + k) ms) m a1).act (wS N (tellS N k ms s1)) ro a2' w2 := by
  obtain ⟨hnd, hm⟩ := msOk_at hms
  let ρ3 : Ren := fun b => if b < N + k + ms.length then ρ2 (srcN (N + k) ms b) else none
  have hρ3 : ∀ b, b < N + k + ms.length → ρ3 b = ρ2 (srcN (N + k) ms b) := fun b hb => if_pos hb
  have hsrc : ∀ b, b < N + k → srcN (N + k) ms b = b := fun b hb => if_pos hb
  have hsrc2 : ∀ b, (h1 : N + k ≤ b) → (hb : b < N + k + ms.length) → srcN (N + k) ms b = ms[b - (N + k)]'(by omega) := fun b h1 hb => by
    unfold srcN
    rw [if_neg (by omega)]
    simp [List.getD, List.getElem?_eq_getElem (show b - (N + k) < ms.length by omega)]
  have hf : RenOk (NmOf (invN (N + k) ms)) ρ2 ρ3 := fun b b' L hb hL => by
    have hb : invN (N + k) ms b = some b' := hb
    unfold invN at hb
    split at hb
    · rename_i hle
      cases hb
      have := Nat.le_of_ble_eq_true hle
      rw [hρ3 b (by omega), hsrc b (by omega)]; exact hL
    · obtain ⟨j, rfl, h2⟩ := idxN_at hb
      have hj : j < ms.length := (List.getElem?_eq_some_iff.1 h2).1
      rw [hρ3 _ (by omega), hsrc2 _ (by omega) (by omega)]
      have : ms[N + k + j - (N + k)]'(by omega) = b := by
        have := (List.getElem?_eq_some_iff.1 h2).2
        simpa [show N + k + j - (N + k) = j from by omega] using this
      rw [this]; exact hL
  have hinj : ∀ b b', b < N + k + ms.length → b' < N + k + ms.length → srcN (N + k) ms b = srcN (N + k) ms b' → b = b' := fun b b' hb hb' he => by
    by_cases c : b < N + k
    · rw [hsrc b c] at he
      by_cases c' : b' < N + k
      · rw [hsrc b' c'] at he; exact he
      · rw [hsrc2 b' (by omega) hb'] at he
        have := (hm _ (List.getElem_mem (show b' - (N + k) < ms.length by omega))).1
        omega
    · rw [hsrc2 b (by omega) hb] at he
      by_cases c' : b' < N + k
      · rw [hsrc b' c'] at he
        have := (hm _ (List.getElem_mem (show b - (N + k) < ms.length by omega))).1
        omega
      · rw [hsrc2 b' (by omega) hb'] at he
        have := (List.getElem_inj (i := b - (N + k)) (j := b' - (N + k)) hnd).1 he
        omega
  have hget : ∀ b, (wS N (tellS N k ms s1)).get b ≠ .hole → N ≤ b ∧ b < N + k + ms.length := fun b hb => by
    constructor
    · rcases Nat.lt_or_ge b N with c | c
      · exact absurd (wS_low N _ c) hb
      · exact c
    · have := St.lt_of_live hb
      rwa [tellS_next] at this
  have hreal : ∀ b, (hb : (wS N (tellS N k ms s1)).get b ≠ .hole) → s1.get (srcN (N + k) ms b) ≠ .hole ∧ (roO (s1.get (srcN (N + k) ms b)) = true → roO ((wS N (tellS N k ms s1)).get b) = true) := fun b hb => by
    obtain ⟨h1, h2⟩ := hget b hb
    rw [tellS_get h1 h2] at hb ⊢
    have wo := tell_wo (f := invN (N + k) ms) (s1.get (srcN (N + k) ms b))
    exact ⟨wo.1 hb, wo.2.1 hb⟩
  refine ⟨ρ3, hf, ⟨fun b hb => ?_, fun b L hb hL => ?_, l2.size, l2.frame, l2.os, l2.tape, l2.output⟩, ⟨fun g hg => ?_, ?_, fun b hb => ?_, ⟨fun b hb => ?_, fun b b' L L' h1 h2 hq e1 e2 he => ?_⟩, (tell_wa hd).ar hf s2'.ar⟩⟩
  · rw [hρ3 b (by omega), hsrc b hb]
    exact l2.keep b (by omega)
  · have hlt : b < N + k + ms.length := by
      rcases Nat.lt_or_ge b (N + k + ms.length) with c | c
      · exact c
      · have : ρ3 b = none := if_neg (by omega)
        rw [this] at hL; cases hL
    rw [hρ3 b hlt, hsrc2 b hb hlt] at hL
    have hin := hm _ (List.getElem_mem (show b - (N + k) < ms.length by omega))
    rcases Nat.lt_or_ge (ms[b - (N + k)]'(by omega)) B1 with c | c
    · rw [l2.keep _ c] at hL
      have hw : W.testBit (ms[b - (N + k)]'(by omega)) = true := hin.2.elim (fun k => by omega) id
      rcases Nat.lt_or_ge (ms[b - (N + k)]'(by omega)) s.next with c2 | c2
      · exact .inr ⟨_, L, hw, c2, hL, rfl⟩
      · rw [hs.dom _ c2] at hL; cases hL
    · exact l2.fresh _ L c hL
  · obtain ⟨L, h1, h2⟩ := s2'.glob g hg
    exact ⟨L, by rw [hρ3 g (by omega), hsrc g (by omega)]; exact h1, h2⟩
  · have := hs.round
    cases ro with
    | none => trivial
    | some x => exact this.elim
  · rw [tellS_next] at hb
    exact if_neg (by omega)
  · obtain ⟨h1, h2⟩ := hget b hb
    obtain ⟨L, o', q1, q2, q3⟩ := s2'.rel.1 _ (hreal b hb).1
    refine ⟨L, o', by rw [hρ3 b h2]; exact q1, q2, ?_⟩
    rw [tellS_get h1 h2]
    exact (tell_wo (s1.get (srcN (N + k) ms b))).2.2 ρ2 ρ3 hf L o' q3
  · obtain ⟨_, l1⟩ := hget b h1
    obtain ⟨_, l2'⟩ := hget b' h2
    rw [hρ3 b l1] at e1
    rw [hρ3 b' l2'] at e2
    refine hinj b b' l1 l2' (s2'.rel.2 _ _ L L' (hreal b h1).1 (hreal b' h2).1 ?_ e1 e2 he)
    cases hA : roO (s1.get (srcN (N + k) ms b)) && roO (s1.get (srcN (N + k) ms b')) with
    | false => rfl
    | true =>
      rw [Bool.and_eq_true] at hA
      rw [(hreal b h1).2 hA.1, (hreal b' h2).2 hA.2] at hq
      cases hq
theorem KT.tell {T : Tr} {a : Act} {a1 : MA} {e : Exit} {N k m : Nat} {ms : List Nat} (h : KT P none T a s e a1.act s1 B1 W) (hN : N = P.globals.size) (hd : a1.defers = []) (hk : N + k ≤ B1) (hms : msOk (N + k) B1 W ms = true) :
    KT P none T a s e (tellA (invN (N + k) ms) m a1).act (wS N (tellS N k ms s1)) (N + k) W := fun n ro ρ a' w Q hs hQ => by
  refine h n ro ρ a' w Q hs fun ρ2 a2' w2 l2 s2' => ?_
  obtain ⟨ρ3, _, l3, s3'⟩ := hs.tell (m := m) l2 s2' hN hd hk hms
  exact hQ ρ3 a2' w2 l3 s3'
end Mini
end Go.Proofs.YtbkpnhbcihcgaaaGreatDoor
end
section
namespace Go.Proofs.YtbkpnhbcihcgaaaGreatDoor
set_option linter.all false
namespace Mini
variable {P : Program} {rd : Option Nat} {s s1 s2 : St} {R W W1 W2 B B1 B2 : Nat}

def mnN (a b : Nat) : Nat := match Nat.ble a b with
  | true => a
  | false => b
theorem mnN_eq (a b : Nat) : mnN a b = min a b := by
  unfold mnN
  split
  · rename_i h; have := Nat.le_of_ble_eq_true h; omega
  · rename_i h; have := ble_no h; omega
abbrev OutK := Exit × MA × St × Nat × Nat × Orc
abbrev EvK := Bool → Code → MA → St → Orc → Option OutK
def KOk (P : Program) (rd : Option Nat) (T : Tr) (a : MA) (s : St) (q : Orc) (r : OutK) : Prop := (r.2.2.2.2.2.ob → q.ob) ∧ (r.2.2.2.2.2.ob → KT P rd T a.act s r.1 r.2.1.act r.2.2.1 r.2.2.2.1 r.2.2.2.2.1)
def EvOkK (P : Program) (ev : EvK) : Prop := ∀ flag c a s q r, ev flag c a s q = some r → KOk P none (TF P flag c) a s q r
theorem kt_at {T : Tr} {m N : Nat} {a A0 : MA} {a1 : Act} {e : Exit} {L0 : List MObj} (h : KT P rd T A0.act (wS N L0) e a1 s1 B W) (hl : LoopAt m a A0 N s L0) : KT P rd T a.act s e a1 s1 B W := by
  obtain ⟨h1, h2, h3⟩ := hl
  have hn : s.next = (wS N L0).next := by rw [wS_next]; exact h2
  have hg : ∀ b, s.get b = (wS N L0).get b := fun b => by
    rcases Nat.lt_or_ge b (N + L0.length) with c | c
    · have e1 := getL_at s (N + L0.length) 0 b c
      rw [Nat.zero_add, h3] at e1
      rw [e1]
      simp only [List.getD_eq_getElem?_getD]
      rcases Nat.lt_or_ge b N with c2 | c2
      · rw [wS_low _ _ c2, List.getElem?_append_left (by simpa using c2)]
        simp [c2]
      · rw [List.getElem?_append_right (by simpa using c2)]
        have := wS_get N L0 (b - N)
        rw [show N + (b - N) = b from by omega] at this
        rw [this, List.getD_eq_getElem?_getD]
        simp
    · rw [St.get_ge (by rw [h2]; exact c), St.get_ge (by rw [wS_next]; exact c)]
  intro n ro ρ a' w Q hs hQ
  refine h n ro ρ a' w Q ⟨hs.glob, hs.round, fun b hb => hs.dom b (by rw [hn]; exact hb), ?_, (less_mask m a).ar hs.ar |> (h1 ▸ ·)⟩ fun ρ2 a2' w2 l2 s2' => hQ ρ2 a2' w2 ⟨l2.keep, fun b L hb hL => (l2.fresh b L hb hL).imp id fun ⟨b0, L0, k1, k2, k3, k4⟩ => ⟨b0, L0, k1, by rw [hn]; exact k2, k3, k4⟩, l2.size, fun x hx hf => l2.frame x hx fun b L hb hlt hL => hf b L hb (by rw [hn]; exact hlt) hL, l2.os, l2.tape, l2.output⟩ s2'
  have : (wS N L0).get = s.get := funext fun b => (hg b).symm
  rw [this]; exact hs.rel

def evStepK (P : Program) (X : CallS) (n : Nat) (ev : EvK) : EvK := fun flag c a s q =>
  match flag with
  | true => match ev false c a s q with
    | some (e, a1, s1, B1, W1, q1) => match isNormal e with
      | true => match ev true c a1 s1 q1 with
        | some (e2, a2, s2, B2, W2, q2) => some (e2, a2, s2, mnN B1 B2, W1 ||| (W2 % 2 ^ B1), q2)
        | none => none
      | false => some (e, a1, s1, B1, W1, q1)
    | none => none
  | false => match c with
    | .skip => some (.normal, a, s, s.next, 0, q)
    | .label _ => some (.normal, a, s, s.next, 0, q)
    | .exit l => some (.exit l, a, s, s.next, 0, q)
    | .ret => some (.ret, a, s, s.next, 0, q)
    | .region _ ops draw => match evRegionS P ⟨evFnS P X (evCRS P X n none), evYS (evCRS P X n)⟩ ops draw a s q with
      | some (e, a1, s1, _, W1, q1) => some (e, a1, s1, s.next, W1, q1)
      | none => none
    | .seq x y => match ev false x a s q with
      | some (e, a1, s1, B1, W1, q1) => match isNormal e with
        | true => match ev false y a1 s1 q1 with
          | some (e2, a2, s2, B2, W2, q2) => some (e2, a2, s2, mnN B1 B2, W1 ||| (W2 % 2 ^ B1), q2)
          | none => none
        | false => some (e, a1, s1, B1, W1, q1)
      | none => none
    | .cond x t f => match okOp P x with
      | true => match a.eval x with
        | .bool b => match q.rest with
          | .n d :: rest => match (d == 1) with
            | true => ev false t a s ⟨rest, q.ob ∧ b = true⟩
            | false => ev false f a s ⟨rest, q.ob ∧ b = false⟩
          | _ => none
        | _ => none
      | false => none
    | .block id x => match ev false x a s q with
      | some (e, a1, s1, B1, W1, q1) => some (outOf id e, a1, s1, B1, W1, q1)
      | none => none
    | .loop x => match q.rest with
      | .lp m A0 N L0 e a1 L1 B1 W1 :: rest => some (e, a1, wS N L1, B1, W1, ⟨rest, q.ob ∧ ((maskA m a = A0 ∧ s.next = N + L0.length ∧ getL s 0 (N + L0.length) = List.replicate N .hole ++ L0) ∧ KC P none (.loop x) A0.act (wS N L0) e a1.act (wS N L1) B1 W1)⟩)
      | _ => ev true x a s q
    | .scope x => match ev false x a s q with
      | some (e, a1, s1, B1, W1, q1) => match isGoto e with
        | false => some (e, a1, s1, B1, W1, q1)
        | true => none
      | none => none
    | .rangeFunc g ps azz b => match evRangeS P (evFnS P X (evCRS P X n none)) none g ps azz b a s q with
      | some (e, a1, s1, _, W1, q1) => some (e, a1, s1, s.next, W1, q1)
      | none => none
    | _ => none
theorem evStepK_ok {X : CallS} {ev : EvK} {n : Nat} (hm : P.follows .mixedOrders = true) (hX : FOkS P X) (h : EvOkK P ev) : EvOkK P (evStepK P X n ev) := fun flag c a s q r he => by
  unfold evStepK at he
  split at he
  · split at he
    · rename_i h1
      obtain ⟨k1, g1⟩ := h false _ _ _ _ _ h1
      split at he
      · rename_i hn
        cases isNormal_iff hn
        split at he
        · rename_i h2
          cases he
          obtain ⟨k2, g2⟩ := h true _ _ _ _ _ h2
          exact ⟨fun hb => k1 (k2 hb), fun hb => by have := k_from_on (g1 (k2 hb)) (g2 hb); rw [← mnN_eq] at this; exact this⟩
        · cases he
      · rename_i hn
        cases he
        exact ⟨k1, fun hb => k_from_stop (isNormal_no hn) (g1 hb)⟩
    · cases he
  · split at he
    · cases he; exact ⟨id, fun _ => KT.of_snd sndC_skip⟩
    · cases he; exact ⟨id, fun _ => KT.of_snd sndC_label⟩
    · cases he; exact ⟨id, fun _ => KT.of_snd sndC_exit⟩
    · cases he; exact ⟨id, fun _ => KT.of_snd sndC_ret⟩
    · split at he
      · rename_i hr
        cases he
        obtain ⟨k1, k2⟩ := evRegionS_ok (rd := none) (F := ⟨evFnS P X (evCRS P X n none), evYS (evCRS P X n)⟩) hm ⟨evFnS_ok hX (evCRS_ok hm hX n none), evYS_ok (evCRS_ok hm hX n)⟩ hr
        exact ⟨k1, fun hq => KT.of_snd (k2 hq)⟩
      · cases he
    · split at he
      · rename_i h1
        obtain ⟨k1, g1⟩ := h false _ _ _ _ _ h1
        split at he
        · rename_i hn
          cases isNormal_iff hn
          split at he
          · rename_i h2
            cases he
            obtain ⟨k2, g2⟩ := h false _ _ _ _ _ h2
            exact ⟨fun hb => k1 (k2 hb), fun hb => by have := kC_seq (g1 (k2 hb)) (g2 hb); rw [← mnN_eq] at this; exact this⟩
          · cases he
        · rename_i hn
          cases he
          exact ⟨k1, fun hb => kC_seq_stop (isNormal_no hn) (g1 hb)⟩
      · cases he
    · split at he
      · rename_i hx
        split at he
        · rename_i b hb
          split at he
          · split at he
            · obtain ⟨k2, g2⟩ := h false _ _ _ _ _ he
              exact ⟨fun hq => (k2 hq).1, fun hq => kC_cond (t := true) hx (by rw [MA.eval_act, hb, (k2 hq).2]) (g2 hq)⟩
            · obtain ⟨k2, g2⟩ := h false _ _ _ _ _ he
              exact ⟨fun hq => (k2 hq).1, fun hq => kC_cond (t := false) hx (by rw [MA.eval_act, hb, (k2 hq).2]) (g2 hq)⟩
          · cases he
        · cases he
      · cases he
    · split at he
      · rename_i h1
        cases he
        obtain ⟨k1, g1⟩ := h false _ _ _ _ _ h1
        exact ⟨k1, fun hq => kC_block (g1 hq)⟩
      · cases he
    · split at he
      · cases he
        exact ⟨fun hq => hq.1, fun hq => kt_at hq.2.2 hq.2.1⟩
      · obtain ⟨k1, g1⟩ := h true _ _ _ _ _ he
        exact ⟨k1, fun hq => kC_loop (g1 hq)⟩
    · split at he
      · rename_i h1
        split at he
        · rename_i hg
          cases he
          obtain ⟨k1, g1⟩ := h false _ _ _ _ _ h1
          exact ⟨k1, fun hq => kC_scope hg (g1 hq)⟩
        · cases he
      · cases he
    · split at he
      · rename_i hr
        cases he
        obtain ⟨k1, k2⟩ := evRangeS_ok (evFnS_ok hX (evCRS_ok hm hX n none)) hr
        exact ⟨k1, fun hq => KT.of_snd (k2 hq)⟩
      · cases he
    · cases he
def evK (P : Program) (X : CallS) : Nat → EvK
  | 0 => fun _ _ _ _ _ => none
  | n + 1 => evStepK P X n (evK P X n)
theorem evK_ok {X : CallS} (hm : P.follows .mixedOrders = true) (hX : FOkS P X) : ∀ n, EvOkK P (evK P X n)
  | 0 => fun flag c a s q r he => by cases he
  | n + 1 => evStepK_ok hm hX (evK_ok hm hX n)

def seenK (N k : Nat) (ms : List Nat) (m Wx : Nat) (r : Option OutK) : Option (Exit × MA × List MObj × Nat × Orc) := match r with
  | some (e, a1, s1, B1, W1, q) => match nil? a1.defers && Nat.ble (N + k) B1 && msOk (N + k) B1 (W1 ||| Wx) ms with
    | true => some (e, tellA (invN (N + k) ms) m a1, tellS N k ms s1, W1 ||| Wx, q)
    | false => none
  | none => none
theorem seenK_ok {X : CallS} {c : Code} {A A2 : MA} {L : List MObj} {S : St} {e : Exit} {l : List Tok} {OB : Prop} {N k m Wx : Nat} {ms : List Nat} (hm : P.follows .mixedOrders = true) (hX : FOkS P X) (hN : N = P.globals.size)
    (h : seenK N k ms m Wx (evK P X 1000 false c A S ⟨l, True⟩) = some (e, A2, L, W, ⟨[], OB⟩)) (ho : OB) : KC P none c A.act S e A2.act (wS N L) (N + k) W := by
  unfold seenK at h
  split at h
  · rename_i e' a1 s1 B1 W1' q he
    split at h
    · rename_i hc
      cases h
      simp only [Bool.and_eq_true] at hc
      have hs := (evK_ok hm hX 1000 false c A S ⟨l, True⟩ _ he).2 ho
      exact KT.tell (hs.more (W := W1' ||| Wx) fun b _ hb => by rw [or_bit, hb]; rfl) hN (nil_of hc.1.1) (Nat.le_of_ble_eq_true hc.1.2) hc.2
    · cases h
  · cases h

def isEnd : Exit → Bool
  | .normal => true
  | .ret => true
  | _ => false
theorem isEnd_iff {e : Exit} (h : isEnd e = true) : e = .normal ∨ e = .ret := by cases e <;> simp [isEnd] at h ⊢
def seenF' (P : Program) (fn : Func) (N k : Nat) (ms : List Nat) (r : Option OutK) : Option (Value × List MObj × Orc) := match r with
  | some (e, a1, s1, B1, W1, q) => match isEnd e && nil? a1.defers && Nat.ble (N + k) B1 && (W1 % 2 ^ (N + k) == 0) && msOk (N + k) B1 W1 ms with
    | true => match resultsG P s1 a1.get fn.results.toList with
      | some (vs, _) => some (tellV (invN (N + k) ms) 8 (outV vs), tellS N k ms s1, q)
      | none => none
    | false => none
  | none => none
theorem sndF_K {f : FuncId} {fn : Func} {c : Code} {X : CallS} {args : Array Value} {v : Value} {L L2 : List MObj} {l : List Tok} {OB : Prop} {N : Nat} {ms : List Nat} (hm : P.follows .mixedOrders = true) (hX : FOkS P X) (hN : N = P.globals.size) (hf : P.funcs[f]? = some fn) (hb : fn.body = some c)
    (h : seenF' P fn N L.length ms (evK P X 1000 false c (startM fn args) (wS N L) ⟨l, True⟩) = some (v, L ++ L2, ⟨[], OB⟩)) (ho : OB) (ha : args.toList.all (keepB (below (N + L.length)) 8) = true) (hkL : ∀ o, o ∈ L → keepO (below (N + L.length)) o) (hkL2 : ∀ o, o ∈ L2 → keepO (below (N + L.length + L2.length)) o) (hv : keepB (below (N + L.length + L2.length)) 8 v = true) :
    SndF P f args (wS N L) v (wS N (L ++ L2)) ((2 ^ L.length - 1) * 2 ^ N) 0 := by
  have hn1 : (wS N L).next = N + L.length := wS_next N L
  have hn2 : (wS N (L ++ L2)).next = N + L.length + L2.length := by rw [wS_next, List.length_append]; omega
  have hold : ∀ b, b < N + L.length → (wS N (L ++ L2)).get b = (wS N L).get b := fun b hb => by
    rcases Nat.lt_or_ge b N with c | c
    · rw [wS_low _ _ c, wS_low _ _ c]
    · rw [show b = N + (b - N) from by omega, wS_get, wS_get, getD_app, if_pos (by omega)]
  have hR : ∀ b, N ≤ b → b < N + L.length → ((2 ^ L.length - 1) * 2 ^ N).testBit b = true := fun b h1 hb => by
    rw [Nat.testBit_mul_two_pow, Nat.testBit_two_pow_sub_one]
    simp only [Bool.and_eq_true, decide_eq_true_eq]
    omega
  refine ⟨⟨by rw [hn1, hn2]; omega, fun b hb _ => hold b (by rw [hn1] at hb; exact hb)⟩, fun n ρ C args' w Q hp har hQ => ?_⟩
  unfold seenF' at h
  split at h
  · rename_i e a1 s1 B1 W1 q he
    split at h
    · rename_i hc
      split at h
      · rename_i vs R2 hres
        simp only [Option.some.injEq, Prod.mk.injEq] at h
        obtain ⟨rfl, hL, rfl⟩ := h
        simp only [Bool.and_eq_true, beq_iff_eq] at hc
        obtain ⟨⟨⟨⟨c1, c2⟩, c3⟩, c4⟩, c5⟩ := hc
        have hd := nil_of c2
        have hW : ∀ b, b < N + L.length → W1.testBit b = false := fun b hb => by
          have : (W1 % 2 ^ (N + L.length)).testBit b = false := by rw [c4]; simp
          rw [Nat.testBit_mod_two_pow] at this
          simpa [hb] using this
        have hs := (evK_ok hm hX 1000 false c (startM fn args) (wS N L) ⟨l, True⟩ _ he).2 ho
        rw [startM_act] at hs
        let ρ0 : Ren := fun b => if b < N + L.length then ρ b else none
        have hρ0 : ∀ b, b < N + L.length → ρ0 b = ρ b := fun b hb => if_pos hb
        have hid : RenOk (fun b b' => b = b' ∧ b < N + L.length) ρ ρ0 := fun b b' M hb hM => by
          obtain ⟨rfl, hlt⟩ := hb
          rw [hρ0 b hlt]; exact hM
        have hCs : ∀ b, N ≤ b → b < N + L.length → C b = (wS N L).get b := fun b h1 hb => hp.agree b (by rw [or_bit, hR b h1 hb]; rfl) (by rw [hn1]; exact hb)
        have hNb0 : ∀ b, (wS N L).get b ≠ .hole → N ≤ b := fun b hb => by
          rcases Nat.lt_or_ge b N with c | c
          · exact absurd (wS_low N L c) hb
          · exact c
        have har0 : VRs ρ0 args args' := by
          refine ⟨har.1, fun i v v' e1 e2 => ?_⟩
          rw [List.all_eq_true] at ha
          have hk := ha v (by rw [Array.mem_toList_iff]; exact Array.mem_of_getElem? e1)
          exact keep_wv (f := fun b b' => b = b' ∧ b < N + L.length) (fun b hb => ⟨rfl, Nat.le_of_ble_eq_true hb⟩) 8 hk ρ ρ0 hid v' (har.2 i v v' e1 e2)
        have hsim : Sim P none ρ0 (startA fn args) (wS N L) none (startA fn args') w := by
          refine ⟨fun g hg => ?_, trivial, fun b hb => if_neg (by rw [hn1] at hb; omega), ⟨fun b hb => ?_, fun b b' L1 L1' h1 h2 hq e1 e2 he => ?_⟩, startA_ar har0⟩
          · obtain ⟨M, h1, h2⟩ := hp.glob g hg
            exact ⟨M, by rw [hρ0 g (by omega)]; exact h1, h2⟩
          · have hlt := St.lt_of_live hb
            rw [hn1] at hlt
            have hne : C b ≠ .hole := by rw [hCs b (hNb0 b hb) hlt]; exact hb
            obtain ⟨M, o', q1, q2, q3⟩ := hp.rel.1 b hne
            refine ⟨M, o', by rw [hρ0 b hlt]; exact q1, q2, ?_⟩
            rw [hCs b (hNb0 b hb) hlt] at q3
            have hNb : N ≤ b := by
              rcases Nat.lt_or_ge b N with c | c
              · exact absurd (wS_low N L c) hb
              · exact c
            have hko : keepO (below (N + L.length)) ((wS N L).get b) := by
              rw [show b = N + (b - N) from by omega, wS_get]
              exact hkL _ (getD_mem (by omega))
            exact (keep_wo (f := fun b b' => b = b' ∧ b < N + L.length) (fun b hb => ⟨rfl, Nat.le_of_ble_eq_true hb⟩) hko).2.2 ρ ρ0 hid M o' q3
          · have l1 := St.lt_of_live h1
            have l2 := St.lt_of_live h2
            rw [hn1] at l1 l2
            rw [hρ0 b l1] at e1
            rw [hρ0 b' l2] at e2
            exact hp.rel.2 b b' L1 L1' (by rw [hCs b (hNb0 b h1) l1]; exact h1) (by rw [hCs b' (hNb0 b' h2) l2]; exact h2) (by rw [hCs b (hNb0 b h1) l1, hCs b' (hNb0 b' h2) l2]; exact hq) e1 e2 he
        refine callsIn_of_wp hf hb (Fw_fn none f) ?_ rfl
        refine hs n none ρ0 _ w _ hsim fun ρ2 a2' w2 l2 s2' => ?_
        obtain ⟨v', g1, g2⟩ := results_run (C := s1.get) s2'.ar.tmps s2'.rel ((resultsL_act _ _).trans hres) (fun _ _ _ => rfl)
        have hd' : a2'.defers = [] := by
          have := s2'.ar.defs
          rw [show a1.act.defers = [] from hd] at this
          cases hdd : a2'.defers with
          | nil => rfl
          | cons x xs => rw [hdd] at this; exact this.elim
        obtain ⟨ρ3, hf3, l3, s3'⟩ := hsim.tell (m := 0) l2 s2' hN hd (Nat.le_of_ble_eq_true c3) c5
        have g3 := tell_wv (f := invN (N + L.length) ms) 8 (outV vs) ρ2 ρ3 hf3 v' g2
        rw [hL] at s3'
        let ρ1 : Ren := fun b => if N + L.length ≤ b ∧ b < N + L.length + L2.length then ρ3 b else ρ b
        have hin : ∀ b, N + L.length ≤ b → b < N + L.length + L2.length → ρ1 b = ρ3 b := fun b h1 h2 => if_pos ⟨h1, h2⟩
        have hout : ∀ b, ¬ (N + L.length ≤ b ∧ b < N + L.length + L2.length) → ρ1 b = ρ b := fun b h1 => if_neg h1
        have h31 : ∀ b, b < N + L.length + L2.length → ρ1 b = ρ3 b := fun b hlt => by
          by_cases c : N + L.length ≤ b
          · exact hin b c hlt
          · rw [hout b (by omega), l3.keep b (by omega), hρ0 b (by omega)]
        have hid3 : RenOk (fun b b' => b = b' ∧ b < N + L.length + L2.length) ρ3 ρ1 := fun b b' M hb hM => by
          obtain ⟨rfl, hlt⟩ := hb
          rw [h31 b hlt]; exact hM
        have hframe : ∀ x, x < w.heap.size → w2.heap[x]? = w.heap[x]? := fun x hx => l3.frame x hx fun b M hb hlt _ => by
          rw [hn1] at hlt
          rw [hW b hlt] at hb; cases hb
        have hfree : ∀ b, N + L.length ≤ b → b < N + L.length + L2.length → ρ b = none ∧ C b = .hole := fun b h1 h2 => hp.free b (by rw [hn1]; exact h1) (by rw [hn2]; exact h2)
        have hnew : ∀ b M, N + L.length ≤ b → b < N + L.length + L2.length → ρ1 b = some M → w.heap.size ≤ M.blk := fun b M h1 h2 hM => by
          rw [hin b h1 h2] at hM
          rcases l3.fresh b M h1 hM with k | ⟨b0, L0, k1, k2, _⟩
          · exact k
          · rw [hn1] at k2
            rw [hW b0 k2] at k1; cases k1
        have hsub : ρ.le ρ1 := fun b M hM => by
          by_cases c : N + L.length ≤ b ∧ b < N + L.length + L2.length
          · rw [(hfree b c.1 c.2).1] at hM; cases hM
          · rw [hout b c]; exact hM
        have hpost : Post ρ (wS N L) (wS N (L ++ L2)) 0 w ρ1 w2 := by
          refine ⟨hsub, fun b hb => ?_, fun b M h1 h2 => ?_, l3.size, fun x hx _ => hframe x hx, l3.os, l3.tape, l3.output⟩
          · rw [hn1, hn2]
            by_cases c : N + L.length ≤ b ∧ b < N + L.length + L2.length
            · exact c
            · exact absurd (hout b c) hb
          · by_cases c : N + L.length ≤ b ∧ b < N + L.length + L2.length
            · exact .inl (hnew b M c.1 c.2 h2)
            · rw [hout b c, h1] at h2; cases h2
        have hupd : ∀ b, upd C (wS N L) (wS N (L ++ L2)) 0 b = if N + L.length ≤ b ∧ b < N + L.length + L2.length then (wS N (L ++ L2)).get b else C b := fun b => by
          unfold upd
          rw [hn1, hn2]
          by_cases c : N + L.length ≤ b ∧ b < N + L.length + L2.length
          · rw [if_pos (.inl c), if_pos c]
          · rw [if_neg (by rintro (k | k); exact c k; simp at k), if_neg c]
        have hwo : ∀ b, N + L.length ≤ b → b < N + L.length + L2.length → ∀ M o', OR ρ3 M ((wS N (L ++ L2)).get b) o' → OR ρ1 M ((wS N (L ++ L2)).get b) o' := fun b h1 h2 M o' ho' => by
          have hko : keepO (below (N + L.length + L2.length)) ((wS N (L ++ L2)).get b) := by
            rw [show b = N + (b - N) from by omega, wS_get, getD_app, if_neg (by omega)]
            exact hkL2 _ (getD_mem (by omega))
          exact (keep_wo (f := fun b b' => b = b' ∧ b < N + L.length + L2.length) (fun b hb => ⟨rfl, Nat.le_of_ble_eq_true hb⟩) hko).2.2 ρ3 ρ1 hid3 M o' ho'
        have hrel : WRel ρ1 (upd C (wS N L) (wS N (L ++ L2)) 0) w2 := by
          refine ⟨fun b hb => ?_, fun b b' M M' h1 h2 hq e1 e2 he => ?_⟩
          · rw [hupd b] at hb ⊢
            by_cases c : N + L.length ≤ b ∧ b < N + L.length + L2.length
            · rw [if_pos c] at hb ⊢
              obtain ⟨M, o', q1, q2, q3⟩ := s3'.rel.1 b hb
              exact ⟨M, o', by rw [hin b c.1 c.2]; exact q1, q2, hwo b c.1 c.2 M o' q3⟩
            · rw [if_neg c] at hb ⊢
              obtain ⟨M, o', q1, q2, q3⟩ := hp.rel.1 b hb
              exact ⟨M, o', by rw [hout b c]; exact q1, (hframe _ (Array.getElem?_eq_some_iff.1 q2).1).trans q2, q3.mono hsub⟩
          · rw [hupd b] at h1 hq
            rw [hupd b'] at h2 hq
            by_cases c : N + L.length ≤ b ∧ b < N + L.length + L2.length
            · rw [if_pos c] at h1 hq
              by_cases c' : N + L.length ≤ b' ∧ b' < N + L.length + L2.length
              · rw [if_pos c'] at h2 hq
                rw [hin b c.1 c.2] at e1
                rw [hin b' c'.1 c'.2] at e2
                exact s3'.rel.2 b b' M M' h1 h2 hq e1 e2 he
              · rw [if_neg c'] at h2
                rw [hout b' c'] at e2
                have h3 := hnew b M c.1 c.2 e1
                obtain ⟨M2, o', q1, q2, q3⟩ := hp.rel.1 b' h2
                rw [e2] at q1
                cases q1
                have := (Array.getElem?_eq_some_iff.1 q2).1
                omega
            · rw [if_neg c] at h1 hq
              rw [hout b c] at e1
              by_cases c' : N + L.length ≤ b' ∧ b' < N + L.length + L2.length
              · rw [if_pos c'] at h2
                have h3 := hnew b' M' c'.1 c'.2 e2
                obtain ⟨M2, o', q1, q2, q3⟩ := hp.rel.1 b h1
                rw [e1] at q1
                cases q1
                have := (Array.getElem?_eq_some_iff.1 q2).1
                omega
              · rw [if_neg c'] at h2 hq
                rw [hout b' c'] at e2
                exact hp.rel.2 b b' M M' h1 h2 hq e1 e2 he
        have hvr : VR ρ1 (tellV (invN (N + L.length) ms) 8 (outV vs)) v' := keep_wv (f := fun b b' => b = b' ∧ b < N + L.length + L2.length) (fun b hb => ⟨rfl, Nat.le_of_ble_eq_true hb⟩) 8 hv ρ3 ρ1 hid3 v' g3
        rcases isEnd_iff c1 with rfl | rfl <;> exact ⟨hd', v', g1, hQ ρ1 v' w2 hpost hrel hvr⟩
      · cases h
    · cases h
  · cases h
end Mini
end Go.Proofs.YtbkpnhbcihcgaaaGreatDoor
end
section
namespace Go.Proofs.YtbkpnhbcihcgaaaGreatDoor
set_option linter.all false
namespace Mini
variable {P : Program} {rd : Option Nat} {s s1 s2 : St} {R W W1 W2 B B1 B2 : Nat}
theorem KT.snd {T : Tr} {a a2 : MA} {e : Exit} {N : Nat} {L : List MObj} (h : KT P none T a.act (wS N L) e a2.act (wS N L) B W) (hN : N = P.globals.size) (hB : N + L.length ≤ B) (hW : ∀ b, b < N + L.length → W.testBit b = false) (hd : a.defers = []) (hd2 : a2.defers = [])
    (hA : allKeep (N + L.length) a a.n = true) (hA2 : allKeep (N + L.length) a2 a2.n = true) (hk : ∀ o, o ∈ L → keepO (below (N + L.length)) o) : Snd P none T a.act (wS N L) e a2.act (wS N L) ((2 ^ L.length - 1) * 2 ^ N) 0 := by
  have hn1 : (wS N L).next = N + L.length := wS_next N L
  have hR : ∀ b, N ≤ b → b < N + L.length → ((2 ^ L.length - 1) * 2 ^ N).testBit b = true := fun b h1 hb => by
    rw [Nat.testBit_mul_two_pow, Nat.testBit_two_pow_sub_one]
    simp only [Bool.and_eq_true, decide_eq_true_eq]
    omega
  refine ⟨Stat.refl _, fun n ro ρ C a' w Q hp har hQ => ?_⟩
  have hro : ro = none := by
    have := hp.round
    cases ro with
    | none => rfl
    | some x => exact this.elim
  let ρ0 : Ren := fun b => if b < N + L.length then ρ b else none
  have hρ0 : ∀ b, b < N + L.length → ρ0 b = ρ b := fun b hb => if_pos hb
  have hid : RenOk (fun b b' => b = b' ∧ b < N + L.length) ρ ρ0 := fun b b' M hb hM => by
    obtain ⟨rfl, hlt⟩ := hb
    rw [hρ0 b hlt]; exact hM
  have hNb0 : ∀ b, (wS N L).get b ≠ .hole → N ≤ b := fun b hb => by
    rcases Nat.lt_or_ge b N with c | c
    · exact absurd (wS_low N L c) hb
    · exact c
  have hCs : ∀ b, N ≤ b → b < N + L.length → C b = (wS N L).get b := fun b h1 hb => hp.agree b (by rw [or_bit, hR b h1 hb]; rfl) (by rw [hn1]; exact hb)
  have self : ∀ {x : MA}, x.defers = [] → allKeep (N + L.length) x x.n = true → WA (fun b b' => b = b' ∧ b < N + L.length) x.act x.act := fun {x} hx hk => wa_of rfl hx hx fun t ht => keep_wv (fun b hb => ⟨rfl, Nat.le_of_ble_eq_true hb⟩) 8 (allKeep_at hk ht)
  have hsim : Sim P none ρ0 a.act (wS N L) ro a' w := by
    refine ⟨fun g hg => ?_, by rw [hro]; trivial, fun b hb => if_neg (by rw [hn1] at hb; omega), ⟨fun b hb => ?_, fun b b' L1 L1' h1 h2 hq e1 e2 he => ?_⟩, (self hd hA).ar hid har⟩
    · obtain ⟨M, h1, h2⟩ := hp.glob g hg
      exact ⟨M, by rw [hρ0 g (by omega)]; exact h1, h2⟩
    · have hlt := St.lt_of_live hb
      rw [hn1] at hlt
      have hNb := hNb0 b hb
      have hne : C b ≠ .hole := by rw [hCs b hNb hlt]; exact hb
      obtain ⟨M, o', q1, q2, q3⟩ := hp.rel.1 b hne
      refine ⟨M, o', by rw [hρ0 b hlt]; exact q1, q2, ?_⟩
      rw [hCs b hNb hlt] at q3
      have hko : keepO (below (N + L.length)) ((wS N L).get b) := by
        rw [show b = N + (b - N) from by omega, wS_get]
        exact hk _ (getD_mem (by omega))
      exact (keep_wo (f := fun b b' => b = b' ∧ b < N + L.length) (fun b hb => ⟨rfl, Nat.le_of_ble_eq_true hb⟩) hko).2.2 ρ ρ0 hid M o' q3
    · have l1 := St.lt_of_live h1
      have l2 := St.lt_of_live h2
      rw [hn1] at l1 l2
      rw [hρ0 b l1] at e1
      rw [hρ0 b' l2] at e2
      exact hp.rel.2 b b' L1 L1' (by rw [hCs b (hNb0 b h1) l1]; exact h1) (by rw [hCs b' (hNb0 b' h2) l2]; exact h2) (by rw [hCs b (hNb0 b h1) l1, hCs b' (hNb0 b' h2) l2]; exact hq) e1 e2 he
  refine h n ro ρ0 a' w Q hsim fun ρ2 a2' w2 l2 s2' => ?_
  have hframe : ∀ x, x < w.heap.size → w2.heap[x]? = w.heap[x]? := fun x hx => l2.frame x hx fun b M hb hlt _ => by
    rw [hn1] at hlt
    rw [hW b hlt] at hb; cases hb
  have hid2 : RenOk (fun b b' => b = b' ∧ b < N + L.length) ρ2 ρ := fun b b' M hb hM => by
    obtain ⟨rfl, hlt⟩ := hb
    rw [l2.keep b (by omega), hρ0 b hlt] at hM; exact hM
  refine hQ ρ a2' w2 ⟨Ren.le_refl _, fun b hb => absurd rfl hb, fun b M h1 h2 => (by rw [h1] at h2; cases h2), l2.size, fun x hx _ => hframe x hx, l2.os, l2.tape, l2.output⟩ ?_ ((self hd2 hA2).ar hid2 s2'.ar)
  rw [upd_zero]
  refine ⟨fun b hb => ?_, hp.rel.2⟩
  obtain ⟨M, o', q1, q2, q3⟩ := hp.rel.1 b hb
  exact ⟨M, o', q1, (hframe _ (Array.getElem?_eq_some_iff.1 q2).1).trans q2, q3⟩
end Mini
end Go.Proofs.YtbkpnhbcihcgaaaGreatDoor
end
section
namespace Go.Proofs.YtbkpnhbcihcgaaaGreatDoor
set_option linter.all false
namespace Pl

def cr (n lo hi : Int) : Int := if n < lo ∨ hi < n then 3 else 0
def firstE : List Int → Int
  | [] => 0
  | e :: l => if e = 0 then firstE l else e
def parts (a b m : Int) : Int := firstE [cr a (-m) m, cr b (-m) m]
def sixth (p : Int × Int) : Int × Int := (p.1 - p.2, p.1)
def turnN : Nat → Int × Int → Int × Int
  | 0, p => p
  | n + 1, p => sixth (turnN n p)
def turn (p : Int × Int) (n : Int) : Int × Int := turnN (n % 6).toNat p
def inB (m : Int) (p : Int × Int) : Prop := -m ≤ p.1 ∧ p.1 ≤ m ∧ -m ≤ p.2 ∧ p.2 ≤ m
instance (m : Int) (p : Int × Int) : Decidable (inB m p) := by unfold inB; infer_instance
def lim (p : Int × Int) : (Int × Int) × Int := if inB 1048576 p then (p, 0) else ((0, 0), 4)
def add (p q : Int × Int) : Int × Int := (p.1 + q.1, p.2 + q.2)
def mul (p q : Int × Int) : Int × Int := (p.1 * q.1 - p.2 * q.2, p.1 * q.2 + p.2 * q.1 - p.2 * q.2)
def norm (p : Int × Int) : Int := p.1 * p.1 - p.1 * p.2 + p.2 * p.2

end Pl
end Go.Proofs.YtbkpnhbcihcgaaaGreatDoor
end
section
namespace Go.Proofs.YtbkpnhbcihcgaaaGreatDoor
set_option linter.all false

theorem turnN_add (m n : Nat) (p : Int × Int) : Pl.turnN (m + n) p = Pl.turnN m (Pl.turnN n p) := by
  induction m with
  | zero => simp [Pl.turnN]
  | succ m ih => rw [Nat.succ_add]; show Pl.sixth _ = Pl.sixth _; rw [ih]
theorem turnN_two (p : Int × Int) : Pl.turnN 2 p = (-p.2, p.1 - p.2) := by
  show (p.1 - p.2 - p.1, p.1 - p.2) = _
  exact Prod.ext (by simp only; omega) rfl
theorem turnN_three (p : Int × Int) : Pl.turnN 3 p = (-p.1, -p.2) := by
  rw [show (3 : Nat) = 1 + 2 from rfl, turnN_add, turnN_two]
  show (-p.2 - (p.1 - p.2), -p.2) = _
  exact Prod.ext (by simp only; omega) rfl
theorem turnN_six (p : Int × Int) : Pl.turnN 6 p = p := by
  rw [show (6 : Nat) = 3 + 3 from rfl, turnN_add, turnN_three, turnN_three]
  exact Prod.ext (by simp only; omega) (by simp only; omega)
theorem turnN_six_mul (q r : Nat) (p : Int × Int) : Pl.turnN (6 * q + r) p = Pl.turnN r p := by
  induction q with
  | zero => simp
  | succ q ih => rw [show 6 * (q + 1) + r = 6 + (6 * q + r) by omega, turnN_add, turnN_six, ih]
theorem turnN_mod (k : Nat) (p : Int × Int) : Pl.turnN k p = Pl.turnN (k % 6) p := by
  have h := turnN_six_mul (k / 6) (k % 6) p
  rwa [show 6 * (k / 6) + k % 6 = k by omega] at h
theorem turn_turn (p : Int × Int) (m n : Int) : Pl.turn (Pl.turn p m) n = Pl.turn p (m + n) := by
  unfold Pl.turn
  rw [← turnN_add, turnN_mod]
  congr 1
  omega
end Go.Proofs.YtbkpnhbcihcgaaaGreatDoor
end
section
set_option linter.all false
set_option maxRecDepth 1000000
open Go.RowKit
namespace Go.Proofs.YtbkpnhbcihcgaaaGreatDoor
open Mini
theorem smx : Tryz.prog.follows .mixedOrders = true := by kernel_rfl
theorem sng : 6 = Tryz.prog.globals.size := by kernel_rfl
def rowI (k n : Nat) (g : Nat → Nat → Int) (e : TypeId) (opn : Bool) (sz : Nat) (ro : Bool) : MObj := .rows n k (fun i j => .int .i64 (g i j)) e opn sz ro
theorem rowI_keep {N : Nat → Bool} (k n : Nat) (g : Nat → Nat → Int) (e : TypeId) (opn : Bool) (sz : Nat) (ro : Bool) : keepO N (rowI k n g e opn sz ro) := fun i j => rfl
theorem wnext {i n : Nat} (h : i < n) (hn : (n : Int) ≤ 9223372036854775807) : IntKind.i64.wrap ((i : Int) + 1) = ((i + 1 : Nat) : Int) := by
  rw [IntWalk.i64_in _ (by omega)]; rfl
theorem wnextV {i n : Nat} (h : i < n) (hn : (n : Int) ≤ 9223372036854775807) : Value.int .i64 (IntKind.i64.wrap ((i : Int) + 1)) = .int .i64 ((i + 1 : Nat) : Int) := by rw [wnext h hn]
def feN (g : Nat → Int) : Nat → Nat → Int
  | 0, _ => 0
  | m + 1, i => if g i = 0 then feN g m (i + 1) else g i
theorem feN_all {g : Nat → Int} : ∀ {m i : Nat}, (∀ k, i ≤ k → k < i + m → g k = 0) → feN g m i = 0
  | 0, i, h => rfl
  | m + 1, i, h => by
    rw [feN, if_pos (h i (Nat.le_refl _) (by omega))]
    exact feN_all fun k h1 h2 => h k (by omega) (by omega)
theorem feN_first {g : Nat → Int} : ∀ {m i j : Nat}, i ≤ j → j < i + m → (∀ k, i ≤ k → k < j → g k = 0) → g j ≠ 0 → feN g m i = g j
  | 0, i, j, h1, h2, h, hj => by omega
  | m + 1, i, j, h1, h2, h, hj => by
    rw [feN]
    rcases Nat.eq_or_lt_of_le h1 with e | e
    · subst e; rw [if_neg hj]
    · rw [if_pos (h i (Nat.le_refl _) e)]
      exact feN_first (by omega) (by omega) (fun k h1 h2 => h k (by omega) h2) hj
theorem rowI_keep1 {B k n : Nat} {g : Nat → Nat → Int} {e : TypeId} {opn : Bool} {sz : Nat} {ro : Bool} : ∀ o, o ∈ [rowI k n g e opn sz ro] → keepO (below B) o := fun o ho => by
  rw [List.mem_singleton.1 ho]; exact rowI_keep _ _ _ _ _ _ _
theorem rowI_keep2 {B k n k2 n2 : Nat} {g g2 : Nat → Nat → Int} {e e2 : TypeId} {opn opn2 : Bool} {sz sz2 : Nat} {ro ro2 : Bool} : ∀ o, o ∈ [rowI k n g e opn sz ro, rowI k2 n2 g2 e2 opn2 sz2 ro2] → keepO (below B) o := fun o ho => by
  rcases List.mem_cons.1 ho with h | h
  · rw [h]; exact rowI_keep _ _ _ _ _ _ _
  · exact rowI_keep1 o h
theorem wvs_one {f : Nm} {a a2 : Value} (h1 : WV f a a2) : WVs f #[a] #[a2] := ⟨rfl, fun i v u e1 e2 => by
  cases i with
  | zero => simp at e1 e2; subst e1 e2; exact h1
  | succ i => simp at e1⟩
def wldOf (r : Option OutS) : St := match r with
  | some (_, s, _) => s
  | none => ⟨0, .leaf, []⟩
theorem feN_zero {g : Nat → Int} {n : Nat} (h : feN g n 0 = 0) : ∀ i, i < n → g i = 0 := by
  have key : ∀ m i, feN g m i = 0 → ∀ k, i ≤ k → k < i + m → g k = 0 := fun m => by
    induction m with
    | zero => intro i _ k h1 h2; omega
    | succ m ih =>
      intro i hi k h1 h2
      rw [feN] at hi
      split at hi
      · rename_i h0
        rcases Nat.eq_or_lt_of_le h1 with e | e
        · subst e; exact h0
        · exact ih (i + 1) hi k (by omega) (by omega)
      · rename_i h0; exact absurd hi h0
  exact fun i hi => key n 0 h i (Nat.zero_le _) (by omega)
def fillG (z : List Value) (w : Nat → List Value) (i : Nat) : Nat → Nat → Value := fun a j => (if a < i then w a else z).getD j (.chan none)
end Go.Proofs.YtbkpnhbcihcgaaaGreatDoor
end
section
set_option linter.all false
set_option maxRecDepth 1000000
open Go.RowKit
namespace Go.Proofs.YtbkpnhbcihcgaaaGreatDoor
open Mini
namespace Mini
variable {P : Program} {rd : Option Nat} {s s1 s2 : St} {B W : Nat}
def loopsOf : Code → List Code
  | .seq x y => loopsOf x ++ loopsOf y
  | .cond _ x y => loopsOf x ++ loopsOf y
  | .block _ x => loopsOf x
  | .scope x => loopsOf x
  | .loop x => x :: loopsOf x
  | _ => []
def loopAt (P : Program) (f : FuncId) (i : Nat) : Code := (loopsOf (bodyOf P f)).getD i .skip
theorem KT.toldAs {T : Tr} {a a1 : Act} {e : Exit} {N : Nat} {L L2 : List MObj} (h : KT P rd T a s e a1 (wS N L) B W) (hl : L.map nrm = L2.map nrm) : KT P rd T a s e a1 (wS N L2) B W := fun n ro ρ a' w Q hs hQ => by
  have hlen : L.length = L2.length := by simpa using congrArg List.length hl
  have hget : ∀ b, nrm ((wS N L).get b) = nrm ((wS N L2).get b) := fun b => by
    rcases Nat.lt_or_ge b N with c | c
    · rw [wS_low _ _ c, wS_low _ _ c]
    · rw [show b = N + (b - N) from by omega, wS_get, wS_get]
      rcases Nat.lt_or_ge (b - N) L.length with c2 | c2
      · have e1 : (L.map nrm)[b - N]? = (L2.map nrm)[b - N]? := by rw [hl]
        simp only [List.getElem?_map, List.getElem?_eq_getElem c2, List.getElem?_eq_getElem (hlen ▸ c2), Option.map_some, Option.some.injEq] at e1
        simpa [List.getD, List.getElem?_eq_getElem c2, List.getElem?_eq_getElem (show b - N < L2.length by omega)] using e1
      · simp [List.getD, List.getElem?_eq_none c2, List.getElem?_eq_none (show L2.length ≤ b - N by omega)]
  have hhole : ∀ b, (wS N L2).get b ≠ .hole → (wS N L).get b ≠ .hole := fun b hb he => by
    have := hget b
    rw [he] at this
    generalize (wS N L2).get b = o at this hb
    cases o <;> simp [Mini.nrm] at this hb
  refine h n ro ρ a' w Q hs fun ρ2 a2' w2 l2 s2' => hQ ρ2 a2' w2 l2 ⟨s2'.glob, s2'.round, fun b hb => s2'.dom b (by rw [wS_next] at hb ⊢; omega), ⟨fun b hb => ?_, fun b b' M M' h1 h2 hq e1 e2 he => ?_⟩, s2'.ar⟩
  · obtain ⟨M, o', q1, q2, q3⟩ := s2'.rel.1 b (hhole b hb)
    exact ⟨M, o', q1, q2, or_congr (hget b) q3⟩
  · exact s2'.rel.2 b b' M M' (hhole b h1) (hhole b' h2) (by rw [nrm_ro (hget b), nrm_ro (hget b')]; exact hq) e1 e2 he
theorem rows_nrm {n k : Nat} {G G2 : Nat → Nat → Value} {e : TypeId} {opn : Bool} {sz : Nat} {ro : Bool} (h : ∀ i j, i < n → j < k → G i j = G2 i j) : nrm (.rows n k G e opn sz ro) = nrm (.rows n k G2 e opn sz ro) :=
  congrArg (fun l => MObj.cells l e opn sz ro) (rowsL_congrY fun i j hi hj => h i j hi hj)
def pushI (n : Nat) (g : Nat → Nat → Int) (l : List Int) : Nat → Nat → Int := fun i j => if i < n then g i j else l.getD j 0
def setI (g : Nat → Nat → Int) (i k : Nat) (l : List Int) : Nat → Nat → Int := fun a j => if a = i ∧ k ≤ j ∧ j < k + l.length then l.getD (j - k) 0 else g a j
theorem push_told {f : Nat → Option Nat} {n : Nat} {kd : IntKind} {g : Nat → Nat → Int} {v : Int} {i j : Nat} (hi : i < n + 1) (hj : j < 1) : tellV f 8 (pushRow n 1 (fun i j => .int kd (g i j)) [.int kd v] i j) = .int kd (pushI n g [v] i j) := by
  have : j = 0 := by omega
  subst this
  simp only [pushRow, pushI]
  by_cases c : i < n
  · rw [if_pos c, if_pos c]; rfl
  · rw [if_neg c, if_neg c, show i - n = 0 from by omega]; rfl
theorem set_told {f : Nat → Option Nat} {kd : IntKind} {g : Nat → Nat → Int} {v : Int} {a k i j : Nat} : tellV f 8 (setRow (fun i j => .int kd (g i j)) a k [.int kd v] i j) = .int kd (setI g a k [v] i j) := by
  simp only [setRow, setI, List.length_cons, List.length_nil]
  by_cases c : i = a ∧ k ≤ j ∧ j < k + (0 + 1)
  · rw [if_pos c, if_pos c, show j - k = 0 from by omega]; rfl
  · rw [if_neg c, if_neg c]; rfl
theorem toNatO {a : Int} (h : 0 ≤ a) : a = Int.ofNat a.toNat := (Int.toNat_of_nonneg h).symm
theorem wnextW {i : Nat} (h : (i : Int) < 9223372036854775807) : Value.int .i64 (IntKind.i64.wrap (((i : Nat) : Int) + (1 : Int))) = .int .i64 ((i + 1 : Nat) : Int) := by rw [IntWalk.i64_in _ (by omega)]; rfl
theorem wsub1 {n : Nat} (h : 0 < n) (hn : (n : Int) ≤ 9223372036854775807) : Value.int .i64 (IntKind.i64.wrap (((n : Nat) : Int) - (1 : Int))) = .int .i64 ((n - 1 : Nat) : Int) := by rw [IntWalk.i64_in _ (by omega)]; congr 1; omega
theorem wvs_three {f : Nm} {a b c a2 b2 c2 : Value} (h1 : WV f a a2) (h2 : WV f b b2) (h3 : WV f c c2) : WVs f #[a, b, c] #[a2, b2, c2] := ⟨rfl, fun i v u e1 e2 => by
  match i with
  | 0 => simp at e1 e2; subst e1 e2; exact h1
  | 1 => simp at e1 e2; subst e1 e2; exact h2
  | 2 => simp at e1 e2; subst e1 e2; exact h3
  | i + 3 => simp at e1⟩
def cntF (q : Nat → Bool) : Nat → Nat
  | 0 => 0
  | k + 1 => match q k with
    | true => cntF q k + 1
    | false => cntF q k
def firstI (q : Nat → Bool) : Nat → Nat → Nat
  | 0, i => i
  | m + 1, i => match q i with
    | true => i
    | false => firstI q m (i + 1)
theorem first_or {p : Nat → Prop} (hd : ∀ i, Decidable (p i)) : ∀ n : Nat, (∀ i, i < n → ¬ p i) ∨ ∃ j, j < n ∧ p j ∧ ∀ i, i < j → ¬ p i
  | 0 => .inl fun i hi => absurd hi (by omega)
  | n + 1 => by
    rcases first_or hd n with h | ⟨j, h1, h2, h3⟩
    · by_cases c : p n
      · exact .inr ⟨n, by omega, c, h⟩
      · exact .inl fun i hi => by
          rcases Nat.lt_or_ge i n with k | k
          · exact h i k
          · rw [show i = n from by omega]; exact c
    · exact .inr ⟨j, by omega, h2, h3⟩
end Mini
end Go.Proofs.YtbkpnhbcihcgaaaGreatDoor
end
