/-
  The reckoner of the small world: builtins, conversions, calls; an operation, whatever it is.
-/
import Derived.Test.YtgloclcbeohkhaaGreatDoorMiniU
namespace Go.Proofs.YtgloclcbeohkhaaGreatDoor
set_option linter.all false
namespace Mini
variable {P : Program} {rd : Option Nat} {s s1 : St} {R W : Nat}

def isStrSl : TypeDesc → Bool
  | .string => true
  | .slice _ => true
  | _ => false
theorem isStrSl_of {d : TypeDesc} (h : isStrSl d = true) : d = .string ∨ ∃ e', d = .slice e' := by
  cases d <;> simp [isStrSl] at h
  · exact .inl rfl
  · exact .inr ⟨_, rfl⟩

/-- append, its element's type known. -/
def appendM (e : TypeId) (i : TypeInfo) (x : Value) (n : Nat) (l : List Value) (R0 : Nat) (s : St) : Option Out :=
  match x with
  | .slice a sl sc =>
    if n = 0 then (if l.isEmpty = true ∧ sl ≤ sc then some (.slice a sl sc, s, R0, 0) else none)
    else if (sl + n) * i.bytes ≤ 140737488355328 ∧ sl ≤ sc ∧ l.all Value.oneCell' = true then
      match a with
      | none => if sl = 0 ∧ sc = 0 then some (.slice (some ⟨s.next, 0, none⟩) (0 + n) (0 + n), s.push (.cells ([] ++ l) e true i.size false), R0 ||| 0, 0) else none
      | some ⟨_, _, some _⟩ => if sl = 0 ∧ sc = 0 then some (.slice (some ⟨s.next, 0, none⟩) (0 + n) (0 + n), s.push (.cells ([] ++ l) e true i.size false), R0 ||| 0, 0) else none
      | some ⟨b, off, none⟩ =>
        match s.get b with
        | .cells cc e' false sz r =>
          if sl + n ≤ sc then
            (if r = false ∧ off + (sl + n) * i.size ≤ cc.length then some (.slice (some ⟨b, off, none⟩) (sl + n) sc, s.put b (.cells (setL cc (off + sl * i.size) l) e' false sz false), R0, 2 ^ b) else none)
          else
            (if off + sl * i.size ≤ cc.length then some (.slice (some ⟨s.next, 0, none⟩) (sl + n) (sl + n), s.push (.cells ((cut cc off (sl * i.size)).toList ++ l) e true i.size false), R0 ||| 2 ^ b, 0) else none)
        | .cells cc e' true sz r =>
          if r = false ∧ sz = i.size ∧ e' = e ∧ off + sl * i.size ≤ cc.length ∧ (sl + n ≤ sc → off + sc * i.size ≤ cc.length) then
            some (.slice (some ⟨s.next, 0, none⟩) (sl + n) (sl + n), (s.put b .hole).push (.cells ((cut cc off (sl * i.size)).toList ++ l) e true i.size false), R0, 2 ^ b)
          else none
        | _ => none
    else none
  | _ => none
def evAppend (P : Program) (tS tX : TypeId) (x y : Value) (s : St) : Option Out :=
  match P.underlying tS, P.underlying tX with
  | some (.slice e), some d =>
    match P.info? e with
    | some i =>
      match i.zero with
      | some z =>
        if isStrSl d = true ∧ z.cells.size = i.size ∧ i.bytes ≠ 0 then
          (match elemsM s i.size y with
          | some (n, l, R0) => if l.length = n * i.size then appendM e i x n l R0 s else none
          | none => none)
        else none
      | none => none
    | none => none
  | _, _ => none
theorem evAppend_snd {o : Oper} {c : Call} {vals : Operand → Value} {x y : Operand} {tS tX : TypeId} {v : Value} (ho : o.op = .call c) (hc : c.callee = .builtin .append) (ha : c.args = #[x, y]) (hat : c.argTypes = #[tS, tX]) (h : evAppend P tS tX (vals x) (vals y) s = some (v, s1, R, W)) : SndO P rd o vals s v s1 R W := by
  unfold evAppend at h
  split at h
  · rename_i e d ht hd
    split at h
    · rename_i i hi
      split at h
      · rename_i z hz
        split at h
        · rename_i hcond
          have hE : Elt P tS tX e i z d := ⟨ht, hd, isStrSl_of hcond.1, hi, hz, hcond.2.1, hcond.2.2⟩
          split at h
          · rename_i n l R0 hel
            split at h
            · rename_i hll
              unfold appendM at h
              split at h
              · rename_i a sl sc hx
                split at h
                · rename_i hn
                  subst hn
                  split at h
                  · rename_i hle
                    simp only [Option.some.injEq, Prod.mk.injEq] at h
                    obtain ⟨rfl, rfl, rfl, rfl⟩ := h
                    exact sndO_appendNone ho hc ha hat hE hel (by simpa using hle.1) hx hle.2
                  · cases h
                · rename_i hn
                  split at h
                  · rename_i hbig
                    split at h
                    · split at h
                      · rename_i h0
                        obtain ⟨rfl, rfl⟩ := h0
                        simp only [Option.some.injEq, Prod.mk.injEq] at h
                        obtain ⟨rfl, rfl, rfl, rfl⟩ := h
                        exact sndO_grow ho hc ha hat hE hel hll (sl := 0) (oldl := []) (R1 := 0) (by simp) (by simpa using hbig.1) (old_none hn (.inl hx))
                      · cases h
                    · split at h
                      · rename_i h0
                        obtain ⟨rfl, rfl⟩ := h0
                        simp only [Option.some.injEq, Prod.mk.injEq] at h
                        obtain ⟨rfl, rfl, rfl, rfl⟩ := h
                        exact sndO_grow ho hc ha hat hE hel hll (sl := 0) (oldl := []) (R1 := 0) (by simp) (by simpa using hbig.1) (old_none hn (.inr ⟨_, hx, rfl⟩))
                      · cases h
                    · rename_i b off
                      split at h
                      · rename_i cc e' sz r hb
                        split at h
                        · rename_i hroom
                          split at h
                          · rename_i hk
                            obtain ⟨rfl, hlen⟩ := hk
                            simp only [Option.some.injEq, Prod.mk.injEq] at h
                            obtain ⟨rfl, rfl, rfl, rfl⟩ := h
                            exact sndO_appendRoom ho hc ha hat hE hel hll hn hx hb hroom hlen hbig.2.2
                          · cases h
                        · rename_i hroom
                          split at h
                          · rename_i hlen
                            simp only [Option.some.injEq, Prod.mk.injEq] at h
                            obtain ⟨rfl, rfl, rfl, rfl⟩ := h
                            exact sndO_grow ho hc ha hat hE hel hll (R1 := 2 ^ b) (by simp [cut]; omega) hbig.1 (old_some hb hx hlen hroom hbig.2.1)
                          · cases h
                      · rename_i cc e' sz r hb
                        split at h
                        · rename_i hk
                          obtain ⟨rfl, hsz, hee, hlen, hrm⟩ := hk
                          simp only [Option.some.injEq, Prod.mk.injEq] at h
                          obtain ⟨rfl, rfl, rfl, rfl⟩ := h
                          exact sndO_appendOn ho hc ha hat hE hel hll hn hx hb hsz hee hlen hrm hbig.2.1 hbig.2.2 hbig.1
                        · cases h
                      · cases h
                  · cases h
              · cases h
            · cases h
          · cases h
        · cases h
      · cases h
    · cases h
  · cases h

def evCopy (P : Program) (tD : TypeId) (x y : Value) (s : St) : Option Out :=
  match P.underlying tD, x, lenV y with
  | some (.slice e), .slice (some ⟨b, off, none⟩) dl _, some m =>
    match P.info? e with
    | some i =>
      match s.get b, elemsM s i.size (truncV (Nat.min m dl) y) with
      | .cells cc e' opn sz false, some (n, l, R0) =>
        if n = Nat.min m dl ∧ l.length = n * i.size ∧ dl ≠ 0 ∧ off + n * i.size ≤ cc.length ∧ l.all Value.oneCell' = true then some (.int .i64 n, s.put b (.cells (setL cc off l) e' opn sz false), R0, 2 ^ b) else none
      | _, _ => none
    | none => none
  | _, _, _ => none
theorem evCopy_snd {o : Oper} {c : Call} {vals : Operand → Value} {x y : Operand} {tD tX : TypeId} {v : Value} (ho : o.op = .call c) (hc : c.callee = .builtin .copy) (ha : c.args = #[x, y]) (hat : c.argTypes = #[tD, tX]) (h : evCopy P tD (vals x) (vals y) s = some (v, s1, R, W)) : SndO P rd o vals s v s1 R W := by
  unfold evCopy at h
  split at h
  · rename_i e b off dl dc m ht hx hm
    split at h
    · rename_i i hi
      split at h
      · rename_i cc e' opn sz n l R0 hb hel
        split at h
        · rename_i hk
          obtain ⟨hn, hll, hdl, hlen, hone⟩ := hk
          simp only [Option.some.injEq, Prod.mk.injEq] at h
          obtain ⟨rfl, rfl, rfl, rfl⟩ := h
          rw [← hn] at hel
          exact sndO_copy ho hc ha hat ht hi hm hn hel hll hdl hx hb hlen hone
        · cases h
      · cases h
    · cases h
  · cases h

def evLen (P : Program) (t : TypeId) (x : Value) (s : St) : Option Out :=
  match P.underlying t, x with
  | some (.slice _), .slice _ n _ => some (.int .i64 n, s, 0, 0)
  | _, _ => none
theorem evLen_snd {o : Oper} {c : Call} {vals : Operand → Value} {x : Operand} {t : TypeId} {v : Value} (ho : o.op = .call c) (hc : c.callee = .builtin .len) (ha : c.args = #[x]) (hat : c.argTypes = #[t]) (h : evLen P t (vals x) s = some (v, s1, R, W)) : SndO P rd o vals s v s1 R W := by
  unfold evLen at h
  split at h
  · rename_i e a n k ht hx
    simp only [Option.some.injEq, Prod.mk.injEq] at h
    obtain ⟨rfl, rfl, rfl, rfl⟩ := h
    exact sndO_lenSlice ho hc ha hat ht hx
  · cases h

/-- Bytes taken as bytes: a mark behind their end. -/
theorem sndO_mark {o : Oper} {vals : Operand → Value} {src e e' : TypeId} {x : Operand} {b off n c sz : Nat} {cc : List Value} {opn r : Bool} (h : o.op = .convert src src x)
    (hs : P.underlying src = some (.slice e)) (he : P.underlying e = some (.int .u8)) (hx : vals x = .slice (some ⟨b, off, none⟩) n c) (hn : n ≠ 0) (hc : s.get b = .cells cc e' opn sz r) :
    SndO P rd o vals s (.slice (some ⟨b, off, none⟩) n c) (s.put b (.cells cc e' opn sz r)) 0 (2 ^ b) := by
  have hb : s.get b ≠ .hole := by rw [hc]; simp
  refine sndO_of (fun c => by rw [h]; simp) (stat_put hb _) fun ro ρ C ev w hp hx' => ?_
  have hx1 := hx' x (by simp [h, Op.operands])
  rw [hx] at hx1
  obtain ⟨L, c', h2, hev, hcc⟩ := slice_inv hn hx1
  have hCb := hp.agree b (by rw [or_bit, bit_self]; simp) (St.lt_of_live hb)
  obtain ⟨L', cs, fr, g1, g2, g3⟩ := row_of hp.rel (hCb.trans hc)
  rw [h2] at g1
  cases g1
  have hsh : w.shape? L.blk = some (elemAt w L.blk, cs.size) := by simp [World.shape?, g2]
  obtain ⟨lo, hi⟩ := fr
  have d1 : OneOff w L.blk (w.freeze ⟨L.blk, cs.size, none⟩ 1) := by
    refine ⟨by simp [World.freeze], fun y hy => ?_, ?_, ?_, ?_⟩
    · simp [World.freeze, Array.getElem?_modify, Ne.symm hy]
    all_goals simp [World.freeze]
  have k1 : (w.freeze ⟨L.blk, cs.size, none⟩ 1).heap[L.blk]? = some (.cells cs (elemAt w L.blk) (if lo == hi then (cs.size, cs.size + 1) else (min lo cs.size, max hi (cs.size + 1)))) := by
    simp [World.freeze, Array.getElem?_modify, g2]
  have k2 : OR ρ L (.cells cc e' opn sz r) (.cells cs (elemAt w L.blk) (if lo == hi then (cs.size, cs.size + 1) else (min lo cs.size, max hi (cs.size + 1)))) := by
    obtain ⟨q1, q2, q3, q4, q5, q6, q7, q8⟩ := g3
    refine ⟨q1, q2, q3, q4, q5, q6, fun hr => .inr ?_, q8⟩
    have := q7 hr
    simp only at this
    by_cases hlh : lo = hi
    · rw [if_pos (by simpa using hlh)]; exact Nat.le_of_eq q4.symm
    · rw [if_neg (by simpa using hlh)]
      show L.lim ≤ min lo cs.size
      omega
  obtain ⟨p1, r2⟩ := step_put (o' := .cells cs (elemAt w L.blk) (lo, hi)) hp hb h2 d1 k1 k2
  refine ⟨ρ, .slice (some ⟨L.blk, L.base + off, none⟩) n c', _, .inl ?_, p1, r2, .slice b off n c c' L h2 hcc⟩
  simp [execOp, h, hev, convert, run_underlying hs, run_underlying he, markStringish, hsh]

def evConv (P : Program) (src dst : TypeId) (x : Value) (s : St) : Option Out :=
  match P.underlying src, P.underlying dst, x with
  | some (.slice e), some .string, .slice (some ⟨b, off, none⟩) n _ =>
    match P.underlying e, s.get b with
    | some (.int .u8), .cells cc _ _ _ _ =>
      if n ≠ 0 ∧ off + n ≤ cc.length then (match bytesOf (cut cc off n).toList with
        | some bs => some (.string ⟨bs.toArray⟩, s, 2 ^ b, 0)
        | none => none) else none
    | _, _ => none
  | some .string, some (.slice e), .string b =>
    match P.underlying e with
    | some (.int .u8) => some (.slice (some ⟨s.next, 0, none⟩) b.size b.size, s.push (.cells (b.data.toList.map (fun x => .int .u8 x.toNat)) e true 1 false), 0, 0)
    | _ => none
  | some (.slice e), some (.slice _), .slice (some ⟨b, off, none⟩) n c =>
    match P.underlying e, s.get b with
    | some (.int .u8), .cells cc e' opn sz r => if n ≠ 0 ∧ src = dst then some (.slice (some ⟨b, off, none⟩) n c, s.put b (.cells cc e' opn sz r), 0, 2 ^ b) else none
    | _, _ => none
  | _, _, _ => none
theorem evConv_snd {o : Oper} {vals : Operand → Value} {src dst : TypeId} {x : Operand} {v : Value} (ho : o.op = .convert src dst x) (h : evConv P src dst (vals x) s = some (v, s1, R, W)) : SndO P rd o vals s v s1 R W := by
  unfold evConv at h
  split at h
  · rename_i e b off n c hs hd hx
    split at h
    · rename_i cc e' opn sz r he hb
      split at h
      · rename_i hk
        split at h
        · rename_i bs hbs
          simp only [Option.some.injEq, Prod.mk.injEq] at h
          obtain ⟨rfl, rfl, rfl, rfl⟩ := h
          exact sndO_bytesString ho hs he hd hx hk.1 hb hk.2 hbs
        · cases h
      · cases h
    · cases h
  · rename_i e b hs hd hx
    split at h
    · rename_i he
      simp only [Option.some.injEq, Prod.mk.injEq] at h
      obtain ⟨rfl, rfl, rfl, rfl⟩ := h
      exact sndO_stringBytes ho hs hd he hx
    · cases h
  · rename_i e _ b off n c hs hd hx
    split at h
    · rename_i cc e' opn sz r he hb
      split at h
      · rename_i hk
        simp only [Option.some.injEq, Prod.mk.injEq] at h
        obtain ⟨rfl, rfl, rfl, rfl⟩ := h
        exact sndO_mark (by rw [← hk.2] at ho; exact ho) hs he hx hk.1 hb
      · cases h
    · cases h
  · cases h

def evEq (P : Program) (op : BinOp) (t : TypeId) (x y : Value) (s : St) : Option Out :=
  match op, refEq P t x y with
  | .eql, some r => some (.bool (r != false), s, 0, 0)
  | .neq, some r => some (.bool (r != true), s, 0, 0)
  | _, _ => none
theorem evEq_snd {o : Oper} {vals : Operand → Value} {op : BinOp} {t ty : TypeId} {x y : Operand} {v : Value} (ho : o.op = .binOp op t x y ty) (h : evEq P op t (vals x) (vals y) s = some (v, s1, R, W)) : SndO P rd o vals s v s1 R W := by
  unfold evEq at h
  split at h
  · rename_i r hr
    simp only [Option.some.injEq, Prod.mk.injEq] at h
    obtain ⟨rfl, rfl, rfl, rfl⟩ := h
    exact sndO_refEq (neg := false) (by simpa using ho) hr
  · rename_i r hr
    simp only [Option.some.injEq, Prod.mk.injEq] at h
    obtain ⟨rfl, rfl, rfl, rfl⟩ := h
    exact sndO_refEq (neg := true) (by simpa using ho) hr
  · cases h
def evToArr (P : Program) (t : TypeId) (x : Value) (s : St) : Option Out :=
  match P.underlying t, x with
  | some (.array k _), .slice (some ⟨b, off, none⟩) n _ => if n ≠ 0 ∧ k ≤ n then some (.pointer (some ⟨b, off, none⟩), s, 0, 0) else none
  | _, _ => none
theorem evToArr_snd {o : Oper} {vals : Operand → Value} {t : TypeId} {x : Operand} {v : Value} (ho : o.op = .sliceToArrayPointer t x) (h : evToArr P t (vals x) s = some (v, s1, R, W)) : SndO P rd o vals s v s1 R W := by
  unfold evToArr at h
  split at h
  · rename_i k e b off n c ht hx
    split at h
    · rename_i hk
      simp only [Option.some.injEq, Prod.mk.injEq] at h
      obtain ⟨rfl, rfl, rfl, rfl⟩ := h
      exact sndO_toArr ho ht hx hk.1 hk.2
    · cases h
  · cases h
def evRange (P : Program) (t : TypeId) (x : Value) (s : St) : Option Out :=
  match P.underlying t, x with
  | some .string, .string b => some (.pointer (some ⟨s.next, 0, none⟩), s.push (.iter b 0), 0, 0)
  | _, _ => none
theorem evRange_snd {o : Oper} {vals : Operand → Value} {t : TypeId} {x : Operand} {v : Value} (ho : o.op = .range t x) (h : evRange P t (vals x) s = some (v, s1, R, W)) : SndO P rd o vals s v s1 R W := by
  unfold evRange at h
  split at h
  · rename_i b ht hx
    simp only [Option.some.injEq, Prod.mk.injEq] at h
    obtain ⟨rfl, rfl, rfl, rfl⟩ := h
    exact sndO_rangeString ho ht hx
  · cases h
def evNext (x : Value) (s : St) : Option Out :=
  match x with
  | .pointer (some ⟨b, 0, none⟩) =>
    match s.get b with
    | .iter z p =>
      if p < z.size then some (.tuple #[.bool true, .int .i64 p, .int .i32 (Utf8.decode z p).1], s.put b (.iter z (p + (Utf8.decode z p).2)), 0, 2 ^ b)
      else some (.tuple #[.bool false], s, 2 ^ b, 0)
    | _ => none
  | _ => none
theorem evNext_snd {o : Oper} {vals : Operand → Value} {x : Operand} {v : Value} (ho : o.op = .next x true) (h : evNext (vals x) s = some (v, s1, R, W)) : SndO P rd o vals s v s1 R W := by
  unfold evNext at h
  split at h
  · rename_i b hx
    split at h
    · rename_i z p hb
      split at h
      · rename_i hp
        simp only [Option.some.injEq, Prod.mk.injEq] at h
        obtain ⟨rfl, rfl, rfl, rfl⟩ := h
        exact sndO_nextOn ho hx hb hp
      · rename_i hp
        simp only [Option.some.injEq, Prod.mk.injEq] at h
        obtain ⟨rfl, rfl, rfl, rfl⟩ := h
        exact sndO_nextEnd ho hx hb hp
    · cases h
  · cases h

/-- The first that serves. -/
def orElse (a b : Option Out) : Option Out := match a with | some r => some r | none => b
theorem orElse_cases {a b : Option Out} {r : Out} (h : orElse a b = some r) : a = some r ∨ b = some r := by
  cases a with
  | none => exact .inr h
  | some q => exact .inl h

def evCall (P : Program) (F : CallF) (vals : Operand → Value) (o : Oper) (c : Call) (s : St) : Option Out :=
  match c.callee, c.args.toList, c.argTypes.toList with
  | .builtin .append, [x, y], [tS, tX] => evAppend P tS tX (vals x) (vals y) s
  | .builtin .copy, [x, y], [tS, _] => evCopy P tS (vals x) (vals y) s
  | .builtin .unsafeSliceData, [x], _ => evSliceData (vals x) s
  | .builtin .unsafeString, [x, y], [pt, _] => orElse (evUnsafeString P pt (vals x) (vals y) s) (evGround P vals o s)
  | .builtin .len, [x], [t] =>
    match evLen P t (vals x) s with
    | some r => some r
    | none => evGround P vals o s
  | .value x, _, _ =>
    match vals x with
    | .func (.func f) as bs =>
      match P.funcs[f]? with
      | some fn => if fn.body.isSome = true then (if (fn.name == "runtime.NumGoroutine") = false then F f (as ++ c.args.map vals ++ bs) s else none) else (match isNoEsc fn, as.toList, c.args.toList, bs.toList with
        | true, [], [y], [] => some (vals y, s, 0, 0)
        | _, _, _, _ => evGround P vals o s)
      | none => none
    | _ => none
  | _, _, _ => evGround P vals o s
theorem arr1 {α : Type} {a : Array α} {x : α} (h : a.toList = [x]) : a = #[x] := by apply Array.ext'; simpa using h
theorem arr2 {α : Type} {a : Array α} {x y : α} (h : a.toList = [x, y]) : a = #[x, y] := by apply Array.ext'; simpa using h
theorem evCall_snd {F : CallF} {o : Oper} {c : Call} {vals : Operand → Value} {v : Value} (hF : ∀ f as s v s1 R W, F f as s = some (v, s1, R, W) → SndF P f as s v s1 R W) (ho : o.op = .call c) (h : evCall P F vals o c s = some (v, s1, R, W)) : SndO P rd o vals s v s1 R W := by
  unfold evCall at h
  split at h
  · rename_i x y tS tX hc ha hat
    exact evAppend_snd ho hc (arr2 ha) (arr2 hat) h
  · rename_i x y tS tX hc ha hat
    exact evCopy_snd ho hc (arr2 ha) (arr2 hat) h
  · rename_i hc ha
    exact evSliceData_snd ho hc (arr1 ha) h
  · rename_i x y pt it hc ha hat
    rcases orElse_cases h with h | h
    · exact evUnsafeString_snd ho hc (arr2 ha) (arr2 hat) h
    · exact evGround_snd h
  · rename_i x t hc ha hat
    split at h
    · rename_i r hr
      cases h
      exact evLen_snd ho hc (arr1 ha) (arr1 hat) hr
    · exact evGround_snd h
  · rename_i x hc
    split at h
    · rename_i f as bs hx
      split at h
      · rename_i fn hf
        split at h
        · rename_i hb
          split at h
          · rename_i hn
            exact sndO_call ho hc hx hf hb hn (hF _ _ _ _ _ _ _ h)
          · cases h
        · split at h
          · rename_i hn has hca hbs
            simp only [Option.some.injEq, Prod.mk.injEq] at h
            obtain ⟨rfl, rfl, rfl, rfl⟩ := h
            exact sndO_noEsc ho hc (arr1 hca) (by rw [hx, Array.toList_eq_nil_iff.1 has, Array.toList_eq_nil_iff.1 hbs]) hf hn
          · exact evGround_snd h
      · cases h
    · cases h
  · exact evGround_snd h

/-- An operation, whatever it is. -/
def evOp (P : Program) (F : CallF) (vals : Operand → Value) (o : Oper) (s : St) : Option Out :=
  match o.op with
  | .move x => some (vals x, s, 0, 0)
  | .assign x => some (vals x, s, 0, 0)
  | .pick c x y => match vals c with
    | .bool t => some (if t then vals x else vals y, s, 0, 0)
    | _ => none
  | .alloc t => evAlloc P t s
  | .box t x => some (.pointer (some ⟨s.next, 0, none⟩), s.push (.cells (vals x).cells.toList t false 0 false), 0, 0)
  | .build t ps => evBuild P vals t ps s
  | .buildSlice t n ps => evBuildSlice P vals t n ps s
  | .load t x => match loadM P s t (vals x) with
    | some (v, R) => some (v, s, R, 0)
    | none => none
  | .store t a x => evStore P t (vals a) (vals x) s
  | .nilCheck x => evNil (vals x) s
  | .fieldAddr t x k => evFieldAddr P t (vals x) k s
  | .indexAddr t x y => evIndexAddr P t (vals x) (vals y) s
  | .field t x k => evField P t (vals x) k s
  | .index t x y => orElse (evIndex P t (vals x) (vals y) s) (evGround P vals o s)
  | .extract x k => evExtract (vals x) k s
  | .makeSlice t x y => evMakeSlice P t (vals x) (vals y) s
  | .slice t x lo hi mx => orElse (evSlice P t (vals x) (lo.map vals) (hi.map vals) (mx.map vals) s) (evGround P vals o s)
  | .makeFunc fn as bs => evFunc vals fn as bs s
  | .makeInterface t x => evIface P t (vals x) s
  | .convert src dst x => orElse (evConv P src dst (vals x) s) (orElse (evToUnsafe P src dst (vals x) s) (evGround P vals o s))
  | .binOp op t x y _ => orElse (evEq P op t (vals x) (vals y) s) (evGround P vals o s)
  | .sliceToArrayPointer t x => evToArr P t (vals x) s
  | .range t x => evRange P t (vals x) s
  | .next x true => evNext (vals x) s
  | .call c => evCall P F vals o c s
  | _ => evGround P vals o s

theorem evOp_snd {F : CallF} {o : Oper} {vals : Operand → Value} {v : Value} (hF : ∀ f as s v s1 R W, F f as s = some (v, s1, R, W) → SndF P f as s v s1 R W) (h : evOp P F vals o s = some (v, s1, R, W)) : SndO P rd o vals s v s1 R W := by
  unfold evOp at h
  split at h
  · rename_i x ho
    simp only [Option.some.injEq, Prod.mk.injEq] at h
    obtain ⟨rfl, rfl, rfl, rfl⟩ := h
    exact sndO_move (.inl ho)
  · rename_i x ho
    simp only [Option.some.injEq, Prod.mk.injEq] at h
    obtain ⟨rfl, rfl, rfl, rfl⟩ := h
    exact sndO_move (.inr ho)
  · rename_i c x y ho
    split at h
    · rename_i t hc
      simp only [Option.some.injEq, Prod.mk.injEq] at h
      obtain ⟨rfl, rfl, rfl, rfl⟩ := h
      exact sndO_pick ho hc
    · cases h
  · rename_i t ho; exact evAlloc_snd ho h
  · rename_i t x ho
    simp only [Option.some.injEq, Prod.mk.injEq] at h
    obtain ⟨rfl, rfl, rfl, rfl⟩ := h
    exact sndO_box ho
  · rename_i t ps ho; exact evBuild_snd ho h
  · rename_i t n ps ho; exact evBuildSlice_snd ho h
  · rename_i t x ho
    split at h
    · rename_i u R0 hl
      simp only [Option.some.injEq, Prod.mk.injEq] at h
      obtain ⟨rfl, rfl, rfl, rfl⟩ := h
      exact sndO_load ho hl
    · cases h
  · rename_i t a x ho; exact evStore_snd ho h
  · rename_i x ho; exact evNil_snd ho h
  · rename_i t x k ho; exact evFieldAddr_snd ho h
  · rename_i t x y ho; exact evIndexAddr_snd ho h
  · rename_i t x k ho; exact evField_snd ho h
  · rename_i t x y ho
    rcases orElse_cases h with h | h
    · exact evIndex_snd ho h
    · exact evGround_snd h
  · rename_i x k ho; exact evExtract_snd ho h
  · rename_i t x y ho; exact evMakeSlice_snd ho h
  · rename_i t x lo hi mx ho
    rcases orElse_cases h with h | h
    · exact evSlice_snd ho h
    · exact evGround_snd h
  · rename_i fn as bs ho; exact evFunc_snd ho h
  · rename_i t x ho; exact evIface_snd ho h
  · rename_i src dst x ho
    rcases orElse_cases h with h | h
    · exact evConv_snd ho h
    · rcases orElse_cases h with h | h
      · exact evToUnsafe_snd ho h
      · exact evGround_snd h
  · rename_i op t x y ty ho
    rcases orElse_cases h with h | h
    · exact evEq_snd ho h
    · exact evGround_snd h
  · rename_i t x ho; exact evToArr_snd ho h
  · rename_i t x ho; exact evRange_snd ho h
  · rename_i x ho; exact evNext_snd ho h
  · rename_i c ho; exact evCall_snd hF ho h
  · exact evGround_snd h
end Mini
end Go.Proofs.YtgloclcbeohkhaaGreatDoor
