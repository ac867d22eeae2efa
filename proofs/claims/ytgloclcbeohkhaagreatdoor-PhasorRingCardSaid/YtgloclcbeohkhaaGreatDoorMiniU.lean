/-
  Pointers that lose their type and find it again, strings over a row of bytes: for strings.Builder.
-/
import Derived.Test.YtgloclcbeohkhaaGreatDoorMiniM
import Derived.Lib.Builder
import Derived.Lib.UnsafeStr
import Derived.Laws.Externs
namespace Go.Proofs.YtgloclcbeohkhaaGreatDoor
set_option linter.all false
namespace Mini
variable {P : Program} {rd : Option Nat} {s s1 : St} {R W : Nat} {ρ : Ren} {C : Nat → MObj} {w : World}

theorem ne_next : Extern.allNextRows.lookup "internal/abi.NoEscape" = none := by kernel_rfl
theorem ne_gen : Extern.allGenericRows.lookup "internal/abi.NoEscape" = none := by kernel_rfl
theorem ne_typ : Extern.allTypedRows.lookup "internal/abi.NoEscape" = none := by kernel_rfl
theorem ne_row : Extern.allRows.lookup "internal/abi.NoEscape" = some Extern.AbiNoEscape.same := by kernel_rfl
def isNoEsc (fn : Func) : Bool := fn.body.isNone && (fn.name == "internal/abi.NoEscape") && (Extern.allNextRows.lookup fn.origin).isNone
theorem noEsc_run {f : FuncId} {fn : Func} (hf : P.funcs[f]? = some fn) (h : isNoEsc fn = true) (v : Value) (w : World) : (callFunc f #[v]).run P w = .ok (.value v) w := by
  simp only [isNoEsc, Bool.and_eq_true, beq_iff_eq, Option.isNone_iff_eq_none] at h
  obtain ⟨⟨h1, h2⟩, h3⟩ := h
  have hn : Extern.findNext fn = none := by
    unfold Extern.findNext
    simp only [h2, h3, ne_next]
    rfl
  have he : Extern.find fn = some Extern.AbiNoEscape.same := by
    unfold Extern.find
    simp only [h2, ne_gen, ne_typ, ne_row]
    rfl
  rw [run_callFunc_extern hf (by rw [h2]; rfl) (by rw [h1]; rfl) hn he]
  rfl
theorem sndO_noEsc {o : Oper} {vals : Operand → Value} {c : Call} {x y : Operand} {f : FuncId} {fn : Func} (h : o.op = .call c) (hc : c.callee = .value x) (ha : c.args = #[y]) (hx : vals x = .func (.func f) #[] #[]) (hf : P.funcs[f]? = some fn) (hn : isNoEsc fn = true) :
    SndO P rd o vals s (vals y) s 0 0 :=
  sndO_still (fun c => by rw [h]; simp) fun ρ C ev w _ _ _ hv => by
    have hop : o.op.operands = #[x] ++ #[y] := by simp [h, Op.operands, Call.operands, hc, ha]
    have h1 := hv x (by rw [hop]; simp)
    have h2 := hv y (by rw [hop]; simp)
    rw [hx] at h1
    generalize he : ev x = z at h1
    cases h1 with
    | func fn' as' bs' as2 bs2 hpf e1 e2 e3 e4 =>
      have ea : as2 = #[] := Array.eq_empty_of_size_eq_zero (e1.symm.trans rfl)
      have eb : bs2 = #[] := Array.eq_empty_of_size_eq_zero (e2.symm.trans rfl)
      subst ea eb
      refine ⟨ev y, ?_, h2⟩
      have hr := noEsc_run hf hn (ev y) w
      simp only [execOp, h, resolve, hc, he, Deferred.ofValue, Sem.run_bind, Sem.run_pure, Result.andThen_ok, invoke, ha]
      simpa using hr

def evToUnsafe (P : Program) (src dst : TypeId) (x : Value) (s : St) : Option Out :=
  match P.underlying src, P.underlying dst, x with
  | some (.pointer t), some .unsafePointer, .pointer (some ⟨b, off, none⟩) => match P.info? t, s.get b with
    | some j, .cells c _ _ _ _ => if j.size ≠ 0 ∧ off < c.length then some (x, s, 2 ^ b, 0) else none
    | _, _ => none
  | some .unsafePointer, some (.pointer u), .pointer (some ⟨b, off, none⟩) => match P.info? u, s.get b with
    | some _, .cells c e false _ false => if liesAt P P.depth e (c.length / P.cellsOf e) off u 1 = true then some (x, s, 2 ^ b, 0) else none
    | _, _ => none
  | _, _, _ => none
theorem evToUnsafe_snd {o : Oper} {vals : Operand → Value} {src dst : TypeId} {x : Operand} {v : Value} (ho : o.op = .convert src dst x) (h : evToUnsafe P src dst (vals x) s = some (v, s1, R, W)) : SndO P rd o vals s v s1 R W := by
  unfold evToUnsafe at h
  split at h
  · rename_i t b off hs hd hx
    split at h
    · rename_i j c e opn sz r hj hc
      split at h
      · rename_i hk
        simp only [Option.some.injEq, Prod.mk.injEq] at h
        obtain ⟨rfl, rfl, rfl, rfl⟩ := h
        refine sndO_still (fun c => by rw [ho]; simp) fun ρ C ev w _ ag hr hv => ?_
        have h1 := hv x (by simp [ho, Op.operands])
        rw [hx] at h1
        obtain ⟨L, h2, he⟩ := ptr_inv h1
        have hbb := ag b (bit_self b) (St.lt_of_live (by rw [hc]; simp))
        obtain ⟨L', cs, fr, q1, q2, q3⟩ := row_of hr (hbb.trans hc)
        rw [h2] at q1
        cases q1
        obtain ⟨p1, p2, p3, p4, p5, p6, p7, p8⟩ := q3
        have hsh : w.shape? L.blk = some (elemAt w L.blk, cs.size) := by simp [World.shape?, q2]
        have hrun := Lib.run_to_unsafe (P := P) w (src := src) (dst := dst) ⟨L.blk, L.base + off, none⟩ hs hd hj hk.1 hsh (by show L.base + off < cs.size; omega)
        exact ⟨.pointer (some ⟨L.blk, L.base + off, none⟩), by simp [execOp, ho, he, hrun], by rw [hx]; exact .ptr b off L h2⟩
      · cases h
    · cases h
  · rename_i u b off hs hd hx
    split at h
    · rename_i j c e sz hj hc
      split at h
      · rename_i hk
        simp only [Option.some.injEq, Prod.mk.injEq] at h
        obtain ⟨rfl, rfl, rfl, rfl⟩ := h
        refine sndO_still (fun c => by rw [ho]; simp) fun ρ C ev w _ ag hr hv => ?_
        have h1 := hv x (by simp [ho, Op.operands])
        rw [hx] at h1
        obtain ⟨L, h2, he⟩ := ptr_inv h1
        have hbb := ag b (bit_self b) (St.lt_of_live (by rw [hc]; simp))
        obtain ⟨L', cs, fr, q1, q2, q3⟩ := row_wr hr (hbb.trans hc)
        rw [h2] at q1
        cases q1
        obtain ⟨p1, p2, p3, p4, p5, p6, p7, p8⟩ := q3
        obtain ⟨z1, z2⟩ := p8 rfl
        have hsh : w.shape? L.blk = some (e, c.length) := by simp [World.shape?, q2]; omega
        have hrun := Lib.run_from_unsafe (P := P) w (src := src) (dst := dst) ⟨L.blk, L.base + off, none⟩ hs hd hj hsh (by rw [z1, Nat.zero_add]; exact hk)
        exact ⟨.pointer (some ⟨L.blk, L.base + off, none⟩), by simp [execOp, ho, he, hrun], by rw [hx]; exact .ptr b off L h2⟩
      · cases h
    · cases h
  · cases h

/-- unsafe.SliceData -/
def evSliceData (x : Value) (s : St) : Option Out :=
  match x with
  | .slice (some a) n c => if n ≠ 0 ∧ n ≤ c then some (.pointer (some a), s, 0, 0) else none
  | _ => none
theorem evSliceData_snd {o : Oper} {c : Call} {vals : Operand → Value} {x : Operand} {v : Value} (ho : o.op = .call c) (hc : c.callee = .builtin .unsafeSliceData) (ha : c.args = #[x]) (h : evSliceData (vals x) s = some (v, s1, R, W)) : SndO P rd o vals s v s1 R W := by
  unfold evSliceData at h
  split at h
  · rename_i a n cp hx
    split at h
    · rename_i hk
      simp only [Option.some.injEq, Prod.mk.injEq] at h
      obtain ⟨rfl, rfl, rfl, rfl⟩ := h
      refine sndO_still (fun c => by rw [ho]; simp) fun ρ C ev w _ _ _ hv => ?_
      have h1 := hv x (by simp [ho, Op.operands, Call.operands, hc, ha])
      rw [hx] at h1
      generalize he : ev x = z at h1
      cases h1 with
      | empty a a' => exact absurd rfl hk.1
      | slice b off n c c' L hL hcc =>
        have hrun := Lib.run_unsafeSliceData_row (P := P) w c.argTypes o.type ⟨L.blk, L.base + off, none⟩ n c' (by omega)
        refine ⟨.pointer (some ⟨L.blk, L.base + off, none⟩), ?_, .ptr b off L hL⟩
        simp [execOp, ho, resolve, hc, ha, invoke, builtin, he, hrun]
    · cases h
  · cases h

theorem liesAt_bytes' {e : TypeId} (hc : P.cellsOf e = 1) (count o n : Nat) (hn : o + n ≤ count) : liesAt P P.depth e count o e n = true := by
  have hd : P.depth = (2 * (P.types.size + Made.depth) + 1) + 1 := rfl
  rw [hd]
  simp only [liesAt, Bool.or_eq_true]
  left
  rw [hd]
  simp [rowAt, hc, hn, sameLayout, Nat.mod_one]
theorem run_unsafeString_at (pt it ty e : TypeId) (hp : P.underlying pt = some (.pointer e)) (hc : P.cellsOf e = 1) (g o cells : Nat) (hsh : w.shape? g = some (e, cells)) (l : List UInt8) (h0 : l ≠ []) (hn : o + l.length ≤ cells) (h63 : l.length ≤ 9223372036854775807)
    (hcell : ∀ j x, l[j]? = some x → w.cell? ((⟨g, o, none⟩ : Addr).add j) = some (.int .u8 x.toNat)) :
    (Builtin.unsafeString_ #[pt, it] ty #[.pointer (some ⟨g, o, none⟩), .int .i64 l.length]).run P w = .ok (.string ⟨l.toArray⟩) (w.freeze ⟨g, o, none⟩ l.length) := by
  have hl : l.length ≠ 0 := by simpa using h0
  have hlb := Lib.run_loadBytes (P := P) w l ⟨g, o, none⟩ .empty hcell
  have hlies := liesAt_bytes' (P := P) hc (cells / P.cellsOf e) o l.length (by rw [hc]; simpa using hn)
  have h63' : ¬ (9223372036854775807 : Int) < (l.length : Int) := by omega
  have hdef : Builtin.unsafeString_ #[pt, it] ty #[.pointer (some ⟨g, o, none⟩), .int .i64 l.length] =
      (do
        let n ← asInt (.int .i64 l.length)
        if n < 0 then runtimePanic (.error "unsafe.String: len out of range")
        if n > IntKind.i64.max then unsupported (.unsafePointer "String: a length above the largest int")
        if n = 0 then pure (.string .empty)
        else if ← variablesAt ⟨g, o, none⟩ (← elemOf pt) n.toNat then do
          let s ← loadBytes ⟨g, o, none⟩ .empty n.toNat
          freeze ⟨g, o, none⟩ n.toNat
          pure (.string s)
        else unsupported (.unsafePointer "String: not so many bytes at ptr")) := rfl
  rw [hdef]
  have hmax : IntKind.i64.max = 9223372036854775807 := rfl
  have hneg : ¬ (l.length : Int) < 0 := by omega
  simp [asInt, asIntOf, hmax, h63', hneg, hl, variablesAt, hsh, elemOf, run_underlying hp, hlies, hlb]

def evUnsafeString (P : Program) (pt : TypeId) (x y : Value) (s : St) : Option Out :=
  match P.underlying pt, x, y with
  | some (.pointer e), .pointer (some ⟨b, off, none⟩), .int .i64 k => match s.get b with
    | .cells cc e' opn sz false => match bytesOf (cut cc off k.toNat).toList with
      | some bs =>
        if e' = e ∧ P.cellsOf e = 1 ∧ 0 < k ∧ off + k.toNat ≤ cc.length ∧ k ≤ 9223372036854775807 then some (.string ⟨bs.toArray⟩, s.put b (.cells cc e' opn sz true), 0, 2 ^ b) else none
      | none => none
    | _ => none
  | _, _, _ => none
theorem evUnsafeString_snd {o : Oper} {c : Call} {vals : Operand → Value} {x y : Operand} {pt it : TypeId} {v : Value} (ho : o.op = .call c) (hc : c.callee = .builtin .unsafeString) (ha : c.args = #[x, y]) (hat : c.argTypes = #[pt, it]) (h : evUnsafeString P pt (vals x) (vals y) s = some (v, s1, R, W)) : SndO P rd o vals s v s1 R W := by
  unfold evUnsafeString at h
  split at h
  · rename_i e b off k hp hx hy
    split at h
    · rename_i cc e' opn sz hcb
      split at h
      · rename_i bs hbs
        split at h
        · rename_i hk
          simp only [Option.some.injEq, Prod.mk.injEq] at h
          obtain ⟨rfl, rfl, rfl, rfl⟩ := h
          obtain ⟨rfl, k2, k3, k4, k5⟩ := hk
          have hb : s.get b ≠ .hole := by rw [hcb]; simp
          refine sndO_of (fun c => by rw [ho]; simp) (stat_put hb _) fun ro ρ C ev w hpre hv => ?_
          have hop : o.op.operands = #[x, y] := by simp [ho, Op.operands, Call.operands, hc, ha]
          have h1 := hv x (by rw [hop]; simp)
          have h2 := hv y (by rw [hop]; simp)
          rw [hx] at h1
          rw [hy] at h2
          obtain ⟨L, m2, hex⟩ := ptr_inv h1
          have hey : ev y = .int .i64 k := by generalize ev y = z at h2; cases h2; rfl
          have hCb := hpre.agree b (by rw [or_bit, bit_self]; simp) (St.lt_of_live hb)
          obtain ⟨L', cs, fr, g1, g2, g3⟩ := row_wr hpre.rel (hCb.trans hcb)
          rw [m2] at g1
          cases g1
          obtain ⟨p1, p2, p3, p4, p5, p6, p7, p8⟩ := g3
          obtain ⟨n, rfl⟩ : ∃ n : Nat, k = n := ⟨k.toNat, by omega⟩
          obtain ⟨z1, z2⟩ := bytesOf_get _ _ hbs
          have hl : bs.length = n := by rw [z1]; simp [cut]; omega
          have hsh : w.shape? L.blk = some (e', cs.size) := by simp [World.shape?, g2]
          have hrun := run_unsafeString_at (P := P) (w := w) pt it o.type e' hp k2 L.blk (L.base + off) cs.size hsh bs (by intro hn; rw [hn] at hl; simp at hl; omega) (by omega) (by omega) (fun j x hj => by
            rw [add_mk, cell_row g2]
            have hlt : j < bs.length := (List.getElem?_eq_some_iff.1 hj).1
            have hm : cc[off + j]? = some (.int .u8 (bs[j].toNat : Int)) := by
              have := z2 j hlt
              simp only [cut, List.getElem?_take, List.getElem?_drop] at this
              rw [if_pos (by omega)] at this
              exact this
            obtain ⟨v', q1, q2⟩ := p6 _ _ hm
            rw [Nat.add_assoc, q1, int_inv q2]
            rw [List.getElem?_eq_getElem hlt] at hj
            cases hj
            rfl)
          rw [hl] at hrun
          have k1 : ∃ fr', (w.freeze ⟨L.blk, L.base + off, none⟩ n).heap[L.blk]? = some (.cells cs e' fr') := by
            obtain ⟨lo, hi⟩ := fr
            exact ⟨_, by unfold World.freeze; rw [if_neg (by omega)]; simp [Array.getElem?_modify, g2]; rfl⟩
          obtain ⟨fr', k1⟩ := k1
          have d1 : OneOff w L.blk (w.freeze ⟨L.blk, L.base + off, none⟩ n) := by
            unfold World.freeze
            rw [if_neg (by omega)]
            refine ⟨by simp, fun y hy => ?_, rfl, rfl, rfl⟩
            simp [Array.getElem?_modify, Ne.symm hy]
          obtain ⟨p1', r2⟩ := step_put (o' := .cells cs e' fr) hpre hb m2 d1 k1 (show OR ρ L (.cells cc e' opn sz true) (.cells cs e' fr') by exact ⟨p1, p2, fun _ => rfl, p4, p5, p6, (fun hf => by simp at hf), p8⟩)
          refine ⟨ρ, .string ⟨bs.toArray⟩, _, .inl ?_, p1', r2, .string _⟩
          simp [execOp, ho, resolve, hc, ha, hat, invoke, builtin, hex, hey, hrun]
        · cases h
      · cases h
    · cases h
  · cases h
end Mini
end Go.Proofs.YtgloclcbeohkhaaGreatDoor
