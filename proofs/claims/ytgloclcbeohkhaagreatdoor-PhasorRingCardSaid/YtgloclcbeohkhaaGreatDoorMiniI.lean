/-
  Operations: copy, bytes and strings, comparisons with nil, ranges over strings.
-/
import Derived.Test.YtgloclcbeohkhaaGreatDoorMiniH
import Derived.Laws.Cover3
namespace Go.Proofs.YtgloclcbeohkhaaGreatDoor
set_option linter.all false
namespace Mini
variable {P : Program} {rd : Option Nat} {s s1 : St} {R W : Nat} {ro : Option Nat} {ρ : Ren} {C : Nat → MObj} {w : World}

/-! ### copy -/
def truncV (n : Nat) : Value → Value
  | .slice a _ c => .slice a n c
  | .string b => .string (b.extract 0 n)
  | v => v
def lenV : Value → Option Nat
  | .slice _ n _ => some n
  | .string b => some b.size
  | _ => none
theorem len_vr {v v' : Value} (h : VR ρ v v') {n : Nat} (hn : lenV v = some n) : (∀ w, (Builtin.lenOf v').run P w = .ok n w) := by
  cases h <;> simp [lenV] at hn <;> subst hn <;> intro w <;> simp [Builtin.lenOf]
theorem trunc_vr {v v' : Value} (h : VR ρ v v') {m n : Nat} (hn : lenV v = some m) (hle : n ≤ m) : VR ρ (truncV n v) (truncV n v') := by
  cases h with
  | slice0 k c => exact .slice0 n c
  | empty a a' =>
    simp only [lenV, Option.some.injEq] at hn
    have : n = 0 := by omega
    subst this
    exact .empty a a'
  | slice b o k c c' L h1 h2 => exact .slice b o n c c' L h1 h2
  | string b => exact .string _
  | _ => simp [lenV] at hn
theorem first_trunc {v : Value} {m n size : Nat} (hn : lenV v = some m) : Builtin.firstCells size n (truncV n v) = Builtin.firstCells size n v := by
  cases v with
  | slice a k c => cases a <;> rfl
  | string b =>
    have e : (b.extract 0 n).extract 0 n = b.extract 0 n := by
      apply ByteArray.ext
      simp
    simp [truncV, Builtin.firstCells, e]
  | _ => simp [lenV] at hn

theorem exec_copy {o : Oper} {c : Call} {x y : Operand} {tS tX : TypeId} (h : o.op = .call c) (hc : c.callee = .builtin .copy) (ha : c.args = #[x, y]) (hat : c.argTypes = #[tS, tX]) (ev : Operand → Value) (w : World) :
    (execOp ev o).run P w = ((Builtin.copy_ #[tS, tX] o.type #[ev x, ev y]).run P w).andThen fun v w' => .ok (.value v) w' := by
  simp [execOp, h, resolve, hc, ha, hat, invoke, builtin]
theorem sndO_copy {o : Oper} {c : Call} {vals : Operand → Value} {x y : Operand} {tD tX e e' : TypeId} {i : TypeInfo} {m n dl dc b off sz : Nat} {l cc : List Value} {opn : Bool} {R0 : Nat} (h : o.op = .call c) (hc : c.callee = .builtin .copy) (ha : c.args = #[x, y]) (hat : c.argTypes = #[tD, tX])
    (ht : P.underlying tD = some (.slice e)) (hi : P.info? e = some i) (hm : lenV (vals y) = some m) (hn : n = Nat.min m dl) (hel : elemsM s i.size (truncV n (vals y)) = some (n, l, R0)) (hll : l.length = n * i.size) (hn0 : dl ≠ 0)
    (hx0 : vals x = .slice (some ⟨b, off, none⟩) dl dc) (hb : s.get b = .cells cc e' opn sz false) (hlen : off + n * i.size ≤ cc.length) (h1o : l.all Value.oneCell' = true) :
    SndO P rd o vals s (.int .i64 n) (s.put b (.cells (setL cc off l) e' opn sz false)) R0 (2 ^ b) := by
  have hbl : s.get b ≠ .hole := by rw [hb]; simp
  refine sndO_of (fun c => by rw [h]; simp) (stat_put hbl _) fun ro ρ C ev w hp hx => ?_
  have hop : o.op.operands = #[x, y] := by simp [h, Op.operands, Call.operands, hc, ha]
  have h1 := hx x (by rw [hop]; simp)
  have h2 := hx y (by rw [hop]; simp)
  have hmn : n ≤ m := by rw [hn]; exact Nat.min_le_left _ _
  obtain ⟨q1, arr, q2, q3⟩ := elems_run (P := P) (w := w) hel (trunc_vr h2 hm hmn) (fun b hb => hp.agree b (by rw [or_bit, hb]; rfl)) hp.rel
  have hlv : lenV (ev y) = some m := by generalize vals y = v at h2 hm; generalize ev y = v' at h2; cases h2 <;> simp_all [lenV]
  have hf := q2 w rfl
  rw [first_trunc hlv] at hf
  rw [hx0] at h1
  obtain ⟨L, c', k1, he, _⟩ := slice_inv hn0 h1
  have hCb := hp.agree b (by rw [or_bit, bit_self]; simp) (St.lt_of_live hbl)
  obtain ⟨L', cs, fr, g1, g2, g3⟩ := row_wr hp.rel (hCb.trans hb)
  rw [k1] at g1
  cases g1
  have hsa : arr.size = n * i.size := by rw [← q3.1]; simpa using hll
  obtain ⟨w1, o1, r1, d1, m1, m2⟩ := storeCells_run (P := P) (off := off) l arr.toList cc 0 w _ g2 g3 (by omega) (by simpa using hll.trans hsa.symm)
    (fun j v v' p q => q3.2 j v v' (by simpa using p) (by simpa using q)) (all_one q3 (by simpa using h1o))
  obtain ⟨p1, r2⟩ := step_put (o' := .cells cs e' fr) hp hbl k1 d1 m1 (by simpa using m2)
  have hsr : (sizeOf e).run P w = .ok i.size w := by simp [sizeOf, run_typeInfo w hi]
  refine ⟨ρ, .int .i64 n, w1, .inl ?_, p1, r2, .int _ _⟩
  rw [exec_copy h hc ha hat, he]
  have hlr := len_vr (P := P) h2 hm w
  simp [Builtin.copy_, run_underlying ht, hlr, hsr, ← hn, hf, r1, goInt]

/-! ### Bytes and strings -/
def bytesOf : List Value → Option (List UInt8)
  | [] => some []
  | .int .u8 k :: l => if 0 ≤ k ∧ k < 256 then (bytesOf l).map (UInt8.ofNat k.toNat :: ·) else none
  | _ => none
theorem bytesOf_get : ∀ (l : List Value) (r : List UInt8), bytesOf l = some r → r.length = l.length ∧ ∀ (j : Nat) (hj : j < r.length), l[j]? = some (.int .u8 (r[j].toNat : Int))
  | [], r, h => by simp only [bytesOf, Option.some.injEq] at h; subst h; exact ⟨rfl, fun j hj => by simp at hj⟩
  | .int .u8 k :: l, r, h => by
    simp only [bytesOf] at h
    by_cases c : 0 ≤ k ∧ k < 256
    · rw [if_pos c, Option.map_eq_some_iff] at h
      obtain ⟨r', h1, rfl⟩ := h
      obtain ⟨g1, g2⟩ := bytesOf_get l r' h1
      refine ⟨by simp [g1], fun j hj => ?_⟩
      match j, hj with
      | 0, _ =>
        simp only [List.getElem?_cons_zero, List.getElem_cons_zero]
        congr 2
        rw [UInt8.toNat_ofNat_of_lt' (by show k.toNat < 256; omega)]
        omega
      | j + 1, hj => simpa using g2 j (by simpa using hj)
    · rw [if_neg c] at h; cases h
  | .bool _ :: _, _, h | .float _ _ :: _, _, h | .complex _ _ _ :: _, _, h | .string _ :: _, _, h | .pointer _ :: _, _, h | .slice _ _ _ :: _, _, h | .map _ :: _, _, h | .chan _ :: _, _, h | .func _ _ _ :: _, _, h | .nilFunc :: _, _, h | .iface _ _ :: _, _, h
  | .nilIface :: _, _, h | .agg _ :: _, _, h | .tuple _ :: _, _, h | .int .i8 _ :: _, _, h | .int .i16 _ :: _, _, h | .int .i32 _ :: _, _, h | .int .i64 _ :: _, _, h | .int .u16 _ :: _, _, h | .int .u32 _ :: _, _, h | .int .u64 _ :: _, _, h => by simp [bytesOf] at h

theorem sndO_bytesString {o : Oper} {vals : Operand → Value} {src dst e e' : TypeId} {x : Operand} {b off n c sz : Nat} {cc : List Value} {opn r : Bool} {bs : List UInt8} (h : o.op = .convert src dst x)
    (hs : P.underlying src = some (.slice e)) (he : P.underlying e = some (.int .u8)) (hd : P.underlying dst = some .string) (hx : vals x = .slice (some ⟨b, off, none⟩) n c) (hn : n ≠ 0) (hb : s.get b = .cells cc e' opn sz r) (hlen : off + n ≤ cc.length)
    (hbs : bytesOf (cut cc off n).toList = some bs) : SndO P rd o vals s (.string ⟨bs.toArray⟩) s (2 ^ b) 0 :=
  sndO_still (fun c => by rw [h]; simp) fun ρ C ev w _ ag hr hxs => by
    have h1 := hxs x (by simp [h, Op.operands])
    rw [hx] at h1
    obtain ⟨L, c', k1, hev, _⟩ := slice_inv hn h1
    have hbb := ag b (bit_self b) (St.lt_of_live (by rw [hb]; simp))
    obtain ⟨L', cs, fr, q1, q2, q3⟩ := row_of hr (hbb.trans hb)
    rw [k1] at q1
    cases q1
    obtain ⟨p1, p2, p3, p4, p5, p6, p7, p8⟩ := q3
    obtain ⟨g1, g2⟩ := bytesOf_get _ _ hbs
    have hl : bs.length = n := by rw [g1]; simp [cut]; omega
    have hrun := run_convert_bytes_back (P := P) w src dst e ⟨L.blk, L.base + off, none⟩ c' bs hs he hd fun j hj => by
      rw [add_mk, cell_row q2]
      have hj' : j < n := by omega
      have hm : cc[off + j]? = some (.int .u8 (bs[j].toNat : Int)) := by
        have := g2 j hj
        simp only [cut, List.getElem?_take, List.getElem?_drop] at this
        rw [if_pos hj'] at this
        exact this
      obtain ⟨v', m1, m2⟩ := p6 _ _ hm
      rw [Nat.add_assoc, m1, int_inv m2]
    rw [hl] at hrun
    exact ⟨_, by simp [execOp, h, hev, hrun], .string _⟩

theorem sndO_stringBytes {o : Oper} {vals : Operand → Value} {src dst e : TypeId} {x : Operand} {b : ByteArray} (h : o.op = .convert src dst x)
    (hs : P.underlying src = some .string) (hd : P.underlying dst = some (.slice e)) (he : P.underlying e = some (.int .u8)) (hx : vals x = .string b) :
    SndO P rd o vals s (.slice (some ⟨s.next, 0, none⟩) b.size b.size) (s.push (.cells (b.data.toList.map (fun x => .int .u8 x.toNat)) e true 1 false)) 0 0 :=
  sndO_of (fun c => by rw [h]; simp) (stat_push s _) fun ro ρ C ev w hp hxs => by
    have h1 := hxs x (by simp [h, Op.operands])
    rw [hx] at h1
    have hev : ev x = .string b := by generalize ev x = v at h1; cases h1; rfl
    have hrun := run_bytes_of_string (P := P) w src dst e b hs hd he
    have hcap : b.size ≤ grownCap w b.size 0 e := by simp only [grownCap, Question.cut]; omega
    generalize grownCap w b.size 0 e = cap at hrun hcap
    have hdl : b.data.toList.length = b.size := Array.length_toList
    have hsz : (bytesRow b cap).size = cap := by
      have e1 : b.data.size = b.size := rfl
      simp only [bytesRow, Array.size_append, Array.size_map, Array.size_replicate, e1]
      omega
    have ho : OR ρ ⟨w.drew.heap.size, 0, true, 1, (bytesRow b cap).size⟩ (.cells (b.data.toList.map (fun x => .int .u8 x.toNat)) e true 1 false) (.cells (bytesRow b cap) e ((bytesRow b cap).size, (bytesRow b cap).size + 1)) := by
      refine ⟨rfl, rfl, fun _ => rfl, rfl, by simp [hsz]; omega, fun i v hi => ⟨v, ?_, ?_⟩, fun _ => .inr (Nat.le_refl _), fun hf => by cases hf⟩
      · have hlt : i < b.size := by
          have := (List.getElem?_eq_some_iff.1 hi).1
          simpa [hdl] using this
        simp only [Nat.zero_add, bytesRow]
        rw [Array.getElem?_append_left (by simpa using hlt)]
        simpa using hi
      · simp only [List.getElem?_map, Option.map_eq_some_iff] at hi
        obtain ⟨x, _, rfl⟩ := hi
        exact .int _ _
    obtain ⟨p1, r1, hself⟩ := step_new hp.drew rfl ho
    refine ⟨_, .slice (some ⟨w.heap.size, 0, none⟩) b.size cap, _, .inl (by simp [execOp, h, hev, hrun]), p1.drew, r1, ?_⟩
    exact .slice s.next 0 b.size b.size cap _ hself (.inr ⟨rfl, hcap, by simp [hsz]⟩)

/-! ### Comparisons with nil, and of one place with itself -/
theorem equal_run {t : TypeId} {x y : Value} {r : Bool} (h : ∀ d : Nat, (Op.equalIn (d + 1) t x y).run P w = .ok r w) : (Op.equal t x y).run P w = .ok r w := by
  simp [Op.equal, Op.maxDepth, h 9999]
def isRef : Value → Bool
  | .slice _ _ _ | .pointer _ | .map _ | .func _ _ _ | .nilFunc | .iface _ _ | .nilIface => true
  | _ => false
/-- What comes of a comparison of references. -/
def refEq (P : Program) (t : TypeId) (x y : Value) : Option Bool :=
  match P.underlying t, x, y with
  | some (.slice _), .slice none _ _, .slice b _ _ => some b.isNone
  | some (.slice _), .slice (some _) _ _, .slice none _ _ => some false
  | some (.pointer _), .pointer none, .pointer b => some b.isNone
  | some (.pointer _), .pointer (some _), .pointer none => some false
  | some (.pointer e), .pointer (some a), .pointer (some b) => match P.info? e with
    | some i => if i.size ≠ 0 ∧ a.block = b.block ∧ a.spot = none ∧ b.spot = none then some (a == b) else none
    | none => none
  | some (.map _ _), .map none, .map b => some b.isNone
  | some (.map _ _), .map (some _), .map none => some false
  | some (.func _ _ _), .nilFunc, .nilFunc => some true
  | some (.func _ _ _), .nilFunc, .func _ _ _ => some false
  | some (.func _ _ _), .func _ _ _, .nilFunc => some false
  | some (.interface _), .nilIface, .iface _ _ => some false
  | some (.interface _), .iface _ _, .nilIface => some false
  | _, _, _ => none
theorem beq_addr (b o1 o2 k base : Nat) : ((⟨k, base + o1, none⟩ : Addr) == ⟨k, base + o2, none⟩) = ((⟨b, o1, none⟩ : Addr) == ⟨b, o2, none⟩) := by
  rw [Bool.eq_iff_iff, beq_iff_eq, beq_iff_eq, Addr.mk.injEq, Addr.mk.injEq]
  constructor
  · rintro ⟨_, h, _⟩; exact ⟨rfl, by omega, rfl⟩
  · rintro ⟨_, h, _⟩; exact ⟨rfl, by omega, rfl⟩
theorem refEq_run {t : TypeId} {x y x' y' : Value} {r : Bool} (h : refEq P t x y = some r) (hx : VR ρ x x') (hy : VR ρ y y') (d : Nat) : (Op.equalIn (d + 1) t x' y').run P w = .ok r w := by
  unfold refEq at h
  split at h
  all_goals first | (cases h; done) | skip
  · obtain ⟨e, ht⟩ : ∃ e, P.underlying t = some (.slice e) := ⟨_, by assumption⟩
    cases hx; cases hy <;> (cases h; simp [Op.equalIn, run_underlying ht])
  · obtain ⟨e, ht⟩ : ∃ e, P.underlying t = some (.slice e) := ⟨_, by assumption⟩
    cases hy; cases hx <;> (cases h; simp [Op.equalIn, run_underlying ht])
  · obtain ⟨e, ht⟩ : ∃ e, P.underlying t = some (.pointer e) := ⟨_, by assumption⟩
    cases hx; cases hy <;> (cases h; simp [Op.equalIn, run_underlying ht])
  · obtain ⟨e, ht⟩ : ∃ e, P.underlying t = some (.pointer e) := ⟨_, by assumption⟩
    cases hy; cases hx <;> (cases h; simp [Op.equalIn, run_underlying ht])
  · rename_i e a b ht
    cases hi : P.info? e with
    | none => rw [hi] at h; cases h
    | some i =>
      rw [hi] at h
      simp only at h
      by_cases c : i.size ≠ 0 ∧ a.block = b.block ∧ a.spot = none ∧ b.spot = none
      · rw [if_pos c] at h
        cases h
        obtain ⟨c1, c2, c3, c4⟩ := c
        have hsz : (sizeOf e).run P w = .ok i.size w := by simp [sizeOf, run_typeInfo w hi]
        cases hx with
        | ptr b1 o1 L1 k1 =>
          cases hy with
          | ptr b2 o2 L2 k2 =>
            simp only at c2
            subst c2
            rw [k1] at k2
            cases k2
            simp [Op.equalIn, run_underlying ht, hsz, c1, sameAddr]
            exact beq_addr b1 o1 o2 L1.blk L1.base
      · rw [if_neg c] at h; cases h
  · obtain ⟨k, e, ht⟩ : ∃ k e, P.underlying t = some (.map k e) := ⟨_, _, by assumption⟩
    cases hx; cases hy <;> (cases h; simp [Op.equalIn, run_underlying ht])
  · obtain ⟨k, e, ht⟩ : ∃ k e, P.underlying t = some (.map k e) := ⟨_, _, by assumption⟩
    cases hy; cases hx <;> (cases h; simp [Op.equalIn, run_underlying ht])
  · obtain ⟨k, e, u, ht⟩ : ∃ k e u, P.underlying t = some (.func k e u) := ⟨_, _, _, by assumption⟩
    cases hx; cases hy; cases h; simp [Op.equalIn, run_underlying ht]
  · obtain ⟨k, e, u, ht⟩ : ∃ k e u, P.underlying t = some (.func k e u) := ⟨_, _, _, by assumption⟩
    cases hx; cases hy <;> (cases h; simp [Op.equalIn, run_underlying ht])
  · obtain ⟨k, e, u, ht⟩ : ∃ k e u, P.underlying t = some (.func k e u) := ⟨_, _, _, by assumption⟩
    cases hy; cases hx <;> (cases h; simp [Op.equalIn, run_underlying ht])
  · obtain ⟨e, ht⟩ : ∃ e, P.underlying t = some (.interface e) := ⟨_, by assumption⟩
    cases hx; cases hy; cases h; simp [Op.equalIn, run_underlying ht]
  · obtain ⟨e, ht⟩ : ∃ e, P.underlying t = some (.interface e) := ⟨_, by assumption⟩
    cases hy; cases hx; cases h; simp [Op.equalIn, run_underlying ht]
theorem guard_ref {op : BinOp} {t : TypeId} {x y : Operand} {u v : Value} {r : Bool} (h : refEq P t u v = some r) {u' v' : Value} (hu : VR ρ u u') (hv : VR ρ v v') : (eqGuard op t x y u' v').run P w = .ok () w := by
  have : eqGuard op t x y u' v' = pure () := by
    unfold refEq at h
    split at h
    all_goals first | (cases h; done) | skip
    all_goals (cases hu <;> cases hv <;> cases op <;> rfl)
  rw [this]; rfl
theorem bin_ref {t : TypeId} {u v u' v' : Value} {r : Bool} {neg : Bool} (hr : refEq P t u v = some r) (h1 : VR ρ u u') (h2 : VR ρ v v') : (binOp (if neg then .neq else .eql) t u' v').run P w = .ok (.bool (r != neg)) w := by
  have he := equal_run (P := P) (w := w) fun d => refEq_run (w := w) hr h1 h2 d
  unfold refEq at hr
  split at hr
  all_goals first | (cases hr; done) | skip
  all_goals (cases h1 <;> cases h2 <;> cases neg <;> simp [binOp, he])
theorem sndO_refEq {o : Oper} {vals : Operand → Value} {t ty : TypeId} {x y : Operand} {r : Bool} {neg : Bool} (h : o.op = .binOp (if neg then .neq else .eql) t x y ty) (hr : refEq P t (vals x) (vals y) = some r) : SndO P rd o vals s (.bool (r != neg)) s 0 0 :=
  sndO_still (fun c => by rw [h]; simp) fun ρ C ev w _ _ _ hxs => by
    have h1 := hxs x (by simp [h, Op.operands])
    have h2 := hxs y (by simp [h, Op.operands])
    have he := equal_run (P := P) (w := w) fun d => refEq_run (w := w) hr h1 h2 d
    have hg := guard_ref (P := P) (w := w) (op := if neg then .neq else .eql) (t := t) (x := x) (y := y) hr h1 h2
    refine ⟨.bool (r != neg), ?_, .bool _⟩
    have hb := bin_ref (w := w) (neg := neg) hr h1 h2
    simp [execOp, h, hg, hb]

/-! ### Arrays of slices; ranges over strings -/
theorem sndO_toArr {o : Oper} {vals : Operand → Value} {t e : TypeId} {x : Operand} {k n c b off : Nat} (h : o.op = .sliceToArrayPointer t x) (ht : P.underlying t = some (.array k e)) (hx : vals x = .slice (some ⟨b, off, none⟩) n c) (hn : n ≠ 0) (hk : k ≤ n) :
    SndO P rd o vals s (.pointer (some ⟨b, off, none⟩)) s 0 0 :=
  sndO_still (fun c => by rw [h]; simp) fun ρ C ev w _ _ _ hxs => by
    have h1 := hxs x (by simp [h, Op.operands])
    rw [hx] at h1
    obtain ⟨L, c', k1, he, _⟩ := slice_inv hn h1
    refine ⟨.pointer (some ⟨L.blk, L.base + off, none⟩), ?_, .ptr b off L k1⟩
    have : ¬ n < k := by omega
    simp [execOp, h, he, Instr.arrayAt, run_underlying ht, this]
theorem sndO_rangeString {o : Oper} {vals : Operand → Value} {t : TypeId} {x : Operand} {b : ByteArray} (h : o.op = .range t x) (ht : P.underlying t = some .string) (hx : vals x = .string b) :
    SndO P rd o vals s (.pointer (some ⟨s.next, 0, none⟩)) (s.push (.iter b 0)) 0 0 :=
  sndO_new (fun c => by rw [h]; simp) fun ρ ev w hxs => by
    have h1 := hxs x (by simp [h, Op.operands])
    rw [hx] at h1
    have hev : ev x = .string b := by generalize ev x = v at h1; cases h1; rfl
    exact ⟨.stringIter b 0, ⟨w.heap.size, 0, false, 0, 0⟩, by simp [execOp, h, hev, Instr.range, run_underlying ht], rfl, rfl, rfl, rfl, rfl⟩
theorem iter_of {b : Nat} {z : ByteArray} {p : Nat} (hr : WRel ρ C w) (hc : C b = .iter z p) : ∃ L, ρ b = some L ∧ w.heap[L.blk]? = some (.stringIter z p) ∧ L.base = 0 := by
  obtain ⟨L, o', h1, h2, h3⟩ := hr.1 b (by rw [hc]; simp)
  rw [hc] at h3
  cases o' with
  | stringIter z' p' => obtain ⟨rfl, rfl, h0⟩ := h3; exact ⟨L, h1, h2, h0⟩
  | _ => simp [OR] at h3
theorem sndO_nextEnd {o : Oper} {vals : Operand → Value} {x : Operand} {b p : Nat} {z : ByteArray} (h : o.op = .next x true) (hx : vals x = .pointer (some ⟨b, 0, none⟩)) (hb : s.get b = .iter z p) (hp : ¬ p < z.size) : SndO P rd o vals s (.tuple #[.bool false]) s (2 ^ b) 0 :=
  sndO_still (fun c => by rw [h]; simp) fun ρ C ev w _ ag hr hxs => by
    have h1 := hxs x (by simp [h, Op.operands])
    rw [hx] at h1
    obtain ⟨L, k1, he⟩ := ptr_inv h1
    have hbb := ag b (bit_self b) (St.lt_of_live (by rw [hb]; simp))
    obtain ⟨L', g1, g2, g3⟩ := iter_of hr (hbb.trans hb)
    rw [k1] at g1
    cases g1
    have hg : (getObj L.blk).run P w = .ok (.stringIter z p) w := by simp [getObj, Sem.run, g2]
    exact ⟨.tuple #[.bool false], by simp [execOp, h, he, g3, Instr.next, hg, hp], ground_refl 12 rfl⟩
theorem sndO_nextOn {o : Oper} {vals : Operand → Value} {x : Operand} {b p : Nat} {z : ByteArray} (h : o.op = .next x true) (hx : vals x = .pointer (some ⟨b, 0, none⟩)) (hb : s.get b = .iter z p) (hp : p < z.size) :
    SndO P rd o vals s (.tuple #[.bool true, .int .i64 p, .int .i32 (Utf8.decode z p).1]) (s.put b (.iter z (p + (Utf8.decode z p).2))) 0 (2 ^ b) := by
  have hbl : s.get b ≠ .hole := by rw [hb]; simp
  refine sndO_of (fun c => by rw [h]; simp) (stat_put hbl _) fun ro ρ C ev w hpr hxs => ?_
  have h1 := hxs x (by simp [h, Op.operands])
  rw [hx] at h1
  obtain ⟨L, k1, he⟩ := ptr_inv h1
  have hbb := hpr.agree b (by rw [or_bit, bit_self]; simp) (St.lt_of_live hbl)
  obtain ⟨L', g1, g2, g3⟩ := iter_of hpr.rel (hbb.trans hb)
  rw [k1] at g1
  cases g1
  have hlt := lt_of_some g2
  have hg : (getObj L.blk).run P w = .ok (.stringIter z p) w := by simp [getObj, Sem.run, g2]
  have hs : ∀ ob, (setObj L.blk ob).run P w = .ok () { w with heap := w.heap.setIfInBounds L.blk ob } := fun ob => by simp [setObj, Sem.run, g2]
  obtain ⟨p1, r1⟩ := step_put (o1 := .stringIter z (p + (Utf8.decode z p).2)) (o' := .stringIter z p) (w1 := { w with heap := w.heap.setIfInBounds L.blk (.stringIter z (p + (Utf8.decode z p).2)) }) hpr hbl k1
    ⟨by simp, fun y hy => by simp [Array.getElem?_setIfInBounds, Ne.symm hy], rfl, rfl, rfl⟩ (by simp [Array.getElem?_setIfInBounds, hlt]) ⟨rfl, rfl, g3⟩
  exact ⟨ρ, _, _, .inl (by simp [execOp, h, he, g3, Instr.next, hg, hp, hs]; rfl), p1, r1, ground_refl 12 rfl⟩
end Mini
end Go.Proofs.YtgloclcbeohkhaaGreatDoor
