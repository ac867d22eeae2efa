/-
  Operations: parts of slices; append; copy; bytes and strings; comparisons with nil.
-/
import Derived.Test.YtgloclcbeohkhaaGreatDoorMiniE
import Derived.Laws.Append
import Derived.Laws.IdiomStrings
namespace Go.Proofs.YtgloclcbeohkhaaGreatDoor
set_option linter.all false
namespace Mini
variable {P : Program} {rd : Option Nat} {s s1 : St} {R W : Nat} {ro : Option Nat} {ρ : Ren} {C : Nat → MObj} {w : World}

/-! ### s[l:h:m] -/
def oneBound (y : Nat) : Value → Option Nat
  | .int _ i => if 0 ≤ i ∧ i ≤ y then some i.toNat else none
  | _ => none
def boundsM (len cap : Nat) (lo hi mx : Option Value) : Option (Nat × Nat × Nat) :=
  match (match mx with | none => some cap | some v => oneBound cap v) with
  | none => none
  | some m =>
    match (match hi, mx with | some v, _ => oneBound m v | none, none => some len | none, some _ => none) with
    | none => none
    | some h =>
      match (match lo with | none => some 0 | some v => oneBound h v) with
      | none => none
      | some l => some (l, h, m)
theorem oneBound_run {y y' : Nat} {v : Value} {n : Nat} (h : oneBound y v = some n) (hy : y ≤ y') (code : BoundsCode) : n ≤ y ∧ (Instr.sliceBound v y' code).run P w = .ok n w := by
  cases v with
  | int k i =>
    simp only [oneBound] at h
    by_cases c : 0 ≤ i ∧ i ≤ y
    · rw [if_pos c] at h
      cases h
      refine ⟨by omega, ?_⟩
      have : 0 ≤ i ∧ i ≤ (y' : Int) := ⟨c.1, by omega⟩
      simp [Instr.sliceBound, asIntOf, this.1, this.2]
    · rw [if_neg c] at h; cases h
  | _ => simp [oneBound] at h
theorem boundsM_run {b : Bool} {len cap cap' l h m : Nat} {lo hi mx : Option Value} (hb : boundsM len cap lo hi mx = some (l, h, m)) (hlen : len ≤ cap) (hc : cap ≤ cap') :
    (Instr.sliceBounds b len cap' lo hi mx).run P w = .ok (l, h, if mx.isNone then cap' else m) w ∧ l ≤ h ∧ h ≤ m ∧ m ≤ cap := by
  unfold boundsM at hb
  cases mx with
  | none =>
    simp only at hb
    cases hi with
    | none =>
      simp only at hb
      cases lo with
      | none => simp only [Option.some.injEq, Prod.mk.injEq] at hb; obtain ⟨rfl, rfl, rfl⟩ := hb; exact ⟨by simp [Instr.sliceBounds], by omega, hlen, Nat.le_refl _⟩
      | some vl =>
        simp only at hb
        cases e : oneBound len vl with
        | none => rw [e] at hb; cases hb
        | some l0 =>
          rw [e] at hb
          simp only [Option.some.injEq, Prod.mk.injEq] at hb
          obtain ⟨rfl, rfl, rfl⟩ := hb
          obtain ⟨h1, h2⟩ := oneBound_run (P := P) (w := w) e (Nat.le_refl _) .sliceB
          exact ⟨by simp [Instr.sliceBounds, h2], h1, hlen, Nat.le_refl _⟩
    | some vh =>
      simp only at hb
      cases e : oneBound cap vh with
      | none => rw [e] at hb; cases hb
      | some h0 =>
        rw [e] at hb
        simp only at hb
        have g1 := (oneBound_run (P := P) (w := w) e hc .sliceAcap).1
        have g2 := (oneBound_run (P := P) (w := w) e hc .sliceAcap).2
        have g3 := (oneBound_run (P := P) (w := w) e hc .sliceAlen).2
        cases lo with
        | none => simp only [Option.some.injEq, Prod.mk.injEq] at hb; obtain ⟨rfl, rfl, rfl⟩ := hb; exact ⟨by cases b <;> simp [Instr.sliceBounds, g2, g3], by omega, g1, Nat.le_refl _⟩
        | some vl =>
          simp only at hb
          cases e2 : oneBound h0 vl with
          | none => rw [e2] at hb; cases hb
          | some l0 =>
            rw [e2] at hb
            simp only [Option.some.injEq, Prod.mk.injEq] at hb
            obtain ⟨rfl, rfl, rfl⟩ := hb
            obtain ⟨h1, h2⟩ := oneBound_run (P := P) (w := w) e2 (Nat.le_refl _) .sliceB
            exact ⟨by cases b <;> simp [Instr.sliceBounds, g2, g3, h2], h1, g1, Nat.le_refl _⟩
  | some vm =>
    simp only at hb
    cases em : oneBound cap vm with
    | none => rw [em] at hb; cases hb
    | some m0 =>
      rw [em] at hb
      simp only at hb
      have m1 := (oneBound_run (P := P) (w := w) em hc .slice3Acap).1
      have m2 := (oneBound_run (P := P) (w := w) em hc .slice3Acap).2
      have m3 := (oneBound_run (P := P) (w := w) em hc .slice3Alen).2
      cases hi with
      | none => simp at hb
      | some vh =>
        simp only at hb
        cases e : oneBound m0 vh with
        | none => rw [e] at hb; cases hb
        | some h0 =>
          rw [e] at hb
          simp only at hb
          have g1 := (oneBound_run (P := P) (w := w) e (Nat.le_refl _) .slice3B).1
          have g2 := (oneBound_run (P := P) (w := w) e (Nat.le_refl _) .slice3B).2
          cases lo with
          | none => simp only [Option.some.injEq, Prod.mk.injEq] at hb; obtain ⟨rfl, rfl, rfl⟩ := hb; exact ⟨by cases b <;> simp [Instr.sliceBounds, m2, m3, g2], by omega, g1, m1⟩
          | some vl =>
            simp only at hb
            cases e2 : oneBound h0 vl with
            | none => rw [e2] at hb; cases hb
            | some l0 =>
              rw [e2] at hb
              simp only [Option.some.injEq, Prod.mk.injEq] at hb
              obtain ⟨rfl, rfl, rfl⟩ := hb
              obtain ⟨h1, h2⟩ := oneBound_run (P := P) (w := w) e2 (Nat.le_refl _) .slice3C
              exact ⟨by cases b <;> simp [Instr.sliceBounds, m2, m3, g2, h2], h1, g1, m1⟩

def isIntO : Option Value → Bool
  | none => true
  | some (.int _ _) => true
  | _ => false
theorem opt_eq {f g : Operand → Value} {x : Option Operand} (h : ∀ y, y ∈ x.toArray → VR ρ (f y) (g y)) (hi : isIntO (x.map f) = true) : x.map g = x.map f := by
  cases x with
  | none => rfl
  | some y =>
    have h1 := h y (by simp)
    simp only [Option.map_some] at hi ⊢
    generalize f y = v at h1 hi
    cases v <;> simp [isIntO] at hi
    rw [int_inv h1]

/-- An empty slice that nothing lies behind. -/
def dead : Addr := ⟨0, 0, some 0⟩
/-- What a part of a slice is in the small world. -/
def subM (b off size l h m : Nat) (full : Bool) : Value := if full && m == l then .slice (some dead) 0 0 else .slice (some ⟨b, off + l * size, none⟩) (h - l) (m - l)

theorem sndO_subSlice {o : Oper} {vals : Operand → Value} {t e e' : TypeId} {x : Operand} {lo hi mx : Option Operand} {i : TypeInfo} {b off n c l h m sz : Nat} {cc : List Value} {opn r : Bool} (hop : o.op = .slice t x lo hi mx)
    (ht : P.underlying t = some (.slice e)) (hi' : P.info? e = some i) (hx : vals x = .slice (some ⟨b, off, none⟩) n c) (hc : s.get b = .cells cc e' opn sz r) (hsz : opn = true → sz = i.size) (hnc : n ≤ c)
    (h1 : isIntO (lo.map vals) = true) (h2 : isIntO (hi.map vals) = true) (h3 : isIntO (mx.map vals) = true) (hb : boundsM n c (lo.map vals) (hi.map vals) (mx.map vals) = some (l, h, m)) :
    SndO P rd o vals s (subM b off i.size l h m mx.isSome) s (2 ^ b) 0 :=
  sndO_still (fun c => by rw [hop]; simp) fun ρ C ev w _ ha hr hxs => by
    have g1 := hxs x (by simp [hop, Op.operands])
    have e1 := opt_eq (ρ := ρ) (f := vals) (g := ev) (fun y hy => hxs y (by rw [hop]; simp [Op.operands] at hy ⊢; simp [hy])) h1
    have e2 := opt_eq (ρ := ρ) (f := vals) (g := ev) (fun y hy => hxs y (by rw [hop]; simp [Op.operands] at hy ⊢; simp [hy])) h2
    have e3 := opt_eq (ρ := ρ) (f := vals) (g := ev) (fun y hy => hxs y (by rw [hop]; simp [Op.operands] at hy ⊢; simp [hy])) h3
    rw [hx] at g1
    have hsr : (sizeOf e).run P w = .ok i.size w := by simp [sizeOf, run_typeInfo w hi']
    have hn : (mx.map vals).isNone = mx.isNone := by cases mx <;> rfl
    generalize hev : ev x = y at g1
    cases g1 with
    | empty a a' =>
      obtain ⟨r1, r2, r3, r4⟩ := boundsM_run (P := P) (w := w) (b := true) hb hnc (Nat.le_refl 0)
      have hm : m = 0 := by omega
      have hh : h = 0 := by omega
      have hl : l = 0 := by omega
      subst hm hh hl
      refine ⟨.slice (some a') 0 0, ?_, ?_⟩
      · simp [execOp, hop, hev, Instr.sliceAt, run_underlying ht, Instr.slice, e1, e2, e3, r1, hsr]
      · unfold subM
        split <;> exact .empty _ _
    | slice b off n c c' L k1 k2 =>
      have hcc : c ≤ c' := by rcases k2 with k | k <;> omega
      obtain ⟨r1, r2, r3, r4⟩ := boundsM_run (P := P) (w := w) (b := true) hb hnc hcc
      have hbb := ha b (bit_self b) (St.lt_of_live (by rw [hc]; simp))
      obtain ⟨L', cs, fr, q1, q2, q3⟩ := row_of hr (hbb.trans hc)
      rw [k1] at q1
      cases q1
      obtain ⟨p1, p2, p3, p4, p5, p6, p7, p8⟩ := q3
      cases mx with
      | none =>
        simp only [Option.map_none, Option.isNone_none, if_true] at r1 e3
        have hm : m = c := by
          unfold boundsM at hb
          simp only [Option.map_none] at hb
          split at hb
          · cases hb
          · split at hb
            · cases hb
            · simp only [Option.some.injEq, Prod.mk.injEq] at hb; exact hb.2.2.symm
        refine ⟨.slice (some (if c' = l then ⟨L.blk, L.base + off, none⟩ else ⟨L.blk, L.base + off + l * i.size, none⟩)) (h - l) (c' - l), ?_, ?_⟩
        · simp [execOp, hop, hev, Instr.sliceAt, run_underlying ht, Instr.slice, e1, e2, r1, hsr]
          split <;> simp [add_mk]
        · simp only [subM, Option.isSome_none, Bool.false_and, Bool.false_eq_true, if_false]
          by_cases cl : c' = l
          · have : h - l = 0 := by omega
            have z1 : m - l = 0 := by omega
            have z2 : c' - l = 0 := by omega
            rw [this, z1, z2]
            exact .empty _ _
          · rw [if_neg cl, Nat.add_assoc]
            refine .slice b (off + l * i.size) (h - l) (m - l) (c' - l) L k1 ?_
            rcases k2 with k | ⟨ka, kb, kc⟩
            · exact .inl (by omega)
            · refine .inr ⟨ka, by omega, ?_⟩
              have hs2 : i.size = L.sz := by rw [p2]; exact (hsz (p1 ▸ ka)).symm
              rw [hs2, ← Nat.add_assoc]
              have : l * L.sz + (c' - l) * L.sz = c' * L.sz := by rw [← Nat.add_mul]; congr 1; omega
              omega
      | some vm =>
        simp only [Option.map_some, Option.isNone_some, Bool.false_eq_true, if_false] at r1 e3
        refine ⟨.slice (some (if m = l then ⟨L.blk, L.base + off, none⟩ else ⟨L.blk, L.base + off + l * i.size, none⟩)) (h - l) (m - l), ?_, ?_⟩
        · simp [execOp, hop, hev, Instr.sliceAt, run_underlying ht, Instr.slice, e1, e2, e3, r1, hsr]
          split <;> simp [add_mk]
        · simp only [subM, Option.isSome_some, Bool.true_and, beq_iff_eq]
          by_cases cl : m = l
          · have z0 : h - l = 0 := by omega
            have z1 : m - l = 0 := by omega
            rw [if_pos cl, z0, z1]
            exact .empty _ _
          · rw [if_neg cl, if_neg cl, Nat.add_assoc]
            exact .slice b (off + l * i.size) (h - l) (m - l) (m - l) L k1 (.inl rfl)

theorem sndO_subArr {o : Oper} {vals : Operand → Value} {t e : TypeId} {x : Operand} {lo hi mx : Option Operand} {i : TypeInfo} {b off n l h m : Nat} (hop : o.op = .slice t x lo hi mx)
    (ht : P.underlying t = some (.array n e)) (hi' : P.info? e = some i) (hx : vals x = .pointer (some ⟨b, off, none⟩))
    (h1 : isIntO (lo.map vals) = true) (h2 : isIntO (hi.map vals) = true) (h3 : isIntO (mx.map vals) = true) (hb : boundsM n n (lo.map vals) (hi.map vals) (mx.map vals) = some (l, h, m)) :
    SndO P rd o vals s (if m = l then .slice (some dead) 0 0 else .slice (some ⟨b, off + l * i.size, none⟩) (h - l) (m - l)) s 0 0 :=
  sndO_still (fun c => by rw [hop]; simp) fun ρ C ev w _ _ _ hxs => by
    have g1 := hxs x (by simp [hop, Op.operands])
    have e1 := opt_eq (ρ := ρ) (f := vals) (g := ev) (fun y hy => hxs y (by rw [hop]; simp [Op.operands] at hy ⊢; simp [hy])) h1
    have e2 := opt_eq (ρ := ρ) (f := vals) (g := ev) (fun y hy => hxs y (by rw [hop]; simp [Op.operands] at hy ⊢; simp [hy])) h2
    have e3 := opt_eq (ρ := ρ) (f := vals) (g := ev) (fun y hy => hxs y (by rw [hop]; simp [Op.operands] at hy ⊢; simp [hy])) h3
    rw [hx] at g1
    obtain ⟨L, k1, he⟩ := ptr_inv g1
    have hsr : (sizeOf e).run P w = .ok i.size w := by simp [sizeOf, run_typeInfo w hi']
    obtain ⟨r1, r2, r3, r4⟩ := boundsM_run (P := P) (w := w) (b := false) hb (Nat.le_refl n) (Nat.le_refl n)
    have hm : (if (mx.map vals).isNone = true then n else m) = m := by
      cases mx with
      | none =>
        simp only [Option.map_none, Option.isNone_none, if_true]
        unfold boundsM at hb
        simp only [Option.map_none] at hb
        split at hb
        · cases hb
        · split at hb
          · cases hb
          · simp only [Option.some.injEq, Prod.mk.injEq] at hb; exact hb.2.2
      | some v => rfl
    rw [hm] at r1
    refine ⟨.slice (some (if m = l then ⟨L.blk, L.base + off, none⟩ else ⟨L.blk, L.base + off + l * i.size, none⟩)) (h - l) (m - l), ?_, ?_⟩
    · simp [execOp, hop, he, Instr.sliceAt, run_underlying ht, Instr.sureAddr, e1, e2, e3, r1, hsr]
      split <;> simp [add_mk]
    · by_cases cl : m = l
      · have z0 : h - l = 0 := by omega
        have z1 : m - l = 0 := by omega
        rw [if_pos cl, z0, z1]
        exact .empty _ _
      · rw [if_neg cl, if_neg cl, Nat.add_assoc]
        exact .slice b (off + l * i.size) (h - l) (m - l) (m - l) L k1 (.inl rfl)
end Mini
end Go.Proofs.YtgloclcbeohkhaaGreatDoor
