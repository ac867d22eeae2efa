/-
  Comparisons of structs of unknown numbers.
-/
import Derived.Test.YtgloclcbeohkhaaGreatDoorMiniR
namespace Go.Proofs.YtgloclcbeohkhaaGreatDoor
set_option linter.all false
open Go.RowKit
namespace Mini
variable {P : Program} {rd : Option Nat} {s s1 : St} {R W : Nat}

def eqFs (P : Program) (f : TypeId → Value → Value → Option Bool) (xs ys : Array Value) : List Field → Option Bool
  | [] => some true
  | fd :: l => if fd.name = "_" then none else
    match partM P fd.type xs fd.offset, partM P fd.type ys fd.offset with
    | some u, some v => match f fd.type u v, eqFs P f xs ys l with
      | some b, some r => some (b && r)
      | _, _ => none
    | _, _ => none
def eqM (P : Program) : Nat → TypeId → Value → Value → Option Bool
  | 0, _, _, _ => none
  | k + 1, t, x, y => match P.underlying t, x, y with
    | some .bool, .bool a, .bool b => some (a == b)
    | some (.int _), .int k a, .int k' b => if k = k' then some (a == b) else none
    | some .string, .string a, .string b => some (a == b)
    | some (.struct fs), .agg xs, .agg ys => if P.stoodInHeld t = true then none else eqFs P (eqM P k) xs ys fs.toList
    | _, _, _ => none
theorem part_eq {t : TypeId} {cs : Array Value} {off : Nat} {v : Value} (w : World) (h : partM P t cs off = some v) : (part t cs off).run P w = .ok v w := by
  unfold partM at h
  cases ha : aggT P t with
  | none => rw [ha] at h; cases h
  | some b =>
    cases b with
    | true =>
      cases hi : P.info? t with
      | none => rw [ha, hi] at h; cases h
      | some i =>
        rw [ha, hi] at h
        simp only [Option.some.injEq] at h
        subst h
        have hsz : (sizeOf t).run P w = .ok i.size w := by simp [sizeOf, run_typeInfo w hi]
        simp [part, isAgg_run ha, hsz]
    | false =>
      have h' : cs[off]? = some v := by
        rw [ha] at h
        cases hi : P.info? t <;> rw [hi] at h <;> exact h
      simp [part, isAgg_run ha, h']
theorem forFs (w : World) {f : TypeId → Value → Value → Option Bool} {k : Nat} (hrec : ∀ t x y b, f t x y = some b → (Op.equalIn k t x y).run P w = .ok b w) (xs ys : Array Value) : ∀ (l : List Field) (b : Bool), eqFs P f xs ys l = some b →
    (Sem.run P
          (forIn l ((none, ()) : Option Bool × Unit) fun f __s =>
            if f.name = "_" then pure (ForInStep.yield (none, ()))
            else do
              let u ← part f.type xs f.offset
              let v ← part f.type ys f.offset
              let r ← Op.equalIn k f.type u v
              if r = false then pure (ForInStep.done (some false, ())) else pure (ForInStep.yield (none, ())))
          w) = .ok (if b = true then (none, ()) else (some false, ())) w
  | [], b, h => by cases h; simp
  | fd :: l, b, h => by
    simp only [eqFs] at h
    split at h
    · cases h
    · rename_i hn
      split at h
      · rename_i u v hu hv
        split at h
        · rename_i b1 r h1 h2
          cases h
          have ih := forFs w hrec xs ys l r h2
          simp only [List.forIn_cons, Sem.run_bind, if_neg hn, part_eq w hu, part_eq w hv, Result.andThen_ok, hrec _ _ _ _ h1]
          cases b1 with
          | false => simp
          | true => simp only [Bool.true_and]; simpa using ih
        · cases h
      · cases h
theorem eqM_run (w : World) : ∀ (k : Nat) (t : TypeId) (x y : Value) (b : Bool), eqM P k t x y = some b → ∀ d, (Op.equalIn (k + d) t x y).run P w = .ok b w
  | 0, t, x, y, b, h, d => by cases h
  | k + 1, t, x, y, b, h, d => by
    rw [show k + 1 + d = (k + d) + 1 from by omega]
    unfold eqM at h
    split at h
    · rename_i ht
      cases h
      simp [Op.equalIn, run_underlying ht]
    · rename_i ht
      split at h
      · rename_i hk
        cases h
        simp [Op.equalIn, run_underlying ht, hk]
      · cases h
    · rename_i ht
      cases h
      simp [Op.equalIn, run_underlying ht]
    · rename_i fs xs ys ht
      split at h
      · cases h
      · rename_i hs
        simp only [Op.equalIn, Sem.run_bind, run_underlying ht, Result.andThen_ok]
        simp [hs]
        rw [← Array.forIn_toList]
        have := forFs w (k := k + d) (f := eqM P k) (fun t x y b h => eqM_run w k t x y b h d) xs ys fs.toList b h
        rw [this]
        cases b <;> simp
    · cases h

def intsOnly : Value → Bool
  | .agg cs => cs.toList.all fun v => match v with | .int _ _ => true | .bool _ => true | .string _ => true | _ => false
  | _ => false
def evEqAgg (P : Program) (op : BinOp) (t : TypeId) (x y : Value) (s : St) : Option Out :=
  match intsOnly x && intsOnly y && !P.eqGuardType P.depth t with
  | true => match eqM P 6 t x y, op with
    | some b, .eql => some (.bool b, s, 0, 0)
    | some b, .neq => some (.bool (!b), s, 0, 0)
    | _, _ => none
  | false => none
theorem intsOnly_ground {v : Value} (h : intsOnly v = true) : ground 8 v = true := by
  cases v with
  | agg cs =>
    simp only [intsOnly] at h
    simp only [ground]
    rw [List.all_eq_true] at h ⊢
    intro x hx
    have := h x hx
    cases x <;> simp_all [ground]
  | _ => simp [intsOnly] at h
theorem evEqAgg_snd {o : Oper} {vals : Operand → Value} {op : BinOp} {t ty : TypeId} {x y : Operand} {v : Value} (ho : o.op = .binOp op t x y ty) (h : evEqAgg P op t (vals x) (vals y) s = some (v, s1, R, W)) : SndO P rd o vals s v s1 R W := by
  unfold evEqAgg at h
  split at h
  · rename_i hc
    simp only [Bool.and_eq_true, Bool.not_eq_true'] at hc
    obtain ⟨⟨c1, c2⟩, c3⟩ := hc
    have key : ∀ b, eqM P 6 t (vals x) (vals y) = some b → op = .eql ∨ op = .neq → SndO P rd o vals s (.bool (if op = .eql then b else !b)) s 0 0 := fun b hb hop =>
      sndO_still (fun c => by rw [ho]; simp) fun ρ C ev w _ _ _ hxs => by
        have h1 := ground_eq 8 (intsOnly_ground c1) (hxs x (by simp [ho, Op.operands]))
        have h2 := ground_eq 8 (intsOnly_ground c2) (hxs y (by simp [ho, Op.operands]))
        have he : (Op.equal t (vals x) (vals y)).run P w = .ok b w := by
          have := eqM_run (P := P) w 6 t (vals x) (vals y) b hb 9994
          simpa [Op.equal, Op.maxDepth] using this
        refine ⟨.bool (if op = .eql then b else !b), ?_, .bool _⟩
        simp only [execOp, ho, h1, h2]
        generalize vals x = u at *
        generalize vals y = v at *
        cases u with
        | agg xs => cases v with
          | agg ys =>
            rcases hop with rfl | rfl <;> simp [eqGuard, c3, binOp, he]
          | _ => simp [intsOnly] at c2
        | _ => simp [intsOnly] at c1
    split at h
    · rename_i b hb
      cases h
      have := key b hb (.inl rfl)
      simpa using this
    · rename_i b hb
      cases h
      have := key b hb (.inr rfl)
      simpa using this
    · cases h
  · cases h
end Mini
end Go.Proofs.YtgloclcbeohkhaaGreatDoor
