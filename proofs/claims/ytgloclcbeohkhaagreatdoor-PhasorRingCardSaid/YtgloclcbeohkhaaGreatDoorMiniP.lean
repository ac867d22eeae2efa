/-
  The reckoner of the small world: regions, code, functions; what it reckons holds in the real world.
-/
import Derived.Test.YtgloclcbeohkhaaGreatDoorMiniO
namespace Go.Proofs.YtgloclcbeohkhaaGreatDoor
set_option linter.all false
namespace Mini
variable {P : Program} {rd : Option Nat} {s s1 : St} {R W : Nat}

/-! ### The operations of a region, one behind the other -/
abbrev Row := Act × St × Nat × Nat
def stepOne (P : Program) (F : CallF) (ops : Array Oper) (o : Oper) (a : Act) (s : St) : Option Row :=
  match o.op.operands.toList.all (okOp P) with
  | false => none
  | true => match Region.wanted o (yielded ops a.tmps) with
    | true => match evOp P F a.eval o s with
      | some (v, s1, R, W) => some (a.put o.dst v, s1, R, W)
      | none => none
    | false => some (a.put o.dst undef, s, 0, 0)
def runOps (P : Program) (F : CallF) (ops : Array Oper) : List Oper → Act → St → Option (List Row)
  | [], _, _ => some []
  | o :: os, a, s => match stepOne P F ops o a s with
    | some (a1, s1, R, W) => match runOps P F ops os a1 s1 with
      | some rs => some ((a1, s1, R, W) :: rs)
      | none => none
    | none => none
def dRow : Row := (⟨#[], []⟩, ⟨0, []⟩, 0, 0)
def stA (a : Act) (rs : List Row) : Nat → Act
  | 0 => a
  | k + 1 => (rs.getD k dRow).1
def stS (s : St) (rs : List Row) : Nat → St
  | 0 => s
  | k + 1 => (rs.getD k dRow).2.1
def stR (rs : List Row) (k : Nat) : Nat := (rs.getD k dRow).2.2.1
def stW (rs : List Row) (k : Nat) : Nat := (rs.getD k dRow).2.2.2
def lastA : Act → List Row → Act
  | a, [] => a
  | _, r :: rs => lastA r.1 rs
def lastS : St → List Row → St
  | s, [] => s
  | _, r :: rs => lastS r.2.1 rs
def orR : List Row → Nat
  | [] => 0
  | r :: rs => r.2.2.1 ||| orR rs
def orW : List Row → Nat
  | [] => 0
  | r :: rs => r.2.2.2 ||| orW rs

theorem stA_last : ∀ (a : Act) (rs : List Row), stA a rs rs.length = lastA a rs
  | a, [] => rfl
  | a, r :: rs => by
    show ((r :: rs).getD rs.length dRow).1 = lastA r.1 rs
    rw [← stA_last r.1 rs]
    cases rs with
    | nil => rfl
    | cons q qs => rfl
theorem stS_last : ∀ (s : St) (rs : List Row), stS s rs rs.length = lastS s rs
  | s, [] => rfl
  | s, r :: rs => by
    show ((r :: rs).getD rs.length dRow).2.1 = lastS r.2.1 rs
    rw [← stS_last r.2.1 rs]
    cases rs with
    | nil => rfl
    | cons q qs => rfl
theorem orUpto_left (W : Nat → Nat) : ∀ k, orUpto W (k + 1) = W 0 ||| orUpto (fun i => W (i + 1)) k
  | 0 => by simp [orUpto]
  | k + 1 => by
    show orUpto W (k + 1) ||| W (k + 1) = _
    rw [orUpto_left W k, Nat.or_assoc]
    rfl
theorem orUpto_R : ∀ (rs : List Row), orUpto (stR rs) rs.length = orR rs
  | [] => rfl
  | r :: rs => by
    show orUpto (stR (r :: rs)) (rs.length + 1) = _
    rw [orUpto_left]
    show r.2.2.1 ||| orUpto (stR rs) rs.length = _
    rw [orUpto_R rs]; rfl
theorem orUpto_W : ∀ (rs : List Row), orUpto (stW rs) rs.length = orW rs
  | [] => rfl
  | r :: rs => by
    show orUpto (stW (r :: rs)) (rs.length + 1) = _
    rw [orUpto_left]
    show r.2.2.2 ||| orUpto (stW rs) rs.length = _
    rw [orUpto_W rs]; rfl

def FOk (P : Program) (F : CallF) : Prop := ∀ f as s v s1 R W, F f as s = some (v, s1, R, W) → SndF P f as s v s1 R W

theorem stepOne_cases {F : CallF} {ops : Array Oper} {o : Oper} {a : Act} {r : Row} (hF : FOk P F) (h : stepOne P F ops o a s = some r) : ∃ v, r.1 = a.put o.dst v ∧ o.op.operands.toList.all (okOp P) = true ∧
    ((Region.wanted o (yielded ops a.tmps) = true ∧ SndO P rd o a.eval s v r.2.1 r.2.2.1 r.2.2.2) ∨ (Region.wanted o (yielded ops a.tmps) = false ∧ v = undef ∧ r.2.1 = s ∧ r.2.2.1 = 0 ∧ r.2.2.2 = 0)) := by
  unfold stepOne at h
  split at h
  · cases h
  · rename_i hok
    split at h
    · rename_i hw
      split at h
      · rename_i v s1 R W he
        cases h
        exact ⟨v, rfl, hok, .inl ⟨hw, evOp_snd hF he⟩⟩
      · cases h
    · rename_i hw
      cases h
      exact ⟨undef, rfl, hok, .inr ⟨hw, rfl, rfl, rfl, rfl⟩⟩
theorem runOps_cons {F : CallF} {ops : Array Oper} {o : Oper} {os : List Oper} {a : Act} {rs : List Row} (h : runOps P F ops (o :: os) a s = some rs) : ∃ r rs', rs = r :: rs' ∧ stepOne P F ops o a s = some r ∧ runOps P F ops os r.1 r.2.1 = some rs' := by
  simp only [runOps] at h
  split at h
  · rename_i a1 s1 R W h1
    split at h
    · rename_i rs' h2
      cases h
      exact ⟨_, rs', rfl, h1, h2⟩
    · cases h
  · cases h
theorem runOps_len {F : CallF} {ops : Array Oper} : ∀ (os : List Oper) (a : Act) (s : St) (rs : List Row), runOps P F ops os a s = some rs → rs.length = os.length
  | [], a, s, rs, h => by cases h; rfl
  | o :: os, a, s, rs, h => by
    obtain ⟨r, rs', rfl, h1, h2⟩ := runOps_cons h
    simp [runOps_len os _ _ _ h2]
theorem runOps_at {F : CallF} {ops : Array Oper} : ∀ (os : List Oper) (a : Act) (s : St) (rs : List Row), runOps P F ops os a s = some rs → ∀ k o, os[k]? = some o → stepOne P F ops o (stA a rs k) (stS s rs k) = some (rs.getD k dRow)
  | [], a, s, rs, h, k, o, ho => by simp at ho
  | o' :: os, a, s, rs, h, k, o, ho => by
    obtain ⟨r, rs', rfl, h1, h2⟩ := runOps_cons h
    cases k with
    | zero =>
      simp at ho
      subst ho
      exact h1
    | succ k =>
      have := runOps_at os _ _ _ h2 k o (by simpa using ho)
      have e1 : stA a (r :: rs') (k + 1) = stA r.1 rs' k := by cases k <;> rfl
      have e2 : stS s (r :: rs') (k + 1) = stS r.2.1 rs' k := by cases k <;> rfl
      rw [e1, e2]
      exact this
theorem sq_of {F : CallF} {ops : Array Oper} {a : Act} {rs : List Row} (hF : FOk P F) (h : runOps P F ops ops.toList a s = some rs) : Sq P rd ops (stA a rs) (stS s rs) (stR rs) (stW rs) :=
  ⟨fun i hi => by
    have ho : ops[i]? = some ops[i] := Array.getElem?_eq_getElem hi
    have := runOps_at ops.toList a s rs h i ops[i] (by simp [hi])
    obtain ⟨v, h1, h2, h3⟩ := stepOne_cases (rd := rd) hF this
    refine ⟨ops[i], v, ho, h1, h2, ?_⟩
    rcases h3 with ⟨g1, g2⟩ | ⟨g1, g2, g3, g4, g5⟩
    · exact .inl ⟨g1, g2⟩
    · exact .inr ⟨g1, g2, g3, g5⟩⟩
theorem seq_ops {F : CallF} {ops : Array Oper} (hF : FOk P F) : ∀ (os : List Oper) (i : Nat) (a : Act) (s : St) (rs : List Row), runOps P F ops os a s = some rs → (∀ k o, os[k]? = some o → ops[i + k]? = some o) →
    Snd P rd (TOps P ops (List.range' i os.length)) a s .normal (lastA a rs) (lastS s rs) (orR rs) (orW rs)
  | [], i, a, s, rs, h, ho => by cases h; exact snd_ops_nil
  | o :: os, i, a, s, rs, h, ho => by
    obtain ⟨r, rs', rfl, h1, h2⟩ := runOps_cons h
    have ih := seq_ops hF os (i + 1) _ _ _ h2 (fun k o hk => by rw [show i + 1 + k = i + (k + 1) from by omega]; exact ho (k + 1) o (by simpa using hk))
    have hoi : ops[i]? = some o := ho 0 o rfl
    obtain ⟨v, g1, g2, g3⟩ := stepOne_cases (rd := rd) hF h1
    show Snd P rd (TOps P ops (i :: List.range' (i + 1) os.length)) a s .normal (lastA r.1 rs') (lastS r.2.1 rs') (r.2.2.1 ||| orR rs') (r.2.2.2 ||| orW rs')
    rcases g3 with ⟨k1, k2⟩ | ⟨k1, k2, k3, k4, k5⟩
    · rw [g1] at ih ⊢
      exact snd_ops_yes hoi k1 g2 k2 ih
    · rw [k4, k5, Nat.zero_or, Nat.zero_or]
      rw [g1, k2, k3] at ih
      rw [g1, k2, k3]
      exact snd_ops_no hoi k1 ih

/-! ### Apartness, by bits -/
def span (a b : Nat) : Nat := (2 ^ (b - a) - 1) <<< a
theorem span_bit {a b x : Nat} (h1 : a ≤ x) (h2 : x < b) : (span a b).testBit x = true := by
  unfold span
  rw [Nat.testBit_shiftLeft, Nat.testBit_two_pow_sub_one]
  simp; omega
/-- What a step writes or makes; what it looks at, writes or makes. -/
def rowBits (s : St) (r : Row) : Nat × Nat := ((r.2.2.2 % 2 ^ s.next) ||| span s.next r.2.1.next, ((r.2.2.1 ||| r.2.2.2) % 2 ^ s.next) ||| span s.next r.2.1.next)
def bitsL : St → List Row → List (Nat × Nat)
  | _, [] => []
  | s, r :: rs => rowBits s r :: bitsL r.2.1 rs
theorem bitsL_at : ∀ (rs : List Row) (s : St) (k : Nat), k < rs.length → (bitsL s rs)[k]? = some (rowBits (stS s rs k) (rs.getD k dRow))
  | [], s, k, h => by simp at h
  | r :: rs, s, 0, h => rfl
  | r :: rs, s, k + 1, h => by
    have := bitsL_at rs r.2.1 k (by simpa using h)
    have e2 : stS s (r :: rs) (k + 1) = stS r.2.1 rs k := by cases k <;> rfl
    rw [e2]
    exact this
theorem mod_bit {a n x : Nat} (h : a.testBit x = true) (hx : x < n) : (a % 2 ^ n).testBit x = true := by
  rw [Nat.testBit_mod_two_pow, h]; simp [hx]
def tmpBits (ops : Array Oper) (o : Oper) : Nat × Nat :=
  match o.dst with
  | some d => (2 ^ d, (o.looksAt ops).foldl (fun acc t => acc ||| 2 ^ t) (2 ^ d))
  | none => (0, (o.looksAt ops).foldl (fun acc t => acc ||| 2 ^ t) 0)
theorem fold_looks : ∀ (l : List Nat) (acc t : Nat), (acc.testBit t = true ∨ t ∈ l) → (l.foldl (fun acc t => acc ||| 2 ^ t) acc).testBit t = true
  | [], acc, t, h => by
    rcases h with h | h
    · exact h
    · simp at h
  | x :: l, acc, t, h => by
    simp only [List.foldl_cons]
    refine fold_looks l _ t ?_
    rcases h with h | h
    · exact .inl (by rw [or_bit, h]; rfl)
    · rcases List.mem_cons.1 h with rfl | h
      · exact .inl (by rw [or_bit, bit_self]; simp)
      · exact .inr h
theorem tmpBits_dst {ops : Array Oper} {o : Oper} {t : Nat} (h : o.dst = some t) : (tmpBits ops o).1.testBit t = true ∧ (tmpBits ops o).2.testBit t = true := by
  unfold tmpBits
  rw [h]
  exact ⟨bit_self t, fold_looks _ _ _ (.inl (bit_self t))⟩
theorem tmpBits_looks {ops : Array Oper} {o : Oper} {t : Nat} (h : t ∈ o.looksAt ops) : (tmpBits ops o).2.testBit t = true := by
  unfold tmpBits
  split <;> exact fold_looks _ _ _ (.inr h)
/-- What does not turn on the world. -/
def drawOk (ops : Array Oper) : Bool := edgesOk ops && pairsOk [] 0 0 (ops.toList.map (tmpBits ops)) (preds ops)
theorem apart_of {ops : Array Oper} {rs : List Row} (hl : rs.length = ops.size) (hd : drawOk ops = true) (hn : pairsOk [] 0 0 (bitsL s rs) (preds ops) = true) : Apart ops (stS s rs) (stR rs) (stW rs) (ordOf ops) := by
  simp only [drawOk, Bool.and_eq_true] at hd
  refine ⟨fun j i => ord_lt hd.1 i j, fun j i t hi hj hne h1 h2 => ?_, fun j i b hi hj hne h1 h2 => ?_⟩
  · have key : ∀ (i j : Nat) (oi oj : Oper), ops[i]? = some oi → ops[j]? = some oj → j < i →
        (((tmpBits ops oj).1.testBit t = true ∧ (tmpBits ops oi).2.testBit t = true) ∨ ((tmpBits ops oi).1.testBit t = true ∧ (tmpBits ops oj).2.testBit t = true)) → ordOf ops j i := fun i j oi oj g1 g2 hlt g3 => by
      have := pairsOk_get _ [] 0 0 _ hd.2 (by simp) i j (tmpBits ops oi) (tmpBits ops oj) hlt (by simp) (by simp [g1]) (by simp [g2])
      rcases this with ⟨k1, k2⟩ | k
      · rcases g3 with g3 | g3
        · exact absurd g3 (k1 t)
        · exact absurd g3 (k2 t)
      · exact k
    have hoi : ops[i]? = some ops[i] := Array.getElem?_eq_getElem hi
    have hoj : ops[j]? = some ops[j] := Array.getElem?_eq_getElem hj
    have a1 : (tmpBits ops ops[j]).1.testBit t = true := (tmpBits_dst (by simpa [dstOf, hoj] using h1)).1
    have a2 : (tmpBits ops ops[i]).2.testBit t = true := by
      rcases h2 with ⟨o, e1, e2⟩ | h2
      · rw [hoi] at e1; cases e1; exact tmpBits_looks e2
      · exact (tmpBits_dst (by simpa [dstOf, hoi] using h2)).2
    rcases Nat.lt_or_gt_of_ne hne with c | c
    · exact .inr (key j i _ _ hoj hoi c (.inr ⟨a1, a2⟩))
    · exact .inl (key i j _ _ hoi hoj c (.inl ⟨a1, a2⟩))
  · have key : ∀ (i j : Nat), i < ops.size → j < ops.size → j < i →
        (((rowBits (stS s rs j) (rs.getD j dRow)).1.testBit b = true ∧ (rowBits (stS s rs i) (rs.getD i dRow)).2.testBit b = true) ∨ ((rowBits (stS s rs i) (rs.getD i dRow)).1.testBit b = true ∧ (rowBits (stS s rs j) (rs.getD j dRow)).2.testBit b = true)) → ordOf ops j i := fun i j g1 g2 hlt g3 => by
      have := pairsOk_get _ [] 0 0 _ hn (by simp) i j _ _ hlt (by simp) (bitsL_at rs s i (by omega)) (bitsL_at rs s j (by omega))
      rcases this with ⟨k1, k2⟩ | k
      · rcases g3 with g3 | g3
        · exact absurd g3 (k1 b)
        · exact absurd g3 (k2 b)
      · exact k
    have a1 : (rowBits (stS s rs j) (rs.getD j dRow)).1.testBit b = true := by
      rcases h1 with ⟨k1, k2⟩ | ⟨k1, k2⟩
      · exact or_bit.trans (Bool.or_eq_true_iff.2 (.inr (span_bit k1 k2)))
      · exact or_bit.trans (Bool.or_eq_true_iff.2 (.inl (mod_bit k1 k2)))
    have a2 : (rowBits (stS s rs i) (rs.getD i dRow)).2.testBit b = true := by
      rcases h2 with ⟨k1, k2⟩ | ⟨k1, k2⟩
      · exact or_bit.trans (Bool.or_eq_true_iff.2 (.inl (mod_bit k1 k2)))
      · exact or_bit.trans (Bool.or_eq_true_iff.2 (.inr (span_bit k1 k2)))
    rcases Nat.lt_or_gt_of_ne hne with c | c
    · exact .inr (key j i hj hi c (.inr ⟨a1, a2⟩))
    · exact .inl (key i j hi hj c (.inl ⟨a1, a2⟩))

/-! ### Code -/
abbrev OutC := Exit × Act × St × Nat × Nat
def evRegion (P : Program) (F : CallF) (ops : Array Oper) (draw : Bool) (a : Act) (s : St) : Option OutC :=
  match runOps P F ops ops.toList a s with
  | none => none
  | some rs => match draw with
    | false => some (.normal, lastA a rs, lastS s rs, orR rs, orW rs)
    | true => match drawOk ops with
      | false => none
      | true => match pairsOk [] 0 0 (bitsL s rs) (preds ops) with
        | true => some (.normal, lastA a rs, lastS s rs, orR rs, orW rs)
        | false => none
theorem evRegion_snd {F : CallF} {ops : Array Oper} {id : Nat} {draw : Bool} {a a1 : Act} {e : Exit} (hm : P.follows .mixedOrders = true) (hF : FOk P F) (h : evRegion P F ops draw a s = some (e, a1, s1, R, W)) :
    SndC P rd (.region id ops draw) a s e a1 s1 R W := by
  unfold evRegion at h
  split at h
  · cases h
  · rename_i rs hr
    have hl : rs.length = ops.size := by rw [runOps_len _ _ _ _ hr]; simp
    split at h
    · cases h
      refine sndC_region ?_
      have := seq_ops (rd := rd) hF ops.toList 0 a s rs hr (fun k o hk => by simpa using hk)
      rwa [show List.range' 0 ops.toList.length = List.range ops.size from by rw [List.range_eq_range']; simp] at this
    · split at h
      · cases h
      · rename_i hd
        split at h
        · rename_i hp
          cases h
          have := sndC_draw (id := id) hm (sq_of (rd := rd) hF hr) (apart_of hl hd hp) (ords_of (by simp only [drawOk, Bool.and_eq_true] at hd; exact hd.1))
          rw [← hl, stA_last, stS_last, orUpto_R, orUpto_W] at this
          exact this
        · cases h

/-! ### Scopes through which no jump goes -/
theorem stepR_scope {b : Frame} {a : Act} {k : List Item} {cs : List Frame} {w : World} {c : Code} : step P (lone (b.atR a (.code (.scope c) :: k)) cs w) = .next (lone (b.atR a (.code c :: .inScope c :: k)) cs w) :=
  step_lone_go (by simp [stepG, stepG.exec, Frame.atR])
theorem stepR_inScope {b : Frame} {a : Act} {k : List Item} {cs : List Frame} {w : World} {c : Code} : step P (lone (b.atR a (.inScope c :: k)) cs w) = .next (lone (b.atR a k) cs w) :=
  step_lone_go (by simp [stepG, stepG.exec, Frame.atR])
def notGoto (Q : Exit → Act → World → Prop) : Exit → Act → World → Prop
  | .goto _, _, _ => False
  | e, a, w => Q e a w
theorem wpIn_scope_straight {F : Fence} {n : Nat} {c : Code} {Q : Exit → Act → World → Prop} {a : Act} {w : World} (h : c.wpIn F n P (notGoto Q) a w) : (Code.scope c).wpIn F n P Q a w := by
  intro b k cs hro hb hr
  obtain ⟨e, a₁, w₁, hq, harr⟩ := h b (.inScope c :: k) cs hro hb hr
  cases e with
  | normal => exact ⟨.normal, a₁, w₁, hq, .head (fenced_calm hb hr rfl) stepR_scope (StepsIn.trans harr (.one (fenced_calm hb hr rfl) stepR_inScope))⟩
  | exit id =>
    exact ⟨.exit id, a₁, w₁, hq, fun k' hk => .head (fenced_calm hb hr rfl) stepR_scope (harr.1 k' (by simp [exitTo, hk])),
      fun hr' hk => let ⟨k₁, h1, h2⟩ := harr.2 hr' (by simp [exitTo, hk]); ⟨k₁, h1, .head (fenced_calm hb hr rfl) stepR_scope h2⟩⟩
  | goto l => exact hq.elim
  | ret => exact ⟨_, a₁, w₁, hq, .of_steps (.one (fenced_calm hb hr rfl) stepR_scope) harr⟩
  | panic ch => exact ⟨_, a₁, w₁, hq, .of_steps (.one (fenced_calm hb hr rfl) stepR_scope) harr⟩
  | outgrown => exact ⟨_, a₁, w₁, hq, .of_steps (.one (fenced_calm hb hr rfl) stepR_scope) harr⟩
def isGoto : Exit → Bool
  | .goto _ => true
  | _ => false
theorem sndC_scope {c : Code} {a a1 : Act} {e : Exit} (he : isGoto e = false) (h : SndC P rd c a s e a1 s1 R W) : SndC P rd (.scope c) a s e a1 s1 R W := by
  obtain ⟨hS, h⟩ := h
  refine ⟨hS, fun n ro ρ C a' w Q hp ha hQ => wpIn_scope_straight (h n ro ρ C a' w _ hp ha fun ρ1 a1' w1 p1 r1 ha1 => ?_)⟩
  have hq := hQ ρ1 a1' w1 p1 r1 ha1
  cases e with
  | goto l => simp [isGoto] at he
  | _ => exact hq

abbrev EvT := Bool → Code → Act → St → Option OutC
def evFn (P : Program) (X : CallF) (ev : EvT) : CallF := fun f args s =>
  match X f args s with
  | some r => some r
  | none => match P.funcs[f]? with
  | none => none
  | some fn => match fn.body with
    | none => none
    | some c => match ev false c (startA fn args) s with
      | some (e, a1, s1, R1, W) => match e, a1.defers with
        | .normal, [] => match resultsL P s1 a1.tmps fn.results.toList with
          | some (vs, R2) => some (outV vs, s1, R1 ||| R2, W)
          | none => none
        | .ret, [] => match resultsL P s1 a1.tmps fn.results.toList with
          | some (vs, R2) => some (outV vs, s1, R1 ||| R2, W)
          | none => none
        | _, _ => none
      | none => none
def TF (P : Program) (flag : Bool) (c : Code) : Tr := match flag with
  | true => LoopFrom P c
  | false => TC P c
def EvOk (P : Program) (ev : EvT) : Prop := ∀ rd flag c a s e a1 s1 R W, ev flag c a s = some (e, a1, s1, R, W) → Snd P rd (TF P flag c) a s e a1 s1 R W
theorem evFn_ok {X : CallF} {ev : EvT} (hX : FOk P X) (h : EvOk P ev) : FOk P (evFn P X ev) := fun f as s v s1 R W he => by
  unfold evFn at he
  split at he
  · rename_i hx
    cases he
    exact hX _ _ _ _ _ _ _ hx
  split at he
  · cases he
  · rename_i fn hf
    split at he
    · cases he
    · rename_i c hb
      split at he
      · rename_i e a1 s2 R1 W1 hc
        have hs := h none false c (startA fn as) s e a1 s2 R1 W1 hc
        split at he
        · rename_i hd
          split at he
          · rename_i vs R2 hv
            cases he
            exact sndF_of hf hb (.inl rfl) hd hs hv
          · cases he
        · rename_i hd
          split at he
          · rename_i vs R2 hv
            cases he
            exact sndF_of hf hb (.inr rfl) hd hs hv
          · cases he
        · cases he
      · cases he

def isNormal : Exit → Bool
  | .normal => true
  | _ => false
theorem isNormal_iff {e : Exit} : isNormal e = true → e = .normal := by cases e <;> simp [isNormal]
theorem isNormal_no {e : Exit} : isNormal e = false → e ≠ .normal := by cases e <;> simp [isNormal]

def evStep (P : Program) (X : CallF) (ev : EvT) : EvT := fun flag c a s =>
  match flag with
  | true => match ev false c a s with
    | some (e, a1, s1, R1, W1) => match isNormal e with
      | true => match ev true c a1 s1 with
        | some (e2, a2, s2, R2, W2) => some (e2, a2, s2, R1 ||| R2, W1 ||| W2)
        | none => none
      | false => some (e, a1, s1, R1, W1)
    | none => none
  | false => match c with
    | .skip => some (.normal, a, s, 0, 0)
    | .label _ => some (.normal, a, s, 0, 0)
    | .exit l => some (.exit l, a, s, 0, 0)
    | .ret => some (.ret, a, s, 0, 0)
    | .region _ ops draw => evRegion P (evFn P X ev) ops draw a s
    | .seq x y => match ev false x a s with
      | some (e, a1, s1, R1, W1) => match isNormal e with
        | true => match ev false y a1 s1 with
          | some (e2, a2, s2, R2, W2) => some (e2, a2, s2, R1 ||| R2, W1 ||| W2)
          | none => none
        | false => some (e, a1, s1, R1, W1)
      | none => none
    | .cond x t f => match okOp P x with
      | true => match a.eval x with
        | .bool b => ev false (if b then t else f) a s
        | _ => none
      | false => none
    | .block id x => match ev false x a s with
      | some (e, a1, s1, R1, W1) => some (outOf id e, a1, s1, R1, W1)
      | none => none
    | .loop x => ev true x a s
    | .scope x => match ev false x a s with
      | some (e, a1, s1, R1, W1) => match isGoto e with
        | false => some (e, a1, s1, R1, W1)
        | true => none
      | none => none
    | _ => none

theorem evStep_ok {X : CallF} {ev : EvT} (hm : P.follows .mixedOrders = true) (hX : FOk P X) (h : EvOk P ev) : EvOk P (evStep P X ev) := fun rd flag c a s e a1 s1 R W he => by
  unfold evStep at he
  split at he
  · split at he
    · rename_i h1
      have g1 := h rd false _ _ _ _ _ _ _ _ h1
      split at he
      · rename_i hn
        cases isNormal_iff hn
        split at he
        · rename_i h2
          cases he
          exact snd_from_on g1 (h rd true c _ _ _ _ _ _ _ h2)
        · cases he
      · rename_i hn
        cases he
        exact snd_from_stop (isNormal_no hn) g1
    · cases he
  · split at he
    · cases he; exact sndC_skip
    · cases he; exact sndC_label
    · cases he; exact sndC_exit
    · cases he; exact sndC_ret
    · exact evRegion_snd hm (evFn_ok hX h) he
    · split at he
      · rename_i h1
        have g1 := h rd false _ _ _ _ _ _ _ _ h1
        split at he
        · rename_i hn
          cases isNormal_iff hn
          split at he
          · rename_i h2
            cases he
            exact sndC_seq g1 (h rd false _ _ _ _ _ _ _ _ h2)
          · cases he
        · rename_i hn
          cases he
          exact sndC_seq_stop (isNormal_no hn) g1
      · cases he
    · split at he
      · rename_i hx
        split at he
        · rename_i hb
          exact sndC_cond hx hb (h rd false _ _ _ _ _ _ _ _ he)
        · cases he
      · cases he
    · split at he
      · rename_i h1
        cases he
        exact sndC_block (h rd false _ _ _ _ _ _ _ _ h1)
      · cases he
    · exact sndC_loop (h rd true _ _ _ _ _ _ _ _ he)
    · split at he
      · rename_i h1
        split at he
        · rename_i hg
          cases he
          exact sndC_scope hg (h rd false _ _ _ _ _ _ _ _ h1)
        · cases he
      · cases he
    · cases he

/-- The reckoner, to a depth. -/
def evC (P : Program) (X : CallF) : Nat → EvT
  | 0 => fun _ _ _ _ => none
  | n + 1 => evStep P X (evC P X n)
theorem evC_ok {X : CallF} (hm : P.follows .mixedOrders = true) (hX : FOk P X) : ∀ n, EvOk P (evC P X n)
  | 0 => fun rd flag c a s e a1 s1 R W he => by cases he
  | n + 1 => evStep_ok hm hX (evC_ok hm hX n)
def evF (P : Program) (X : CallF) (n : Nat) : CallF := evFn P X (evC P X n)
theorem evF_ok {X : CallF} (hm : P.follows .mixedOrders = true) (hX : FOk P X) (n : Nat) : FOk P (evF P X n) := evFn_ok hX (evC_ok hm hX n)
end Mini
end Go.Proofs.YtgloclcbeohkhaaGreatDoor
