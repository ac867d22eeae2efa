/-
  Operations: those on plain values, new blocks, loads and stores.
-/
import Derived.Test.YtgloclcbeohkhaaGreatDoorMiniB
import Derived.ChangeKeysEq
import Derived.Laws.NewFold
namespace Go.Proofs.YtgloclcbeohkhaaGreatDoor
set_option linter.all false
namespace Mini
variable {P : Program} {rd : Option Nat} {s s1 : St} {R W : Nat} {ro : Option Nat} {ρ : Ren} {C : Nat → MObj} {w : World}

theorem upd_zero (C : Nat → MObj) (s : St) : upd C s s 0 = C := funext fun b => if_neg (by rintro (h | h); omega; simp at h)

/-- An operation that runs as one step. -/
theorem sndO_of {o : Oper} {vals : Operand → Value} {v : Value} (hd : ∀ c, o.op ≠ .defer c) (hS : Stat s s1 W)
    (h : ∀ (ro : Option Nat) (ρ : Ren) (C : Nat → MObj) (ev : Operand → Value) (w : World), Pre P rd s s1 R W ro ρ C w → (∀ x, x ∈ o.op.operands → VR ρ (vals x) (ev x)) →
      ∃ ρ1 v' w1, ((execOp ev o).run P w = .ok (.value v') w1 ∨ ((execOp ev o).run P w = .ok .skip w1 ∧ v' = undef)) ∧ Post ρ s s1 W w ρ1 w1 ∧ WRel ρ1 (upd C s s1 W) w1 ∧ VR ρ1 v v') :
    SndO P rd o vals s v s1 R W := by
  refine ⟨hS, fun n ro ρ C a' w next Q hp hv hn => ?_⟩
  obtain ⟨ρ1, v', w1, hr, p1, r1, h1⟩ := h ro ρ C a'.eval w hp hv
  refine ⟨fun f _ => Fw_fn ro f, ?_⟩
  rw [Oper.semAt_eq _ _ _ hd]
  rcases hr with hr | ⟨hr, rfl⟩
  · rw [hr]; exact hn ρ1 v' w1 p1 r1 h1
  · rw [hr]; exact hn ρ1 undef w1 p1 r1 h1

/-- An operation that only computes. -/
theorem sndO_still {o : Oper} {vals : Operand → Value} {v : Value} (hd : ∀ c, o.op ≠ .defer c)
    (h : ∀ (ρ : Ren) (C : Nat → MObj) (ev : Operand → Value) (w : World), Glob P ρ → (∀ b, R.testBit b = true → b < s.next → C b = s.get b) → WRel ρ C w → (∀ x, x ∈ o.op.operands → VR ρ (vals x) (ev x)) →
      ∃ v', (execOp ev o).run P w = .ok (.value v') w ∧ VR ρ v v') :
    SndO P rd o vals s v s R 0 :=
  sndO_of hd (Stat.refl s) fun ro ρ C ev w hp hv =>
    let ⟨v', hr, h1⟩ := h ρ C ev w hp.glob (fun b hb => hp.agree b (by rw [or_bit, hb]; rfl)) hp.rel hv
    ⟨ρ, v', w, .inl hr, Post.refl ρ s w, by rw [upd_zero]; exact hp.rel, h1⟩

/-- What comes of a program without memory. -/
def pureRun (P : Program) {α : Type} : Sem α → Option α
  | .pure a => some a
  | .program k => pureRun P (k P)
  | .choose q k => if q.forced then pureRun P (k 0) else none
  | .mark _ k => pureRun P k
  | _ => none
theorem pureRun_run {α : Type} {x : Sem α} {v : α} (h : pureRun P x = some v) (w : World) : x.run P w = .ok v w := by
  induction x with
  | pure a => simp only [pureRun, Option.some.injEq] at h; rw [h]; rfl
  | program k ih => simp only [pureRun] at h; exact ih P h
  | choose q k ih =>
    simp only [pureRun] at h
    by_cases hq : q.forced = true
    · rw [if_pos hq] at h; simp only [Sem.run, hq, if_true]; exact ih 0 h
    · rw [if_neg hq] at h; simp at h
  | mark m k ih => simp only [pureRun] at h; exact ih h
  | _ => simp [pureRun] at h

/-- Operations on values that name no block. -/
theorem sndO_ground {o : Oper} {vals : Operand → Value} {v : Value} (hd : ∀ c, o.op ≠ .defer c) (hs : ∀ cs b, o.op ≠ .select cs b) (hg : o.op.operands.toList.all (fun x => ground 12 (vals x)) = true)
    (h : pureRun P (execOp vals o) = some (.value v)) (hv : ground 12 v = true) : SndO P rd o vals s v s 0 0 :=
  sndO_still hd fun ρ C ev w _ _ _ hx => ⟨v, by
    have e : execOp ev o = execOp vals o := execOp_congr o hs fun x hm => by
      rw [List.all_eq_true] at hg
      exact ground_eq 12 (hg x (by simpa using hm)) (hx x hm)
    rw [e]; exact pureRun_run h w, ground_refl 12 hv⟩

theorem sndO_move {o : Oper} {vals : Operand → Value} {x : Operand} (h : o.op = .move x ∨ o.op = .assign x) : SndO P rd o vals s (vals x) s 0 0 :=
  sndO_still (fun c => by rcases h with h | h <;> rw [h] <;> simp) fun ρ C ev w _ _ _ hx => ⟨ev x, by
    rcases h with h | h <;> simp [execOp, h], hx x (by rcases h with h | h <;> simp [h, Op.operands])⟩
theorem sndO_pick {o : Oper} {vals : Operand → Value} {c x y : Operand} {t : Bool} (h : o.op = .pick c x y) (hc : vals c = .bool t) : SndO P rd o vals s (if t then vals x else vals y) s 0 0 :=
  sndO_still (fun c => by rw [h]; simp) fun ρ C ev w _ _ _ hx => by
    have h1 := hx c (by simp [h, Op.operands])
    rw [hc] at h1
    have e : ev c = .bool t := by generalize ev c = z at h1; cases h1; rfl
    refine ⟨if t then ev x else ev y, by simp [execOp, h, e, asBool], ?_⟩
    cases t
    · exact hx y (by simp [h, Op.operands])
    · exact hx x (by simp [h, Op.operands])

/-! ### New blocks -/
def Ren.add (ρ : Ren) (b : Nat) (L : Loc) : Ren := fun x => if x = b then some L else ρ x
theorem stat_push (s : St) (o : MObj) : Stat s (s.push o) 0 := ⟨Nat.le_succ _, fun b hb _ => s.get_push_old o b hb⟩
theorem alloc_old (w : World) (o : Obj) (i : Nat) (h : i < w.heap.size) : (w.alloc o).heap[i]? = w.heap[i]? := by
  show (w.heap.push o)[i]? = w.heap[i]?
  rw [Array.getElem?_push, if_neg (by omega)]
theorem alloc_new (w : World) (o : Obj) : (w.alloc o).heap[w.heap.size]? = some o := by
  show (w.heap.push o)[w.heap.size]? = some o
  rw [Array.getElem?_push, if_pos rfl]
theorem upd_push (C : Nat → MObj) (s : St) (o : MObj) (b : Nat) : upd C s (s.push o) 0 b = if b = s.next then o else C b := by
  unfold upd
  by_cases e : b = s.next
  · subst e
    rw [if_pos (.inl ⟨Nat.le_refl _, Nat.lt_succ_self _⟩), if_pos rfl, s.get_push_new]
  · rw [if_neg (by
      rintro (h | h)
      · have : (s.push o).next = s.next + 1 := rfl
        omega
      · simp at h), if_neg e]
theorem lt_of_some {w : World} {i : Nat} {o : Obj} (h : w.heap[i]? = some o) : i < w.heap.size := by
  rcases Nat.lt_or_ge i w.heap.size with g | g
  · exact g
  · rw [Array.getElem?_eq_none g] at h; cases h

theorem step_new {o : MObj} {o' : Obj} {L : Loc} (hp : Pre P rd s (s.push o) R 0 ro ρ C w) (hL : L.blk = w.heap.size) (ho : OR ρ L o o') :
    Post ρ s (s.push o) 0 w (ρ.add s.next L) (w.alloc o') ∧ WRel (ρ.add s.next L) (upd C s (s.push o) 0) (w.alloc o') ∧ (ρ.add s.next L) s.next = some L := by
  have hfree := hp.free s.next (Nat.le_refl _) (Nat.lt_succ_self _)
  have hself : (ρ.add s.next L) s.next = some L := if_pos rfl
  have hsub : ρ.le (ρ.add s.next L) := fun b L' hb => by
    by_cases e : b = s.next
    · subst e; rw [hfree.1] at hb; cases hb
    · exact (if_neg e).trans hb
  have hoth : ∀ b, b ≠ s.next → (ρ.add s.next L) b = ρ b := fun b e => if_neg e
  refine ⟨⟨hsub, fun b hb => ?_, fun b L' h1 h2 => ?_, by simp, fun x hx _ => alloc_old w o' x hx, rfl, rfl, rfl⟩, ⟨fun b hb => ?_, fun b b' L1 L2 h1 h2 h3 h4 e => ?_⟩, hself⟩
  · by_cases e : b = s.next
    · subst e; exact ⟨Nat.le_refl _, Nat.lt_succ_self _⟩
    · exact absurd (hoth b e) hb
  · by_cases e : b = s.next
    · subst e; rw [hself] at h2; cases h2; exact .inl (by omega)
    · rw [hoth b e, h1] at h2; cases h2
  · rw [upd_push] at hb ⊢
    by_cases e : b = s.next
    · subst e
      rw [if_pos rfl]
      exact ⟨L, o', hself, by rw [hL]; exact alloc_new w o', ho.mono hsub⟩
    · rw [if_neg e] at hb ⊢
      obtain ⟨L', o2, g1, g2, g3⟩ := hp.rel.1 b hb
      exact ⟨L', o2, hsub _ _ g1, (alloc_old w o' _ (lt_of_some g2)).trans g2, g3.mono hsub⟩
  · rw [upd_push] at h1 h2
    by_cases e1 : b = s.next
    · by_cases e2 : b' = s.next
      · rw [e1, e2]
      · rw [if_neg e2] at h2
        obtain ⟨L', o2, g1, g2, g3⟩ := hp.rel.1 b' h2
        rw [hoth b' e2, g1] at h4
        cases h4
        rw [e1, hself] at h3
        cases h3
        have := lt_of_some g2
        omega
    · rw [if_neg e1] at h1
      rw [hoth b e1] at h3
      by_cases e2 : b' = s.next
      · obtain ⟨L', o2, g1, g2, g3⟩ := hp.rel.1 b h1
        rw [g1] at h3
        cases h3
        rw [e2, hself] at h4
        cases h4
        have := lt_of_some g2
        omega
      · rw [if_neg e2] at h2
        rw [hoth b' e2] at h4
        exact hp.rel.2 b b' L1 L2 h1 h2 h3 h4 e

/-- A pointer to a new block. -/
theorem sndO_new {o : Oper} {vals : Operand → Value} {m : MObj} (hd : ∀ c, o.op ≠ .defer c)
    (h : ∀ (ρ : Ren) (ev : Operand → Value) (w : World), (∀ x, x ∈ o.op.operands → VR ρ (vals x) (ev x)) →
      ∃ (o' : Obj) (L : Loc), (execOp ev o).run P w = .ok (.value (.pointer (some ⟨w.heap.size, 0, none⟩))) (w.alloc o') ∧ L.blk = w.heap.size ∧ L.base = 0 ∧ OR ρ L m o') :
    SndO P rd o vals s (.pointer (some ⟨s.next, 0, none⟩)) (s.push m) 0 0 :=
  sndO_of hd (stat_push s m) fun ro ρ C ev w hp hv => by
    obtain ⟨o', L, hr, hL, hb, ho⟩ := h ρ ev w hv
    obtain ⟨p1, r1, hs⟩ := step_new hp hL ho
    refine ⟨_, _, _, .inl hr, p1, r1, ?_⟩
    have := VR.ptr (ρ := ρ.add s.next L) s.next 0 L hs
    rw [hL, hb] at this
    exact this

/-- The cells of a value. -/
theorem cells_vrs {ρ : Ren} {v v' : Value} (h : VR ρ v v') : VRs ρ v.cells v'.cells := by
  cases h with
  | agg cs cs' h1 h2 => exact ⟨h1, h2⟩
  | _ =>
    refine ⟨rfl, fun i x x' g1 g2 => ?_⟩
    match i, g1, g2 with
    | 0, g1, g2 => simp [Value.cells] at g1 g2; subst g1 g2; (first | exact .bool _ | exact .int _ _ | exact .float _ _ | exact .complex _ _ _ | exact .string _ | exact .ptr0 | exact .ptr _ _ _ ‹_› | exact .slice0 _ _ | exact .empty _ _ | exact .slice _ _ _ _ _ _ ‹_› ‹_› | exact .map0 | exact .map _ _ ‹_› | exact .func _ _ _ _ _ ‹_› ‹_› ‹_› ‹_› ‹_› | exact .yield _ _ ‹_› | exact .nilFunc | exact .nilIface | exact .iface _ _ _ ‹_› | exact .tuple _ _ ‹_› ‹_›)
    | i + 1, g1, g2 => simp [Value.cells] at g1
theorem or_cells {ρ : Ren} {cs cs' : Array Value} (h : VRs ρ cs cs') (t : TypeId) (n : Nat) (b : Bool) (hb : b = false) : OR ρ ⟨n, 0, b, 0, cs'.size⟩ (.cells cs.toList t b 0 false) (.cells cs' t (0, 0)) := by
  subst hb
  refine ⟨rfl, rfl, fun _ => rfl, rfl, by simp [h.1], fun i v hi => ?_, fun _ => .inl rfl, fun _ => ⟨rfl, by simp [h.1]⟩⟩
  have hi' : cs[i]? = some v := by simpa using hi
  have hlt : i < cs.size := by
    rcases Nat.lt_or_ge i cs.size with g | g
    · exact g
    · rw [Array.getElem?_eq_none g] at hi'; cases hi'
  have hlt' : i < cs'.size := h.1 ▸ hlt
  exact ⟨cs'[i], by simp [Array.getElem?_eq_getElem hlt'], h.2 i v _ hi' (Array.getElem?_eq_getElem hlt')⟩

theorem sndO_box {o : Oper} {vals : Operand → Value} {t : TypeId} {x : Operand} (h : o.op = .box t x) :
    SndO P rd o vals s (.pointer (some ⟨s.next, 0, none⟩)) (s.push (.cells (vals x).cells.toList t false 0 false)) 0 0 :=
  sndO_new (fun c => by rw [h]; simp) fun ρ ev w hx => by
    have hv := cells_vrs (hx x (by simp [h, Op.operands]))
    exact ⟨.cells (ev x).cells t, ⟨w.heap.size, 0, false, 0, (ev x).cells.size⟩, by simp [execOp, h, Instr.box, newVar, newRow], rfl, rfl, or_cells hv t _ false rfl⟩
theorem sndO_alloc {o : Oper} {vals : Operand → Value} {t : TypeId} {i : TypeInfo} {z : Value} (h : o.op = .alloc t) (hi : P.info? t = some i) (hz : i.zero = some z) (hg : ground 12 z = true) :
    SndO P rd o vals s (.pointer (some ⟨s.next, 0, none⟩)) (s.push (.cells z.cells.toList t false 0 false)) 0 0 :=
  sndO_new (fun c => by rw [h]; simp) fun ρ ev w hx => by
    have hv := cells_vrs (ground_refl (ρ := ρ) 12 hg)
    have hzr : (zeroValue t).run P w = .ok z w := by simp [zeroValue, run_typeInfo w hi, hz]
    exact ⟨.cells z.cells t, ⟨w.heap.size, 0, false, 0, z.cells.size⟩, by simp [execOp, h, Instr.alloc, newVar, newRow, hzr], rfl, rfl, or_cells hv t _ false rfl⟩
end Mini
end Go.Proofs.YtgloclcbeohkhaaGreatDoor
