/-
  Operations: append, copy, bytes and strings.
-/
import Derived.Test.YtgloclcbeohkhaaGreatDoorMiniF
namespace Go.Proofs.YtgloclcbeohkhaaGreatDoor
set_option linter.all false
namespace Mini
variable {P : Program} {rd : Option Nat} {s s1 : St} {R W : Nat} {ro : Option Nat} {ρ : Ren} {C : Nat → MObj} {w : World}

/-- The elements that are appended or copied: their number, their cells, the blocks that are read. -/
def elemsM (s : St) (size : Nat) : Value → Option (Nat × List Value × Nat)
  | .slice none n _ => if n = 0 then some (0, [], 0) else none
  | .slice (some a) n _ =>
    if n = 0 then some (0, [], 0) else
    match a.spot, s.get a.block with
    | none, .cells c _ _ _ _ => if a.off + n * size ≤ c.length then some (n, (cut c a.off (n * size)).toList, 2 ^ a.block) else none
    | _, _ => none
  | .string b => some (b.size, b.data.toList.map (fun x => .int .u8 x.toNat), 0)
  | _ => none

theorem elems_run {size : Nat} {x x' : Value} {n : Nat} {l : List Value} {R0 : Nat} (h : elemsM s size x = some (n, l, R0)) (hv : VR ρ x x') (ha : ∀ b, R0.testBit b = true → b < s.next → C b = s.get b) (hr : WRel ρ C w) :
    (∀ w, (Builtin.lenOf x').run P w = .ok n w) ∧ ∃ arr, (∀ (u : World), u.heap = w.heap → (Builtin.firstCells size n x').run P u = .ok arr u) ∧ VRs ρ l.toArray arr := by
  have hnil : VRs ρ ([] : List Value).toArray #[] := ⟨rfl, fun i v v' h => by simp at h⟩
  cases hv with
  | slice0 m c =>
    simp only [elemsM] at h
    by_cases e : m = 0
    · rw [if_pos e] at h; cases h
      exact ⟨fun w => by simp [Builtin.lenOf, e], #[], fun u _ => by simp [Builtin.firstCells], hnil⟩
    · rw [if_neg e] at h; cases h
  | empty a a' =>
    simp only [elemsM, if_true] at h
    cases h
    exact ⟨fun w => by simp [Builtin.lenOf], #[], fun u _ => by simp [Builtin.firstCells, loadCells, loadCellsFrom], hnil⟩
  | slice b o m c c' L h1 h2 =>
    simp only [elemsM] at h
    by_cases e : m = 0
    · rw [if_pos e] at h; cases h
      exact ⟨fun w => by simp [Builtin.lenOf, e], #[], fun u _ => by simp [Builtin.firstCells, loadCells, loadCellsFrom], hnil⟩
    · rw [if_neg e] at h
      cases hb : s.get b with
      | cells cc e' opn sz r =>
        rw [hb] at h
        simp only at h
        by_cases hle : o + m * size ≤ cc.length
        · rw [if_pos hle] at h
          simp only [Option.some.injEq, Prod.mk.injEq] at h
          obtain ⟨rfl, rfl, rfl⟩ := h
          have hbb := ha b (bit_self b) (St.lt_of_live (by rw [hb]; simp))
          obtain ⟨L', cs, fr, q1, q2, q3⟩ := row_of hr (hbb.trans hb)
          rw [h1] at q1
          cases q1
          obtain ⟨p1, p2, p3, p4, p5, p6, p7, p8⟩ := q3
          refine ⟨fun w => by simp [Builtin.lenOf], cut cs.toList (L.base + o) (m * size), fun u hu => ?_, ?_⟩
          · have hl := loadCells_run (P := P) (w := u) (base := L.base + o) (by rw [hu]; exact q2) (m * size) 0 #[] (by omega)
            simp [Builtin.firstCells, loadCells, hl, cut]
          · have := cut_vrs (ρ := ρ) (L := L) (c := cc) (cs := cs) (o := o) (n := m * size) hle (by omega) p6
            simpa using this
        · rw [if_neg hle] at h; cases h
      | _ => rw [hb] at h; simp at h
  | string b =>
    simp only [elemsM, Option.some.injEq, Prod.mk.injEq] at h
    obtain ⟨rfl, rfl, rfl⟩ := h
    refine ⟨fun w => by simp [Builtin.lenOf], (b.data.map fun x => .int .u8 x.toNat), fun u _ => ?_, ?_⟩
    · have e : b.extract 0 b.size = b := by simp
      simp [Builtin.firstCells, e]
    · refine ⟨by simp, fun i v v' g1 g2 => ?_⟩
      have : (b.data.toList.map (fun x => Value.int .u8 x.toNat)).toArray = b.data.map (fun x => Value.int .u8 x.toNat) := by apply Array.ext'; simp
      rw [this, g2] at g1
      cases g1
      simp only [Array.getElem?_map, Option.map_eq_some_iff] at g2
      obtain ⟨x, _, rfl⟩ := g2
      exact .int _ _
  | _ => simp [elemsM] at h

set_option maxHeartbeats 1000000 in
theorem append_room {tS tX ty e : TypeId} {d : TypeDesc} {i : TypeInfo} {base : Option Addr} {sLen sCap n : Nat} {x' : Value} {arr : Array Value} {w1 : World} (ht : P.underlying tS = some (.slice e)) (hd : P.underlying tX = some d) (hd' : d = .string ∨ ∃ e', d = .slice e')
    (hi : P.info? e = some i) (hl : ∀ w, (Builtin.lenOf x').run P w = .ok n w) (ha : (Builtin.firstCells i.size n x').run P w = .ok arr w) (hroom : sLen + n ≤ sCap)
    (hst : (match base with | some a => (storeCells (a.add (sLen * i.size)) arr.toList).run P w | none => .ok () w) = .ok () w1) :
    (Builtin.append_ #[tS, tX] ty #[.slice base sLen sCap, x']).run P w = .ok (.slice base (sLen + n) sCap) w1 := by
  have hsz : ∀ w, (sizeOf e).run P w = .ok i.size w := fun w => by simp [sizeOf, run_typeInfo w hi]
  rcases hd' with rfl | ⟨e', rfl⟩
  all_goals
    cases base with
    | none =>
      simp only at hst
      cases hst
      simp [Builtin.append_, run_underlying ht, run_underlying hd, hsz, hl, hroom, ha]
    | some a =>
      simp only at hst
      simp [Builtin.append_, run_underlying ht, run_underlying hd, hsz, hl, hroom, ha, hst]

set_option maxHeartbeats 1000000 in
theorem append_grow {tS tX ty e : TypeId} {d : TypeDesc} {i : TypeInfo} {z : Value} {base : Option Addr} {sLen sCap n : Nat} {x' : Value} {old arr : Array Value} (ht : P.underlying tS = some (.slice e)) (hd : P.underlying tX = some d) (hd' : d = .string ∨ ∃ e', d = .slice e')
    (hi : P.info? e = some i) (hz : i.zero = some z) (hb0 : i.bytes ≠ 0) (hb : (sLen + n) * i.bytes ≤ 140737488355328) (hl : ∀ w, (Builtin.lenOf x').run P w = .ok n w) (ha : ∀ u : World, u.heap = w.heap → (Builtin.firstCells i.size n x').run P u = .ok arr u)
    (ho : ∀ u : World, u.heap = w.heap → (Builtin.firstCells i.size sLen (.slice base sLen sCap)).run P u = .ok old u) (hroom : ¬ sLen + n ≤ sCap) :
    ∃ newCap, sLen + n ≤ newCap ∧ (Builtin.append_ #[tS, tX] ty #[.slice base sLen sCap, x']).run P w =
      .ok (.slice (some ⟨w.heap.size, 0, none⟩) (sLen + n) newCap) (w.drew.alloc (.cells (old ++ arr ++ Builtin.zeroCells z.cells (newCap - (sLen + n))) e)) := by
  have hsz : ∀ w, (sizeOf e).run P w = .ok i.size w := fun w => by simp [sizeOf, run_typeInfo w hi]
  have hzr : ∀ w, (zeroValue e).run P w = .ok z w := fun w => by simp [zeroValue, run_typeInfo w hi, hz]
  have hti : ∀ w, (typeInfo e).run P w = .ok i w := fun w => run_typeInfo w hi
  have hfit : ¬ (281474976710656 < Builtin.nextslicecap (sLen + n) sCap * i.bytes) := by
    have := growslice_fits (need := sLen + n) (old := sCap) (bytes := i.bytes) (by omega) hb
    omega
  have hsmall : sLen + n ≤ 140737488355328 := Nat.le_trans (Nat.le_mul_of_pos_right _ (by omega)) hb
  refine ⟨Question.cut (.appendCap (sLen + n) sCap e) (w.tape w.drawn (.appendCap (sLen + n) sCap e)), by simp only [Question.cut]; omega, ?_⟩
  have ha' := ha w.drew rfl
  have ho' := ho w.drew rfl
  have e0 : ({ w with drawn := w.drawn + 1 } : World) = w.drew := rfl
  rcases hd' with rfl | ⟨e', rfl⟩
  all_goals
    simp [Builtin.append_, run_underlying ht, run_underlying hd, hsz, hl, hroom, hti, hb0, hfit, hzr, Question.forced, e0, ha', ho', newRow]

/-- A row is written behind its end, or copied: the old name is given up. -/
theorem step_on {b : Nat} {o : MObj} {o1 : Obj} {L L1 : Loc} {w1 : World} (hp : Pre P rd s ((s.put b .hole).push o) R (2 ^ b) ro ρ C w) (hb : s.get b ≠ .hole) (hL : ρ b = some L)
    (hsz : w.heap.size ≤ w1.heap.size) (hoth : ∀ x, x < w.heap.size → x ≠ L.blk → w1.heap[x]? = w.heap[x]?) (hos : w1.os = w.os) (htp : w1.tape = w.tape) (hout : w1.output = w.output)
    (h2 : w1.heap[L1.blk]? = some o1) (h3 : L1.blk = L.blk ∨ w.heap.size ≤ L1.blk) (ho : OR ρ L1 o o1) :
    Post ρ s ((s.put b .hole).push o) (2 ^ b) w (ρ.add s.next L1) w1 ∧ WRel (ρ.add s.next L1) (upd C s ((s.put b .hole).push o) (2 ^ b)) w1 ∧ (ρ.add s.next L1) s.next = some L1 := by
  have hlt := St.lt_of_live hb
  have hCb : C b ≠ .hole := by rw [hp.agree b (by rw [or_bit, bit_self]; simp) hlt]; exact hb
  have hnext : ((s.put b .hole).push o).next = s.next + 1 := rfl
  have hfree := hp.free s.next (Nat.le_refl _) (by rw [hnext]; omega)
  have hself : (ρ.add s.next L1) s.next = some L1 := if_pos rfl
  have hoth' : ∀ x, x ≠ s.next → (ρ.add s.next L1) x = ρ x := fun x e => if_neg e
  have hsub : ρ.le (ρ.add s.next L1) := fun x L' hx => by
    by_cases e : x = s.next
    · subst e; rw [hfree.1] at hx; cases hx
    · exact (hoth' x e).trans hx
  have hupd : ∀ x, upd C s ((s.put b .hole).push o) (2 ^ b) x = if x = s.next then o else if x = b then .hole else C x := fun x => by
    unfold upd
    by_cases e : x = s.next
    · subst e
      rw [if_pos (.inl ⟨Nat.le_refl _, by rw [hnext]; omega⟩), if_pos rfl]
      exact (s.put b .hole).get_push_new o
    · rw [if_neg e]
      by_cases eb : x = b
      · subst eb
        rw [if_pos (.inr ⟨bit_self x, hlt⟩), if_pos rfl, (s.put x .hole).get_push_old o x hlt, s.get_put_same x .hole hb]
      · rw [if_neg eb, if_neg (by
          rintro (h | h)
          · rw [hnext] at h; omega
          · exact eb (bit_iff.1 h.1))]
  obtain ⟨L0, ob, q1, q2, q3⟩ := hp.rel.1 b hCb
  rw [hL] at q1
  cases q1
  have hLlt := lt_of_some q2
  refine ⟨⟨hsub, fun x hx => ?_, fun x L' g1 g2 => ?_, hsz, fun x hx hf => hoth x hx fun e => hf b L (bit_self b) hlt hL e.symm, hos, htp, hout⟩, ⟨fun x hx => ?_, fun x x' La Lb g1 g2 g3 g4 e => ?_⟩, hself⟩
  · by_cases e : x = s.next
    · subst e; exact ⟨Nat.le_refl _, by rw [hnext]; omega⟩
    · exact absurd (hoth' x e) hx
  · by_cases e : x = s.next
    · subst e
      rw [hself] at g2
      cases g2
      rcases h3 with h3 | h3
      · exact .inr ⟨b, L, bit_self b, hlt, hL, h3.symm⟩
      · exact .inl h3
    · rw [hoth' x e, g1] at g2; cases g2
  · rw [hupd] at hx ⊢
    by_cases e : x = s.next
    · subst e
      rw [if_pos rfl]
      exact ⟨L1, o1, hself, h2, ho.mono hsub⟩
    · rw [if_neg e] at hx ⊢
      by_cases eb : x = b
      · rw [if_pos eb] at hx; exact absurd rfl hx
      · rw [if_neg eb] at hx ⊢
        obtain ⟨L', o2, g1, g2, g3⟩ := hp.rel.1 x hx
        refine ⟨L', o2, hsub _ _ g1, (hoth _ (lt_of_some g2) fun e' => eb ?_).trans g2, g3.mono hsub⟩
        exact hp.rel.2 x b L' L hx hCb g1 hL e'
  · rw [hupd] at g1 g2
    have far : ∀ y Ly, y ≠ s.next → y ≠ b → C y ≠ .hole → ρ y = some Ly → Ly.blk ≠ L1.blk := fun y Ly hy hyb hCy hLy e' => by
      obtain ⟨L', o2, k1, k2, k3⟩ := hp.rel.1 y hCy
      rw [hLy] at k1
      cases k1
      have := lt_of_some k2
      rcases h3 with h3 | h3
      · exact hyb (hp.rel.2 y b Ly L hCy hCb hLy hL (e'.trans h3))
      · omega
    by_cases e1 : x = s.next
    · by_cases e2 : x' = s.next
      · rw [e1, e2]
      · rw [if_neg e2] at g2
        by_cases e3 : x' = b
        · rw [if_pos e3] at g2; exact absurd rfl g2
        · rw [if_neg e3] at g2
          rw [e1, hself] at g3
          cases g3
          rw [hoth' x' e2] at g4
          exact absurd e.symm (far x' Lb e2 e3 g2 g4)
    · rw [if_neg e1] at g1
      by_cases e3 : x = b
      · rw [if_pos e3] at g1; exact absurd rfl g1
      · rw [if_neg e3] at g1
        rw [hoth' x e1] at g3
        by_cases e2 : x' = s.next
        · rw [e2, hself] at g4
          cases g4
          exact absurd e (far x La e1 e3 g1 g3)
        · rw [if_neg e2] at g2
          by_cases e4 : x' = b
          · rw [if_pos e4] at g2; exact absurd rfl g2
          · rw [if_neg e4] at g2
            rw [hoth' x' e2] at g4
            exact hp.rel.2 x x' La Lb g1 g2 g3 g4 e
theorem stat_on {b : Nat} (hb : s.get b ≠ .hole) (o : MObj) : Stat s ((s.put b .hole).push o) (2 ^ b) :=
  ⟨Nat.le_succ _, fun x hx hw => by
    rw [(s.put b .hole).get_push_old o x hx]
    exact s.get_put_other b x .hole (St.lt_of_live hb) (fun e => by rw [← e, bit_self] at hw; cases hw)⟩
end Mini
end Go.Proofs.YtgloclcbeohkhaaGreatDoor
