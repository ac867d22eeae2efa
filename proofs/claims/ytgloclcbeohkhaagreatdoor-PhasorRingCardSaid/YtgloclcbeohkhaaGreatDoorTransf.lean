/-
  The contract of the transform of a list of numbers.
-/
import Derived.Test.YtgloclcbeohkhaaGreatDoorTrans
namespace Go.Proofs.YtgloclcbeohkhaaGreatDoor
set_option linter.all false
open Go.RowKit

theorem infoE : (Tryz.prog.info? 23).map (fun i => (i.zero, i.size, i.bytes)) = some (some (.agg #[.int .i64 0, .int .i64 0]), 2, 16) := by kernel_rfl

theorem make_eisen (n : Nat) (hn : n ≤ 100000) (W : World) :
    (Instr.makeSlice 41 (.int .i64 (n : Int)) (.int .i64 (n : Int))).run Tryz.prog W = .ok (.slice (some ⟨W.heap.size, 0, none⟩) n n) (W.alloc (.cells (madeCells #[.int .i64 0, .int .i64 0] (n * 2)) 23)) := by
  obtain ⟨i0, hi, hz0, hz1, hz2⟩ := info_parts infoE
  have hr := run_make (P := Tryz.prog) W 41 23 i0 _ Tryz.underlying41 hi hz0 .i64 .i64 n n (by omega) (by omega) (by rw [hz2]; omega) (by omega)
  rw [hz1] at hr
  simpa [Value.cells] using hr

theorem made_at (x y : Value) (N i : Nat) (h : i < N) : (madeCells #[x, y] N)[i]? = some (if i % 2 = 0 then x else y) := by
  have e : i % 2 = 0 ∨ i % 2 = 1 := by omega
  rcases e with e | e <;> simp [madeCells, h, e]
theorem cell_of_block {w : World} {g : Nat} {cs : Array Value} {t : TypeId} (h : w.heap[g]? = some (.cells cs t (0, 0))) (i : Nat) : w.cell? ⟨g, i, none⟩ = cs[i]? := cell_of_row w g i cs t (0, 0) h
theorem free_of_block {w : World} {g : Nat} {cs : Array Value} {t : TypeId} (h : w.heap[g]? = some (.cells cs t (0, 0))) : Free w g := by
  intro o
  simp [World.frozen?, h]
theorem made_ef (W : World) (n : Nat) (t : TypeId) : Ef (W.alloc (.cells (madeCells #[.int .i64 0, .int .i64 0] (n * 2)) t)) W.heap.size 0 n (fun _ => (0, 0)) := by
  intro i hi
  constructor
  · rw [cell_of_block (heap_alloc_new W _), made_at _ _ _ _ (by omega), if_pos (by omega)]
  · rw [cell_of_block (heap_alloc_new W _), made_at _ _ _ _ (by omega), if_neg (by omega)]
theorem made_free (W : World) (cs : Array Value) (t : TypeId) : Free (W.alloc (.cells cs t)) W.heap.size := free_of_block (heap_alloc_new W _)

/-- What has been reckoned when k elements are done, and m parts of the element k. -/
def part (f : Nat → Int × Int) (s : Int) (n k m j : Nat) : Int × Int := if j < k then Tr f s j n else if j = k then Tr f s k m else (0, 0)

theorem part_step (f : Nat → Int × Int) (s : Int) (n k m j : Nat) (p t : Int × Int) (h : Tr f s k (m + 1) = Pl.add p t) : (if j = k then (p.1 + t.1, p.2 + t.2) else part f s n k m j) = part f s n k (m + 1) j := by
  unfold part
  by_cases e : j = k
  · subst e
    simp [h, Pl.add]
  · simp [e]
theorem part_next (f : Nat → Int × Int) (s : Int) (n k j : Nat) : part f s n k n j = part f s n (k + 1) 0 j := by
  unfold part
  by_cases h1 : j < k
  · rw [if_pos h1, if_pos (by omega)]
  · rw [if_neg h1]
    by_cases h2 : j = k
    · subst h2; rw [if_pos rfl, if_pos (by omega)]
    · rw [if_neg h2, if_neg (by omega)]
      by_cases h3 : j = k + 1
      · rw [if_pos h3]; rfl
      · rw [if_neg h3]

set_option maxHeartbeats 4000000 in
set_option maxRecDepth 100000 in
theorem transformed_any (f : Nat → Int × Int) (n : Nat) (s : Int) (b off c bs : Nat) (w : World) (hn : n ≤ 1000) (hb : b < w.heap.size) (hf : Ef w b off n f)
    (hM : ∀ i, i < n → Big 10000000 (f i)) (hs : -1000 ≤ s ∧ s ≤ 1000) (hc : w.cell? ⟨bs, 0, none⟩ = some (.int .i64 s)) :
    Calls Tryz.prog 69 #[.slice (some ⟨b, off, none⟩) n c, .func (.func 95) #[] #[.pointer (some ⟨bs, 0, none⟩)], .func (.func 49) #[] #[]] w fun e w' =>
      e = .returned (.slice (some ⟨w.heap.size, 0, none⟩) n n) ∧ Ef w' w.heap.size 0 n (fun j => Tr f s j n) ∧ Free w' w.heap.size ∧ Bw w w' := by
  have hbs := World.block_lt_of_cell? w _ hc
  simp only at hbs
  have hmk := fun W => make_eisen n (by omega) W
  go_enter Tryz.func69, Tryz.ntmps69
  go_wp2
  clear hmk
  go_loopw [15] (fun i wr => ∃ k : Nat, k ≤ n ∧ i = .int .i64 k ∧ Ef wr w.heap.size 0 n (part f s n k 0) ∧ Free wr w.heap.size ∧ Bw w wr ∧ w.heap.size < wr.heap.size) (fun i _ => n - (intOf i).toNat)
  case atStart => exact ⟨0, Nat.zero_le _, rfl, (made_ef w n _).congr (fun j hj => by simp [part, Tr]), made_free _ _ _, (Bw.refl _).alloc _, by simp⟩
  case round =>
    obtain ⟨k, hk, rfl, hE, hFr, hB, hz⟩ := hrel
    obtain ⟨wo, hwo⟩ : ∃ wo : World, wo = wr := ⟨_, rfl⟩
    subst hwo
    by_cases hlt : k < n
    · go_wp2
      go_loopw [20] (fun i wr => ∃ m : Nat, m ≤ n ∧ i = .int .i64 m ∧ Ef wr w.heap.size 0 n (part f s n k m) ∧ Free wr w.heap.size ∧ Bw w wr ∧ w.heap.size < wr.heap.size) (fun i _ => n - (intOf i).toNat)
      case atStart => exact ⟨0, Nat.zero_le _, rfl, hE, hFr, hB, hz⟩
      case round =>
        obtain ⟨m, hm, rfl, hE, hFr, hB, hz⟩ := hrel
        by_cases hlm : m < n
        · obtain ⟨e1, e2⟩ := hE k hlt
          obtain ⟨e3, e4⟩ := (hf.bw hB hb) m hlm
          have e5 := ((bcell hB).1 bs 0 hbs).trans hc
          have e6 := hFr (k * 2)
          have e7 := hFr (k * 2 + 1)
          have hbW : b < wr.heap.size := Nat.lt_of_lt_of_le hb hB.size
          have hbsW : bs < wr.heap.size := Nat.lt_of_lt_of_le hbs hB.size
          simp only [Nat.zero_add] at e1 e2
          have hpk : part f s n k m k = Tr f s k m := by simp [part]
          rw [hpk] at e1 e2
          have hTb := Tr_big f s 10000000 k m (by omega) (fun i hi => hM i (by omega))
          have hqb := hM m hlm
          have htb := turn_big (f m) (s * ((k : Int) * (m : Int))) 10000000 hqb (by omega)
          have hkm : 0 ≤ (k : Int) * (m : Int) ∧ (k : Int) * (m : Int) ≤ 1000000 := by
            have h1 : k * m ≤ 1000 * 1000 := Nat.mul_le_mul (by omega) (by omega)
            have h2 : ((k * m : Nat) : Int) = (k : Int) * (m : Int) := by simp
            omega
          obtain ⟨hkm1, hkm2⟩ := hkm
          have HT0 : ∀ W : World, W.cell? ⟨bs, 0, none⟩ = some (.int .i64 s) → Calls Tryz.prog 95 #[.agg #[.int .i64 (f m).1, .int .i64 (f m).2], .int .i64 (IntKind.i64.wrap ((k : Int) * (m : Int))), .pointer (some ⟨bs, 0, none⟩)] W fun e w' =>
              e = .returned (.agg #[.int .i64 (Pl.turn (f m) (s * ((k : Int) * (m : Int)))).1, .int .i64 (Pl.turn (f m) (s * ((k : Int) * (m : Int)))).2]) ∧ Bw W w' :=
            fun W h => by rw [IntWalk.i64_in _ (by omega)]; exact turnedBy1_any (f m).1 (f m).2 ((k : Int) * (m : Int)) s bs W (by unfold Big at hqb ⊢; simp only at hqb ⊢; omega) hs (by omega) h
          have HT := Lib.hid HT0
          clear HT0
          have hTS : Tr f s k (m + 1) = Pl.add (Tr f s k m) (Pl.turn (f m) (s * ((k : Int) * (m : Int)))) := rfl
          have HTS := Lib.hid hTS
          clear hTS
          have HS := Lib.hid (fun W => sum_any (Tr f s k m).1 (Tr f s k m).2 (Pl.turn (f m) (s * ((k : Int) * (m : Int)))).1 (Pl.turn (f m) (s * ((k : Int) * (m : Int)))).2 W (by
            unfold Big at hTb ⊢; simp only at hTb ⊢; omega) (by unfold Big at htb ⊢; simp only at htb ⊢; omega))
          clear hqb htb hTb hpk
          have HE := Lib.hid hE
          have HFr := Lib.hid hFr
          clear hE hFr
          generalize hq1 : (f m) = q at *
          generalize hq3 : Pl.turn q (s * ((k : Int) * (m : Int))) = t at *
          generalize hq2 : (Tr f s k m) = p at *
          have Hq1 := Lib.hid hq1
          have Hq2 := Lib.hid hq2
          have Hq3 := Lib.hid hq3
          clear hq1 hq2 hq3
          go_wp2
          go_region_with (first | (go_at_call 95; refine (HT.out _ ?_).mono ?_; (simp [*]); rintro e w1 ⟨rfl, hb1⟩; obtain ⟨hc1, hf1⟩ := bcell' hb1 wr.heap.size (by simp); have hB1 : Bw wr w1 := Bw.trans (by repeat (with_reducible first | assumption | exact Bw.refl _ | apply Bw.drew | apply Bw.drewN | apply Bw.alloc | refine Bw.setCell ?_ (by first | (simp; done) | (simp; omega) | omega) _)) hb1) | (go_at_call 49; refine (HS.out _).mono ?_; rintro e w2 ⟨rfl, hb2⟩; obtain ⟨hc2, hf2⟩ := bcell' hb2 wr.heap.size (by have := hB1.size; simp; omega); have hB2 : Bw wr w2 := Bw.trans (by repeat (with_reducible first | assumption | exact Bw.refl _ | apply Bw.drew | apply Bw.drewN | apply Bw.alloc | refine Bw.setCell ?_ (by first | (simp; done) | (simp; omega) | omega) _)) hb2))
          all_goals
            go_wp2
            go_roundw
            case rel =>
              refine ⟨m + 1, by omega, by go_num, (((HE.out.bw hB2 hz).store k hlt (p.1 + t.1) (p.2 + t.2)).congr fun j hj => part_step f s n k m j p t HTS.out), ((HFr.out.bw hB2 hz).store _ _).store _ _, ?_, ?_⟩
              · exact Bw.setCell (Bw.setCell (hB.trans hB2) (Nat.le_refl _) _) (Nat.le_refl _) _
              · have := hB2.size
                simp
                omega
            case measure => simp [intOf]; omega
        · have hmn : m = n := by omega
          subst hmn
          go_wp2
          go_roundw
          case rel => exact ⟨k + 1, by omega, by go_num, hE.congr fun j hj => part_next f s m k j, hFr, hB, hz⟩
          case measure => simp [intOf]; omega
    · go_wp2
      go_ret
      refine ⟨rfl, hE.congr (fun j hj => ?_), hFr, hB⟩
      have : j < k := by omega
      simp [part, this]
end Go.Proofs.YtgloclcbeohkhaaGreatDoor
