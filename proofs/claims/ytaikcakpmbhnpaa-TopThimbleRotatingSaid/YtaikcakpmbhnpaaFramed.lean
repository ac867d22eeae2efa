/-
  The contract of Framed.
-/
import Derived.Test.YtaikcakpmbhnpaaComps
namespace Go.Proofs.Ytaikcakpmbhnpaa
set_option linter.all false
open Go.RowKit

/-- The error of a list of numbers. -/
def limE (n : Nat) (l : List (Int × Int)) : Int := if 256 < n then 5 else firstP 1048576 l

set_option maxHeartbeats 400000 in
theorem checkLimited_eisen (l : List (Int × Int)) (b off c : Nat) (w : World) (hl : l.length ≤ 100000000) (hb : b < w.heap.size) (hc : EvAt w b off l) :
    Calls Try.prog 45 #[.slice (some ⟨b, off, none⟩) l.length c, .int .i64 256, .func (.func 35) #[] #[]] w fun e w' => e = .returned (.int .i64 (limE l.length l)) ∧ Bw w w' := by
  unfold limE
  by_cases h : 256 < l.length
  · rw [if_pos h]
    have h' : (256 : Int) < (l.length : Int) := by omega
    go_enter Try.func45, Try.ntmps45
    go_wp2
    go_ret
    exact ⟨rfl, Bw.refl _⟩
  · rw [if_neg h]
    have h' : ¬ (256 : Int) < (l.length : Int) := by omega
    have HT := Lib.hid (fun W (h1 : b < W.heap.size) h2 => firstIn_eisen l b off c W (by omega) h1 h2)
    have HC := Lib.hid hc
    clear hc
    go_enter Try.func45, Try.ntmps45
    go_wp2_with (first | (go_at_call 34; refine (HT.out _ hb HC.out).mono ?_; rintro e w1 ⟨rfl, hb1⟩))
    go_ret
    exact ⟨rfl, hb1⟩

/-- A new list that holds f 0 .. f (n - 1). -/
def NewList (n : Nat) (f : Nat → Int × Int) (w : World) (e : Ending) (w' : World) : Prop :=
  ∃ g, e = .returned (.tuple #[.slice (some ⟨g, 0, none⟩) n n, .int .i64 0]) ∧ Ef w' g 0 n f ∧ Free w' g ∧ Bw w w' ∧ w.heap.size ≤ g ∧ g < w'.heap.size

/-- The list in a frame, as far as it is done. -/
def frd (f : Nat → Int × Int) (s : Int) (k j : Nat) : Int × Int := if j < k then Pl.turn (f j) ((-s) * (j : Int)) else (0, 0)

set_option maxHeartbeats 4000000 in
set_option maxRecDepth 100000 in
theorem framed_yes (l : List (Int × Int)) (s : Int) (b off c : Nat) (w : World) (hl : l.length ≤ 256) (hb : b < w.heap.size) (hc : EvAt w b off l) (h0 : firstP 1048576 l = 0) (hs : -1000000 ≤ s ∧ s ≤ 1000000)
    (hok : ∀ i, i < l.length → Pl.inB 1048576 (Pl.turn (l.getD i (0, 0)) ((-s) * (i : Int)))) :
    Calls Try.prog 20 #[.slice (some ⟨b, off, none⟩) l.length c, .int .i64 s] w (NewList l.length (fun i => Pl.turn (l.getD i (0, 0)) ((-s) * (i : Int))) w) := by
  obtain ⟨s1, s2⟩ := hs
  have hlim : limE l.length l = 0 := by unfold limE; rw [if_neg (by omega)]; exact h0
  have hcr : Pl.cr s (-1000000) 1000000 = 0 := cr_ok.2 ⟨s1, s2⟩
  have H1 := Lib.hid (fun W h1 h2 => checkLimited_eisen l b off c W (by omega) h1 h2)
  rw [hlim] at H1
  have H2 := Lib.hid (fun W => checkTurn_any s W)
  rw [hcr] at H2
  have HF := Lib.hid (fun b0 c0 W h0 h1 => first2 0 0 b0 c0 W h0 h1)
  rw [show Pl.firstE [0, 0] = 0 from rfl] at HF
  have hin := firstP_zero.1 h0
  have hbig : ∀ i, i < l.length → Big 10000000 (l.getD i (0, 0)) := fun i hi => by
    have e : l.getD i (0, 0) = l[i] := by simp [hi]
    rw [e]
    exact Big.of (hin _ (List.getElem_mem hi)) (by omega)
  have HB := Lib.hid hbig
  have HC := Lib.hid hc
  have HOK := Lib.hid hok
  have hmk := fun W => make_eisen l.length (by omega) W
  generalize hn : l.length = n at *
  have hnn := Lib.hid hn
  clear hc hok hbig hin hlim hcr h0 hn
  go_enter Try.func20, Try.ntmps20
  go_wp2_with (first | (go_at_call 45; refine (H1.out _ hb HC.out).mono ?_; rintro e w1 ⟨rfl, hb1⟩; have hz1 : b < w1.heap.size := Nat.lt_of_lt_of_le hb hb1.size) | (go_at_call 40; refine (H2.out _).mono ?_; rintro e wp ⟨rfl, rfl⟩) | (go_at_call 28; refine (HF.out _ _ _ (by go_simp) (by go_simp)).mono ?_; rintro e wp ⟨rfl, rfl⟩))
  clear H1 H2 HF hmk
  have hB0 : Bw w ((w1.alloc (.cells #[.int .i64 0, .int .i64 0] 44)).alloc (.cells (madeCells #[.int .i64 0, .int .i64 0] (n * 2)) 33)) := (hb1.alloc _).alloc _
  have hsz := hb1.size
  have hE0 : Ef ((w1.alloc (.cells #[.int .i64 0, .int .i64 0] 44)).alloc (.cells (madeCells #[.int .i64 0, .int .i64 0] (n * 2)) 33)) (w1.heap.size + 1) 0 n (frd (fun i => l.getD i (0, 0)) s 0) := by
    have := made_ef (w1.alloc (.cells #[.int .i64 0, .int .i64 0] 44)) n 33
    simp at this
    exact this.congr (fun j hj => by simp [frd])
  have hF0 : Free ((w1.alloc (.cells #[.int .i64 0, .int .i64 0] 44)).alloc (.cells (madeCells #[.int .i64 0, .int .i64 0] (n * 2)) 33)) (w1.heap.size + 1) := by
    have := made_free (w1.alloc (.cells #[.int .i64 0, .int .i64 0] 44)) (madeCells #[.int .i64 0, .int .i64 0] (n * 2)) 33
    simp at this
    exact this
  go_loopw [26] (fun i wr => ∃ k : Nat, k ≤ n ∧ i = .int .i64 k ∧ Ef wr (w1.heap.size + 1) 0 n (frd (fun i => l.getD i (0, 0)) s k) ∧ Free wr (w1.heap.size + 1) ∧ Bw w wr ∧ w1.heap.size + 1 < wr.heap.size) (fun i _ => n - (intOf i).toNat)
  case atStart => exact ⟨0, Nat.zero_le _, rfl, hE0, hF0, hB0, by simp⟩
  case round =>
    obtain ⟨k, hk, rfl, hE, hFr, hB, hz⟩ := hrel
    clear hE0 hF0 hB0 hb1 hz1
    generalize hG : w1.heap.size + 1 = g at *
    have hgw : w.heap.size ≤ g := by omega
    clear hG hsz
    by_cases hlt : k < n
    · obtain ⟨e1, e2⟩ := (HC.out.bw hB hb) k (by rw [hnn.out]; exact hlt)
      have hq := HB.out k hlt
      have hq' := HOK.out k hlt
      generalize hx : l.getD k (0, 0) = x at *
      have hsk : -256000000 ≤ (-s) * (k : Int) ∧ (-s) * (k : Int) ≤ 256000000 := by
        have e : ((-s) * (k : Int)).natAbs ≤ 1000000 * 256 := by rw [Int.natAbs_mul]; exact Nat.mul_le_mul (by omega) (by omega)
        omega
      obtain ⟨k1, k2⟩ := hsk
      have HT := Lib.hid (fun W => turn_any x.1 x.2 ((-s) * (k : Int)) W (by unfold Big at hq ⊢; simp only at hq ⊢; omega) (by omega))
      have hlim : Pl.lim ((Pl.turn (x.1, x.2) ((-s) * (k : Int))).1, (Pl.turn (x.1, x.2) ((-s) * (k : Int))).2) = (Pl.turn (x.1, x.2) ((-s) * (k : Int)), 0) := lim_in hq'
      have HL := Lib.hid (fun W => limited_any (Pl.turn (x.1, x.2) ((-s) * (k : Int))).1 (Pl.turn (x.1, x.2) ((-s) * (k : Int))).2 W)
      rw [hlim] at HL
      have HX := Lib.hid hx
      have hstep : ∀ j, (if j = k then ((Pl.turn (x.1, x.2) ((-s) * (k : Int))).1, (Pl.turn (x.1, x.2) ((-s) * (k : Int))).2) else frd (fun i => l.getD i (0, 0)) s k j) = frd (fun i => l.getD i (0, 0)) s (k + 1) j := fun j => by
        unfold frd
        by_cases e : j = k
        · subst e
          rw [if_pos rfl, if_pos (by omega)]
          simp only [HX.out]
        · rw [if_neg e]
          by_cases e2 : j < k
          · rw [if_pos e2, if_pos (by omega)]
          · rw [if_neg e2, if_neg (by omega)]
      have HSt := Lib.hid hstep
      have HE := Lib.hid hE
      have HFr := Lib.hid hFr
      have hg0 := hE k hlt
      have hf0 := hFr (k * 2)
      have hf1 := hFr (k * 2 + 1)
      simp only [Nat.zero_add] at hg0
      obtain ⟨g0, g1⟩ := hg0
      clear hq hq' hlim hx hstep hE hFr
      generalize Pl.turn (x.1, x.2) ((-s) * (k : Int)) = t at *
      go_wp2_with (first | (go_at_call 42; refine (HT.out _).mono ?_; rintro e w3 ⟨rfl, hb3⟩; obtain ⟨hc3, hf3⟩ := bcell' hb3 wr.heap.size (by simp); have hz3 : g < w3.heap.size := (by have := hb3.size; (try simp at this); omega); have hB3 : Bw wr w3 := Bw.trans (by repeat (with_reducible first | assumption | exact Bw.refl _ | apply Bw.drew | apply Bw.drewN | apply Bw.alloc | refine Bw.setCell ?_ (by first | (simp; done) | (simp; omega) | omega) _)) hb3) | (go_at_call 41; refine (HL.out _).mono ?_; rintro e w4 ⟨rfl, hb4⟩; obtain ⟨hc4, hf4⟩ := bcell' hb4 wr.heap.size (by have := hB3.size; omega); have hz4 : g < w4.heap.size := (by have := hb4.size; (try simp at this); omega); have hB4 : Bw wr w4 := Bw.trans hB3 hb4))
      go_roundw
      case rel =>
        refine ⟨k + 1, by omega, by go_num, ?_, ?_, ?_, ?_⟩
        · exact ((((HE.out.bw hB4 hz).store k hlt t.1 t.2).bw ((Bw.refl _).alloc _) (by simp; omega)).congr fun j hj => HSt.out j)
        · exact (((HFr.out.bw hB4 hz).store _ _).store _ _).bw ((Bw.refl _).alloc _) (by simp; omega)
        · exact Bw.alloc (Bw.setCell (Bw.setCell (hB.trans hB4) hgw _) hgw _) _
        · have := hB4.size; simp; omega
      case measure => simp [intOf]; omega
    · have hkn : k = n := by omega
      subst hkn
      go_wp2
      go_ret2
      exact ⟨g, rfl, hE.congr (fun j hj => by simp [frd, hj]), hFr, hB, hgw, hz⟩
end Go.Proofs.Ytaikcakpmbhnpaa
