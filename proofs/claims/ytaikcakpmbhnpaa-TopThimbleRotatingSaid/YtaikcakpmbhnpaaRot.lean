/-
  The walk of the theorem of the whole on phases that turn.
-/
import Derived.Test.YtaikcakpmbhnpaaRotTail
namespace Go.Proofs.Ytaikcakpmbhnpaa
set_option linter.all false
open Go.RowKit

set_option maxHeartbeats 8000000 in
set_option maxRecDepth 100000 in
theorem rotating_any (x0 x1 y0 y1 s : Int) (w : World) (hx0 : -128 ≤ x0 ∧ x0 ≤ 127) (hx1 : -128 ≤ x1 ∧ x1 ≤ 127) (hy0 : -128 ≤ y0 ∧ y0 ≤ 127) (hy1 : -128 ≤ y1 ∧ y1 ≤ 127) (hs : -128 ≤ s ∧ s ≤ 127) :
    Calls Try.prog 4 #[.agg #[.int .i8 x0, .int .i8 x1], .agg #[.int .i8 y0, .int .i8 y1], .int .i8 s] w fun e w' => e = .returned (.bool true) ∧ Bw w w' := by
  have HX := Lib.hid (fun W => thimbleNumber_any x0 x1 W hx0 hx1)
  have HY := Lib.hid (fun W => thimbleNumber_any y0 y1 W hy0 hy1)
  have ha0 := Int.tmod_lt_of_pos x0 (b := 101) (by omega)
  have ha1 := Int.lt_tmod_of_pos x0 (b := 101) (by omega)
  have hb0 := Int.tmod_lt_of_pos x1 (b := 101) (by omega)
  have hb1 := Int.lt_tmod_of_pos x1 (b := 101) (by omega)
  have hc0 := Int.tmod_lt_of_pos y0 (b := 101) (by omega)
  have hc1 := Int.lt_tmod_of_pos y0 (b := 101) (by omega)
  have hd0 := Int.tmod_lt_of_pos y1 (b := 101) (by omega)
  have hd1 := Int.lt_tmod_of_pos y1 (b := 101) (by omega)
  generalize x0.tmod 101 = a at *
  generalize x1.tmod 101 = b at *
  generalize y0.tmod 101 = c at *
  generalize y1.tmod 101 = d at *
  have HA := Lib.hid (And.intro (And.intro ha0 ha1) (And.intro hb0 hb1))
  have HC := Lib.hid (And.intro (And.intro hc0 hc1) (And.intro hd0 hd1))
  clear ha0 ha1 hb0 hb1 hc0 hc1 hd0 hd1 hx0 hx1 hy0 hy1
  obtain ⟨s1, s2⟩ := hs
  have ho2 : ∀ n : Nat, n < n + 1 + 1 := fun n => by omega
  have ho3 : ∀ n : Nat, n < n + 1 + 1 + 1 := fun n => by omega
  have ho4 : ∀ n : Nat, n + 1 < n + 1 + 1 + 1 := fun n => by omega
  go_enter Try.func4, Try.ntmps4
  go_upto_region 1 with fail
  go_cut [7, 8, 9] (fun u7 u8 u9 wx => u9 = .int .i64 s ∧ PtE wx w.heap.size u7 (a, b) ∧ PtE wx w.heap.size u8 (c, d) ∧ Bw w wx)
  case first => as_aux_lemma =>
    go_region_held3 (fun W => W.cell? ⟨w.heap.size, 0, none⟩ = some (.int .i8 x0) ∧ W.cell? ⟨w.heap.size, 1, none⟩ = some (.int .i8 x1) ∧ W.cell? ⟨w.heap.size + 1, 0, none⟩ = some (.int .i8 y0) ∧ W.cell? ⟨w.heap.size + 1, 1, none⟩ = some (.int .i8 y1)) (exact keep4 w x0 x1 y0 y1 (by repeat (with_reducible first | assumption | exact Bw.refl _ | apply Bw.drew | apply Bw.drewN | apply Bw.alloc | refine Bw.setCell ?_ (by first | (simp; done) | (simp; omega) | omega) _)))
      (first | (go_at_call_of 6 x0; refine (HX.out _).mono ?_; rintro e w1 ⟨rfl, hb1⟩; obtain ⟨hg1, hh1⟩ := bcell hb1; have hz1 := hb1.size; (try simp at hz1); have hy1 : w.heap.size + 1 < w1.heap.size := (by omega); have hy1' : w.heap.size < w1.heap.size := (by omega); have hy1'' : w.heap.size + 1 ≤ w1.heap.size := (by omega); (try have hs1 : w.heap.size + 1 + 1 < w1.heap.size := (by omega)); (try have hr1 : w.heap.size + 1 + 1 + 1 < w1.heap.size := (by omega)); have hK1 : Bw ((w.alloc (.cells #[.int .i8 x0, .int .i8 x1] 35)).alloc (.cells #[.int .i8 y0, .int .i8 y1] 35)) w1 := Bw.trans (by repeat (with_reducible first | assumption | exact Bw.refl _ | apply Bw.drew | apply Bw.drewN | apply Bw.alloc | refine Bw.setCell ?_ (by first | (simp; done) | (simp; omega) | omega) _)) hb1) | (go_at_call_of 6 y0; refine (HY.out _).mono ?_; rintro e w2 ⟨rfl, hb2⟩; have hK2 : Bw ((w.alloc (.cells #[.int .i8 x0, .int .i8 x1] 35)).alloc (.cells #[.int .i8 y0, .int .i8 y1] 35)) w2 := Bw.trans (by repeat (with_reducible first | assumption | exact Bw.refl _ | apply Bw.drew | apply Bw.drewN | apply Bw.alloc | refine Bw.setCell ?_ (by first | (simp; done) | (simp; omega) | omega) _)) hb2; have hB2 : Bw w w2 := Bw.trans (((Bw.refl _).alloc _).alloc _) hK2; obtain ⟨hg2, hh2⟩ := bcell hb2; have hz2 := hb2.size; (try simp at hz2); (try have hs2 : w.heap.size + 1 + 1 < w2.heap.size := (by omega)); (try have hr2 : w.heap.size + 1 + 1 + 1 < w2.heap.size := (by omega)); (try have ht2 : w1.heap.size < w2.heap.size := (by omega)); (try have hv2 : w1.heap.size + 1 < w2.heap.size := (by omega)); (try have hs2' : w.heap.size + 1 + 1 ≤ w2.heap.size := (by omega))))
    all_goals
      go_wp2_with fail
      go_meet
      refine ⟨by rw [IntWalk.i64_in _ (by omega)], ⟨_, rfl, by omega, (by first | (simp [World.setCell]; done) | (simp [World.setCell]; omega) | omega), (by first | (go_simp; done) | (simp [*]; done)), (by first | (go_simp; done) | (simp [*]; done))⟩, ⟨_, rfl, by omega, (by first | (simp [World.setCell]; done) | (simp [World.setCell]; omega) | omega), (by first | (go_simp; done) | (simp [*]; done)), (by first | (go_simp; done) | (simp [*]; done))⟩, by repeat (with_reducible first | assumption | exact Bw.refl _ | apply Bw.drew | apply Bw.drewN | apply Bw.alloc | refine Bw.setCell ?_ (by first | (simp; done) | (simp; omega) | omega) _)⟩
  case rest =>
    obtain ⟨rfl, ⟨g7, rfl, l7, h7, a0, a1⟩, ⟨g8, rfl, l8, h8, c0, c1⟩, hB⟩ := hcut
    clear ho2 ho3 ho4 HX HY
    obtain ⟨wA, hwA⟩ : ∃ wA : World, wA = wc := ⟨_, rfl⟩
    subst hwA
    obtain ⟨⟨A1, A2⟩, A3, A4⟩ := HA.out
    obtain ⟨⟨C1, C2⟩, C3, C4⟩ := HC.out
    have HBar := Lib.hid (fun W => refBar_any c d W ⟨by simp only; omega, by simp only; omega, by simp only; omega, by simp only; omega⟩)
    have HMul := Lib.hid (fun W => refMul_any a b (c - d) (-d) W ⟨by simp only; omega, by simp only; omega, by simp only; omega, by simp only; omega⟩ ⟨by simp only; omega, by simp only; omega, by simp only; omega, by simp only; omega⟩)
    obtain ⟨M, hM⟩ : ∃ M, M = Pl.mul (a, b) (Pl.bar (c, d)) := ⟨_, rfl⟩
    have hM1 : a * (c - d) - b * (-d) = M.1 := by rw [hM]; rfl
    have hM2 : a * (-d) + b * (c - d) - b * (-d) = M.2 := by rw [hM]; rfl
    rw [hM1, hM2] at HMul
    have HMd := Lib.hid hM
    clear A1 A2 A3 A4 C1 C2 C3 C4 hM1 hM2 hM
    go_upto_region 3 with fail
    go_cut [12] (fun u12 wx => PtE wx (wA.heap.size + 2) u12 M ∧ Bw ((wA.alloc (.cells #[.int .i64 0, .int .i64 0, .int .i64 0, .int .i64 0, .int .i64 0, .int .i64 0, .int .i64 0, .int .i64 0, .int .i64 0, .int .i64 0, .int .i64 0, .int .i64 0] 59)).alloc (.cells #[.int .i64 0, .int .i64 0, .int .i64 0, .int .i64 0, .int .i64 0, .int .i64 0, .int .i64 0, .int .i64 0, .int .i64 0, .int .i64 0, .int .i64 0, .int .i64 0] 59)) wx)
    case first => as_aux_lemma =>
      have hk : ∀ W : World, Bw wA W → W.cell? ⟨g7, 0, none⟩ = some (.int .i64 a) ∧ W.cell? ⟨g7, 1, none⟩ = some (.int .i64 b) ∧ W.cell? ⟨g8, 0, none⟩ = some (.int .i64 c) ∧ W.cell? ⟨g8, 1, none⟩ = some (.int .i64 d) := fun W h => keepE (p := (a, b)) (q := (c, d)) h7 h8 a0 a1 c0 c1 h
      have HK := Lib.hid hk
      have ho1 : ∀ n : Nat, n < n + 1 := fun n => by omega
      have ho2 : ∀ n : Nat, n < n + 1 + 1 := fun n => by omega
      clear hk
      go_region_held3 (fun W => W.cell? ⟨g7, 0, none⟩ = some (.int .i64 a) ∧ W.cell? ⟨g7, 1, none⟩ = some (.int .i64 b) ∧ W.cell? ⟨g8, 0, none⟩ = some (.int .i64 c) ∧ W.cell? ⟨g8, 1, none⟩ = some (.int .i64 d)) (exact HK.out _ (by repeat (with_reducible first | assumption | exact Bw.refl _ | apply Bw.drew | apply Bw.drewN | apply Bw.alloc | refine Bw.setCell ?_ (by first | (simp; done) | (simp; omega) | omega) _)))
        (first | (go_at_call 16; refine (HBar.out _).mono ?_; rintro e w1 ⟨rfl, hb1⟩; have hK1 : Bw wA w1 := Bw.trans (by repeat (with_reducible first | assumption | exact Bw.refl _ | apply Bw.drew | apply Bw.drewN | apply Bw.alloc | refine Bw.setCell ?_ (by first | (simp; done) | (simp; omega) | omega) _)) hb1; have hL1 : Bw ((wA.alloc (.cells #[.int .i64 0, .int .i64 0, .int .i64 0, .int .i64 0, .int .i64 0, .int .i64 0, .int .i64 0, .int .i64 0, .int .i64 0, .int .i64 0, .int .i64 0, .int .i64 0] 59)).alloc (.cells #[.int .i64 0, .int .i64 0, .int .i64 0, .int .i64 0, .int .i64 0, .int .i64 0, .int .i64 0, .int .i64 0, .int .i64 0, .int .i64 0, .int .i64 0, .int .i64 0] 59)) w1 := Bw.trans (by repeat (with_reducible first | assumption | exact Bw.refl _ | apply Bw.drew | apply Bw.drewN | apply Bw.alloc | refine Bw.setCell ?_ (by first | (simp; done) | (simp; omega) | omega) _)) hb1; obtain ⟨hg1, hh1⟩ := bcell hb1; have hz1 := hb1.size; (try simp at hz1); (try have hs1 : wA.heap.size + 1 + 1 < w1.heap.size := (by omega))) | (go_at_call 15; refine (HMul.out _).mono ?_; rintro e w2 ⟨rfl, hb2⟩; have hK2 : Bw wA w2 := Bw.trans (by repeat (with_reducible first | assumption | exact Bw.refl _ | apply Bw.drew | apply Bw.drewN | apply Bw.alloc | refine Bw.setCell ?_ (by first | (simp; done) | (simp; omega) | omega) _)) hb2; have hL2 : Bw ((wA.alloc (.cells #[.int .i64 0, .int .i64 0, .int .i64 0, .int .i64 0, .int .i64 0, .int .i64 0, .int .i64 0, .int .i64 0, .int .i64 0, .int .i64 0, .int .i64 0, .int .i64 0] 59)).alloc (.cells #[.int .i64 0, .int .i64 0, .int .i64 0, .int .i64 0, .int .i64 0, .int .i64 0, .int .i64 0, .int .i64 0, .int .i64 0, .int .i64 0, .int .i64 0, .int .i64 0] 59)) w2 := Bw.trans (by repeat (with_reducible first | assumption | exact Bw.refl _ | apply Bw.drew | apply Bw.drewN | apply Bw.alloc | refine Bw.setCell ?_ (by first | (simp; done) | (simp; omega) | omega) _)) hb2; obtain ⟨hg2, hh2⟩ := bcell hb2; have hz2 := hb2.size; (try simp at hz2); (try have hs2 : wA.heap.size + 1 + 1 < w2.heap.size := (by omega)); (try have hs3 : w1.heap.size < w2.heap.size := (by omega))))
      all_goals
        go_wp2_with fail
        go_meet
        refine ⟨⟨_, rfl, by omega, (by first | (simp [World.setCell]; done) | (simp [World.setCell]; omega) | omega), (by first | (go_simp; done) | (simp [*]; done)), (by first | (go_simp; done) | (simp [*]; done))⟩, by repeat (with_reducible first | assumption | exact Bw.refl _ | apply Bw.drew | apply Bw.drewN | apply Bw.alloc | refine Bw.setCell ?_ (by first | (simp; done) | (simp; omega) | omega) _)⟩
    case rest =>
      obtain ⟨⟨g12, rfl, l12, h12, m0, m1⟩, hL⟩ := hcut
      clear HBar HMul
      have hE10 : Ef wc wA.heap.size 0 6 (upk (fun j => Pl.turn (a, b) ((j : Int) * s)) 0) := (((zero_ef wA 59).bw ((Bw.refl _).alloc (.cells #[.int .i64 0, .int .i64 0, .int .i64 0, .int .i64 0, .int .i64 0, .int .i64 0, .int .i64 0, .int .i64 0, .int .i64 0, .int .i64 0, .int .i64 0, .int .i64 0] 59)) (by simp)).bw hL (by simp; omega)).congr fun j _ => by simp [upk]
      have hF10 : Free wc wA.heap.size := ((zero_free wA #[.int .i64 0, .int .i64 0, .int .i64 0, .int .i64 0, .int .i64 0, .int .i64 0, .int .i64 0, .int .i64 0, .int .i64 0, .int .i64 0, .int .i64 0, .int .i64 0] 59).bw ((Bw.refl _).alloc (.cells #[.int .i64 0, .int .i64 0, .int .i64 0, .int .i64 0, .int .i64 0, .int .i64 0, .int .i64 0, .int .i64 0, .int .i64 0, .int .i64 0, .int .i64 0, .int .i64 0] 59)) (by simp)).bw hL (by simp; omega)
      have hE11 : Ef wc (wA.heap.size + 1) 0 6 (upk (fun j => Pl.turn (a, b) ((j : Int) * s - 2)) 0) := by
        have := ((zero_ef (wA.alloc (.cells #[.int .i64 0, .int .i64 0, .int .i64 0, .int .i64 0, .int .i64 0, .int .i64 0, .int .i64 0, .int .i64 0, .int .i64 0, .int .i64 0, .int .i64 0, .int .i64 0] 59)) 59).bw hL (by simp)).congr (g := upk (fun j => Pl.turn (a, b) ((j : Int) * s - 2)) 0) fun j _ => by simp [upk]
        simpa using this
      have hF11 : Free wc (wA.heap.size + 1) := by
        have := (zero_free (wA.alloc (.cells #[.int .i64 0, .int .i64 0, .int .i64 0, .int .i64 0, .int .i64 0, .int .i64 0, .int .i64 0, .int .i64 0, .int .i64 0, .int .i64 0, .int .i64 0, .int .i64 0] 59)) #[.int .i64 0, .int .i64 0, .int .i64 0, .int .i64 0, .int .i64 0, .int .i64 0, .int .i64 0, .int .i64 0, .int .i64 0, .int .i64 0, .int .i64 0, .int .i64 0] 59).bw hL (by simp)
        simpa using this
      have hBA : Bw wA wc := (((Bw.refl _).alloc _).alloc _).trans hL
      have hzc : wA.heap.size + 2 ≤ wc.heap.size := by have := hL.size; simp at this; omega
      obtain ⟨T, hT⟩ : ∃ T : Nat, T = wA.heap.size := ⟨_, rfl⟩
      rw [← hT] at hE10 hF10 hE11 hF11 h7 h8 l12 hzc
      have HT := Lib.hid hT
      have HL := Lib.hid hL
      clear hL
      go_upto_region 4 with fail
      rw [← hT]
      clear hT
      go_wp2
      go_loopw [46] (fun i wr => ∃ k : Nat, k ≤ 6 ∧ i = .int .i64 k ∧ RotRel wA wr T g12 a b s M k) (fun i _ => 6 - (intOf i).toNat)
      case atStart => exact ⟨0, by omega, rfl, hE10, hE11, hF10, hF11, m0, m1, hBA, by omega, h12⟩
      case round =>
        obtain ⟨k, hk, rfl, hR⟩ := hrel
        clear hE10 hE11 hF10 hF11 m0 m1 hBA hzc h12
        obtain ⟨wo, hwo⟩ : ∃ wo : World, wo = wr := ⟨_, rfl⟩
        subst hwo
        by_cases hlt : k < 6
        · have HR := Lib.hid hR
          obtain ⟨_, _, _, _, _, _, hBA, hz1, hz2⟩ := hR
          have hdec6 : decide ((k : Int) < 6) = true := by simp; omega
          obtain ⟨H, hH⟩ : ∃ H : Nat, H = wo.heap.size := ⟨_, rfl⟩
          go_wp2
          have hB0 : Bw wo ((wo.alloc (.cells #[.int .i64 0, .int .i64 0, .int .i64 0, .int .i64 0, .int .i64 0, .int .i64 0] 37)).alloc (.cells #[.int .i64 0, .int .i64 0, .int .i64 0, .int .i64 0, .int .i64 0, .int .i64 0] 37)) := ((Bw.refl _).alloc _).alloc _
          go_loopw [50] (fun i wi => ∃ m : Nat, m ≤ 3 ∧ i = .int .i64 m ∧ Ef wi wo.heap.size 0 3 (upk (fun j => Pl.turn (a, b) ((k : Int) * s + tn j)) m) ∧ Ef wi (wo.heap.size + 1) 0 3 (upk (fun j => Pl.turn (c, d) ((k : Int) * s + tn j)) m) ∧ Free wi wo.heap.size ∧ Free wi (wo.heap.size + 1) ∧ Bw wo wi ∧ wo.heap.size + 1 < wi.heap.size) (fun i _ => 3 - (intOf i).toNat)
          case atStart =>
            refine ⟨0, by omega, rfl, ((zero_ef3 wo 37).bw ((Bw.refl _).alloc _) (by simp)).congr (fun j _ => by simp [upk]), ?_, (zero_free wo _ _).bw ((Bw.refl _).alloc _) (by simp), ?_, hB0, by simp⟩
            · have := (zero_ef3 (wo.alloc (.cells #[.int .i64 0, .int .i64 0, .int .i64 0, .int .i64 0, .int .i64 0, .int .i64 0] 37)) 37).congr (g := upk (fun j => Pl.turn (c, d) ((k : Int) * s + tn j)) 0) (fun j _ => by simp [upk])
              simpa using this
            · have := zero_free (wo.alloc (.cells #[.int .i64 0, .int .i64 0, .int .i64 0, .int .i64 0, .int .i64 0, .int .i64 0] 37)) #[.int .i64 0, .int .i64 0, .int .i64 0, .int .i64 0, .int .i64 0, .int .i64 0] 37
              simpa using this
          case round =>
            obtain ⟨m, hm, rfl, i0, i1, i2, i3, hBi, hzi⟩ := hrel
            by_cases hlm : m < 3
            · as_aux_lemma =>
              have hWi := hBA.trans hBi
              have hsi := hWi.size
              have hTT := HT.out
              have hc7 := ((bcell hWi).1 g7 0 (by omega)).trans a0
              have hc7' := ((bcell hWi).1 g7 1 (by omega)).trans a1
              have hc8 := ((bcell hWi).1 g8 0 (by omega)).trans c0
              have hc8' := ((bcell hWi).1 g8 1 (by omega)).trans c1
              have hg8 : g8 < wr.heap.size := by omega
              clear hTT
              have hidx := fun W => idxT m hlm W
              obtain ⟨t1, t2⟩ := tn_bd m hlm
              have hks : -768 ≤ (k : Int) * s ∧ (k : Int) * s ≤ 768 := by
                have e : ((k : Int) * s).natAbs ≤ 6 * 128 := by rw [Int.natAbs_mul]; exact Nat.mul_le_mul (by omega) (by omega)
                omega
              obtain ⟨k1, k2⟩ := hks
              have HTA := Lib.hid (fun W => turned_any a b ((k : Int) * s + tn m) W)
              rw [turned_ok a b ((k : Int) * s + tn m) HA.out.1 HA.out.2 (by omega)] at HTA
              have HTC := Lib.hid (fun W => turned_any c d ((k : Int) * s + tn m) W)
              rw [turned_ok c d ((k : Int) * s + tn m) HC.out.1 HC.out.2 (by omega)] at HTC
              have HSA := Lib.hid (fun j => upk_step (fun j => Pl.turn (a, b) ((k : Int) * s + tn j)) m j _ rfl)
              have HSC := Lib.hid (fun j => upk_step (fun j => Pl.turn (c, d) ((k : Int) * s + tn j)) m j _ rfl)
              have j0 := i0 m hlm
              have j1 := i1 m hlm
              have f0 := i2 (m * 2)
              have f1 := i2 (m * 2 + 1)
              have f2 := i3 (m * 2)
              have f3' := i3 (m * 2 + 1)
              simp only [Nat.zero_add] at j0 j1
              obtain ⟨j00, j01⟩ := j0
              obtain ⟨j10, j11⟩ := j1
              have HI0 := Lib.hid i0
              have HI1 := Lib.hid i1
              have HI2 := Lib.hid i2
              have HI3 := Lib.hid i3
              clear i0 i1 i2 i3
              generalize hX : Pl.turn (a, b) ((k : Int) * s + tn m) = X at *
              generalize hY : Pl.turn (c, d) ((k : Int) * s + tn m) = Y at *
              clear hX hY
              generalize tn m = t at *
              have hm0 : (0 : Int) ≤ (m : Int) := by omega
              have hm3 : (m : Int) < 3 := by omega
              have hwl : wo.heap.size < wr.heap.size := by omega
              go_wp2_with (first | (go_at_call_of 17 a; refine (HTA.out _).mono ?_; rintro e w1 ⟨rfl, hb1⟩; obtain ⟨hcA, hfA⟩ := bcell' hb1 wr.heap.size (by first | (simp; done) | omega); have hsA := hb1.size; have hg8A : g8 < w1.heap.size := (by omega); have hA1 : wo.heap.size < w1.heap.size := (by omega); have hA2 : wo.heap.size + 1 < w1.heap.size := (by omega); have hA3 : wo.heap.size + 1 ≤ w1.heap.size := (by omega); have hA4 : wo.heap.size ≤ w1.heap.size := (by omega); have hA5 : g8 ≤ w1.heap.size := (by omega)) | (go_at_call_of 17 c; refine (HTC.out _).mono ?_; rintro e w2 ⟨rfl, hb2⟩; obtain ⟨hcB, hfB⟩ := bcell' hb2 (w1.heap.size + 1) (by first | (simp; done) | omega); have hsB := hb2.size; (try simp at hsB); have hB1 : wo.heap.size < w2.heap.size := (by omega); have hB2 : wo.heap.size + 1 < w2.heap.size := (by omega); have hB3 : w1.heap.size < w2.heap.size := (by omega); have hB4 : w1.heap.size ≤ w2.heap.size := (by omega)))
              have n1 : ¬ (w1.heap.size = wo.heap.size) := by omega
              have n2 : ¬ (wo.heap.size = w1.heap.size) := by omega
              have n3 : ¬ (w1.heap.size = wo.heap.size + 1) := by omega
              have n4 : ¬ (wo.heap.size + 1 = w1.heap.size) := by omega
              have n5 : ¬ (w2.heap.size = wo.heap.size) := by omega
              have n6 : ¬ (wo.heap.size = w2.heap.size) := by omega
              have n7 : ¬ (w2.heap.size = wo.heap.size + 1) := by omega
              have n8 : ¬ (wo.heap.size + 1 = w2.heap.size) := by omega
              have hbq : Bw wr w2 := (hb1.trans ((Bw.refl _).alloc _)).trans hb2
              go_region_held3 (fun W => W.cell? ⟨w1.heap.size, 0, none⟩ = some (.int .i64 X.1) ∧ W.cell? ⟨w1.heap.size, 1, none⟩ = some (.int .i64 X.2) ∧ W.cell? ⟨w2.heap.size, 0, none⟩ = some (.int .i64 Y.1) ∧ W.cell? ⟨w2.heap.size, 1, none⟩ = some (.int .i64 Y.2))
                (refine ⟨?_, ?_, ?_, ?_⟩ <;> first | (exact cell_new2 _ (by simp [World.setCell]) _ _ _ _ rfl) | (go_keep; done)) (fail)
              go_wp2
              go_roundw
              case rel =>
                have hz3 := hbq.size
                have E0 := ((HI0.out.bw hbq hwl).store m hlm X.1 X.2)
                have E1 := ((HI1.out.bw hbq hzi).far (p := ⟨wo.heap.size, m * 2, none⟩) (by simp) (.int .i64 X.1)).far (p := ⟨wo.heap.size, m * 2 + 1, none⟩) (by simp) (.int .i64 X.2)
                have E0' := (E0.far (p := ⟨wo.heap.size + 1, m * 2, none⟩) (by simp) (.int .i64 Y.1)).far (p := ⟨wo.heap.size + 1, m * 2 + 1, none⟩) (by simp) (.int .i64 Y.2)
                have E1' := E1.store m hlm Y.1 Y.2
                have F0 := ((((HI2.out.bw hbq hwl).store ⟨wo.heap.size, m * 2, none⟩ (.int .i64 X.1)).store ⟨wo.heap.size, m * 2 + 1, none⟩ (.int .i64 X.2)).store ⟨wo.heap.size + 1, m * 2, none⟩ (.int .i64 Y.1)).store ⟨wo.heap.size + 1, m * 2 + 1, none⟩ (.int .i64 Y.2)
                have F1 := ((((HI3.out.bw hbq hzi).store ⟨wo.heap.size, m * 2, none⟩ (.int .i64 X.1)).store ⟨wo.heap.size, m * 2 + 1, none⟩ (.int .i64 X.2)).store ⟨wo.heap.size + 1, m * 2, none⟩ (.int .i64 Y.1)).store ⟨wo.heap.size + 1, m * 2 + 1, none⟩ (.int .i64 Y.2)
                have B0 : Bw wo ((((w2.setCell ⟨wo.heap.size, m * 2, none⟩ (.int .i64 X.1)).setCell ⟨wo.heap.size, m * 2 + 1, none⟩ (.int .i64 X.2)).setCell ⟨wo.heap.size + 1, m * 2, none⟩ (.int .i64 Y.1)).setCell ⟨wo.heap.size + 1, m * 2 + 1, none⟩ (.int .i64 Y.2)) :=
                  Bw.setCell (Bw.setCell (Bw.setCell (Bw.setCell (hBi.trans hbq) (by simp) _) (by simp) _) (by simp) _) (by simp) _
                have z0 : wo.heap.size < ((((w2.setCell ⟨wo.heap.size, m * 2, none⟩ (.int .i64 X.1)).setCell ⟨wo.heap.size, m * 2 + 1, none⟩ (.int .i64 X.2)).setCell ⟨wo.heap.size + 1, m * 2, none⟩ (.int .i64 Y.1)).setCell ⟨wo.heap.size + 1, m * 2 + 1, none⟩ (.int .i64 Y.2)).heap.size := by simp [World.setCell]; omega
                have z1 : wo.heap.size + 1 < ((((w2.setCell ⟨wo.heap.size, m * 2, none⟩ (.int .i64 X.1)).setCell ⟨wo.heap.size, m * 2 + 1, none⟩ (.int .i64 X.2)).setCell ⟨wo.heap.size + 1, m * 2, none⟩ (.int .i64 Y.1)).setCell ⟨wo.heap.size + 1, m * 2 + 1, none⟩ (.int .i64 Y.2)).heap.size := by simp [World.setCell]; omega
                refine ⟨m + 1, by omega, by go_num, (E0'.bw (((Bw.refl _).alloc _).drew) z0).congr fun j _ => HSA.out j, (E1'.bw (((Bw.refl _).alloc _).drew) z1).congr fun j _ => HSC.out j, F0.bw (((Bw.refl _).alloc _).drew) z0, F1.bw (((Bw.refl _).alloc _).drew) z1, (B0.alloc _).drew, by simp [World.setCell]; omega⟩
              case measure => simp [intOf]; omega
            · as_aux_lemma =>
              have hm3 : m = 3 := by omega
              subst hm3
              have hWi := hBA.trans hBi
              have hsi := hWi.size
              have hsb := hBi.size
              have hTT := HT.out
              obtain ⟨R0, R1, R2, R3, R4, R5, R6, R7, R8⟩ := HR.out
              have HM0 := Lib.hid (((bcell hBi).1 g12 0 (by omega)).trans R4)
              have HM1 := Lib.hid (((bcell hBi).1 g12 1 (by omega)).trans R5)
              have hX1 := turn_turn (a, b) ((k : Int) * s) (-2)
              have hX2 := turn_turn (a, b) ((k : Int) * s) 2
              have hY1 := turn_turn (c, d) ((k : Int) * s) (-2)
              have hY2 := turn_turn (c, d) ((k : Int) * s) 2
              have hxi : Pl.inB 200 (Pl.turn (a, b) ((k : Int) * s)) := turn_in (a, b) _ 100 ⟨by have := HA.out; simp only; omega, by have := HA.out; simp only; omega, by have := HA.out; simp only; omega, by have := HA.out; simp only; omega⟩
              have hyi : Pl.inB 200 (Pl.turn (c, d) ((k : Int) * s)) := turn_in (c, d) _ 100 ⟨by have := HC.out; simp only; omega, by have := HC.out; simp only; omega, by have := HC.out; simp only; omega, by have := HC.out; simp only; omega⟩
              have hmm := mul_bar_turn (a, b) (c, d) ((k : Int) * s)
              rw [← HMd.out] at hmm
              have HB := Lib.hid (fun W => balanced_any (Pl.turn (a, b) ((k : Int) * s)) (Pl.turn (Pl.turn (a, b) ((k : Int) * s)) (-2)) (Pl.turn (Pl.turn (a, b) ((k : Int) * s)) 2) W)
              rw [bal_val _ hxi] at HB
              have HP := Lib.hid (fun W => power_any (Pl.turn (a, b) ((k : Int) * s)) (Pl.turn (Pl.turn (a, b) ((k : Int) * s)) (-2)) (Pl.turn (Pl.turn (a, b) ((k : Int) * s)) 2) (Pl.turn (c, d) ((k : Int) * s)) (Pl.turn (Pl.turn (c, d) ((k : Int) * s)) (-2)) (Pl.turn (Pl.turn (c, d) ((k : Int) * s)) 2) W)
              rw [pow_val _ _ M hxi hyi hmm] at HP
              have E0 : Ef wr wo.heap.size 0 3 (f3 (Pl.turn (a, b) ((k : Int) * s)) (Pl.turn (Pl.turn (a, b) ((k : Int) * s)) (-2)) (Pl.turn (Pl.turn (a, b) ((k : Int) * s)) 2)) := i0.congr fun j hj => by
                match j, hj with
                | 0, _ => show upk _ 3 0 = _; unfold upk; rw [if_pos (by omega)]; show Pl.turn _ (_ + 0) = _; rw [Int.add_zero]; rfl
                | 1, _ => show upk _ 3 1 = _; unfold upk; rw [if_pos (by omega)]; exact hX1.symm
                | 2, _ => show upk _ 3 2 = _; unfold upk; rw [if_pos (by omega)]; exact hX2.symm
              have E1 : Ef wr (wo.heap.size + 1) 0 3 (f3 (Pl.turn (c, d) ((k : Int) * s)) (Pl.turn (Pl.turn (c, d) ((k : Int) * s)) (-2)) (Pl.turn (Pl.turn (c, d) ((k : Int) * s)) 2)) := i1.congr fun j hj => by
                match j, hj with
                | 0, _ => show upk _ 3 0 = _; unfold upk; rw [if_pos (by omega)]; show Pl.turn _ (_ + 0) = _; rw [Int.add_zero]; rfl
                | 1, _ => show upk _ 3 1 = _; unfold upk; rw [if_pos (by omega)]; exact hY1.symm
                | 2, _ => show upk _ 3 2 = _; unfold upk; rw [if_pos (by omega)]; exact hY2.symm
              have HS0 := Lib.hid (fun j => upk_step (fun j => Pl.turn (a, b) ((j : Int) * s)) k j _ rfl)
              have HS1 := Lib.hid (fun j => upk_step (fun j => Pl.turn (a, b) ((j : Int) * s - 2)) k j (Pl.turn (Pl.turn (a, b) ((k : Int) * s)) (-2)) (hX1.symm))
              clear hX1 hX2 hY1 hY2 hxi hyi hmm
              generalize Pl.turn (Pl.turn (a, b) ((k : Int) * s)) (-2) = x1 at *
              generalize Pl.turn (Pl.turn (a, b) ((k : Int) * s)) 2 = x2 at *
              generalize Pl.turn (Pl.turn (c, d) ((k : Int) * s)) (-2) = y1 at *
              generalize Pl.turn (Pl.turn (c, d) ((k : Int) * s)) 2 = y2 at *
              generalize hX : Pl.turn (a, b) ((k : Int) * s) = x at *
              generalize hY : Pl.turn (c, d) ((k : Int) * s) = y at *
              clear hX hY
              have Q0 := R0.bw hBi (by omega)
              have Q1 := R1.bw hBi (by omega)
              have Q2 := R2.bw hBi (by omega)
              have Q3 := R3.bw hBi (by omega)
              have hTl : T + 1 < wr.heap.size := by omega
              have hTo : T + 1 < wo.heap.size := by omega
              have hgl : g12 < wr.heap.size := by omega
              have hg7 : T + 1 < g12 := by omega
              have HWi := Lib.hid hWi
              clear hTT R0 R1 R2 R3 R4 R5 R6 R7 R8 i0 i1 i2 i3 hWi hsi hsb HR
              have HE0 := Lib.hid E0
              have HE1 := Lib.hid E1
              have HQ0 := Lib.hid Q0
              have HQ1 := Lib.hid Q1
              have HQ2 := Lib.hid Q2
              have HQ3 := Lib.hid Q3
              go_upto_region 17 with fail
              go_cut [] (fun wx => CutRel wA wx T wo.heap.size g12 a b s M x x1 x2 y y1 y2 (k + 1))
              case first => as_aux_lemma =>
                obtain ⟨e0, e1, e2, e3, e4, e5⟩ := E0.three
                simp only [f3] at e0 e1 e2 e3 e4 e5
                have j0 := Q0 k hlt
                have j1 := Q1 k hlt
                have f0 := Q2 (k * 2)
                have f1 := Q2 (k * 2 + 1)
                have f2 := Q3 (k * 2)
                have f3' := Q3 (k * 2 + 1)
                simp only [Nat.zero_add] at j0 j1
                obtain ⟨j00, j01⟩ := j0
                obtain ⟨j10, j11⟩ := j1
                clear E0 E1 Q0 Q1 Q2 Q3
                have hk0 : (0 : Int) ≤ (k : Int) := by omega
                have hk6 : (k : Int) < 6 := by omega
                have n1 : ¬ (wo.heap.size = T) := by omega
                have n2 : ¬ (T = wo.heap.size) := by omega
                have n3 : ¬ (wo.heap.size = T + 1) := by omega
                have n4 : ¬ (T + 1 = wo.heap.size) := by omega
                go_region_held3 (fun W => W.cell? ⟨wo.heap.size, 0, none⟩ = some (.int .i64 x.1) ∧ W.cell? ⟨wo.heap.size, 1, none⟩ = some (.int .i64 x.2) ∧ W.cell? ⟨wo.heap.size, 2, none⟩ = some (.int .i64 x1.1) ∧ W.cell? ⟨wo.heap.size, 3, none⟩ = some (.int .i64 x1.2)) (go_keep) (fail)
                all_goals
                  go_wp2_with fail
                  go_meet
                  exact cut_rel hlt (by rw [HT.out]; exact Nat.le_refl _) hTo hzi hg7 hgl HQ0.out HQ1.out HQ2.out HQ3.out HM0.out HM1.out HE0.out HE1.out HWi.out HS0.out HS1.out
              case rest => as_aux_lemma =>
                clear E0 E1 Q0 Q1 Q2 Q3 HQ0 HQ1 HQ2 HQ3 HE0 HE1 HS0 HS1 HM0 HM1
                obtain ⟨c5, c6, hR, hzc⟩ := hcut
                obtain ⟨e0, e1, e2, e3, e4, e5⟩ := c5.three
                obtain ⟨d0, d1, d2, d3, d4, d5⟩ := c6.three
                simp only [f3] at e0 e1 e2 e3 e4 e5 d0 d1 d2 d3 d4 d5
                have HR2 := Lib.hid hR
                obtain ⟨_, _, _, _, q0, q1, _, q7, q8⟩ := hR
                have hMb := mulbar_bd a b c d HA.out.1 HA.out.2 HC.out.1 HC.out.2
                rw [← HMd.out] at hMb
                obtain ⟨M1, M2, M3, M4⟩ := hMb
                have hzc0 : wo.heap.size < wc.heap.size := by omega
                clear c5 c6 hTl hTo hgl hg7
                go_wp2_with (first | (go_at_call 18; refine (HB.out _).mono ?_; rintro e w1 ⟨rfl, hb1⟩; obtain ⟨hc1, hf1⟩ := bcell' hb1 wc.heap.size (by simp); have hs1 := hb1.size; (try simp at hs1); have hy0 : wo.heap.size < w1.heap.size := (by omega); have hy1 : wo.heap.size + 1 < w1.heap.size := (by omega); have hy2 : g12 < w1.heap.size := (by omega); have hy3 : g12 ≤ w1.heap.size := (by omega); have hW1 : Bw wc w1 := Bw.trans (by repeat (with_reducible first | assumption | exact Bw.refl _ | apply Bw.drew | apply Bw.drewN | apply Bw.alloc | refine Bw.setCell ?_ (by first | (simp; done) | (simp; omega) | omega) _)) hb1) | (go_at_call 19; refine (HP.out _).mono ?_; rintro e w2 ⟨rfl, hb2⟩; obtain ⟨hc2, hf2⟩ := bcell' hb2 w1.heap.size (by simp); have hs2 := hb2.size; (try simp at hs2); have hy4 : g12 < w2.heap.size := (by omega); have hy5 : g12 ≤ w2.heap.size := (by omega); have hW2 : Bw wc w2 := Bw.trans hW1 (Bw.trans (by repeat (with_reducible first | assumption | exact Bw.refl _ | apply Bw.drew | apply Bw.drewN | apply Bw.alloc | refine Bw.setCell ?_ (by first | (simp; done) | (simp; omega) | omega) _)) hb2)))
                go_roundw
                case rel => exact ⟨k + 1, by omega, by go_num, HR2.out.bw (hW2.alloc _)⟩
                case measure => simp [intOf]; omega
        · as_aux_lemma =>
          have hk6 : k = 6 := by omega
          subst hk6
          obtain ⟨R0, R1, R2, R3, R4, R5, R6, R7, R8⟩ := hR
          obtain ⟨i0, hiE, hzE0, hzE1, hzE2⟩ := info_parts infoE
          have E0 : Ef wo T 0 6 (f6 (Pl.turn (a, b) (0 * s)) (Pl.turn (a, b) (1 * s)) (Pl.turn (a, b) (2 * s)) (Pl.turn (a, b) (3 * s)) (Pl.turn (a, b) (4 * s)) (Pl.turn (a, b) (5 * s))) := R0.congr fun j hj => by
            unfold upk
            rw [if_pos hj]
            match j, hj with
            | 0, _ => rfl
            | 1, _ => rfl
            | 2, _ => rfl
            | 3, _ => rfl
            | 4, _ => rfl
            | 5, _ => rfl
          have E1 : Ef wo (T + 1) 0 6 (fun j => Pl.turn (a, b) ((j : Int) * s + -2)) := R1.congr fun j hj => by
            unfold upk
            rw [if_pos hj]
            congr 1
          have HFr0 := Lib.hid (fun g cap W hg hE => framed_rot a b s 0 (f6 (Pl.turn (a, b) (0 * s)) (Pl.turn (a, b) (1 * s)) (Pl.turn (a, b) (2 * s)) (Pl.turn (a, b) (3 * s)) (Pl.turn (a, b) (4 * s)) (Pl.turn (a, b) (5 * s))) HA.out.1 HA.out.2 ⟨s1, s2⟩ (fun j hj => by
            rw [Int.add_zero]
            match j, hj with
            | 0, _ => rfl
            | 1, _ => rfl
            | 2, _ => rfl
            | 3, _ => rfl
            | 4, _ => rfl
            | 5, _ => rfl) g cap W hg hE)
          rw [turn_0 (a, b) 0 rfl] at HFr0
          have HFr1 := Lib.hid (fun g cap W hg hE => framed_rot a b s (-2) (fun j => Pl.turn (a, b) ((j : Int) * s + -2)) HA.out.1 HA.out.2 ⟨s1, s2⟩ (fun j hj => rfl) g cap W hg hE)
          have HSp := Lib.hid (fun W => spectrum'_any (Pl.turn (a, b) (0 * s)) (Pl.turn (a, b) (1 * s)) (Pl.turn (a, b) (2 * s)) (Pl.turn (a, b) (3 * s)) (Pl.turn (a, b) (4 * s)) (Pl.turn (a, b) (5 * s)) W)
          rw [spec_val (a, b) s (by have := HA.out; exact ⟨by simp only; omega, by simp only; omega, by simp only; omega, by simp only; omega⟩)] at HSp
          have HTu := Lib.hid (fun W => refTurn_any a b (-2) W (by have := HA.out; exact ⟨by simp only; omega, by simp only; omega, by simp only; omega, by simp only; omega⟩) (by omega))
          have HWi := Lib.hid R6
          obtain ⟨n0, hn0⟩ : ∃ n0 : Int, n0 = s % 6 := ⟨_, rfl⟩
          have hone : (s.tmod 6 + 6) % 6 = n0 := by rw [hn0]; exact Pl.rest_emod s 6 (by omega)
          have hm1 := Int.tmod_lt_of_pos s (b := 6) (by omega)
          have hm2 := Int.lt_tmod_of_pos s (b := 6) (by omega)
          have HN0 := Lib.hid hn0
          obtain ⟨sp, hsp⟩ : ∃ sp : Nat → Int × Int, sp = lone (a, b) s := ⟨_, rfl⟩
          rw [← hsp] at HSp
          have HSP := Lib.hid hsp
          clear R0 R1 R2 R3 R4 R5 R6 hn0 hsp
          generalize Pl.turn (a, b) (0 * s) = p0 at *
          generalize Pl.turn (a, b) (1 * s) = p1 at *
          generalize Pl.turn (a, b) (2 * s) = p2 at *
          generalize Pl.turn (a, b) (3 * s) = p3 at *
          generalize Pl.turn (a, b) (4 * s) = p4 at *
          generalize Pl.turn (a, b) (5 * s) = p5 at *
          generalize (fun j : Nat => Pl.turn (a, b) ((j : Int) * s + -2)) = F1 at *
          generalize Pl.turn (a, b) (-2) = q at *
          have HE0 := Lib.hid E0
          have HE1 := Lib.hid E1
          clear E0 E1
          have hT0 : T < wo.heap.size := by omega
          go_upto_region 23 with fail
          go_wp2_with (first | (at_builtin; refine wpList_append_own _ rfl _ _ 69 rfl wo.heap.size 33 i0 (.agg #[.int .i64 0, .int .i64 0]) 2 16 Try.underlying69 hiE hzE0 hzE1 hzE2 rfl (by decide) _ 0 [] rfl (own0 wo _) ⟨T, 0, none⟩ 6 6 (news6 (f6 p0 p1 p2 p3 p4 p5)) rfl rfl (six_news (HE0.out.bw ((Bw.refl _).alloc _) hT0)) (six_one _) (by unfold maxLen; omega) (by omega) (by simp) ?_; intro v1 w1 hown1 hgr1 _; obtain ⟨ga, capa, rfl, hga, hgl, hEa⟩ := six_own hown1; have hbA : Bw wo w1 := bw_grown rfl hgr1; have HEa := Lib.hid hEa; clear hown1 hgr1 hEa) | (go_at_call_of 20 (Value.slice (some ⟨ga, 0, none⟩) 6 capa); refine (HFr0.out ga capa _ hgl HEa.out).mono ?_; rintro e w2 ⟨gs, rfl, hEs, hFs, hb2, hls, hzs⟩; have HEs := Lib.hid hEs; have hT2 : T + 1 < w2.heap.size := (by have := hbA.size; have := hb2.size; omega); have hB2 : Bw wo w2 := hbA.trans hb2; clear hEs hFs) | (at_builtin; refine wpList_append_own _ rfl _ _ 69 rfl w2.heap.size 33 i0 (.agg #[.int .i64 0, .int .i64 0]) 2 16 Try.underlying69 hiE hzE0 hzE1 hzE2 rfl (by decide) _ 0 [] rfl (own0 w2 _) ⟨T + 1, 0, none⟩ 6 6 (news6 F1) rfl rfl (six_news ((HE1.out.bw hB2 R7).bw ((Bw.refl _).alloc _) hT2)) (six_one _) (by unfold maxLen; omega) (by omega) (by simp) ?_; intro v3 w3 hown3 hgr3 _; obtain ⟨gb, capb, rfl, hgb, hgbl, hEb⟩ := six_own hown3; have hbB : Bw w2 w3 := bw_grown rfl hgr3; have HEb := Lib.hid hEb; clear hown3 hgr3 hEb) | (go_at_call_of 20 (Value.slice (some ⟨gb, 0, none⟩) 6 capb); refine (HFr1.out gb capb _ hgbl HEb.out).mono ?_; rintro e w4 ⟨gt, rfl, hEt, hFt, hb4, hlt4, hzt⟩; have HEt := Lib.hid hEt; have hB4 : Bw w2 w4 := hbB.trans hb4; have hB04 : Bw wo w4 := hB2.trans hB4; obtain ⟨x0', x1', x2', x3', x4', x5', x6', x7', x8', x9', x10', x11'⟩ := (HE0.out.bw hB04 hT0).six; simp only [f6] at x0' x1' x2' x3' x4' x5' x6' x7' x8' x9' x10' x11'; clear hEt hFt) | (go_at_call 21; refine (HSp.out _).mono ?_; rintro e w5 ⟨rfl, hb5⟩; have hB5 : Bw w4 w5 := Bw.trans (by repeat (with_reducible first | assumption | exact Bw.refl _ | apply Bw.drew | apply Bw.drewN | apply Bw.alloc | refine Bw.setCell ?_ (by first | (simp; done) | (simp; omega) | omega) _)) hb5))
          rw [hone]
          clear hone hm1 hm2 HFr0 HFr1 HSp x0' x1' x2' x3' x4' x5' x6' x7' x8' x9' x10' x11' HE0 HE1 HEa HEb hiE hzE0 hzE1 hzE2 hga hgl hgb hgbl hls hlt4 hbA hbB hb2 hb4 hB2 hT2
          go_loopw [185] (fun i wr => ∃ k : Nat, k ≤ 6 ∧ i = .int .i64 k ∧ Ef wr w5.heap.size 0 6 sp ∧ Bw w5 wr ∧ w5.heap.size < wr.heap.size) (fun i _ => 6 - (intOf i).toNat)
          case atStart =>
            refine ⟨0, by omega, rfl, (Ef.mk6 (p1 := sp 0) (p2 := sp 1) (p3 := sp 2) (p4 := sp 3) (p5 := sp 4) (p6 := sp 5) (by go_simp) (by go_simp) (by go_simp) (by go_simp) (by go_simp) (by go_simp) (by go_simp) (by go_simp) (by go_simp) (by go_simp) (by go_simp) (by go_simp)).congr (fun i hi => ?_), (Bw.refl _).alloc _, by simp⟩
            match i, hi with
            | 0, _ => rfl
            | 1, _ => rfl
            | 2, _ => rfl
            | 3, _ => rfl
            | 4, _ => rfl
            | 5, _ => rfl
          case round =>
            obtain ⟨k, hk, rfl, hEsp, hB5r, hzr⟩ := hrel
            have hWr := HWi.out.trans (hB04.trans (hB5.trans hB5r))
            by_cases hlt : k < 6
            · have hTT := HT.out
              have hs5 := hB5.size
              have s0 := (HEs.out.bw (hB4.trans (hB5.trans hB5r)) hzs) k hlt
              have t0 := (HEt.out.bw (hB5.trans hB5r) hzt) k hlt
              have u0 := hEsp k hlt
              have v0 := ((bcell hWr).1 g7 0 (by omega)).trans a0
              have v1 := ((bcell hWr).1 g7 1 (by omega)).trans a1
              simp only [Nat.zero_add] at s0 t0 u0
              obtain ⟨s00, s01⟩ := s0
              obtain ⟨t00, t01⟩ := t0
              obtain ⟨⟨A1, A2⟩, A3, A4⟩ := HA.out
              have hLL : ∃ L : Int × Int, sp k = L ∧ ((k : Int) = n0 → L = (6 * a, 6 * b)) ∧ ((k : Int) ≠ n0 → L = (0, 0)) := by
                refine ⟨_, rfl, fun h => ?_, fun h => ?_⟩
                · rw [HSP.out]; unfold lone; rw [← HN0.out, if_pos h]
                · rw [HSP.out]; unfold lone; rw [← HN0.out, if_neg h]
              obtain ⟨L, hL, hL1, hL0⟩ := hLL
              rw [hL] at u0
              obtain ⟨u00, u01⟩ := u0
              have g1 : gs < wr.heap.size := by have := hB5r.size; have := hB4.size; omega
              have g2 : gt < wr.heap.size := by have := hB5r.size; omega
              have g3 : g7 < wr.heap.size := by have := hWr.size; omega
              have HEsp := Lib.hid hEsp
              clear hTT hL hEsp
              have hk0 : (0 : Int) ≤ (k : Int) := by omega
              have hk6 : (k : Int) < 6 := by omega
              have hLk : L = (6 * a, 6 * b) ∧ ((k : Int) == n0) = true ∨ L = (0, 0) ∧ ((k : Int) == n0) = false := by
                by_cases hk1 : (k : Int) = n0
                · exact .inl ⟨hL1 hk1, by simp [hk1]⟩
                · exact .inr ⟨hL0 hk1, by simp [hk1]⟩
              clear hL1 hL0
              rcases hLk with ⟨rfl, hkn⟩ | ⟨rfl, hkn⟩
              · simp only at u00 u01
                go_upto_region 35 with fail
                go_cut [220] (fun u wx => u = .bool false ∧ Bw wr wx)
                case first => as_aux_lemma =>
                  obtain ⟨wq, hwq⟩ : ∃ wq : World, wq = wr.alloc (.cells #[.int .i64 (6 * a), .int .i64 (6 * b)] 33) := ⟨_, rfl⟩
                  have hq : Bw wr wq := by rw [hwq]; exact (Bw.refl _).alloc _
                  have hqz : wr.heap.size < wq.heap.size := by rw [hwq]; simp
                  have l0 : wq.cell? ⟨wr.heap.size, 0, none⟩ = some (.int .i64 (6 * a)) := by rw [hwq]; go_simp
                  have l1 : wq.cell? ⟨wr.heap.size, 1, none⟩ = some (.int .i64 (6 * b)) := by rw [hwq]; go_simp
                  rw [← hwq]
                  have HQ : ∀ W : World, Bw wq W → W.cell? ⟨gs, k * 2, none⟩ = some (.int .i64 a) ∧ W.cell? ⟨gs, k * 2 + 1, none⟩ = some (.int .i64 b) ∧ W.cell? ⟨gt, k * 2, none⟩ = some (.int .i64 q.1) ∧ W.cell? ⟨gt, k * 2 + 1, none⟩ = some (.int .i64 q.2) ∧ W.cell? ⟨w5.heap.size, k * 2, none⟩ = some (.int .i64 (6 * a)) ∧ W.cell? ⟨w5.heap.size, k * 2 + 1, none⟩ = some (.int .i64 (6 * b)) ∧ W.cell? ⟨g7, 0, none⟩ = some (.int .i64 a) ∧ W.cell? ⟨g7, 1, none⟩ = some (.int .i64 b) ∧ W.cell? ⟨wr.heap.size, 0, none⟩ = some (.int .i64 (6 * a)) ∧ W.cell? ⟨wr.heap.size, 1, none⟩ = some (.int .i64 (6 * b)) := fun W hW => by
                    have hWW := hq.trans hW
                    exact ⟨((bcell hWW).1 _ _ g1).trans s00, ((bcell hWW).1 _ _ g1).trans s01, ((bcell hWW).1 _ _ g2).trans t00, ((bcell hWW).1 _ _ g2).trans t01, ((bcell hWW).1 _ _ hzr).trans u00, ((bcell hWW).1 _ _ hzr).trans u01, ((bcell hWW).1 _ _ g3).trans v0, ((bcell hWW).1 _ _ g3).trans v1, ((bcell hW).1 _ _ hqz).trans l0, ((bcell hW).1 _ _ hqz).trans l1⟩
                  have HQ' := Lib.hid HQ
                  have Hq := Lib.hid hq
                  clear HQ hwq hq l0 l1 s00 s01 t00 t01 u00 u01 v0 v1
                  go_region_held3 (fun W => W.cell? ⟨gs, k * 2, none⟩ = some (.int .i64 a) ∧ W.cell? ⟨gs, k * 2 + 1, none⟩ = some (.int .i64 b) ∧ W.cell? ⟨gt, k * 2, none⟩ = some (.int .i64 q.1) ∧ W.cell? ⟨gt, k * 2 + 1, none⟩ = some (.int .i64 q.2) ∧ W.cell? ⟨w5.heap.size, k * 2, none⟩ = some (.int .i64 (6 * a)) ∧ W.cell? ⟨w5.heap.size, k * 2 + 1, none⟩ = some (.int .i64 (6 * b)) ∧ W.cell? ⟨g7, 0, none⟩ = some (.int .i64 a) ∧ W.cell? ⟨g7, 1, none⟩ = some (.int .i64 b) ∧ W.cell? ⟨wr.heap.size, 0, none⟩ = some (.int .i64 (6 * a)) ∧ W.cell? ⟨wr.heap.size, 1, none⟩ = some (.int .i64 (6 * b))) (exact HQ'.out _ (by repeat (with_reducible first | assumption | exact Bw.refl _ | apply Bw.drew | apply Bw.drewN | apply Bw.alloc | refine Bw.setCell ?_ (by first | (simp; done) | (simp; omega) | omega) _)))
                    ((go_at_call 22; refine (HTu.out _).mono ?_; rintro e w6 ⟨rfl, hb6⟩; have hB6 : Bw wq w6 := Bw.trans (by repeat (with_reducible first | assumption | exact Bw.refl _ | apply Bw.drew | apply Bw.drewN | apply Bw.alloc | refine Bw.setCell ?_ (by first | (simp; done) | (simp; omega) | omega) _)) hb6))
                  all_goals
                    go_wp2_with fail
                    go_meet
                    exact ⟨rfl, Hq.out.trans (by repeat (with_reducible first | assumption | exact Bw.refl _ | apply Bw.drew | apply Bw.drewN | apply Bw.alloc | refine Bw.setCell ?_ (by first | (simp; done) | (simp; omega) | omega) _))⟩
                case rest =>
                  obtain ⟨rfl, hBx⟩ := hcut
                  go_wp2
                  go_roundw
                  case rel => exact ⟨k + 1, by omega, by go_num, HEsp.out.bw hBx hzr, hB5r.trans hBx, by have := hBx.size; omega⟩
                  case measure => simp [intOf]; omega
              · simp only at u00 u01
                go_upto_region 35 with fail
                go_cut [220] (fun u wx => u = .bool false ∧ Bw wr wx)
                case first => as_aux_lemma =>
                  obtain ⟨wq, hwq⟩ : ∃ wq : World, wq = wr.alloc (.cells #[.int .i64 (0), .int .i64 (0)] 33) := ⟨_, rfl⟩
                  have hq : Bw wr wq := by rw [hwq]; exact (Bw.refl _).alloc _
                  have hqz : wr.heap.size < wq.heap.size := by rw [hwq]; simp
                  have l0 : wq.cell? ⟨wr.heap.size, 0, none⟩ = some (.int .i64 (0)) := by rw [hwq]; go_simp
                  have l1 : wq.cell? ⟨wr.heap.size, 1, none⟩ = some (.int .i64 (0)) := by rw [hwq]; go_simp
                  rw [← hwq]
                  have HQ : ∀ W : World, Bw wq W → W.cell? ⟨gs, k * 2, none⟩ = some (.int .i64 a) ∧ W.cell? ⟨gs, k * 2 + 1, none⟩ = some (.int .i64 b) ∧ W.cell? ⟨gt, k * 2, none⟩ = some (.int .i64 q.1) ∧ W.cell? ⟨gt, k * 2 + 1, none⟩ = some (.int .i64 q.2) ∧ W.cell? ⟨w5.heap.size, k * 2, none⟩ = some (.int .i64 (0)) ∧ W.cell? ⟨w5.heap.size, k * 2 + 1, none⟩ = some (.int .i64 (0)) ∧ W.cell? ⟨g7, 0, none⟩ = some (.int .i64 a) ∧ W.cell? ⟨g7, 1, none⟩ = some (.int .i64 b) ∧ W.cell? ⟨wr.heap.size, 0, none⟩ = some (.int .i64 (0)) ∧ W.cell? ⟨wr.heap.size, 1, none⟩ = some (.int .i64 (0)) := fun W hW => by
                    have hWW := hq.trans hW
                    exact ⟨((bcell hWW).1 _ _ g1).trans s00, ((bcell hWW).1 _ _ g1).trans s01, ((bcell hWW).1 _ _ g2).trans t00, ((bcell hWW).1 _ _ g2).trans t01, ((bcell hWW).1 _ _ hzr).trans u00, ((bcell hWW).1 _ _ hzr).trans u01, ((bcell hWW).1 _ _ g3).trans v0, ((bcell hWW).1 _ _ g3).trans v1, ((bcell hW).1 _ _ hqz).trans l0, ((bcell hW).1 _ _ hqz).trans l1⟩
                  have HQ' := Lib.hid HQ
                  have Hq := Lib.hid hq
                  clear HQ hwq hq l0 l1 s00 s01 t00 t01 u00 u01 v0 v1
                  go_region_held3 (fun W => W.cell? ⟨gs, k * 2, none⟩ = some (.int .i64 a) ∧ W.cell? ⟨gs, k * 2 + 1, none⟩ = some (.int .i64 b) ∧ W.cell? ⟨gt, k * 2, none⟩ = some (.int .i64 q.1) ∧ W.cell? ⟨gt, k * 2 + 1, none⟩ = some (.int .i64 q.2) ∧ W.cell? ⟨w5.heap.size, k * 2, none⟩ = some (.int .i64 (0)) ∧ W.cell? ⟨w5.heap.size, k * 2 + 1, none⟩ = some (.int .i64 (0)) ∧ W.cell? ⟨g7, 0, none⟩ = some (.int .i64 a) ∧ W.cell? ⟨g7, 1, none⟩ = some (.int .i64 b) ∧ W.cell? ⟨wr.heap.size, 0, none⟩ = some (.int .i64 (0)) ∧ W.cell? ⟨wr.heap.size, 1, none⟩ = some (.int .i64 (0))) (exact HQ'.out _ (by repeat (with_reducible first | assumption | exact Bw.refl _ | apply Bw.drew | apply Bw.drewN | apply Bw.alloc | refine Bw.setCell ?_ (by first | (simp; done) | (simp; omega) | omega) _)))
                    ((go_at_call 22; refine (HTu.out _).mono ?_; rintro e w6 ⟨rfl, hb6⟩; have hB6 : Bw wq w6 := Bw.trans (by repeat (with_reducible first | assumption | exact Bw.refl _ | apply Bw.drew | apply Bw.drewN | apply Bw.alloc | refine Bw.setCell ?_ (by first | (simp; done) | (simp; omega) | omega) _)) hb6))
                  all_goals
                    go_wp2_with fail
                    go_meet
                    exact ⟨rfl, Hq.out.trans (by repeat (with_reducible first | assumption | exact Bw.refl _ | apply Bw.drew | apply Bw.drewN | apply Bw.alloc | refine Bw.setCell ?_ (by first | (simp; done) | (simp; omega) | omega) _))⟩
                case rest =>
                  obtain ⟨rfl, hBx⟩ := hcut
                  go_wp2
                  go_roundw
                  case rel => exact ⟨k + 1, by omega, by go_num, HEsp.out.bw hBx hzr, hB5r.trans hBx, by have := hBx.size; omega⟩
                  case measure => simp [intOf]; omega
            · have hk6 : k = 6 := by omega
              subst hk6
              go_wp2_with (go_at_call 5; refine (thimbleWires_any _).mono ?_; rintro e w9 ⟨rfl, hb9⟩)
              go_ret
              exact ⟨rfl, (hB.trans hWr).trans hb9⟩
end Go.Proofs.Ytaikcakpmbhnpaa
