/-
  The contract of Power.
-/
import Derived.Test.YtgloclcbeohkhaaGreatDoorComps
import Derived.Deep.RegionHeld3
namespace Go.Proofs.YtgloclcbeohkhaaGreatDoor
set_option linter.all false
open Go.RowKit

/-- The power of the first m phases. -/
def Pw (u v : Nat → Int × Int) : Nat → Int × Int
  | 0 => (0, 0)
  | m + 1 => Pl.add (Pw u v m) (Pl.mul (u m) (Pl.bar (v m)))

/-- What 'Power' returns. -/
def powV (p q r x y z : Int × Int) : Value := if Pl.firstE [firstP 65536 [p, q, r], firstP 65536 [x, y, z]] = 0 then
  .tuple #[.agg #[.int .i64 (Pw (f3 p q r) (f3 x y z) 3).1, .int .i64 (Pw (f3 p q r) (f3 x y z) 3).2], .int .i64 (2 * (Pw (f3 p q r) (f3 x y z) 3).1 - (Pw (f3 p q r) (f3 x y z) 3).2), .int .i64 0]
  else .tuple #[.agg #[.int .i64 0, .int .i64 0], .int .i64 0, .int .i64 (Pl.firstE [firstP 65536 [p, q, r], firstP 65536 [x, y, z]])]

/-- The three boxes of 'Power'. -/
def pbox (w : World) (p q r x y z : Int × Int) : World :=
  ((w.alloc (.cells #[.int .i64 p.1, .int .i64 p.2, .int .i64 q.1, .int .i64 q.2, .int .i64 r.1, .int .i64 r.2] 54)).alloc (.cells #[.int .i64 x.1, .int .i64 x.2, .int .i64 y.1, .int .i64 y.2, .int .i64 z.1, .int .i64 z.2] 54)).alloc (.cells #[.int .i64 0, .int .i64 0] 23)
theorem pbox_size (w : World) (p q r x y z : Int × Int) : (pbox w p q r x y z).heap.size = w.heap.size + 3 := by simp [pbox]
theorem pbox_bw (w : World) (p q r x y z : Int × Int) : Bw w (pbox w p q r x y z) := (((Bw.refl _).alloc _).alloc _).alloc _
theorem pbox_ef (w : World) (p q r x y z : Int × Int) : Ef (pbox w p q r x y z) (w.heap.size + 1) 0 3 (f3 x y z) := by
  unfold pbox
  exact Ef.mk3 (by go_simp) (by go_simp) (by go_simp) (by go_simp) (by go_simp) (by go_simp)
theorem Bw.of_drew {a b : World} (h : Bw a.drew b) : Bw a b := by
  have h' : Below a.drew.heap.size a.drew b := h
  exact (⟨h'.os, h'.tape, h'.output, h'.size, h'.block⟩ : Below a.heap.size a b)

theorem Pw_big (u v : Nat → Int × Int) (n : Nat) (hu : ∀ i, i < n → Big 65536 (u i)) (hv : ∀ i, i < n → Big 65536 (v i)) (hn : n ≤ 3) : Big (n * 100000000000) (Pw u v n) := by
  induction n with
  | zero => simp [Big, Pw]
  | succ n ih =>
    obtain ⟨a1, a2, a3, a4⟩ := ih (fun i hi => hu i (by omega)) (fun i hi => hv i (by omega)) (by omega)
    obtain ⟨u1, u2, u3, u4⟩ := hu n (by omega)
    obtain ⟨v1, v2, v3, v4⟩ := hv n (by omega)
    obtain ⟨m1, m2⟩ := mul_bd 131072 (u n).1 ((v n).1 - (v n).2) (by omega) (by omega) (by omega) (by omega) (by omega)
    obtain ⟨m3, m4⟩ := mul_bd 131072 (u n).2 (-(v n).2) (by omega) (by omega) (by omega) (by omega) (by omega)
    obtain ⟨m5, m6⟩ := mul_bd 131072 (u n).1 (-(v n).2) (by omega) (by omega) (by omega) (by omega) (by omega)
    obtain ⟨m7, m8⟩ := mul_bd 131072 (u n).2 ((v n).1 - (v n).2) (by omega) (by omega) (by omega) (by omega) (by omega)
    have e : ((n + 1 : Nat) : Int) * 100000000000 = n * 100000000000 + 100000000000 := by rw [Int.natCast_succ, Int.add_mul, Int.one_mul]
    unfold Big Pw Pl.add Pl.mul Pl.bar
    simp only [e]
    generalize (u n).1 * ((v n).1 - (v n).2) = k1 at *
    generalize (u n).2 * (-(v n).2) = k2 at *
    generalize (u n).1 * (-(v n).2) = k3 at *
    generalize (u n).2 * ((v n).1 - (v n).2) = k4 at *
    simp only [Int.reduceMul] at m1 m2 m3 m4 m5 m6 m7 m8
    refine ⟨?_, ?_, ?_, ?_⟩ <;> omega

theorem idx0 (a0 a1 a2 a3 a4 a5 : Value) (W : World) : (Instr.index 54 (.agg #[a0, a1, a2, a3, a4, a5]) (.int .i64 0)).run Tryz.prog W = .ok (.agg #[a0, a1]) W := by kernel_rfl
theorem idx1 (a0 a1 a2 a3 a4 a5 : Value) (W : World) : (Instr.index 54 (.agg #[a0, a1, a2, a3, a4, a5]) (.int .i64 1)).run Tryz.prog W = .ok (.agg #[a2, a3]) W := by kernel_rfl
theorem idx2 (a0 a1 a2 a3 a4 a5 : Value) (W : World) : (Instr.index 54 (.agg #[a0, a1, a2, a3, a4, a5]) (.int .i64 2)).run Tryz.prog W = .ok (.agg #[a4, a5]) W := by kernel_rfl

theorem idx_k (p q r : Int × Int) (k : Nat) (hk : k < 3) (W : World) :
    (Instr.index 54 (.agg #[.int .i64 p.1, .int .i64 p.2, .int .i64 q.1, .int .i64 q.2, .int .i64 r.1, .int .i64 r.2]) (.int .i64 (k : Int))).run Tryz.prog W = .ok (.agg #[.int .i64 (f3 p q r k).1, .int .i64 (f3 p q r k).2]) W := by
  match k, hk with
  | 0, _ => exact idx0 _ _ _ _ _ _ W
  | 1, _ => exact idx1 _ _ _ _ _ _ W
  | 2, _ => exact idx2 _ _ _ _ _ _ W
theorem set2_cells {w : World} {g : Nat} {u v x y : Value} (h0 : w.cell? ⟨g, 0, none⟩ = some u) (h1 : w.cell? ⟨g, 1, none⟩ = some v) :
    ((w.setCell ⟨g, 0, none⟩ x).setCell ⟨g, 1, none⟩ y).cell? ⟨g, 0, none⟩ = some x ∧ ((w.setCell ⟨g, 0, none⟩ x).setCell ⟨g, 1, none⟩ y).cell? ⟨g, 1, none⟩ = some y :=
  ⟨(World.cell?_setCell_other _ _ _ _ (by simp)).trans (World.cell?_setCell_same _ _ _ h0), World.cell?_setCell_same _ _ _ ((World.cell?_setCell_other _ _ _ _ (by simp)).trans h1)⟩

set_option maxHeartbeats 4000000 in
set_option maxRecDepth 100000 in
theorem power_yes (p q r x y z : Int × Int) (w : World) (h3 : firstP 65536 [p, q, r] = 0) (h4 : firstP 65536 [x, y, z] = 0) :
    Calls Tryz.prog 32 #[.agg #[.int .i64 p.1, .int .i64 p.2, .int .i64 q.1, .int .i64 q.2, .int .i64 r.1, .int .i64 r.2], .agg #[.int .i64 x.1, .int .i64 x.2, .int .i64 y.1, .int .i64 y.2, .int .i64 z.1, .int .i64 z.2]] w fun e w' =>
      e = .returned (.tuple #[.agg #[.int .i64 (Pw (f3 p q r) (f3 x y z) 3).1, .int .i64 (Pw (f3 p q r) (f3 x y z) 3).2], .int .i64 (2 * (Pw (f3 p q r) (f3 x y z) 3).1 - (Pw (f3 p q r) (f3 x y z) 3).2), .int .i64 0]) ∧ Bw w w' := by
  have H1 := Lib.hid (fun W => checkPhases_any p q r W)
  have H2 := Lib.hid (fun W => checkPhases_any x y z W)
  have i3 := firstP_zero.1 h3
  have i4 := firstP_zero.1 h4
  rw [h3] at H1
  rw [h4] at H2
  have HF := Lib.hid (fun b0 c0 W h0 h1 => first2 0 0 b0 c0 W h0 h1)
  rw [show Pl.firstE [0, 0] = 0 from rfl] at HF
  have hu : ∀ i, i < 3 → Big 65536 (f3 p q r i) := fun i hi => by
    match i, hi with
    | 0, _ => exact Big.of (i3 p (by simp)) (by omega)
    | 1, _ => exact Big.of (i3 q (by simp)) (by omega)
    | 2, _ => exact Big.of (i3 r (by simp)) (by omega)
  have hv : ∀ i, i < 3 → Big 65536 (f3 x y z i) := fun i hi => by
    match i, hi with
    | 0, _ => exact Big.of (i4 x (by simp)) (by omega)
    | 1, _ => exact Big.of (i4 y (by simp)) (by omega)
    | 2, _ => exact Big.of (i4 z (by simp)) (by omega)
  have HU := Lib.hid hu
  have HV := Lib.hid hv
  clear h3 h4 i3 i4 hu hv
  go_enter Tryz.func32, Tryz.ntmps32
  go_wp2
  go_region_held3 (fun W => W.cell? ⟨w.heap.size, 0, none⟩ = some (.int .i64 p.1) ∧ W.cell? ⟨w.heap.size, 1, none⟩ = some (.int .i64 p.2) ∧ W.cell? ⟨w.heap.size, 2, none⟩ = some (.int .i64 q.1) ∧ W.cell? ⟨w.heap.size, 3, none⟩ = some (.int .i64 q.2) ∧ W.cell? ⟨w.heap.size, 4, none⟩ = some (.int .i64 r.1) ∧ W.cell? ⟨w.heap.size, 5, none⟩ = some (.int .i64 r.2) ∧ W.cell? ⟨w.heap.size + 1, 0, none⟩ = some (.int .i64 x.1) ∧ W.cell? ⟨w.heap.size + 1, 1, none⟩ = some (.int .i64 x.2) ∧ W.cell? ⟨w.heap.size + 1, 2, none⟩ = some (.int .i64 y.1) ∧ W.cell? ⟨w.heap.size + 1, 3, none⟩ = some (.int .i64 y.2) ∧ W.cell? ⟨w.heap.size + 1, 4, none⟩ = some (.int .i64 z.1) ∧ W.cell? ⟨w.heap.size + 1, 5, none⟩ = some (.int .i64 z.2)) (go_keep)
    (first | (go_at_call_of 39 p; refine (H1.out _).mono ?_; rintro e w1 ⟨rfl, hb1⟩; obtain ⟨hc1, hf1⟩ := bcell' hb1 (w.heap.size + 3) (by simp); have hz1_2 : w.heap.size + 2 < w1.heap.size := (by have := hb1.size; (try simp at this); omega); have hz1_1 : w.heap.size + 1 < w1.heap.size := (by omega); have hz1_0 : w.heap.size < w1.heap.size := (by omega); have hP1 : Bw (pbox w p q r x y z) w1 := hb1.of_drew) | (go_at_call_of 39 x; refine (H2.out _).mono ?_; rintro e w2 ⟨rfl, hb2⟩; obtain ⟨hc2, hf2⟩ := bcell' hb2 w1.heap.size (by simp); have hz2_2 : w.heap.size + 2 < w2.heap.size := (by have := hb2.size; (try simp at this); omega); have hz2_1 : w.heap.size + 1 < w2.heap.size := (by omega); have hz2_0 : w.heap.size < w2.heap.size := (by omega); have hP2 : Bw (pbox w p q r x y z) w2 := hP1.trans hb2) | (go_at_call 47; refine (HF.out _ _ _ (by go_simp) (by go_simp)).mono ?_; rintro e wp ⟨rfl, rfl⟩))
  go_wp2
  clear H1 H2 HF hc1 hc2 hf1 hf2
  have hGs : w.heap.size + 3 ≤ w2.heap.size := by have := hP2.size; rw [pbox_size] at this; omega
  have hP3 : Bw (pbox w p q r x y z) ((w2.alloc (.cells #[.int .i64 0, .int .i64 0] 24)).alloc (.cells #[.int .i64 0, .int .i64 0] 23)) := (hP2.alloc _).alloc _
  go_loopw [23] (fun i wr => ∃ k : Nat, k ≤ 3 ∧ i = .int .i64 k ∧ wr.cell? ⟨w2.heap.size + 1, 0, none⟩ = some (.int .i64 (Pw (f3 p q r) (f3 x y z) k).1) ∧ wr.cell? ⟨w2.heap.size + 1, 1, none⟩ = some (.int .i64 (Pw (f3 p q r) (f3 x y z) k).2) ∧
      wr.frozen? ⟨w2.heap.size + 1, 0, none⟩ = false ∧ wr.frozen? ⟨w2.heap.size + 1, 1, none⟩ = false ∧ Bw (pbox w p q r x y z) wr ∧ w2.heap.size + 1 < wr.heap.size) (fun i _ => 3 - (intOf i).toNat)
  case atStart => exact ⟨0, by omega, rfl, by go_simp; rfl, by go_simp; rfl, by go_simp, by go_simp, hP3, by simp⟩
  case round =>
    obtain ⟨k, hk, rfl, a0, a1, g0, g1, hP, hz⟩ := hrel
    generalize hG : w2.heap.size + 1 = G at *
    have hG' : w.heap.size + 4 ≤ G := by omega
    clear hG
    have hBw := (pbox_bw w p q r x y z).trans hP
    by_cases hlt : k < 3
    · obtain ⟨y0, y1⟩ := ((pbox_ef w p q r x y z).bw hP (by rw [pbox_size]; omega)) k hlt
      simp only [Nat.zero_add] at y0 y1
      have hub := HU.out k hlt
      have hvb := HV.out k hlt
      have hab := Pw_big (f3 p q r) (f3 x y z) k (fun i hi => HU.out i (by omega)) (fun i hi => HV.out i (by omega)) hk
      have hidx := fun W => idx_k p q r k hlt W
      have hPS : Pw (f3 p q r) (f3 x y z) (k + 1) = Pl.add (Pw (f3 p q r) (f3 x y z) k) (Pl.mul (f3 p q r k) (Pl.bar (f3 x y z k))) := rfl
      have HPS := Lib.hid hPS
      clear hPS
      generalize Pw (f3 p q r) (f3 x y z) k = a at *
      generalize f3 p q r k = u at *
      generalize f3 x y z k = v at *
      obtain ⟨u1, u2, u3, u4⟩ := hub
      obtain ⟨v1, v2, v3, v4⟩ := hvb
      obtain ⟨b1, b2, b3, b4⟩ := hab
      have HC := Lib.hid (fun W => conjugate_any v.1 v.2 W ⟨by simp only; omega, by simp only; omega, by simp only; omega, by simp only; omega⟩)
      have HM := Lib.hid (fun W => product_any u.1 u.2 (v.1 - v.2) (-v.2) W ⟨by simp only; omega, by simp only; omega, by simp only; omega, by simp only; omega⟩ ⟨by simp only; omega, by simp only; omega, by simp only; omega, by simp only; omega⟩)
      obtain ⟨m1, m2⟩ := mul_bd 131072 u.1 (v.1 - v.2) (by omega) (by omega) (by omega) (by omega) (by omega)
      obtain ⟨m3, m4⟩ := mul_bd 131072 u.2 (-v.2) (by omega) (by omega) (by omega) (by omega) (by omega)
      obtain ⟨m5, m6⟩ := mul_bd 131072 u.1 (-v.2) (by omega) (by omega) (by omega) (by omega) (by omega)
      obtain ⟨m7, m8⟩ := mul_bd 131072 u.2 (v.1 - v.2) (by omega) (by omega) (by omega) (by omega) (by omega)
      simp only [Int.reduceMul] at m1 m2 m3 m4 m5 m6 m7 m8
      have hm : Pl.mul u (Pl.bar v) = (u.1 * (v.1 - v.2) - u.2 * (-v.2), u.1 * (-v.2) + u.2 * (v.1 - v.2) - u.2 * (-v.2)) := rfl
      have hkk : (k : Int) ≤ 3 := by omega
      have HS := Lib.hid (fun W => sum_any a.1 a.2 (u.1 * (v.1 - v.2) - u.2 * (-v.2)) (u.1 * (-v.2) + u.2 * (v.1 - v.2) - u.2 * (-v.2)) W ⟨by simp only; omega, by simp only; omega, by simp only; omega, by simp only; omega⟩ ⟨by simp only; omega, by simp only; omega, by simp only; omega, by simp only; omega⟩)
      rw [hm] at HPS
      clear hm m1 m2 m3 m4 m5 m6 m7 m8 b1 b2 b3 b4 u1 u2 u3 u4 v1 v2 v3 v4
      generalize u.1 * (v.1 - v.2) - u.2 * (-v.2) = c1 at *
      generalize u.1 * (-v.2) + u.2 * (v.1 - v.2) - u.2 * (-v.2) = c2 at *
      generalize v.1 - v.2 = d1 at *
      have hz0 : w.heap.size + 1 < wr.heap.size := by omega
      have hz00 : w.heap.size < wr.heap.size := by omega
      go_wp2
      go_region_with (first | (go_at_call 71; refine (HC.out _).mono ?_; rintro e w3 ⟨rfl, hb3⟩; obtain ⟨hc3, hf3⟩ := bcell' hb3 (wr.heap.size + 1) (by simp); have hz3 : wr.heap.size < w3.heap.size := (by have := hb3.size; (try simp at this); omega); have hB3 : Bw wr w3 := Bw.trans (by repeat (with_reducible first | assumption | exact Bw.refl _ | apply Bw.drew | apply Bw.drewN | apply Bw.alloc | refine Bw.setCell ?_ (by first | (simp; done) | (simp; omega) | omega) _)) hb3) | (go_at_call 50; refine (HM.out _).mono ?_; rintro e w4 ⟨rfl, hb4⟩; obtain ⟨hc4, hf4⟩ := bcell' hb4 (wr.heap.size + 1) (by omega); have hz4 : wr.heap.size < w4.heap.size := (by have := hb4.size; (try simp at this); omega); have hB4 : Bw wr w4 := hB3.trans hb4) | (go_at_call 49; refine (HS.out _).mono ?_; rintro e w5 ⟨rfl, hb5⟩; obtain ⟨hc5, hf5⟩ := bcell' hb5 (wr.heap.size + 1) (by omega); have hz5 : wr.heap.size < w5.heap.size := (by have := hb5.size; (try simp at this); omega); have hB5 : Bw wr w5 := hB4.trans hb5))
      all_goals
        go_wp2
        go_roundw
        case rel =>
          have c0 := ((bcell hB5).1 G 0 hz).trans a0
          have c1' := ((bcell hB5).1 G 1 hz).trans a1
          have d0 := ((bcell hB5).2 G 0 hz).trans g0
          have d1' := ((bcell hB5).2 G 1 hz).trans g1
          have hss := hB5.size
          refine ⟨k + 1, by omega, by go_num, ?_, ?_, ?_, ?_, ?_, ?_⟩
          · rw [HPS.out]; exact (set2_cells c0 c1').1
          · rw [HPS.out]; exact (set2_cells c0 c1').2
          · simpa using d0
          · simpa using d1'
          · exact Bw.setCell (Bw.setCell (hP.trans hB5) (by rw [pbox_size]; simp; omega) _) (by rw [pbox_size]; simp; omega) _
          · simp; omega
        case measure => simp [intOf]; omega
    · have hk3 : k = 3 := by omega
      subst hk3
      have hab := Pw_big (f3 p q r) (f3 x y z) 3 (fun i hi => HU.out i (by omega)) (fun i hi => HV.out i (by omega)) (by omega)
      generalize hga : Pw (f3 p q r) (f3 x y z) 3 = a at *
      have HGA := Lib.hid hga
      clear hga
      obtain ⟨b1, b2, b3, b4⟩ := hab
      have hr0 := (bcell hP).1 (w.heap.size + 2) 0 (by rw [pbox_size]; omega)
      have hr1 := (bcell hP).1 (w.heap.size + 2) 1 (by rw [pbox_size]; omega)
      have hq0 := (bcell hP).2 (w.heap.size + 2) 0 (by rw [pbox_size]; omega)
      have hq1 := (bcell hP).2 (w.heap.size + 2) 1 (by rw [pbox_size]; omega)
      have hr0' : wr.cell? ⟨w.heap.size + 1 + 1, 0, none⟩ = some (.int .i64 0) := hr0.trans (by unfold pbox; go_simp)
      have hr1' : wr.cell? ⟨w.heap.size + 1 + 1, 1, none⟩ = some (.int .i64 0) := hr1.trans (by unfold pbox; go_simp)
      have hq0' : wr.frozen? ⟨w.heap.size + 1 + 1, 0, none⟩ = false := hq0.trans (by unfold pbox; go_simp)
      have hq1' : wr.frozen? ⟨w.heap.size + 1 + 1, 1, none⟩ = false := hq1.trans (by unfold pbox; go_simp)
      clear hr0 hr1 hq0 hq1
      have hne : ¬ (w.heap.size + 1 + 1 = G) := by omega
      have hne' : ¬ (G = w.heap.size + 1 + 1) := by omega
      have hps := pbox_size w p q r x y z
      have hws : w.heap.size ≤ w.heap.size + 1 + 1 := by omega
      have hn3 : ((3 : Nat) : Int) = 3 := rfl
      have hw1 : IntKind.i64.wrap (2 * a.1) = 2 * a.1 := IntWalk.i64_in _ (by omega)
      have hw2 : IntKind.i64.wrap (2 * a.1 - a.2) = 2 * a.1 - a.2 := IntWalk.i64_in _ (by omega)
      clear hP1 hP2 hP3 hb1 hb2 hz1_2 hz1_1 hz1_0 hz2_2 hz2_1 hz2_0 hps hGs hG' hk hlt
      go_wp2
      go_region_held3 (fun W => W.cell? ⟨G, 0, none⟩ = some (.int .i64 a.1) ∧ W.cell? ⟨G, 1, none⟩ = some (.int .i64 a.2)) (go_keep) (fail)
      all_goals go_wp2
      all_goals exact bodyPost_ret (v := .tuple #[.agg #[.int .i64 a.1, .int .i64 a.2], .int .i64 (2 * a.1 - a.2), .int .i64 0]) (by simp [results, Tryz.results32, go_sem, hr0', hr1']) rfl ⟨by rw [HGA.out], Bw.setCell (Bw.setCell hBw.drew hws _) hws _⟩

set_option maxHeartbeats 2000000 in
set_option maxRecDepth 100000 in
theorem power_no (p q r x y z : Int × Int) (w : World) (he : ¬ Pl.firstE [firstP 65536 [p, q, r], firstP 65536 [x, y, z]] = 0) :
    Calls Tryz.prog 32 #[.agg #[.int .i64 p.1, .int .i64 p.2, .int .i64 q.1, .int .i64 q.2, .int .i64 r.1, .int .i64 r.2], .agg #[.int .i64 x.1, .int .i64 x.2, .int .i64 y.1, .int .i64 y.2, .int .i64 z.1, .int .i64 z.2]] w fun e w' =>
      e = .returned (.tuple #[.agg #[.int .i64 0, .int .i64 0], .int .i64 0, .int .i64 (Pl.firstE [firstP 65536 [p, q, r], firstP 65536 [x, y, z]])]) ∧ Bw w w' := by
  have H1 := Lib.hid (fun W => checkPhases_any p q r W)
  have H2 := Lib.hid (fun W => checkPhases_any x y z W)
  have HF := Lib.hid (fun b0 c0 W h0 h1 => first2 (firstP 65536 [p, q, r]) (firstP 65536 [x, y, z]) b0 c0 W h0 h1)
  generalize firstP 65536 [p, q, r] = e1 at *
  generalize firstP 65536 [x, y, z] = e2 at *
  generalize Pl.firstE [e1, e2] = e0 at *
  have he' : (e0 != 0) = true := by simp [he]
  clear he
  go_enter Tryz.func32, Tryz.ntmps32
  go_wp2
  go_region_held3 (fun W => W.cell? ⟨w.heap.size, 0, none⟩ = some (.int .i64 p.1) ∧ W.cell? ⟨w.heap.size, 1, none⟩ = some (.int .i64 p.2) ∧ W.cell? ⟨w.heap.size, 2, none⟩ = some (.int .i64 q.1) ∧ W.cell? ⟨w.heap.size, 3, none⟩ = some (.int .i64 q.2) ∧ W.cell? ⟨w.heap.size, 4, none⟩ = some (.int .i64 r.1) ∧ W.cell? ⟨w.heap.size, 5, none⟩ = some (.int .i64 r.2) ∧ W.cell? ⟨w.heap.size + 1, 0, none⟩ = some (.int .i64 x.1) ∧ W.cell? ⟨w.heap.size + 1, 1, none⟩ = some (.int .i64 x.2) ∧ W.cell? ⟨w.heap.size + 1, 2, none⟩ = some (.int .i64 y.1) ∧ W.cell? ⟨w.heap.size + 1, 3, none⟩ = some (.int .i64 y.2) ∧ W.cell? ⟨w.heap.size + 1, 4, none⟩ = some (.int .i64 z.1) ∧ W.cell? ⟨w.heap.size + 1, 5, none⟩ = some (.int .i64 z.2)) (go_keep)
    (first | (go_at_call_of 39 p; refine (H1.out _).mono ?_; rintro e w1 ⟨rfl, hb1⟩; obtain ⟨hc1, hf1⟩ := bcell' hb1 (w.heap.size + 3) (by simp); have hz1_2 : w.heap.size + 2 < w1.heap.size := (by have := hb1.size; (try simp at this); omega); have hz1_1 : w.heap.size + 1 < w1.heap.size := (by omega); have hz1_0 : w.heap.size < w1.heap.size := (by omega); have hB1 : Bw w w1 := Bw.trans (by repeat (with_reducible first | assumption | exact Bw.refl _ | apply Bw.drew | apply Bw.drewN | apply Bw.alloc | refine Bw.setCell ?_ (by first | (simp; done) | (simp; omega) | omega) _)) hb1) | (go_at_call_of 39 x; refine (H2.out _).mono ?_; rintro e w2 ⟨rfl, hb2⟩; obtain ⟨hc2, hf2⟩ := bcell' hb2 w1.heap.size (by simp); have hz2_2 : w.heap.size + 2 < w2.heap.size := (by have := hb2.size; (try simp at this); omega); have hz2_1 : w.heap.size + 1 < w2.heap.size := (by omega); have hz2_0 : w.heap.size < w2.heap.size := (by omega); have hB2 : Bw w w2 := Bw.trans (by repeat (with_reducible first | assumption | exact Bw.refl _ | apply Bw.drew | apply Bw.drewN | apply Bw.alloc | refine Bw.setCell ?_ (by first | (simp; done) | (simp; omega) | omega) _)) hb2) | (go_at_call 47; refine (HF.out _ _ _ (by go_simp) (by go_simp)).mono ?_; rintro e wp ⟨rfl, rfl⟩))
  go_wp2
  exact bodyPost_ret (v := .tuple #[.agg #[.int .i64 0, .int .i64 0], .int .i64 0, .int .i64 e0]) (by simp [results, Tryz.results32, go_sem, hc1, hc2, hz1_0, hz1_1, hz1_2, hz2_0, hz2_1, hz2_2]) rfl ⟨rfl, by repeat (with_reducible first | assumption | exact Bw.refl _ | apply Bw.drew | apply Bw.drewN | apply Bw.alloc | refine Bw.setCell ?_ (by first | (simp; done) | (simp; omega) | omega) _)⟩

/-- What 'Power' returns. -/
theorem power_any (p q r x y z : Int × Int) (w : World) :
    Calls Tryz.prog 32 #[.agg #[.int .i64 p.1, .int .i64 p.2, .int .i64 q.1, .int .i64 q.2, .int .i64 r.1, .int .i64 r.2], .agg #[.int .i64 x.1, .int .i64 x.2, .int .i64 y.1, .int .i64 y.2, .int .i64 z.1, .int .i64 z.2]] w fun e w' => e = .returned (powV p q r x y z) ∧ Bw w w' := by
  by_cases he : Pl.firstE [firstP 65536 [p, q, r], firstP 65536 [x, y, z]] = 0
  · have h2 := he
    rw [first2_val] at h2
    have h3 : firstP 65536 [p, q, r] = 0 := by split at h2 <;> omega
    have h4 : firstP 65536 [x, y, z] = 0 := by split at h2 <;> omega
    unfold powV
    rw [if_pos he]
    exact power_yes p q r x y z w h3 h4
  · unfold powV
    rw [if_neg he]
    exact power_no p q r x y z w he
end Go.Proofs.YtgloclcbeohkhaaGreatDoor
