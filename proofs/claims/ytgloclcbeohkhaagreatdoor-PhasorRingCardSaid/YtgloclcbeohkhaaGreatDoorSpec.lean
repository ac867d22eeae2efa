/-
  The contracts of the spectrum of six numbers.
-/
import Derived.Test.YtgloclcbeohkhaaGreatDoorComps
namespace Go.Proofs.YtgloclcbeohkhaaGreatDoor
set_option linter.all false
open Go.RowKit

/-- Six numbers as a function. -/
def f6 (p1 p2 p3 p4 p5 p6 : Int × Int) : Nat → Int × Int
  | 0 => p1
  | 1 => p2
  | 2 => p3
  | 3 => p4
  | 4 => p5
  | 5 => p6
  | _ => (0, 0)
theorem Ef.six {w : World} {b : Nat} {f : Nat → Int × Int} (h : Ef w b 0 6 f) : w.cell? ⟨b, 0, none⟩ = some (.int .i64 (f 0).1) ∧ w.cell? ⟨b, 1, none⟩ = some (.int .i64 (f 0).2) ∧ w.cell? ⟨b, 2, none⟩ = some (.int .i64 (f 1).1) ∧ w.cell? ⟨b, 3, none⟩ = some (.int .i64 (f 1).2) ∧ w.cell? ⟨b, 4, none⟩ = some (.int .i64 (f 2).1) ∧ w.cell? ⟨b, 5, none⟩ = some (.int .i64 (f 2).2) ∧ w.cell? ⟨b, 6, none⟩ = some (.int .i64 (f 3).1) ∧ w.cell? ⟨b, 7, none⟩ = some (.int .i64 (f 3).2) ∧ w.cell? ⟨b, 8, none⟩ = some (.int .i64 (f 4).1) ∧ w.cell? ⟨b, 9, none⟩ = some (.int .i64 (f 4).2) ∧ w.cell? ⟨b, 10, none⟩ = some (.int .i64 (f 5).1) ∧ w.cell? ⟨b, 11, none⟩ = some (.int .i64 (f 5).2) :=
  ⟨(h 0 (by omega)).1, (h 0 (by omega)).2, (h 1 (by omega)).1, (h 1 (by omega)).2, (h 2 (by omega)).1, (h 2 (by omega)).2, (h 3 (by omega)).1, (h 3 (by omega)).2, (h 4 (by omega)).1, (h 4 (by omega)).2, (h 5 (by omega)).1, (h 5 (by omega)).2⟩
theorem Ef.mk6 {w : World} {b : Nat} {p1 p2 p3 p4 p5 p6 : Int × Int} (h0 : w.cell? ⟨b, 0, none⟩ = some (.int .i64 p1.1)) (h1 : w.cell? ⟨b, 1, none⟩ = some (.int .i64 p1.2)) (h2 : w.cell? ⟨b, 2, none⟩ = some (.int .i64 p2.1)) (h3 : w.cell? ⟨b, 3, none⟩ = some (.int .i64 p2.2)) (h4 : w.cell? ⟨b, 4, none⟩ = some (.int .i64 p3.1)) (h5 : w.cell? ⟨b, 5, none⟩ = some (.int .i64 p3.2)) (h6 : w.cell? ⟨b, 6, none⟩ = some (.int .i64 p4.1)) (h7 : w.cell? ⟨b, 7, none⟩ = some (.int .i64 p4.2)) (h8 : w.cell? ⟨b, 8, none⟩ = some (.int .i64 p5.1)) (h9 : w.cell? ⟨b, 9, none⟩ = some (.int .i64 p5.2)) (h10 : w.cell? ⟨b, 10, none⟩ = some (.int .i64 p6.1)) (h11 : w.cell? ⟨b, 11, none⟩ = some (.int .i64 p6.2)) : Ef w b 0 6 (f6 p1 p2 p3 p4 p5 p6) := fun i hi => by
  match i, hi with
  | 0, _ => exact ⟨h0, h1⟩
  | 1, _ => exact ⟨h2, h3⟩
  | 2, _ => exact ⟨h4, h5⟩
  | 3, _ => exact ⟨h6, h7⟩
  | 4, _ => exact ⟨h8, h9⟩
  | 5, _ => exact ⟨h10, h11⟩

set_option maxHeartbeats 2000000 in
set_option maxRecDepth 100000 in
theorem spectrum_any (p1 p2 p3 p4 p5 p6 : Int × Int) (w : World) (hp : ∀ i, i < 6 → Big 10000000 (f6 p1 p2 p3 p4 p5 p6 i)) :
    Calls Tryz.prog 76 #[.agg #[.int .i64 p1.1, .int .i64 p1.2, .int .i64 p2.1, .int .i64 p2.2, .int .i64 p3.1, .int .i64 p3.2, .int .i64 p4.1, .int .i64 p4.2, .int .i64 p5.1, .int .i64 p5.2, .int .i64 p6.1, .int .i64 p6.2]] w fun e w' =>
      e = .returned (.agg #[.int .i64 (Tr (f6 p1 p2 p3 p4 p5 p6) (-1) 0 6).1, .int .i64 (Tr (f6 p1 p2 p3 p4 p5 p6) (-1) 0 6).2, .int .i64 (Tr (f6 p1 p2 p3 p4 p5 p6) (-1) 1 6).1, .int .i64 (Tr (f6 p1 p2 p3 p4 p5 p6) (-1) 1 6).2, .int .i64 (Tr (f6 p1 p2 p3 p4 p5 p6) (-1) 2 6).1, .int .i64 (Tr (f6 p1 p2 p3 p4 p5 p6) (-1) 2 6).2, .int .i64 (Tr (f6 p1 p2 p3 p4 p5 p6) (-1) 3 6).1, .int .i64 (Tr (f6 p1 p2 p3 p4 p5 p6) (-1) 3 6).2, .int .i64 (Tr (f6 p1 p2 p3 p4 p5 p6) (-1) 4 6).1, .int .i64 (Tr (f6 p1 p2 p3 p4 p5 p6) (-1) 4 6).2, .int .i64 (Tr (f6 p1 p2 p3 p4 p5 p6) (-1) 5 6).1, .int .i64 (Tr (f6 p1 p2 p3 p4 p5 p6) (-1) 5 6).2]) ∧ Bw w w' := by
  have HT := Lib.hid (fun b bs W (h1 : b < W.heap.size) h2 h3 => transformed_any (f6 p1 p2 p3 p4 p5 p6) 6 (-1) b 0 6 bs W (by omega) h1 h2 hp (by omega) h3)
  have HE : ∀ W : World, W.cell? ⟨w.heap.size, 0, none⟩ = some (.int .i64 p1.1) → W.cell? ⟨w.heap.size, 1, none⟩ = some (.int .i64 p1.2) → W.cell? ⟨w.heap.size, 2, none⟩ = some (.int .i64 p2.1) → W.cell? ⟨w.heap.size, 3, none⟩ = some (.int .i64 p2.2) → W.cell? ⟨w.heap.size, 4, none⟩ = some (.int .i64 p3.1) → W.cell? ⟨w.heap.size, 5, none⟩ = some (.int .i64 p3.2) → W.cell? ⟨w.heap.size, 6, none⟩ = some (.int .i64 p4.1) → W.cell? ⟨w.heap.size, 7, none⟩ = some (.int .i64 p4.2) → W.cell? ⟨w.heap.size, 8, none⟩ = some (.int .i64 p5.1) → W.cell? ⟨w.heap.size, 9, none⟩ = some (.int .i64 p5.2) → W.cell? ⟨w.heap.size, 10, none⟩ = some (.int .i64 p6.1) → W.cell? ⟨w.heap.size, 11, none⟩ = some (.int .i64 p6.2) → Ef W w.heap.size 0 6 (f6 p1 p2 p3 p4 p5 p6) := fun W h0 h1 h2 h3 h4 h5 h6 h7 h8 h9 h10 h11 => Ef.mk6 h0 h1 h2 h3 h4 h5 h6 h7 h8 h9 h10 h11
  have HE' := Lib.hid HE
  clear HE hp
  generalize hg : Tr (f6 p1 p2 p3 p4 p5 p6) (-1) = g at *
  have harr : ∀ (a : Option Addr) (W : World), (Instr.arrayAt 81 (.slice a 6 6)).run Tryz.prog W = .ok (.pointer a) W := fun a W => run_arrayAt W _ _ 6 a 6 6 Tryz.underlying81 (by omega)
  go_enter Tryz.func76, Tryz.ntmps76
  go_wp2
  go_region_with (first | (go_at_call 70; refine (turnedBy_any _ _).mono ?_; rintro e w1 ⟨rfl, rfl⟩) | (go_at_call 69; refine (HT.out w.heap.size (w.heap.size + 1 + 1) _ ?_ ?_ ?_).mono ?_; (simp; omega); (exact HE'.out _ (by go_simp) (by go_simp) (by go_simp) (by go_simp) (by go_simp) (by go_simp) (by go_simp) (by go_simp) (by go_simp) (by go_simp) (by go_simp) (by go_simp)); (go_simp); rintro e w1 ⟨rfl, hE1, hF1, hb1⟩; have hx := hE1.six; simp at hx; obtain ⟨x0, x1, x2, x3, x4, x5, x6, x7, x8, x9, x10, x11⟩ := hx; obtain ⟨hc1, hf1⟩ := bcell' hb1 (w.heap.size + 3) (by simp); have hz1 : w.heap.size + 1 < w1.heap.size := (by have := hb1.size; (try simp at this); omega); have hB1 : Bw w w1 := Bw.trans (by repeat (with_reducible first | assumption | exact Bw.refl _ | apply Bw.drew | apply Bw.drewN | apply Bw.alloc | refine Bw.setCell ?_ (by first | (simp; done) | (simp; omega) | omega) _)) hb1))
  all_goals go_wp2
  all_goals (exact bodyPost_ret (v := .agg #[.int .i64 (g 0 6).1, .int .i64 (g 0 6).2, .int .i64 (g 1 6).1, .int .i64 (g 1 6).2, .int .i64 (g 2 6).1, .int .i64 (g 2 6).2, .int .i64 (g 3 6).1, .int .i64 (g 3 6).2, .int .i64 (g 4 6).1, .int .i64 (g 4 6).2, .int .i64 (g 5 6).1, .int .i64 (g 5 6).2]) (by simp [results, Tryz.results76, go_sem, hc1, hz1]) rfl ⟨rfl, by repeat (with_reducible first | assumption | exact Bw.refl _ | apply Bw.drew | apply Bw.drewN | apply Bw.alloc | refine Bw.setCell ?_ (by first | (simp; done) | (simp; omega) | omega) _)⟩)

/-- The spectrum of six numbers. -/
def spc (p1 p2 p3 p4 p5 p6 : Int × Int) (k : Nat) : Int × Int := Tr (f6 p1 p2 p3 p4 p5 p6) (-1) k 6

/-- What 'Spectrum' returns. -/
def specV (p1 p2 p3 p4 p5 p6 : Int × Int) : Value := if firstP 65536 [p1, p2, p3, p4, p5, p6] = 0 then
  .tuple #[.agg #[.int .i64 (spc p1 p2 p3 p4 p5 p6 0).1, .int .i64 (spc p1 p2 p3 p4 p5 p6 0).2, .int .i64 (spc p1 p2 p3 p4 p5 p6 1).1, .int .i64 (spc p1 p2 p3 p4 p5 p6 1).2, .int .i64 (spc p1 p2 p3 p4 p5 p6 2).1, .int .i64 (spc p1 p2 p3 p4 p5 p6 2).2, .int .i64 (spc p1 p2 p3 p4 p5 p6 3).1, .int .i64 (spc p1 p2 p3 p4 p5 p6 3).2, .int .i64 (spc p1 p2 p3 p4 p5 p6 4).1, .int .i64 (spc p1 p2 p3 p4 p5 p6 4).2, .int .i64 (spc p1 p2 p3 p4 p5 p6 5).1, .int .i64 (spc p1 p2 p3 p4 p5 p6 5).2], .int .i64 0]
  else .tuple #[.agg #[.int .i64 0, .int .i64 0, .int .i64 0, .int .i64 0, .int .i64 0, .int .i64 0, .int .i64 0, .int .i64 0, .int .i64 0, .int .i64 0, .int .i64 0, .int .i64 0], .int .i64 (firstP 65536 [p1, p2, p3, p4, p5, p6])]

set_option maxHeartbeats 2000000 in
set_option maxRecDepth 100000 in
theorem spectrum'_any (p1 p2 p3 p4 p5 p6 : Int × Int) (w : World) :
    Calls Tryz.prog 44 #[.agg #[.int .i64 p1.1, .int .i64 p1.2, .int .i64 p2.1, .int .i64 p2.2, .int .i64 p3.1, .int .i64 p3.2, .int .i64 p4.1, .int .i64 p4.2, .int .i64 p5.1, .int .i64 p5.2, .int .i64 p6.1, .int .i64 p6.2]] w fun e w' => e = .returned (specV p1 p2 p3 p4 p5 p6) ∧ Bw w w' := by
  have H0 := Lib.hid (fun b W (h1 : b < W.heap.size) h2 => firstIn_phase [p1, p2, p3, p4, p5, p6] b 0 6 W (by simp) h1 h2)
  have HE : ∀ W : World, W.cell? ⟨w.heap.size, 0, none⟩ = some (.int .i64 p1.1) → W.cell? ⟨w.heap.size, 1, none⟩ = some (.int .i64 p1.2) → W.cell? ⟨w.heap.size, 2, none⟩ = some (.int .i64 p2.1) → W.cell? ⟨w.heap.size, 3, none⟩ = some (.int .i64 p2.2) → W.cell? ⟨w.heap.size, 4, none⟩ = some (.int .i64 p3.1) → W.cell? ⟨w.heap.size, 5, none⟩ = some (.int .i64 p3.2) → W.cell? ⟨w.heap.size, 6, none⟩ = some (.int .i64 p4.1) → W.cell? ⟨w.heap.size, 7, none⟩ = some (.int .i64 p4.2) → W.cell? ⟨w.heap.size, 8, none⟩ = some (.int .i64 p5.1) → W.cell? ⟨w.heap.size, 9, none⟩ = some (.int .i64 p5.2) → W.cell? ⟨w.heap.size, 10, none⟩ = some (.int .i64 p6.1) → W.cell? ⟨w.heap.size, 11, none⟩ = some (.int .i64 p6.2) → EvAt W w.heap.size 0 [p1, p2, p3, p4, p5, p6] := fun W h0 h1 h2 h3 h4 h5 h6 h7 h8 h9 h10 h11 => Ef.to ((Ef.mk6 h0 h1 h2 h3 h4 h5 h6 h7 h8 h9 h10 h11).congr fun i hi => by
      match i, hi with
      | 0, _ => rfl
      | 1, _ => rfl
      | 2, _ => rfl
      | 3, _ => rfl
      | 4, _ => rfl
      | 5, _ => rfl)
  have HE' := Lib.hid HE
  clear HE
  by_cases he : firstP 65536 [p1, p2, p3, p4, p5, p6] = 0
  · have hv : specV p1 p2 p3 p4 p5 p6 = .tuple #[.agg #[.int .i64 (spc p1 p2 p3 p4 p5 p6 0).1, .int .i64 (spc p1 p2 p3 p4 p5 p6 0).2, .int .i64 (spc p1 p2 p3 p4 p5 p6 1).1, .int .i64 (spc p1 p2 p3 p4 p5 p6 1).2, .int .i64 (spc p1 p2 p3 p4 p5 p6 2).1, .int .i64 (spc p1 p2 p3 p4 p5 p6 2).2, .int .i64 (spc p1 p2 p3 p4 p5 p6 3).1, .int .i64 (spc p1 p2 p3 p4 p5 p6 3).2, .int .i64 (spc p1 p2 p3 p4 p5 p6 4).1, .int .i64 (spc p1 p2 p3 p4 p5 p6 4).2, .int .i64 (spc p1 p2 p3 p4 p5 p6 5).1, .int .i64 (spc p1 p2 p3 p4 p5 p6 5).2], .int .i64 0] := if_pos he
    rw [hv]
    have hin := firstP_zero.1 he
    have HT0 : ∀ W : World, Calls Tryz.prog 76 #[.agg #[.int .i64 p1.1, .int .i64 p1.2, .int .i64 p2.1, .int .i64 p2.2, .int .i64 p3.1, .int .i64 p3.2, .int .i64 p4.1, .int .i64 p4.2, .int .i64 p5.1, .int .i64 p5.2, .int .i64 p6.1, .int .i64 p6.2]] W fun e w' =>
      e = .returned (.agg #[.int .i64 (spc p1 p2 p3 p4 p5 p6 0).1, .int .i64 (spc p1 p2 p3 p4 p5 p6 0).2, .int .i64 (spc p1 p2 p3 p4 p5 p6 1).1, .int .i64 (spc p1 p2 p3 p4 p5 p6 1).2, .int .i64 (spc p1 p2 p3 p4 p5 p6 2).1, .int .i64 (spc p1 p2 p3 p4 p5 p6 2).2, .int .i64 (spc p1 p2 p3 p4 p5 p6 3).1, .int .i64 (spc p1 p2 p3 p4 p5 p6 3).2, .int .i64 (spc p1 p2 p3 p4 p5 p6 4).1, .int .i64 (spc p1 p2 p3 p4 p5 p6 4).2, .int .i64 (spc p1 p2 p3 p4 p5 p6 5).1, .int .i64 (spc p1 p2 p3 p4 p5 p6 5).2]) ∧ Bw W w' :=
      fun W => spectrum_any p1 p2 p3 p4 p5 p6 W (fun i hi => by
        match i, hi with
        | 0, _ => exact Big.of (hin p1 (by simp)) (by omega)
        | 1, _ => exact Big.of (hin p2 (by simp)) (by omega)
        | 2, _ => exact Big.of (hin p3 (by simp)) (by omega)
        | 3, _ => exact Big.of (hin p4 (by simp)) (by omega)
        | 4, _ => exact Big.of (hin p5 (by simp)) (by omega)
        | 5, _ => exact Big.of (hin p6 (by simp)) (by omega))
    have HT := Lib.hid HT0
    rw [he] at H0
    clear HT0 hin he hv
    generalize spc p1 p2 p3 p4 p5 p6 = g at *
    go_enter Tryz.func44, Tryz.ntmps44
    go_wp2_with (first | (go_at_call 67; refine (H0.out w.heap.size _ ?_ ?_).mono ?_; (simp; try omega); (exact HE'.out _ (by go_simp) (by go_simp) (by go_simp) (by go_simp) (by go_simp) (by go_simp) (by go_simp) (by go_simp) (by go_simp) (by go_simp) (by go_simp) (by go_simp)); rintro e w1 ⟨rfl, hb1⟩; obtain ⟨hc1, hf1⟩ := bcell' hb1 (w.heap.size + 2) (by simp); have hz1 : w.heap.size + 1 < w1.heap.size := (by have := hb1.size; (try simp at this); omega); have hz0 : w.heap.size < w1.heap.size := (by omega); have hB1 : Bw w w1 := Bw.trans (by repeat (with_reducible first | assumption | exact Bw.refl _ | apply Bw.drew | apply Bw.drewN | apply Bw.alloc | refine Bw.setCell ?_ (by first | (simp; done) | (simp; omega) | omega) _)) hb1) | (go_at_call 76; refine (HT.out _).mono ?_; rintro e w2 ⟨rfl, hb2⟩; obtain ⟨hc2, hf2⟩ := bcell' hb2 w1.heap.size (by simp); have hz2_1 : w.heap.size + 1 < w2.heap.size := (by have := hb2.size; (try simp at this); omega); have hz2_0 : w.heap.size < w2.heap.size := (by have := hb2.size; (try simp at this); omega); have hB2 : Bw w w2 := Bw.trans (by repeat (with_reducible first | assumption | exact Bw.refl _ | apply Bw.drew | apply Bw.drewN | apply Bw.alloc | refine Bw.setCell ?_ (by first | (simp; done) | (simp; omega) | omega) _)) hb2))
    exact bodyPost_ret (v := .tuple #[.agg #[.int .i64 (g 0).1, .int .i64 (g 0).2, .int .i64 (g 1).1, .int .i64 (g 1).2, .int .i64 (g 2).1, .int .i64 (g 2).2, .int .i64 (g 3).1, .int .i64 (g 3).2, .int .i64 (g 4).1, .int .i64 (g 4).2, .int .i64 (g 5).1, .int .i64 (g 5).2], .int .i64 0]) (by simp [results, Tryz.results44, go_sem, hc1, hc2, hz1, hz0, hz2_0, hz2_1]) rfl ⟨rfl, by repeat (with_reducible first | assumption | exact Bw.refl _ | apply Bw.drew | apply Bw.drewN | apply Bw.alloc | refine Bw.setCell ?_ (by first | (simp; done) | (simp; omega) | omega) _)⟩
  · have hv : specV p1 p2 p3 p4 p5 p6 = .tuple #[.agg #[.int .i64 0, .int .i64 0, .int .i64 0, .int .i64 0, .int .i64 0, .int .i64 0, .int .i64 0, .int .i64 0, .int .i64 0, .int .i64 0, .int .i64 0, .int .i64 0], .int .i64 (firstP 65536 [p1, p2, p3, p4, p5, p6])] := if_neg he
    rw [hv]
    generalize firstP 65536 [p1, p2, p3, p4, p5, p6] = e0 at *
    have he' : (e0 != 0) = true := by simp [he]
    clear he hv
    go_enter Tryz.func44, Tryz.ntmps44
    go_wp2_with (first | (go_at_call 67; refine (H0.out w.heap.size _ ?_ ?_).mono ?_; (simp; try omega); (exact HE'.out _ (by go_simp) (by go_simp) (by go_simp) (by go_simp) (by go_simp) (by go_simp) (by go_simp) (by go_simp) (by go_simp) (by go_simp) (by go_simp) (by go_simp)); rintro e w1 ⟨rfl, hb1⟩; obtain ⟨hc1, hf1⟩ := bcell' hb1 (w.heap.size + 2) (by simp); have hz1 : w.heap.size + 1 < w1.heap.size := (by have := hb1.size; (try simp at this); omega); have hz0 : w.heap.size < w1.heap.size := (by omega); have hB1 : Bw w w1 := Bw.trans (by repeat (with_reducible first | assumption | exact Bw.refl _ | apply Bw.drew | apply Bw.drewN | apply Bw.alloc | refine Bw.setCell ?_ (by first | (simp; done) | (simp; omega) | omega) _)) hb1))
    exact bodyPost_ret (v := .tuple #[.agg #[.int .i64 0, .int .i64 0, .int .i64 0, .int .i64 0, .int .i64 0, .int .i64 0, .int .i64 0, .int .i64 0, .int .i64 0, .int .i64 0, .int .i64 0, .int .i64 0], .int .i64 e0]) (by simp [results, Tryz.results44, go_sem, hc1, hz1, hz0]) rfl ⟨rfl, by repeat (with_reducible first | assumption | exact Bw.refl _ | apply Bw.drew | apply Bw.drewN | apply Bw.alloc | refine Bw.setCell ?_ (by first | (simp; done) | (simp; omega) | omega) _)⟩
end Go.Proofs.YtgloclcbeohkhaaGreatDoor
