/-
  The contracts of the components of phases.
-/
import Derived.Test.YtgloclcbeohkhaaGreatDoorTransf
namespace Go.Proofs.YtgloclcbeohkhaaGreatDoor
set_option linter.all false
open Go.RowKit

set_option maxHeartbeats 400000 in
theorem turnedBy_any (s : Int) (w : World) :
    Calls Tryz.prog 70 #[.int .i64 s] w fun e w' => e = .returned (.func (.func 95) #[] #[.pointer (some ⟨w.heap.size, 0, none⟩)]) ∧ w.alloc (.cells #[.int .i64 s] 3) = w' := by
  go_enter Tryz.func70, Tryz.ntmps70
  go_wp2
  go_ret
  exact ⟨rfl, rfl⟩

/-- Three numbers as a function. -/
def f3 (p q r : Int × Int) : Nat → Int × Int
  | 0 => p
  | 1 => q
  | 2 => r
  | _ => (0, 0)

/-- The six cells of three numbers. -/
theorem Ef.three {w : World} {b : Nat} {f : Nat → Int × Int} (h : Ef w b 0 3 f) :
    w.cell? ⟨b, 0, none⟩ = some (.int .i64 (f 0).1) ∧ w.cell? ⟨b, 1, none⟩ = some (.int .i64 (f 0).2) ∧ w.cell? ⟨b, 2, none⟩ = some (.int .i64 (f 1).1) ∧ w.cell? ⟨b, 3, none⟩ = some (.int .i64 (f 1).2) ∧
    w.cell? ⟨b, 4, none⟩ = some (.int .i64 (f 2).1) ∧ w.cell? ⟨b, 5, none⟩ = some (.int .i64 (f 2).2) :=
  ⟨(h 0 (by omega)).1, (h 0 (by omega)).2, (h 1 (by omega)).1, (h 1 (by omega)).2, (h 2 (by omega)).1, (h 2 (by omega)).2⟩
theorem Ef.mk3 {w : World} {b : Nat} {p q r : Int × Int} (h0 : w.cell? ⟨b, 0, none⟩ = some (.int .i64 p.1)) (h1 : w.cell? ⟨b, 1, none⟩ = some (.int .i64 p.2)) (h2 : w.cell? ⟨b, 2, none⟩ = some (.int .i64 q.1)) (h3 : w.cell? ⟨b, 3, none⟩ = some (.int .i64 q.2))
    (h4 : w.cell? ⟨b, 4, none⟩ = some (.int .i64 r.1)) (h5 : w.cell? ⟨b, 5, none⟩ = some (.int .i64 r.2)) : Ef w b 0 3 (f3 p q r) := fun i hi => by
  match i, hi with
  | 0, _ => exact ⟨h0, h1⟩
  | 1, _ => exact ⟨h2, h3⟩
  | 2, _ => exact ⟨h4, h5⟩

set_option maxHeartbeats 1000000 in
set_option maxRecDepth 100000 in
theorem components_any (p q r : Int × Int) (w : World) (hp : Big 10000000 p) (hq : Big 10000000 q) (hr : Big 10000000 r) :
    Calls Tryz.prog 66 #[.agg #[.int .i64 p.1, .int .i64 p.2, .int .i64 q.1, .int .i64 q.2, .int .i64 r.1, .int .i64 r.2]] w fun e w' =>
      e = .returned (.agg #[.int .i64 (Tr (f3 p q r) 2 0 3).1, .int .i64 (Tr (f3 p q r) 2 0 3).2, .int .i64 (Tr (f3 p q r) 2 1 3).1, .int .i64 (Tr (f3 p q r) 2 1 3).2, .int .i64 (Tr (f3 p q r) 2 2 3).1, .int .i64 (Tr (f3 p q r) 2 2 3).2]) ∧ Bw w w' := by
  have HT := Lib.hid (fun b bs W (h1 : b < W.heap.size) h2 h3 => transformed_any (f3 p q r) 3 2 b 0 3 bs W (by omega) h1 h2 (fun i hi => by
    match i, hi with
    | 0, _ => exact hp
    | 1, _ => exact hq
    | 2, _ => exact hr) (by omega) h3)
  have HE : ∀ W : World, W.cell? ⟨w.heap.size, 0, none⟩ = some (.int .i64 p.1) → W.cell? ⟨w.heap.size, 1, none⟩ = some (.int .i64 p.2) → W.cell? ⟨w.heap.size, 2, none⟩ = some (.int .i64 q.1) → W.cell? ⟨w.heap.size, 3, none⟩ = some (.int .i64 q.2) →
    W.cell? ⟨w.heap.size, 4, none⟩ = some (.int .i64 r.1) → W.cell? ⟨w.heap.size, 5, none⟩ = some (.int .i64 r.2) → Ef W w.heap.size 0 3 (f3 p q r) := fun W h0 h1 h2 h3 h4 h5 => Ef.mk3 h0 h1 h2 h3 h4 h5
  have HE' := Lib.hid HE
  clear HE
  generalize hg : Tr (f3 p q r) 2 = g at *
  have harr : ∀ (a : Option Addr) (W : World), (Instr.arrayAt 50 (.slice a 3 3)).run Tryz.prog W = .ok (.pointer a) W := fun a W => run_arrayAt W _ _ 3 a 3 3 Tryz.underlying50 (by omega)
  go_enter Tryz.func66, Tryz.ntmps66
  go_wp2
  go_region_with (first | (go_at_call 70; refine (turnedBy_any _ _).mono ?_; rintro e w1 ⟨rfl, rfl⟩) | (go_at_call 69; (refine (HT.out w.heap.size (w.heap.size + 1 + 1) _ ?_ ?_ ?_).mono ?_); (simp; omega); (exact HE'.out _ (by go_simp) (by go_simp) (by go_simp) (by go_simp) (by go_simp) (by go_simp)); (go_simp); rintro e w1 ⟨rfl, hE1, hF1, hb1⟩; have hx := hE1.three; simp at hx; obtain ⟨x0, x1, x2, x3, x4, x5⟩ := hx; obtain ⟨hc1, hf1⟩ := bcell' hb1 (w.heap.size + 3) (by simp); have hz1 : w.heap.size + 1 < w1.heap.size := (by have := hb1.size; (try simp at this); omega); have hB1 : Bw w w1 := Bw.trans (by repeat (with_reducible first | assumption | exact Bw.refl _ | apply Bw.drew | apply Bw.drewN | apply Bw.alloc | refine Bw.setCell ?_ (by first | (simp; done) | (simp; omega) | omega) _)) hb1))
  all_goals go_wp2
  all_goals (exact bodyPost_ret (v := .agg #[.int .i64 (g 0 3).1, .int .i64 (g 0 3).2, .int .i64 (g 1 3).1, .int .i64 (g 1 3).2, .int .i64 (g 2 3).1, .int .i64 (g 2 3).2]) (by simp [results, Tryz.results66, go_sem, hc1, hz1]) rfl ⟨rfl, by repeat (with_reducible first | assumption | exact Bw.refl _ | apply Bw.drew | apply Bw.drewN | apply Bw.alloc | refine Bw.setCell ?_ (by first | (simp; done) | (simp; omega) | omega) _)⟩)
end Go.Proofs.YtgloclcbeohkhaaGreatDoor
