/-
  The contracts of CheckPhases, Components and Balanced.
-/
import Derived.Test.YtgloclcbeohkhaaGreatDoorComp
namespace Go.Proofs.YtgloclcbeohkhaaGreatDoor
set_option linter.all false
open Go.RowKit

set_option maxHeartbeats 1000000 in
theorem checkPhases_any (p q r : Int × Int) (w : World) :
    Calls Tryz.prog 39 #[.agg #[.int .i64 p.1, .int .i64 p.2, .int .i64 q.1, .int .i64 q.2, .int .i64 r.1, .int .i64 r.2]] w fun e w' =>
      e = .returned (.int .i64 (firstP 65536 [p, q, r])) ∧ Bw w w' := by
  have HT := Lib.hid (fun b W (h1 : b < W.heap.size) h2 => firstIn_phase [p, q, r] b 0 3 W (by simp) h1 h2)
  have HE : ∀ W : World, W.cell? ⟨w.heap.size, 0, none⟩ = some (.int .i64 p.1) → W.cell? ⟨w.heap.size, 1, none⟩ = some (.int .i64 p.2) → W.cell? ⟨w.heap.size, 2, none⟩ = some (.int .i64 q.1) → W.cell? ⟨w.heap.size, 3, none⟩ = some (.int .i64 q.2) →
    W.cell? ⟨w.heap.size, 4, none⟩ = some (.int .i64 r.1) → W.cell? ⟨w.heap.size, 5, none⟩ = some (.int .i64 r.2) → EvAt W w.heap.size 0 [p, q, r] := fun W h0 h1 h2 h3 h4 h5 => Ef.to ((Ef.mk3 h0 h1 h2 h3 h4 h5).congr fun i hi => by
      match i, hi with
      | 0, _ => rfl
      | 1, _ => rfl
      | 2, _ => rfl)
  have HE' := Lib.hid HE
  clear HE
  go_enter Tryz.func39, Tryz.ntmps39
  go_wp2_with (first | (go_at_call 67; refine (HT.out w.heap.size _ ?_ ?_).mono ?_; (simp); (exact HE'.out _ (by go_simp) (by go_simp) (by go_simp) (by go_simp) (by go_simp) (by go_simp)); rintro e w1 ⟨rfl, hb1⟩))
  go_ret
  exact ⟨rfl, ((Bw.refl _).alloc _).trans hb1⟩

/-- The components of three numbers. -/
def cmp (p q r : Int × Int) (j : Nat) : Int × Int := Tr (f3 p q r) 2 j 3

/-- What 'Components' returns. -/
def compV (p q r : Int × Int) : Value := if firstP 65536 [p, q, r] = 0 then
  .tuple #[.agg #[.int .i64 (cmp p q r 0).1, .int .i64 (cmp p q r 0).2, .int .i64 (cmp p q r 1).1, .int .i64 (cmp p q r 1).2, .int .i64 (cmp p q r 2).1, .int .i64 (cmp p q r 2).2], .int .i64 0]
  else .tuple #[.agg #[.int .i64 0, .int .i64 0, .int .i64 0, .int .i64 0, .int .i64 0, .int .i64 0], .int .i64 (firstP 65536 [p, q, r])]

theorem firstE_zero (l : List Int) : Pl.firstE l = 0 ↔ ∀ e, e ∈ l → e = 0 := by
  induction l with
  | nil => simp [Pl.firstE]
  | cons a l ih =>
    unfold Pl.firstE
    by_cases h : a = 0
    · simp [h, ih]
    · simp [h]
theorem firstP_zero {m : Int} {l : List (Int × Int)} : firstP m l = 0 ↔ ∀ p, p ∈ l → Pl.inB m p := by
  unfold firstP
  rw [firstE_zero]
  simp only [List.mem_map]
  constructor
  · intro h p hp
    have := parts_ok.1 (h _ ⟨p, hp, rfl⟩)
    exact this
  · rintro h e ⟨p, hp, rfl⟩
    exact parts_ok.2 (h p hp)
theorem Big.of {m M : Int} {p : Int × Int} (h : Pl.inB m p) (hm : m ≤ M) : Big M p := by
  obtain ⟨h1, h2, h3, h4⟩ := h
  exact ⟨by omega, by omega, by omega, by omega⟩

set_option maxHeartbeats 1000000 in
set_option maxRecDepth 100000 in
theorem components'_any (p q r : Int × Int) (w : World) :
    Calls Tryz.prog 29 #[.agg #[.int .i64 p.1, .int .i64 p.2, .int .i64 q.1, .int .i64 q.2, .int .i64 r.1, .int .i64 r.2]] w fun e w' => e = .returned (compV p q r) ∧ Bw w w' := by
  have H1 := Lib.hid (fun W => checkPhases_any p q r W)
  by_cases he : firstP 65536 [p, q, r] = 0
  · have hv : compV p q r = .tuple #[.agg #[.int .i64 (cmp p q r 0).1, .int .i64 (cmp p q r 0).2, .int .i64 (cmp p q r 1).1, .int .i64 (cmp p q r 1).2, .int .i64 (cmp p q r 2).1, .int .i64 (cmp p q r 2).2], .int .i64 0] := if_pos he
    rw [hv]
    have hin := firstP_zero.1 he
    have HT0 : ∀ W : World, Calls Tryz.prog 66 #[.agg #[.int .i64 p.1, .int .i64 p.2, .int .i64 q.1, .int .i64 q.2, .int .i64 r.1, .int .i64 r.2]] W fun e w' =>
      e = .returned (.agg #[.int .i64 (cmp p q r 0).1, .int .i64 (cmp p q r 0).2, .int .i64 (cmp p q r 1).1, .int .i64 (cmp p q r 1).2, .int .i64 (cmp p q r 2).1, .int .i64 (cmp p q r 2).2]) ∧ Bw W w' :=
      fun W => components_any p q r W (Big.of (hin p (by simp)) (by omega)) (Big.of (hin q (by simp)) (by omega)) (Big.of (hin r (by simp)) (by omega))
    have HT := Lib.hid HT0
    rw [he] at H1
    clear HT0 hin he hv
    generalize cmp p q r = g at *
    go_enter Tryz.func29, Tryz.ntmps29
    go_wp2_with (first | (go_at_call 39; refine (H1.out _).mono ?_; rintro e w1 ⟨rfl, hb1⟩; obtain ⟨hc1, hf1⟩ := bcell' hb1 (w.heap.size + 2) (by simp); have hz1_1 : w.heap.size + 1 < w1.heap.size := (by have := hb1.size; (try simp at this); omega); have hz1_0 : w.heap.size < w1.heap.size := (by have := hb1.size; (try simp at this); omega); have hB1 : Bw w w1 := Bw.trans (by repeat (with_reducible first | assumption | exact Bw.refl _ | apply Bw.drew | apply Bw.drewN | apply Bw.alloc | refine Bw.setCell ?_ (by first | (simp; done) | (simp; omega) | omega) _)) hb1) | (go_at_call 66; refine (HT.out _).mono ?_; rintro e w2 ⟨rfl, hb2⟩; obtain ⟨hc2, hf2⟩ := bcell' hb2 w1.heap.size (by simp); have hz2_1 : w.heap.size + 1 < w2.heap.size := (by have := hb2.size; (try simp at this); omega); have hz2_0 : w.heap.size < w2.heap.size := (by have := hb2.size; (try simp at this); omega); have hB2 : Bw w w2 := Bw.trans (by repeat (with_reducible first | assumption | exact Bw.refl _ | apply Bw.drew | apply Bw.drewN | apply Bw.alloc | refine Bw.setCell ?_ (by first | (simp; done) | (simp; omega) | omega) _)) hb2))
    exact bodyPost_ret (v := .tuple #[.agg #[.int .i64 (g 0).1, .int .i64 (g 0).2, .int .i64 (g 1).1, .int .i64 (g 1).2, .int .i64 (g 2).1, .int .i64 (g 2).2], .int .i64 0]) (by simp [results, Tryz.results29, go_sem, hc1, hc2, hz1_0, hz1_1, hz2_0, hz2_1]) rfl ⟨rfl, by repeat (with_reducible first | assumption | exact Bw.refl _ | apply Bw.drew | apply Bw.drewN | apply Bw.alloc | refine Bw.setCell ?_ (by first | (simp; done) | (simp; omega) | omega) _)⟩
  · have hv : compV p q r = .tuple #[.agg #[.int .i64 0, .int .i64 0, .int .i64 0, .int .i64 0, .int .i64 0, .int .i64 0], .int .i64 (firstP 65536 [p, q, r])] := if_neg he
    rw [hv]
    generalize firstP 65536 [p, q, r] = e0 at *
    have he' : (e0 != 0) = true := by simp [he]
    clear he hv
    go_enter Tryz.func29, Tryz.ntmps29
    go_wp2_with (first | (go_at_call 39; refine (H1.out _).mono ?_; rintro e w1 ⟨rfl, hb1⟩; obtain ⟨hc1, hf1⟩ := bcell' hb1 (w.heap.size + 2) (by simp); have hz1_1 : w.heap.size + 1 < w1.heap.size := (by have := hb1.size; (try simp at this); omega); have hz1_0 : w.heap.size < w1.heap.size := (by have := hb1.size; (try simp at this); omega); have hB1 : Bw w w1 := Bw.trans (by repeat (with_reducible first | assumption | exact Bw.refl _ | apply Bw.drew | apply Bw.drewN | apply Bw.alloc | refine Bw.setCell ?_ (by first | (simp; done) | (simp; omega) | omega) _)) hb1))
    exact bodyPost_ret (v := .tuple #[.agg #[.int .i64 0, .int .i64 0, .int .i64 0, .int .i64 0, .int .i64 0, .int .i64 0], .int .i64 e0]) (by simp [results, Tryz.results29, go_sem, hc1, hz1_0, hz1_1]) rfl ⟨rfl, by repeat (with_reducible first | assumption | exact Bw.refl _ | apply Bw.drew | apply Bw.drewN | apply Bw.alloc | refine Bw.setCell ?_ (by first | (simp; done) | (simp; omega) | omega) _)⟩
end Go.Proofs.YtgloclcbeohkhaaGreatDoor
