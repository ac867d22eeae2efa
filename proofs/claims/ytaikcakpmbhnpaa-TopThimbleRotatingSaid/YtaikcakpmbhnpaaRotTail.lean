/-
  What the end of the walk on turning phases uses: a list that is appended whole to an empty one, and its frame.
-/
import Derived.Test.YtaikcakpmbhnpaaRotRel
import Derived.OwnWalk
namespace Go.Proofs.Ytaikcakpmbhnpaa
set_option linter.all false
open Go.RowKit

/-- The twelve cells of six numbers. -/
def news6 (f : Nat → Int × Int) : List Value := [.int .i64 (f 0).1, .int .i64 (f 0).2, .int .i64 (f 1).1, .int .i64 (f 1).2, .int .i64 (f 2).1, .int .i64 (f 2).2, .int .i64 (f 3).1, .int .i64 (f 3).2, .int .i64 (f 4).1, .int .i64 (f 4).2, .int .i64 (f 5).1, .int .i64 (f 5).2]
theorem add_mk (b j : Nat) : (⟨b, 0, none⟩ : Addr).add j = ⟨b, j, none⟩ := by unfold Addr.add; split <;> simp_all
theorem six_news {W : World} {b : Nat} {f : Nat → Int × Int} (h : Ef W b 0 6 f) : ∀ (j : Nat) (u : Value), (news6 f)[j]? = some u → W.cell? ((⟨b, 0, none⟩ : Addr).add j) = some u := by
  obtain ⟨h0, h1, h2, h3, h4, h5, h6, h7, h8, h9, h10, h11⟩ := h.six
  intro j u hj
  rw [add_mk]
  unfold news6 at hj
  match j, hj with
  | 0, hj => rw [h0]; exact hj
  | 1, hj => rw [h1]; exact hj
  | 2, hj => rw [h2]; exact hj
  | 3, hj => rw [h3]; exact hj
  | 4, hj => rw [h4]; exact hj
  | 5, hj => rw [h5]; exact hj
  | 6, hj => rw [h6]; exact hj
  | 7, hj => rw [h7]; exact hj
  | 8, hj => rw [h8]; exact hj
  | 9, hj => rw [h9]; exact hj
  | 10, hj => rw [h10]; exact hj
  | 11, hj => rw [h11]; exact hj
  | n + 12, hj => simp at hj
theorem six_one (f : Nat → Int × Int) : ∀ u : Value, u ∈ news6 f → u.oneCell' = true := by
  intro u hu
  unfold news6 at hu
  simp only [List.mem_cons, List.not_mem_nil, or_false] at hu
  rcases hu with rfl | rfl | rfl | rfl | rfl | rfl | rfl | rfl | rfl | rfl | rfl | rfl <;> rfl
theorem six_own {w1 : World} {B : Nat} {E : TypeId} {v : Value} {f : Nat → Int × Int} (h : w1.ownsRow B E 2 v (0 + 6) ([] ++ news6 f)) : ∃ g cap, v = .slice (some ⟨g, 0, none⟩) 6 cap ∧ B ≤ g ∧ g < w1.heap.size ∧ Ef w1 g 0 6 f := by
  have hc := fun g => h.cells (g := g)
  have hl := h.lt
  obtain ⟨_, ⟨_, h0⟩ | ⟨g, cap, cur, rfl, hB, hg, _⟩⟩ := h
  · omega
  · obtain ⟨l1, l2⟩ := hl g rfl
    have hk := hc g rfl
    simp only [List.nil_append, add_mk] at hk
    exact ⟨g, cap, rfl, l1, l2, fun i hi => by
      match i, hi with
      | 0, _ => exact ⟨hk 0 _ rfl, hk 1 _ rfl⟩
      | 1, _ => exact ⟨hk 2 _ rfl, hk 3 _ rfl⟩
      | 2, _ => exact ⟨hk 4 _ rfl, hk 5 _ rfl⟩
      | 3, _ => exact ⟨hk 6 _ rfl, hk 7 _ rfl⟩
      | 4, _ => exact ⟨hk 8 _ rfl, hk 9 _ rfl⟩
      | 5, _ => exact ⟨hk 10 _ rfl, hk 11 _ rfl⟩⟩
theorem own0 (w : World) (E : TypeId) : (w.alloc (.cells #[] E)).ownsRow w.heap.size E 2 (.slice (some ⟨w.heap.size, 0, none⟩) 0 0) 0 [] :=
  World.ownsRow_made w #[] 0 (Nat.le_refl _) (by unfold maxLen; omega) rfl
theorem bw_grown {w w1 : World} {o : Obj} {b : Nat} (hb : b = w.heap.size) (h : (w.alloc o).grownBy w1 (some b)) : Bw w w1 :=
  Below.grown ((Below.refl _ _).alloc (Nat.le_refl _) o) h (by simp) (fun k e => by simp at e; omega)

/-- A number that turns, in a frame that turns as fast. -/
theorem framed_rot (a b s t : Int) (f : Nat → Int × Int) (ha : a < 101 ∧ -101 < a) (hb : b < 101 ∧ -101 < b) (hs : -128 ≤ s ∧ s ≤ 127) (hf : ∀ j, j < 6 → f j = Pl.turn (a, b) ((j : Int) * s + t)) (g cap : Nat) (W : World) (hg : g < W.heap.size) (hE : Ef W g 0 6 f) :
    Calls Try.prog 20 #[.slice (some ⟨g, 0, none⟩) 6 cap, .int .i64 s] W (NewList 6 (fun _ => Pl.turn (a, b) t) W) := by
  have hin : ∀ n : Int, Pl.inB 200 (Pl.turn (a, b) n) := fun n => turn_in (a, b) n 100 ⟨by simp only; omega, by simp only; omega, by simp only; omega, by simp only; omega⟩
  have hl : [f 0, f 1, f 2, f 3, f 4, f 5].length = 6 := rfl
  have hget : ∀ i, i < 6 → [f 0, f 1, f 2, f 3, f 4, f 5].getD i (0, 0) = f i := fun i hi => by
    match i, hi with
    | 0, _ => rfl
    | 1, _ => rfl
    | 2, _ => rfl
    | 3, _ => rfl
    | 4, _ => rfl
    | 5, _ => rfl
  have hturn : ∀ i : Nat, i < 6 → Pl.turn (f i) ((-s) * (i : Int)) = Pl.turn (a, b) t := fun i hi => by
    rw [hf i hi, turn_turn]
    congr 1
    rw [Int.neg_mul, Int.mul_comm s]; omega
  have h := framed_yes [f 0, f 1, f 2, f 3, f 4, f 5] s g 0 cap W (by simp) hg (fun i hi => by rw [hget i hi]; exact hE i hi)
    (firstP_zero.2 fun p hp => by
      have : ∃ n, p = Pl.turn (a, b) n := by
        simp only [List.mem_cons, List.not_mem_nil, or_false] at hp
        rcases hp with rfl | rfl | rfl | rfl | rfl | rfl
        · exact ⟨_, hf 0 (by omega)⟩
        · exact ⟨_, hf 1 (by omega)⟩
        · exact ⟨_, hf 2 (by omega)⟩
        · exact ⟨_, hf 3 (by omega)⟩
        · exact ⟨_, hf 4 (by omega)⟩
        · exact ⟨_, hf 5 (by omega)⟩
      obtain ⟨n, rfl⟩ := this
      obtain ⟨h1, h2, h3, h4⟩ := hin n
      exact ⟨by omega, by omega, by omega, by omega⟩)
    (by omega)
    (fun i hi => by
      rw [hget i hi, hturn i hi]
      obtain ⟨h1, h2, h3, h4⟩ := hin t
      exact ⟨by omega, by omega, by omega, by omega⟩)
  refine h.mono fun e w' h => ?_
  obtain ⟨g2, he, hE2, hF2, hB2, hl2, hz2⟩ := h
  exact ⟨g2, he, hE2.congr fun i hi => by rw [hget i hi, hturn i hi], hF2, hB2, hl2, hz2⟩
end Go.Proofs.Ytaikcakpmbhnpaa
