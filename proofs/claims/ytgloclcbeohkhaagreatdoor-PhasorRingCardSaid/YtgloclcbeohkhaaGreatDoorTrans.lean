/-
  The contract of the transform of a list of numbers.
-/
import Derived.Test.YtgloclcbeohkhaaGreatDoorFirstIn
import Derived.Deep.RegionHeld3
import Derived.Laws.MakeOwn
import Derived.Laws.Entries
namespace Go.Proofs.YtgloclcbeohkhaaGreatDoor
set_option linter.all false
open Go.RowKit

/-- The numbers f 0 .. f (n - 1) lie in a block, from a place on. -/
def Ef (w : World) (b off n : Nat) (f : Nat → Int × Int) : Prop :=
  ∀ i, i < n → w.cell? ⟨b, off + i * 2, none⟩ = some (.int .i64 (f i).1) ∧ w.cell? ⟨b, off + i * 2 + 1, none⟩ = some (.int .i64 (f i).2)
/-- No cell of a block is frozen. -/
def Free (w : World) (b : Nat) : Prop := ∀ o, w.frozen? ⟨b, o, none⟩ = false

theorem Ef.keep {w w' : World} {b off n : Nat} {f : Nat → Int × Int} (h : Ef w b off n f) (hk : ∀ o, w'.cell? ⟨b, o, none⟩ = w.cell? ⟨b, o, none⟩) : Ef w' b off n f :=
  fun i hi => ⟨(hk _).trans (h i hi).1, (hk _).trans (h i hi).2⟩
theorem Ef.bw {w w' : World} {b off n : Nat} {f : Nat → Int × Int} (h : Ef w b off n f) (hb : Bw w w') (hlt : b < w.heap.size) : Ef w' b off n f :=
  h.keep fun o => (bcell hb).1 b o hlt
theorem Ef.congr {w : World} {b off n : Nat} {f g : Nat → Int × Int} (h : Ef w b off n f) (hfg : ∀ i, i < n → f i = g i) : Ef w b off n g :=
  fun i hi => by rw [← hfg i hi]; exact h i hi
theorem Free.bw {w w' : World} {b : Nat} (h : Free w b) (hb : Bw w w') (hlt : b < w.heap.size) : Free w' b := fun o => ((bcell hb).2 b o hlt).trans (h o)
theorem Ef.of {w : World} {b off : Nat} {l : List (Int × Int)} (h : EvAt w b off l) : Ef w b off l.length (fun i => l.getD i (0, 0)) := h
theorem Ef.to {w : World} {b off : Nat} {l : List (Int × Int)} (h : Ef w b off l.length (fun i => l.getD i (0, 0))) : EvAt w b off l := h

theorem Ef.store {w : World} {b n : Nat} {f : Nat → Int × Int} (h : Ef w b 0 n f) (k : Nat) (hk : k < n) (x y : Int) :
    Ef ((w.setCell ⟨b, k * 2, none⟩ (.int .i64 x)).setCell ⟨b, k * 2 + 1, none⟩ (.int .i64 y)) b 0 n (fun i => if i = k then (x, y) else f i) := by
  intro i hi
  obtain ⟨h1, h2⟩ := h i hi
  obtain ⟨g1, g2⟩ := h k hk
  simp only [Nat.zero_add] at h1 h2 g1 g2 ⊢
  by_cases e : i = k
  · subst e
    simp only [if_true]
    constructor
    · rw [World.cell?_setCell_other _ _ _ _ (by simp)]
      exact World.cell?_setCell_same _ _ _ h1
    · exact World.cell?_setCell_same _ _ _ ((World.cell?_setCell_other _ _ _ _ (by simp)).trans h2)
  · simp only [if_neg e]
    constructor
    · rw [World.cell?_setCell_other _ _ _ _ (by simp <;> omega), World.cell?_setCell_other _ _ _ _ (by simp <;> omega)]
      exact h1
    · rw [World.cell?_setCell_other _ _ _ _ (by simp <;> omega), World.cell?_setCell_other _ _ _ _ (by simp <;> omega)]
      exact h2
theorem Free.store {w : World} {b : Nat} (h : Free w b) (a : Addr) (v : Value) : Free (w.setCell a v) b := fun o => by
  simpa using h o

/-- The first m parts of the sum of the element j of a transform. -/
def Tr (f : Nat → Int × Int) (s : Int) (j : Nat) : Nat → Int × Int
  | 0 => (0, 0)
  | m + 1 => Pl.add (Tr f s j m) (Pl.turn (f m) (s * ((j : Int) * (m : Int))))

theorem turn_big (p : Int × Int) (n m : Int) (h : Big m p) (hm : 0 ≤ m) : Big (32 * m) (Pl.turn p n) :=
  turnN_big5 _ (by have := Int.emod_lt_of_pos n (b := 6) (by omega); omega) _ _ h hm
theorem Tr_big (f : Nat → Int × Int) (s M : Int) (j n : Nat) (hM : 0 ≤ M) (h : ∀ i, i < n → Big M (f i)) : Big (n * (32 * M)) (Tr f s j n) := by
  induction n with
  | zero => simp [Big, Tr]
  | succ n ih =>
    obtain ⟨a1, a2, a3, a4⟩ := ih (fun i hi => h i (by omega))
    obtain ⟨b1, b2, b3, b4⟩ := turn_big (f n) (s * ((j : Int) * (n : Int))) M (h n (by omega)) hM
    have e : ((n + 1 : Nat) : Int) * (32 * M) = n * (32 * M) + 32 * M := by rw [Int.natCast_succ, Int.add_mul, Int.one_mul]
    unfold Big Tr Pl.add
    simp only [e]
    exact ⟨by omega, by omega, by omega, by omega⟩

set_option maxHeartbeats 1000000 in
/-- The function that 'turnedBy' makes. -/
theorem turnedBy1_any (a b t s : Int) (bs : Nat) (w : World) (h1 : Big 10000000000000 (a, b)) (hs : -1000 ≤ s ∧ s ≤ 1000) (ht : -1000000 ≤ t ∧ t ≤ 1000000) (hc : w.cell? ⟨bs, 0, none⟩ = some (.int .i64 s)) :
    Calls Tryz.prog 95 #[.agg #[.int .i64 a, .int .i64 b], .int .i64 t, .pointer (some ⟨bs, 0, none⟩)] w fun e w' => e = .returned (.agg #[.int .i64 (Pl.turn (a, b) (s * t)).1, .int .i64 (Pl.turn (a, b) (s * t)).2]) ∧ Bw w w' := by
  have hbs := World.block_lt_of_cell? w _ hc
  simp only at hbs
  have hst : -1000000000 ≤ s * t ∧ s * t ≤ 1000000000 := by
    have e : (s * t).natAbs ≤ 1000 * 1000000 := by rw [Int.natAbs_mul]; exact Nat.mul_le_mul (by omega) (by omega)
    omega
  obtain ⟨st1, st2⟩ := hst
  have HT := Lib.hid (fun W => turn_any a b (s * t) W h1 (by omega))
  generalize Pl.turn (a, b) (s * t) = q at *
  go_enter Tryz.func95, Tryz.ntmps95
  go_wp2_with (first | (go_at_call 52; refine (HT.out _).mono ?_; rintro e w1 ⟨rfl, hb1⟩; obtain ⟨hc1, hf1⟩ := bcell' hb1 (w.heap.size + 2) (by simp); have hz1_1 : w.heap.size + 1 < w1.heap.size := (by have := hb1.size; (try simp at this); omega); have hz1_0 : w.heap.size < w1.heap.size := (by have := hb1.size; (try simp at this); omega); have hB1 : Bw w w1 := Bw.trans (by repeat (with_reducible first | assumption | exact Bw.refl _ | apply Bw.drew | apply Bw.drewN | apply Bw.alloc | refine Bw.setCell ?_ (by first | (simp; done) | (simp; omega) | omega) _)) hb1))
  exact bodyPost_ret (v := .agg #[.int .i64 q.1, .int .i64 q.2]) (by simp [results, Tryz.results95, go_sem, *]) rfl ⟨rfl, by repeat (with_reducible first | assumption | exact Bw.refl _ | apply Bw.drew | apply Bw.drewN | apply Bw.alloc | refine Bw.setCell ?_ (by first | (simp; done) | (simp; omega) | omega) _)⟩
end Go.Proofs.YtgloclcbeohkhaaGreatDoor
