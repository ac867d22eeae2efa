/-
  The relations of the walk of the theorem of the whole on phases that turn.
-/
import Derived.Test.YtaikcakpmbhnpaaWires
import Derived.Test.YtaikcakpmbhnpaaRotVal
import Derived.Test.YtaikcakpmbhnpaaRefNum
import Derived.Test.YtaikcakpmbhnpaaFramed
import Derived.Deep.RegionHeld3
import Derived.Deep.DeepCutAuto
namespace Go.Proofs.Ytaikcakpmbhnpaa
set_option linter.all false
open Go.RowKit

/-- A pointer to a new block that holds a number. -/
def PtE (w : World) (lo : Nat) (v : Value) (p : Int × Int) : Prop :=
  ∃ g, v = .pointer (some ⟨g, 0, none⟩) ∧ lo ≤ g ∧ g < w.heap.size ∧ w.cell? ⟨g, 0, none⟩ = some (.int .i64 p.1) ∧ w.cell? ⟨g, 1, none⟩ = some (.int .i64 p.2)

theorem keep4 (w : World) (x0 x1 y0 y1 : Int) {W : World} (h : Bw ((w.alloc (.cells #[.int .i8 x0, .int .i8 x1] 35)).alloc (.cells #[.int .i8 y0, .int .i8 y1] 35)) W) :
    W.cell? ⟨w.heap.size, 0, none⟩ = some (.int .i8 x0) ∧ W.cell? ⟨w.heap.size, 1, none⟩ = some (.int .i8 x1) ∧ W.cell? ⟨w.heap.size + 1, 0, none⟩ = some (.int .i8 y0) ∧ W.cell? ⟨w.heap.size + 1, 1, none⟩ = some (.int .i8 y1) :=
  ⟨((bcell h).1 _ _ (by simp; omega)).trans (by go_simp), ((bcell h).1 _ _ (by simp; omega)).trans (by go_simp), ((bcell h).1 _ _ (by simp)).trans (by go_simp), ((bcell h).1 _ _ (by simp)).trans (by go_simp)⟩

theorem zero_ef (W : World) (t : TypeId) : Ef (W.alloc (.cells #[.int .i64 0, .int .i64 0, .int .i64 0, .int .i64 0, .int .i64 0, .int .i64 0, .int .i64 0, .int .i64 0, .int .i64 0, .int .i64 0, .int .i64 0, .int .i64 0] t)) W.heap.size 0 6 (fun _ => (0, 0)) := fun i hi => by
  match i, hi with
  | 0, _ => exact ⟨cell_of_block (heap_alloc_new W _) 0, cell_of_block (heap_alloc_new W _) 1⟩
  | 1, _ => exact ⟨cell_of_block (heap_alloc_new W _) 2, cell_of_block (heap_alloc_new W _) 3⟩
  | 2, _ => exact ⟨cell_of_block (heap_alloc_new W _) 4, cell_of_block (heap_alloc_new W _) 5⟩
  | 3, _ => exact ⟨cell_of_block (heap_alloc_new W _) 6, cell_of_block (heap_alloc_new W _) 7⟩
  | 4, _ => exact ⟨cell_of_block (heap_alloc_new W _) 8, cell_of_block (heap_alloc_new W _) 9⟩
  | 5, _ => exact ⟨cell_of_block (heap_alloc_new W _) 10, cell_of_block (heap_alloc_new W _) 11⟩
theorem zero_free (W : World) (cs : Array Value) (t : TypeId) : Free (W.alloc (.cells cs t)) W.heap.size := free_of_block (heap_alloc_new W _)
/-- The first k of a row of six. -/
def upk (f : Nat → Int × Int) (k j : Nat) : Int × Int := if j < k then f j else (0, 0)
theorem upk_step (f : Nat → Int × Int) (k j : Nat) (p : Int × Int) (h : f k = p) : (if j = k then (p.1, p.2) else upk f k j) = upk f (k + 1) j := by
  unfold upk
  by_cases e : j = k
  · subst e; rw [if_pos rfl, if_pos (by omega), h]
  · rw [if_neg e]
    by_cases e2 : j < k
    · rw [if_pos e2, if_pos (by omega)]
    · rw [if_neg e2, if_neg (by omega)]
theorem cell_new2 (W : World) {s : Nat} (h : W.heap.size = s) (cs : Array Value) (t : TypeId) (i : Nat) (v : Value) (hv : cs[i]? = some v) : (W.alloc (.cells cs t)).drew.cell? ⟨s, i, none⟩ = some v := by
  subst h
  exact (cell_of_block (heap_alloc_new W _) i).trans hv
theorem Ef.far {w : World} {b off n : Nat} {f : Nat → Int × Int} (h : Ef w b off n f) {p : Addr} (hp : p.block ≠ b) (v : Value) : Ef (w.setCell p v) b off n f :=
  h.keep fun o => World.cell?_setCell_other _ _ _ _ (fun e => hp (by rw [e]))
/-- What holds when k steps are done. -/
def RotRel (wA wr : World) (T g12 : Nat) (a b s : Int) (M : Int × Int) (k : Nat) : Prop :=
  Ef wr T 0 6 (upk (fun j => Pl.turn (a, b) ((j : Int) * s)) k) ∧ Ef wr (T + 1) 0 6 (upk (fun j => Pl.turn (a, b) ((j : Int) * s - 2)) k) ∧ Free wr T ∧ Free wr (T + 1) ∧
  wr.cell? ⟨g12, 0, none⟩ = some (.int .i64 M.1) ∧ wr.cell? ⟨g12, 1, none⟩ = some (.int .i64 M.2) ∧ Bw wA wr ∧ T + 1 < wr.heap.size ∧ g12 < wr.heap.size
/-- What holds when the phases of step k are made and kept. -/
theorem RotRel.bw {wA w1 w2 : World} {T g12 : Nat} {a b s : Int} {M : Int × Int} {k : Nat} (h : RotRel wA w1 T g12 a b s M k) (hb : Bw w1 w2) : RotRel wA w2 T g12 a b s M k := by
  obtain ⟨h0, h1, h2, h3, h4, h5, h6, h7, h8⟩ := h
  have hs := hb.size
  exact ⟨h0.bw hb (by omega), h1.bw hb (by omega), h2.bw hb (by omega), h3.bw hb (by omega), ((bcell hb).1 _ _ h8).trans h4, ((bcell hb).1 _ _ h8).trans h5, h6.trans hb, by omega, by omega⟩
def CutRel (wA wx : World) (T H g12 : Nat) (a b s : Int) (M x x1 x2 y y1 y2 : Int × Int) (k : Nat) : Prop :=
  Ef wx H 0 3 (f3 x x1 x2) ∧ Ef wx (H + 1) 0 3 (f3 y y1 y2) ∧ RotRel wA wx T g12 a b s M k ∧ H + 1 < wx.heap.size
theorem rot_step (f : Nat → Int × Int) (k j : Nat) (p : Int × Int) (h : f k = p) : (if j = k then (p.1, p.2) else upk f k j) = upk f (k + 1) j := upk_step f k j p h
/-- The three turns of a step. -/
def tn (m : Nat) : Int := [0, -2, 2].getD m 0
theorem idxT0 (a0 a1 a2 : Value) (W : World) : (Instr.index 62 (.agg #[a0, a1, a2]) (.int .i64 0)).run Try.prog W = .ok a0 W := by kernel_rfl
theorem idxT1 (a0 a1 a2 : Value) (W : World) : (Instr.index 62 (.agg #[a0, a1, a2]) (.int .i64 1)).run Try.prog W = .ok a1 W := by kernel_rfl
theorem idxT2 (a0 a1 a2 : Value) (W : World) : (Instr.index 62 (.agg #[a0, a1, a2]) (.int .i64 2)).run Try.prog W = .ok a2 W := by kernel_rfl
theorem idxT (m : Nat) (hm : m < 3) (W : World) : (Instr.index 62 (.agg #[.int .i64 0, .int .i64 (-2), .int .i64 2]) (.int .i64 (m : Int))).run Try.prog W = .ok (.int .i64 (tn m)) W := by
  match m, hm with
  | 0, _ => exact idxT0 _ _ _ W
  | 1, _ => exact idxT1 _ _ _ W
  | 2, _ => exact idxT2 _ _ _ W
theorem tn_bd (m : Nat) (hm : m < 3) : -2 ≤ tn m ∧ tn m ≤ 2 := by
  match m, hm with
  | 0, _ => decide
  | 1, _ => decide
  | 2, _ => decide
theorem zero_ef3 (W : World) (t : TypeId) : Ef (W.alloc (.cells #[.int .i64 0, .int .i64 0, .int .i64 0, .int .i64 0, .int .i64 0, .int .i64 0] t)) W.heap.size 0 3 (fun _ => (0, 0)) := fun i hi => by
  match i, hi with
  | 0, _ => exact ⟨cell_of_block (heap_alloc_new W _) 0, cell_of_block (heap_alloc_new W _) 1⟩
  | 1, _ => exact ⟨cell_of_block (heap_alloc_new W _) 2, cell_of_block (heap_alloc_new W _) 3⟩
  | 2, _ => exact ⟨cell_of_block (heap_alloc_new W _) 4, cell_of_block (heap_alloc_new W _) 5⟩
theorem turned_ok (a b n : Int) (ha : a < 101 ∧ -101 < a) (hb : b < 101 ∧ -101 < b) (hn : -1000000 ≤ n ∧ n ≤ 1000000) :
    turnedV a b n = .tuple #[.agg #[.int .i64 (Pl.turn (a, b) n).1, .int .i64 (Pl.turn (a, b) n).2], .int .i64 0] := by
  have h1 : Pl.parts a b 1048576 = 0 := parts_ok.2 ⟨by simp only; omega, by simp only; omega, by simp only; omega, by simp only; omega⟩
  have h2 : Pl.cr n (-1000000) 1000000 = 0 := cr_ok.2 hn
  have h3 : Pl.inB 1048576 (Pl.turn (a, b) n) := by
    obtain ⟨t1, t2, t3, t4⟩ := turn_in (a, b) n 100 ⟨by simp only; omega, by simp only; omega, by simp only; omega, by simp only; omega⟩
    exact ⟨by omega, by omega, by omega, by omega⟩
  unfold turnedV
  rw [h1, h2, if_pos (show Pl.firstE [0, 0] = 0 from rfl), lim_in h3]
theorem keepE {wc W : World} {g7 g8 : Nat} {p q : Int × Int} (h7 : g7 < wc.heap.size) (h8 : g8 < wc.heap.size) (a0 : wc.cell? ⟨g7, 0, none⟩ = some (.int .i64 p.1)) (a1 : wc.cell? ⟨g7, 1, none⟩ = some (.int .i64 p.2)) (c0 : wc.cell? ⟨g8, 0, none⟩ = some (.int .i64 q.1)) (c1 : wc.cell? ⟨g8, 1, none⟩ = some (.int .i64 q.2)) (h : Bw wc W) :
    W.cell? ⟨g7, 0, none⟩ = some (.int .i64 p.1) ∧ W.cell? ⟨g7, 1, none⟩ = some (.int .i64 p.2) ∧ W.cell? ⟨g8, 0, none⟩ = some (.int .i64 q.1) ∧ W.cell? ⟨g8, 1, none⟩ = some (.int .i64 q.2) :=
  ⟨((bcell h).1 _ _ h7).trans a0, ((bcell h).1 _ _ h7).trans a1, ((bcell h).1 _ _ h8).trans c0, ((bcell h).1 _ _ h8).trans c1⟩

/-- What a stored step leaves. -/
theorem cut_rel {wA wr : World} {T H g12 : Nat} {a b s : Int} {M x x1 x2 y y1 y2 : Int × Int} {k : Nat} (hlt : k < 6) (hT : wA.heap.size ≤ T) (hTH : T + 1 < H) (hH : H + 1 < wr.heap.size) (hg : T + 1 < g12) (hgl : g12 < wr.heap.size)
    (Q0 : Ef wr T 0 6 (upk (fun j => Pl.turn (a, b) ((j : Int) * s)) k)) (Q1 : Ef wr (T + 1) 0 6 (upk (fun j => Pl.turn (a, b) ((j : Int) * s - 2)) k)) (Q2 : Free wr T) (Q3 : Free wr (T + 1))
    (m0 : wr.cell? ⟨g12, 0, none⟩ = some (.int .i64 M.1)) (m1 : wr.cell? ⟨g12, 1, none⟩ = some (.int .i64 M.2)) (E0 : Ef wr H 0 3 (f3 x x1 x2)) (E1 : Ef wr (H + 1) 0 3 (f3 y y1 y2)) (hW : Bw wA wr)
    (S0 : ∀ j, (if j = k then (x.1, x.2) else upk (fun j => Pl.turn (a, b) ((j : Int) * s)) k j) = upk (fun j => Pl.turn (a, b) ((j : Int) * s)) (k + 1) j)
    (S1 : ∀ j, (if j = k then (x1.1, x1.2) else upk (fun j => Pl.turn (a, b) ((j : Int) * s - 2)) k j) = upk (fun j => Pl.turn (a, b) ((j : Int) * s - 2)) (k + 1) j) :
    CutRel wA ((((wr.setCell ⟨T, k * 2, none⟩ (.int .i64 x.1)).setCell ⟨T, k * 2 + 1, none⟩ (.int .i64 x.2)).setCell ⟨T + 1, k * 2, none⟩ (.int .i64 x1.1)).setCell ⟨T + 1, k * 2 + 1, none⟩ (.int .i64 x1.2)).drew T H g12 a b s M x x1 x2 y y1 y2 (k + 1) := by
  have n1 : T ≠ T + 1 := by omega
  have n2 : T + 1 ≠ T := by omega
  have n3 : T ≠ H := by omega
  have n4 : T + 1 ≠ H := by omega
  have n5 : T ≠ H + 1 := by omega
  have n6 : T + 1 ≠ H + 1 := by omega
  have n7 : g12 ≠ T := by omega
  have n8 : g12 ≠ T + 1 := by omega
  have G0 := (((Q0.store k hlt x.1 x.2).far (p := ⟨T + 1, k * 2, none⟩) n2 (.int .i64 x1.1)).far (p := ⟨T + 1, k * 2 + 1, none⟩) n2 (.int .i64 x1.2)).congr fun j _ => S0 j
  have G1 := (((Q1.far (p := ⟨T, k * 2, none⟩) n1 (.int .i64 x.1)).far (p := ⟨T, k * 2 + 1, none⟩) n1 (.int .i64 x.2)).store k hlt x1.1 x1.2).congr fun j _ => S1 j
  have G2 := (((Q2.store ⟨T, k * 2, none⟩ (.int .i64 x.1)).store ⟨T, k * 2 + 1, none⟩ (.int .i64 x.2)).store ⟨T + 1, k * 2, none⟩ (.int .i64 x1.1)).store ⟨T + 1, k * 2 + 1, none⟩ (.int .i64 x1.2)
  have G3 := (((Q3.store ⟨T, k * 2, none⟩ (.int .i64 x.1)).store ⟨T, k * 2 + 1, none⟩ (.int .i64 x.2)).store ⟨T + 1, k * 2, none⟩ (.int .i64 x1.1)).store ⟨T + 1, k * 2 + 1, none⟩ (.int .i64 x1.2)
  have G4 := (((E0.far (p := ⟨T, k * 2, none⟩) n3 (.int .i64 x.1)).far (p := ⟨T, k * 2 + 1, none⟩) n3 (.int .i64 x.2)).far (p := ⟨T + 1, k * 2, none⟩) n4 (.int .i64 x1.1)).far (p := ⟨T + 1, k * 2 + 1, none⟩) n4 (.int .i64 x1.2)
  have G5 := (((E1.far (p := ⟨T, k * 2, none⟩) n5 (.int .i64 x.1)).far (p := ⟨T, k * 2 + 1, none⟩) n5 (.int .i64 x.2)).far (p := ⟨T + 1, k * 2, none⟩) n6 (.int .i64 x1.1)).far (p := ⟨T + 1, k * 2 + 1, none⟩) n6 (.int .i64 x1.2)
  have G6 : Bw wA ((((wr.setCell ⟨T, k * 2, none⟩ (.int .i64 x.1)).setCell ⟨T, k * 2 + 1, none⟩ (.int .i64 x.2)).setCell ⟨T + 1, k * 2, none⟩ (.int .i64 x1.1)).setCell ⟨T + 1, k * 2 + 1, none⟩ (.int .i64 x1.2)) :=
    Bw.setCell (Bw.setCell (Bw.setCell (Bw.setCell hW hT _) hT _) (Nat.le_succ_of_le hT) _) (Nat.le_succ_of_le hT) _
  have hz : ((((wr.setCell ⟨T, k * 2, none⟩ (.int .i64 x.1)).setCell ⟨T, k * 2 + 1, none⟩ (.int .i64 x.2)).setCell ⟨T + 1, k * 2, none⟩ (.int .i64 x1.1)).setCell ⟨T + 1, k * 2 + 1, none⟩ (.int .i64 x1.2)).heap.size = wr.heap.size := by simp [World.setCell]
  have K0 : ((((wr.setCell ⟨T, k * 2, none⟩ (.int .i64 x.1)).setCell ⟨T, k * 2 + 1, none⟩ (.int .i64 x.2)).setCell ⟨T + 1, k * 2, none⟩ (.int .i64 x1.1)).setCell ⟨T + 1, k * 2 + 1, none⟩ (.int .i64 x1.2)).cell? ⟨g12, 0, none⟩ = some (.int .i64 M.1) := by
    rw [World.cell?_setCell_other _ _ _ _ (fun e => n8 (congrArg Addr.block e).symm), World.cell?_setCell_other _ _ _ _ (fun e => n8 (congrArg Addr.block e).symm), World.cell?_setCell_other _ _ _ _ (fun e => n7 (congrArg Addr.block e).symm), World.cell?_setCell_other _ _ _ _ (fun e => n7 (congrArg Addr.block e).symm)]; exact m0
  have K1 : ((((wr.setCell ⟨T, k * 2, none⟩ (.int .i64 x.1)).setCell ⟨T, k * 2 + 1, none⟩ (.int .i64 x.2)).setCell ⟨T + 1, k * 2, none⟩ (.int .i64 x1.1)).setCell ⟨T + 1, k * 2 + 1, none⟩ (.int .i64 x1.2)).cell? ⟨g12, 1, none⟩ = some (.int .i64 M.2) := by
    rw [World.cell?_setCell_other _ _ _ _ (fun e => n8 (congrArg Addr.block e).symm), World.cell?_setCell_other _ _ _ _ (fun e => n8 (congrArg Addr.block e).symm), World.cell?_setCell_other _ _ _ _ (fun e => n7 (congrArg Addr.block e).symm), World.cell?_setCell_other _ _ _ _ (fun e => n7 (congrArg Addr.block e).symm)]; exact m1
  generalize ((((wr.setCell ⟨T, k * 2, none⟩ (.int .i64 x.1)).setCell ⟨T, k * 2 + 1, none⟩ (.int .i64 x.2)).setCell ⟨T + 1, k * 2, none⟩ (.int .i64 x1.1)).setCell ⟨T + 1, k * 2 + 1, none⟩ (.int .i64 x1.2)) = W at *
  have hD : Bw W W.drew := (Bw.refl _).drew
  have R : RotRel wA W T g12 a b s M (k + 1) := ⟨G0, G1, G2, G3, K0, K1, G6, by omega, by omega⟩
  exact ⟨G4.bw hD (by omega), G5.bw hD (by omega), R.bw hD, by show H + 1 < W.heap.size; omega⟩
end Go.Proofs.Ytaikcakpmbhnpaa
