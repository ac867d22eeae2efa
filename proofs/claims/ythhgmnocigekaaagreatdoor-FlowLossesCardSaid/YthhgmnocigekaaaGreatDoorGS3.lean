/-
  Straight lines and lowest terms, known when chapter 5's examples are reckoned.
  The contract of (bipole.flow.straight).voltageOf.
  The contract of (bipole.flow.straight).plus.
  The contract of bipole.flow.through.
  The contract of bipole.whole.Lowest.
  The contract of whole.Divisor (for line.py's KN).
  The greatest common divisor of two numbers, by the rounds of its loop.
  Contracts: what is answered.
  The contract of bipole.bipoleref05.CheckPower.
  The contract of bipole.flow.Delivered.
  The contract of bipole.flow.Loss.
  Balance of the reference over a row.
  The sums in the reference's Balance.
  flow.Balance over a row.
  The sums in flow.Balance.
  Powers that are delivered, one after the other (list.Mapped in flow.Balance).
  A row that a loop has filled, told by its numbers; blocks behind a loop told otherwise.
  THE SMALL WORLD: a loop that neither reads nor writes what lies below N goes the same way where tables are known there.
  Needed, of the program and of the reference: the least power of which some power is delivered.
  The contract of bipole.flow.CheckLosses.
  The loop of the reference's Needed.
  The contract of bipole.bipoleref05.Delivered.
  The contract of bipole.bipoleref05.Loss.
  The contract of bipole.bipoleref01.Floor.
  The loop of flow.Needed.
  The contract of bipole.flow.delivered.
  The contract of bipole.flow.loss.
  CheckPowers of the reference.
  The contract of bipole.bipoleref05.CheckLosses.
  The contract of bipole.bipoleref01.CheckRange.
-/
import Derived.Test.YthhgmnocigekaaaGreatDoorGS2
import Derived.Test.YthhgmnocigekaaaGreatDoorProg
import Derived.Test.YthhgmnocigekaaaGreatDoorGS1
section
set_option linter.all false
set_option maxRecDepth 1000000
set_option maxHeartbeats 2000000
open Go.RowKit
namespace Go.Proofs.YthhgmnocigekaaaGreatDoor
open Mini

def rrange_val (n lo hi : Int) : Value := .int .i64 (Pl.cr n lo hi)
theorem rrange_X : FOkS Tryz.prog x_rrange := noXS_ok
theorem rrange_args (n lo hi : Int) : (#[.int .i64 n, .int .i64 lo, .int .i64 hi] : Array Value).toList.all (ground 8) = true := by kernel_rfl
def rrange_c0 (n lo hi : Int) : Bool := (decide (n < lo))
theorem rrange_g1 : (true = true) := by first | rfl | trivial | decide | omega
def rrange_c1 (n lo hi : Int) : Bool := (decide (n > hi))
def rrange_w0 (n lo hi : Int) : Value := .int .i64 (3 : Int)
def rrange_r0 (n lo hi : Int) : Prop := (((((True ∧ (rrange_c0 n lo hi = true)) ∧ (rrange_c0 n lo hi = true)) ∧ (rrange_c0 n lo hi = true)) ∧ (rrange_c0 n lo hi = true)) ∧ ((true = true)))
theorem rrange_o0 (n lo hi : Int) : obOf (rrange_e0 n lo hi) = rrange_r0 n lo hi := by kernel_rfl
theorem rrange_v0 (n lo hi : Int) : resOf (rrange_e0 n lo hi) = rrange_w0 n lo hi := by kernel_rfl
theorem rrange_k0 (n lo hi : Int) : cleanOf Tryz.prog.globals.size (rrange_e0 n lo hi) = true := by kernel_rfl
theorem rrange_q0 (n lo hi : Int) : rrange_e0 n lo hi = evFS Tryz.prog x_rrange 1000 63 #[.int .i64 n, .int .i64 lo, .int .i64 hi] (noTabs 4) ⟨[0, 0, 0, 1, 1], True⟩ := by
  delta rrange_e0
  exact Eq.refl _
theorem rrange_p0 (n lo hi : Int) (h : rrange_r0 n lo hi) (w : World) : Calls Tryz.prog 63 #[.int .i64 n, .int .i64 lo, .int .i64 hi] w fun en w' => en = .returned (rrange_w0 n lo hi) ∧ Below w.heap.size w w' := by
  have hv := rrange_v0 n lo hi
  have hc := rrange_k0 n lo hi
  have he := rrange_q0 n lo hi
  have ho := rrange_o0 n lo hi
  generalize rrange_e0 n lo hi = r at *
  exact calls_way he gfol rrange_X hv rfl (rrange_args n lo hi) hc ho h (bl w)
def rrange_w1 (n lo hi : Int) : Value := .int .i64 (3 : Int)
def rrange_r1 (n lo hi : Int) : Prop := (((((True ∧ (rrange_c0 n lo hi = false)) ∧ (rrange_c0 n lo hi = false)) ∧ (rrange_c0 n lo hi = false)) ∧ (rrange_c0 n lo hi = false)) ∧ (rrange_c1 n lo hi = true))
theorem rrange_o1 (n lo hi : Int) : obOf (rrange_e1 n lo hi) = rrange_r1 n lo hi := by kernel_rfl
theorem rrange_v1 (n lo hi : Int) : resOf (rrange_e1 n lo hi) = rrange_w1 n lo hi := by kernel_rfl
theorem rrange_k1 (n lo hi : Int) : cleanOf Tryz.prog.globals.size (rrange_e1 n lo hi) = true := by kernel_rfl
theorem rrange_q1 (n lo hi : Int) : rrange_e1 n lo hi = evFS Tryz.prog x_rrange 1000 63 #[.int .i64 n, .int .i64 lo, .int .i64 hi] (noTabs 4) ⟨[1, 1, 1, 0, 1], True⟩ := by
  delta rrange_e1
  exact Eq.refl _
theorem rrange_p1 (n lo hi : Int) (h : rrange_r1 n lo hi) (w : World) : Calls Tryz.prog 63 #[.int .i64 n, .int .i64 lo, .int .i64 hi] w fun en w' => en = .returned (rrange_w1 n lo hi) ∧ Below w.heap.size w w' := by
  have hv := rrange_v1 n lo hi
  have hc := rrange_k1 n lo hi
  have he := rrange_q1 n lo hi
  have ho := rrange_o1 n lo hi
  generalize rrange_e1 n lo hi = r at *
  exact calls_way he gfol rrange_X hv rfl (rrange_args n lo hi) hc ho h (bl w)
def rrange_w2 (n lo hi : Int) : Value := .int .i64 (0 : Int)
def rrange_r2 (n lo hi : Int) : Prop := (((((True ∧ (rrange_c0 n lo hi = false)) ∧ (rrange_c0 n lo hi = false)) ∧ (rrange_c0 n lo hi = false)) ∧ (rrange_c0 n lo hi = false)) ∧ (rrange_c1 n lo hi = false))
theorem rrange_o2 (n lo hi : Int) : obOf (rrange_e2 n lo hi) = rrange_r2 n lo hi := by kernel_rfl
theorem rrange_v2 (n lo hi : Int) : resOf (rrange_e2 n lo hi) = rrange_w2 n lo hi := by kernel_rfl
theorem rrange_k2 (n lo hi : Int) : cleanOf Tryz.prog.globals.size (rrange_e2 n lo hi) = true := by kernel_rfl
theorem rrange_q2 (n lo hi : Int) : rrange_e2 n lo hi = evFS Tryz.prog x_rrange 1000 63 #[.int .i64 n, .int .i64 lo, .int .i64 hi] (noTabs 4) ⟨[1, 1, 1, 0, 0], True⟩ := by
  delta rrange_e2
  exact Eq.refl _
theorem rrange_p2 (n lo hi : Int) (h : rrange_r2 n lo hi) (w : World) : Calls Tryz.prog 63 #[.int .i64 n, .int .i64 lo, .int .i64 hi] w fun en w' => en = .returned (rrange_w2 n lo hi) ∧ Below w.heap.size w w' := by
  have hv := rrange_v2 n lo hi
  have hc := rrange_k2 n lo hi
  have he := rrange_q2 n lo hi
  have ho := rrange_o2 n lo hi
  generalize rrange_e2 n lo hi = r at *
  exact calls_way he gfol rrange_X hv rfl (rrange_args n lo hi) hc ho h (bl w)
theorem rrange_any (n lo hi : Int) (hpre : True) (w : World) : Calls Tryz.prog 63 #[.int .i64 n, .int .i64 lo, .int .i64 hi] w fun en w' => en = .returned (rrange_val n lo hi) ∧ Below w.heap.size w w' := by
  rcases Bool.eq_false_or_eq_true (rrange_c0 n lo hi) with h0 | h0
  ·
    unfold rrange_c0 at h0
    have hp := rrange_p0 n lo hi ⟨⟨⟨⟨⟨trivial, h0⟩, h0⟩, h0⟩, h0⟩, rrange_g1⟩ w
    have hv : rrange_w0 n lo hi = (rrange_val n lo hi) := by
      clear hp
      unfold rrange_w0 rrange_val
      first | rfl | ((try simp only [bne_iff_ne, ne_eq, decide_eq_true_eq, decide_eq_false_iff_not, Bool.not_eq_true', Bool.not_eq_false', beq_iff_eq, beq_eq_false_iff_ne, bne_eq_false_iff_eq, Bool.and_eq_true, Bool.not_eq_true, Bool.not_eq_false, Pl.cr, th3, th2, spE, devE] at *); grind)
    exact hv ▸ hp
  ·
    unfold rrange_c0 at h0
    rcases Bool.eq_false_or_eq_true (rrange_c1 n lo hi) with h1 | h1
    ·
      unfold rrange_c1 at h1
      have hp := rrange_p1 n lo hi ⟨⟨⟨⟨⟨trivial, h0⟩, h0⟩, h0⟩, h0⟩, h1⟩ w
      have hv : rrange_w1 n lo hi = (rrange_val n lo hi) := by
        clear hp
        unfold rrange_w1 rrange_val
        first | rfl | ((try simp only [bne_iff_ne, ne_eq, decide_eq_true_eq, decide_eq_false_iff_not, Bool.not_eq_true', Bool.not_eq_false', beq_iff_eq, beq_eq_false_iff_ne, bne_eq_false_iff_eq, Bool.and_eq_true, Bool.not_eq_true, Bool.not_eq_false, Pl.cr, th3, th2, spE, devE] at *); grind)
      exact hv ▸ hp
    ·
      unfold rrange_c1 at h1
      have hp := rrange_p2 n lo hi ⟨⟨⟨⟨⟨trivial, h0⟩, h0⟩, h0⟩, h0⟩, h1⟩ w
      have hv : rrange_w2 n lo hi = (rrange_val n lo hi) := by
        clear hp
        unfold rrange_w2 rrange_val
        first | rfl | ((try simp only [bne_iff_ne, ne_eq, decide_eq_true_eq, decide_eq_false_iff_not, Bool.not_eq_true', Bool.not_eq_false', beq_iff_eq, beq_eq_false_iff_ne, bne_eq_false_iff_eq, Bool.and_eq_true, Bool.not_eq_true, Bool.not_eq_false, Pl.cr, th3, th2, spE, devE] at *); grind)
      exact hv ▸ hp
theorem k_rrange : ConOk Tryz.prog c_rrange := fun ns hl => by
  have hl0 : ns.length = 3 := hl
  clear hl
  obtain ⟨n, ns0, rfl, hl1⟩ := len_cons hl0
  obtain ⟨lo, ns1, rfl, hl2⟩ := len_cons hl1
  obtain ⟨hi, ns2, rfl, hl3⟩ := len_cons hl2
  obtain rfl := len_nil hl3
  exact ⟨rfl, fun h w => rrange_any n lo hi h w⟩
end Go.Proofs.YthhgmnocigekaaaGreatDoor
end
section
set_option linter.all false
set_option maxRecDepth 1000000
set_option maxHeartbeats 2000000
open Go.RowKit
namespace Go.Proofs.YthhgmnocigekaaaGreatDoor
open Mini

def rcLosses_val (lf ll lq : Int) : Value := .int .i64 (lsE lf ll lq)
theorem rcLosses_X : FOkS Tryz.prog x_rcLosses := kAll_ok _ ⟨k_rrange, trivial⟩
theorem rcLosses_args (lf ll lq : Int) : (#[.agg #[.int .i64 lf, .int .i64 ll, .int .i64 lq]] : Array Value).toList.all (ground 8) = true := by kernel_rfl
theorem rcLosses_g0 : True := by first | rfl | trivial | decide | omega
theorem rcLosses_g1 : (true = true) := by first | rfl | trivial | decide | omega
theorem rcLosses_g2 : ((0 : Int) = (0 : Int)) := by first | rfl | trivial | decide | omega
def rcLosses_c0 (lf ll lq : Int) : Bool := ((Pl.cr lf (0 : Int) (1000 : Int)) != (0 : Int))
theorem rcLosses_g4 : ((1 : Int) = (1 : Int)) := by first | rfl | trivial | decide | omega
def rcLosses_c1 (lf ll lq : Int) : Bool := ((Pl.cr ll (0 : Int) (1000 : Int)) != (0 : Int))
theorem rcLosses_g7 : ((2 : Int) = (2 : Int)) := by first | rfl | trivial | decide | omega
def rcLosses_c2 (lf ll lq : Int) : Bool := ((Pl.cr lq (0 : Int) (1000 : Int)) != (0 : Int))
theorem rcLosses_g9 : (false = false) := by first | rfl | trivial | decide | omega
def rcLosses_w0 (lf ll lq : Int) : Value := .int .i64 (Pl.cr ll (0 : Int) (1000 : Int))
def rcLosses_r0 (lf ll lq : Int) : Prop := ((((((((((True ∧ (True)) ∧ (True)) ∧ (True)) ∧ ((true = true))) ∧ (((0 : Int) = (0 : Int)))) ∧ (rcLosses_c0 lf ll lq = false)) ∧ ((true = true))) ∧ (((1 : Int) = (1 : Int)))) ∧ (rcLosses_c1 lf ll lq = true)) ∧ (((1 : Int) = (1 : Int))))
theorem rcLosses_o0 (lf ll lq : Int) : obOf (rcLosses_e0 lf ll lq) = rcLosses_r0 lf ll lq := by kernel_rfl
theorem rcLosses_v0 (lf ll lq : Int) : resOf (rcLosses_e0 lf ll lq) = rcLosses_w0 lf ll lq := by kernel_rfl
theorem rcLosses_k0 (lf ll lq : Int) : cleanOf Tryz.prog.globals.size (rcLosses_e0 lf ll lq) = true := by kernel_rfl
theorem rcLosses_q0 (lf ll lq : Int) : rcLosses_e0 lf ll lq = evFS Tryz.prog x_rcLosses 1000 21 #[.agg #[.int .i64 lf, .int .i64 ll, .int .i64 lq]] (noTabs 4) ⟨[1, 0, 0, 1, 1, 1, 1], True⟩ := by
  delta rcLosses_e0
  exact Eq.refl _
theorem rcLosses_p0 (lf ll lq : Int) (h : rcLosses_r0 lf ll lq) (w : World) : Calls Tryz.prog 21 #[.agg #[.int .i64 lf, .int .i64 ll, .int .i64 lq]] w fun en w' => en = .returned (rcLosses_w0 lf ll lq) ∧ Below w.heap.size w w' := by
  have hv := rcLosses_v0 lf ll lq
  have hc := rcLosses_k0 lf ll lq
  have he := rcLosses_q0 lf ll lq
  have ho := rcLosses_o0 lf ll lq
  generalize rcLosses_e0 lf ll lq = r at *
  exact calls_way he gfol rcLosses_X hv rfl (rcLosses_args lf ll lq) hc ho h (bl w)
def rcLosses_w1 (lf ll lq : Int) : Value := .int .i64 (0 : Int)
def rcLosses_r1 (lf ll lq : Int) : Prop := (((((((((((((True ∧ (True)) ∧ (True)) ∧ (True)) ∧ ((true = true))) ∧ (((0 : Int) = (0 : Int)))) ∧ (rcLosses_c0 lf ll lq = false)) ∧ ((true = true))) ∧ (((1 : Int) = (1 : Int)))) ∧ (rcLosses_c1 lf ll lq = false)) ∧ ((true = true))) ∧ (((2 : Int) = (2 : Int)))) ∧ (rcLosses_c2 lf ll lq = false)) ∧ ((false = false)))
theorem rcLosses_o1 (lf ll lq : Int) : obOf (rcLosses_e1 lf ll lq) = rcLosses_r1 lf ll lq := by kernel_rfl
theorem rcLosses_v1 (lf ll lq : Int) : resOf (rcLosses_e1 lf ll lq) = rcLosses_w1 lf ll lq := by kernel_rfl
theorem rcLosses_k1 (lf ll lq : Int) : cleanOf Tryz.prog.globals.size (rcLosses_e1 lf ll lq) = true := by kernel_rfl
theorem rcLosses_q1 (lf ll lq : Int) : rcLosses_e1 lf ll lq = evFS Tryz.prog x_rcLosses 1000 21 #[.agg #[.int .i64 lf, .int .i64 ll, .int .i64 lq]] (noTabs 4) ⟨[1, 0, 0, 1, 1, 0, 1, 2, 0, 0], True⟩ := by
  delta rcLosses_e1
  exact Eq.refl _
theorem rcLosses_p1 (lf ll lq : Int) (h : rcLosses_r1 lf ll lq) (w : World) : Calls Tryz.prog 21 #[.agg #[.int .i64 lf, .int .i64 ll, .int .i64 lq]] w fun en w' => en = .returned (rcLosses_w1 lf ll lq) ∧ Below w.heap.size w w' := by
  have hv := rcLosses_v1 lf ll lq
  have hc := rcLosses_k1 lf ll lq
  have he := rcLosses_q1 lf ll lq
  have ho := rcLosses_o1 lf ll lq
  generalize rcLosses_e1 lf ll lq = r at *
  exact calls_way he gfol rcLosses_X hv rfl (rcLosses_args lf ll lq) hc ho h (bl w)
def rcLosses_w2 (lf ll lq : Int) : Value := .int .i64 (Pl.cr lf (0 : Int) (1000 : Int))
def rcLosses_r2 (lf ll lq : Int) : Prop := (((((((True ∧ (True)) ∧ (True)) ∧ (True)) ∧ ((true = true))) ∧ (((0 : Int) = (0 : Int)))) ∧ (rcLosses_c0 lf ll lq = true)) ∧ (((0 : Int) = (0 : Int))))
theorem rcLosses_o2 (lf ll lq : Int) : obOf (rcLosses_e2 lf ll lq) = rcLosses_r2 lf ll lq := by kernel_rfl
theorem rcLosses_v2 (lf ll lq : Int) : resOf (rcLosses_e2 lf ll lq) = rcLosses_w2 lf ll lq := by kernel_rfl
theorem rcLosses_k2 (lf ll lq : Int) : cleanOf Tryz.prog.globals.size (rcLosses_e2 lf ll lq) = true := by kernel_rfl
theorem rcLosses_q2 (lf ll lq : Int) : rcLosses_e2 lf ll lq = evFS Tryz.prog x_rcLosses 1000 21 #[.agg #[.int .i64 lf, .int .i64 ll, .int .i64 lq]] (noTabs 4) ⟨[1, 0, 1, 0], True⟩ := by
  delta rcLosses_e2
  exact Eq.refl _
theorem rcLosses_p2 (lf ll lq : Int) (h : rcLosses_r2 lf ll lq) (w : World) : Calls Tryz.prog 21 #[.agg #[.int .i64 lf, .int .i64 ll, .int .i64 lq]] w fun en w' => en = .returned (rcLosses_w2 lf ll lq) ∧ Below w.heap.size w w' := by
  have hv := rcLosses_v2 lf ll lq
  have hc := rcLosses_k2 lf ll lq
  have he := rcLosses_q2 lf ll lq
  have ho := rcLosses_o2 lf ll lq
  generalize rcLosses_e2 lf ll lq = r at *
  exact calls_way he gfol rcLosses_X hv rfl (rcLosses_args lf ll lq) hc ho h (bl w)
def rcLosses_w3 (lf ll lq : Int) : Value := .int .i64 (Pl.cr lq (0 : Int) (1000 : Int))
def rcLosses_r3 (lf ll lq : Int) : Prop := (((((((((((((True ∧ (True)) ∧ (True)) ∧ (True)) ∧ ((true = true))) ∧ (((0 : Int) = (0 : Int)))) ∧ (rcLosses_c0 lf ll lq = false)) ∧ ((true = true))) ∧ (((1 : Int) = (1 : Int)))) ∧ (rcLosses_c1 lf ll lq = false)) ∧ ((true = true))) ∧ (((2 : Int) = (2 : Int)))) ∧ (rcLosses_c2 lf ll lq = true)) ∧ (((2 : Int) = (2 : Int))))
theorem rcLosses_o3 (lf ll lq : Int) : obOf (rcLosses_e3 lf ll lq) = rcLosses_r3 lf ll lq := by kernel_rfl
theorem rcLosses_v3 (lf ll lq : Int) : resOf (rcLosses_e3 lf ll lq) = rcLosses_w3 lf ll lq := by kernel_rfl
theorem rcLosses_k3 (lf ll lq : Int) : cleanOf Tryz.prog.globals.size (rcLosses_e3 lf ll lq) = true := by kernel_rfl
theorem rcLosses_q3 (lf ll lq : Int) : rcLosses_e3 lf ll lq = evFS Tryz.prog x_rcLosses 1000 21 #[.agg #[.int .i64 lf, .int .i64 ll, .int .i64 lq]] (noTabs 4) ⟨[1, 0, 0, 1, 1, 0, 1, 2, 1, 2], True⟩ := by
  delta rcLosses_e3
  exact Eq.refl _
theorem rcLosses_p3 (lf ll lq : Int) (h : rcLosses_r3 lf ll lq) (w : World) : Calls Tryz.prog 21 #[.agg #[.int .i64 lf, .int .i64 ll, .int .i64 lq]] w fun en w' => en = .returned (rcLosses_w3 lf ll lq) ∧ Below w.heap.size w w' := by
  have hv := rcLosses_v3 lf ll lq
  have hc := rcLosses_k3 lf ll lq
  have he := rcLosses_q3 lf ll lq
  have ho := rcLosses_o3 lf ll lq
  generalize rcLosses_e3 lf ll lq = r at *
  exact calls_way he gfol rcLosses_X hv rfl (rcLosses_args lf ll lq) hc ho h (bl w)
theorem rcLosses_any (lf ll lq : Int) (hpre : True) (w : World) : Calls Tryz.prog 21 #[.agg #[.int .i64 lf, .int .i64 ll, .int .i64 lq]] w fun en w' => en = .returned (rcLosses_val lf ll lq) ∧ Below w.heap.size w w' := by
  rcases Bool.eq_false_or_eq_true (rcLosses_c0 lf ll lq) with h0 | h0
  ·
    unfold rcLosses_c0 at h0
    have hp := rcLosses_p2 lf ll lq ⟨⟨⟨⟨⟨⟨⟨trivial, rcLosses_g0⟩, rcLosses_g0⟩, rcLosses_g0⟩, rcLosses_g1⟩, rcLosses_g2⟩, h0⟩, rcLosses_g2⟩ w
    have hv : rcLosses_w2 lf ll lq = (rcLosses_val lf ll lq) := by
      clear hp
      unfold rcLosses_w2 rcLosses_val
      first | rfl | ((try simp only [bne_iff_ne, ne_eq, decide_eq_true_eq, decide_eq_false_iff_not, Bool.not_eq_true', Bool.not_eq_false', beq_iff_eq, beq_eq_false_iff_ne, bne_eq_false_iff_eq, Bool.and_eq_true, Bool.not_eq_true, Bool.not_eq_false, Pl.cr, th3, th2, lsE, pwE] at *); grind)
    exact hv ▸ hp
  ·
    unfold rcLosses_c0 at h0
    rcases Bool.eq_false_or_eq_true (rcLosses_c1 lf ll lq) with h1 | h1
    ·
      unfold rcLosses_c1 at h1
      have hp := rcLosses_p0 lf ll lq ⟨⟨⟨⟨⟨⟨⟨⟨⟨⟨trivial, rcLosses_g0⟩, rcLosses_g0⟩, rcLosses_g0⟩, rcLosses_g1⟩, rcLosses_g2⟩, h0⟩, rcLosses_g1⟩, rcLosses_g4⟩, h1⟩, rcLosses_g4⟩ w
      have hv : rcLosses_w0 lf ll lq = (rcLosses_val lf ll lq) := by
        clear hp
        unfold rcLosses_w0 rcLosses_val
        first | rfl | ((try simp only [bne_iff_ne, ne_eq, decide_eq_true_eq, decide_eq_false_iff_not, Bool.not_eq_true', Bool.not_eq_false', beq_iff_eq, beq_eq_false_iff_ne, bne_eq_false_iff_eq, Bool.and_eq_true, Bool.not_eq_true, Bool.not_eq_false, Pl.cr, th3, th2, lsE, pwE] at *); grind)
      exact hv ▸ hp
    ·
      unfold rcLosses_c1 at h1
      rcases Bool.eq_false_or_eq_true (rcLosses_c2 lf ll lq) with h2 | h2
      ·
        unfold rcLosses_c2 at h2
        have hp := rcLosses_p3 lf ll lq ⟨⟨⟨⟨⟨⟨⟨⟨⟨⟨⟨⟨⟨trivial, rcLosses_g0⟩, rcLosses_g0⟩, rcLosses_g0⟩, rcLosses_g1⟩, rcLosses_g2⟩, h0⟩, rcLosses_g1⟩, rcLosses_g4⟩, h1⟩, rcLosses_g1⟩, rcLosses_g7⟩, h2⟩, rcLosses_g7⟩ w
        have hv : rcLosses_w3 lf ll lq = (rcLosses_val lf ll lq) := by
          clear hp
          unfold rcLosses_w3 rcLosses_val
          first | rfl | ((try simp only [bne_iff_ne, ne_eq, decide_eq_true_eq, decide_eq_false_iff_not, Bool.not_eq_true', Bool.not_eq_false', beq_iff_eq, beq_eq_false_iff_ne, bne_eq_false_iff_eq, Bool.and_eq_true, Bool.not_eq_true, Bool.not_eq_false, Pl.cr, th3, th2, lsE, pwE] at *); grind)
        exact hv ▸ hp
      ·
        unfold rcLosses_c2 at h2
        have hp := rcLosses_p1 lf ll lq ⟨⟨⟨⟨⟨⟨⟨⟨⟨⟨⟨⟨⟨trivial, rcLosses_g0⟩, rcLosses_g0⟩, rcLosses_g0⟩, rcLosses_g1⟩, rcLosses_g2⟩, h0⟩, rcLosses_g1⟩, rcLosses_g4⟩, h1⟩, rcLosses_g1⟩, rcLosses_g7⟩, h2⟩, rcLosses_g9⟩ w
        have hv : rcLosses_w1 lf ll lq = (rcLosses_val lf ll lq) := by
          clear hp
          unfold rcLosses_w1 rcLosses_val
          first | rfl | ((try simp only [bne_iff_ne, ne_eq, decide_eq_true_eq, decide_eq_false_iff_not, Bool.not_eq_true', Bool.not_eq_false', beq_iff_eq, beq_eq_false_iff_ne, bne_eq_false_iff_eq, Bool.and_eq_true, Bool.not_eq_true, Bool.not_eq_false, Pl.cr, th3, th2, lsE, pwE] at *); grind)
        exact hv ▸ hp
theorem k_rcLosses : ConOk Tryz.prog c_rcLosses := fun ns hl => by
  have hl0 : ns.length = 3 := hl
  clear hl
  obtain ⟨lf, ns0, rfl, hl1⟩ := len_cons hl0
  obtain ⟨ll, ns1, rfl, hl2⟩ := len_cons hl1
  obtain ⟨lq, ns2, rfl, hl3⟩ := len_cons hl2
  obtain rfl := len_nil hl3
  exact ⟨rfl, fun h w => rcLosses_any lf ll lq h w⟩
end Go.Proofs.YthhgmnocigekaaaGreatDoor
end
section
set_option linter.all false
set_option maxRecDepth 1000000
open Go.RowKit
namespace Go.Proofs.YthhgmnocigekaaaGreatDoor
open Mini
noncomputable def rcpX : Code := loopOf Tryz.prog 18
noncomputable def rcpK : CallS := kAll [c_rrange, c_rcLosses]
def rcpA (lf ll lq : Int) (n c i : Nat) (r : Int) : MA := MA.ofL 30 [.chan none, .slice (some ⟨4, 0, none⟩) n c, .chan none, .chan none, .int .i64 r, .chan none, .int .i64 ((i : Nat) : Int), .chan none, .chan none, .chan none, .chan none, .chan none, .chan none, .chan none, .chan none, .chan none, .chan none, .chan none, .chan none, .chan none, .chan none, .chan none, .chan none, .chan none, .chan none, .chan none, .chan none, .chan none, .chan none, .chan none] []
def rcpArgs (lf ll lq : Int) (n c : Nat) : Array Value := #[.agg #[.int .i64 lf, .int .i64 ll, .int .i64 lq], .slice (some ⟨4, 0, none⟩) n c]
noncomputable def rcpR (lf ll lq : Int) (n c : Nat) (g : Nat → Nat → Int) (e : TypeId) (opn : Bool) (sz : Nat) (ro : Bool) (i : Nat) : Option OutCS := evCRS Tryz.prog rcpK 1000 none false rcpX (rcpA lf ll lq n c i 0) (wS 4 [rowI 1 n g e opn sz ro, .cells [.int .i64 lf, .int .i64 ll, .int .i64 lq] 23 false 0 false]) ⟨[1, .row i 0, .row i 0, 0, .azz (.int .i64 ((i + 1 : Nat) : Int))], True⟩
noncomputable def rcpB (lf ll lq : Int) (n c : Nat) (g : Nat → Nat → Int) (e : TypeId) (opn : Bool) (sz : Nat) (ro : Bool) (i : Nat) : Option OutCS := evCRS Tryz.prog rcpK 1000 none false rcpX (rcpA lf ll lq n c i 0) (wS 4 [rowI 1 n g e opn sz ro, .cells [.int .i64 lf, .int .i64 ll, .int .i64 lq] 23 false 0 false]) ⟨[1, .row i 0, .row i 0, 1], True⟩
noncomputable def rcpE (lf ll lq : Int) (n c : Nat) (g : Nat → Nat → Int) (e : TypeId) (opn : Bool) (sz : Nat) (ro : Bool) (i : Nat) : Option OutCS := evCRS Tryz.prog rcpK 1000 none false rcpX (rcpA lf ll lq n c i 0) (wS 4 [rowI 1 n g e opn sz ro, .cells [.int .i64 lf, .int .i64 ll, .int .i64 lq] 23 false 0 false]) ⟨[0], True⟩
noncomputable def rcpF_0 (lf ll lq : Int) (n c : Nat) (g : Nat → Nat → Int) (e : TypeId) (opn : Bool) (sz : Nat) (ro : Bool) : Option OutS := evFS Tryz.prog rcpK 1000 18 (rcpArgs lf ll lq n c) (wS 4 [rowI 1 n g e opn sz ro]) ⟨[1], True⟩
noncomputable def rcpF_1 (lf ll lq : Int) (n c : Nat) (g : Nat → Nat → Int) (e : TypeId) (opn : Bool) (sz : Nat) (ro : Bool) : Option OutS := evFS Tryz.prog rcpK 1000 18 (rcpArgs lf ll lq n c) (wS 4 [rowI 1 n g e opn sz ro]) ⟨[0, 1], True⟩
noncomputable def rcpF_ret (lf ll lq : Int) (n c : Nat) (g : Nat → Nat → Int) (e : TypeId) (opn : Bool) (sz : Nat) (ro : Bool) (i : Nat) (r : Int) : Option OutS := evFS Tryz.prog rcpK 1000 18 (rcpArgs lf ll lq n c) (wS 4 [rowI 1 n g e opn sz ro]) ⟨[0, 0, .lp 82 (rcpA lf ll lq n c 0 0) 4 [rowI 1 n g e opn sz ro, .cells [.int .i64 lf, .int .i64 ll, .int .i64 lq] 23 false 0 false] .ret (rcpA lf ll lq n c i r) [rowI 1 n g e opn sz ro, .cells [.int .i64 lf, .int .i64 ll, .int .i64 lq] 23 false 0 false] 16 0], True⟩
noncomputable def rcpF_end (lf ll lq : Int) (n c : Nat) (g : Nat → Nat → Int) (e : TypeId) (opn : Bool) (sz : Nat) (ro : Bool) (i : Nat) (r : Int) : Option OutS := evFS Tryz.prog rcpK 1000 18 (rcpArgs lf ll lq n c) (wS 4 [rowI 1 n g e opn sz ro]) ⟨[0, 0, .lp 82 (rcpA lf ll lq n c 0 0) 4 [rowI 1 n g e opn sz ro, .cells [.int .i64 lf, .int .i64 ll, .int .i64 lq] 23 false 0 false] (.exit 0) (rcpA lf ll lq n c i r) [rowI 1 n g e opn sz ro, .cells [.int .i64 lf, .int .i64 ll, .int .i64 lq] 23 false 0 false] 16 0], True⟩
theorem rcpK_ok : FOkS Tryz.prog rcpK := kAll_ok _ ⟨k_rrange, k_rcLosses, trivial⟩
section
variable (lf ll lq : Int) (n c : Nat) (g : Nat → Nat → Int) (e : TypeId) (opn : Bool) (sz : Nat) (ro : Bool) (i : Nat) (r : Int)
theorem rcpR_eq : seenF 4 2 82 (rcpR lf ll lq n c g e opn sz ro i) = some (.normal, rcpA lf ll lq n c (i + 1) 0, [rowI 1 n g e opn sz ro, .cells [.int .i64 lf, .int .i64 ll, .int .i64 lq] 23 false 0 false], 16, 0, ⟨[], ((((((True ∧ ((decide ((((i : Nat)) : Int) < (((n : Nat)) : Int))) = true)) ∧ (((((i : Nat)) : Int) = (Int.ofNat i)) ∧ (i < n))) ∧ (((0 + (i * 1)) = ((i * 1) + 0)) ∧ (i < n))) ∧ True) ∧ (((Pl.cr (g i 0) (0 : Int) (1000 : Int)) != (0 : Int)) = false)) ∧ (((.int .i64 (IntKind.i64.wrap ((((i : Nat)) : Int) + (1 : Int)))) : Value) = (.int .i64 ((((i + 1) : Nat)) : Int))))⟩) := by kernel_rfl
theorem rcpB_eq : seenF 4 2 82 (rcpB lf ll lq n c g e opn sz ro i) = some (.ret, rcpA lf ll lq n c i (pwE (g i 0)), [rowI 1 n g e opn sz ro, .cells [.int .i64 lf, .int .i64 ll, .int .i64 lq] 23 false 0 false], 16, 0, ⟨[], (((((True ∧ ((decide ((((i : Nat)) : Int) < (((n : Nat)) : Int))) = true)) ∧ (((((i : Nat)) : Int) = (Int.ofNat i)) ∧ (i < n))) ∧ (((0 + (i * 1)) = ((i * 1) + 0)) ∧ (i < n))) ∧ True) ∧ (((Pl.cr (g i 0) (0 : Int) (1000 : Int)) != (0 : Int)) = true))⟩) := by kernel_rfl
theorem rcpE_eq : seenF 4 2 82 (rcpE lf ll lq n c g e opn sz ro i) = some ((.exit (0 : Nat)), rcpA lf ll lq n c i 0, [rowI 1 n g e opn sz ro, .cells [.int .i64 lf, .int .i64 ll, .int .i64 lq] 23 false 0 false], 0, 0, ⟨[], (True ∧ ((decide ((((i : Nat)) : Int) < (((n : Nat)) : Int))) = false))⟩) := by kernel_rfl
theorem rcpA_keep : allKeep (4 + 2) (rcpA lf ll lq n c i r) 30 = true := by kernel_rfl
theorem rcpB_keep : ∀ o, o ∈ [rowI 1 n g e opn sz ro, .cells [.int .i64 lf, .int .i64 ll, .int .i64 lq] 23 false 0 false] → keepO (below (4 + 2)) o := fun o ho => by
  simp only [List.mem_cons, List.not_mem_nil, or_false] at ho
  rcases ho with rfl | rfl
  · exact rowI_keep _ _ _ _ _ _ _
  · rfl
theorem rcpF_0eq : rcpF_0 lf ll lq n c g e opn sz ro = some ((.int .i64 (lsE lf ll lq)), wldOf (rcpF_0 lf ll lq n c g e opn sz ro), 0, 0, ⟨[], ((True ∧ True) ∧ (((lsE lf ll lq) != (0 : Int)) = true))⟩) := by kernel_rfl
theorem rcpF_1eq : rcpF_1 lf ll lq n c g e opn sz ro = some ((.int .i64 (5 : Int)), wldOf (rcpF_1 lf ll lq n c g e opn sz ro), 0, 0, ⟨[], (((True ∧ True) ∧ (((lsE lf ll lq) != (0 : Int)) = false)) ∧ ((decide ((((n : Nat)) : Int) > (256 : Int))) = true))⟩) := by kernel_rfl
theorem rcpF_reteq : rcpF_ret lf ll lq n c g e opn sz ro i r = some ((.int .i64 r), wldOf (rcpF_ret lf ll lq n c g e opn sz ro i r), 16, 0, ⟨[], ((((True ∧ True) ∧ (((lsE lf ll lq) != (0 : Int)) = false)) ∧ ((decide ((((n : Nat)) : Int) > (256 : Int))) = false)) ∧ ((((rcpA lf ll lq n c (0 : Nat) (0 : Int)) = (rcpA lf ll lq n c (0 : Nat) (0 : Int))) ∧ ((6 = (4 + 2)) ∧ ((HAppend.hAppend (List.replicate (4 : Nat) MObj.hole) ((rowI (1 : Nat) n g e opn sz ro) :: ((MObj.cells ((Value.int .i64 lf) :: ((Value.int .i64 ll) :: ((Value.int .i64 lq) :: []))) (23 : Nat) false (0 : Nat) false) :: []))) = (HAppend.hAppend (List.replicate (4 : Nat) MObj.hole) ((rowI (1 : Nat) n g e opn sz ro) :: ((MObj.cells ((Value.int .i64 lf) :: ((Value.int .i64 ll) :: ((Value.int .i64 lq) :: []))) (23 : Nat) false (0 : Nat) false) :: [])))))) ∧ SndC Tryz.prog none (.loop rcpX) (rcpA lf ll lq n c 0 0).act (wS 4 [rowI 1 n g e opn sz ro, .cells [.int .i64 lf, .int .i64 ll, .int .i64 lq] 23 false 0 false]) .ret (rcpA lf ll lq n c i r).act (wS 4 [rowI 1 n g e opn sz ro, .cells [.int .i64 lf, .int .i64 ll, .int .i64 lq] 23 false 0 false]) 16 0))⟩) := by kernel_rfl
theorem rcpF_endeq : rcpF_end lf ll lq n c g e opn sz ro i r = some ((.int .i64 (0 : Int)), wldOf (rcpF_end lf ll lq n c g e opn sz ro i r), 16, 0, ⟨[], ((((True ∧ True) ∧ (((lsE lf ll lq) != (0 : Int)) = false)) ∧ ((decide ((((n : Nat)) : Int) > (256 : Int))) = false)) ∧ ((((rcpA lf ll lq n c (0 : Nat) (0 : Int)) = (rcpA lf ll lq n c (0 : Nat) (0 : Int))) ∧ ((6 = (4 + 2)) ∧ ((HAppend.hAppend (List.replicate (4 : Nat) MObj.hole) ((rowI (1 : Nat) n g e opn sz ro) :: ((MObj.cells ((Value.int .i64 lf) :: ((Value.int .i64 ll) :: ((Value.int .i64 lq) :: []))) (23 : Nat) false (0 : Nat) false) :: []))) = (HAppend.hAppend (List.replicate (4 : Nat) MObj.hole) ((rowI (1 : Nat) n g e opn sz ro) :: ((MObj.cells ((Value.int .i64 lf) :: ((Value.int .i64 ll) :: ((Value.int .i64 lq) :: []))) (23 : Nat) false (0 : Nat) false) :: [])))))) ∧ SndC Tryz.prog none (.loop rcpX) (rcpA lf ll lq n c 0 0).act (wS 4 [rowI 1 n g e opn sz ro, .cells [.int .i64 lf, .int .i64 ll, .int .i64 lq] 23 false 0 false]) (.exit 0) (rcpA lf ll lq n c i r).act (wS 4 [rowI 1 n g e opn sz ro, .cells [.int .i64 lf, .int .i64 ll, .int .i64 lq] 23 false 0 false]) 16 0))⟩) := by kernel_rfl
variable {n i}
theorem rcp_go (hn : (n : Int) ≤ 9223372036854775807) (hi : i < n) (h0 : pwE (g i 0) = 0) : SndC Tryz.prog none rcpX (rcpA lf ll lq n c i 0).act (wS 4 [rowI 1 n g e opn sz ro, .cells [.int .i64 lf, .int .i64 ll, .int .i64 lq] 23 false 0 false]) .normal (rcpA lf ll lq n c (i + 1) 0).act (wS 4 [rowI 1 n g e opn sz ro, .cells [.int .i64 lf, .int .i64 ll, .int .i64 lq] 23 false 0 false]) 16 0 :=
  wayF_ok0 smx rcpK_ok sng (rcpR_eq lf ll lq n c g e opn sz ro i) (by
    repeat' (first | (with_reducible assumption) | apply And.intro)
    all_goals first | trivial | rfl | assumption | exact decide_eq_true (by omega) | exact decide_eq_false (by omega) | exact bne_iff_ne.2 (by assumption) | exact bne_eq_false_iff_eq.2 (by assumption) | exact beq_iff_eq.2 (by assumption) | exact beq_eq_false_iff_ne.2 (by assumption) | exact wnextV (by assumption) (by omega) | omega) rfl (rcpA_keep lf ll lq n c i 0) (rcpB_keep lf ll lq n g e opn sz ro) (rcpB_keep lf ll lq n g e opn sz ro) (by exact (by decide : ∀ b, b < 6 → Nat.testBit 0 b = false)) (by exact (by decide : ∀ b, b < 6 → Nat.testBit 16 b = true → Nat.testBit 16 b = true))
theorem rcp_bad (hn : (n : Int) ≤ 9223372036854775807) (hi : i < n) (h0 : ¬ (pwE (g i 0) = 0)) : SndC Tryz.prog none rcpX (rcpA lf ll lq n c i 0).act (wS 4 [rowI 1 n g e opn sz ro, .cells [.int .i64 lf, .int .i64 ll, .int .i64 lq] 23 false 0 false]) .ret (rcpA lf ll lq n c i (pwE (g i 0))).act (wS 4 [rowI 1 n g e opn sz ro, .cells [.int .i64 lf, .int .i64 ll, .int .i64 lq] 23 false 0 false]) 16 0 :=
  wayF_ok0 smx rcpK_ok sng (rcpB_eq lf ll lq n c g e opn sz ro i) (by
    repeat' (first | (with_reducible assumption) | apply And.intro)
    all_goals first | trivial | rfl | assumption | exact decide_eq_true (by omega) | exact decide_eq_false (by omega) | exact bne_iff_ne.2 (by assumption) | exact bne_eq_false_iff_eq.2 (by assumption) | exact beq_iff_eq.2 (by assumption) | exact beq_eq_false_iff_ne.2 (by assumption) | exact wnextV (by assumption) (by omega) | omega) rfl (rcpA_keep lf ll lq n c i 0) (rcpB_keep lf ll lq n g e opn sz ro) (rcpB_keep lf ll lq n g e opn sz ro) (by exact (by decide : ∀ b, b < 6 → Nat.testBit 0 b = false)) (by exact (by decide : ∀ b, b < 6 → Nat.testBit 16 b = true → Nat.testBit 16 b = true))
theorem rcp_end (hn : (n : Int) ≤ 9223372036854775807) (hi : ¬ i < n) : SndC Tryz.prog none rcpX (rcpA lf ll lq n c i 0).act (wS 4 [rowI 1 n g e opn sz ro, .cells [.int .i64 lf, .int .i64 ll, .int .i64 lq] 23 false 0 false]) (.exit 0) (rcpA lf ll lq n c i 0).act (wS 4 [rowI 1 n g e opn sz ro, .cells [.int .i64 lf, .int .i64 ll, .int .i64 lq] 23 false 0 false]) 16 0 :=
  wayF_ok0 smx rcpK_ok sng (rcpE_eq lf ll lq n c g e opn sz ro i) (by
    repeat' (first | (with_reducible assumption) | apply And.intro)
    all_goals first | trivial | rfl | assumption | exact decide_eq_true (by omega) | exact decide_eq_false (by omega) | exact bne_iff_ne.2 (by assumption) | exact bne_eq_false_iff_eq.2 (by assumption) | exact beq_iff_eq.2 (by assumption) | exact beq_eq_false_iff_ne.2 (by assumption) | exact wnextV (by assumption) (by omega) | omega) rfl (rcpA_keep lf ll lq n c i 0) (rcpB_keep lf ll lq n g e opn sz ro) (rcpB_keep lf ll lq n g e opn sz ro) (by exact (by decide : ∀ b, b < 6 → Nat.testBit 0 b = false)) (by exact (by decide : ∀ b, b < 6 → Nat.testBit 0 b = true → Nat.testBit 16 b = true))
end
def rcpVal (lf ll lq : Int) (n : Nat) (g : Nat → Nat → Int) : Int := (if lsE lf ll lq ≠ 0 then lsE lf ll lq else (if 256 < n then 5 else feN (fun i => pwE (g i 0)) n 0))
theorem rcp_sndF (lf ll lq : Int) (n c : Nat) (g : Nat → Nat → Int) (e : TypeId) (opn : Bool) (sz : Nat) (ro : Bool) (hn : (n : Int) ≤ 9223372036854775807) : SndF Tryz.prog 18 (rcpArgs lf ll lq n c) (wS 4 [rowI 1 n g e opn sz ro]) (.int .i64 (rcpVal lf ll lq n g)) (wS 4 [rowI 1 n g e opn sz ro]) 16 0 := by
  unfold rcpVal
  by_cases hc0 : lsE lf ll lq ≠ 0
  · rw [if_pos hc0]
    exact (SndF.tidy0 (l := [rowI 1 n g e opn sz ro]) ((evFS_ok smx rcpK_ok 1000 _ _ _ _ _ _ _ _ _ (show evFS _ _ _ _ _ _ _ = _ from rcpF_0eq lf ll lq n c g e opn sz ro)).2 (by
      repeat' (first | (with_reducible assumption) | apply And.intro)
      all_goals first | trivial | rfl | assumption | exact decide_eq_true (by omega) | exact decide_eq_false (by omega) | exact bne_iff_ne.2 (by assumption) | exact bne_eq_false_iff_eq.2 (by assumption) | exact beq_iff_eq.2 (by assumption) | exact beq_eq_false_iff_ne.2 (by assumption) | exact wnextV (by assumption) (by omega) | omega)) sng rowI_keep1 (by exact (by decide : ∀ b, b < 5 → Nat.testBit 0 b = false)) (by kernel_rfl) rfl).mask (by exact (by decide : ∀ b, b < 5 → Nat.testBit 0 b = true → Nat.testBit 16 b = true)) (fun b _ => rfl)
  rw [if_neg hc0]
  try simp only [ne_eq, Decidable.not_not] at hc0
  by_cases hc1 : 256 < n
  · rw [if_pos hc1]
    exact (SndF.tidy0 (l := [rowI 1 n g e opn sz ro]) ((evFS_ok smx rcpK_ok 1000 _ _ _ _ _ _ _ _ _ (show evFS _ _ _ _ _ _ _ = _ from rcpF_1eq lf ll lq n c g e opn sz ro)).2 (by
      repeat' (first | (with_reducible assumption) | apply And.intro)
      all_goals first | trivial | rfl | assumption | exact decide_eq_true (by omega) | exact decide_eq_false (by omega) | exact bne_iff_ne.2 (by assumption) | exact bne_eq_false_iff_eq.2 (by assumption) | exact beq_iff_eq.2 (by assumption) | exact beq_eq_false_iff_ne.2 (by assumption) | exact wnextV (by assumption) (by omega) | omega)) sng rowI_keep1 (by exact (by decide : ∀ b, b < 5 → Nat.testBit 0 b = false)) (by kernel_rfl) rfl).mask (by exact (by decide : ∀ b, b < 5 → Nat.testBit 0 b = true → Nat.testBit 16 b = true)) (fun b _ => rfl)
  rw [if_neg hc1]
  try simp only [ne_eq, Decidable.not_not] at hc1
  rcases loop_split (A := fun i => (rcpA lf ll lq n c i 0).act) (S := fun _ => (wS 4 [rowI 1 n g e opn sz ro, .cells [.int .i64 lf, .int .i64 ll, .int .i64 lq] 23 false 0 false])) (A1 := fun i => (rcpA lf ll lq n c i (pwE (g i 0))).act) (S1 := fun _ => (wS 4 [rowI 1 n g e opn sz ro, .cells [.int .i64 lf, .int .i64 ll, .int .i64 lq] 23 false 0 false])) (good := fun i => pwE (g i 0) = 0) (fun i => Decidable.em _) n
    (fun i hi h0 => rcp_go lf ll lq c g e opn sz ro hn hi h0) (fun i hi h0 => rcp_bad lf ll lq c g e opn sz ro hn hi h0) (rcp_end lf ll lq c g e opn sz ro hn (Nat.lt_irrefl n)) (by simp) (by simp) with ⟨h1, h2⟩ | ⟨j, hj, h1, h3, h2⟩
  · rw [feN_all fun k _ hk => h1 k (by omega)]
    exact (SndF.tidy0 (l := [rowI 1 n g e opn sz ro]) ((evFS_ok smx rcpK_ok 1000 _ _ _ _ _ _ _ _ _ (show evFS _ _ _ _ _ _ _ = _ from rcpF_endeq lf ll lq n c g e opn sz ro n 0)).2 (by
      repeat' (first | (with_reducible assumption) | apply And.intro)
      all_goals first | trivial | rfl | assumption | exact decide_eq_true (by omega) | exact decide_eq_false (by omega) | exact bne_iff_ne.2 (by assumption) | exact bne_eq_false_iff_eq.2 (by assumption) | exact beq_iff_eq.2 (by assumption) | exact beq_eq_false_iff_ne.2 (by assumption) | exact wnextV (by assumption) (by omega) | omega)) sng rowI_keep1 (by exact (by decide : ∀ b, b < 5 → Nat.testBit 0 b = false)) (by kernel_rfl) rfl).mask (by exact (by decide : ∀ b, b < 5 → Nat.testBit 16 b = true → Nat.testBit 16 b = true)) (fun b _ => rfl)
  · rw [feN_first (Nat.zero_le j) (by omega) (fun k _ hk => h1 k hk) h3]
    exact (SndF.tidy0 (l := [rowI 1 n g e opn sz ro]) ((evFS_ok smx rcpK_ok 1000 _ _ _ _ _ _ _ _ _ (show evFS _ _ _ _ _ _ _ = _ from rcpF_reteq lf ll lq n c g e opn sz ro j ((fun i => pwE (g i 0)) j))).2 (by
      repeat' (first | (with_reducible assumption) | apply And.intro)
      all_goals first | trivial | rfl | assumption | exact decide_eq_true (by omega) | exact decide_eq_false (by omega) | exact bne_iff_ne.2 (by assumption) | exact bne_eq_false_iff_eq.2 (by assumption) | exact beq_iff_eq.2 (by assumption) | exact beq_eq_false_iff_ne.2 (by assumption) | exact wnextV (by assumption) (by omega) | omega)) sng rowI_keep1 (by exact (by decide : ∀ b, b < 5 → Nat.testBit 0 b = false)) (by kernel_rfl) rfl).mask (by exact (by decide : ∀ b, b < 5 → Nat.testBit 16 b = true → Nat.testBit 16 b = true)) (fun b _ => rfl)
def kRcp : CallS := fun f xs s q => match decide (f = 18) with
  | true => match xs.toList with
    | [.agg ⟨[.int .i64 lf, .int .i64 ll, .int .i64 lq]⟩, .slice (some ⟨b, 0, none⟩) n c] => match Nat.ble 4 b, rowK 1 .i64 s b n with
      | true, some (g, _, _, _, _, p) => some (.int .i64 (rcpVal lf ll lq n g), s, 2 ^ b, 0, ⟨q.rest, q.ob ∧ (p ∧ ((n : Int) ≤ 9223372036854775807))⟩)
      | _, _ => none
    | _ => none
  | false => none
theorem kRcp_ok : FOkS Tryz.prog kRcp := fun f xs s q u s1 R W q1 he => by
  unfold kRcp at he
  split at he
  · rename_i hf
    have hf := of_decide_eq_true hf
    subst hf
    split at he
    · rename_i lf ll lq b n c hx0
      split at he
      · rename_i g e opn sz ro p hb hr
        have hb := Nat.le_of_ble_eq_true hb
        have hxs : xs = #[.agg #[.int .i64 lf, .int .i64 ll, .int .i64 lq], .slice (some ⟨b, 0, none⟩) n c] := by apply Array.ext'; exact hx0
        subst hxs
        cases he
        refine ⟨fun hq => hq.1, fun hq => ?_⟩
        obtain ⟨hp, hn⟩ := hq.2
        obtain ⟨l1, w1⟩ := rowK_wo hr hp
        exact SndF.row (N := 4) sng (rcp_sndF lf ll lq n c g e opn sz ro hn) rfl hb l1 w1 (fun f _ hf => wvs_two (ground_wv (n := 8) rfl) (slice_wv hf))
      · cases he
    · cases he
  · cases he
end Go.Proofs.YthhgmnocigekaaaGreatDoor
end
section
set_option linter.all false
set_option maxRecDepth 1000000
set_option maxHeartbeats 2000000
open Go.RowKit
namespace Go.Proofs.YthhgmnocigekaaaGreatDoor
open Mini

def loss_val (lf ll lq p : Int) : Value := .agg #[.int .i64 (lLo lf ll lq p), .int .i64 (lHi lf ll lq p)]
theorem loss_X : FOkS Tryz.prog x_loss := noXS_ok
theorem loss_args (lf ll lq p : Int) : (#[.agg #[.int .i64 lf, .int .i64 ll, .int .i64 lq], .int .i64 p] : Array Value).toList.all (ground 8) = true := by kernel_rfl
def loss_c0 (lf ll lq p : Int) : Bool := (p == (0 : Int))
theorem loss_g2 : (true = true) := by first | rfl | trivial | decide | omega
theorem loss_g3 : ((0 : Int) = (0 : Int)) := by first | rfl | trivial | decide | omega
theorem loss_g4 : ((1 : Int) = (1 : Int)) := by first | rfl | trivial | decide | omega
theorem loss_g5 : ((2 : Int) = (2 : Int)) := by first | rfl | trivial | decide | omega
theorem loss_g6 : (false = false) := by first | rfl | trivial | decide | omega
def loss_w0 (lf ll lq p : Int) : Value := .agg #[.int .i64 (0 : Int), .int .i64 (0 : Int)]
def loss_r0 (lf ll lq p : Int) : Prop := (True ∧ (loss_c0 lf ll lq p = true))
theorem loss_o0 (lf ll lq p : Int) : obOf (loss_e0 lf ll lq p) = loss_r0 lf ll lq p := by kernel_rfl
theorem loss_v0 (lf ll lq p : Int) : resOf (loss_e0 lf ll lq p) = loss_w0 lf ll lq p := by kernel_rfl
theorem loss_k0 (lf ll lq p : Int) : cleanOf Tryz.prog.globals.size (loss_e0 lf ll lq p) = true := by kernel_rfl
theorem loss_q0 (lf ll lq p : Int) : loss_e0 lf ll lq p = evFS Tryz.prog x_loss 1000 57 #[.agg #[.int .i64 lf, .int .i64 ll, .int .i64 lq], .int .i64 p] (noTabs 4) ⟨[1], True⟩ := by
  delta loss_e0
  exact Eq.refl _
theorem loss_p0 (lf ll lq p : Int) (h : loss_r0 lf ll lq p) (w : World) : Calls Tryz.prog 57 #[.agg #[.int .i64 lf, .int .i64 ll, .int .i64 lq], .int .i64 p] w fun en w' => en = .returned (loss_w0 lf ll lq p) ∧ Below w.heap.size w w' := by
  have hv := loss_v0 lf ll lq p
  have hc := loss_k0 lf ll lq p
  have he := loss_q0 lf ll lq p
  have ho := loss_o0 lf ll lq p
  generalize loss_e0 lf ll lq p = r at *
  exact calls_way he gfol loss_X hv rfl (loss_args lf ll lq p) hc ho h (bl w)
def loss_w1 (lf ll lq p : Int) : Value := .agg #[.int .i64 (IntKind.i64.wrap (Int.tdiv (IntKind.i64.wrap ((IntKind.i64.wrap ((IntKind.i64.wrap ((0 : Int) + (IntKind.i64.wrap (lf * (1048576 : Int))))) + (IntKind.i64.wrap (ll * (IntKind.i64.wrap ((1024 : Int) * p)))))) + (IntKind.i64.wrap (lq * (IntKind.i64.wrap (p * p)))))) (1048576 : Int))), .int .i64 (IntKind.i64.wrap (Int.tdiv (IntKind.i64.wrap ((IntKind.i64.wrap ((IntKind.i64.wrap ((IntKind.i64.wrap ((IntKind.i64.wrap ((0 : Int) + (IntKind.i64.wrap (lf * (1048576 : Int))))) + (IntKind.i64.wrap (ll * (IntKind.i64.wrap ((1024 : Int) * p)))))) + (IntKind.i64.wrap (lq * (IntKind.i64.wrap (p * p)))))) + (1048576 : Int))) - (1 : Int))) (1048576 : Int)))]
def loss_r1 (lf ll lq p : Int) : Prop := (((((((((((((True ∧ (loss_c0 lf ll lq p = false)) ∧ ((true = true))) ∧ (((0 : Int) = (0 : Int)))) ∧ (((0 : Int) = (0 : Int)))) ∧ ((true = true))) ∧ (((1 : Int) = (1 : Int)))) ∧ (((1 : Int) = (1 : Int)))) ∧ ((true = true))) ∧ (((2 : Int) = (2 : Int)))) ∧ (((2 : Int) = (2 : Int)))) ∧ ((false = false))) ∧ ((false = false))) ∧ ((false = false)))
theorem loss_o1 (lf ll lq p : Int) : obOf (loss_e1 lf ll lq p) = loss_r1 lf ll lq p := by kernel_rfl
theorem loss_v1 (lf ll lq p : Int) : resOf (loss_e1 lf ll lq p) = loss_w1 lf ll lq p := by kernel_rfl
theorem loss_k1 (lf ll lq p : Int) : cleanOf Tryz.prog.globals.size (loss_e1 lf ll lq p) = true := by kernel_rfl
theorem loss_q1 (lf ll lq p : Int) : loss_e1 lf ll lq p = evFS Tryz.prog x_loss 1000 57 #[.agg #[.int .i64 lf, .int .i64 ll, .int .i64 lq], .int .i64 p] (noTabs 4) ⟨[0, 1, 0, 0, 1, 1, 1, 1, 2, 2, 0], True⟩ := by
  delta loss_e1
  exact Eq.refl _
theorem loss_p1 (lf ll lq p : Int) (h : loss_r1 lf ll lq p) (w : World) : Calls Tryz.prog 57 #[.agg #[.int .i64 lf, .int .i64 ll, .int .i64 lq], .int .i64 p] w fun en w' => en = .returned (loss_w1 lf ll lq p) ∧ Below w.heap.size w w' := by
  have hv := loss_v1 lf ll lq p
  have hc := loss_k1 lf ll lq p
  have he := loss_q1 lf ll lq p
  have ho := loss_o1 lf ll lq p
  generalize loss_e1 lf ll lq p = r at *
  exact calls_way he gfol loss_X hv rfl (loss_args lf ll lq p) hc ho h (bl w)
theorem loss_any (lf ll lq p : Int) (hpre : lsIn lf ll lq ∧ pwIn p) (w : World) : Calls Tryz.prog 57 #[.agg #[.int .i64 lf, .int .i64 ll, .int .i64 lq], .int .i64 p] w fun en w' => en = .returned (loss_val lf ll lq p) ∧ Below w.heap.size w w' := by
  rcases Bool.eq_false_or_eq_true (loss_c0 lf ll lq p) with h0 | h0
  ·
    unfold loss_c0 at h0
    have hp := loss_p0 lf ll lq p ⟨trivial, h0⟩ w
    have hv : loss_w0 lf ll lq p = (loss_val lf ll lq p) := by
      clear hp
      unfold loss_w0 loss_val
      have q1 := lsP hpre.1 hpre.2
      have q2 := lsN_in hpre.1 hpre.2
      have hp := hpre
      unfold lsIn pwIn at hp
      (try simp only [decide_eq_true_eq, decide_eq_false_iff_not, beq_iff_eq, beq_eq_false_iff_ne, ne_eq] at *)
      unfold lLo lHi
      (first | rw [if_pos (by assumption), if_pos (by assumption)] | rw [if_neg (by assumption), if_neg (by assumption)]) <;> first
        | rfl
        | (have e : IntKind.i64.wrap (IntKind.i64.wrap (IntKind.i64.wrap (lf * 1048576) + IntKind.i64.wrap (ll * IntKind.i64.wrap (1024 * p))) + IntKind.i64.wrap (lq * IntKind.i64.wrap (p * p))) = lsN lf ll lq p := by
            unfold lsN
            simp (disch := omega) only [wi]
           simp only [e, Int.zero_add, wi _ (show -9223372036854775808 ≤ IntKind.i64.wrap (lf * 1048576) ∧ IntKind.i64.wrap (lf * 1048576) ≤ 9223372036854775807 by rw [wi _ (by omega)]; omega)]
           simp (disch := omega) only [wi, Int.tdiv_eq_ediv_of_nonneg]
           rw [show lsN lf ll lq p + 1048576 - 1 = lsN lf ll lq p + 1048575 by omega])
    exact hv ▸ hp
  ·
    unfold loss_c0 at h0
    have hp := loss_p1 lf ll lq p ⟨⟨⟨⟨⟨⟨⟨⟨⟨⟨⟨⟨⟨trivial, h0⟩, loss_g2⟩, loss_g3⟩, loss_g3⟩, loss_g2⟩, loss_g4⟩, loss_g4⟩, loss_g2⟩, loss_g5⟩, loss_g5⟩, loss_g6⟩, loss_g6⟩, loss_g6⟩ w
    have hv : loss_w1 lf ll lq p = (loss_val lf ll lq p) := by
      clear hp
      unfold loss_w1 loss_val
      have q1 := lsP hpre.1 hpre.2
      have q2 := lsN_in hpre.1 hpre.2
      have hp := hpre
      unfold lsIn pwIn at hp
      (try simp only [decide_eq_true_eq, decide_eq_false_iff_not, beq_iff_eq, beq_eq_false_iff_ne, ne_eq] at *)
      unfold lLo lHi
      (first | rw [if_pos (by assumption), if_pos (by assumption)] | rw [if_neg (by assumption), if_neg (by assumption)]) <;> first
        | rfl
        | (have e : IntKind.i64.wrap (IntKind.i64.wrap (IntKind.i64.wrap (lf * 1048576) + IntKind.i64.wrap (ll * IntKind.i64.wrap (1024 * p))) + IntKind.i64.wrap (lq * IntKind.i64.wrap (p * p))) = lsN lf ll lq p := by
            unfold lsN
            simp (disch := omega) only [wi]
           simp only [e, Int.zero_add, wi _ (show -9223372036854775808 ≤ IntKind.i64.wrap (lf * 1048576) ∧ IntKind.i64.wrap (lf * 1048576) ≤ 9223372036854775807 by rw [wi _ (by omega)]; omega)]
           simp (disch := omega) only [wi, Int.tdiv_eq_ediv_of_nonneg]
           rw [show lsN lf ll lq p + 1048576 - 1 = lsN lf ll lq p + 1048575 by omega])
    exact hv ▸ hp
theorem k_loss : ConOk Tryz.prog c_loss := fun ns hl => by
  have hl0 : ns.length = 4 := hl
  clear hl
  obtain ⟨lf, ns0, rfl, hl1⟩ := len_cons hl0
  obtain ⟨ll, ns1, rfl, hl2⟩ := len_cons hl1
  obtain ⟨lq, ns2, rfl, hl3⟩ := len_cons hl2
  obtain ⟨p, ns3, rfl, hl4⟩ := len_cons hl3
  obtain rfl := len_nil hl4
  exact ⟨rfl, fun h w => loss_any lf ll lq p h w⟩
end Go.Proofs.YthhgmnocigekaaaGreatDoor
end
section
set_option linter.all false
set_option maxRecDepth 1000000
set_option maxHeartbeats 2000000
open Go.RowKit
namespace Go.Proofs.YthhgmnocigekaaaGreatDoor
open Mini

def delivered_val (lf ll lq p : Int) : Value := .agg #[.int .i64 (dLo lf ll lq p), .int .i64 (dHi lf ll lq p)]
theorem delivered_X : FOkS Tryz.prog x_delivered := kAll_ok _ ⟨k_loss, trivial⟩
theorem delivered_args (lf ll lq p : Int) : (#[.agg #[.int .i64 lf, .int .i64 ll, .int .i64 lq], .int .i64 p] : Array Value).toList.all (ground 8) = true := by kernel_rfl
def delivered_b0 (lf ll lq p : Int) : Prop := ((lsIn lf ll lq) ∧ (pwIn p))
def delivered_w0 (lf ll lq p : Int) : Value := .agg #[.int .i64 (if ((0 : Int) > (IntKind.i64.wrap (p - (lHi lf ll lq p)))) then (0 : Int) else (IntKind.i64.wrap (p - (lHi lf ll lq p)))), .int .i64 (if ((0 : Int) > (IntKind.i64.wrap (p - (lLo lf ll lq p)))) then (0 : Int) else (IntKind.i64.wrap (p - (lLo lf ll lq p))))]
def delivered_r0 (lf ll lq p : Int) : Prop := (True ∧ (delivered_b0 lf ll lq p))
theorem delivered_o0 (lf ll lq p : Int) : obOf (delivered_e0 lf ll lq p) = delivered_r0 lf ll lq p := by kernel_rfl
theorem delivered_v0 (lf ll lq p : Int) : resOf (delivered_e0 lf ll lq p) = delivered_w0 lf ll lq p := by kernel_rfl
theorem delivered_k0 (lf ll lq p : Int) : cleanOf Tryz.prog.globals.size (delivered_e0 lf ll lq p) = true := by kernel_rfl
theorem delivered_q0 (lf ll lq p : Int) : delivered_e0 lf ll lq p = evFS Tryz.prog x_delivered 1000 58 #[.agg #[.int .i64 lf, .int .i64 ll, .int .i64 lq], .int .i64 p] (noTabs 4) ⟨[], True⟩ := by
  delta delivered_e0
  exact Eq.refl _
theorem delivered_p0 (lf ll lq p : Int) (h : delivered_r0 lf ll lq p) (w : World) : Calls Tryz.prog 58 #[.agg #[.int .i64 lf, .int .i64 ll, .int .i64 lq], .int .i64 p] w fun en w' => en = .returned (delivered_w0 lf ll lq p) ∧ Below w.heap.size w w' := by
  have hv := delivered_v0 lf ll lq p
  have hc := delivered_k0 lf ll lq p
  have he := delivered_q0 lf ll lq p
  have ho := delivered_o0 lf ll lq p
  generalize delivered_e0 lf ll lq p = r at *
  exact calls_way he gfol delivered_X hv rfl (delivered_args lf ll lq p) hc ho h (bl w)
theorem delivered_any (lf ll lq p : Int) (hpre : lsIn lf ll lq ∧ pwIn p) (w : World) : Calls Tryz.prog 58 #[.agg #[.int .i64 lf, .int .i64 ll, .int .i64 lq], .int .i64 p] w fun en w' => en = .returned (delivered_val lf ll lq p) ∧ Below w.heap.size w w' := by
  have h0 : (delivered_b0 lf ll lq p) := by
    unfold delivered_b0
    first | rfl | trivial | assumption | exact hpre | exact ⟨rfl, by omega⟩ | (simp only [bne_eq_false_iff_eq, bne_iff_ne, ne_eq, beq_iff_eq, beq_eq_false_iff_ne] at *; first | exact ⟨lsE_in (by assumption), pwE_in (by assumption)⟩ | exact lsE_in (by assumption) | exact pwE_in (by assumption))
  unfold delivered_b0 at h0
  have hp := delivered_p0 lf ll lq p ⟨trivial, h0⟩ w
  have hv : delivered_w0 lf ll lq p = (delivered_val lf ll lq p) := by
    clear hp
    unfold delivered_w0 delivered_val
    have q1 := lIn hpre.1 hpre.2
    have hp := hpre
    unfold lsIn pwIn at hp
    unfold dLo dHi
    (try simp (disch := omega) only [wi])
    (try simp only [max0, max0', max_if, max_if', Int.max_comm 0])
    (try rfl)
  exact hv ▸ hp
theorem k_delivered : ConOk Tryz.prog c_delivered := fun ns hl => by
  have hl0 : ns.length = 4 := hl
  clear hl
  obtain ⟨lf, ns0, rfl, hl1⟩ := len_cons hl0
  obtain ⟨ll, ns1, rfl, hl2⟩ := len_cons hl1
  obtain ⟨lq, ns2, rfl, hl3⟩ := len_cons hl2
  obtain ⟨p, ns3, rfl, hl4⟩ := len_cons hl3
  obtain rfl := len_nil hl4
  exact ⟨rfl, fun h w => delivered_any lf ll lq p h w⟩
end Go.Proofs.YthhgmnocigekaaaGreatDoor
end
section
set_option linter.all false
set_option maxRecDepth 1000000
open Go.RowKit
namespace Go.Proofs.YthhgmnocigekaaaGreatDoor
open Mini
noncomputable def ndlX : Code := loopOf Tryz.prog 11
noncomputable def ndlK : CallS := kAll [c_delivered]
def ndlL (lf ll lq pw : Int)  (i : Nat) : List MObj := [.cells [.int .i64 lf, .int .i64 ll, .int .i64 lq] 31 false 0 false, .cells [.int .i64 (lsE lf ll lq), .int .i64 (pwE pw)] 28 false 0 false]
def ndlA (lf ll lq pw : Int)  (i : Nat) : MA := MA.ofL 28 [.chan none, .int .i64 pw, .pointer (some ⟨4, 0, none⟩), .chan none, .int .i64 0, .int .i64 0, .chan none, .chan none, .chan none, .chan none, .chan none, .chan none, .chan none, .chan none, .chan none, .chan none, .chan none, .int .i64 ((i : Nat) : Int), .chan none, .chan none, .chan none, .chan none, .chan none, .chan none, .chan none, .chan none, .chan none, .chan none] []
def ndlE (lf ll lq pw : Int)  (i : Nat) : MA := MA.ofL 28 [.chan none, .chan none, .chan none, .chan none, .chan none, .chan none, .chan none, .chan none, .chan none, .chan none, .chan none, .chan none, .chan none, .chan none, .chan none, .chan none, .chan none, .chan none, .chan none, .chan none, .chan none, .chan none, .chan none, .chan none, .chan none, .chan none, .chan none, .chan none] []
noncomputable def ndlR (lf ll lq pw : Int)  (i : Nat) : Option OutCS := evCRS Tryz.prog ndlK 1000 none false ndlX (ndlA lf ll lq pw i) (wS 4 (ndlL lf ll lq pw i)) ⟨[1, 0, .azz (.int .i64 ((i + 1 : Nat) : Int))], True⟩
noncomputable def ndlN (lf ll lq pw : Int)  (i : Nat) : Option OutCS := evCRS Tryz.prog ndlK 1000 none false ndlX (ndlA lf ll lq pw i) (wS 4 (ndlL lf ll lq pw i)) ⟨[0], True⟩
def ndlB (lf ll lq pw : Int)  (i : Nat) : MA := MA.ofL 28 [.chan none, .chan none, .chan none, .chan none, .int .i64 ((i : Nat) : Int), .int .i64 0, .chan none, .chan none, .chan none, .chan none, .chan none, .chan none, .chan none, .chan none, .chan none, .chan none, .chan none, .chan none, .chan none, .chan none, .chan none, .chan none, .chan none, .chan none, .chan none, .chan none, .chan none, .chan none] []
noncomputable def ndlS (lf ll lq pw : Int)  (i : Nat) : Option OutCS := evCRS Tryz.prog ndlK 1000 none false ndlX (ndlA lf ll lq pw i) (wS 4 (ndlL lf ll lq pw i)) ⟨[1, 1], True⟩
theorem ndlK_ok : FOkS Tryz.prog ndlK := kAll_ok _ ⟨k_delivered, trivial⟩
section
variable (lf ll lq pw : Int)  (i : Nat)
theorem ndlR_eq : seenF 4 2 131126 (ndlR lf ll lq pw i) = some (.normal, ndlA lf ll lq pw (i + 1), (ndlL lf ll lq pw (i + 1)), 16, 0, ⟨[], ((((True ∧ ((decide ((((i : Nat)) : Int) < (1001 : Int))) = true)) ∧ ((lsIn lf ll lq) ∧ (pwIn (((i : Nat)) : Int)))) ∧ ((decide ((dLo lf ll lq (((i : Nat)) : Int)) ≥ pw)) = false)) ∧ (((.int .i64 (IntKind.i64.wrap ((((i : Nat)) : Int) + (1 : Int)))) : Value) = (.int .i64 ((((i + 1) : Nat)) : Int))))⟩) := by kernel_rfl
theorem ndlN_eq : seenF 4 2 0 (ndlN lf ll lq pw i) = some ((.exit (0 : Nat)), ndlE lf ll lq pw i, (ndlL lf ll lq pw i), 0, 0, ⟨[], (True ∧ ((decide ((((i : Nat)) : Int) < (1001 : Int))) = false))⟩) := by kernel_rfl
theorem ndlS_eq : seenF 4 2 48 (ndlS lf ll lq pw i) = some (.ret, ndlB lf ll lq pw i, (ndlL lf ll lq pw i), 16, 0, ⟨[], (((True ∧ ((decide ((((i : Nat)) : Int) < (1001 : Int))) = true)) ∧ ((lsIn lf ll lq) ∧ (pwIn (((i : Nat)) : Int)))) ∧ ((decide ((dLo lf ll lq (((i : Nat)) : Int)) ≥ pw)) = true))⟩) := by kernel_rfl
theorem ndlA_keep : allKeep (4 + 2) (ndlA lf ll lq pw i) 28 = true := by kernel_rfl
theorem ndlL_keep : ∀ o, o ∈ (ndlL lf ll lq pw i) → keepO (below (4 + 2)) o := fun o ho => by
  simp only [ndlL, List.mem_cons, List.not_mem_nil, or_false] at ho
  rcases ho with rfl | rfl
  all_goals first | rfl | exact rowI_keep _ _ _ _ _ _ _ | exact fill_keep rfl (fun a => rfl)
end
theorem ndl_go (lf ll lq pw : Int)  {i : Nat} (hx : lsIn lf ll lq) (hn : True) (hi : i < 1001) (h0 : ¬ (dLo lf ll lq ((i : Nat) : Int) ≥ pw)) : SndC Tryz.prog none ndlX (ndlA lf ll lq pw i).act (wS 4 (ndlL lf ll lq pw i)) .normal (ndlA lf ll lq pw (i + 1)).act (wS 4 (ndlL lf ll lq pw (i + 1))) 48 0 := by
  have h := ndlR_eq lf ll lq pw i
  refine wayF_ok0 smx ndlK_ok sng h ?_ rfl (ndlA_keep lf ll lq pw i) (ndlL_keep lf ll lq pw i) (ndlL_keep lf ll lq pw (i + 1)) (by exact (by decide : ∀ b, b < 6 → Nat.testBit 0 b = false)) (by exact (by decide : ∀ b, b < 6 → Nat.testBit 16 b = true → Nat.testBit 48 b = true))
  repeat' (first | (with_reducible assumption) | exact hx | exact ⟨hx, by unfold pwIn; omega⟩ | apply And.intro)
  all_goals first | trivial | rfl | assumption | exact hx | exact ⟨hx, by unfold pwIn; omega⟩ | exact decide_eq_true (by omega) | exact decide_eq_false (by omega) | exact bne_iff_ne.2 (by assumption) | exact bne_eq_false_iff_eq.2 (by assumption) | exact beq_iff_eq.2 (by assumption) | exact beq_eq_false_iff_ne.2 (by assumption) | exact wnextV (by assumption) (by omega) | exact decide_eq_true h0 | exact decide_eq_false h0 | omega
theorem ndl_end (lf ll lq pw : Int)  {i : Nat} (hx : lsIn lf ll lq) (hn : True) (hi : ¬ i < 1001) : SndC Tryz.prog none ndlX (ndlA lf ll lq pw i).act (wS 4 (ndlL lf ll lq pw i)) (.exit 0) (ndlE lf ll lq pw i).act (wS 4 (ndlL lf ll lq pw i)) 48 0 := by
  have h := ndlN_eq lf ll lq pw i
  refine wayF_ok0 smx ndlK_ok sng h ?_ rfl (ndlA_keep lf ll lq pw i) (ndlL_keep lf ll lq pw i) (ndlL_keep lf ll lq pw i) (by exact (by decide : ∀ b, b < 6 → Nat.testBit 0 b = false)) (by exact (by decide : ∀ b, b < 6 → Nat.testBit 0 b = true → Nat.testBit 48 b = true))
  repeat' (first | (with_reducible assumption) | exact hx | exact ⟨hx, by unfold pwIn; omega⟩ | apply And.intro)
  all_goals first | trivial | rfl | assumption | exact hx | exact ⟨hx, by unfold pwIn; omega⟩ | exact decide_eq_true (by omega) | exact decide_eq_false (by omega) | exact bne_iff_ne.2 (by assumption) | exact bne_eq_false_iff_eq.2 (by assumption) | exact beq_iff_eq.2 (by assumption) | exact beq_eq_false_iff_ne.2 (by assumption) | exact wnextV (by assumption) (by omega) | exact decide_eq_true h0 | exact decide_eq_false h0 | omega
theorem ndl_stop (lf ll lq pw : Int)  {i : Nat} (hx : lsIn lf ll lq) (hn : True) (hi : i < 1001) (h0 : ¬ (¬ (dLo lf ll lq ((i : Nat) : Int) ≥ pw))) : SndC Tryz.prog none ndlX (ndlA lf ll lq pw i).act (wS 4 (ndlL lf ll lq pw i)) .ret (ndlB lf ll lq pw i).act (wS 4 (ndlL lf ll lq pw i)) 48 0 := by
  have h := ndlS_eq lf ll lq pw i
  refine wayF_ok0 smx ndlK_ok sng h ?_ rfl (ndlA_keep lf ll lq pw i) (ndlL_keep lf ll lq pw i) (ndlL_keep lf ll lq pw i) (by exact (by decide : ∀ b, b < 6 → Nat.testBit 0 b = false)) (by exact (by decide : ∀ b, b < 6 → Nat.testBit 16 b = true → Nat.testBit 48 b = true))
  repeat' (first | (with_reducible assumption) | exact hx | exact ⟨hx, by unfold pwIn; omega⟩ | apply And.intro)
  all_goals first | trivial | rfl | assumption | exact hx | exact ⟨hx, by unfold pwIn; omega⟩ | exact decide_eq_true (by omega) | exact decide_eq_false (by omega) | exact bne_iff_ne.2 (by assumption) | exact bne_eq_false_iff_eq.2 (by assumption) | exact beq_iff_eq.2 (by assumption) | exact beq_eq_false_iff_ne.2 (by assumption) | exact wnextV (by assumption) (by omega) | exact decide_eq_true h0 | exact decide_eq_false h0 | omega
theorem ndl_loop (lf ll lq pw : Int)  (hx : lsIn lf ll lq) (hn : True) : ((∀ i, i < 1001 → ¬ (dLo lf ll lq ((i : Nat) : Int) ≥ pw)) ∧ SndC Tryz.prog none (.loop ndlX) (ndlA lf ll lq pw 0).act (wS 4 (ndlL lf ll lq pw 0)) (.exit 0) (ndlE lf ll lq pw (1001)).act (wS 4 (ndlL lf ll lq pw (1001))) 48 0) ∨ ∃ j, j < 1001 ∧ (∀ i, i < j → ¬ (dLo lf ll lq ((i : Nat) : Int) ≥ pw)) ∧ ¬ (¬ (dLo lf ll lq ((j : Nat) : Int) ≥ pw)) ∧ SndC Tryz.prog none (.loop ndlX) (ndlA lf ll lq pw 0).act (wS 4 (ndlL lf ll lq pw 0)) .ret (ndlB lf ll lq pw j).act (wS 4 (ndlL lf ll lq pw j)) 48 0 :=
  loop_split (A := fun i => (ndlA lf ll lq pw i).act) (S := fun i => (wS 4 (ndlL lf ll lq pw i))) (A1 := fun i => (ndlB lf ll lq pw i).act) (S1 := fun i => (wS 4 (ndlL lf ll lq pw i))) (good := fun i => ¬ (dLo lf ll lq ((i : Nat) : Int) ≥ pw)) (fun i => Decidable.em _) (1001) (fun i hi h0 => ndl_go lf ll lq pw hx hn hi h0) (fun i hi h0 => ndl_stop lf ll lq pw hx hn hi h0) (ndl_end lf ll lq pw hx hn (Nat.lt_irrefl _)) (by simp) (by simp)
end Go.Proofs.YthhgmnocigekaaaGreatDoor
end
section
set_option linter.all false
set_option maxRecDepth 1000000
set_option maxHeartbeats 2000000
open Go.RowKit
namespace Go.Proofs.YthhgmnocigekaaaGreatDoor
open Mini

def floor_val (fx fm : Int) : Value := .int .i64 (fx / 1048576)
theorem floor_X : FOkS Tryz.prog x_floor := noXS_ok
theorem floor_args (fx fm : Int) : (#[.int .i64 fx, .int .i64 fm] : Array Value).toList.all (ground 8) = true := by kernel_rfl
def floor_c0 (fx fm : Int) : Bool := (fm == (0 : Int))
def floor_c1 (fx fm : Int) : Bool := (decide ((IntKind.i64.wrap ((IntKind.i64.wrap (Int.tdiv fx fm)) * fm)) > fx))
def floor_w0 (fx fm : Int) : Value := .int .i64 (IntKind.i64.wrap (Int.tdiv fx fm))
def floor_r0 (fx fm : Int) : Prop := ((True ∧ (floor_c0 fx fm = false)) ∧ (floor_c1 fx fm = false))
theorem floor_o0 (fx fm : Int) : obOf (floor_e0 fx fm) = floor_r0 fx fm := by kernel_rfl
theorem floor_v0 (fx fm : Int) : resOf (floor_e0 fx fm) = floor_w0 fx fm := by kernel_rfl
theorem floor_k0 (fx fm : Int) : cleanOf Tryz.prog.globals.size (floor_e0 fx fm) = true := by kernel_rfl
theorem floor_q0 (fx fm : Int) : floor_e0 fx fm = evFS Tryz.prog x_floor 1000 64 #[.int .i64 fx, .int .i64 fm] (noTabs 4) ⟨[0], True⟩ := by
  delta floor_e0
  exact Eq.refl _
theorem floor_p0 (fx fm : Int) (h : floor_r0 fx fm) (w : World) : Calls Tryz.prog 64 #[.int .i64 fx, .int .i64 fm] w fun en w' => en = .returned (floor_w0 fx fm) ∧ Below w.heap.size w w' := by
  have hv := floor_v0 fx fm
  have hc := floor_k0 fx fm
  have he := floor_q0 fx fm
  have ho := floor_o0 fx fm
  generalize floor_e0 fx fm = r at *
  exact calls_way he gfol floor_X hv rfl (floor_args fx fm) hc ho h (bl w)
def floor_w1 (fx fm : Int) : Value := .int .i64 (IntKind.i64.wrap ((IntKind.i64.wrap (Int.tdiv fx fm)) - (1 : Int)))
def floor_r1 (fx fm : Int) : Prop := ((True ∧ (floor_c0 fx fm = false)) ∧ (floor_c1 fx fm = true))
theorem floor_o1 (fx fm : Int) : obOf (floor_e1 fx fm) = floor_r1 fx fm := by kernel_rfl
theorem floor_v1 (fx fm : Int) : resOf (floor_e1 fx fm) = floor_w1 fx fm := by kernel_rfl
theorem floor_k1 (fx fm : Int) : cleanOf Tryz.prog.globals.size (floor_e1 fx fm) = true := by kernel_rfl
theorem floor_q1 (fx fm : Int) : floor_e1 fx fm = evFS Tryz.prog x_floor 1000 64 #[.int .i64 fx, .int .i64 fm] (noTabs 4) ⟨[1], True⟩ := by
  delta floor_e1
  exact Eq.refl _
theorem floor_p1 (fx fm : Int) (h : floor_r1 fx fm) (w : World) : Calls Tryz.prog 64 #[.int .i64 fx, .int .i64 fm] w fun en w' => en = .returned (floor_w1 fx fm) ∧ Below w.heap.size w w' := by
  have hv := floor_v1 fx fm
  have hc := floor_k1 fx fm
  have he := floor_q1 fx fm
  have ho := floor_o1 fx fm
  generalize floor_e1 fx fm = r at *
  exact calls_way he gfol floor_X hv rfl (floor_args fx fm) hc ho h (bl w)
theorem floor_any (fx fm : Int) (hpre : fm = 1048576 ∧ -4000000000 ≤ fx ∧ fx ≤ 4000000000) (w : World) : Calls Tryz.prog 64 #[.int .i64 fx, .int .i64 fm] w fun en w' => en = .returned (floor_val fx fm) ∧ Below w.heap.size w w' := by
  have hm := hpre.1
  have hx1 := hpre.2.1
  have hx2 := hpre.2.2
  have hq : Int.tdiv fx 1048576 = if 0 ≤ fx then fx / 1048576 else -((-fx) / 1048576) := by
    split
    · exact Int.tdiv_eq_ediv_of_nonneg (by omega)
    · exact tdiv_neg' (by omega)
  have hr : -4000 ≤ Int.tdiv fx 1048576 ∧ Int.tdiv fx 1048576 ≤ 4000 := by rw [hq]; split <;> omega
  have w1 : IntKind.i64.wrap (Int.tdiv fx 1048576) = Int.tdiv fx 1048576 := wi _ (by omega)
  have w2 : IntKind.i64.wrap (Int.tdiv fx 1048576 * 1048576) = Int.tdiv fx 1048576 * 1048576 := wi _ (by omega)
  have w3 : IntKind.i64.wrap (Int.tdiv fx 1048576 - 1) = Int.tdiv fx 1048576 - 1 := wi _ (by omega)
  have h0 : (floor_c0 fx fm = false) := by
    unfold floor_c0
    rw [hm]; decide
  unfold floor_c0 at h0
  rcases Bool.eq_false_or_eq_true (floor_c1 fx fm) with h1 | h1
  ·
    unfold floor_c1 at h1
    have hp := floor_p1 fx fm ⟨⟨trivial, h0⟩, h1⟩ w
    have hv : floor_w1 fx fm = (floor_val fx fm) := by
      clear hp
      unfold floor_w1 floor_val
      simp only [hm, w1, w2, w3, decide_eq_true_eq, decide_eq_false_iff_not, gt_iff_lt] at *
      clear w1 w2 w3
      generalize Int.tdiv fx 1048576 = q at *
      split at hq <;> (congr 1 <;> omega)
    exact hv ▸ hp
  ·
    unfold floor_c1 at h1
    have hp := floor_p0 fx fm ⟨⟨trivial, h0⟩, h1⟩ w
    have hv : floor_w0 fx fm = (floor_val fx fm) := by
      clear hp
      unfold floor_w0 floor_val
      simp only [hm, w1, w2, w3, decide_eq_true_eq, decide_eq_false_iff_not, gt_iff_lt] at *
      clear w1 w2 w3
      generalize Int.tdiv fx 1048576 = q at *
      split at hq <;> (congr 1 <;> omega)
    exact hv ▸ hp
theorem k_floor : ConOk Tryz.prog c_floor := fun ns hl => by
  have hl0 : ns.length = 2 := hl
  clear hl
  obtain ⟨fx, ns0, rfl, hl1⟩ := len_cons hl0
  obtain ⟨fm, ns1, rfl, hl2⟩ := len_cons hl1
  obtain rfl := len_nil hl2
  exact ⟨rfl, fun h w => floor_any fx fm h w⟩
end Go.Proofs.YthhgmnocigekaaaGreatDoor
end
section
set_option linter.all false
set_option maxRecDepth 1000000
set_option maxHeartbeats 2000000
open Go.RowKit
namespace Go.Proofs.YthhgmnocigekaaaGreatDoor
open Mini

def rloss_val (lf ll lq p : Int) : Value := .agg #[.int .i64 (lLo lf ll lq p), .int .i64 (lHi lf ll lq p)]
theorem rloss_X : FOkS Tryz.prog x_rloss := kAll_ok _ ⟨k_floor, trivial⟩
theorem rloss_args (lf ll lq p : Int) : (#[.agg #[.int .i64 lf, .int .i64 ll, .int .i64 lq], .int .i64 p] : Array Value).toList.all (ground 8) = true := by kernel_rfl
def rloss_c0 (lf ll lq p : Int) : Bool := (p == (0 : Int))
def rloss_b2 (lf ll lq p : Int) : Prop := (((1048576 : Int) = (1048576 : Int)) ∧ (((-4000000000 : Int) ≤ (IntKind.i64.wrap ((IntKind.i64.wrap ((IntKind.i64.wrap ((IntKind.i64.wrap (lf * (1024 : Int))) * (1024 : Int))) + (IntKind.i64.wrap ((IntKind.i64.wrap (ll * p)) * (1024 : Int))))) + (IntKind.i64.wrap ((IntKind.i64.wrap (lq * p)) * p))))) ∧ ((IntKind.i64.wrap ((IntKind.i64.wrap ((IntKind.i64.wrap ((IntKind.i64.wrap (lf * (1024 : Int))) * (1024 : Int))) + (IntKind.i64.wrap ((IntKind.i64.wrap (ll * p)) * (1024 : Int))))) + (IntKind.i64.wrap ((IntKind.i64.wrap (lq * p)) * p)))) ≤ (4000000000 : Int))))
def rloss_b3 (lf ll lq p : Int) : Prop := (((1048576 : Int) = (1048576 : Int)) ∧ (((-4000000000 : Int) ≤ (IntKind.i64.wrap ((0 : Int) - (IntKind.i64.wrap ((IntKind.i64.wrap ((IntKind.i64.wrap ((IntKind.i64.wrap (lf * (1024 : Int))) * (1024 : Int))) + (IntKind.i64.wrap ((IntKind.i64.wrap (ll * p)) * (1024 : Int))))) + (IntKind.i64.wrap ((IntKind.i64.wrap (lq * p)) * p))))))) ∧ ((IntKind.i64.wrap ((0 : Int) - (IntKind.i64.wrap ((IntKind.i64.wrap ((IntKind.i64.wrap ((IntKind.i64.wrap (lf * (1024 : Int))) * (1024 : Int))) + (IntKind.i64.wrap ((IntKind.i64.wrap (ll * p)) * (1024 : Int))))) + (IntKind.i64.wrap ((IntKind.i64.wrap (lq * p)) * p)))))) ≤ (4000000000 : Int))))
def rloss_w0 (lf ll lq p : Int) : Value := .agg #[.int .i64 (0 : Int), .int .i64 (0 : Int)]
def rloss_r0 (lf ll lq p : Int) : Prop := (True ∧ (rloss_c0 lf ll lq p = true))
theorem rloss_o0 (lf ll lq p : Int) : obOf (rloss_e0 lf ll lq p) = rloss_r0 lf ll lq p := by kernel_rfl
theorem rloss_v0 (lf ll lq p : Int) : resOf (rloss_e0 lf ll lq p) = rloss_w0 lf ll lq p := by kernel_rfl
theorem rloss_k0 (lf ll lq p : Int) : cleanOf Tryz.prog.globals.size (rloss_e0 lf ll lq p) = true := by kernel_rfl
theorem rloss_q0 (lf ll lq p : Int) : rloss_e0 lf ll lq p = evFS Tryz.prog x_rloss 1000 15 #[.agg #[.int .i64 lf, .int .i64 ll, .int .i64 lq], .int .i64 p] (noTabs 4) ⟨[1], True⟩ := by
  delta rloss_e0
  exact Eq.refl _
theorem rloss_p0 (lf ll lq p : Int) (h : rloss_r0 lf ll lq p) (w : World) : Calls Tryz.prog 15 #[.agg #[.int .i64 lf, .int .i64 ll, .int .i64 lq], .int .i64 p] w fun en w' => en = .returned (rloss_w0 lf ll lq p) ∧ Below w.heap.size w w' := by
  have hv := rloss_v0 lf ll lq p
  have hc := rloss_k0 lf ll lq p
  have he := rloss_q0 lf ll lq p
  have ho := rloss_o0 lf ll lq p
  generalize rloss_e0 lf ll lq p = r at *
  exact calls_way he gfol rloss_X hv rfl (rloss_args lf ll lq p) hc ho h (bl w)
def rloss_w1 (lf ll lq p : Int) : Value := .agg #[.int .i64 ((IntKind.i64.wrap ((IntKind.i64.wrap ((IntKind.i64.wrap ((IntKind.i64.wrap (lf * (1024 : Int))) * (1024 : Int))) + (IntKind.i64.wrap ((IntKind.i64.wrap (ll * p)) * (1024 : Int))))) + (IntKind.i64.wrap ((IntKind.i64.wrap (lq * p)) * p)))) / (1048576 : Int)), .int .i64 (IntKind.i64.wrap ((0 : Int) - ((IntKind.i64.wrap ((0 : Int) - (IntKind.i64.wrap ((IntKind.i64.wrap ((IntKind.i64.wrap ((IntKind.i64.wrap (lf * (1024 : Int))) * (1024 : Int))) + (IntKind.i64.wrap ((IntKind.i64.wrap (ll * p)) * (1024 : Int))))) + (IntKind.i64.wrap ((IntKind.i64.wrap (lq * p)) * p)))))) / (1048576 : Int))))]
def rloss_r1 (lf ll lq p : Int) : Prop := (((True ∧ (rloss_c0 lf ll lq p = false)) ∧ (rloss_b2 lf ll lq p)) ∧ (rloss_b3 lf ll lq p))
theorem rloss_o1 (lf ll lq p : Int) : obOf (rloss_e1 lf ll lq p) = rloss_r1 lf ll lq p := by kernel_rfl
theorem rloss_v1 (lf ll lq p : Int) : resOf (rloss_e1 lf ll lq p) = rloss_w1 lf ll lq p := by kernel_rfl
theorem rloss_k1 (lf ll lq p : Int) : cleanOf Tryz.prog.globals.size (rloss_e1 lf ll lq p) = true := by kernel_rfl
theorem rloss_q1 (lf ll lq p : Int) : rloss_e1 lf ll lq p = evFS Tryz.prog x_rloss 1000 15 #[.agg #[.int .i64 lf, .int .i64 ll, .int .i64 lq], .int .i64 p] (noTabs 4) ⟨[0], True⟩ := by
  delta rloss_e1
  exact Eq.refl _
theorem rloss_p1 (lf ll lq p : Int) (h : rloss_r1 lf ll lq p) (w : World) : Calls Tryz.prog 15 #[.agg #[.int .i64 lf, .int .i64 ll, .int .i64 lq], .int .i64 p] w fun en w' => en = .returned (rloss_w1 lf ll lq p) ∧ Below w.heap.size w w' := by
  have hv := rloss_v1 lf ll lq p
  have hc := rloss_k1 lf ll lq p
  have he := rloss_q1 lf ll lq p
  have ho := rloss_o1 lf ll lq p
  generalize rloss_e1 lf ll lq p = r at *
  exact calls_way he gfol rloss_X hv rfl (rloss_args lf ll lq p) hc ho h (bl w)
theorem rloss_any (lf ll lq p : Int) (hpre : lsIn lf ll lq ∧ pwIn p) (w : World) : Calls Tryz.prog 15 #[.agg #[.int .i64 lf, .int .i64 ll, .int .i64 lq], .int .i64 p] w fun en w' => en = .returned (rloss_val lf ll lq p) ∧ Below w.heap.size w w' := by
  have q1 := lsP hpre.1 hpre.2
  have q2 := lsN_in hpre.1 hpre.2
  have hp := hpre
  unfold lsIn pwIn at hp
  have e1 : ll * p * 1024 = ll * (1024 * p) := by grind
  have e2 : lq * p * p = lq * (p * p) := by grind
  have e : IntKind.i64.wrap (IntKind.i64.wrap (IntKind.i64.wrap (IntKind.i64.wrap (lf * 1024) * 1024) + IntKind.i64.wrap (IntKind.i64.wrap (ll * p) * 1024)) + IntKind.i64.wrap (IntKind.i64.wrap (lq * p) * p)) = lsN lf ll lq p := by
    unfold lsN
    rw [wi (lf * 1024) (by omega), wi (ll * p) (by omega), wi (lq * p) (by omega), e1, e2]
    rw [show lf * 1024 * 1024 = lf * 1048576 by omega]
    simp (disch := omega) only [wi]
  have ez : IntKind.i64.wrap (0 - lsN lf ll lq p) = -(lsN lf ll lq p) := by rw [wi _ (by omega)]; omega
  rcases Bool.eq_false_or_eq_true (rloss_c0 lf ll lq p) with h0 | h0
  ·
    unfold rloss_c0 at h0
    have hp := rloss_p0 lf ll lq p ⟨trivial, h0⟩ w
    have hv : rloss_w0 lf ll lq p = (rloss_val lf ll lq p) := by
      clear hp
      unfold rloss_w0 rloss_val
      (try simp only [decide_eq_true_eq, decide_eq_false_iff_not, beq_iff_eq, beq_eq_false_iff_ne, ne_eq] at *)
      unfold lLo lHi
      (first | rw [if_pos (by assumption), if_pos (by assumption)] | rw [if_neg (by assumption), if_neg (by assumption)]) <;> first | rfl | (simp only [e, ez]; rw [wi (0 - _ / 1048576) (by omega)]; congr 2; simp only [List.cons.injEq, Value.int.injEq, true_and, and_true]; omega) | (simp only [e, ez]; congr 2; simp (disch := omega) only [wi, List.cons.injEq, Value.int.injEq, true_and, and_true]; omega)
    exact hv ▸ hp
  ·
    unfold rloss_c0 at h0
    have h1 : (rloss_b2 lf ll lq p) := by
      unfold rloss_b2
      first | rfl | trivial | (simp only [e, ez]; exact ⟨by first | rfl | trivial, by omega, by omega⟩)
    unfold rloss_b2 at h1
    have h2 : (rloss_b3 lf ll lq p) := by
      unfold rloss_b3
      first | rfl | trivial | (simp only [e, ez]; exact ⟨by first | rfl | trivial, by omega, by omega⟩)
    unfold rloss_b3 at h2
    have hp := rloss_p1 lf ll lq p ⟨⟨⟨trivial, h0⟩, h1⟩, h2⟩ w
    have hv : rloss_w1 lf ll lq p = (rloss_val lf ll lq p) := by
      clear hp
      unfold rloss_w1 rloss_val
      (try simp only [decide_eq_true_eq, decide_eq_false_iff_not, beq_iff_eq, beq_eq_false_iff_ne, ne_eq] at *)
      unfold lLo lHi
      (first | rw [if_pos (by assumption), if_pos (by assumption)] | rw [if_neg (by assumption), if_neg (by assumption)]) <;> first | rfl | (simp only [e, ez]; rw [wi (0 - _ / 1048576) (by omega)]; congr 2; simp only [List.cons.injEq, Value.int.injEq, true_and, and_true]; omega) | (simp only [e, ez]; congr 2; simp (disch := omega) only [wi, List.cons.injEq, Value.int.injEq, true_and, and_true]; omega)
    exact hv ▸ hp
theorem k_rloss : ConOk Tryz.prog c_rloss := fun ns hl => by
  have hl0 : ns.length = 4 := hl
  clear hl
  obtain ⟨lf, ns0, rfl, hl1⟩ := len_cons hl0
  obtain ⟨ll, ns1, rfl, hl2⟩ := len_cons hl1
  obtain ⟨lq, ns2, rfl, hl3⟩ := len_cons hl2
  obtain ⟨p, ns3, rfl, hl4⟩ := len_cons hl3
  obtain rfl := len_nil hl4
  exact ⟨rfl, fun h w => rloss_any lf ll lq p h w⟩
end Go.Proofs.YthhgmnocigekaaaGreatDoor
end
section
set_option linter.all false
set_option maxRecDepth 1000000
set_option maxHeartbeats 2000000
open Go.RowKit
namespace Go.Proofs.YthhgmnocigekaaaGreatDoor
open Mini

def rdelivered_val (lf ll lq p : Int) : Value := .agg #[.int .i64 (dLo lf ll lq p), .int .i64 (dHi lf ll lq p)]
theorem rdelivered_X : FOkS Tryz.prog x_rdelivered := kAll_ok _ ⟨k_rloss, trivial⟩
theorem rdelivered_args (lf ll lq p : Int) : (#[.agg #[.int .i64 lf, .int .i64 ll, .int .i64 lq], .int .i64 p] : Array Value).toList.all (ground 8) = true := by kernel_rfl
def rdelivered_b0 (lf ll lq p : Int) : Prop := ((lsIn lf ll lq) ∧ (pwIn p))
def rdelivered_w0 (lf ll lq p : Int) : Value := .agg #[.int .i64 (if ((IntKind.i64.wrap (p - (lHi lf ll lq p))) > (0 : Int)) then (IntKind.i64.wrap (p - (lHi lf ll lq p))) else (0 : Int)), .int .i64 (if ((IntKind.i64.wrap (p - (lLo lf ll lq p))) > (0 : Int)) then (IntKind.i64.wrap (p - (lLo lf ll lq p))) else (0 : Int))]
def rdelivered_r0 (lf ll lq p : Int) : Prop := (True ∧ (rdelivered_b0 lf ll lq p))
theorem rdelivered_o0 (lf ll lq p : Int) : obOf (rdelivered_e0 lf ll lq p) = rdelivered_r0 lf ll lq p := by kernel_rfl
theorem rdelivered_v0 (lf ll lq p : Int) : resOf (rdelivered_e0 lf ll lq p) = rdelivered_w0 lf ll lq p := by kernel_rfl
theorem rdelivered_k0 (lf ll lq p : Int) : cleanOf Tryz.prog.globals.size (rdelivered_e0 lf ll lq p) = true := by kernel_rfl
theorem rdelivered_q0 (lf ll lq p : Int) : rdelivered_e0 lf ll lq p = evFS Tryz.prog x_rdelivered 1000 16 #[.agg #[.int .i64 lf, .int .i64 ll, .int .i64 lq], .int .i64 p] (noTabs 4) ⟨[], True⟩ := by
  delta rdelivered_e0
  exact Eq.refl _
theorem rdelivered_p0 (lf ll lq p : Int) (h : rdelivered_r0 lf ll lq p) (w : World) : Calls Tryz.prog 16 #[.agg #[.int .i64 lf, .int .i64 ll, .int .i64 lq], .int .i64 p] w fun en w' => en = .returned (rdelivered_w0 lf ll lq p) ∧ Below w.heap.size w w' := by
  have hv := rdelivered_v0 lf ll lq p
  have hc := rdelivered_k0 lf ll lq p
  have he := rdelivered_q0 lf ll lq p
  have ho := rdelivered_o0 lf ll lq p
  generalize rdelivered_e0 lf ll lq p = r at *
  exact calls_way he gfol rdelivered_X hv rfl (rdelivered_args lf ll lq p) hc ho h (bl w)
theorem rdelivered_any (lf ll lq p : Int) (hpre : lsIn lf ll lq ∧ pwIn p) (w : World) : Calls Tryz.prog 16 #[.agg #[.int .i64 lf, .int .i64 ll, .int .i64 lq], .int .i64 p] w fun en w' => en = .returned (rdelivered_val lf ll lq p) ∧ Below w.heap.size w w' := by
  have h0 : (rdelivered_b0 lf ll lq p) := by
    unfold rdelivered_b0
    first | rfl | trivial | assumption | exact hpre | exact ⟨rfl, by omega⟩ | (simp only [bne_eq_false_iff_eq, bne_iff_ne, ne_eq, beq_iff_eq, beq_eq_false_iff_ne] at *; first | exact ⟨lsE_in (by assumption), pwE_in (by assumption)⟩ | exact lsE_in (by assumption) | exact pwE_in (by assumption))
  unfold rdelivered_b0 at h0
  have hp := rdelivered_p0 lf ll lq p ⟨trivial, h0⟩ w
  have hv : rdelivered_w0 lf ll lq p = (rdelivered_val lf ll lq p) := by
    clear hp
    unfold rdelivered_w0 rdelivered_val
    have q1 := lIn hpre.1 hpre.2
    have hp := hpre
    unfold lsIn pwIn at hp
    unfold dLo dHi
    (try simp (disch := omega) only [wi])
    (try simp only [max0, max0', max_if, max_if', Int.max_comm 0])
    (try rfl)
  exact hv ▸ hp
theorem k_rdelivered : ConOk Tryz.prog c_rdelivered := fun ns hl => by
  have hl0 : ns.length = 4 := hl
  clear hl
  obtain ⟨lf, ns0, rfl, hl1⟩ := len_cons hl0
  obtain ⟨ll, ns1, rfl, hl2⟩ := len_cons hl1
  obtain ⟨lq, ns2, rfl, hl3⟩ := len_cons hl2
  obtain ⟨p, ns3, rfl, hl4⟩ := len_cons hl3
  obtain rfl := len_nil hl4
  exact ⟨rfl, fun h w => rdelivered_any lf ll lq p h w⟩
end Go.Proofs.YthhgmnocigekaaaGreatDoor
end
section
set_option linter.all false
set_option maxRecDepth 1000000
open Go.RowKit
namespace Go.Proofs.YthhgmnocigekaaaGreatDoor
open Mini
noncomputable def ndrX : Code := loopOf Tryz.prog 17
noncomputable def ndrK : CallS := kAll [c_rdelivered]
def ndrL (lf ll lq pw : Int)  (i : Nat) : List MObj := [.cells [.int .i64 lf, .int .i64 ll, .int .i64 lq] 23 false 0 false]
def ndrA (lf ll lq pw : Int)  (i : Nat) : MA := MA.ofL 18 [.chan none, .int .i64 pw, .pointer (some ⟨4, 0, none⟩), .chan none, .int .i64 0, .bool false, .int .i64 ((i : Nat) : Int), .chan none, .chan none, .chan none, .chan none, .chan none, .chan none, .chan none, .chan none, .chan none, .chan none, .chan none] []
def ndrE (lf ll lq pw : Int)  (i : Nat) : MA := MA.ofL 18 [.chan none, .chan none, .chan none, .chan none, .chan none, .chan none, .chan none, .chan none, .chan none, .chan none, .chan none, .chan none, .chan none, .chan none, .chan none, .chan none, .chan none, .chan none] []
noncomputable def ndrR (lf ll lq pw : Int)  (i : Nat) : Option OutCS := evCRS Tryz.prog ndrK 1000 none false ndrX (ndrA lf ll lq pw i) (wS 4 (ndrL lf ll lq pw i)) ⟨[1, 0, .azz (.int .i64 ((i + 1 : Nat) : Int))], True⟩
noncomputable def ndrN (lf ll lq pw : Int)  (i : Nat) : Option OutCS := evCRS Tryz.prog ndrK 1000 none false ndrX (ndrA lf ll lq pw i) (wS 4 (ndrL lf ll lq pw i)) ⟨[0], True⟩
def ndrB (lf ll lq pw : Int)  (i : Nat) : MA := MA.ofL 18 [.chan none, .chan none, .chan none, .chan none, .int .i64 ((i : Nat) : Int), .bool true, .chan none, .chan none, .chan none, .chan none, .chan none, .chan none, .chan none, .chan none, .chan none, .chan none, .chan none, .chan none] []
noncomputable def ndrS (lf ll lq pw : Int)  (i : Nat) : Option OutCS := evCRS Tryz.prog ndrK 1000 none false ndrX (ndrA lf ll lq pw i) (wS 4 (ndrL lf ll lq pw i)) ⟨[1, 1], True⟩
theorem ndrK_ok : FOkS Tryz.prog ndrK := kAll_ok _ ⟨k_rdelivered, trivial⟩
section
variable (lf ll lq pw : Int)  (i : Nat)
theorem ndrR_eq : seenF 4 1 118 (ndrR lf ll lq pw i) = some (.normal, ndrA lf ll lq pw (i + 1), (ndrL lf ll lq pw (i + 1)), 16, 0, ⟨[], ((((True ∧ ((decide ((((i : Nat)) : Int) ≤ (1000 : Int))) = true)) ∧ ((lsIn lf ll lq) ∧ (pwIn (((i : Nat)) : Int)))) ∧ ((decide ((dLo lf ll lq (((i : Nat)) : Int)) ≥ pw)) = false)) ∧ (((.int .i64 (IntKind.i64.wrap ((((i : Nat)) : Int) + (1 : Int)))) : Value) = (.int .i64 ((((i + 1) : Nat)) : Int))))⟩) := by kernel_rfl
theorem ndrN_eq : seenF 4 1 0 (ndrN lf ll lq pw i) = some ((.exit (0 : Nat)), ndrE lf ll lq pw i, (ndrL lf ll lq pw i), 0, 0, ⟨[], (True ∧ ((decide ((((i : Nat)) : Int) ≤ (1000 : Int))) = false))⟩) := by kernel_rfl
theorem ndrS_eq : seenF 4 1 48 (ndrS lf ll lq pw i) = some (.ret, ndrB lf ll lq pw i, (ndrL lf ll lq pw i), 16, 0, ⟨[], (((True ∧ ((decide ((((i : Nat)) : Int) ≤ (1000 : Int))) = true)) ∧ ((lsIn lf ll lq) ∧ (pwIn (((i : Nat)) : Int)))) ∧ ((decide ((dLo lf ll lq (((i : Nat)) : Int)) ≥ pw)) = true))⟩) := by kernel_rfl
theorem ndrA_keep : allKeep (4 + 1) (ndrA lf ll lq pw i) 18 = true := by kernel_rfl
theorem ndrL_keep : ∀ o, o ∈ (ndrL lf ll lq pw i) → keepO (below (4 + 1)) o := fun o ho => by
  simp only [ndrL, List.mem_cons, List.not_mem_nil, or_false] at ho
  subst ho
  all_goals first | rfl | exact rowI_keep _ _ _ _ _ _ _ | exact fill_keep rfl (fun a => rfl)
end
theorem ndr_go (lf ll lq pw : Int)  {i : Nat} (hx : lsIn lf ll lq) (hn : True) (hi : i < 1001) (h0 : ¬ (dLo lf ll lq ((i : Nat) : Int) ≥ pw)) : SndC Tryz.prog none ndrX (ndrA lf ll lq pw i).act (wS 4 (ndrL lf ll lq pw i)) .normal (ndrA lf ll lq pw (i + 1)).act (wS 4 (ndrL lf ll lq pw (i + 1))) 16 0 := by
  have h := ndrR_eq lf ll lq pw i
  refine wayF_ok0 smx ndrK_ok sng h ?_ rfl (ndrA_keep lf ll lq pw i) (ndrL_keep lf ll lq pw i) (ndrL_keep lf ll lq pw (i + 1)) (by exact (by decide : ∀ b, b < 5 → Nat.testBit 0 b = false)) (by exact (by decide : ∀ b, b < 5 → Nat.testBit 16 b = true → Nat.testBit 16 b = true))
  repeat' (first | (with_reducible assumption) | exact hx | exact ⟨hx, by unfold pwIn; omega⟩ | apply And.intro)
  all_goals first | trivial | rfl | assumption | exact hx | exact ⟨hx, by unfold pwIn; omega⟩ | exact decide_eq_true (by omega) | exact decide_eq_false (by omega) | exact bne_iff_ne.2 (by assumption) | exact bne_eq_false_iff_eq.2 (by assumption) | exact beq_iff_eq.2 (by assumption) | exact beq_eq_false_iff_ne.2 (by assumption) | exact wnextV (by assumption) (by omega) | exact decide_eq_true h0 | exact decide_eq_false h0 | omega
theorem ndr_end (lf ll lq pw : Int)  {i : Nat} (hx : lsIn lf ll lq) (hn : True) (hi : ¬ i < 1001) : SndC Tryz.prog none ndrX (ndrA lf ll lq pw i).act (wS 4 (ndrL lf ll lq pw i)) (.exit 0) (ndrE lf ll lq pw i).act (wS 4 (ndrL lf ll lq pw i)) 16 0 := by
  have h := ndrN_eq lf ll lq pw i
  refine wayF_ok0 smx ndrK_ok sng h ?_ rfl (ndrA_keep lf ll lq pw i) (ndrL_keep lf ll lq pw i) (ndrL_keep lf ll lq pw i) (by exact (by decide : ∀ b, b < 5 → Nat.testBit 0 b = false)) (by exact (by decide : ∀ b, b < 5 → Nat.testBit 0 b = true → Nat.testBit 16 b = true))
  repeat' (first | (with_reducible assumption) | exact hx | exact ⟨hx, by unfold pwIn; omega⟩ | apply And.intro)
  all_goals first | trivial | rfl | assumption | exact hx | exact ⟨hx, by unfold pwIn; omega⟩ | exact decide_eq_true (by omega) | exact decide_eq_false (by omega) | exact bne_iff_ne.2 (by assumption) | exact bne_eq_false_iff_eq.2 (by assumption) | exact beq_iff_eq.2 (by assumption) | exact beq_eq_false_iff_ne.2 (by assumption) | exact wnextV (by assumption) (by omega) | exact decide_eq_true h0 | exact decide_eq_false h0 | omega
theorem ndr_stop (lf ll lq pw : Int)  {i : Nat} (hx : lsIn lf ll lq) (hn : True) (hi : i < 1001) (h0 : ¬ (¬ (dLo lf ll lq ((i : Nat) : Int) ≥ pw))) : SndC Tryz.prog none ndrX (ndrA lf ll lq pw i).act (wS 4 (ndrL lf ll lq pw i)) .ret (ndrB lf ll lq pw i).act (wS 4 (ndrL lf ll lq pw i)) 16 0 := by
  have h := ndrS_eq lf ll lq pw i
  refine wayF_ok0 smx ndrK_ok sng h ?_ rfl (ndrA_keep lf ll lq pw i) (ndrL_keep lf ll lq pw i) (ndrL_keep lf ll lq pw i) (by exact (by decide : ∀ b, b < 5 → Nat.testBit 0 b = false)) (by exact (by decide : ∀ b, b < 5 → Nat.testBit 16 b = true → Nat.testBit 16 b = true))
  repeat' (first | (with_reducible assumption) | exact hx | exact ⟨hx, by unfold pwIn; omega⟩ | apply And.intro)
  all_goals first | trivial | rfl | assumption | exact hx | exact ⟨hx, by unfold pwIn; omega⟩ | exact decide_eq_true (by omega) | exact decide_eq_false (by omega) | exact bne_iff_ne.2 (by assumption) | exact bne_eq_false_iff_eq.2 (by assumption) | exact beq_iff_eq.2 (by assumption) | exact beq_eq_false_iff_ne.2 (by assumption) | exact wnextV (by assumption) (by omega) | exact decide_eq_true h0 | exact decide_eq_false h0 | omega
theorem ndr_loop (lf ll lq pw : Int)  (hx : lsIn lf ll lq) (hn : True) : ((∀ i, i < 1001 → ¬ (dLo lf ll lq ((i : Nat) : Int) ≥ pw)) ∧ SndC Tryz.prog none (.loop ndrX) (ndrA lf ll lq pw 0).act (wS 4 (ndrL lf ll lq pw 0)) (.exit 0) (ndrE lf ll lq pw (1001)).act (wS 4 (ndrL lf ll lq pw (1001))) 16 0) ∨ ∃ j, j < 1001 ∧ (∀ i, i < j → ¬ (dLo lf ll lq ((i : Nat) : Int) ≥ pw)) ∧ ¬ (¬ (dLo lf ll lq ((j : Nat) : Int) ≥ pw)) ∧ SndC Tryz.prog none (.loop ndrX) (ndrA lf ll lq pw 0).act (wS 4 (ndrL lf ll lq pw 0)) .ret (ndrB lf ll lq pw j).act (wS 4 (ndrL lf ll lq pw j)) 16 0 :=
  loop_split (A := fun i => (ndrA lf ll lq pw i).act) (S := fun i => (wS 4 (ndrL lf ll lq pw i))) (A1 := fun i => (ndrB lf ll lq pw i).act) (S1 := fun i => (wS 4 (ndrL lf ll lq pw i))) (good := fun i => ¬ (dLo lf ll lq ((i : Nat) : Int) ≥ pw)) (fun i => Decidable.em _) (1001) (fun i hi h0 => ndr_go lf ll lq pw hx hn hi h0) (fun i hi h0 => ndr_stop lf ll lq pw hx hn hi h0) (ndr_end lf ll lq pw hx hn (Nat.lt_irrefl _)) (by simp) (by simp)
end Go.Proofs.YthhgmnocigekaaaGreatDoor
end
section
set_option linter.all false
set_option maxRecDepth 1000000
set_option maxHeartbeats 2000000
open Go.RowKit
namespace Go.Proofs.YthhgmnocigekaaaGreatDoor
open Mini

def cLosses_val (lf ll lq : Int) : Value := .int .i64 (lsE lf ll lq)
theorem cLosses_X : FOkS Tryz.prog x_cLosses := noXS_ok
theorem cLosses_args (lf ll lq : Int) : (#[.agg #[.int .i64 lf, .int .i64 ll, .int .i64 lq]] : Array Value).toList.all (ground 8) = true := by kernel_rfl
theorem cLosses_g0 : (true = true) := by first | rfl | trivial | decide | omega
theorem cLosses_g1 : ((0 : Int) = (0 : Int)) := by first | rfl | trivial | decide | omega
theorem cLosses_g2 : ((1 : Int) = (1 : Int)) := by first | rfl | trivial | decide | omega
theorem cLosses_g3 : ((2 : Int) = (2 : Int)) := by first | rfl | trivial | decide | omega
theorem cLosses_g4 : (false = false) := by first | rfl | trivial | decide | omega
def cLosses_c0 (lf ll lq : Int) : Bool := (Bool.not (Bool.and ((if ((1000 : Int) < (if ((0 : Int) > lf) then (0 : Int) else lf)) then (1000 : Int) else (if ((0 : Int) > lf) then (0 : Int) else lf)) == lf) (Bool.and ((if ((1000 : Int) < (if ((0 : Int) > ll) then (0 : Int) else ll)) then (1000 : Int) else (if ((0 : Int) > ll) then (0 : Int) else ll)) == ll) (Bool.and ((if ((1000 : Int) < (if ((0 : Int) > lq) then (0 : Int) else lq)) then (1000 : Int) else (if ((0 : Int) > lq) then (0 : Int) else lq)) == lq) Bool.true))))
def cLosses_w0 (lf ll lq : Int) : Value := .int .i64 (3 : Int)
def cLosses_r0 (lf ll lq : Int) : Prop := (((((((((((True ∧ ((true = true))) ∧ (((0 : Int) = (0 : Int)))) ∧ (((0 : Int) = (0 : Int)))) ∧ ((true = true))) ∧ (((1 : Int) = (1 : Int)))) ∧ (((1 : Int) = (1 : Int)))) ∧ ((true = true))) ∧ (((2 : Int) = (2 : Int)))) ∧ (((2 : Int) = (2 : Int)))) ∧ ((false = false))) ∧ (cLosses_c0 lf ll lq = true))
theorem cLosses_o0 (lf ll lq : Int) : obOf (cLosses_e0 lf ll lq) = cLosses_r0 lf ll lq := by kernel_rfl
theorem cLosses_v0 (lf ll lq : Int) : resOf (cLosses_e0 lf ll lq) = cLosses_w0 lf ll lq := by kernel_rfl
theorem cLosses_k0 (lf ll lq : Int) : cleanOf Tryz.prog.globals.size (cLosses_e0 lf ll lq) = true := by kernel_rfl
theorem cLosses_q0 (lf ll lq : Int) : cLosses_e0 lf ll lq = evFS Tryz.prog x_cLosses 1000 20 #[.agg #[.int .i64 lf, .int .i64 ll, .int .i64 lq]] (noTabs 4) ⟨[1, 0, 0, 1, 1, 1, 1, 2, 2, 0, 1], True⟩ := by
  delta cLosses_e0
  exact Eq.refl _
theorem cLosses_p0 (lf ll lq : Int) (h : cLosses_r0 lf ll lq) (w : World) : Calls Tryz.prog 20 #[.agg #[.int .i64 lf, .int .i64 ll, .int .i64 lq]] w fun en w' => en = .returned (cLosses_w0 lf ll lq) ∧ Below w.heap.size w w' := by
  have hv := cLosses_v0 lf ll lq
  have hc := cLosses_k0 lf ll lq
  have he := cLosses_q0 lf ll lq
  have ho := cLosses_o0 lf ll lq
  generalize cLosses_e0 lf ll lq = r at *
  exact calls_way he gfol cLosses_X hv rfl (cLosses_args lf ll lq) hc ho h (bl w)
def cLosses_w1 (lf ll lq : Int) : Value := .int .i64 (0 : Int)
def cLosses_r1 (lf ll lq : Int) : Prop := (((((((((((True ∧ ((true = true))) ∧ (((0 : Int) = (0 : Int)))) ∧ (((0 : Int) = (0 : Int)))) ∧ ((true = true))) ∧ (((1 : Int) = (1 : Int)))) ∧ (((1 : Int) = (1 : Int)))) ∧ ((true = true))) ∧ (((2 : Int) = (2 : Int)))) ∧ (((2 : Int) = (2 : Int)))) ∧ ((false = false))) ∧ (cLosses_c0 lf ll lq = false))
theorem cLosses_o1 (lf ll lq : Int) : obOf (cLosses_e1 lf ll lq) = cLosses_r1 lf ll lq := by kernel_rfl
theorem cLosses_v1 (lf ll lq : Int) : resOf (cLosses_e1 lf ll lq) = cLosses_w1 lf ll lq := by kernel_rfl
theorem cLosses_k1 (lf ll lq : Int) : cleanOf Tryz.prog.globals.size (cLosses_e1 lf ll lq) = true := by kernel_rfl
theorem cLosses_q1 (lf ll lq : Int) : cLosses_e1 lf ll lq = evFS Tryz.prog x_cLosses 1000 20 #[.agg #[.int .i64 lf, .int .i64 ll, .int .i64 lq]] (noTabs 4) ⟨[1, 0, 0, 1, 1, 1, 1, 2, 2, 0, 0], True⟩ := by
  delta cLosses_e1
  exact Eq.refl _
theorem cLosses_p1 (lf ll lq : Int) (h : cLosses_r1 lf ll lq) (w : World) : Calls Tryz.prog 20 #[.agg #[.int .i64 lf, .int .i64 ll, .int .i64 lq]] w fun en w' => en = .returned (cLosses_w1 lf ll lq) ∧ Below w.heap.size w w' := by
  have hv := cLosses_v1 lf ll lq
  have hc := cLosses_k1 lf ll lq
  have he := cLosses_q1 lf ll lq
  have ho := cLosses_o1 lf ll lq
  generalize cLosses_e1 lf ll lq = r at *
  exact calls_way he gfol cLosses_X hv rfl (cLosses_args lf ll lq) hc ho h (bl w)
theorem cLosses_any (lf ll lq : Int) (hpre : True) (w : World) : Calls Tryz.prog 20 #[.agg #[.int .i64 lf, .int .i64 ll, .int .i64 lq]] w fun en w' => en = .returned (cLosses_val lf ll lq) ∧ Below w.heap.size w w' := by
  rcases Bool.eq_false_or_eq_true (cLosses_c0 lf ll lq) with h0 | h0
  ·
    unfold cLosses_c0 at h0
    have hp := cLosses_p0 lf ll lq ⟨⟨⟨⟨⟨⟨⟨⟨⟨⟨⟨trivial, cLosses_g0⟩, cLosses_g1⟩, cLosses_g1⟩, cLosses_g0⟩, cLosses_g2⟩, cLosses_g2⟩, cLosses_g0⟩, cLosses_g3⟩, cLosses_g3⟩, cLosses_g4⟩, h0⟩ w
    have hv : cLosses_w0 lf ll lq = (cLosses_val lf ll lq) := by
      clear hp
      unfold cLosses_w0 cLosses_val
      rw [lsE_eq]
      (try simp only [Bool.and_eq_true, Bool.not_eq_true', Bool.and_eq_false_iff, bne_iff_ne, beq_iff_eq, ne_eq, beq_eq_false_iff_ne, decide_eq_true_eq, decide_eq_false_iff_not, Bool.not_eq_false, Bool.not_eq_true] at *)
      first | (rw [if_pos (by omega)]; done) | (rw [if_neg (by omega)]; done) | grind
    exact hv ▸ hp
  ·
    unfold cLosses_c0 at h0
    have hp := cLosses_p1 lf ll lq ⟨⟨⟨⟨⟨⟨⟨⟨⟨⟨⟨trivial, cLosses_g0⟩, cLosses_g1⟩, cLosses_g1⟩, cLosses_g0⟩, cLosses_g2⟩, cLosses_g2⟩, cLosses_g0⟩, cLosses_g3⟩, cLosses_g3⟩, cLosses_g4⟩, h0⟩ w
    have hv : cLosses_w1 lf ll lq = (cLosses_val lf ll lq) := by
      clear hp
      unfold cLosses_w1 cLosses_val
      rw [lsE_eq]
      (try simp only [Bool.and_eq_true, Bool.not_eq_true', Bool.and_eq_false_iff, bne_iff_ne, beq_iff_eq, ne_eq, beq_eq_false_iff_ne, decide_eq_true_eq, decide_eq_false_iff_not, Bool.not_eq_false, Bool.not_eq_true] at *)
      first | (rw [if_pos (by omega)]; done) | (rw [if_neg (by omega)]; done) | grind
    exact hv ▸ hp
theorem k_cLosses : ConOk Tryz.prog c_cLosses := fun ns hl => by
  have hl0 : ns.length = 3 := hl
  clear hl
  obtain ⟨lf, ns0, rfl, hl1⟩ := len_cons hl0
  obtain ⟨ll, ns1, rfl, hl2⟩ := len_cons hl1
  obtain ⟨lq, ns2, rfl, hl3⟩ := len_cons hl2
  obtain rfl := len_nil hl3
  exact ⟨rfl, fun h w => cLosses_any lf ll lq h w⟩
end Go.Proofs.YthhgmnocigekaaaGreatDoor
end
section
set_option linter.all false
set_option maxRecDepth 1000000
open Go.RowKit
namespace Go.Proofs.YthhgmnocigekaaaGreatDoor
open Mini
noncomputable def ndK : CallS := kAll [c_cLosses, c_cPower, c_delivered]
def ndArgs (lf ll lq pw : Int) : Array Value := #[.agg #[.int .i64 lf, .int .i64 ll, .int .i64 lq], .int .i64 pw]
noncomputable def nd_1 (lf ll lq pw : Int) : Option OutS := evFS Tryz.prog ndK 1000 11 (ndArgs lf ll lq pw) (wS 4 []) ⟨[1, 0, 1, 1], True⟩
noncomputable def nd_2 (lf ll lq pw : Int) : Option OutS := evFS Tryz.prog ndK 1000 11 (ndArgs lf ll lq pw) (wS 4 []) ⟨[1, 0, 0, 1, 1, 1, 1], True⟩
noncomputable def nd_3 (lf ll lq pw : Int) (j : Nat) : Option OutS := evFS Tryz.prog ndK 1000 11 (ndArgs lf ll lq pw) (wS 4 []) ⟨[1, 0, 0, 1, 1, 0, 0, 0, .lp 131126 (ndlA lf ll lq pw 0) 4 (ndlL lf ll lq pw 0) .ret (ndlB lf ll lq pw j) (ndlL lf ll lq pw j) 48 0], True⟩
noncomputable def nd_4 (lf ll lq pw : Int) : Option OutS := evFS Tryz.prog ndK 1000 11 (ndArgs lf ll lq pw) (wS 4 []) ⟨[1, 0, 0, 1, 1, 0, 0, 0, .lp 131126 (ndlA lf ll lq pw 0) 4 (ndlL lf ll lq pw 0) (.exit 0) (ndlE lf ll lq pw 1001) (ndlL lf ll lq pw 1001) 48 0], True⟩
noncomputable def nr_3 (lf ll lq pw : Int) (j : Nat) : Option OutS := evFS Tryz.prog noXS 1000 17 (ndArgs lf ll lq pw) (wS 4 []) ⟨[.lp 118 (ndrA lf ll lq pw 0) 4 (ndrL lf ll lq pw 0) .ret (ndrB lf ll lq pw j) (ndrL lf ll lq pw j) 16 0], True⟩
noncomputable def nr_4 (lf ll lq pw : Int) : Option OutS := evFS Tryz.prog noXS 1000 17 (ndArgs lf ll lq pw) (wS 4 []) ⟨[.lp 118 (ndrA lf ll lq pw 0) 4 (ndrL lf ll lq pw 0) (.exit 0) (ndrE lf ll lq pw 1001) (ndrL lf ll lq pw 1001) 16 0], True⟩
theorem ndK_ok : FOkS Tryz.prog ndK := kAll_ok _ ⟨k_cLosses, k_cPower, k_delivered, trivial⟩
def firstI (q : Nat → Bool) : Nat → Nat → Nat
  | 0, i => i
  | m + 1, i => match q i with
    | true => i
    | false => firstI q m (i + 1)
theorem firstI_none {q : Nat → Bool} : ∀ {m i : Nat}, (∀ k, i ≤ k → k < i + m → q k = false) → firstI q m i = i + m
  | 0, i, h => rfl
  | m + 1, i, h => by
    rw [firstI, h i (Nat.le_refl _) (by omega)]
    have := firstI_none (m := m) (i := i + 1) fun k h1 h2 => h k (by omega) (by omega)
    simp only [this]; omega
theorem firstI_some {q : Nat → Bool} : ∀ {m i j : Nat}, i ≤ j → j < i + m → (∀ k, i ≤ k → k < j → q k = false) → q j = true → firstI q m i = j
  | 0, i, j, h1, h2, h, hj => by omega
  | m + 1, i, j, h1, h2, h, hj => by
    rw [firstI]
    rcases Nat.eq_or_lt_of_le h1 with e | e
    · subst e; rw [hj]
    · rw [h i (Nat.le_refl _) e]
      exact firstI_some (by omega) (by omega) (fun k h1 h2 => h k (by omega) h2) hj
def ndF (lf ll lq pw : Int) : Nat := firstI (fun i => decide (dLo lf ll lq ((i : Nat) : Int) ≥ pw)) 1001 0
def ndP (lf ll lq pw : Int) : Int := if ndF lf ll lq pw < 1001 then ((ndF lf ll lq pw : Nat) : Int) else 0
def ndB (lf ll lq pw : Int) : Bool := decide (ndF lf ll lq pw < 1001)
def ndE (lf ll lq pw : Int) : Int := th2 (lsE lf ll lq) (pwE pw)
def ndV (lf ll lq pw : Int) : Value := .tuple #[.int .i64 (if ndE lf ll lq pw = 0 then ndP lf ll lq pw else 0), .int .i64 (if ndE lf ll lq pw = 0 then (if ndB lf ll lq pw = true then 0 else 7) else ndE lf ll lq pw)]
def nrV (lf ll lq pw : Int) : Value := .tuple #[.int .i64 (ndP lf ll lq pw), .bool (ndB lf ll lq pw)]
theorem ndF_some {lf ll lq pw : Int} {j : Nat} (hj : j < 1001) (h1 : ∀ i, i < j → ¬ (dLo lf ll lq ((i : Nat) : Int) ≥ pw)) (h2 : ¬ ¬ (dLo lf ll lq ((j : Nat) : Int) ≥ pw)) : ndP lf ll lq pw = ((j : Nat) : Int) ∧ ndB lf ll lq pw = true := by
  have e : ndF lf ll lq pw = j := firstI_some (Nat.zero_le _) (by omega) (fun k _ hk => decide_eq_false (h1 k hk)) (decide_eq_true (Decidable.not_not.1 h2))
  unfold ndP ndB
  rw [e, if_pos hj]
  exact ⟨rfl, decide_eq_true hj⟩
theorem ndF_none {lf ll lq pw : Int} (h1 : ∀ i, i < 1001 → ¬ (dLo lf ll lq ((i : Nat) : Int) ≥ pw)) : ndP lf ll lq pw = 0 ∧ ndB lf ll lq pw = false := by
  have e : ndF lf ll lq pw = 0 + 1001 := firstI_none fun k _ hk => decide_eq_false (h1 k (by omega))
  unfold ndP ndB
  rw [e]
  exact ⟨rfl, rfl⟩
section
variable (lf ll lq pw : Int) (j : Nat)
theorem nd_1eq : nd_1 lf ll lq pw = some ((.tuple #[(.int .i64 (0 : Int)), (.int .i64 (lsE lf ll lq))]), wldOf (nd_1 lf ll lq pw), 0, 0, ⟨[], ((((((True ∧ True) ∧ True) ∧ ((decide ((0 : Int) < (((2 : Nat)) : Int))) = true)) ∧ ((0 : Int) = (Int.ofNat 0))) ∧ (((lsE lf ll lq) != (0 : Int)) = true)) ∧ (((lsE lf ll lq) != (0 : Int)) = true))⟩) := by kernel_rfl
theorem nd_2eq : nd_2 lf ll lq pw = some ((.tuple #[(.int .i64 (0 : Int)), (.int .i64 (pwE pw))]), wldOf (nd_2 lf ll lq pw), 0, 0, ⟨[], (((((((((True ∧ True) ∧ True) ∧ ((decide ((0 : Int) < (((2 : Nat)) : Int))) = true)) ∧ ((0 : Int) = (Int.ofNat 0))) ∧ (((lsE lf ll lq) != (0 : Int)) = false)) ∧ ((decide ((IntKind.i64.wrap ((0 : Int) + (1 : Int))) < (((2 : Nat)) : Int))) = true)) ∧ ((IntKind.i64.wrap ((0 : Int) + (1 : Int))) = (Int.ofNat 1))) ∧ (((pwE pw) != (0 : Int)) = true)) ∧ (((pwE pw) != (0 : Int)) = true))⟩) := by kernel_rfl
theorem nd_3eq : nd_3 lf ll lq pw j = some ((.tuple #[(.int .i64 (((j : Nat)) : Int)), (.int .i64 (0 : Int))]), wldOf (nd_3 lf ll lq pw j), 0, 0, ⟨[], (((((((((((True ∧ True) ∧ True) ∧ ((decide ((0 : Int) < (((2 : Nat)) : Int))) = true)) ∧ ((0 : Int) = (Int.ofNat 0))) ∧ (((lsE lf ll lq) != (0 : Int)) = false)) ∧ ((decide ((IntKind.i64.wrap ((0 : Int) + (1 : Int))) < (((2 : Nat)) : Int))) = true)) ∧ ((IntKind.i64.wrap ((0 : Int) + (1 : Int))) = (Int.ofNat 1))) ∧ (((pwE pw) != (0 : Int)) = false)) ∧ ((decide ((IntKind.i64.wrap ((IntKind.i64.wrap ((0 : Int) + (1 : Int))) + (1 : Int))) < (((2 : Nat)) : Int))) = false)) ∧ (((0 : Int) != (0 : Int)) = false)) ∧ ((((ndlA lf ll lq pw (0 : Nat)) = (ndlA lf ll lq pw (0 : Nat))) ∧ ((6 = (4 + 2)) ∧ ((HAppend.hAppend (List.replicate (4 : Nat) MObj.hole) (ndlL lf ll lq pw (0 : Nat))) = (HAppend.hAppend (List.replicate (4 : Nat) MObj.hole) (ndlL lf ll lq pw (0 : Nat)))))) ∧ SndC Tryz.prog none (.loop ndlX) (ndlA lf ll lq pw 0).act (wS 4 (ndlL lf ll lq pw 0)) .ret (ndlB lf ll lq pw j).act (wS 4 (ndlL lf ll lq pw j)) 48 0))⟩) := by kernel_rfl
theorem nd_4eq : nd_4 lf ll lq pw = some ((.tuple #[(.int .i64 (0 : Int)), (.int .i64 (7 : Int))]), wldOf (nd_4 lf ll lq pw), 0, 0, ⟨[], (((((((((((True ∧ True) ∧ True) ∧ ((decide ((0 : Int) < (((2 : Nat)) : Int))) = true)) ∧ ((0 : Int) = (Int.ofNat 0))) ∧ (((lsE lf ll lq) != (0 : Int)) = false)) ∧ ((decide ((IntKind.i64.wrap ((0 : Int) + (1 : Int))) < (((2 : Nat)) : Int))) = true)) ∧ ((IntKind.i64.wrap ((0 : Int) + (1 : Int))) = (Int.ofNat 1))) ∧ (((pwE pw) != (0 : Int)) = false)) ∧ ((decide ((IntKind.i64.wrap ((IntKind.i64.wrap ((0 : Int) + (1 : Int))) + (1 : Int))) < (((2 : Nat)) : Int))) = false)) ∧ (((0 : Int) != (0 : Int)) = false)) ∧ ((((ndlA lf ll lq pw (0 : Nat)) = (ndlA lf ll lq pw (0 : Nat))) ∧ ((6 = (4 + 2)) ∧ ((HAppend.hAppend (List.replicate (4 : Nat) MObj.hole) (ndlL lf ll lq pw (0 : Nat))) = (HAppend.hAppend (List.replicate (4 : Nat) MObj.hole) (ndlL lf ll lq pw (0 : Nat)))))) ∧ SndC Tryz.prog none (.loop ndlX) (ndlA lf ll lq pw 0).act (wS 4 (ndlL lf ll lq pw 0)) (.exit 0) (ndlE lf ll lq pw 1001).act (wS 4 (ndlL lf ll lq pw 1001)) 48 0))⟩) := by kernel_rfl
theorem nr_3eq : nr_3 lf ll lq pw j = some ((.tuple #[(.int .i64 (((j : Nat)) : Int)), (.bool true)]), wldOf (nr_3 lf ll lq pw j), 0, 0, ⟨[], (True ∧ ((((ndrA lf ll lq pw (0 : Nat)) = (ndrA lf ll lq pw (0 : Nat))) ∧ ((5 = (4 + 1)) ∧ ((HAppend.hAppend (List.replicate (4 : Nat) MObj.hole) (ndrL lf ll lq pw (0 : Nat))) = (HAppend.hAppend (List.replicate (4 : Nat) MObj.hole) (ndrL lf ll lq pw (0 : Nat)))))) ∧ SndC Tryz.prog none (.loop ndrX) (ndrA lf ll lq pw 0).act (wS 4 (ndrL lf ll lq pw 0)) .ret (ndrB lf ll lq pw j).act (wS 4 (ndrL lf ll lq pw j)) 16 0))⟩) := by kernel_rfl
theorem nr_4eq : nr_4 lf ll lq pw = some ((.tuple #[(.int .i64 (0 : Int)), (.bool false)]), wldOf (nr_4 lf ll lq pw), 0, 0, ⟨[], (True ∧ ((((ndrA lf ll lq pw (0 : Nat)) = (ndrA lf ll lq pw (0 : Nat))) ∧ ((5 = (4 + 1)) ∧ ((HAppend.hAppend (List.replicate (4 : Nat) MObj.hole) (ndrL lf ll lq pw (0 : Nat))) = (HAppend.hAppend (List.replicate (4 : Nat) MObj.hole) (ndrL lf ll lq pw (0 : Nat)))))) ∧ SndC Tryz.prog none (.loop ndrX) (ndrA lf ll lq pw 0).act (wS 4 (ndrL lf ll lq pw 0)) (.exit 0) (ndrE lf ll lq pw 1001).act (wS 4 (ndrL lf ll lq pw 1001)) 16 0))⟩) := by kernel_rfl
end
theorem nd_sndF (lf ll lq pw : Int) : ∃ R, SndF Tryz.prog 11 (ndArgs lf ll lq pw) (wS 4 []) (ndV lf ll lq pw) (wS 4 []) R 0 := by
  unfold ndV ndE
  by_cases h1 : lsE lf ll lq = 0
  · by_cases h2 : pwE pw = 0
    · rw [show th2 (lsE lf ll lq) (pwE pw) = 0 from (if_pos h1).trans h2, if_pos rfl, if_pos rfl]
      rcases ndl_loop lf ll lq pw (lsE_in h1) trivial with ⟨h3, hl⟩ | ⟨j, hj, h3, h4, hl⟩
      · obtain ⟨e1, e2⟩ := ndF_none h3
        rw [e1, e2, if_neg (by decide)]
        apply Exists.intro
        refine SndF.tidy0 (l := []) ((evFS_ok smx ndK_ok 1000 _ _ _ _ _ _ _ _ _ (show evFS _ _ _ _ _ _ _ = _ from nd_4eq lf ll lq pw)).2 ?_) sng (fun o ho => by cases ho) (by exact (by decide : ∀ b, b < 4 → Nat.testBit 0 b = false)) (by kernel_rfl) rfl
        repeat' (first | (with_reducible assumption) | exact hl | apply And.intro)
        all_goals first | trivial | rfl | assumption | exact hl | exact decide_eq_true (by omega) | exact decide_eq_false (by omega) | exact bne_iff_ne.2 (by assumption) | exact bne_eq_false_iff_eq.2 (by assumption) | exact beq_iff_eq.2 (by assumption) | exact beq_eq_false_iff_ne.2 (by assumption) | exact wnextV (by assumption) (by omega) | omega
      · obtain ⟨e1, e2⟩ := ndF_some hj h3 h4
        rw [e1, e2, if_pos rfl]
        apply Exists.intro
        refine SndF.tidy0 (l := []) ((evFS_ok smx ndK_ok 1000 _ _ _ _ _ _ _ _ _ (show evFS _ _ _ _ _ _ _ = _ from nd_3eq lf ll lq pw j)).2 ?_) sng (fun o ho => by cases ho) (by exact (by decide : ∀ b, b < 4 → Nat.testBit 0 b = false)) (by kernel_rfl) rfl
        repeat' (first | (with_reducible assumption) | exact hl | apply And.intro)
        all_goals first | trivial | rfl | assumption | exact hl | exact decide_eq_true (by omega) | exact decide_eq_false (by omega) | exact bne_iff_ne.2 (by assumption) | exact bne_eq_false_iff_eq.2 (by assumption) | exact beq_iff_eq.2 (by assumption) | exact beq_eq_false_iff_ne.2 (by assumption) | exact wnextV (by assumption) (by omega) | omega
    · rw [show th2 (lsE lf ll lq) (pwE pw) = pwE pw from if_pos h1, if_neg h2, if_neg h2]
      apply Exists.intro
      refine SndF.tidy0 (l := []) ((evFS_ok smx ndK_ok 1000 _ _ _ _ _ _ _ _ _ (show evFS _ _ _ _ _ _ _ = _ from nd_2eq lf ll lq pw)).2 ?_) sng (fun o ho => by cases ho) (by exact (by decide : ∀ b, b < 4 → Nat.testBit 0 b = false)) (by kernel_rfl) rfl
      repeat' (first | (with_reducible assumption) | exact hl | apply And.intro)
      all_goals first | trivial | rfl | assumption | exact hl | exact decide_eq_true (by omega) | exact decide_eq_false (by omega) | exact bne_iff_ne.2 (by assumption) | exact bne_eq_false_iff_eq.2 (by assumption) | exact beq_iff_eq.2 (by assumption) | exact beq_eq_false_iff_ne.2 (by assumption) | exact wnextV (by assumption) (by omega) | omega
  · rw [show th2 (lsE lf ll lq) (pwE pw) = lsE lf ll lq from if_neg h1, if_neg h1, if_neg h1]
    apply Exists.intro
    refine SndF.tidy0 (l := []) ((evFS_ok smx ndK_ok 1000 _ _ _ _ _ _ _ _ _ (show evFS _ _ _ _ _ _ _ = _ from nd_1eq lf ll lq pw)).2 ?_) sng (fun o ho => by cases ho) (by exact (by decide : ∀ b, b < 4 → Nat.testBit 0 b = false)) (by kernel_rfl) rfl
    repeat' (first | (with_reducible assumption) | exact hl | apply And.intro)
    all_goals first | trivial | rfl | assumption | exact hl | exact decide_eq_true (by omega) | exact decide_eq_false (by omega) | exact bne_iff_ne.2 (by assumption) | exact bne_eq_false_iff_eq.2 (by assumption) | exact beq_iff_eq.2 (by assumption) | exact beq_eq_false_iff_ne.2 (by assumption) | exact wnextV (by assumption) (by omega) | omega
theorem nr_sndF (lf ll lq pw : Int) (hx : lsIn lf ll lq) : ∃ R, SndF Tryz.prog 17 (ndArgs lf ll lq pw) (wS 4 []) (nrV lf ll lq pw) (wS 4 []) R 0 := by
  unfold nrV
  rcases ndr_loop lf ll lq pw hx trivial with ⟨h3, hl⟩ | ⟨j, hj, h3, h4, hl⟩
  · obtain ⟨e1, e2⟩ := ndF_none h3
    rw [e1, e2]
    apply Exists.intro
    refine SndF.tidy0 (l := []) ((evFS_ok smx noXS_ok 1000 _ _ _ _ _ _ _ _ _ (show evFS _ _ _ _ _ _ _ = _ from nr_4eq lf ll lq pw)).2 ?_) sng (fun o ho => by cases ho) (by exact (by decide : ∀ b, b < 4 → Nat.testBit 0 b = false)) (by kernel_rfl) rfl
    repeat' (first | (with_reducible assumption) | exact hl | apply And.intro)
    all_goals first | trivial | rfl | assumption | exact hl | exact decide_eq_true (by omega) | exact decide_eq_false (by omega) | exact bne_iff_ne.2 (by assumption) | exact bne_eq_false_iff_eq.2 (by assumption) | exact beq_iff_eq.2 (by assumption) | exact beq_eq_false_iff_ne.2 (by assumption) | exact wnextV (by assumption) (by omega) | omega
  · obtain ⟨e1, e2⟩ := ndF_some hj h3 h4
    rw [e1, e2]
    apply Exists.intro
    refine SndF.tidy0 (l := []) ((evFS_ok smx noXS_ok 1000 _ _ _ _ _ _ _ _ _ (show evFS _ _ _ _ _ _ _ = _ from nr_3eq lf ll lq pw j)).2 ?_) sng (fun o ho => by cases ho) (by exact (by decide : ∀ b, b < 4 → Nat.testBit 0 b = false)) (by kernel_rfl) rfl
    repeat' (first | (with_reducible assumption) | exact hl | apply And.intro)
    all_goals first | trivial | rfl | assumption | exact hl | exact decide_eq_true (by omega) | exact decide_eq_false (by omega) | exact bne_iff_ne.2 (by assumption) | exact bne_eq_false_iff_eq.2 (by assumption) | exact beq_iff_eq.2 (by assumption) | exact beq_eq_false_iff_ne.2 (by assumption) | exact wnextV (by assumption) (by omega) | omega
def c_needed : Con := ⟨11, [.agg [.i64, .i64, .i64], .int .i64], fun ns => match ns with | [lf, ll, lq, pw] => ndV lf ll lq pw | _ => .bool true, fun ns => match ns with | [lf, ll, lq, pw] => True | _ => True⟩
theorem k_needed : ConOk Tryz.prog c_needed := fun ns hl => by
  have hl0 : ns.length = 4 := hl
  clear hl
  obtain ⟨lf, ns0, rfl, hl1⟩ := len_cons hl0
  obtain ⟨ll, ns1, rfl, hl2⟩ := len_cons hl1
  obtain ⟨lq, ns2, rfl, hl3⟩ := len_cons hl2
  obtain ⟨pw, ns3, rfl, hl4⟩ := len_cons hl3
  obtain rfl := len_nil hl4
  refine ⟨rfl, fun h w => ?_⟩
  obtain ⟨R, hs⟩ := nd_sndF lf ll lq pw
  exact calls_of (s1 := wS 4 []) (W := 0) hs rfl rfl (fun b _ => by simp) (bl w)
def c_rneeded : Con := ⟨17, [.agg [.i64, .i64, .i64], .int .i64], fun ns => match ns with | [lf, ll, lq, pw] => nrV lf ll lq pw | _ => .bool true, fun ns => match ns with | [lf, ll, lq, pw] => lsIn lf ll lq | _ => True⟩
theorem k_rneeded : ConOk Tryz.prog c_rneeded := fun ns hl => by
  have hl0 : ns.length = 4 := hl
  clear hl
  obtain ⟨lf, ns0, rfl, hl1⟩ := len_cons hl0
  obtain ⟨ll, ns1, rfl, hl2⟩ := len_cons hl1
  obtain ⟨lq, ns2, rfl, hl3⟩ := len_cons hl2
  obtain ⟨pw, ns3, rfl, hl4⟩ := len_cons hl3
  obtain rfl := len_nil hl4
  refine ⟨rfl, fun h w => ?_⟩
  obtain ⟨R, hs⟩ := nr_sndF lf ll lq pw h
  exact calls_of (s1 := wS 4 []) (W := 0) hs rfl rfl (fun b _ => by simp) (bl w)
end Go.Proofs.YthhgmnocigekaaaGreatDoor
end
section
namespace Go.Proofs.YthhgmnocigekaaaGreatDoor
set_option linter.all false
namespace Mini
variable {P : Program} {R : Nat}
theorem wT_get (T l : List MObj) {b : Nat} (h : T.length ≤ b) : (wS 0 (T ++ l)).get b = (wS T.length l).get b := by
  have e1 := wS_get 0 (T ++ l) b
  have e2 := wS_get T.length l (b - T.length)
  rw [Nat.zero_add] at e1
  rw [show T.length + (b - T.length) = b from by omega] at e2
  rw [e1, e2]
  simp only [List.getD_eq_getElem?_getD]
  rw [List.getElem?_append_right h]
def keepN (B : Nat) : Nat → Option Nat := fun b => if b < B then some b else none
theorem keepN_some {B b x : Nat} (h : keepN B b = some x) : b < B ∧ x = b := by
  unfold keepN at h
  split at h
  · rename_i hc; cases h; exact ⟨hc, rfl⟩
  · cases h
theorem keepN_lt {B b : Nat} (h : b < B) : keepN B b = some b := if_pos h
theorem Snd.tabs {tr : Tr} {A A1 : MA} {e : Exit} {T l0 l1 : List MObj} (hN : T.length = P.globals.size) (h : Snd P none tr A.act (wS T.length l0) e A1.act (wS T.length l1) R 0) (hl : l0.length ≤ l1.length)
    (hR : ∀ b, b < T.length → R.testBit b = false) (h0 : ∀ o, o ∈ l0 → keepO (below (T.length + l0.length)) o) (hk1 : ∀ o, o ∈ l1 → keepO (below (T.length + l1.length)) o) (hd : A.defers = []) (hd1 : A1.defers = [])
    (hA : allKeep (T.length + l0.length) A A.n = true) (hA1 : allKeep (T.length + l1.length) A1 A1.n = true) : Snd P none tr A.act (wS 0 (T ++ l0)) e A1.act (wS 0 (T ++ l1)) R 0 := by
  have hst := h.1
  have n0 : (wS T.length l0).next = T.length + l0.length := wS_next _ _
  have n1 : (wS T.length l1).next = T.length + l1.length := wS_next _ _
  have m0 : (wS 0 (T ++ l0)).next = T.length + l0.length := by rw [wS_next, List.length_append]; omega
  have m1 : (wS 0 (T ++ l1)).next = T.length + l1.length := by rw [wS_next, List.length_append]; omega
  have hb0 : ∀ {B b : Nat}, below B b = true → b < B := fun h => Nat.le_of_ble_eq_true h
  refine h.embed (ι := id) (κ := keepN (T.length + l1.length)) ⟨fun g hg => ⟨by rw [n0]; omega, rfl⟩, fun b hb => by rw [m0]; rw [n0] at hb; exact hb, fun b b' _ _ h => h, fun b _ h => h, fun b _ hw => by simp at hw, fun b hb hbit => ?_, ⟨by rw [m0, m1]; omega, fun b hb hw => ?_⟩, fun b hb => ?_, fun b x hb hx => ?_, fun b b' x h1 h2 => ?_, fun x hx hxw => by simp at hxw, fun x h1 h2 => ?_⟩ (.inl ⟨rfl, rfl⟩) ?_ ?_
  · have hb2 : T.length ≤ b := by
      rcases Nat.lt_or_ge b T.length with c | c
      · rw [or_bit, hR b c] at hbit; simp at hbit
      · exact c
    show WO _ ((wS 0 (T ++ l0)).get b) _
    rw [wT_get T l0 hb2]
    refine keep_wo (N := below (T.length + l0.length)) (fun x hx => ⟨by rw [n0]; exact hb0 hx, rfl⟩) ?_
    have e2 := wS_get T.length l0 (b - T.length)
    rw [show T.length + (b - T.length) = b from by omega] at e2
    rw [e2]
    exact h0 _ (getD_mem (by rw [n0] at hb; omega))
  · rw [m0] at hb
    rcases Nat.lt_or_ge b T.length with c | c
    · have e1 := wS_get 0 (T ++ l0) b
      have e2 := wS_get 0 (T ++ l1) b
      rw [Nat.zero_add] at e1 e2
      rw [e1, e2]
      simp only [List.getD_eq_getElem?_getD]
      rw [List.getElem?_append_left c, List.getElem?_append_left c]
    · rw [wT_get T l0 c, wT_get T l1 c]
      exact hst.2 b (by rw [n0]; exact hb) (by simp)
  · rw [n0] at hb
    exact keepN_lt (by omega)
  · rw [n0] at hb
    obtain ⟨hc, rfl⟩ := keepN_some hx
    exact ⟨by rw [m0]; exact hb, by rw [m1]; exact hc⟩
  · rw [← (keepN_some h1).2, ← (keepN_some h2).2]
  · rw [m0] at h1
    rw [m1] at h2
    refine .inr ⟨x, by rw [n0]; exact h1, by rw [n1]; exact h2, keepN_lt h2, ?_⟩
    rw [wT_get T l1 (by omega)]
    refine keep_wo (N := below (T.length + l1.length)) (fun y hy => keepN_lt (hb0 hy)) ?_
    have e2 := wS_get T.length l1 (x - T.length)
    rw [show T.length + (x - T.length) = x from by omega] at e2
    rw [e2]
    exact hk1 _ (getD_mem (by omega))
  · exact (fits_self hd hA).wa (fun x hx => ⟨by rw [n0]; exact hb0 hx, rfl⟩)
  · exact (fits_self hd1 hA1).wa (fun x hx => keepN_lt (hb0 hx))
end Mini
end Go.Proofs.YthhgmnocigekaaaGreatDoor
end
section
namespace Go.Proofs.YthhgmnocigekaaaGreatDoor
set_option linter.all false
namespace Mini
variable {P : Program}
theorem last_told {T : Tr} {l : List MObj} {A A1 : MA} {e : Exit} {o0 o1 o2 : MObj} {N R W : Nat} (h : Snd P none T A.act (wS N (l ++ [o0])) e A1.act (wS N (l ++ [o1])) R W) (hN : N = P.globals.size)
    (hk : ∀ o, o ∈ l ++ [o0] → keepO (below (N + l.length)) o) (h0 : o0 ≠ .hole ∧ roO o0 = false) (hW : ∀ b, b < N + l.length → W.testBit b = false) (hWc : W.testBit (N + l.length) = true) (hRc : R.testBit (N + l.length) = true) (hwo : ∀ f : Nm, WO f o1 o2)
    (hd : A.defers = []) (hd1 : A1.defers = []) (hA : allKeep (N + l.length + 1) A A.n = true) (hA1 : allKeep (N + l.length + 1) A1 A1.n = true) : Snd P none T A.act (wS N (l ++ [o0])) e A1.act (wS N (l ++ [o2])) R W := by
  have hb0 : ∀ {B b : Nat}, below B b = true → b < B := fun h => Nat.le_of_ble_eq_true h
  have hsh : ∀ y, shN (N + l.length) 0 y = y := fun y => by unfold shN; split <;> omega
  have hget : (wS N (l ++ [o1])).get (N + l.length) = o1 := by
    rw [wS_get, getD_app, if_neg (Nat.lt_irrefl _), Nat.sub_self]; rfl
  have key := shift (l := l) (c0 := [o0]) (c1 := [o2]) (n1 := []) (a' := A.act) (a2 := A1.act) (R := R) (W := W) (j := 0) (ro := none) h hN rfl (.inl ⟨rfl, rfl⟩)
    (fun o ho f hf => keep_wo (N := below (N + l.length)) (fun b hb => hf b (hb0 hb)) (hk o ho)) (fun o ho => by rw [List.mem_singleton.1 ho]; exact h0) hW
    (fun i hi => by
      have : i = 0 := by simpa using hi
      subst this
      rw [Nat.add_zero]
      exact ⟨fun _ f _ => by rw [hget]; exact hwo f, fun hw => by rw [hWc] at hw; cases hw⟩)
    (fun b _ hb => hb) (fun i hi => by
      have : i = 0 := by simpa using hi
      subst this
      exact hRc) (fun b hb => hW b hb) (fun i hi => rfl)
    ((fits_self hd hA).wa (fun x hx => ⟨hb0 hx, (hsh x).symm⟩))
    ((fits_self hd1 hA1).wa (fun x hx => by
      have := hb0 hx
      show kap _ _ _ _ x = some x
      unfold kap
      by_cases c : x < N + l.length
      · rw [if_pos c]
      · rw [if_neg c, if_pos (by simpa using this)]; rfl))
  simpa using key
theorem fill_told {f : Nm} {z : List Value} {w : Nat → List Value} {n k : Nat} {G : Nat → Nat → Int} {e : TypeId} {opn : Bool} {sz : Nat} {ro : Bool} (h : ∀ i j, i < n → j < k → (w i).getD j (.chan none) = .int .i64 (G i j)) : WO f (.rows n k (fun a j => (if a < n then w a else z).getD j (.chan none)) e opn sz ro) (.rows n k (fun i j => .int .i64 (G i j)) e opn sz ro) :=
  wo_rows (congrArg (fun l => MObj.cells l e opn sz ro) (rowsL_congr fun i j hi hj => by
    simp only [if_pos hi]; exact h i j hi hj)) fun i j _ _ => rfl
end Mini
end Go.Proofs.YthhgmnocigekaaaGreatDoor
end
section
set_option linter.all false
set_option maxRecDepth 1000000
open Go.RowKit
namespace Go.Proofs.YthhgmnocigekaaaGreatDoor
open Mini
def blG (lf ll lq : Int) (g : Nat → Nat → Int) : Nat → Nat → Int := fun i j => match j with
  | 0 => dLo lf ll lq (g i 0)
  | _ => dHi lf ll lq (g i 0)
def blW (lf ll lq : Int) (g : Nat → Nat → Int) (i : Nat) : List Value := [.int .i64 (dLo lf ll lq (g i 0)), .int .i64 (dHi lf ll lq (g i 0))]
def blZ : List Value := [.int .i64 0, .int .i64 0]
def blZ0 : Nat → Nat → Value := fun _ j => (#[.int .i64 0, .int .i64 0] : Array Value).getD j (.chan none)
def bsum (f : Nat → Int) : Nat → Int
  | 0 => 0
  | i + 1 => bsum f i + f i
theorem bsum_in {f : Nat → Int} {n : Nat} (h : ∀ i, i < n → 0 ≤ f i ∧ f i ≤ 1000) : ∀ i, i ≤ n → 0 ≤ bsum f i ∧ bsum f i ≤ 1000 * (i : Int)
  | 0, _ => by simp [bsum]
  | i + 1, hi => by
    have h1 := bsum_in h i (by omega)
    have h2 := h i (by omega)
    simp only [bsum]
    omega
noncomputable def blmX : Code := loopOf Tryz.prog 60
noncomputable def blmK : CallS := kAll [c_delivered]
def blmL (lf ll lq : Int) (n c : Nat) (g : Nat → Nat → Int) (e : TypeId) (opn : Bool) (sz : Nat) (ro : Bool) (u1 u2 : Int) (i : Nat) : List MObj := [rowI 1 n g e opn sz ro, .cells [.int .i64 lf, .int .i64 ll, .int .i64 lq] 31 false 0 false, .cells [.int .i64 (0), .int .i64 (0)] 27 false 0 false, .cells [.int .i64 u1, .int .i64 u2] 28 false 0 false, .cells [.int .i64 (0), .int .i64 (0)] 27 false 0 false, .rows n 2 (fillG blZ (blW lf ll lq g) (i)) 27 false 0 false]
def blmA (lf ll lq : Int) (n c : Nat) (i : Nat) : MA := MA.ofL 26 [.chan none, .func (.func 61) #[] #[.pointer (some ⟨5, 0, none⟩)], .chan none, .chan none, .slice none 0 0, .slice (some ⟨9, 0, none⟩) n n, .chan none, .chan none, .chan none, .chan none, .chan none, .slice (some ⟨4, 0, none⟩) n c, .int .i64 (n : Int), .int .i64 ((i : Nat) : Int), .chan none, .chan none, .chan none, .chan none, .chan none, .chan none, .chan none, .chan none, .chan none, .chan none, .chan none, .chan none] []
def blmE (lf ll lq : Int) (n c : Nat) (i : Nat) : MA := MA.ofL 26 [.chan none, .chan none, .chan none, .chan none, .chan none, .slice (some ⟨9, 0, none⟩) n n, .chan none, .chan none, .chan none, .chan none, .chan none, .chan none, .chan none, .chan none, .chan none, .chan none, .chan none, .chan none, .chan none, .chan none, .chan none, .chan none, .chan none, .chan none, .chan none, .chan none] []
noncomputable def blmR (lf ll lq : Int) (n c : Nat) (g : Nat → Nat → Int) (e : TypeId) (opn : Bool) (sz : Nat) (ro : Bool) (u1 u2 : Int) (i : Nat) : Option OutCS := evCRS Tryz.prog blmK 1000 none false blmX (blmA lf ll lq n c i) (wS 4 (blmL lf ll lq n c g e opn sz ro u1 u2 i)) ⟨[1, .row i 0, .row i 0, .row i 0, .row i 0, .azz (.int .i64 ((i + 1 : Nat) : Int))], True⟩
noncomputable def blmN (lf ll lq : Int) (n c : Nat) (g : Nat → Nat → Int) (e : TypeId) (opn : Bool) (sz : Nat) (ro : Bool) (u1 u2 : Int) (i : Nat) : Option OutCS := evCRS Tryz.prog blmK 1000 none false blmX (blmA lf ll lq n c i) (wS 4 (blmL lf ll lq n c g e opn sz ro u1 u2 i)) ⟨[0], True⟩
theorem blmK_ok : FOkS Tryz.prog blmK := kAll_ok _ ⟨k_delivered, trivial⟩
section
variable (lf ll lq : Int) (n c : Nat) (g : Nat → Nat → Int) (e : TypeId) (opn : Bool) (sz : Nat) (ro : Bool) (u1 u2 : Int) (i : Nat)
theorem blmR_eq : seenF 4 6 14386 (blmR lf ll lq n c g e opn sz ro u1 u2 i) = some (.normal, blmA lf ll lq n c (i + 1), [rowI 1 n g e opn sz ro, .cells [.int .i64 lf, .int .i64 ll, .int .i64 lq] 31 false 0 false, .cells [.int .i64 (0), .int .i64 (0)] 27 false 0 false, .cells [.int .i64 u1, .int .i64 u2] 28 false 0 false, .cells [.int .i64 (0), .int .i64 (0)] 27 false 0 false, .rows n 2 (setRow (fillG blZ (blW lf ll lq g) i) i 0 (blW lf ll lq g i)) 27 false 0 false], 48, 512, ⟨[], (((((((True ∧ ((decide ((((i : Nat)) : Int) < (((n : Nat)) : Int))) = true)) ∧ (((((i : Nat)) : Int) = (Int.ofNat i)) ∧ (i < n))) ∧ (((0 + (i * 1)) = ((i * 1) + 0)) ∧ (i < n))) ∧ ((lsIn lf ll lq) ∧ (pwIn (g i 0)))) ∧ (((((i : Nat)) : Int) = (Int.ofNat i)) ∧ (i < n))) ∧ (((0 + (i * 2)) = ((i * 2) + 0)) ∧ (i < n))) ∧ (((.int .i64 (IntKind.i64.wrap ((((i : Nat)) : Int) + (1 : Int)))) : Value) = (.int .i64 ((((i + 1) : Nat)) : Int))))⟩) := by kernel_rfl
theorem blmN_eq : seenF 4 6 32 (blmN lf ll lq n c g e opn sz ro u1 u2 i) = some ((.exit (0 : Nat)), blmE lf ll lq n c i, (blmL lf ll lq n c g e opn sz ro u1 u2 i), 0, 0, ⟨[], (True ∧ ((decide ((((i : Nat)) : Int) < (((n : Nat)) : Int))) = false))⟩) := by kernel_rfl
theorem blmA_keep : allKeep (4 + 6) (blmA lf ll lq n c i) 26 = true := by kernel_rfl
theorem blmL_keep : ∀ o, o ∈ (blmL lf ll lq n c g e opn sz ro u1 u2 i) → keepO (below (4 + 6)) o := fun o ho => by
  simp only [blmL, List.mem_cons, List.not_mem_nil, or_false] at ho
  rcases ho with rfl | rfl | rfl | rfl | rfl | rfl
  all_goals first | rfl | exact rowI_keep _ _ _ _ _ _ _ | exact fill_keep rfl (fun a => rfl)
end
theorem blm_set (lf ll lq : Int) (n c : Nat) (g : Nat → Nat → Int) (e : TypeId) (opn : Bool) (sz : Nat) (ro : Bool) (u1 u2 : Int) (i : Nat) : [rowI 1 n g e opn sz ro, .cells [.int .i64 lf, .int .i64 ll, .int .i64 lq] 31 false 0 false, .cells [.int .i64 (0), .int .i64 (0)] 27 false 0 false, .cells [.int .i64 u1, .int .i64 u2] 28 false 0 false, .cells [.int .i64 (0), .int .i64 (0)] 27 false 0 false, .rows n 2 (setRow (fillG blZ (blW lf ll lq g) i) i 0 (blW lf ll lq g i)) 27 false 0 false] = blmL lf ll lq n c g e opn sz ro u1 u2 (i + 1) := by rw [fill_set (z := blZ) (w := blW lf ll lq g) (i := i) rfl]; rfl
theorem blm_go (lf ll lq : Int) (n c : Nat) (g : Nat → Nat → Int) (e : TypeId) (opn : Bool) (sz : Nat) (ro : Bool) (u1 u2 : Int) {i : Nat} (hx : lsIn lf ll lq ∧ ∀ i, i < n → pwIn (g i 0)) (hn : n ≤ 1048576) (hi : i < n) : SndC Tryz.prog none blmX (blmA lf ll lq n c i).act (wS 4 (blmL lf ll lq n c g e opn sz ro u1 u2 i)) .normal (blmA lf ll lq n c (i + 1)).act (wS 4 (blmL lf ll lq n c g e opn sz ro u1 u2 (i + 1))) 1008 512 := by
  have h := blmR_eq lf ll lq n c g e opn sz ro u1 u2 i
  rw [blm_set lf ll lq n c g e opn sz ro u1 u2 i] at h
  refine wayF_ok smx blmK_ok sng h ?_ rfl (blmA_keep lf ll lq n c i) (blmL_keep lf ll lq n c g e opn sz ro u1 u2 i) (blmL_keep lf ll lq n c g e opn sz ro u1 u2 (i + 1)) (fun k hk hw => by
    match k, hk, hw with
    | 0, _, hw => exact absurd hw (by decide)
    | 1, _, hw => exact absurd hw (by decide)
    | 2, _, hw => exact absurd hw (by decide)
    | 3, _, hw => exact absurd hw (by decide)
    | 4, _, hw => exact absurd hw (by decide)
    | 5, _, hw => exact ⟨fun h => (by cases h), rfl⟩
    | k + 6, hk, _ => exact absurd hk (by simp [blmL])) (by exact (by decide : ∀ b, b < 4 → Nat.testBit 512 b = false)) (by exact (by decide : ∀ b, b < 10 → Nat.testBit 48 b = true → Nat.testBit 1008 b = true)) (by exact (by decide : ∀ b, b < 10 → Nat.testBit 512 b = Nat.testBit 512 b))
  repeat' (first | (with_reducible assumption) | exact hx.1 | exact hx.2 _ (by assumption) | apply And.intro)
  all_goals first | trivial | rfl | assumption | exact hx.1 | exact hx.2 _ (by assumption) | exact decide_eq_true (by omega) | exact decide_eq_false (by omega) | exact bne_iff_ne.2 (by assumption) | exact bne_eq_false_iff_eq.2 (by assumption) | exact beq_iff_eq.2 (by assumption) | exact beq_eq_false_iff_ne.2 (by assumption) | exact wnextV (by assumption) (by omega) | omega
theorem blm_end (lf ll lq : Int) (n c : Nat) (g : Nat → Nat → Int) (e : TypeId) (opn : Bool) (sz : Nat) (ro : Bool) (u1 u2 : Int) {i : Nat} (hx : lsIn lf ll lq ∧ ∀ i, i < n → pwIn (g i 0)) (hn : n ≤ 1048576) (hi : ¬ i < n) : SndC Tryz.prog none blmX (blmA lf ll lq n c i).act (wS 4 (blmL lf ll lq n c g e opn sz ro u1 u2 i)) (.exit 0) (blmE lf ll lq n c i).act (wS 4 (blmL lf ll lq n c g e opn sz ro u1 u2 i)) 1008 512 := by
  have h := blmN_eq lf ll lq n c g e opn sz ro u1 u2 i
  refine (wayF_ok0 smx blmK_ok sng h ?_ rfl (blmA_keep lf ll lq n c i) (blmL_keep lf ll lq n c g e opn sz ro u1 u2 i) (blmL_keep lf ll lq n c g e opn sz ro u1 u2 i) (by exact (by decide : ∀ b, b < 10 → Nat.testBit 0 b = false)) (R2 := 1008) (by exact (by decide : ∀ b, b < 10 → Nat.testBit 0 b = true → Nat.testBit 1008 b = true))).wide (fun b hb => by rw [or_bit, hb]; rfl) (fun b hb => by simp at hb)
  repeat' (first | (with_reducible assumption) | exact hx.1 | exact hx.2 _ (by assumption) | apply And.intro)
  all_goals first | trivial | rfl | assumption | exact hx.1 | exact hx.2 _ (by assumption) | exact decide_eq_true (by omega) | exact decide_eq_false (by omega) | exact bne_iff_ne.2 (by assumption) | exact bne_eq_false_iff_eq.2 (by assumption) | exact beq_iff_eq.2 (by assumption) | exact beq_eq_false_iff_ne.2 (by assumption) | exact wnextV (by assumption) (by omega) | omega
theorem blm_loop (lf ll lq : Int) (n c : Nat) (g : Nat → Nat → Int) (e : TypeId) (opn : Bool) (sz : Nat) (ro : Bool) (u1 u2 : Int) (hx : lsIn lf ll lq ∧ ∀ i, i < n → pwIn (g i 0)) (hn : n ≤ 1048576) : SndC Tryz.prog none (.loop blmX) (blmA lf ll lq n c 0).act (wS 4 (blmL lf ll lq n c g e opn sz ro u1 u2 0)) (.exit 0) (blmE lf ll lq n c (n)).act (wS 4 (blmL lf ll lq n c g e opn sz ro u1 u2 (n))) 1008 512 :=
  sndC_rounds (A := fun i => (blmA lf ll lq n c i).act) (S := fun i => (wS 4 (blmL lf ll lq n c g e opn sz ro u1 u2 i))) (n) (fun k hk => blm_go lf ll lq n c g e opn sz ro u1 u2 hx hn hk) (blm_end lf ll lq n c g e opn sz ro u1 u2 hx hn (Nat.lt_irrefl _)) (by simp)
theorem blZ0_eq (lf ll lq : Int) (g : Nat → Nat → Int) : blZ0 = fillG blZ (blW lf ll lq g) 0 := by
  rw [← fill_zero blZ (blW lf ll lq g)]
  funext a j
  match j with
  | 0 => rfl
  | 1 => rfl
  | j + 2 => (simp [blZ0, blZ, List.getD, Array.getD] <;> (intro h; omega))
def blmP (lf ll lq : Int) (n c : Nat) (g : Nat → Nat → Int) (e : TypeId) (opn : Bool) (sz : Nat) (ro : Bool) (u1 u2 : Int) : List MObj := [rowI 1 n g e opn sz ro, .cells [.int .i64 lf, .int .i64 ll, .int .i64 lq] 31 false 0 false, .cells [.int .i64 (0), .int .i64 (0)] 27 false 0 false, .cells [.int .i64 u1, .int .i64 u2] 28 false 0 false, .cells [.int .i64 (0), .int .i64 (0)] 27 false 0 false]
theorem blm_done (lf ll lq : Int) (n c : Nat) (g : Nat → Nat → Int) (e : TypeId) (opn : Bool) (sz : Nat) (ro : Bool) (u1 u2 : Int) (hx : lsIn lf ll lq ∧ ∀ i, i < n → pwIn (g i 0)) (hn : n ≤ 1048576) : SndC Tryz.prog none (.loop blmX) (blmA lf ll lq n c 0).act (wS 4 (blmP lf ll lq n c g e opn sz ro u1 u2 ++ [.rows n 2 (blZ0) 27 false 0 false])) (.exit 0) (blmE lf ll lq n c n).act (wS 4 (blmP lf ll lq n c g e opn sz ro u1 u2 ++ [rowI 2 n (blG lf ll lq g) 27 false 0 false])) 1008 512 := by
  have h := blm_loop lf ll lq n c g e opn sz ro u1 u2 hx hn
  rw [show blmL lf ll lq n c g e opn sz ro u1 u2 0 = blmP lf ll lq n c g e opn sz ro u1 u2 ++ [.rows n 2 (blZ0) 27 false 0 false] from by unfold blmL blmP; rw [blZ0_eq lf ll lq g]; rfl, show blmL lf ll lq n c g e opn sz ro u1 u2 n = blmP lf ll lq n c g e opn sz ro u1 u2 ++ [.rows n 2 (fillG blZ (blW lf ll lq g) n) 27 false 0 false] from rfl] at h
  refine last_told (l := blmP lf ll lq n c g e opn sz ro u1 u2) h sng (fun o ho => ?_) ⟨fun h => (by cases h), rfl⟩ (by exact (by decide : ∀ b, b < 9 → Nat.testBit 512 b = false)) (by exact (by decide : Nat.testBit 512 9 = true)) (by exact (by decide : Nat.testBit 1008 9 = true)) (fun f => ?_) rfl rfl (by kernel_rfl) (by kernel_rfl)
  · simp only [blmP, List.mem_append, List.mem_cons, List.not_mem_nil, or_false] at ho
    rcases ho with (rfl | rfl | rfl | rfl | rfl) | rfl
    all_goals first | rfl | exact rowI_keep _ _ _ _ _ _ _ | (rw [blZ0_eq lf ll lq g]; exact fill_keep rfl (fun a => rfl))
  · exact fill_told (fun i j hi hj => by
      match j, hj with
      | 0, _ => rfl
      | 1, _ => rfl)
end Go.Proofs.YthhgmnocigekaaaGreatDoor
end
section
set_option linter.all false
set_option maxRecDepth 1000000
open Go.RowKit
namespace Go.Proofs.YthhgmnocigekaaaGreatDoor
open Mini
noncomputable def blsX : Code := loopOf Tryz.prog 12
noncomputable def blsK : CallS := noXS
def blsL (lf ll lq : Int) (n c : Nat) (g : Nat → Nat → Int) (e : TypeId) (opn : Bool) (sz : Nat) (ro : Bool) (u1 u2 : Int) (i : Nat) : List MObj := [rowI 1 n g e opn sz ro, .cells [.int .i64 lf, .int .i64 ll, .int .i64 lq] 31 false 0 false, .cells [.int .i64 (0), .int .i64 (0)] 27 false 0 false, .cells [.int .i64 u1, .int .i64 u2] 28 false 0 false, .cells [.int .i64 (bsum (fun k => dLo lf ll lq (g k 0)) (i)), .int .i64 (bsum (fun k => dHi lf ll lq (g k 0)) (i))] 27 false 0 false, rowI 2 n (blG lf ll lq g) 27 false 0 false]
def blsA (lf ll lq : Int) (n c : Nat) (i : Nat) : MA := MA.ofL 42 [.chan none, .chan none, .chan none, .chan none, .pointer (some ⟨6, 0, none⟩), .int .i64 0, .chan none, .pointer (some ⟨8, 0, none⟩), .chan none, .chan none, .chan none, .chan none, .chan none, .chan none, .chan none, .chan none, .chan none, .chan none, .chan none, .chan none, .chan none, .chan none, .slice (some ⟨9, 0, none⟩) n n, .int .i64 (n : Int), .int .i64 ((i : Nat) : Int), .chan none, .chan none, .chan none, .chan none, .chan none, .chan none, .chan none, .chan none, .chan none, .chan none, .chan none, .chan none, .chan none, .chan none, .chan none, .chan none, .chan none] []
def blsE (lf ll lq : Int) (n c : Nat) (i : Nat) : MA := MA.ofL 42 [.chan none, .chan none, .chan none, .chan none, .pointer (some ⟨6, 0, none⟩), .int .i64 0, .chan none, .pointer (some ⟨8, 0, none⟩), .chan none, .chan none, .chan none, .chan none, .chan none, .chan none, .chan none, .chan none, .chan none, .chan none, .chan none, .chan none, .chan none, .chan none, .chan none, .chan none, .chan none, .chan none, .chan none, .chan none, .chan none, .chan none, .chan none, .chan none, .chan none, .chan none, .chan none, .chan none, .chan none, .chan none, .chan none, .chan none, .chan none, .chan none] []
noncomputable def blsR (lf ll lq : Int) (n c : Nat) (g : Nat → Nat → Int) (e : TypeId) (opn : Bool) (sz : Nat) (ro : Bool) (u1 u2 : Int) (i : Nat) : Option OutCS := evCRS Tryz.prog blsK 1000 none false blsX (blsA lf ll lq n c i) (wS 4 (blsL lf ll lq n c g e opn sz ro u1 u2 i)) ⟨[1, .row i 0, .row i 0, .azz (.int .i64 (bsum (fun k => dLo lf ll lq (g k 0)) (i + 1))), .azz (.int .i64 (bsum (fun k => dHi lf ll lq (g k 0)) (i + 1))), .azz (.int .i64 ((i + 1 : Nat) : Int))], True⟩
noncomputable def blsN (lf ll lq : Int) (n c : Nat) (g : Nat → Nat → Int) (e : TypeId) (opn : Bool) (sz : Nat) (ro : Bool) (u1 u2 : Int) (i : Nat) : Option OutCS := evCRS Tryz.prog blsK 1000 none false blsX (blsA lf ll lq n c i) (wS 4 (blsL lf ll lq n c g e opn sz ro u1 u2 i)) ⟨[0], True⟩
theorem blsK_ok : FOkS Tryz.prog blsK := noXS_ok
section
variable (lf ll lq : Int) (n c : Nat) (g : Nat → Nat → Int) (e : TypeId) (opn : Bool) (sz : Nat) (ro : Bool) (u1 u2 : Int) (i : Nat)
theorem blsR_eq : seenF 4 6 29360304 (blsR lf ll lq n c g e opn sz ro u1 u2 i) = some (.normal, blsA lf ll lq n c (i + 1), (blsL lf ll lq n c g e opn sz ro u1 u2 (i + 1)), 1792, 1280, ⟨[], ((((((True ∧ ((decide ((((i : Nat)) : Int) < (((n : Nat)) : Int))) = true)) ∧ (((((i : Nat)) : Int) = (Int.ofNat i)) ∧ (i < n))) ∧ (((0 + (i * 2)) = ((i * 2) + 0)) ∧ (i < n))) ∧ (((.int .i64 (IntKind.i64.wrap ((bsum (fun (k : Nat) => (dLo lf ll lq (g k 0))) i) + (blG lf ll lq g i 0)))) : Value) = (.int .i64 (bsum (fun (k : Nat) => (dLo lf ll lq (g k 0))) (i + 1))))) ∧ (((.int .i64 (IntKind.i64.wrap ((bsum (fun (k : Nat) => (dHi lf ll lq (g k 0))) i) + (blG lf ll lq g i 1)))) : Value) = (.int .i64 (bsum (fun (k : Nat) => (dHi lf ll lq (g k 0))) (i + 1))))) ∧ (((.int .i64 (IntKind.i64.wrap ((((i : Nat)) : Int) + (1 : Int)))) : Value) = (.int .i64 ((((i + 1) : Nat)) : Int))))⟩) := by kernel_rfl
theorem blsN_eq : seenF 4 6 176 (blsN lf ll lq n c g e opn sz ro u1 u2 i) = some ((.exit (0 : Nat)), blsE lf ll lq n c i, (blsL lf ll lq n c g e opn sz ro u1 u2 i), 0, 0, ⟨[], (True ∧ ((decide ((((i : Nat)) : Int) < (((n : Nat)) : Int))) = false))⟩) := by kernel_rfl
theorem blsA_keep : allKeep (4 + 6) (blsA lf ll lq n c i) 42 = true := by kernel_rfl
theorem blsL_keep : ∀ o, o ∈ (blsL lf ll lq n c g e opn sz ro u1 u2 i) → keepO (below (4 + 6)) o := fun o ho => by
  simp only [blsL, List.mem_cons, List.not_mem_nil, or_false] at ho
  rcases ho with rfl | rfl | rfl | rfl | rfl | rfl
  all_goals first | rfl | exact rowI_keep _ _ _ _ _ _ _ | exact fill_keep rfl (fun a => rfl)
end
theorem bls_go (lf ll lq : Int) (n c : Nat) (g : Nat → Nat → Int) (e : TypeId) (opn : Bool) (sz : Nat) (ro : Bool) (u1 u2 : Int) {i : Nat} (hx : lsIn lf ll lq ∧ ∀ i, i < n → pwIn (g i 0)) (hn : n ≤ 256) (hi : i < n) : SndC Tryz.prog none blsX (blsA lf ll lq n c i).act (wS 4 (blsL lf ll lq n c g e opn sz ro u1 u2 i)) .normal (blsA lf ll lq n c (i + 1)).act (wS 4 (blsL lf ll lq n c g e opn sz ro u1 u2 (i + 1))) 1008 256 := by
  have h := blsR_eq lf ll lq n c g e opn sz ro u1 u2 i
  refine wayF_ok smx blsK_ok sng h ?_ rfl (blsA_keep lf ll lq n c i) (blsL_keep lf ll lq n c g e opn sz ro u1 u2 i) (blsL_keep lf ll lq n c g e opn sz ro u1 u2 (i + 1)) (fun k hk hw => by
    match k, hk, hw with
    | 0, _, hw => exact absurd hw (by decide)
    | 1, _, hw => exact absurd hw (by decide)
    | 2, _, hw => exact absurd hw (by decide)
    | 3, _, hw => exact absurd hw (by decide)
    | 4, _, hw => exact ⟨fun h => (by cases h), rfl⟩
    | 5, _, hw => exact absurd hw (by decide)
    | k + 6, hk, _ => exact absurd hk (by simp [blsL])) (by exact (by decide : ∀ b, b < 4 → Nat.testBit 1280 b = false)) (by exact (by decide : ∀ b, b < 10 → Nat.testBit 1792 b = true → Nat.testBit 1008 b = true)) (by exact (by decide : ∀ b, b < 10 → Nat.testBit 256 b = Nat.testBit 1280 b))
  repeat' (first | (with_reducible assumption) | apply And.intro)
  all_goals first | trivial | rfl | assumption | exact decide_eq_true (by omega) | exact decide_eq_false (by omega) | exact bne_iff_ne.2 (by assumption) | exact bne_eq_false_iff_eq.2 (by assumption) | exact beq_iff_eq.2 (by assumption) | exact beq_eq_false_iff_ne.2 (by assumption) | exact wnextV (by assumption) (by omega) | (have b1 := bsum_in (f := fun k => dLo lf ll lq (g k 0)) (n := n) (fun k hk => (dIn hx.1 (hx.2 k hk)).1) i (by omega); have b2 := bsum_in (f := fun k => dHi lf ll lq (g k 0)) (n := n) (fun k hk => (dIn hx.1 (hx.2 k hk)).2) i (by omega); have b3 := dIn hx.1 (hx.2 i hi); simp only [bsum, blG]; rw [wi _ (by omega)]) | omega
theorem bls_end (lf ll lq : Int) (n c : Nat) (g : Nat → Nat → Int) (e : TypeId) (opn : Bool) (sz : Nat) (ro : Bool) (u1 u2 : Int) {i : Nat} (hx : lsIn lf ll lq ∧ ∀ i, i < n → pwIn (g i 0)) (hn : n ≤ 256) (hi : ¬ i < n) : SndC Tryz.prog none blsX (blsA lf ll lq n c i).act (wS 4 (blsL lf ll lq n c g e opn sz ro u1 u2 i)) (.exit 0) (blsE lf ll lq n c i).act (wS 4 (blsL lf ll lq n c g e opn sz ro u1 u2 i)) 1008 256 := by
  have h := blsN_eq lf ll lq n c g e opn sz ro u1 u2 i
  refine (wayF_ok0 smx blsK_ok sng h ?_ rfl (blsA_keep lf ll lq n c i) (blsL_keep lf ll lq n c g e opn sz ro u1 u2 i) (blsL_keep lf ll lq n c g e opn sz ro u1 u2 i) (by exact (by decide : ∀ b, b < 10 → Nat.testBit 0 b = false)) (R2 := 1008) (by exact (by decide : ∀ b, b < 10 → Nat.testBit 0 b = true → Nat.testBit 1008 b = true))).wide (fun b hb => by rw [or_bit, hb]; rfl) (fun b hb => by simp at hb)
  repeat' (first | (with_reducible assumption) | apply And.intro)
  all_goals first | trivial | rfl | assumption | exact decide_eq_true (by omega) | exact decide_eq_false (by omega) | exact bne_iff_ne.2 (by assumption) | exact bne_eq_false_iff_eq.2 (by assumption) | exact beq_iff_eq.2 (by assumption) | exact beq_eq_false_iff_ne.2 (by assumption) | exact wnextV (by assumption) (by omega) | (have b1 := bsum_in (f := fun k => dLo lf ll lq (g k 0)) (n := n) (fun k hk => (dIn hx.1 (hx.2 k hk)).1) i (by omega); have b2 := bsum_in (f := fun k => dHi lf ll lq (g k 0)) (n := n) (fun k hk => (dIn hx.1 (hx.2 k hk)).2) i (by omega); have b3 := dIn hx.1 (hx.2 i hi); simp only [bsum, blG]; rw [wi _ (by omega)]) | omega
theorem bls_loop (lf ll lq : Int) (n c : Nat) (g : Nat → Nat → Int) (e : TypeId) (opn : Bool) (sz : Nat) (ro : Bool) (u1 u2 : Int) (hx : lsIn lf ll lq ∧ ∀ i, i < n → pwIn (g i 0)) (hn : n ≤ 256) : SndC Tryz.prog none (.loop blsX) (blsA lf ll lq n c 0).act (wS 4 (blsL lf ll lq n c g e opn sz ro u1 u2 0)) (.exit 0) (blsE lf ll lq n c (n)).act (wS 4 (blsL lf ll lq n c g e opn sz ro u1 u2 (n))) 1008 256 :=
  sndC_rounds (A := fun i => (blsA lf ll lq n c i).act) (S := fun i => (wS 4 (blsL lf ll lq n c g e opn sz ro u1 u2 i))) (n) (fun k hk => bls_go lf ll lq n c g e opn sz ro u1 u2 hx hn hk) (bls_end lf ll lq n c g e opn sz ro u1 u2 hx hn (Nat.lt_irrefl _)) (by simp)
end Go.Proofs.YthhgmnocigekaaaGreatDoor
end
section
set_option linter.all false
set_option maxRecDepth 1000000
open Go.RowKit
namespace Go.Proofs.YthhgmnocigekaaaGreatDoor
open Mini
noncomputable def bfK : CallS := bothX kCep (kAll [c_cLosses, c_delivered])
def bfArgs (lf ll lq : Int) (n c : Nat) : Array Value := #[.agg #[.int .i64 lf, .int .i64 ll, .int .i64 lq], .slice (some ⟨4, 0, none⟩) n c]
noncomputable def bf_1 (lf ll lq : Int) (n c : Nat) (g : Nat → Nat → Int) (e : TypeId) (opn : Bool) (sz : Nat) (ro : Bool) : Option OutS := evFS Tryz.prog bfK 1000 12 (bfArgs lf ll lq n c) (wS 4 [rowI 1 n g e opn sz ro]) ⟨[0, 1, 0, 1, 1], True⟩
noncomputable def bf_2 (lf ll lq : Int) (n c : Nat) (g : Nat → Nat → Int) (e : TypeId) (opn : Bool) (sz : Nat) (ro : Bool) : Option OutS := evFS Tryz.prog bfK 1000 12 (bfArgs lf ll lq n c) (wS 4 [rowI 1 n g e opn sz ro]) ⟨[1, 1, 0, 1, 1], True⟩
noncomputable def bf_3 (lf ll lq : Int) (n c : Nat) (g : Nat → Nat → Int) (e : TypeId) (opn : Bool) (sz : Nat) (ro : Bool) : Option OutS := evFS Tryz.prog bfK 1000 12 (bfArgs lf ll lq n c) (wS 4 [rowI 1 n g e opn sz ro]) ⟨[0, 1, 0, 0, 1, 1, 1, 1], True⟩
noncomputable def bf_4 (lf ll lq : Int) (n c : Nat) (g : Nat → Nat → Int) (e : TypeId) (opn : Bool) (sz : Nat) (ro : Bool) : Option OutS := evFS Tryz.prog bfK 1000 12 (bfArgs lf ll lq n c) (wS 4 [rowI 1 n g e opn sz ro]) ⟨[1, 1, 0, 0, 1, 1, 1, 1], True⟩
noncomputable def bf_5 (lf ll lq : Int) (n c : Nat) (g : Nat → Nat → Int) (e : TypeId) (opn : Bool) (sz : Nat) (ro : Bool) : Option OutS := evFS Tryz.prog bfK 1000 12 (bfArgs lf ll lq n c) (wS 4 [rowI 1 n g e opn sz ro]) ⟨[0, 1, 0, 0, 1, 1, 0, 0, 0, .row n 0, .lp 14386 (blmA lf ll lq n c 0) 4 (blmP lf ll lq n c g e opn sz ro (lsE lf ll lq) (cepVal n g) ++ [.rows n 2 blZ0 27 false 0 false]) (.exit 0) (blmE lf ll lq n c n) (blmP lf ll lq n c g e opn sz ro (lsE lf ll lq) (cepVal n g) ++ [rowI 2 n (blG lf ll lq g) 27 false 0 false]) 1008 512, .lp 29360304 (blsA lf ll lq n c 0) 4 (blsL lf ll lq n c g e opn sz ro (lsE lf ll lq) (cepVal n g) 0) (.exit 0) (blsE lf ll lq n c n) (blsL lf ll lq n c g e opn sz ro (lsE lf ll lq) (cepVal n g) n) 1008 256], True⟩
theorem bfK_ok : FOkS Tryz.prog bfK := bothX_ok kCep_ok (kAll_ok _ ⟨k_cLosses, k_delivered, trivial⟩)
section
variable (lf ll lq : Int) (n c : Nat) (g : Nat → Nat → Int) (e : TypeId) (opn : Bool) (sz : Nat) (ro : Bool)
theorem bf_1eq : bf_1 lf ll lq n c g e opn sz ro = some ((.tuple #[(.agg #[(.int .i64 (0 : Int)), (.int .i64 (0 : Int))]), (.int .i64 (lsE lf ll lq))]), wldOf (bf_1 lf ll lq n c g e opn sz ro), 16, 0, ⟨[], (((((((True ∧ True) ∧ ((decide ((((n : Nat)) : Int) > (256 : Int))) = false)) ∧ (((n = n) ∧ (∀ (i : Nat), ((i < n) → (∀ (j : Nat), ((j < (1 : Nat)) → ((Value.int .i64 (g i j)) = (Value.int .i64 (gI (Value.int .i64 (g i j)))))))))) ∧ ((((n : Nat)) : Int) ≤ (9223372036854775807 : Int)))) ∧ ((decide ((0 : Int) < (((2 : Nat)) : Int))) = true)) ∧ ((0 : Int) = (Int.ofNat 0))) ∧ (((lsE lf ll lq) != (0 : Int)) = true)) ∧ (((lsE lf ll lq) != (0 : Int)) = true))⟩) := by kernel_rfl
theorem bf_2eq : bf_2 lf ll lq n c g e opn sz ro = some ((.tuple #[(.agg #[(.int .i64 (0 : Int)), (.int .i64 (0 : Int))]), (.int .i64 (lsE lf ll lq))]), wldOf (bf_2 lf ll lq n c g e opn sz ro), 0, 0, ⟨[], ((((((True ∧ True) ∧ ((decide ((((n : Nat)) : Int) > (256 : Int))) = true)) ∧ ((decide ((0 : Int) < (((2 : Nat)) : Int))) = true)) ∧ ((0 : Int) = (Int.ofNat 0))) ∧ (((lsE lf ll lq) != (0 : Int)) = true)) ∧ (((lsE lf ll lq) != (0 : Int)) = true))⟩) := by kernel_rfl
theorem bf_3eq : bf_3 lf ll lq n c g e opn sz ro = some ((.tuple #[(.agg #[(.int .i64 (0 : Int)), (.int .i64 (0 : Int))]), (.int .i64 (cepVal n (fun (i : Nat) => (fun (j : Nat) => (gI (Value.int .i64 (g i j)))))))]), wldOf (bf_3 lf ll lq n c g e opn sz ro), 16, 0, ⟨[], ((((((((((True ∧ True) ∧ ((decide ((((n : Nat)) : Int) > (256 : Int))) = false)) ∧ (((n = n) ∧ (∀ (i : Nat), ((i < n) → (∀ (j : Nat), ((j < (1 : Nat)) → ((Value.int .i64 (g i j)) = (Value.int .i64 (gI (Value.int .i64 (g i j)))))))))) ∧ ((((n : Nat)) : Int) ≤ (9223372036854775807 : Int)))) ∧ ((decide ((0 : Int) < (((2 : Nat)) : Int))) = true)) ∧ ((0 : Int) = (Int.ofNat 0))) ∧ (((lsE lf ll lq) != (0 : Int)) = false)) ∧ ((decide ((IntKind.i64.wrap ((0 : Int) + (1 : Int))) < (((2 : Nat)) : Int))) = true)) ∧ ((IntKind.i64.wrap ((0 : Int) + (1 : Int))) = (Int.ofNat 1))) ∧ (((cepVal n (fun (i : Nat) => (fun (j : Nat) => (gI (Value.int .i64 (g i j)))))) != (0 : Int)) = true)) ∧ (((cepVal n (fun (i : Nat) => (fun (j : Nat) => (gI (Value.int .i64 (g i j)))))) != (0 : Int)) = true))⟩) := by kernel_rfl
theorem bf_4eq : bf_4 lf ll lq n c g e opn sz ro = some ((.tuple #[(.agg #[(.int .i64 (0 : Int)), (.int .i64 (0 : Int))]), (.int .i64 (5 : Int))]), wldOf (bf_4 lf ll lq n c g e opn sz ro), 0, 0, ⟨[], (((((((((True ∧ True) ∧ ((decide ((((n : Nat)) : Int) > (256 : Int))) = true)) ∧ ((decide ((0 : Int) < (((2 : Nat)) : Int))) = true)) ∧ ((0 : Int) = (Int.ofNat 0))) ∧ (((lsE lf ll lq) != (0 : Int)) = false)) ∧ ((decide ((IntKind.i64.wrap ((0 : Int) + (1 : Int))) < (((2 : Nat)) : Int))) = true)) ∧ ((IntKind.i64.wrap ((0 : Int) + (1 : Int))) = (Int.ofNat 1))) ∧ (((5 : Int) != (0 : Int)) = true)) ∧ (((5 : Int) != (0 : Int)) = true))⟩) := by kernel_rfl
theorem bf_5eq : bf_5 lf ll lq n c g e opn sz ro = some ((.tuple #[(.agg #[(.int .i64 (bsum (fun (k : Nat) => (dLo lf ll lq (g k 0))) n)), (.int .i64 (bsum (fun (k : Nat) => (dHi lf ll lq (g k 0))) n))]), (.int .i64 (0 : Int))]), wldOf (bf_5 lf ll lq n c g e opn sz ro), 16, 0, ⟨[], ((((((((((((((True ∧ True) ∧ ((decide ((((n : Nat)) : Int) > (256 : Int))) = false)) ∧ (((n = n) ∧ (∀ (i : Nat), ((i < n) → (∀ (j : Nat), ((j < (1 : Nat)) → ((Value.int .i64 (g i j)) = (Value.int .i64 (gI (Value.int .i64 (g i j)))))))))) ∧ ((((n : Nat)) : Int) ≤ (9223372036854775807 : Int)))) ∧ ((decide ((0 : Int) < (((2 : Nat)) : Int))) = true)) ∧ ((0 : Int) = (Int.ofNat 0))) ∧ (((lsE lf ll lq) != (0 : Int)) = false)) ∧ ((decide ((IntKind.i64.wrap ((0 : Int) + (1 : Int))) < (((2 : Nat)) : Int))) = true)) ∧ ((IntKind.i64.wrap ((0 : Int) + (1 : Int))) = (Int.ofNat 1))) ∧ (((cepVal n (fun (i : Nat) => (fun (j : Nat) => (gI (Value.int .i64 (g i j)))))) != (0 : Int)) = false)) ∧ ((decide ((IntKind.i64.wrap ((IntKind.i64.wrap ((0 : Int) + (1 : Int))) + (1 : Int))) < (((2 : Nat)) : Int))) = false)) ∧ (((0 : Int) != (0 : Int)) = false)) ∧ (((((n : Nat)) : Int) = (Int.ofNat n)) ∧ (((((n : Nat)) : Int) = (Int.ofNat n)) ∧ ((((((16 : Nat)) : Int) * (((n : Nat)) : Int)) ≤ (281474976710656 : Int)) ∧ (n ≤ (1048576 : Nat)))))) ∧ ((((blmA lf ll lq n c (0 : Nat)) = (blmA lf ll lq n c (0 : Nat))) ∧ ((10 = (4 + 6)) ∧ ((HAppend.hAppend (List.replicate (4 : Nat) MObj.hole) (HAppend.hAppend (blmP lf ll lq n c g e opn sz ro (lsE lf ll lq) (cepVal n g)) ((MObj.rows n (2 : Nat) blZ0 (27 : Nat) false (0 : Nat) false) :: []))) = (HAppend.hAppend (List.replicate (4 : Nat) MObj.hole) (HAppend.hAppend (blmP lf ll lq n c g e opn sz ro (lsE lf ll lq) (cepVal n g)) ((MObj.rows n (2 : Nat) blZ0 (27 : Nat) false (0 : Nat) false) :: [])))))) ∧ SndC Tryz.prog none (.loop blmX) (blmA lf ll lq n c 0).act (wS 4 (blmP lf ll lq n c g e opn sz ro (lsE lf ll lq) (cepVal n g) ++ [.rows n 2 blZ0 27 false 0 false])) (.exit 0) (blmE lf ll lq n c n).act (wS 4 (blmP lf ll lq n c g e opn sz ro (lsE lf ll lq) (cepVal n g) ++ [rowI 2 n (blG lf ll lq g) 27 false 0 false])) 1008 512)) ∧ ((((blsA lf ll lq n c (0 : Nat)) = (blsA lf ll lq n c (0 : Nat))) ∧ ((10 = (4 + 6)) ∧ ((HAppend.hAppend (List.replicate (4 : Nat) MObj.hole) (blsL lf ll lq n c g e opn sz ro (lsE lf ll lq) (cepVal n g) (0 : Nat))) = (HAppend.hAppend (List.replicate (4 : Nat) MObj.hole) (blsL lf ll lq n c g e opn sz ro (lsE lf ll lq) (cepVal n g) (0 : Nat)))))) ∧ SndC Tryz.prog none (.loop blsX) (blsA lf ll lq n c 0).act (wS 4 (blsL lf ll lq n c g e opn sz ro (lsE lf ll lq) (cepVal n g) 0)) (.exit 0) (blsE lf ll lq n c n).act (wS 4 (blsL lf ll lq n c g e opn sz ro (lsE lf ll lq) (cepVal n g) n)) 1008 256))⟩) := by kernel_rfl
end
def bfE (lf ll lq : Int) (n : Nat) (g : Nat → Nat → Int) : Int := th2 (lsE lf ll lq) (if 256 < n then 5 else cepVal n g)
def bfS (lf ll lq : Int) (n : Nat) (g : Nat → Nat → Int) : Int × Int := (bsum (fun k => dLo lf ll lq (g k 0)) n, bsum (fun k => dHi lf ll lq (g k 0)) n)
def bfV (lf ll lq : Int) (n : Nat) (g : Nat → Nat → Int) : Value := .tuple #[.agg #[.int .i64 (if bfE lf ll lq n g = 0 then (bfS lf ll lq n g).1 else 0), .int .i64 (if bfE lf ll lq n g = 0 then (bfS lf ll lq n g).2 else 0)], .int .i64 (bfE lf ll lq n g)]
theorem bf_sndF (lf ll lq : Int) (n c : Nat) (g : Nat → Nat → Int) (e : TypeId) (opn : Bool) (sz : Nat) (ro : Bool) (hn : (n : Int) ≤ 9223372036854775807) : SndF Tryz.prog 12 (bfArgs lf ll lq n c) (wS 4 [rowI 1 n g e opn sz ro]) (bfV lf ll lq n g) (wS 4 [rowI 1 n g e opn sz ro]) 16 0 := by
  unfold bfV bfE
  by_cases h1 : lsE lf ll lq = 0
  · rw [show ∀ b, th2 (lsE lf ll lq) b = b from fun b => if_pos h1]
    by_cases hm : 256 < n
    · rw [if_pos hm, if_neg (by decide), if_neg (by decide)]
      refine (SndF.tidy0 (l := [rowI 1 n g e opn sz ro]) ((evFS_ok smx bfK_ok 1000 _ _ _ _ _ _ _ _ _ (show evFS _ _ _ _ _ _ _ = _ from bf_4eq lf ll lq n c g e opn sz ro)).2 ?_) sng rowI_keep1 (by exact (by decide : ∀ b, b < 5 → Nat.testBit 0 b = false)) (by kernel_rfl) rfl).mask (by exact (by decide : ∀ b, b < 5 → Nat.testBit 0 b = true → Nat.testBit 16 b = true)) (fun b _ => rfl)
      repeat' (first | (with_reducible assumption) | exact hl1 | exact hl2 | apply And.intro)
      all_goals first | trivial | rfl | assumption | exact hl1 | exact hl2 | exact decide_eq_true (by omega) | exact decide_eq_false (by omega) | exact bne_iff_ne.2 (by assumption) | exact bne_eq_false_iff_eq.2 (by assumption) | exact beq_iff_eq.2 (by assumption) | exact beq_eq_false_iff_ne.2 (by assumption) | exact wnextV (by assumption) (by omega) | exact (fun _ _ _ _ => rfl) | omega
    · rw [if_neg hm]
      by_cases h2 : cepVal n g = 0
      · rw [h2, if_pos rfl, if_pos rfl]
        have hx : lsIn lf ll lq ∧ ∀ i, i < n → pwIn (g i 0) := ⟨lsE_in h1, fun i hi => pwE_in (feN_zero h2 i hi)⟩
        have hl1 := blm_done lf ll lq n c g e opn sz ro (lsE lf ll lq) (cepVal n g) hx (by omega)
        have hl2 := bls_loop lf ll lq n c g e opn sz ro (lsE lf ll lq) (cepVal n g) hx (by omega)
        refine (SndF.tidy0 (l := [rowI 1 n g e opn sz ro]) ((evFS_ok smx bfK_ok 1000 _ _ _ _ _ _ _ _ _ (show evFS _ _ _ _ _ _ _ = _ from bf_5eq lf ll lq n c g e opn sz ro)).2 ?_) sng rowI_keep1 (by exact (by decide : ∀ b, b < 5 → Nat.testBit 0 b = false)) (by kernel_rfl) rfl).mask (by exact (by decide : ∀ b, b < 5 → Nat.testBit 16 b = true → Nat.testBit 16 b = true)) (fun b _ => rfl)
        repeat' (first | (with_reducible assumption) | exact hl1 | exact hl2 | apply And.intro)
        all_goals first | trivial | rfl | assumption | exact hl1 | exact hl2 | exact decide_eq_true (by omega) | exact decide_eq_false (by omega) | exact bne_iff_ne.2 (by assumption) | exact bne_eq_false_iff_eq.2 (by assumption) | exact beq_iff_eq.2 (by assumption) | exact beq_eq_false_iff_ne.2 (by assumption) | exact wnextV (by assumption) (by omega) | exact (fun _ _ _ _ => rfl) | omega
      · rw [if_neg h2, if_neg h2]
        refine (SndF.tidy0 (l := [rowI 1 n g e opn sz ro]) ((evFS_ok smx bfK_ok 1000 _ _ _ _ _ _ _ _ _ (show evFS _ _ _ _ _ _ _ = _ from bf_3eq lf ll lq n c g e opn sz ro)).2 ?_) sng rowI_keep1 (by exact (by decide : ∀ b, b < 5 → Nat.testBit 0 b = false)) (by kernel_rfl) rfl).mask (by exact (by decide : ∀ b, b < 5 → Nat.testBit 16 b = true → Nat.testBit 16 b = true)) (fun b _ => rfl)
        repeat' (first | (with_reducible assumption) | exact hl1 | exact hl2 | apply And.intro)
        all_goals first | trivial | rfl | assumption | exact hl1 | exact hl2 | exact decide_eq_true (by omega) | exact decide_eq_false (by omega) | exact bne_iff_ne.2 (by assumption) | exact bne_eq_false_iff_eq.2 (by assumption) | exact beq_iff_eq.2 (by assumption) | exact beq_eq_false_iff_ne.2 (by assumption) | exact wnextV (by assumption) (by omega) | exact (fun _ _ _ _ => rfl) | omega
  · rw [show ∀ b, th2 (lsE lf ll lq) b = lsE lf ll lq from fun b => if_neg h1, if_neg h1, if_neg h1]
    by_cases hm : 256 < n
    · skip
      refine (SndF.tidy0 (l := [rowI 1 n g e opn sz ro]) ((evFS_ok smx bfK_ok 1000 _ _ _ _ _ _ _ _ _ (show evFS _ _ _ _ _ _ _ = _ from bf_2eq lf ll lq n c g e opn sz ro)).2 ?_) sng rowI_keep1 (by exact (by decide : ∀ b, b < 5 → Nat.testBit 0 b = false)) (by kernel_rfl) rfl).mask (by exact (by decide : ∀ b, b < 5 → Nat.testBit 0 b = true → Nat.testBit 16 b = true)) (fun b _ => rfl)
      repeat' (first | (with_reducible assumption) | exact hl1 | exact hl2 | apply And.intro)
      all_goals first | trivial | rfl | assumption | exact hl1 | exact hl2 | exact decide_eq_true (by omega) | exact decide_eq_false (by omega) | exact bne_iff_ne.2 (by assumption) | exact bne_eq_false_iff_eq.2 (by assumption) | exact beq_iff_eq.2 (by assumption) | exact beq_eq_false_iff_ne.2 (by assumption) | exact wnextV (by assumption) (by omega) | exact (fun _ _ _ _ => rfl) | omega
    · skip
      refine (SndF.tidy0 (l := [rowI 1 n g e opn sz ro]) ((evFS_ok smx bfK_ok 1000 _ _ _ _ _ _ _ _ _ (show evFS _ _ _ _ _ _ _ = _ from bf_1eq lf ll lq n c g e opn sz ro)).2 ?_) sng rowI_keep1 (by exact (by decide : ∀ b, b < 5 → Nat.testBit 0 b = false)) (by kernel_rfl) rfl).mask (by exact (by decide : ∀ b, b < 5 → Nat.testBit 16 b = true → Nat.testBit 16 b = true)) (fun b _ => rfl)
      repeat' (first | (with_reducible assumption) | exact hl1 | exact hl2 | apply And.intro)
      all_goals first | trivial | rfl | assumption | exact hl1 | exact hl2 | exact decide_eq_true (by omega) | exact decide_eq_false (by omega) | exact bne_iff_ne.2 (by assumption) | exact bne_eq_false_iff_eq.2 (by assumption) | exact beq_iff_eq.2 (by assumption) | exact beq_eq_false_iff_ne.2 (by assumption) | exact wnextV (by assumption) (by omega) | exact (fun _ _ _ _ => rfl) | omega
def kBal : CallS := fun f xs s q => match decide (f = 12) with
  | true => match xs.toList with
    | [.agg ⟨[.int .i64 lf, .int .i64 ll, .int .i64 lq]⟩, .slice (some ⟨b, 0, none⟩) n c] => match Nat.ble 4 b, rowK 1 .i64 s b n with
      | true, some (g, _, _, _, _, p) => some (bfV lf ll lq n g, s, 2 ^ b, 0, ⟨q.rest, q.ob ∧ (p ∧ ((n : Int) ≤ 9223372036854775807))⟩)
      | _, _ => none
    | _ => none
  | false => none
theorem kBal_ok : FOkS Tryz.prog kBal := fun f xs s q u s1 R W q1 he => by
  unfold kBal at he
  split at he
  · rename_i hf
    have hf := of_decide_eq_true hf
    subst hf
    split at he
    · rename_i lf ll lq b n c hx0
      split at he
      · rename_i g e opn sz ro p hb hr
        have hb := Nat.le_of_ble_eq_true hb
        have hxs : xs = #[.agg #[.int .i64 lf, .int .i64 ll, .int .i64 lq], .slice (some ⟨b, 0, none⟩) n c] := by apply Array.ext'; exact hx0
        subst hxs
        cases he
        refine ⟨fun hq => hq.1, fun hq => ?_⟩
        obtain ⟨hp, hx⟩ := hq.2
        obtain ⟨l1, w1⟩ := rowK_wo hr hp
        exact SndF.row (N := 4) sng (bf_sndF lf ll lq n c g e opn sz ro hx) rfl hb l1 w1 (fun f _ hf => wvs_two (ground_wv (n := 8) rfl) (slice_wv hf))
      · cases he
    · cases he
  · cases he
end Go.Proofs.YthhgmnocigekaaaGreatDoor
end
section
set_option linter.all false
set_option maxRecDepth 1000000
open Go.RowKit
namespace Go.Proofs.YthhgmnocigekaaaGreatDoor
open Mini
noncomputable def rblX : Code := loopOf Tryz.prog 19
noncomputable def rblK : CallS := kAll [c_rdelivered]
def rblL (lf ll lq : Int) (n c : Nat) (g : Nat → Nat → Int) (e : TypeId) (opn : Bool) (sz : Nat) (ro : Bool) (i : Nat) : List MObj := [rowI 1 n g e opn sz ro, .cells [.int .i64 lf, .int .i64 ll, .int .i64 lq] 23 false 0 false, .cells [.int .i64 (0), .int .i64 (0)] 27 false 0 false, .cells [.int .i64 (bsum (fun k => dLo lf ll lq (g k 0)) (i)), .int .i64 (bsum (fun k => dHi lf ll lq (g k 0)) (i))] 27 false 0 false]
def rblA (lf ll lq : Int) (n c : Nat) (i : Nat) : MA := MA.ofL 32 [.chan none, .slice (some ⟨4, 0, none⟩) n c, .pointer (some ⟨5, 0, none⟩), .chan none, .pointer (some ⟨6, 0, none⟩), .pointer (some ⟨7, 0, none⟩), .int .i64 ((i : Nat) : Int), .chan none, .chan none, .chan none, .chan none, .chan none, .chan none, .chan none, .chan none, .chan none, .chan none, .chan none, .chan none, .chan none, .chan none, .chan none, .chan none, .chan none, .chan none, .chan none, .chan none, .chan none, .chan none, .chan none, .chan none, .chan none] []
def rblE (lf ll lq : Int) (n c : Nat) (i : Nat) : MA := MA.ofL 32 [.chan none, .chan none, .chan none, .chan none, .pointer (some ⟨6, 0, none⟩), .pointer (some ⟨7, 0, none⟩), .chan none, .chan none, .chan none, .chan none, .chan none, .chan none, .chan none, .chan none, .chan none, .chan none, .chan none, .chan none, .chan none, .chan none, .chan none, .chan none, .chan none, .chan none, .chan none, .chan none, .chan none, .chan none, .chan none, .chan none, .chan none, .chan none] []
noncomputable def rblR (lf ll lq : Int) (n c : Nat) (g : Nat → Nat → Int) (e : TypeId) (opn : Bool) (sz : Nat) (ro : Bool) (i : Nat) : Option OutCS := evCRS Tryz.prog rblK 1000 none false rblX (rblA lf ll lq n c i) (wS 4 (rblL lf ll lq n c g e opn sz ro i)) ⟨[1, .row i 0, .row i 0, .azz (.agg #[.int .i64 (dLo lf ll lq (g i 0)), .int .i64 (dHi lf ll lq (g i 0))]), .azz (.int .i64 (bsum (fun k => dLo lf ll lq (g k 0)) (i + 1))), .azz (.int .i64 (bsum (fun k => dHi lf ll lq (g k 0)) (i + 1))), .azz (.int .i64 ((i + 1 : Nat) : Int))], True⟩
noncomputable def rblN (lf ll lq : Int) (n c : Nat) (g : Nat → Nat → Int) (e : TypeId) (opn : Bool) (sz : Nat) (ro : Bool) (i : Nat) : Option OutCS := evCRS Tryz.prog rblK 1000 none false rblX (rblA lf ll lq n c i) (wS 4 (rblL lf ll lq n c g e opn sz ro i)) ⟨[0], True⟩
theorem rblK_ok : FOkS Tryz.prog rblK := kAll_ok _ ⟨k_rdelivered, trivial⟩
section
variable (lf ll lq : Int) (n c : Nat) (g : Nat → Nat → Int) (e : TypeId) (opn : Bool) (sz : Nat) (ro : Bool) (i : Nat)
theorem rblR_eq : seenF 4 4 118 (rblR lf ll lq n c g e opn sz ro i) = some (.normal, rblA lf ll lq n c (i + 1), (rblL lf ll lq n c g e opn sz ro (i + 1)), 432, 384, ⟨[], ((((((((True ∧ ((decide ((((i : Nat)) : Int) < (((n : Nat)) : Int))) = true)) ∧ (((((i : Nat)) : Int) = (Int.ofNat i)) ∧ (i < n))) ∧ (((0 + (i * 1)) = ((i * 1) + 0)) ∧ (i < n))) ∧ ((lsIn lf ll lq) ∧ (pwIn (g i 0)))) ∧ (((.agg #[(.int .i64 (dLo lf ll lq (g i 0))), (.int .i64 (dHi lf ll lq (g i 0)))]) : Value) = (.agg #[(.int .i64 (dLo lf ll lq (g i 0))), (.int .i64 (dHi lf ll lq (g i 0)))]))) ∧ (((.int .i64 (IntKind.i64.wrap ((bsum (fun (k : Nat) => (dLo lf ll lq (g k 0))) i) + (dLo lf ll lq (g i 0))))) : Value) = (.int .i64 (bsum (fun (k : Nat) => (dLo lf ll lq (g k 0))) (i + 1))))) ∧ (((.int .i64 (IntKind.i64.wrap ((bsum (fun (k : Nat) => (dHi lf ll lq (g k 0))) i) + (dHi lf ll lq (g i 0))))) : Value) = (.int .i64 (bsum (fun (k : Nat) => (dHi lf ll lq (g k 0))) (i + 1))))) ∧ (((.int .i64 (IntKind.i64.wrap ((((i : Nat)) : Int) + (1 : Int)))) : Value) = (.int .i64 ((((i + 1) : Nat)) : Int))))⟩) := by kernel_rfl
theorem rblN_eq : seenF 4 4 48 (rblN lf ll lq n c g e opn sz ro i) = some ((.exit (0 : Nat)), rblE lf ll lq n c i, (rblL lf ll lq n c g e opn sz ro i), 0, 0, ⟨[], (True ∧ ((decide ((((i : Nat)) : Int) < (((n : Nat)) : Int))) = false))⟩) := by kernel_rfl
theorem rblA_keep : allKeep (4 + 4) (rblA lf ll lq n c i) 32 = true := by kernel_rfl
theorem rblL_keep : ∀ o, o ∈ (rblL lf ll lq n c g e opn sz ro i) → keepO (below (4 + 4)) o := fun o ho => by
  simp only [rblL, List.mem_cons, List.not_mem_nil, or_false] at ho
  rcases ho with rfl | rfl | rfl | rfl
  all_goals first | rfl | exact rowI_keep _ _ _ _ _ _ _ | exact fill_keep rfl (fun a => rfl)
end
theorem rbl_go (lf ll lq : Int) (n c : Nat) (g : Nat → Nat → Int) (e : TypeId) (opn : Bool) (sz : Nat) (ro : Bool) {i : Nat} (hx : lsIn lf ll lq ∧ ∀ i, i < n → pwIn (g i 0)) (hn : n ≤ 256) (hi : i < n) : SndC Tryz.prog none rblX (rblA lf ll lq n c i).act (wS 4 (rblL lf ll lq n c g e opn sz ro i)) .normal (rblA lf ll lq n c (i + 1)).act (wS 4 (rblL lf ll lq n c g e opn sz ro (i + 1))) 240 128 := by
  have h := rblR_eq lf ll lq n c g e opn sz ro i
  refine wayF_ok smx rblK_ok sng h ?_ rfl (rblA_keep lf ll lq n c i) (rblL_keep lf ll lq n c g e opn sz ro i) (rblL_keep lf ll lq n c g e opn sz ro (i + 1)) (fun k hk hw => by
    match k, hk, hw with
    | 0, _, hw => exact absurd hw (by decide)
    | 1, _, hw => exact absurd hw (by decide)
    | 2, _, hw => exact absurd hw (by decide)
    | 3, _, hw => exact ⟨fun h => (by cases h), rfl⟩
    | k + 4, hk, _ => exact absurd hk (by simp [rblL])) (by exact (by decide : ∀ b, b < 4 → Nat.testBit 384 b = false)) (by exact (by decide : ∀ b, b < 8 → Nat.testBit 432 b = true → Nat.testBit 240 b = true)) (by exact (by decide : ∀ b, b < 8 → Nat.testBit 128 b = Nat.testBit 384 b))
  repeat' (first | (with_reducible assumption) | exact hx.1 | exact hx.2 _ (by assumption) | apply And.intro)
  all_goals first | trivial | rfl | assumption | exact hx.1 | exact hx.2 _ (by assumption) | exact decide_eq_true (by omega) | exact decide_eq_false (by omega) | exact bne_iff_ne.2 (by assumption) | exact bne_eq_false_iff_eq.2 (by assumption) | exact beq_iff_eq.2 (by assumption) | exact beq_eq_false_iff_ne.2 (by assumption) | exact wnextV (by assumption) (by omega) | (have b1 := bsum_in (f := fun k => dLo lf ll lq (g k 0)) (n := n) (fun k hk => (dIn hx.1 (hx.2 k hk)).1) i (by omega); have b2 := bsum_in (f := fun k => dHi lf ll lq (g k 0)) (n := n) (fun k hk => (dIn hx.1 (hx.2 k hk)).2) i (by omega); have b3 := dIn hx.1 (hx.2 i hi); simp only [bsum, blG]; rw [wi _ (by omega)]) | omega
theorem rbl_end (lf ll lq : Int) (n c : Nat) (g : Nat → Nat → Int) (e : TypeId) (opn : Bool) (sz : Nat) (ro : Bool) {i : Nat} (hx : lsIn lf ll lq ∧ ∀ i, i < n → pwIn (g i 0)) (hn : n ≤ 256) (hi : ¬ i < n) : SndC Tryz.prog none rblX (rblA lf ll lq n c i).act (wS 4 (rblL lf ll lq n c g e opn sz ro i)) (.exit 0) (rblE lf ll lq n c i).act (wS 4 (rblL lf ll lq n c g e opn sz ro i)) 240 128 := by
  have h := rblN_eq lf ll lq n c g e opn sz ro i
  refine (wayF_ok0 smx rblK_ok sng h ?_ rfl (rblA_keep lf ll lq n c i) (rblL_keep lf ll lq n c g e opn sz ro i) (rblL_keep lf ll lq n c g e opn sz ro i) (by exact (by decide : ∀ b, b < 8 → Nat.testBit 0 b = false)) (R2 := 240) (by exact (by decide : ∀ b, b < 8 → Nat.testBit 0 b = true → Nat.testBit 240 b = true))).wide (fun b hb => by rw [or_bit, hb]; rfl) (fun b hb => by simp at hb)
  repeat' (first | (with_reducible assumption) | exact hx.1 | exact hx.2 _ (by assumption) | apply And.intro)
  all_goals first | trivial | rfl | assumption | exact hx.1 | exact hx.2 _ (by assumption) | exact decide_eq_true (by omega) | exact decide_eq_false (by omega) | exact bne_iff_ne.2 (by assumption) | exact bne_eq_false_iff_eq.2 (by assumption) | exact beq_iff_eq.2 (by assumption) | exact beq_eq_false_iff_ne.2 (by assumption) | exact wnextV (by assumption) (by omega) | (have b1 := bsum_in (f := fun k => dLo lf ll lq (g k 0)) (n := n) (fun k hk => (dIn hx.1 (hx.2 k hk)).1) i (by omega); have b2 := bsum_in (f := fun k => dHi lf ll lq (g k 0)) (n := n) (fun k hk => (dIn hx.1 (hx.2 k hk)).2) i (by omega); have b3 := dIn hx.1 (hx.2 i hi); simp only [bsum, blG]; rw [wi _ (by omega)]) | omega
theorem rbl_loop (lf ll lq : Int) (n c : Nat) (g : Nat → Nat → Int) (e : TypeId) (opn : Bool) (sz : Nat) (ro : Bool) (hx : lsIn lf ll lq ∧ ∀ i, i < n → pwIn (g i 0)) (hn : n ≤ 256) : SndC Tryz.prog none (.loop rblX) (rblA lf ll lq n c 0).act (wS 4 (rblL lf ll lq n c g e opn sz ro 0)) (.exit 0) (rblE lf ll lq n c (n)).act (wS 4 (rblL lf ll lq n c g e opn sz ro (n))) 240 128 :=
  sndC_rounds (A := fun i => (rblA lf ll lq n c i).act) (S := fun i => (wS 4 (rblL lf ll lq n c g e opn sz ro i))) (n) (fun k hk => rbl_go lf ll lq n c g e opn sz ro hx hn hk) (rbl_end lf ll lq n c g e opn sz ro hx hn (Nat.lt_irrefl _)) (by simp)
end Go.Proofs.YthhgmnocigekaaaGreatDoor
end
section
set_option linter.all false
set_option maxRecDepth 1000000
open Go.RowKit
namespace Go.Proofs.YthhgmnocigekaaaGreatDoor
open Mini
def rbArgs (lf ll lq : Int) (n c : Nat) : Array Value := #[.agg #[.int .i64 lf, .int .i64 ll, .int .i64 lq], .slice (some ⟨4, 0, none⟩) n c]
noncomputable def rb_1 (lf ll lq : Int) (n c : Nat) (g : Nat → Nat → Int) (e : TypeId) (opn : Bool) (sz : Nat) (ro : Bool) : Option OutS := evFS Tryz.prog noXS 1000 19 (rbArgs lf ll lq n c) (wS 4 [rowI 1 n g e opn sz ro]) ⟨[.lp 118 (rblA lf ll lq n c 0) 4 (rblL lf ll lq n c g e opn sz ro 0) (.exit 0) (rblE lf ll lq n c n) (rblL lf ll lq n c g e opn sz ro n) 240 128], True⟩
section
variable (lf ll lq : Int) (n c : Nat) (g : Nat → Nat → Int) (e : TypeId) (opn : Bool) (sz : Nat) (ro : Bool)
theorem rb_1eq : rb_1 lf ll lq n c g e opn sz ro = some ((.agg #[(.int .i64 (bsum (fun (k : Nat) => (dLo lf ll lq (g k 0))) n)), (.int .i64 (bsum (fun (k : Nat) => (dHi lf ll lq (g k 0))) n))]), wldOf (rb_1 lf ll lq n c g e opn sz ro), 16, 0, ⟨[], (True ∧ ((((rblA lf ll lq n c (0 : Nat)) = (rblA lf ll lq n c (0 : Nat))) ∧ ((8 = (4 + 4)) ∧ ((HAppend.hAppend (List.replicate (4 : Nat) MObj.hole) (rblL lf ll lq n c g e opn sz ro (0 : Nat))) = (HAppend.hAppend (List.replicate (4 : Nat) MObj.hole) (rblL lf ll lq n c g e opn sz ro (0 : Nat)))))) ∧ SndC Tryz.prog none (.loop rblX) (rblA lf ll lq n c 0).act (wS 4 (rblL lf ll lq n c g e opn sz ro 0)) (.exit 0) (rblE lf ll lq n c n).act (wS 4 (rblL lf ll lq n c g e opn sz ro n)) 240 128))⟩) := by kernel_rfl
end
def rbV (lf ll lq : Int) (n : Nat) (g : Nat → Nat → Int) : Value := .agg #[.int .i64 (bsum (fun k => dLo lf ll lq (g k 0)) n), .int .i64 (bsum (fun k => dHi lf ll lq (g k 0)) n)]
theorem rb_sndF (lf ll lq : Int) (n c : Nat) (g : Nat → Nat → Int) (e : TypeId) (opn : Bool) (sz : Nat) (ro : Bool) (hx : (lsIn lf ll lq ∧ ∀ i, i < n → pwIn (g i 0)) ∧ n ≤ 256) : SndF Tryz.prog 19 (rbArgs lf ll lq n c) (wS 4 [rowI 1 n g e opn sz ro]) (rbV lf ll lq n g) (wS 4 [rowI 1 n g e opn sz ro]) 16 0 := by
  have hl1 := rbl_loop lf ll lq n c g e opn sz ro hx.1 hx.2
  refine (SndF.tidy0 (l := [rowI 1 n g e opn sz ro]) ((evFS_ok smx noXS_ok 1000 _ _ _ _ _ _ _ _ _ (show evFS _ _ _ _ _ _ _ = _ from rb_1eq lf ll lq n c g e opn sz ro)).2 ?_) sng rowI_keep1 (by exact (by decide : ∀ b, b < 5 → Nat.testBit 0 b = false)) (by kernel_rfl) rfl).mask (by exact (by decide : ∀ b, b < 5 → Nat.testBit 16 b = true → Nat.testBit 16 b = true)) (fun b _ => rfl)
  repeat' (first | (with_reducible assumption) | exact hl1 | apply And.intro)
  all_goals first | trivial | rfl | assumption | exact hl1 | exact decide_eq_true (by omega) | exact decide_eq_false (by omega) | exact bne_iff_ne.2 (by assumption) | exact bne_eq_false_iff_eq.2 (by assumption) | exact beq_iff_eq.2 (by assumption) | exact beq_eq_false_iff_ne.2 (by assumption) | exact wnextV (by assumption) (by omega) | omega
def kRBal : CallS := fun f xs s q => match decide (f = 19) with
  | true => match xs.toList with
    | [.agg ⟨[.int .i64 lf, .int .i64 ll, .int .i64 lq]⟩, .slice (some ⟨b, 0, none⟩) n c] => match Nat.ble 4 b, rowK 1 .i64 s b n with
      | true, some (g, _, _, _, _, p) => some (rbV lf ll lq n g, s, 2 ^ b, 0, ⟨q.rest, q.ob ∧ (p ∧ ((lsIn lf ll lq ∧ ∀ i, i < n → pwIn (g i 0)) ∧ n ≤ 256))⟩)
      | _, _ => none
    | _ => none
  | false => none
theorem kRBal_ok : FOkS Tryz.prog kRBal := fun f xs s q u s1 R W q1 he => by
  unfold kRBal at he
  split at he
  · rename_i hf
    have hf := of_decide_eq_true hf
    subst hf
    split at he
    · rename_i lf ll lq b n c hx0
      split at he
      · rename_i g e opn sz ro p hb hr
        have hb := Nat.le_of_ble_eq_true hb
        have hxs : xs = #[.agg #[.int .i64 lf, .int .i64 ll, .int .i64 lq], .slice (some ⟨b, 0, none⟩) n c] := by apply Array.ext'; exact hx0
        subst hxs
        cases he
        refine ⟨fun hq => hq.1, fun hq => ?_⟩
        obtain ⟨hp, hx⟩ := hq.2
        obtain ⟨l1, w1⟩ := rowK_wo hr hp
        exact SndF.row (N := 4) sng (rb_sndF lf ll lq n c g e opn sz ro hx) rfl hb l1 w1 (fun f _ hf => wvs_two (ground_wv (n := 8) rfl) (slice_wv hf))
      · cases he
    · cases he
  · cases he
end Go.Proofs.YthhgmnocigekaaaGreatDoor
end
section
set_option linter.all false
set_option maxRecDepth 1000000
set_option maxHeartbeats 2000000
open Go.RowKit
namespace Go.Proofs.YthhgmnocigekaaaGreatDoor
open Mini

def tLoss_val (lf ll lq p : Int) : Value := .tuple #[.agg #[.int .i64 (if th2 (lsE lf ll lq) (pwE p) = 0 then lLo lf ll lq p else 0), .int .i64 (if th2 (lsE lf ll lq) (pwE p) = 0 then lHi lf ll lq p else 0)], .int .i64 (th2 (lsE lf ll lq) (pwE p))]
theorem tLoss_X : FOkS Tryz.prog x_tLoss := kAll_ok _ ⟨k_cLosses, k_cPower, k_loss, trivial⟩
theorem tLoss_args (lf ll lq p : Int) : (#[.agg #[.int .i64 lf, .int .i64 ll, .int .i64 lq], .int .i64 p] : Array Value).toList.all (ground 8) = true := by kernel_rfl
theorem tLoss_g0 : True := by first | rfl | trivial | decide | omega
theorem tLoss_g1 : (true = true) := by first | rfl | trivial | decide | omega
theorem tLoss_g2 : ((0 : Int) = (0 : Int)) := by first | rfl | trivial | decide | omega
def tLoss_c0 (lf ll lq p : Int) : Bool := ((lsE lf ll lq) != (0 : Int))
theorem tLoss_g4 : ((1 : Int) = (1 : Int)) := by first | rfl | trivial | decide | omega
def tLoss_c1 (lf ll lq p : Int) : Bool := ((pwE p) != (0 : Int))
theorem tLoss_g6 : (false = false) := by first | rfl | trivial | decide | omega
def tLoss_b7 (lf ll lq p : Int) : Prop := ((lsIn lf ll lq) ∧ (pwIn p))
def tLoss_w0 (lf ll lq p : Int) : Value := .tuple #[.agg #[.int .i64 (lLo lf ll lq p), .int .i64 (lHi lf ll lq p)], .int .i64 (0 : Int)]
def tLoss_r0 (lf ll lq p : Int) : Prop := (((((((((((True ∧ (True)) ∧ (True)) ∧ ((true = true))) ∧ (((0 : Int) = (0 : Int)))) ∧ (tLoss_c0 lf ll lq p = false)) ∧ ((true = true))) ∧ (((1 : Int) = (1 : Int)))) ∧ (tLoss_c1 lf ll lq p = false)) ∧ ((false = false))) ∧ ((false = false))) ∧ (tLoss_b7 lf ll lq p))
theorem tLoss_o0 (lf ll lq p : Int) : obOf (tLoss_e0 lf ll lq p) = tLoss_r0 lf ll lq p := by kernel_rfl
theorem tLoss_v0 (lf ll lq p : Int) : resOf (tLoss_e0 lf ll lq p) = tLoss_w0 lf ll lq p := by kernel_rfl
theorem tLoss_k0 (lf ll lq p : Int) : cleanOf Tryz.prog.globals.size (tLoss_e0 lf ll lq p) = true := by kernel_rfl
theorem tLoss_q0 (lf ll lq p : Int) : tLoss_e0 lf ll lq p = evFS Tryz.prog x_tLoss 1000 9 #[.agg #[.int .i64 lf, .int .i64 ll, .int .i64 lq], .int .i64 p] (noTabs 4) ⟨[1, 0, 0, 1, 1, 0, 0, 0], True⟩ := by
  delta tLoss_e0
  exact Eq.refl _
theorem tLoss_p0 (lf ll lq p : Int) (h : tLoss_r0 lf ll lq p) (w : World) : Calls Tryz.prog 9 #[.agg #[.int .i64 lf, .int .i64 ll, .int .i64 lq], .int .i64 p] w fun en w' => en = .returned (tLoss_w0 lf ll lq p) ∧ Below w.heap.size w w' := by
  have hv := tLoss_v0 lf ll lq p
  have hc := tLoss_k0 lf ll lq p
  have he := tLoss_q0 lf ll lq p
  have ho := tLoss_o0 lf ll lq p
  generalize tLoss_e0 lf ll lq p = r at *
  exact calls_way he gfol tLoss_X hv rfl (tLoss_args lf ll lq p) hc ho h (bl w)
def tLoss_w1 (lf ll lq p : Int) : Value := .tuple #[.agg #[.int .i64 (0 : Int), .int .i64 (0 : Int)], .int .i64 (lsE lf ll lq)]
def tLoss_r1 (lf ll lq p : Int) : Prop := ((((((True ∧ (True)) ∧ (True)) ∧ ((true = true))) ∧ (((0 : Int) = (0 : Int)))) ∧ (tLoss_c0 lf ll lq p = true)) ∧ (tLoss_c0 lf ll lq p = true))
theorem tLoss_o1 (lf ll lq p : Int) : obOf (tLoss_e1 lf ll lq p) = tLoss_r1 lf ll lq p := by kernel_rfl
theorem tLoss_v1 (lf ll lq p : Int) : resOf (tLoss_e1 lf ll lq p) = tLoss_w1 lf ll lq p := by kernel_rfl
theorem tLoss_k1 (lf ll lq p : Int) : cleanOf Tryz.prog.globals.size (tLoss_e1 lf ll lq p) = true := by kernel_rfl
theorem tLoss_q1 (lf ll lq p : Int) : tLoss_e1 lf ll lq p = evFS Tryz.prog x_tLoss 1000 9 #[.agg #[.int .i64 lf, .int .i64 ll, .int .i64 lq], .int .i64 p] (noTabs 4) ⟨[1, 0, 1, 1], True⟩ := by
  delta tLoss_e1
  exact Eq.refl _
theorem tLoss_p1 (lf ll lq p : Int) (h : tLoss_r1 lf ll lq p) (w : World) : Calls Tryz.prog 9 #[.agg #[.int .i64 lf, .int .i64 ll, .int .i64 lq], .int .i64 p] w fun en w' => en = .returned (tLoss_w1 lf ll lq p) ∧ Below w.heap.size w w' := by
  have hv := tLoss_v1 lf ll lq p
  have hc := tLoss_k1 lf ll lq p
  have he := tLoss_q1 lf ll lq p
  have ho := tLoss_o1 lf ll lq p
  generalize tLoss_e1 lf ll lq p = r at *
  exact calls_way he gfol tLoss_X hv rfl (tLoss_args lf ll lq p) hc ho h (bl w)
def tLoss_w2 (lf ll lq p : Int) : Value := .tuple #[.agg #[.int .i64 (0 : Int), .int .i64 (0 : Int)], .int .i64 (pwE p)]
def tLoss_r2 (lf ll lq p : Int) : Prop := (((((((((True ∧ (True)) ∧ (True)) ∧ ((true = true))) ∧ (((0 : Int) = (0 : Int)))) ∧ (tLoss_c0 lf ll lq p = false)) ∧ ((true = true))) ∧ (((1 : Int) = (1 : Int)))) ∧ (tLoss_c1 lf ll lq p = true)) ∧ (tLoss_c1 lf ll lq p = true))
theorem tLoss_o2 (lf ll lq p : Int) : obOf (tLoss_e2 lf ll lq p) = tLoss_r2 lf ll lq p := by kernel_rfl
theorem tLoss_v2 (lf ll lq p : Int) : resOf (tLoss_e2 lf ll lq p) = tLoss_w2 lf ll lq p := by kernel_rfl
theorem tLoss_k2 (lf ll lq p : Int) : cleanOf Tryz.prog.globals.size (tLoss_e2 lf ll lq p) = true := by kernel_rfl
theorem tLoss_q2 (lf ll lq p : Int) : tLoss_e2 lf ll lq p = evFS Tryz.prog x_tLoss 1000 9 #[.agg #[.int .i64 lf, .int .i64 ll, .int .i64 lq], .int .i64 p] (noTabs 4) ⟨[1, 0, 0, 1, 1, 1, 1], True⟩ := by
  delta tLoss_e2
  exact Eq.refl _
theorem tLoss_p2 (lf ll lq p : Int) (h : tLoss_r2 lf ll lq p) (w : World) : Calls Tryz.prog 9 #[.agg #[.int .i64 lf, .int .i64 ll, .int .i64 lq], .int .i64 p] w fun en w' => en = .returned (tLoss_w2 lf ll lq p) ∧ Below w.heap.size w w' := by
  have hv := tLoss_v2 lf ll lq p
  have hc := tLoss_k2 lf ll lq p
  have he := tLoss_q2 lf ll lq p
  have ho := tLoss_o2 lf ll lq p
  generalize tLoss_e2 lf ll lq p = r at *
  exact calls_way he gfol tLoss_X hv rfl (tLoss_args lf ll lq p) hc ho h (bl w)
theorem tLoss_any (lf ll lq p : Int) (hpre : True) (w : World) : Calls Tryz.prog 9 #[.agg #[.int .i64 lf, .int .i64 ll, .int .i64 lq], .int .i64 p] w fun en w' => en = .returned (tLoss_val lf ll lq p) ∧ Below w.heap.size w w' := by
  rcases Bool.eq_false_or_eq_true (tLoss_c0 lf ll lq p) with h0 | h0
  ·
    unfold tLoss_c0 at h0
    have hp := tLoss_p1 lf ll lq p ⟨⟨⟨⟨⟨⟨trivial, tLoss_g0⟩, tLoss_g0⟩, tLoss_g1⟩, tLoss_g2⟩, h0⟩, h0⟩ w
    have hv : tLoss_w1 lf ll lq p = (tLoss_val lf ll lq p) := by
      clear hp
      unfold tLoss_w1 tLoss_val
      first | rfl | ((try simp only [bne_iff_ne, ne_eq, decide_eq_true_eq, decide_eq_false_iff_not, Bool.not_eq_true', Bool.not_eq_false', beq_iff_eq, beq_eq_false_iff_ne, bne_eq_false_iff_eq, Bool.and_eq_true, Bool.not_eq_true, Bool.not_eq_false, th2] at *); grind)
    exact hv ▸ hp
  ·
    unfold tLoss_c0 at h0
    rcases Bool.eq_false_or_eq_true (tLoss_c1 lf ll lq p) with h1 | h1
    ·
      unfold tLoss_c1 at h1
      have hp := tLoss_p2 lf ll lq p ⟨⟨⟨⟨⟨⟨⟨⟨⟨trivial, tLoss_g0⟩, tLoss_g0⟩, tLoss_g1⟩, tLoss_g2⟩, h0⟩, tLoss_g1⟩, tLoss_g4⟩, h1⟩, h1⟩ w
      have hv : tLoss_w2 lf ll lq p = (tLoss_val lf ll lq p) := by
        clear hp
        unfold tLoss_w2 tLoss_val
        first | rfl | ((try simp only [bne_iff_ne, ne_eq, decide_eq_true_eq, decide_eq_false_iff_not, Bool.not_eq_true', Bool.not_eq_false', beq_iff_eq, beq_eq_false_iff_ne, bne_eq_false_iff_eq, Bool.and_eq_true, Bool.not_eq_true, Bool.not_eq_false, th2] at *); grind)
      exact hv ▸ hp
    ·
      unfold tLoss_c1 at h1
      have h2 : (tLoss_b7 lf ll lq p) := by
        unfold tLoss_b7
        first | rfl | trivial | assumption | exact hpre | exact ⟨rfl, by omega⟩ | (simp only [bne_eq_false_iff_eq, bne_iff_ne, ne_eq, beq_iff_eq, beq_eq_false_iff_ne] at *; first | exact ⟨lsE_in (by assumption), pwE_in (by assumption)⟩ | exact lsE_in (by assumption) | exact pwE_in (by assumption))
      unfold tLoss_b7 at h2
      have hp := tLoss_p0 lf ll lq p ⟨⟨⟨⟨⟨⟨⟨⟨⟨⟨⟨trivial, tLoss_g0⟩, tLoss_g0⟩, tLoss_g1⟩, tLoss_g2⟩, h0⟩, tLoss_g1⟩, tLoss_g4⟩, h1⟩, tLoss_g6⟩, tLoss_g6⟩, h2⟩ w
      have hv : tLoss_w0 lf ll lq p = (tLoss_val lf ll lq p) := by
        clear hp
        unfold tLoss_w0 tLoss_val
        first | rfl | ((try simp only [bne_iff_ne, ne_eq, decide_eq_true_eq, decide_eq_false_iff_not, Bool.not_eq_true', Bool.not_eq_false', beq_iff_eq, beq_eq_false_iff_ne, bne_eq_false_iff_eq, Bool.and_eq_true, Bool.not_eq_true, Bool.not_eq_false, th2] at *); grind)
      exact hv ▸ hp
theorem k_tLoss : ConOk Tryz.prog c_tLoss := fun ns hl => by
  have hl0 : ns.length = 4 := hl
  clear hl
  obtain ⟨lf, ns0, rfl, hl1⟩ := len_cons hl0
  obtain ⟨ll, ns1, rfl, hl2⟩ := len_cons hl1
  obtain ⟨lq, ns2, rfl, hl3⟩ := len_cons hl2
  obtain ⟨p, ns3, rfl, hl4⟩ := len_cons hl3
  obtain rfl := len_nil hl4
  exact ⟨rfl, fun h w => tLoss_any lf ll lq p h w⟩
end Go.Proofs.YthhgmnocigekaaaGreatDoor
end
section
set_option linter.all false
set_option maxRecDepth 1000000
set_option maxHeartbeats 2000000
open Go.RowKit
namespace Go.Proofs.YthhgmnocigekaaaGreatDoor
open Mini

def tDelivered_val (lf ll lq p : Int) : Value := .tuple #[.agg #[.int .i64 (if th2 (lsE lf ll lq) (pwE p) = 0 then dLo lf ll lq p else 0), .int .i64 (if th2 (lsE lf ll lq) (pwE p) = 0 then dHi lf ll lq p else 0)], .int .i64 (th2 (lsE lf ll lq) (pwE p))]
theorem tDelivered_X : FOkS Tryz.prog x_tDelivered := kAll_ok _ ⟨k_cLosses, k_cPower, k_delivered, trivial⟩
theorem tDelivered_args (lf ll lq p : Int) : (#[.agg #[.int .i64 lf, .int .i64 ll, .int .i64 lq], .int .i64 p] : Array Value).toList.all (ground 8) = true := by kernel_rfl
theorem tDelivered_g0 : True := by first | rfl | trivial | decide | omega
theorem tDelivered_g1 : (true = true) := by first | rfl | trivial | decide | omega
theorem tDelivered_g2 : ((0 : Int) = (0 : Int)) := by first | rfl | trivial | decide | omega
def tDelivered_c0 (lf ll lq p : Int) : Bool := ((lsE lf ll lq) != (0 : Int))
theorem tDelivered_g4 : ((1 : Int) = (1 : Int)) := by first | rfl | trivial | decide | omega
def tDelivered_c1 (lf ll lq p : Int) : Bool := ((pwE p) != (0 : Int))
theorem tDelivered_g7 : (false = false) := by first | rfl | trivial | decide | omega
def tDelivered_b8 (lf ll lq p : Int) : Prop := ((lsIn lf ll lq) ∧ (pwIn p))
def tDelivered_w0 (lf ll lq p : Int) : Value := .tuple #[.agg #[.int .i64 (0 : Int), .int .i64 (0 : Int)], .int .i64 (pwE p)]
def tDelivered_r0 (lf ll lq p : Int) : Prop := (((((((((True ∧ (True)) ∧ (True)) ∧ ((true = true))) ∧ (((0 : Int) = (0 : Int)))) ∧ (tDelivered_c0 lf ll lq p = false)) ∧ ((true = true))) ∧ (((1 : Int) = (1 : Int)))) ∧ (tDelivered_c1 lf ll lq p = true)) ∧ (tDelivered_c1 lf ll lq p = true))
theorem tDelivered_o0 (lf ll lq p : Int) : obOf (tDelivered_e0 lf ll lq p) = tDelivered_r0 lf ll lq p := by kernel_rfl
theorem tDelivered_v0 (lf ll lq p : Int) : resOf (tDelivered_e0 lf ll lq p) = tDelivered_w0 lf ll lq p := by kernel_rfl
theorem tDelivered_k0 (lf ll lq p : Int) : cleanOf Tryz.prog.globals.size (tDelivered_e0 lf ll lq p) = true := by kernel_rfl
theorem tDelivered_q0 (lf ll lq p : Int) : tDelivered_e0 lf ll lq p = evFS Tryz.prog x_tDelivered 1000 10 #[.agg #[.int .i64 lf, .int .i64 ll, .int .i64 lq], .int .i64 p] (noTabs 4) ⟨[1, 0, 0, 1, 1, 1, 1], True⟩ := by
  delta tDelivered_e0
  exact Eq.refl _
theorem tDelivered_p0 (lf ll lq p : Int) (h : tDelivered_r0 lf ll lq p) (w : World) : Calls Tryz.prog 10 #[.agg #[.int .i64 lf, .int .i64 ll, .int .i64 lq], .int .i64 p] w fun en w' => en = .returned (tDelivered_w0 lf ll lq p) ∧ Below w.heap.size w w' := by
  have hv := tDelivered_v0 lf ll lq p
  have hc := tDelivered_k0 lf ll lq p
  have he := tDelivered_q0 lf ll lq p
  have ho := tDelivered_o0 lf ll lq p
  generalize tDelivered_e0 lf ll lq p = r at *
  exact calls_way he gfol tDelivered_X hv rfl (tDelivered_args lf ll lq p) hc ho h (bl w)
def tDelivered_w1 (lf ll lq p : Int) : Value := .tuple #[.agg #[.int .i64 (dLo lf ll lq p), .int .i64 (dHi lf ll lq p)], .int .i64 (0 : Int)]
def tDelivered_r1 (lf ll lq p : Int) : Prop := (((((((((((True ∧ (True)) ∧ (True)) ∧ ((true = true))) ∧ (((0 : Int) = (0 : Int)))) ∧ (tDelivered_c0 lf ll lq p = false)) ∧ ((true = true))) ∧ (((1 : Int) = (1 : Int)))) ∧ (tDelivered_c1 lf ll lq p = false)) ∧ ((false = false))) ∧ ((false = false))) ∧ (tDelivered_b8 lf ll lq p))
theorem tDelivered_o1 (lf ll lq p : Int) : obOf (tDelivered_e1 lf ll lq p) = tDelivered_r1 lf ll lq p := by kernel_rfl
theorem tDelivered_v1 (lf ll lq p : Int) : resOf (tDelivered_e1 lf ll lq p) = tDelivered_w1 lf ll lq p := by kernel_rfl
theorem tDelivered_k1 (lf ll lq p : Int) : cleanOf Tryz.prog.globals.size (tDelivered_e1 lf ll lq p) = true := by kernel_rfl
theorem tDelivered_q1 (lf ll lq p : Int) : tDelivered_e1 lf ll lq p = evFS Tryz.prog x_tDelivered 1000 10 #[.agg #[.int .i64 lf, .int .i64 ll, .int .i64 lq], .int .i64 p] (noTabs 4) ⟨[1, 0, 0, 1, 1, 0, 0, 0], True⟩ := by
  delta tDelivered_e1
  exact Eq.refl _
theorem tDelivered_p1 (lf ll lq p : Int) (h : tDelivered_r1 lf ll lq p) (w : World) : Calls Tryz.prog 10 #[.agg #[.int .i64 lf, .int .i64 ll, .int .i64 lq], .int .i64 p] w fun en w' => en = .returned (tDelivered_w1 lf ll lq p) ∧ Below w.heap.size w w' := by
  have hv := tDelivered_v1 lf ll lq p
  have hc := tDelivered_k1 lf ll lq p
  have he := tDelivered_q1 lf ll lq p
  have ho := tDelivered_o1 lf ll lq p
  generalize tDelivered_e1 lf ll lq p = r at *
  exact calls_way he gfol tDelivered_X hv rfl (tDelivered_args lf ll lq p) hc ho h (bl w)
def tDelivered_w2 (lf ll lq p : Int) : Value := .tuple #[.agg #[.int .i64 (0 : Int), .int .i64 (0 : Int)], .int .i64 (lsE lf ll lq)]
def tDelivered_r2 (lf ll lq p : Int) : Prop := ((((((True ∧ (True)) ∧ (True)) ∧ ((true = true))) ∧ (((0 : Int) = (0 : Int)))) ∧ (tDelivered_c0 lf ll lq p = true)) ∧ (tDelivered_c0 lf ll lq p = true))
theorem tDelivered_o2 (lf ll lq p : Int) : obOf (tDelivered_e2 lf ll lq p) = tDelivered_r2 lf ll lq p := by kernel_rfl
theorem tDelivered_v2 (lf ll lq p : Int) : resOf (tDelivered_e2 lf ll lq p) = tDelivered_w2 lf ll lq p := by kernel_rfl
theorem tDelivered_k2 (lf ll lq p : Int) : cleanOf Tryz.prog.globals.size (tDelivered_e2 lf ll lq p) = true := by kernel_rfl
theorem tDelivered_q2 (lf ll lq p : Int) : tDelivered_e2 lf ll lq p = evFS Tryz.prog x_tDelivered 1000 10 #[.agg #[.int .i64 lf, .int .i64 ll, .int .i64 lq], .int .i64 p] (noTabs 4) ⟨[1, 0, 1, 1], True⟩ := by
  delta tDelivered_e2
  exact Eq.refl _
theorem tDelivered_p2 (lf ll lq p : Int) (h : tDelivered_r2 lf ll lq p) (w : World) : Calls Tryz.prog 10 #[.agg #[.int .i64 lf, .int .i64 ll, .int .i64 lq], .int .i64 p] w fun en w' => en = .returned (tDelivered_w2 lf ll lq p) ∧ Below w.heap.size w w' := by
  have hv := tDelivered_v2 lf ll lq p
  have hc := tDelivered_k2 lf ll lq p
  have he := tDelivered_q2 lf ll lq p
  have ho := tDelivered_o2 lf ll lq p
  generalize tDelivered_e2 lf ll lq p = r at *
  exact calls_way he gfol tDelivered_X hv rfl (tDelivered_args lf ll lq p) hc ho h (bl w)
theorem tDelivered_any (lf ll lq p : Int) (hpre : True) (w : World) : Calls Tryz.prog 10 #[.agg #[.int .i64 lf, .int .i64 ll, .int .i64 lq], .int .i64 p] w fun en w' => en = .returned (tDelivered_val lf ll lq p) ∧ Below w.heap.size w w' := by
  rcases Bool.eq_false_or_eq_true (tDelivered_c0 lf ll lq p) with h0 | h0
  ·
    unfold tDelivered_c0 at h0
    have hp := tDelivered_p2 lf ll lq p ⟨⟨⟨⟨⟨⟨trivial, tDelivered_g0⟩, tDelivered_g0⟩, tDelivered_g1⟩, tDelivered_g2⟩, h0⟩, h0⟩ w
    have hv : tDelivered_w2 lf ll lq p = (tDelivered_val lf ll lq p) := by
      clear hp
      unfold tDelivered_w2 tDelivered_val
      first | rfl | ((try simp only [bne_iff_ne, ne_eq, decide_eq_true_eq, decide_eq_false_iff_not, Bool.not_eq_true', Bool.not_eq_false', beq_iff_eq, beq_eq_false_iff_ne, bne_eq_false_iff_eq, Bool.and_eq_true, Bool.not_eq_true, Bool.not_eq_false, th2] at *); grind)
    exact hv ▸ hp
  ·
    unfold tDelivered_c0 at h0
    rcases Bool.eq_false_or_eq_true (tDelivered_c1 lf ll lq p) with h1 | h1
    ·
      unfold tDelivered_c1 at h1
      have hp := tDelivered_p0 lf ll lq p ⟨⟨⟨⟨⟨⟨⟨⟨⟨trivial, tDelivered_g0⟩, tDelivered_g0⟩, tDelivered_g1⟩, tDelivered_g2⟩, h0⟩, tDelivered_g1⟩, tDelivered_g4⟩, h1⟩, h1⟩ w
      have hv : tDelivered_w0 lf ll lq p = (tDelivered_val lf ll lq p) := by
        clear hp
        unfold tDelivered_w0 tDelivered_val
        first | rfl | ((try simp only [bne_iff_ne, ne_eq, decide_eq_true_eq, decide_eq_false_iff_not, Bool.not_eq_true', Bool.not_eq_false', beq_iff_eq, beq_eq_false_iff_ne, bne_eq_false_iff_eq, Bool.and_eq_true, Bool.not_eq_true, Bool.not_eq_false, th2] at *); grind)
      exact hv ▸ hp
    ·
      unfold tDelivered_c1 at h1
      have h2 : (tDelivered_b8 lf ll lq p) := by
        unfold tDelivered_b8
        first | rfl | trivial | assumption | exact hpre | exact ⟨rfl, by omega⟩ | (simp only [bne_eq_false_iff_eq, bne_iff_ne, ne_eq, beq_iff_eq, beq_eq_false_iff_ne] at *; first | exact ⟨lsE_in (by assumption), pwE_in (by assumption)⟩ | exact lsE_in (by assumption) | exact pwE_in (by assumption))
      unfold tDelivered_b8 at h2
      have hp := tDelivered_p1 lf ll lq p ⟨⟨⟨⟨⟨⟨⟨⟨⟨⟨⟨trivial, tDelivered_g0⟩, tDelivered_g0⟩, tDelivered_g1⟩, tDelivered_g2⟩, h0⟩, tDelivered_g1⟩, tDelivered_g4⟩, h1⟩, tDelivered_g7⟩, tDelivered_g7⟩, h2⟩ w
      have hv : tDelivered_w1 lf ll lq p = (tDelivered_val lf ll lq p) := by
        clear hp
        unfold tDelivered_w1 tDelivered_val
        first | rfl | ((try simp only [bne_iff_ne, ne_eq, decide_eq_true_eq, decide_eq_false_iff_not, Bool.not_eq_true', Bool.not_eq_false', beq_iff_eq, beq_eq_false_iff_ne, bne_eq_false_iff_eq, Bool.and_eq_true, Bool.not_eq_true, Bool.not_eq_false, th2] at *); grind)
      exact hv ▸ hp
theorem k_tDelivered : ConOk Tryz.prog c_tDelivered := fun ns hl => by
  have hl0 : ns.length = 4 := hl
  clear hl
  obtain ⟨lf, ns0, rfl, hl1⟩ := len_cons hl0
  obtain ⟨ll, ns1, rfl, hl2⟩ := len_cons hl1
  obtain ⟨lq, ns2, rfl, hl3⟩ := len_cons hl2
  obtain ⟨p, ns3, rfl, hl4⟩ := len_cons hl3
  obtain rfl := len_nil hl4
  exact ⟨rfl, fun h w => tDelivered_any lf ll lq p h w⟩
end Go.Proofs.YthhgmnocigekaaaGreatDoor
end
section
set_option linter.all false
set_option maxRecDepth 1000000
set_option maxHeartbeats 2000000
open Go.RowKit
namespace Go.Proofs.YthhgmnocigekaaaGreatDoor
open Mini

def rcPower_val (lf ll lq p : Int) : Value := .int .i64 (th2 (lsE lf ll lq) (pwE p))
theorem rcPower_X : FOkS Tryz.prog x_rcPower := kAll_ok _ ⟨k_rrange, k_rcLosses, trivial⟩
theorem rcPower_args (lf ll lq p : Int) : (#[.agg #[.int .i64 lf, .int .i64 ll, .int .i64 lq], .int .i64 p] : Array Value).toList.all (ground 8) = true := by kernel_rfl
theorem rcPower_g0 : True := by first | rfl | trivial | decide | omega
theorem rcPower_g1 : (true = true) := by first | rfl | trivial | decide | omega
theorem rcPower_g2 : ((0 : Int) = (0 : Int)) := by first | rfl | trivial | decide | omega
def rcPower_c0 (lf ll lq p : Int) : Bool := ((lsE lf ll lq) != (0 : Int))
theorem rcPower_g4 : ((1 : Int) = (1 : Int)) := by first | rfl | trivial | decide | omega
def rcPower_c1 (lf ll lq p : Int) : Bool := ((Pl.cr p (0 : Int) (1000 : Int)) != (0 : Int))
theorem rcPower_g6 : (false = false) := by first | rfl | trivial | decide | omega
def rcPower_w0 (lf ll lq p : Int) : Value := .int .i64 (0 : Int)
def rcPower_r0 (lf ll lq p : Int) : Prop := (((((((((True ∧ (True)) ∧ (True)) ∧ ((true = true))) ∧ (((0 : Int) = (0 : Int)))) ∧ (rcPower_c0 lf ll lq p = false)) ∧ ((true = true))) ∧ (((1 : Int) = (1 : Int)))) ∧ (rcPower_c1 lf ll lq p = false)) ∧ ((false = false)))
theorem rcPower_o0 (lf ll lq p : Int) : obOf (rcPower_e0 lf ll lq p) = rcPower_r0 lf ll lq p := by kernel_rfl
theorem rcPower_v0 (lf ll lq p : Int) : resOf (rcPower_e0 lf ll lq p) = rcPower_w0 lf ll lq p := by kernel_rfl
theorem rcPower_k0 (lf ll lq p : Int) : cleanOf Tryz.prog.globals.size (rcPower_e0 lf ll lq p) = true := by kernel_rfl
theorem rcPower_q0 (lf ll lq p : Int) : rcPower_e0 lf ll lq p = evFS Tryz.prog x_rcPower 1000 14 #[.agg #[.int .i64 lf, .int .i64 ll, .int .i64 lq], .int .i64 p] (noTabs 4) ⟨[1, 0, 0, 1, 1, 0, 0], True⟩ := by
  delta rcPower_e0
  exact Eq.refl _
theorem rcPower_p0 (lf ll lq p : Int) (h : rcPower_r0 lf ll lq p) (w : World) : Calls Tryz.prog 14 #[.agg #[.int .i64 lf, .int .i64 ll, .int .i64 lq], .int .i64 p] w fun en w' => en = .returned (rcPower_w0 lf ll lq p) ∧ Below w.heap.size w w' := by
  have hv := rcPower_v0 lf ll lq p
  have hc := rcPower_k0 lf ll lq p
  have he := rcPower_q0 lf ll lq p
  have ho := rcPower_o0 lf ll lq p
  generalize rcPower_e0 lf ll lq p = r at *
  exact calls_way he gfol rcPower_X hv rfl (rcPower_args lf ll lq p) hc ho h (bl w)
def rcPower_w1 (lf ll lq p : Int) : Value := .int .i64 (lsE lf ll lq)
def rcPower_r1 (lf ll lq p : Int) : Prop := ((((((True ∧ (True)) ∧ (True)) ∧ ((true = true))) ∧ (((0 : Int) = (0 : Int)))) ∧ (rcPower_c0 lf ll lq p = true)) ∧ (((0 : Int) = (0 : Int))))
theorem rcPower_o1 (lf ll lq p : Int) : obOf (rcPower_e1 lf ll lq p) = rcPower_r1 lf ll lq p := by kernel_rfl
theorem rcPower_v1 (lf ll lq p : Int) : resOf (rcPower_e1 lf ll lq p) = rcPower_w1 lf ll lq p := by kernel_rfl
theorem rcPower_k1 (lf ll lq p : Int) : cleanOf Tryz.prog.globals.size (rcPower_e1 lf ll lq p) = true := by kernel_rfl
theorem rcPower_q1 (lf ll lq p : Int) : rcPower_e1 lf ll lq p = evFS Tryz.prog x_rcPower 1000 14 #[.agg #[.int .i64 lf, .int .i64 ll, .int .i64 lq], .int .i64 p] (noTabs 4) ⟨[1, 0, 1, 0], True⟩ := by
  delta rcPower_e1
  exact Eq.refl _
theorem rcPower_p1 (lf ll lq p : Int) (h : rcPower_r1 lf ll lq p) (w : World) : Calls Tryz.prog 14 #[.agg #[.int .i64 lf, .int .i64 ll, .int .i64 lq], .int .i64 p] w fun en w' => en = .returned (rcPower_w1 lf ll lq p) ∧ Below w.heap.size w w' := by
  have hv := rcPower_v1 lf ll lq p
  have hc := rcPower_k1 lf ll lq p
  have he := rcPower_q1 lf ll lq p
  have ho := rcPower_o1 lf ll lq p
  generalize rcPower_e1 lf ll lq p = r at *
  exact calls_way he gfol rcPower_X hv rfl (rcPower_args lf ll lq p) hc ho h (bl w)
def rcPower_w2 (lf ll lq p : Int) : Value := .int .i64 (Pl.cr p (0 : Int) (1000 : Int))
def rcPower_r2 (lf ll lq p : Int) : Prop := (((((((((True ∧ (True)) ∧ (True)) ∧ ((true = true))) ∧ (((0 : Int) = (0 : Int)))) ∧ (rcPower_c0 lf ll lq p = false)) ∧ ((true = true))) ∧ (((1 : Int) = (1 : Int)))) ∧ (rcPower_c1 lf ll lq p = true)) ∧ (((1 : Int) = (1 : Int))))
theorem rcPower_o2 (lf ll lq p : Int) : obOf (rcPower_e2 lf ll lq p) = rcPower_r2 lf ll lq p := by kernel_rfl
theorem rcPower_v2 (lf ll lq p : Int) : resOf (rcPower_e2 lf ll lq p) = rcPower_w2 lf ll lq p := by kernel_rfl
theorem rcPower_k2 (lf ll lq p : Int) : cleanOf Tryz.prog.globals.size (rcPower_e2 lf ll lq p) = true := by kernel_rfl
theorem rcPower_q2 (lf ll lq p : Int) : rcPower_e2 lf ll lq p = evFS Tryz.prog x_rcPower 1000 14 #[.agg #[.int .i64 lf, .int .i64 ll, .int .i64 lq], .int .i64 p] (noTabs 4) ⟨[1, 0, 0, 1, 1, 1, 1], True⟩ := by
  delta rcPower_e2
  exact Eq.refl _
theorem rcPower_p2 (lf ll lq p : Int) (h : rcPower_r2 lf ll lq p) (w : World) : Calls Tryz.prog 14 #[.agg #[.int .i64 lf, .int .i64 ll, .int .i64 lq], .int .i64 p] w fun en w' => en = .returned (rcPower_w2 lf ll lq p) ∧ Below w.heap.size w w' := by
  have hv := rcPower_v2 lf ll lq p
  have hc := rcPower_k2 lf ll lq p
  have he := rcPower_q2 lf ll lq p
  have ho := rcPower_o2 lf ll lq p
  generalize rcPower_e2 lf ll lq p = r at *
  exact calls_way he gfol rcPower_X hv rfl (rcPower_args lf ll lq p) hc ho h (bl w)
theorem rcPower_any (lf ll lq p : Int) (hpre : True) (w : World) : Calls Tryz.prog 14 #[.agg #[.int .i64 lf, .int .i64 ll, .int .i64 lq], .int .i64 p] w fun en w' => en = .returned (rcPower_val lf ll lq p) ∧ Below w.heap.size w w' := by
  rcases Bool.eq_false_or_eq_true (rcPower_c0 lf ll lq p) with h0 | h0
  ·
    unfold rcPower_c0 at h0
    have hp := rcPower_p1 lf ll lq p ⟨⟨⟨⟨⟨⟨trivial, rcPower_g0⟩, rcPower_g0⟩, rcPower_g1⟩, rcPower_g2⟩, h0⟩, rcPower_g2⟩ w
    have hv : rcPower_w1 lf ll lq p = (rcPower_val lf ll lq p) := by
      clear hp
      unfold rcPower_w1 rcPower_val
      first | rfl | ((try simp only [bne_iff_ne, ne_eq, decide_eq_true_eq, decide_eq_false_iff_not, Bool.not_eq_true', Bool.not_eq_false', beq_iff_eq, beq_eq_false_iff_ne, bne_eq_false_iff_eq, Bool.and_eq_true, Bool.not_eq_true, Bool.not_eq_false, Pl.cr, th3, th2, lsE, pwE] at *); grind)
    exact hv ▸ hp
  ·
    unfold rcPower_c0 at h0
    rcases Bool.eq_false_or_eq_true (rcPower_c1 lf ll lq p) with h1 | h1
    ·
      unfold rcPower_c1 at h1
      have hp := rcPower_p2 lf ll lq p ⟨⟨⟨⟨⟨⟨⟨⟨⟨trivial, rcPower_g0⟩, rcPower_g0⟩, rcPower_g1⟩, rcPower_g2⟩, h0⟩, rcPower_g1⟩, rcPower_g4⟩, h1⟩, rcPower_g4⟩ w
      have hv : rcPower_w2 lf ll lq p = (rcPower_val lf ll lq p) := by
        clear hp
        unfold rcPower_w2 rcPower_val
        first | rfl | ((try simp only [bne_iff_ne, ne_eq, decide_eq_true_eq, decide_eq_false_iff_not, Bool.not_eq_true', Bool.not_eq_false', beq_iff_eq, beq_eq_false_iff_ne, bne_eq_false_iff_eq, Bool.and_eq_true, Bool.not_eq_true, Bool.not_eq_false, Pl.cr, th3, th2, lsE, pwE] at *); grind)
      exact hv ▸ hp
    ·
      unfold rcPower_c1 at h1
      have hp := rcPower_p0 lf ll lq p ⟨⟨⟨⟨⟨⟨⟨⟨⟨trivial, rcPower_g0⟩, rcPower_g0⟩, rcPower_g1⟩, rcPower_g2⟩, h0⟩, rcPower_g1⟩, rcPower_g4⟩, h1⟩, rcPower_g6⟩ w
      have hv : rcPower_w0 lf ll lq p = (rcPower_val lf ll lq p) := by
        clear hp
        unfold rcPower_w0 rcPower_val
        first | rfl | ((try simp only [bne_iff_ne, ne_eq, decide_eq_true_eq, decide_eq_false_iff_not, Bool.not_eq_true', Bool.not_eq_false', beq_iff_eq, beq_eq_false_iff_ne, bne_eq_false_iff_eq, Bool.and_eq_true, Bool.not_eq_true, Bool.not_eq_false, Pl.cr, th3, th2, lsE, pwE] at *); grind)
      exact hv ▸ hp
theorem k_rcPower : ConOk Tryz.prog c_rcPower := fun ns hl => by
  have hl0 : ns.length = 4 := hl
  clear hl
  obtain ⟨lf, ns0, rfl, hl1⟩ := len_cons hl0
  obtain ⟨ll, ns1, rfl, hl2⟩ := len_cons hl1
  obtain ⟨lq, ns2, rfl, hl3⟩ := len_cons hl2
  obtain ⟨p, ns3, rfl, hl4⟩ := len_cons hl3
  obtain rfl := len_nil hl4
  exact ⟨rfl, fun h w => rcPower_any lf ll lq p h w⟩
end Go.Proofs.YthhgmnocigekaaaGreatDoor
end
section
set_option linter.all false
set_option maxRecDepth 1000000
open Go.RowKit
namespace Go.Proofs.YthhgmnocigekaaaGreatDoor
open Mini

theorem wiN (x : Int) (h : -9223372036854775808 ≤ x ∧ x ≤ 9223372036854775807) : IntKind.i64.wrap x = x := IntWalk.i64_in _ (by omega)
def bIn (m x : Int) : Prop := -m ≤ x ∧ x ≤ m
theorem bMul {m k x y : Int} (hm : 0 ≤ m) (hk : 0 ≤ k) (h1 : bIn m x) (h2 : bIn k y) : bIn (m * k) (x * y) := mul_bd2 m k x y hm hk h1.1 h1.2 h2.1 h2.2
def lwD (num den : Int) : Int := if den < 0 then -(Int.gcd num den : Int) else Int.gcd num den
theorem gcd_in {a b m : Int} (hb : b ≠ 0) (h : bIn m b) : 0 < (Int.gcd a b : Int) ∧ (Int.gcd a b : Int) ≤ m := by
  have h1 : 0 < Int.gcd a b := Nat.pos_of_ne_zero fun e => hb (Int.gcd_eq_zero_iff.1 e).2
  have h2 : Int.gcd a b ≤ b.natAbs := Nat.le_of_dvd (by omega) (Int.gcd_dvd_natAbs_right a b)
  unfold bIn at h
  omega
theorem tdiv_in {a b m : Int} (h : bIn m a) : bIn m (a.tdiv b) := by
  have h1 : (a.tdiv b).natAbs ≤ a.natAbs := by rw [Int.natAbs_tdiv]; exact Nat.div_le_self _ _
  unfold bIn at *
  omega

def c_divisor : Con := ⟨121, [.int .i64, .int .i64], fun ns => match ns with | [a, b] => .int .i64 (Int.gcd a b) | _ => .bool true, fun ns => match ns with | [a, b] => (Int.gcd a b : Int) ≤ 9223372036854775807 | _ => True⟩
def c_lowest : Con := ⟨104, [.int .i64, .int .i64], fun ns => match ns with | [num, den] => .agg #[.int .i64 (Int.tdiv num (lwD num den)), .int .i64 (Int.tdiv den (lwD num den))] | _ => .bool true, fun ns => match ns with | [num, den] => den ≠ 0 ∧ bIn 4611686018427387904 num ∧ bIn 4611686018427387904 den | _ => True⟩
def c_through : Con := ⟨103, [.agg [.i64, .i64], .agg [.i64, .i64]], fun ns => match ns with | [pv, pp, qv, qp] => .agg #[.int .i64 (qp - pp), .int .i64 ((qv - pv) * pp - (qp - pp) * pv), .int .i64 (qv - pv)] | _ => .bool true, fun ns => match ns with | [pv, pp, qv, qp] => bIn 1048576 pv ∧ bIn 1048576 pp ∧ bIn 1048576 qv ∧ bIn 1048576 qp | _ => True⟩
def c_plus : Con := ⟨123, [.agg [.i64, .i64, .i64], .agg [.i64, .i64, .i64]], fun ns => match ns with | [s1, s2, s3, o1, o2, o3] => .agg #[.int .i64 (s1 * o3 + o1 * s3), .int .i64 (s2 * o3 + o2 * s3), .int .i64 (s3 * o3)] | _ => .bool true, fun ns => match ns with | [s1, s2, s3, o1, o2, o3] => bIn 1073741824 s1 ∧ bIn 1073741824 s2 ∧ bIn 1073741824 s3 ∧ bIn 1073741824 o1 ∧ bIn 1073741824 o2 ∧ bIn 1073741824 o3 | _ => True⟩
def c_voltageOf : Con := ⟨108, [.agg [.i64, .i64, .i64], .int .i64], fun ns => match ns with | [s1, s2, s3, power] => .agg #[.int .i64 (Int.tdiv (power * s3 - s2) (lwD (power * s3 - s2) s1)), .int .i64 (Int.tdiv s1 (lwD (power * s3 - s2) s1))] | _ => .bool true, fun ns => match ns with | [s1, s2, s3, power] => s1 ≠ 0 ∧ bIn 17592186044416 s1 ∧ bIn 17592186044416 s2 ∧ bIn 1073741824 s3 ∧ bIn 1048576 power | _ => True⟩
noncomputable def x_divisor : CallS := kAll []
noncomputable def divisor_e0 (a b : Int) : Option OutS := evFS Tryz.prog x_divisor 1000 121 #[.int .i64 a, .int .i64 b] (noTabs 4) ⟨[1, 1, 0], True⟩
noncomputable def x_lowest : CallS := kAll [c_divisor]
noncomputable def lowest_e0 (num den : Int) : Option OutS := evFS Tryz.prog x_lowest 1000 104 #[.int .i64 num, .int .i64 den] (noTabs 4) ⟨[0], True⟩
noncomputable def lowest_e1 (num den : Int) : Option OutS := evFS Tryz.prog x_lowest 1000 104 #[.int .i64 num, .int .i64 den] (noTabs 4) ⟨[1], True⟩
noncomputable def x_through : CallS := kAll []
noncomputable def through_e0 (pv pp qv qp : Int) : Option OutS := evFS Tryz.prog x_through 1000 103 #[.agg #[.int .i64 pv, .int .i64 pp], .agg #[.int .i64 qv, .int .i64 qp]] (noTabs 4) ⟨[], True⟩
noncomputable def x_plus : CallS := kAll []
noncomputable def plus_e0 (s1 s2 s3 o1 o2 o3 : Int) : Option OutS := evFS Tryz.prog x_plus 1000 123 #[.agg #[.int .i64 s1, .int .i64 s2, .int .i64 s3], .agg #[.int .i64 o1, .int .i64 o2, .int .i64 o3]] (noTabs 4) ⟨[], True⟩
noncomputable def x_voltageOf : CallS := kAll [c_lowest]
noncomputable def voltageOf_e0 (s1 s2 s3 power : Int) : Option OutS := evFS Tryz.prog x_voltageOf 1000 108 #[.agg #[.int .i64 s1, .int .i64 s2, .int .i64 s3], .int .i64 power] (noTabs 4) ⟨[], True⟩
end Go.Proofs.YthhgmnocigekaaaGreatDoor
end
section
set_option linter.all false
set_option maxRecDepth 1000000
open Go.RowKit
namespace Go.Proofs.YthhgmnocigekaaaGreatDoor
open Mini
noncomputable def dvX : Code := loopOf Tryz.prog 121
noncomputable def dvS : St := noTabs Tryz.prog.globals.size
theorem dvm : Tryz.prog.follows .mixedOrders = true := by kernel_rfl
def dvA (a b : Int) : MA := MA.ofL 13 [.int .i64 a, .int .i64 b, .chan none, .chan none, .int .i64 0, .chan none, .chan none, .chan none, .chan none, .chan none, .chan none, .chan none, .chan none] []
def getA (r : Option OutCS) : MA := match r with
  | some (_, a, _) => a
  | none => ⟨0, .leaf, []⟩
noncomputable def dvR (rd : Option Nat) (a b : Int) : Option OutCS := evCRS Tryz.prog noXS 1000 rd false dvX (dvA a b) dvS ⟨[1], True⟩
theorem dvR_eq (rd : Option Nat) (a b : Int) : dvR rd a b = some (.normal, getA (dvR rd a b), dvS, 0, 0, ⟨[], (True ∧ (a != 0) = true) ∧ (a == 0) = false⟩) := by kernel_rfl
theorem dvR_n (rd : Option Nat) (a b : Int) : (getA (dvR rd a b)).n = 13 := by kernel_rfl
theorem dvR_d (rd : Option Nat) (a b : Int) : (getA (dvR rd a b)).defers = [] := by kernel_rfl
theorem dvR_l (rd : Option Nat) (a b : Int) : lessL (getA (dvR rd a b)) (dvA (b.tmod a) a) 13 = (((((((((((((True ∧ Value.int .i64 (b.tmod a) = .int .i64 (b.tmod a)) ∧ Value.int .i64 a = .int .i64 a) ∧ True) ∧ True) ∧ Value.int .i64 0 = .int .i64 0) ∧ True) ∧ True) ∧ True) ∧ True) ∧ True) ∧ True) ∧ True) ∧ True) := by kernel_rfl
theorem dv_round (rd : Option Nat) (a b : Int) (ha : a ≠ 0) : SndC Tryz.prog rd dvX (dvA a b).act dvS .normal (dvA (b.tmod a) a).act dvS 0 0 := by
  have h := (evCRS_ok dvm noXS_ok 1000 rd false dvX (dvA a b) dvS ⟨[1], True⟩ _ (show evCRS _ _ _ _ _ _ _ _ _ = _ from dvR_eq rd a b)).2 (by simpa using ha)
  exact Snd.leave h (less_of (dvR_n rd a b).symm (dvR_d rd a b).symm (by rw [dvR_n, dvR_l]; simp))
noncomputable def dvE (rd : Option Nat) (b : Int) : Option OutCS := evCRS Tryz.prog noXS 1000 rd false dvX (dvA 0 b) dvS ⟨[0], True⟩
theorem dvE_eq (rd : Option Nat) (b : Int) : dvE rd b = some (.exit 0, getA (dvE rd b), dvS, 0, 0, ⟨[], True ∧ ((0 : Int) != 0) = false⟩) := by kernel_rfl
theorem dvE_n (rd : Option Nat) (b : Int) : (getA (dvE rd b)).n = 13 := by kernel_rfl
theorem dvE_d (rd : Option Nat) (b : Int) : (getA (dvE rd b)).defers = [] := by kernel_rfl
theorem dvE_l (rd : Option Nat) (b : Int) : lessL (getA (dvE rd b)) (dvA 0 b) 13 = (((((((((((((True ∧ Value.int .i64 0 = .int .i64 0) ∧ Value.int .i64 b = .int .i64 b) ∧ True) ∧ True) ∧ Value.int .i64 0 = .int .i64 0) ∧ True) ∧ True) ∧ True) ∧ True) ∧ True) ∧ True) ∧ True) ∧ True) := by kernel_rfl
theorem dv_end (rd : Option Nat) (b : Int) : SndC Tryz.prog rd dvX (dvA 0 b).act dvS (.exit 0) (dvA 0 b).act dvS 0 0 := by
  have h := (evCRS_ok dvm noXS_ok 1000 rd false dvX (dvA 0 b) dvS ⟨[0], True⟩ _ (show evCRS _ _ _ _ _ _ _ _ _ = _ from dvE_eq rd b)).2 (by simp)
  exact Snd.leave h (less_of (dvE_n rd b).symm (dvE_d rd b).symm (by rw [dvE_n, dvE_l]; simp))
theorem dv_loop : ∀ (n : Nat) (a b : Int), a.natAbs ≤ n → ∃ g : Int, g.natAbs = Int.gcd a b ∧ ∀ rd, Snd Tryz.prog rd (LoopFrom Tryz.prog dvX) (dvA a b).act dvS (.exit 0) (dvA 0 g).act dvS 0 0
  | 0, a, b, hn => by
    have : a = 0 := by omega
    subst this
    exact ⟨b, by simp, fun rd => snd_from_stop (by simp) (dv_end rd b)⟩
  | n + 1, a, b, hn => by
    by_cases ha : a = 0
    · subst ha
      exact ⟨b, by simp, fun rd => snd_from_stop (by simp) (dv_end rd b)⟩
    · have hlt : (b.tmod a).natAbs < a.natAbs := by
        rw [Int.natAbs_tmod]
        exact Nat.mod_lt _ (by omega)
      obtain ⟨g, h1, h2⟩ := dv_loop n (b.tmod a) a (by omega)
      refine ⟨g, ?_, ?_⟩
      · rw [h1]
        show Nat.gcd (b.tmod a).natAbs a.natAbs = Nat.gcd a.natAbs b.natAbs
        rw [Int.natAbs_tmod, ← Nat.gcd_rec]
      · intro rd
        have := snd_from_on (dv_round rd a b ha) (h2 rd)
        rwa [Nat.or_self] at this

noncomputable def dvF (a b g : Int) : Option OutS := evFS Tryz.prog noXS 1000 121 #[.int .i64 a, .int .i64 b] dvS ⟨[.out (.exit 0) (dvA 0 g) dvS 0 0], True⟩
noncomputable def dv0 (a b : Int) : MA := (startM Tryz.f121 #[.int .i64 a, .int .i64 b]).put (some 4) (.int .i64 0)
theorem dvF_v (a b g : Int) : resOf (dvF a b g) = .int .i64 (if (IntKind.i64.wrap ((0 : Int) - g)) > g then IntKind.i64.wrap ((0 : Int) - g) else g) := by kernel_rfl
theorem dvF_o (a b g : Int) : obOf (dvF a b g) = (True ∧ SndC Tryz.prog none (.loop dvX) (dv0 a b).act dvS (.exit 0) (dvA 0 g).act dvS 0 0) := by kernel_rfl
theorem dvF_c (a b g : Int) : cleanOf Tryz.prog.globals.size (dvF a b g) = true := by kernel_rfl
theorem dv0_n (a b : Int) : (dv0 a b).n = 13 := by kernel_rfl
theorem dv0_d (a b : Int) : (dv0 a b).defers = [] := by kernel_rfl
theorem dv0_l (a b : Int) : lessL (dv0 a b) (dvA a b) 13 = (((((((((((((True ∧ Value.int .i64 a = .int .i64 a) ∧ Value.int .i64 b = .int .i64 b) ∧ True) ∧ True) ∧ Value.int .i64 0 = .int .i64 0) ∧ True) ∧ True) ∧ True) ∧ True) ∧ True) ∧ True) ∧ True) ∧ True) := by kernel_rfl
theorem dv_calls (a b : Int) (h : (Int.gcd a b : Int) ≤ 9223372036854775807) (w : World) : Calls Tryz.prog 121 #[.int .i64 a, .int .i64 b] w fun e w' => e = .returned (.int .i64 (Int.gcd a b)) ∧ Below w.heap.size w w' := by
  obtain ⟨g, hg, hl⟩ := dv_loop a.natAbs a b (Nat.le_refl _)
  have hall : ∀ rd, SndC Tryz.prog rd (.loop dvX) (dv0 a b).act dvS (.exit 0) (dvA 0 g).act dvS 0 0 := fun rd =>
    Snd.enter (sndC_loop (hl rd)) (less_of (dv0_n a b).symm (dv0_d a b).symm (by rw [dv0_n, dv0_l]; simp))
  have hv : (if (IntKind.i64.wrap ((0 : Int) - g)) > g then IntKind.i64.wrap ((0 : Int) - g) else g) = Int.gcd a b := by
    have hb : (g.natAbs : Int) ≤ 9223372036854775807 := by rw [hg]; exact h
    rw [IntWalk.i64_in (0 - g) (by omega), ← hg]
    split <;> omega
  have hp := calls_way (v := .int .i64 (if (IntKind.i64.wrap ((0 : Int) - g)) > g then IntKind.i64.wrap ((0 : Int) - g) else g)) (r := dvF a b g) (by delta dvF; exact Eq.refl _) dvm noXS_ok (dvF_v a b g) rfl (by kernel_rfl) (dvF_c a b g) (dvF_o a b g) ⟨trivial, hall none⟩ (noTabs_holds w)
  rw [hv] at hp
  exact hp
end Go.Proofs.YthhgmnocigekaaaGreatDoor
end
section
set_option linter.all false
set_option maxRecDepth 1000000
open Go.RowKit
namespace Go.Proofs.YthhgmnocigekaaaGreatDoor
open Mini
theorem divisor_any (a b : Int) (hpre : (Int.gcd a b : Int) ≤ 9223372036854775807) (w : World) : Calls Tryz.prog 121 #[.int .i64 a, .int .i64 b] w fun en w' => en = .returned (.int .i64 (Int.gcd a b)) ∧ Below w.heap.size w w' := dv_calls a b hpre w
theorem k_divisor : ConOk Tryz.prog c_divisor := fun ns hl => by
  have hl0 : ns.length = 2 := hl
  clear hl
  obtain ⟨a, ns0, rfl, hl1⟩ := len_cons hl0
  obtain ⟨b, ns1, rfl, hl2⟩ := len_cons hl1
  obtain rfl := len_nil hl2
  exact ⟨rfl, fun h w => divisor_any a b h w⟩
end Go.Proofs.YthhgmnocigekaaaGreatDoor
end
section
set_option linter.all false
set_option maxRecDepth 1000000
set_option maxHeartbeats 2000000
open Go.RowKit
namespace Go.Proofs.YthhgmnocigekaaaGreatDoor
open Mini

def lowest_val (num den : Int) : Value := .agg #[.int .i64 (Int.tdiv num (lwD num den)), .int .i64 (Int.tdiv den (lwD num den))]
theorem lowest_X : FOkS Tryz.prog x_lowest := kAll_ok _ ⟨k_divisor, trivial⟩
theorem lowest_args (num den : Int) : (#[.int .i64 num, .int .i64 den] : Array Value).toList.all (ground 8) = true := by kernel_rfl
def lowest_b0 (num den : Int) : Prop := (Int.NonNeg ((9223372036854775807 : Int) - (((Int.gcd num den) : Nat) : Int)))
def lowest_c0 (num den : Int) : Bool := (decide (den < (0 : Int)))
def lowest_c1 (num den : Int) : Bool := ((((Int.gcd num den) : Nat) : Int) == (0 : Int))
def lowest_c2 (num den : Int) : Bool := ((IntKind.i64.wrap ((0 : Int) - (((Int.gcd num den) : Nat) : Int))) == (0 : Int))
def lowest_w0 (num den : Int) : Value := .agg #[.int .i64 (IntKind.i64.wrap (Int.tdiv num (((Int.gcd num den) : Nat) : Int))), .int .i64 (IntKind.i64.wrap (Int.tdiv den (((Int.gcd num den) : Nat) : Int)))]
def lowest_r0 (num den : Int) : Prop := ((((True ∧ (lowest_b0 num den)) ∧ (lowest_c0 num den = false)) ∧ (lowest_c1 num den = false)) ∧ (lowest_c1 num den = false))
theorem lowest_o0 (num den : Int) : obOf (lowest_e0 num den) = lowest_r0 num den := by kernel_rfl
theorem lowest_v0 (num den : Int) : resOf (lowest_e0 num den) = lowest_w0 num den := by kernel_rfl
theorem lowest_k0 (num den : Int) : cleanOf Tryz.prog.globals.size (lowest_e0 num den) = true := by kernel_rfl
theorem lowest_q0 (num den : Int) : lowest_e0 num den = evFS Tryz.prog x_lowest 1000 104 #[.int .i64 num, .int .i64 den] (noTabs 4) ⟨[0], True⟩ := by
  delta lowest_e0
  exact Eq.refl _
theorem lowest_p0 (num den : Int) (h : lowest_r0 num den) (w : World) : Calls Tryz.prog 104 #[.int .i64 num, .int .i64 den] w fun en w' => en = .returned (lowest_w0 num den) ∧ Below w.heap.size w w' := by
  have hv := lowest_v0 num den
  have hc := lowest_k0 num den
  have he := lowest_q0 num den
  have ho := lowest_o0 num den
  generalize lowest_e0 num den = r at *
  exact calls_way he gfol lowest_X hv rfl (lowest_args num den) hc ho h (bl w)
def lowest_w1 (num den : Int) : Value := .agg #[.int .i64 (IntKind.i64.wrap (Int.tdiv num (IntKind.i64.wrap ((0 : Int) - (((Int.gcd num den) : Nat) : Int))))), .int .i64 (IntKind.i64.wrap (Int.tdiv den (IntKind.i64.wrap ((0 : Int) - (((Int.gcd num den) : Nat) : Int)))))]
def lowest_r1 (num den : Int) : Prop := ((((True ∧ (lowest_b0 num den)) ∧ (lowest_c0 num den = true)) ∧ (lowest_c2 num den = false)) ∧ (lowest_c2 num den = false))
theorem lowest_o1 (num den : Int) : obOf (lowest_e1 num den) = lowest_r1 num den := by kernel_rfl
theorem lowest_v1 (num den : Int) : resOf (lowest_e1 num den) = lowest_w1 num den := by kernel_rfl
theorem lowest_k1 (num den : Int) : cleanOf Tryz.prog.globals.size (lowest_e1 num den) = true := by kernel_rfl
theorem lowest_q1 (num den : Int) : lowest_e1 num den = evFS Tryz.prog x_lowest 1000 104 #[.int .i64 num, .int .i64 den] (noTabs 4) ⟨[1], True⟩ := by
  delta lowest_e1
  exact Eq.refl _
theorem lowest_p1 (num den : Int) (h : lowest_r1 num den) (w : World) : Calls Tryz.prog 104 #[.int .i64 num, .int .i64 den] w fun en w' => en = .returned (lowest_w1 num den) ∧ Below w.heap.size w w' := by
  have hv := lowest_v1 num den
  have hc := lowest_k1 num den
  have he := lowest_q1 num den
  have ho := lowest_o1 num den
  generalize lowest_e1 num den = r at *
  exact calls_way he gfol lowest_X hv rfl (lowest_args num den) hc ho h (bl w)
theorem lowest_any (num den : Int) (hpre : den ≠ 0 ∧ bIn 4611686018427387904 num ∧ bIn 4611686018427387904 den) (w : World) : Calls Tryz.prog 104 #[.int .i64 num, .int .i64 den] w fun en w' => en = .returned (lowest_val num den) ∧ Below w.heap.size w w' := by
  obtain ⟨p1, p2, p3⟩ := hpre
  have hg := gcd_in (a := num) p1 p3
  have t1 := tdiv_in (b := (Int.gcd num den : Int)) p2
  have t2 := tdiv_in (b := (Int.gcd num den : Int)) p3
  have t3 := tdiv_in (b := -(Int.gcd num den : Int)) p2
  have t4 := tdiv_in (b := -(Int.gcd num den : Int)) p3
  unfold bIn at *
  have h0 : (lowest_b0 num den) := by
    unfold lowest_b0
    first | rfl | trivial | omega | (show (((Int.gcd num den) : Nat) : Int) ≤ 9223372036854775807; omega) | (simp only [decide_eq_true_eq, decide_eq_false_iff_not, beq_eq_false_iff_ne, ne_eq] at *; (try rw [wiN (0 - _) (by omega)]); omega) | (simp only [decide_eq_true_eq, decide_eq_false_iff_not, beq_eq_false_iff_ne, ne_eq] at *; (try simp (disch := omega) only [wiN]); omega)
  unfold lowest_b0 at h0
  rcases Bool.eq_false_or_eq_true (lowest_c0 num den) with h1 | h1
  ·
    unfold lowest_c0 at h1
    have h2 : (lowest_c2 num den = false) := by
      unfold lowest_c2
      first | rfl | trivial | omega | (show (((Int.gcd num den) : Nat) : Int) ≤ 9223372036854775807; omega) | (simp only [decide_eq_true_eq, decide_eq_false_iff_not, beq_eq_false_iff_ne, ne_eq] at *; (try rw [wiN (0 - _) (by omega)]); omega) | (simp only [decide_eq_true_eq, decide_eq_false_iff_not, beq_eq_false_iff_ne, ne_eq] at *; (try simp (disch := omega) only [wiN]); omega)
    unfold lowest_c2 at h2
    have hp := lowest_p1 num den ⟨⟨⟨⟨trivial, h0⟩, h1⟩, h2⟩, h2⟩ w
    have hv : lowest_w1 num den = (lowest_val num den) := by
      clear hp
      unfold lowest_w1 lowest_val
      unfold lwD
      simp only [decide_eq_true_eq, decide_eq_false_iff_not] at *
      first | rw [if_pos (by assumption)] | rw [if_neg (by assumption)]
      (try simp (disch := omega) only [wiN, Int.zero_sub]); (try rfl)
    exact hv ▸ hp
  ·
    unfold lowest_c0 at h1
    have h3 : (lowest_c1 num den = false) := by
      unfold lowest_c1
      first | rfl | trivial | omega | (show (((Int.gcd num den) : Nat) : Int) ≤ 9223372036854775807; omega) | (simp only [decide_eq_true_eq, decide_eq_false_iff_not, beq_eq_false_iff_ne, ne_eq] at *; (try rw [wiN (0 - _) (by omega)]); omega) | (simp only [decide_eq_true_eq, decide_eq_false_iff_not, beq_eq_false_iff_ne, ne_eq] at *; (try simp (disch := omega) only [wiN]); omega)
    unfold lowest_c1 at h3
    have hp := lowest_p0 num den ⟨⟨⟨⟨trivial, h0⟩, h1⟩, h3⟩, h3⟩ w
    have hv : lowest_w0 num den = (lowest_val num den) := by
      clear hp
      unfold lowest_w0 lowest_val
      unfold lwD
      simp only [decide_eq_true_eq, decide_eq_false_iff_not] at *
      first | rw [if_pos (by assumption)] | rw [if_neg (by assumption)]
      (try simp (disch := omega) only [wiN, Int.zero_sub]); (try rfl)
    exact hv ▸ hp
theorem k_lowest : ConOk Tryz.prog c_lowest := fun ns hl => by
  have hl0 : ns.length = 2 := hl
  clear hl
  obtain ⟨num, ns0, rfl, hl1⟩ := len_cons hl0
  obtain ⟨den, ns1, rfl, hl2⟩ := len_cons hl1
  obtain rfl := len_nil hl2
  exact ⟨rfl, fun h w => lowest_any num den h w⟩
end Go.Proofs.YthhgmnocigekaaaGreatDoor
end
section
set_option linter.all false
set_option maxRecDepth 1000000
set_option maxHeartbeats 2000000
open Go.RowKit
namespace Go.Proofs.YthhgmnocigekaaaGreatDoor
open Mini

def through_val (pv pp qv qp : Int) : Value := .agg #[.int .i64 (qp - pp), .int .i64 ((qv - pv) * pp - (qp - pp) * pv), .int .i64 (qv - pv)]
theorem through_X : FOkS Tryz.prog x_through := noXS_ok
theorem through_args (pv pp qv qp : Int) : (#[.agg #[.int .i64 pv, .int .i64 pp], .agg #[.int .i64 qv, .int .i64 qp]] : Array Value).toList.all (ground 8) = true := by kernel_rfl
def through_w0 (pv pp qv qp : Int) : Value := .agg #[.int .i64 (IntKind.i64.wrap (qp - pp)), .int .i64 (IntKind.i64.wrap ((IntKind.i64.wrap ((IntKind.i64.wrap (qv - pv)) * pp)) - (IntKind.i64.wrap ((IntKind.i64.wrap (qp - pp)) * pv)))), .int .i64 (IntKind.i64.wrap (qv - pv))]
def through_r0 (pv pp qv qp : Int) : Prop := True
theorem through_o0 (pv pp qv qp : Int) : obOf (through_e0 pv pp qv qp) = through_r0 pv pp qv qp := by kernel_rfl
theorem through_v0 (pv pp qv qp : Int) : resOf (through_e0 pv pp qv qp) = through_w0 pv pp qv qp := by kernel_rfl
theorem through_k0 (pv pp qv qp : Int) : cleanOf Tryz.prog.globals.size (through_e0 pv pp qv qp) = true := by kernel_rfl
theorem through_q0 (pv pp qv qp : Int) : through_e0 pv pp qv qp = evFS Tryz.prog x_through 1000 103 #[.agg #[.int .i64 pv, .int .i64 pp], .agg #[.int .i64 qv, .int .i64 qp]] (noTabs 4) ⟨[], True⟩ := by
  delta through_e0
  exact Eq.refl _
theorem through_p0 (pv pp qv qp : Int) (h : through_r0 pv pp qv qp) (w : World) : Calls Tryz.prog 103 #[.agg #[.int .i64 pv, .int .i64 pp], .agg #[.int .i64 qv, .int .i64 qp]] w fun en w' => en = .returned (through_w0 pv pp qv qp) ∧ Below w.heap.size w w' := by
  have hv := through_v0 pv pp qv qp
  have hc := through_k0 pv pp qv qp
  have he := through_q0 pv pp qv qp
  have ho := through_o0 pv pp qv qp
  generalize through_e0 pv pp qv qp = r at *
  exact calls_way he gfol through_X hv rfl (through_args pv pp qv qp) hc ho h (bl w)
theorem through_any (pv pp qv qp : Int) (hpre : bIn 1048576 pv ∧ bIn 1048576 pp ∧ bIn 1048576 qv ∧ bIn 1048576 qp) (w : World) : Calls Tryz.prog 103 #[.agg #[.int .i64 pv, .int .i64 pp], .agg #[.int .i64 qv, .int .i64 qp]] w fun en w' => en = .returned (through_val pv pp qv qp) ∧ Below w.heap.size w w' := by
  obtain ⟨p1, p2, p3, p4⟩ := hpre
  have m1 := bMul (m := 2097152) (k := 1048576) (x := qv - pv) (y := pp) (by omega) (by omega) (by unfold bIn at *; omega) p2
  have m2 := bMul (m := 2097152) (k := 1048576) (x := qp - pp) (y := pv) (by omega) (by omega) (by unfold bIn at *; omega) p1
  unfold bIn at *
  have hp := through_p0 pv pp qv qp trivial w
  have hv : through_w0 pv pp qv qp = (through_val pv pp qv qp) := by
    clear hp
    unfold through_w0 through_val
    first | rfl | (simp (disch := omega) only [wiN]; done) | (simp (disch := omega) only [wiN]; rfl)
  exact hv ▸ hp
theorem k_through : ConOk Tryz.prog c_through := fun ns hl => by
  have hl0 : ns.length = 4 := hl
  clear hl
  obtain ⟨pv, ns0, rfl, hl1⟩ := len_cons hl0
  obtain ⟨pp, ns1, rfl, hl2⟩ := len_cons hl1
  obtain ⟨qv, ns2, rfl, hl3⟩ := len_cons hl2
  obtain ⟨qp, ns3, rfl, hl4⟩ := len_cons hl3
  obtain rfl := len_nil hl4
  exact ⟨rfl, fun h w => through_any pv pp qv qp h w⟩
end Go.Proofs.YthhgmnocigekaaaGreatDoor
end
section
set_option linter.all false
set_option maxRecDepth 1000000
set_option maxHeartbeats 2000000
open Go.RowKit
namespace Go.Proofs.YthhgmnocigekaaaGreatDoor
open Mini

def plus_val (s1 s2 s3 o1 o2 o3 : Int) : Value := .agg #[.int .i64 (s1 * o3 + o1 * s3), .int .i64 (s2 * o3 + o2 * s3), .int .i64 (s3 * o3)]
theorem plus_X : FOkS Tryz.prog x_plus := noXS_ok
theorem plus_args (s1 s2 s3 o1 o2 o3 : Int) : (#[.agg #[.int .i64 s1, .int .i64 s2, .int .i64 s3], .agg #[.int .i64 o1, .int .i64 o2, .int .i64 o3]] : Array Value).toList.all (ground 8) = true := by kernel_rfl
def plus_w0 (s1 s2 s3 o1 o2 o3 : Int) : Value := .agg #[.int .i64 (IntKind.i64.wrap ((IntKind.i64.wrap (s1 * o3)) + (IntKind.i64.wrap (o1 * s3)))), .int .i64 (IntKind.i64.wrap ((IntKind.i64.wrap (s2 * o3)) + (IntKind.i64.wrap (o2 * s3)))), .int .i64 (IntKind.i64.wrap (s3 * o3))]
def plus_r0 (s1 s2 s3 o1 o2 o3 : Int) : Prop := True
theorem plus_o0 (s1 s2 s3 o1 o2 o3 : Int) : obOf (plus_e0 s1 s2 s3 o1 o2 o3) = plus_r0 s1 s2 s3 o1 o2 o3 := by kernel_rfl
theorem plus_v0 (s1 s2 s3 o1 o2 o3 : Int) : resOf (plus_e0 s1 s2 s3 o1 o2 o3) = plus_w0 s1 s2 s3 o1 o2 o3 := by kernel_rfl
theorem plus_k0 (s1 s2 s3 o1 o2 o3 : Int) : cleanOf Tryz.prog.globals.size (plus_e0 s1 s2 s3 o1 o2 o3) = true := by kernel_rfl
theorem plus_q0 (s1 s2 s3 o1 o2 o3 : Int) : plus_e0 s1 s2 s3 o1 o2 o3 = evFS Tryz.prog x_plus 1000 123 #[.agg #[.int .i64 s1, .int .i64 s2, .int .i64 s3], .agg #[.int .i64 o1, .int .i64 o2, .int .i64 o3]] (noTabs 4) ⟨[], True⟩ := by
  delta plus_e0
  exact Eq.refl _
theorem plus_p0 (s1 s2 s3 o1 o2 o3 : Int) (h : plus_r0 s1 s2 s3 o1 o2 o3) (w : World) : Calls Tryz.prog 123 #[.agg #[.int .i64 s1, .int .i64 s2, .int .i64 s3], .agg #[.int .i64 o1, .int .i64 o2, .int .i64 o3]] w fun en w' => en = .returned (plus_w0 s1 s2 s3 o1 o2 o3) ∧ Below w.heap.size w w' := by
  have hv := plus_v0 s1 s2 s3 o1 o2 o3
  have hc := plus_k0 s1 s2 s3 o1 o2 o3
  have he := plus_q0 s1 s2 s3 o1 o2 o3
  have ho := plus_o0 s1 s2 s3 o1 o2 o3
  generalize plus_e0 s1 s2 s3 o1 o2 o3 = r at *
  exact calls_way he gfol plus_X hv rfl (plus_args s1 s2 s3 o1 o2 o3) hc ho h (bl w)
theorem plus_any (s1 s2 s3 o1 o2 o3 : Int) (hpre : bIn 1073741824 s1 ∧ bIn 1073741824 s2 ∧ bIn 1073741824 s3 ∧ bIn 1073741824 o1 ∧ bIn 1073741824 o2 ∧ bIn 1073741824 o3) (w : World) : Calls Tryz.prog 123 #[.agg #[.int .i64 s1, .int .i64 s2, .int .i64 s3], .agg #[.int .i64 o1, .int .i64 o2, .int .i64 o3]] w fun en w' => en = .returned (plus_val s1 s2 s3 o1 o2 o3) ∧ Below w.heap.size w w' := by
  obtain ⟨p1, p2, p3, q1, q2, q3⟩ := hpre
  have m0 := bMul (m := 1073741824) (k := 1073741824) (x := s1) (y := o3) (by omega) (by omega) p1 q3
  have m1 := bMul (m := 1073741824) (k := 1073741824) (x := o1) (y := s3) (by omega) (by omega) q1 p3
  have m2 := bMul (m := 1073741824) (k := 1073741824) (x := s2) (y := o3) (by omega) (by omega) p2 q3
  have m3 := bMul (m := 1073741824) (k := 1073741824) (x := o2) (y := s3) (by omega) (by omega) q2 p3
  have m4 := bMul (m := 1073741824) (k := 1073741824) (x := s3) (y := o3) (by omega) (by omega) p3 q3
  unfold bIn at *
  have hp := plus_p0 s1 s2 s3 o1 o2 o3 trivial w
  have hv : plus_w0 s1 s2 s3 o1 o2 o3 = (plus_val s1 s2 s3 o1 o2 o3) := by
    clear hp
    unfold plus_w0 plus_val
    first | rfl | (simp (disch := omega) only [wiN]; done) | (simp (disch := omega) only [wiN]; rfl)
  exact hv ▸ hp
theorem k_plus : ConOk Tryz.prog c_plus := fun ns hl => by
  have hl0 : ns.length = 6 := hl
  clear hl
  obtain ⟨s1, ns0, rfl, hl1⟩ := len_cons hl0
  obtain ⟨s2, ns1, rfl, hl2⟩ := len_cons hl1
  obtain ⟨s3, ns2, rfl, hl3⟩ := len_cons hl2
  obtain ⟨o1, ns3, rfl, hl4⟩ := len_cons hl3
  obtain ⟨o2, ns4, rfl, hl5⟩ := len_cons hl4
  obtain ⟨o3, ns5, rfl, hl6⟩ := len_cons hl5
  obtain rfl := len_nil hl6
  exact ⟨rfl, fun h w => plus_any s1 s2 s3 o1 o2 o3 h w⟩
end Go.Proofs.YthhgmnocigekaaaGreatDoor
end
section
set_option linter.all false
set_option maxRecDepth 1000000
set_option maxHeartbeats 2000000
open Go.RowKit
namespace Go.Proofs.YthhgmnocigekaaaGreatDoor
open Mini

def voltageOf_val (s1 s2 s3 power : Int) : Value := .agg #[.int .i64 (Int.tdiv (power * s3 - s2) (lwD (power * s3 - s2) s1)), .int .i64 (Int.tdiv s1 (lwD (power * s3 - s2) s1))]
theorem voltageOf_X : FOkS Tryz.prog x_voltageOf := kAll_ok _ ⟨k_lowest, trivial⟩
theorem voltageOf_args (s1 s2 s3 power : Int) : (#[.agg #[.int .i64 s1, .int .i64 s2, .int .i64 s3], .int .i64 power] : Array Value).toList.all (ground 8) = true := by kernel_rfl
def voltageOf_b0 (s1 s2 s3 power : Int) : Prop := ((s1 ≠ (0 : Int)) ∧ ((bIn (4611686018427387904 : Int) (IntKind.i64.wrap ((IntKind.i64.wrap (power * s3)) - s2))) ∧ (bIn (4611686018427387904 : Int) s1)))
def voltageOf_w0 (s1 s2 s3 power : Int) : Value := .agg #[.int .i64 (Int.tdiv (IntKind.i64.wrap ((IntKind.i64.wrap (power * s3)) - s2)) (lwD (IntKind.i64.wrap ((IntKind.i64.wrap (power * s3)) - s2)) s1)), .int .i64 (Int.tdiv s1 (lwD (IntKind.i64.wrap ((IntKind.i64.wrap (power * s3)) - s2)) s1))]
def voltageOf_r0 (s1 s2 s3 power : Int) : Prop := (True ∧ (voltageOf_b0 s1 s2 s3 power))
theorem voltageOf_o0 (s1 s2 s3 power : Int) : obOf (voltageOf_e0 s1 s2 s3 power) = voltageOf_r0 s1 s2 s3 power := by kernel_rfl
theorem voltageOf_v0 (s1 s2 s3 power : Int) : resOf (voltageOf_e0 s1 s2 s3 power) = voltageOf_w0 s1 s2 s3 power := by kernel_rfl
theorem voltageOf_k0 (s1 s2 s3 power : Int) : cleanOf Tryz.prog.globals.size (voltageOf_e0 s1 s2 s3 power) = true := by kernel_rfl
theorem voltageOf_q0 (s1 s2 s3 power : Int) : voltageOf_e0 s1 s2 s3 power = evFS Tryz.prog x_voltageOf 1000 108 #[.agg #[.int .i64 s1, .int .i64 s2, .int .i64 s3], .int .i64 power] (noTabs 4) ⟨[], True⟩ := by
  delta voltageOf_e0
  exact Eq.refl _
theorem voltageOf_p0 (s1 s2 s3 power : Int) (h : voltageOf_r0 s1 s2 s3 power) (w : World) : Calls Tryz.prog 108 #[.agg #[.int .i64 s1, .int .i64 s2, .int .i64 s3], .int .i64 power] w fun en w' => en = .returned (voltageOf_w0 s1 s2 s3 power) ∧ Below w.heap.size w w' := by
  have hv := voltageOf_v0 s1 s2 s3 power
  have hc := voltageOf_k0 s1 s2 s3 power
  have he := voltageOf_q0 s1 s2 s3 power
  have ho := voltageOf_o0 s1 s2 s3 power
  generalize voltageOf_e0 s1 s2 s3 power = r at *
  exact calls_way he gfol voltageOf_X hv rfl (voltageOf_args s1 s2 s3 power) hc ho h (bl w)
theorem voltageOf_any (s1 s2 s3 power : Int) (hpre : s1 ≠ 0 ∧ bIn 17592186044416 s1 ∧ bIn 17592186044416 s2 ∧ bIn 1073741824 s3 ∧ bIn 1048576 power) (w : World) : Calls Tryz.prog 108 #[.agg #[.int .i64 s1, .int .i64 s2, .int .i64 s3], .int .i64 power] w fun en w' => en = .returned (voltageOf_val s1 s2 s3 power) ∧ Below w.heap.size w w' := by
  obtain ⟨p0, p1, p2, p3, p4⟩ := hpre
  have m1 := bMul (m := 1048576) (k := 1073741824) (x := power) (y := s3) (by omega) (by omega) p4 p3
  have m2 : bIn 4611686018427387904 (power * s3 - s2) := by unfold bIn at *; omega
  have m3 : bIn 4611686018427387904 s1 := by unfold bIn at *; omega
  have w1 : IntKind.i64.wrap (power * s3) = power * s3 := wiN _ (by unfold bIn at *; omega)
  have w2 : IntKind.i64.wrap (power * s3 - s2) = power * s3 - s2 := wiN _ (by unfold bIn at *; omega)
  have h0 : (voltageOf_b0 s1 s2 s3 power) := by
    unfold voltageOf_b0
    first | rfl | trivial | (simp only [w1, w2]; exact ⟨p0, m2, m3⟩)
  unfold voltageOf_b0 at h0
  have hp := voltageOf_p0 s1 s2 s3 power ⟨trivial, h0⟩ w
  have hv : voltageOf_w0 s1 s2 s3 power = (voltageOf_val s1 s2 s3 power) := by
    clear hp
    unfold voltageOf_w0 voltageOf_val
    simp only [w1, w2]
  exact hv ▸ hp
theorem k_voltageOf : ConOk Tryz.prog c_voltageOf := fun ns hl => by
  have hl0 : ns.length = 4 := hl
  clear hl
  obtain ⟨s1, ns0, rfl, hl1⟩ := len_cons hl0
  obtain ⟨s2, ns1, rfl, hl2⟩ := len_cons hl1
  obtain ⟨s3, ns2, rfl, hl3⟩ := len_cons hl2
  obtain ⟨power, ns3, rfl, hl4⟩ := len_cons hl3
  obtain rfl := len_nil hl4
  exact ⟨rfl, fun h w => voltageOf_any s1 s2 s3 power h w⟩
end Go.Proofs.YthhgmnocigekaaaGreatDoor
end
section
set_option linter.all false
set_option maxRecDepth 1000000
namespace Go.Proofs.YthhgmnocigekaaaGreatDoor
open Mini
def inb (m x : Int) : Bool := decide (-m ≤ x) && decide (x ≤ m)
theorem inb_in {m x : Int} (h : inb m x = true) : bIn m x := by
  simp only [inb, Bool.and_eq_true, decide_eq_true_eq] at h
  exact h
theorem nz_of {x : Int} (h : (!(x == 0)) = true) : x ≠ 0 := by simpa using h
def d_lowest : List Int → Bool := fun ns => match ns with
  | [num, den] => !(den == 0) && inb 4611686018427387904 num && inb 4611686018427387904 den
  | _ => false
theorem d_lowest_ok : ∀ ns, d_lowest ns = true → c_lowest.pre ns := fun ns h => by
  unfold d_lowest at h
  split at h
  · simp only [Bool.and_eq_true] at h
    exact ⟨nz_of h.1.1, inb_in h.1.2, inb_in h.2⟩
  · cases h
def d_through : List Int → Bool := fun ns => match ns with
  | [pv, pp, qv, qp] => inb 1048576 pv && inb 1048576 pp && inb 1048576 qv && inb 1048576 qp
  | _ => false
theorem d_through_ok : ∀ ns, d_through ns = true → c_through.pre ns := fun ns h => by
  unfold d_through at h
  split at h
  · simp only [Bool.and_eq_true] at h
    exact ⟨inb_in h.1.1.1, inb_in h.1.1.2, inb_in h.1.2, inb_in h.2⟩
  · cases h
def d_plus : List Int → Bool := fun ns => match ns with
  | [s1, s2, s3, o1, o2, o3] => inb 1073741824 s1 && inb 1073741824 s2 && inb 1073741824 s3 && inb 1073741824 o1 && inb 1073741824 o2 && inb 1073741824 o3
  | _ => false
theorem d_plus_ok : ∀ ns, d_plus ns = true → c_plus.pre ns := fun ns h => by
  unfold d_plus at h
  split at h
  · simp only [Bool.and_eq_true] at h
    exact ⟨inb_in h.1.1.1.1.1, inb_in h.1.1.1.1.2, inb_in h.1.1.1.2, inb_in h.1.1.2, inb_in h.1.2, inb_in h.2⟩
  · cases h
def d_voltageOf : List Int → Bool := fun ns => match ns with
  | [s1, s2, s3, power] => !(s1 == 0) && inb 17592186044416 s1 && inb 17592186044416 s2 && inb 1073741824 s3 && inb 1048576 power
  | _ => false
theorem d_voltageOf_ok : ∀ ns, d_voltageOf ns = true → c_voltageOf.pre ns := fun ns h => by
  unfold d_voltageOf at h
  split at h
  · simp only [Bool.and_eq_true] at h
    exact ⟨nz_of h.1.1.1.1, inb_in h.1.1.1.2, inb_in h.1.1.2, inb_in h.1.2, inb_in h.2⟩
  · cases h
noncomputable def awK : CallF := orX (kOfC (noTabs 4) c_lowest d_lowest) (orX (kOfC (noTabs 4) c_through d_through) (orX (kOfC (noTabs 4) c_plus d_plus) (kOfC (noTabs 4) c_voltageOf d_voltageOf)))
theorem awK_ok : FOk Tryz.prog awK := orX_ok (kOfC_ok (by kernel_rfl) k_lowest.t d_lowest_ok) (orX_ok (kOfC_ok (by kernel_rfl) k_through.t d_through_ok) (orX_ok (kOfC_ok (by kernel_rfl) k_plus.t d_plus_ok) (kOfC_ok (by kernel_rfl) k_voltageOf.t d_voltageOf_ok)))
end Go.Proofs.YthhgmnocigekaaaGreatDoor
end
