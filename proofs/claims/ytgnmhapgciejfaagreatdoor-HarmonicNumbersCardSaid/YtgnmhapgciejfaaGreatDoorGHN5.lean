/-
  The contract of bipole.bipoleref04.Sign.
  The contract of bipole.bipoleref04.Strength.
  The contract of bipole.bipoleref04.Turned.
  The contract of bipole.bipoleref04.Product.
  The contract of bipole.bipoleref04.Product.
  The contract of bipole.bipoleref04.CheckRoot.
  The contract of bipole.bipoleref04.CheckCyclo.
  The contract of bipole.bipoleref01.CheckRange.
  The contract of bipole.harmonic.Sign.
-/
import Derived.Test.YtgnmhapgciejfaaGreatDoorGHN2
import Derived.Test.YtgnmhapgciejfaaGreatDoorGHN4
section
set_option linter.all false
set_option maxRecDepth 1000000
set_option maxHeartbeats 2000000
open Go.RowKit
namespace Go.Proofs.YtgnmhapgciejfaaGreatDoor
open Mini

def hSign_val (a b : Int) : Value := .tuple #[.int .i64 (cz (Pl.parts a b 1073741824) (sgn a b)), .int .i64 (Pl.parts a b 1073741824)]
theorem hSign_X : FOkS Tryz.prog x_hSign := kAll_ok _ ⟨k_range, k_sign, trivial⟩
theorem hSign_args (a b : Int) : (#[.agg #[.int .i64 a, .int .i64 b]] : Array Value).toList.all (ground 8) = true := by kernel_rfl
theorem hSign_g0 : True := by first | rfl | trivial | decide | omega
theorem hSign_g1 : (true = true) := by first | rfl | trivial | decide | omega
theorem hSign_g2 : ((0 : Int) = (0 : Int)) := by first | rfl | trivial | decide | omega
def hSign_c0 (a b : Int) : Bool := ((Pl.cr a (-1073741824 : Int) (1073741824 : Int)) != (0 : Int))
theorem hSign_g4 : ((1 : Int) = (1 : Int)) := by first | rfl | trivial | decide | omega
def hSign_c1 (a b : Int) : Bool := ((Pl.cr b (-1073741824 : Int) (1073741824 : Int)) != (0 : Int))
theorem hSign_g6 : (false = false) := by first | rfl | trivial | decide | omega
def hSign_b7 (a b : Int) : Prop := (((-1500000000 : Int) ≤ a) ∧ ((a ≤ (1500000000 : Int)) ∧ (((-1500000000 : Int) ≤ b) ∧ (b ≤ (1500000000 : Int)))))
def hSign_w0 (a b : Int) : Value := .tuple #[.int .i64 (sgn a b), .int .i64 (0 : Int)]
def hSign_r0 (a b : Int) : Prop := (((((((((((True ∧ (True)) ∧ (True)) ∧ ((true = true))) ∧ (((0 : Int) = (0 : Int)))) ∧ (hSign_c0 a b = false)) ∧ ((true = true))) ∧ (((1 : Int) = (1 : Int)))) ∧ (hSign_c1 a b = false)) ∧ ((false = false))) ∧ ((false = false))) ∧ (hSign_b7 a b))
theorem hSign_o0 (a b : Int) : obOf (hSign_e0 a b) = hSign_r0 a b := by kernel_rfl
theorem hSign_v0 (a b : Int) : resOf (hSign_e0 a b) = hSign_w0 a b := by kernel_rfl
theorem hSign_k0 (a b : Int) : cleanOf Tryz.prog.globals.size (hSign_e0 a b) = true := by kernel_rfl
theorem hSign_q0 (a b : Int) : hSign_e0 a b = evFS Tryz.prog x_hSign 1000 21 #[.agg #[.int .i64 a, .int .i64 b]] (noTabs 7) ⟨[1, 0, 0, 1, 1, 0, 0, 0], True⟩ := by
  delta hSign_e0
  exact Eq.refl _
theorem hSign_p0 (a b : Int) (h : hSign_r0 a b) (w : World) : Calls Tryz.prog 21 #[.agg #[.int .i64 a, .int .i64 b]] w fun en w' => en = .returned (hSign_w0 a b) ∧ Below w.heap.size w w' := by
  have hv := hSign_v0 a b
  have hc := hSign_k0 a b
  have he := hSign_q0 a b
  have ho := hSign_o0 a b
  generalize hSign_e0 a b = r at *
  exact calls_way he gfol hSign_X hv rfl (hSign_args a b) hc ho h (bl w)
def hSign_w1 (a b : Int) : Value := .tuple #[.int .i64 (0 : Int), .int .i64 (Pl.cr b (-1073741824 : Int) (1073741824 : Int))]
def hSign_r1 (a b : Int) : Prop := (((((((((True ∧ (True)) ∧ (True)) ∧ ((true = true))) ∧ (((0 : Int) = (0 : Int)))) ∧ (hSign_c0 a b = false)) ∧ ((true = true))) ∧ (((1 : Int) = (1 : Int)))) ∧ (hSign_c1 a b = true)) ∧ (hSign_c1 a b = true))
theorem hSign_o1 (a b : Int) : obOf (hSign_e1 a b) = hSign_r1 a b := by kernel_rfl
theorem hSign_v1 (a b : Int) : resOf (hSign_e1 a b) = hSign_w1 a b := by kernel_rfl
theorem hSign_k1 (a b : Int) : cleanOf Tryz.prog.globals.size (hSign_e1 a b) = true := by kernel_rfl
theorem hSign_q1 (a b : Int) : hSign_e1 a b = evFS Tryz.prog x_hSign 1000 21 #[.agg #[.int .i64 a, .int .i64 b]] (noTabs 7) ⟨[1, 0, 0, 1, 1, 1, 1], True⟩ := by
  delta hSign_e1
  exact Eq.refl _
theorem hSign_p1 (a b : Int) (h : hSign_r1 a b) (w : World) : Calls Tryz.prog 21 #[.agg #[.int .i64 a, .int .i64 b]] w fun en w' => en = .returned (hSign_w1 a b) ∧ Below w.heap.size w w' := by
  have hv := hSign_v1 a b
  have hc := hSign_k1 a b
  have he := hSign_q1 a b
  have ho := hSign_o1 a b
  generalize hSign_e1 a b = r at *
  exact calls_way he gfol hSign_X hv rfl (hSign_args a b) hc ho h (bl w)
def hSign_w2 (a b : Int) : Value := .tuple #[.int .i64 (0 : Int), .int .i64 (Pl.cr a (-1073741824 : Int) (1073741824 : Int))]
def hSign_r2 (a b : Int) : Prop := ((((((True ∧ (True)) ∧ (True)) ∧ ((true = true))) ∧ (((0 : Int) = (0 : Int)))) ∧ (hSign_c0 a b = true)) ∧ (hSign_c0 a b = true))
theorem hSign_o2 (a b : Int) : obOf (hSign_e2 a b) = hSign_r2 a b := by kernel_rfl
theorem hSign_v2 (a b : Int) : resOf (hSign_e2 a b) = hSign_w2 a b := by kernel_rfl
theorem hSign_k2 (a b : Int) : cleanOf Tryz.prog.globals.size (hSign_e2 a b) = true := by kernel_rfl
theorem hSign_q2 (a b : Int) : hSign_e2 a b = evFS Tryz.prog x_hSign 1000 21 #[.agg #[.int .i64 a, .int .i64 b]] (noTabs 7) ⟨[1, 0, 1, 1], True⟩ := by
  delta hSign_e2
  exact Eq.refl _
theorem hSign_p2 (a b : Int) (h : hSign_r2 a b) (w : World) : Calls Tryz.prog 21 #[.agg #[.int .i64 a, .int .i64 b]] w fun en w' => en = .returned (hSign_w2 a b) ∧ Below w.heap.size w w' := by
  have hv := hSign_v2 a b
  have hc := hSign_k2 a b
  have he := hSign_q2 a b
  have ho := hSign_o2 a b
  generalize hSign_e2 a b = r at *
  exact calls_way he gfol hSign_X hv rfl (hSign_args a b) hc ho h (bl w)
theorem hSign_any (a b : Int) (hpre : True) (w : World) : Calls Tryz.prog 21 #[.agg #[.int .i64 a, .int .i64 b]] w fun en w' => en = .returned (hSign_val a b) ∧ Below w.heap.size w w' := by
  rcases Bool.eq_false_or_eq_true (hSign_c0 a b) with h0 | h0
  ·
    unfold hSign_c0 at h0
    have hp := hSign_p2 a b ⟨⟨⟨⟨⟨⟨trivial, hSign_g0⟩, hSign_g0⟩, hSign_g1⟩, hSign_g2⟩, h0⟩, h0⟩ w
    have hv : hSign_w2 a b = (hSign_val a b) := by
      clear hp
      unfold hSign_w2 hSign_val
      (try simp only [bne_eq_false_iff_eq, bne_iff_ne, ne_eq, beq_iff_eq, beq_eq_false_iff_ne] at *)
      simp only [parts_eq, cz]
      simp only [Pl.cr] at *
      grind
    exact hv ▸ hp
  ·
    unfold hSign_c0 at h0
    rcases Bool.eq_false_or_eq_true (hSign_c1 a b) with h1 | h1
    ·
      unfold hSign_c1 at h1
      have hp := hSign_p1 a b ⟨⟨⟨⟨⟨⟨⟨⟨⟨trivial, hSign_g0⟩, hSign_g0⟩, hSign_g1⟩, hSign_g2⟩, h0⟩, hSign_g1⟩, hSign_g4⟩, h1⟩, h1⟩ w
      have hv : hSign_w1 a b = (hSign_val a b) := by
        clear hp
        unfold hSign_w1 hSign_val
        (try simp only [bne_eq_false_iff_eq, bne_iff_ne, ne_eq, beq_iff_eq, beq_eq_false_iff_ne] at *)
        simp only [parts_eq, cz]
        simp only [Pl.cr] at *
        grind
      exact hv ▸ hp
    ·
      unfold hSign_c1 at h1
      have h2 : (hSign_b7 a b) := by
        unfold hSign_b7
        first | rfl | trivial | ((try simp only [bne_eq_false_iff_eq, bne_iff_ne, ne_eq, beq_iff_eq, beq_eq_false_iff_ne] at *) <;> first | assumption | exact ⟨b16of (by assumption), b4of (by assumption)⟩ | exact ⟨b4of (by assumption), cr0.1 (by assumption)⟩ | exact b4of (by assumption) | exact root0 (by assumption) | exact root1 (by assumption) (by assumption) | (simp [cz, two, *]; done))
      unfold hSign_b7 at h2
      have hp := hSign_p0 a b ⟨⟨⟨⟨⟨⟨⟨⟨⟨⟨⟨trivial, hSign_g0⟩, hSign_g0⟩, hSign_g1⟩, hSign_g2⟩, h0⟩, hSign_g1⟩, hSign_g4⟩, h1⟩, hSign_g6⟩, hSign_g6⟩, h2⟩ w
      have hv : hSign_w0 a b = (hSign_val a b) := by
        clear hp
        unfold hSign_w0 hSign_val
        (try simp only [bne_eq_false_iff_eq, bne_iff_ne, ne_eq, beq_iff_eq, beq_eq_false_iff_ne] at *)
        simp only [parts_eq, cz]
        simp only [Pl.cr] at *
        grind
      exact hv ▸ hp
theorem k_hSign : ConOk Tryz.prog c_hSign := fun ns hl => by
  have hl0 : ns.length = 2 := hl
  clear hl
  obtain ⟨a, ns0, rfl, hl1⟩ := len_cons hl0
  obtain ⟨b, ns1, rfl, hl2⟩ := len_cons hl1
  obtain rfl := len_nil hl2
  exact ⟨rfl, fun h w => hSign_any a b h w⟩
end Go.Proofs.YtgnmhapgciejfaaGreatDoor
end
section
set_option linter.all false
set_option maxRecDepth 1000000
set_option maxHeartbeats 2000000
open Go.RowKit
namespace Go.Proofs.YtgnmhapgciejfaaGreatDoor
open Mini

def rrange_val (n lo hi : Int) : Value := .int .i64 (Pl.cr n lo hi)
theorem rrange_X : FOkS Tryz.prog x_rrange := noXS_ok
theorem rrange_args (n lo hi : Int) : (#[.int .i64 n, .int .i64 lo, .int .i64 hi] : Array Value).toList.all (ground 8) = true := by kernel_rfl
def rrange_c0 (n lo hi : Int) : Bool := (decide (n < lo))
theorem rrange_g1 : (true = true) := by first | rfl | trivial | decide | omega
def rrange_c1 (n lo hi : Int) : Bool := (decide (n > hi))
def rrange_w0 (n lo hi : Int) : Value := .int .i64 (3 : Int)
def rrange_r0 (n lo hi : Int) : Prop := (((((True ∧ (rrange_c0 n lo hi = true)) ∧ (rrange_c0 n lo hi = true)) ∧ (rrange_c0 n lo hi = true)) ∧ (rrange_c0 n lo hi = true)) ∧ ((true = true)))
theorem rrange_o0 (n lo hi : Int) : obOf (rrange_e0 n lo hi) = rrange_r0 n lo hi := by kernel_rfl
theorem rrange_v0 (n lo hi : Int) : resOf (rrange_e0 n lo hi) = rrange_w0 n lo hi := by kernel_rfl
theorem rrange_k0 (n lo hi : Int) : cleanOf Tryz.prog.globals.size (rrange_e0 n lo hi) = true := by kernel_rfl
theorem rrange_q0 (n lo hi : Int) : rrange_e0 n lo hi = evFS Tryz.prog x_rrange 1000 24 #[.int .i64 n, .int .i64 lo, .int .i64 hi] (noTabs 7) ⟨[0, 0, 0, 1, 1], True⟩ := by
  delta rrange_e0
  exact Eq.refl _
theorem rrange_p0 (n lo hi : Int) (h : rrange_r0 n lo hi) (w : World) : Calls Tryz.prog 24 #[.int .i64 n, .int .i64 lo, .int .i64 hi] w fun en w' => en = .returned (rrange_w0 n lo hi) ∧ Below w.heap.size w w' := by
  have hv := rrange_v0 n lo hi
  have hc := rrange_k0 n lo hi
  have he := rrange_q0 n lo hi
  have ho := rrange_o0 n lo hi
  generalize rrange_e0 n lo hi = r at *
  exact calls_way he gfol rrange_X hv rfl (rrange_args n lo hi) hc ho h (bl w)
def rrange_w1 (n lo hi : Int) : Value := .int .i64 (3 : Int)
def rrange_r1 (n lo hi : Int) : Prop := (((((True ∧ (rrange_c0 n lo hi = false)) ∧ (rrange_c0 n lo hi = false)) ∧ (rrange_c0 n lo hi = false)) ∧ (rrange_c0 n lo hi = false)) ∧ (rrange_c1 n lo hi = true))
theorem rrange_o1 (n lo hi : Int) : obOf (rrange_e1 n lo hi) = rrange_r1 n lo hi := by kernel_rfl
theorem rrange_v1 (n lo hi : Int) : resOf (rrange_e1 n lo hi) = rrange_w1 n lo hi := by kernel_rfl
theorem rrange_k1 (n lo hi : Int) : cleanOf Tryz.prog.globals.size (rrange_e1 n lo hi) = true := by kernel_rfl
theorem rrange_q1 (n lo hi : Int) : rrange_e1 n lo hi = evFS Tryz.prog x_rrange 1000 24 #[.int .i64 n, .int .i64 lo, .int .i64 hi] (noTabs 7) ⟨[1, 1, 1, 0, 1], True⟩ := by
  delta rrange_e1
  exact Eq.refl _
theorem rrange_p1 (n lo hi : Int) (h : rrange_r1 n lo hi) (w : World) : Calls Tryz.prog 24 #[.int .i64 n, .int .i64 lo, .int .i64 hi] w fun en w' => en = .returned (rrange_w1 n lo hi) ∧ Below w.heap.size w w' := by
  have hv := rrange_v1 n lo hi
  have hc := rrange_k1 n lo hi
  have he := rrange_q1 n lo hi
  have ho := rrange_o1 n lo hi
  generalize rrange_e1 n lo hi = r at *
  exact calls_way he gfol rrange_X hv rfl (rrange_args n lo hi) hc ho h (bl w)
def rrange_w2 (n lo hi : Int) : Value := .int .i64 (0 : Int)
def rrange_r2 (n lo hi : Int) : Prop := (((((True ∧ (rrange_c0 n lo hi = false)) ∧ (rrange_c0 n lo hi = false)) ∧ (rrange_c0 n lo hi = false)) ∧ (rrange_c0 n lo hi = false)) ∧ (rrange_c1 n lo hi = false))
theorem rrange_o2 (n lo hi : Int) : obOf (rrange_e2 n lo hi) = rrange_r2 n lo hi := by kernel_rfl
theorem rrange_v2 (n lo hi : Int) : resOf (rrange_e2 n lo hi) = rrange_w2 n lo hi := by kernel_rfl
theorem rrange_k2 (n lo hi : Int) : cleanOf Tryz.prog.globals.size (rrange_e2 n lo hi) = true := by kernel_rfl
theorem rrange_q2 (n lo hi : Int) : rrange_e2 n lo hi = evFS Tryz.prog x_rrange 1000 24 #[.int .i64 n, .int .i64 lo, .int .i64 hi] (noTabs 7) ⟨[1, 1, 1, 0, 0], True⟩ := by
  delta rrange_e2
  exact Eq.refl _
theorem rrange_p2 (n lo hi : Int) (h : rrange_r2 n lo hi) (w : World) : Calls Tryz.prog 24 #[.int .i64 n, .int .i64 lo, .int .i64 hi] w fun en w' => en = .returned (rrange_w2 n lo hi) ∧ Below w.heap.size w w' := by
  have hv := rrange_v2 n lo hi
  have hc := rrange_k2 n lo hi
  have he := rrange_q2 n lo hi
  have ho := rrange_o2 n lo hi
  generalize rrange_e2 n lo hi = r at *
  exact calls_way he gfol rrange_X hv rfl (rrange_args n lo hi) hc ho h (bl w)
theorem rrange_any (n lo hi : Int) (hpre : True) (w : World) : Calls Tryz.prog 24 #[.int .i64 n, .int .i64 lo, .int .i64 hi] w fun en w' => en = .returned (rrange_val n lo hi) ∧ Below w.heap.size w w' := by
  rcases Bool.eq_false_or_eq_true (rrange_c0 n lo hi) with h0 | h0
  ·
    unfold rrange_c0 at h0
    have hp := rrange_p0 n lo hi ⟨⟨⟨⟨⟨trivial, h0⟩, h0⟩, h0⟩, h0⟩, rrange_g1⟩ w
    have hv : rrange_w0 n lo hi = (rrange_val n lo hi) := by
      clear hp
      unfold rrange_w0 rrange_val
      first | rfl | ((try simp only [bne_iff_ne, ne_eq, decide_eq_true_eq, decide_eq_false_iff_not, Bool.not_eq_true', Bool.not_eq_false', beq_iff_eq, beq_eq_false_iff_ne, bne_eq_false_iff_eq, Bool.and_eq_true, Bool.not_eq_true, Bool.not_eq_false, Pl.cr, parts_eq, cn, two, cz] at *); grind)
    exact hv ▸ hp
  ·
    unfold rrange_c0 at h0
    rcases Bool.eq_false_or_eq_true (rrange_c1 n lo hi) with h1 | h1
    ·
      unfold rrange_c1 at h1
      have hp := rrange_p1 n lo hi ⟨⟨⟨⟨⟨trivial, h0⟩, h0⟩, h0⟩, h0⟩, h1⟩ w
      have hv : rrange_w1 n lo hi = (rrange_val n lo hi) := by
        clear hp
        unfold rrange_w1 rrange_val
        first | rfl | ((try simp only [bne_iff_ne, ne_eq, decide_eq_true_eq, decide_eq_false_iff_not, Bool.not_eq_true', Bool.not_eq_false', beq_iff_eq, beq_eq_false_iff_ne, bne_eq_false_iff_eq, Bool.and_eq_true, Bool.not_eq_true, Bool.not_eq_false, Pl.cr, parts_eq, cn, two, cz] at *); grind)
      exact hv ▸ hp
    ·
      unfold rrange_c1 at h1
      have hp := rrange_p2 n lo hi ⟨⟨⟨⟨⟨trivial, h0⟩, h0⟩, h0⟩, h0⟩, h1⟩ w
      have hv : rrange_w2 n lo hi = (rrange_val n lo hi) := by
        clear hp
        unfold rrange_w2 rrange_val
        first | rfl | ((try simp only [bne_iff_ne, ne_eq, decide_eq_true_eq, decide_eq_false_iff_not, Bool.not_eq_true', Bool.not_eq_false', beq_iff_eq, beq_eq_false_iff_ne, bne_eq_false_iff_eq, Bool.and_eq_true, Bool.not_eq_true, Bool.not_eq_false, Pl.cr, parts_eq, cn, two, cz] at *); grind)
      exact hv ▸ hp
theorem k_rrange : ConOk Tryz.prog c_rrange := fun ns hl => by
  have hl0 : ns.length = 3 := hl
  clear hl
  obtain ⟨n, ns0, rfl, hl1⟩ := len_cons hl0
  obtain ⟨lo, ns1, rfl, hl2⟩ := len_cons hl1
  obtain ⟨hi, ns2, rfl, hl3⟩ := len_cons hl2
  obtain rfl := len_nil hl3
  exact ⟨rfl, fun h w => rrange_any n lo hi h w⟩
end Go.Proofs.YtgnmhapgciejfaaGreatDoor
end
section
set_option linter.all false
set_option maxRecDepth 1000000
set_option maxHeartbeats 2000000
open Go.RowKit
namespace Go.Proofs.YtgnmhapgciejfaaGreatDoor
open Mini

def rcheckCyclo_val (a b c d : Int) : Value := .int .i64 (cn a b c d)
theorem rcheckCyclo_X : FOkS Tryz.prog x_rcheckCyclo := kAll_ok _ ⟨k_rrange, trivial⟩
theorem rcheckCyclo_args (a b c d : Int) : (#[.agg #[.int .i64 a, .int .i64 b, .int .i64 c, .int .i64 d]] : Array Value).toList.all (ground 8) = true := by kernel_rfl
theorem rcheckCyclo_g0 : True := by first | rfl | trivial | decide | omega
theorem rcheckCyclo_g1 : (true = true) := by first | rfl | trivial | decide | omega
theorem rcheckCyclo_g2 : ((0 : Int) = (0 : Int)) := by first | rfl | trivial | decide | omega
def rcheckCyclo_c0 (a b c d : Int) : Bool := ((Pl.cr a (-1048576 : Int) (1048576 : Int)) != (0 : Int))
theorem rcheckCyclo_g4 : ((1 : Int) = (1 : Int)) := by first | rfl | trivial | decide | omega
def rcheckCyclo_c1 (a b c d : Int) : Bool := ((Pl.cr b (-1048576 : Int) (1048576 : Int)) != (0 : Int))
theorem rcheckCyclo_g6 : ((2 : Int) = (2 : Int)) := by first | rfl | trivial | decide | omega
def rcheckCyclo_c2 (a b c d : Int) : Bool := ((Pl.cr c (-1048576 : Int) (1048576 : Int)) != (0 : Int))
theorem rcheckCyclo_g8 : ((3 : Int) = (3 : Int)) := by first | rfl | trivial | decide | omega
def rcheckCyclo_c3 (a b c d : Int) : Bool := ((Pl.cr d (-1048576 : Int) (1048576 : Int)) != (0 : Int))
theorem rcheckCyclo_g10 : (false = false) := by first | rfl | trivial | decide | omega
def rcheckCyclo_w0 (a b c d : Int) : Value := .int .i64 (0 : Int)
def rcheckCyclo_r0 (a b c d : Int) : Prop := (((((((((((((((((True ∧ (True)) ∧ (True)) ∧ (True)) ∧ (True)) ∧ ((true = true))) ∧ (((0 : Int) = (0 : Int)))) ∧ (rcheckCyclo_c0 a b c d = false)) ∧ ((true = true))) ∧ (((1 : Int) = (1 : Int)))) ∧ (rcheckCyclo_c1 a b c d = false)) ∧ ((true = true))) ∧ (((2 : Int) = (2 : Int)))) ∧ (rcheckCyclo_c2 a b c d = false)) ∧ ((true = true))) ∧ (((3 : Int) = (3 : Int)))) ∧ (rcheckCyclo_c3 a b c d = false)) ∧ ((false = false)))
theorem rcheckCyclo_o0 (a b c d : Int) : obOf (rcheckCyclo_e0 a b c d) = rcheckCyclo_r0 a b c d := by kernel_rfl
theorem rcheckCyclo_v0 (a b c d : Int) : resOf (rcheckCyclo_e0 a b c d) = rcheckCyclo_w0 a b c d := by kernel_rfl
theorem rcheckCyclo_k0 (a b c d : Int) : cleanOf Tryz.prog.globals.size (rcheckCyclo_e0 a b c d) = true := by kernel_rfl
theorem rcheckCyclo_q0 (a b c d : Int) : rcheckCyclo_e0 a b c d = evFS Tryz.prog x_rcheckCyclo 1000 22 #[.agg #[.int .i64 a, .int .i64 b, .int .i64 c, .int .i64 d]] (noTabs 7) ⟨[1, 0, 0, 1, 1, 0, 1, 2, 0, 1, 3, 0, 0], True⟩ := by
  delta rcheckCyclo_e0
  exact Eq.refl _
theorem rcheckCyclo_p0 (a b c d : Int) (h : rcheckCyclo_r0 a b c d) (w : World) : Calls Tryz.prog 22 #[.agg #[.int .i64 a, .int .i64 b, .int .i64 c, .int .i64 d]] w fun en w' => en = .returned (rcheckCyclo_w0 a b c d) ∧ Below w.heap.size w w' := by
  have hv := rcheckCyclo_v0 a b c d
  have hc := rcheckCyclo_k0 a b c d
  have he := rcheckCyclo_q0 a b c d
  have ho := rcheckCyclo_o0 a b c d
  generalize rcheckCyclo_e0 a b c d = r at *
  exact calls_way he gfol rcheckCyclo_X hv rfl (rcheckCyclo_args a b c d) hc ho h (bl w)
def rcheckCyclo_w1 (a b c d : Int) : Value := .int .i64 (Pl.cr c (-1048576 : Int) (1048576 : Int))
def rcheckCyclo_r1 (a b c d : Int) : Prop := ((((((((((((((True ∧ (True)) ∧ (True)) ∧ (True)) ∧ (True)) ∧ ((true = true))) ∧ (((0 : Int) = (0 : Int)))) ∧ (rcheckCyclo_c0 a b c d = false)) ∧ ((true = true))) ∧ (((1 : Int) = (1 : Int)))) ∧ (rcheckCyclo_c1 a b c d = false)) ∧ ((true = true))) ∧ (((2 : Int) = (2 : Int)))) ∧ (rcheckCyclo_c2 a b c d = true)) ∧ (((2 : Int) = (2 : Int))))
theorem rcheckCyclo_o1 (a b c d : Int) : obOf (rcheckCyclo_e1 a b c d) = rcheckCyclo_r1 a b c d := by kernel_rfl
theorem rcheckCyclo_v1 (a b c d : Int) : resOf (rcheckCyclo_e1 a b c d) = rcheckCyclo_w1 a b c d := by kernel_rfl
theorem rcheckCyclo_k1 (a b c d : Int) : cleanOf Tryz.prog.globals.size (rcheckCyclo_e1 a b c d) = true := by kernel_rfl
theorem rcheckCyclo_q1 (a b c d : Int) : rcheckCyclo_e1 a b c d = evFS Tryz.prog x_rcheckCyclo 1000 22 #[.agg #[.int .i64 a, .int .i64 b, .int .i64 c, .int .i64 d]] (noTabs 7) ⟨[1, 0, 0, 1, 1, 0, 1, 2, 1, 2], True⟩ := by
  delta rcheckCyclo_e1
  exact Eq.refl _
theorem rcheckCyclo_p1 (a b c d : Int) (h : rcheckCyclo_r1 a b c d) (w : World) : Calls Tryz.prog 22 #[.agg #[.int .i64 a, .int .i64 b, .int .i64 c, .int .i64 d]] w fun en w' => en = .returned (rcheckCyclo_w1 a b c d) ∧ Below w.heap.size w w' := by
  have hv := rcheckCyclo_v1 a b c d
  have hc := rcheckCyclo_k1 a b c d
  have he := rcheckCyclo_q1 a b c d
  have ho := rcheckCyclo_o1 a b c d
  generalize rcheckCyclo_e1 a b c d = r at *
  exact calls_way he gfol rcheckCyclo_X hv rfl (rcheckCyclo_args a b c d) hc ho h (bl w)
def rcheckCyclo_w2 (a b c d : Int) : Value := .int .i64 (Pl.cr b (-1048576 : Int) (1048576 : Int))
def rcheckCyclo_r2 (a b c d : Int) : Prop := (((((((((((True ∧ (True)) ∧ (True)) ∧ (True)) ∧ (True)) ∧ ((true = true))) ∧ (((0 : Int) = (0 : Int)))) ∧ (rcheckCyclo_c0 a b c d = false)) ∧ ((true = true))) ∧ (((1 : Int) = (1 : Int)))) ∧ (rcheckCyclo_c1 a b c d = true)) ∧ (((1 : Int) = (1 : Int))))
theorem rcheckCyclo_o2 (a b c d : Int) : obOf (rcheckCyclo_e2 a b c d) = rcheckCyclo_r2 a b c d := by kernel_rfl
theorem rcheckCyclo_v2 (a b c d : Int) : resOf (rcheckCyclo_e2 a b c d) = rcheckCyclo_w2 a b c d := by kernel_rfl
theorem rcheckCyclo_k2 (a b c d : Int) : cleanOf Tryz.prog.globals.size (rcheckCyclo_e2 a b c d) = true := by kernel_rfl
theorem rcheckCyclo_q2 (a b c d : Int) : rcheckCyclo_e2 a b c d = evFS Tryz.prog x_rcheckCyclo 1000 22 #[.agg #[.int .i64 a, .int .i64 b, .int .i64 c, .int .i64 d]] (noTabs 7) ⟨[1, 0, 0, 1, 1, 1, 1], True⟩ := by
  delta rcheckCyclo_e2
  exact Eq.refl _
theorem rcheckCyclo_p2 (a b c d : Int) (h : rcheckCyclo_r2 a b c d) (w : World) : Calls Tryz.prog 22 #[.agg #[.int .i64 a, .int .i64 b, .int .i64 c, .int .i64 d]] w fun en w' => en = .returned (rcheckCyclo_w2 a b c d) ∧ Below w.heap.size w w' := by
  have hv := rcheckCyclo_v2 a b c d
  have hc := rcheckCyclo_k2 a b c d
  have he := rcheckCyclo_q2 a b c d
  have ho := rcheckCyclo_o2 a b c d
  generalize rcheckCyclo_e2 a b c d = r at *
  exact calls_way he gfol rcheckCyclo_X hv rfl (rcheckCyclo_args a b c d) hc ho h (bl w)
def rcheckCyclo_w3 (a b c d : Int) : Value := .int .i64 (Pl.cr a (-1048576 : Int) (1048576 : Int))
def rcheckCyclo_r3 (a b c d : Int) : Prop := ((((((((True ∧ (True)) ∧ (True)) ∧ (True)) ∧ (True)) ∧ ((true = true))) ∧ (((0 : Int) = (0 : Int)))) ∧ (rcheckCyclo_c0 a b c d = true)) ∧ (((0 : Int) = (0 : Int))))
theorem rcheckCyclo_o3 (a b c d : Int) : obOf (rcheckCyclo_e3 a b c d) = rcheckCyclo_r3 a b c d := by kernel_rfl
theorem rcheckCyclo_v3 (a b c d : Int) : resOf (rcheckCyclo_e3 a b c d) = rcheckCyclo_w3 a b c d := by kernel_rfl
theorem rcheckCyclo_k3 (a b c d : Int) : cleanOf Tryz.prog.globals.size (rcheckCyclo_e3 a b c d) = true := by kernel_rfl
theorem rcheckCyclo_q3 (a b c d : Int) : rcheckCyclo_e3 a b c d = evFS Tryz.prog x_rcheckCyclo 1000 22 #[.agg #[.int .i64 a, .int .i64 b, .int .i64 c, .int .i64 d]] (noTabs 7) ⟨[1, 0, 1, 0], True⟩ := by
  delta rcheckCyclo_e3
  exact Eq.refl _
theorem rcheckCyclo_p3 (a b c d : Int) (h : rcheckCyclo_r3 a b c d) (w : World) : Calls Tryz.prog 22 #[.agg #[.int .i64 a, .int .i64 b, .int .i64 c, .int .i64 d]] w fun en w' => en = .returned (rcheckCyclo_w3 a b c d) ∧ Below w.heap.size w w' := by
  have hv := rcheckCyclo_v3 a b c d
  have hc := rcheckCyclo_k3 a b c d
  have he := rcheckCyclo_q3 a b c d
  have ho := rcheckCyclo_o3 a b c d
  generalize rcheckCyclo_e3 a b c d = r at *
  exact calls_way he gfol rcheckCyclo_X hv rfl (rcheckCyclo_args a b c d) hc ho h (bl w)
def rcheckCyclo_w4 (a b c d : Int) : Value := .int .i64 (Pl.cr d (-1048576 : Int) (1048576 : Int))
def rcheckCyclo_r4 (a b c d : Int) : Prop := (((((((((((((((((True ∧ (True)) ∧ (True)) ∧ (True)) ∧ (True)) ∧ ((true = true))) ∧ (((0 : Int) = (0 : Int)))) ∧ (rcheckCyclo_c0 a b c d = false)) ∧ ((true = true))) ∧ (((1 : Int) = (1 : Int)))) ∧ (rcheckCyclo_c1 a b c d = false)) ∧ ((true = true))) ∧ (((2 : Int) = (2 : Int)))) ∧ (rcheckCyclo_c2 a b c d = false)) ∧ ((true = true))) ∧ (((3 : Int) = (3 : Int)))) ∧ (rcheckCyclo_c3 a b c d = true)) ∧ (((3 : Int) = (3 : Int))))
theorem rcheckCyclo_o4 (a b c d : Int) : obOf (rcheckCyclo_e4 a b c d) = rcheckCyclo_r4 a b c d := by kernel_rfl
theorem rcheckCyclo_v4 (a b c d : Int) : resOf (rcheckCyclo_e4 a b c d) = rcheckCyclo_w4 a b c d := by kernel_rfl
theorem rcheckCyclo_k4 (a b c d : Int) : cleanOf Tryz.prog.globals.size (rcheckCyclo_e4 a b c d) = true := by kernel_rfl
theorem rcheckCyclo_q4 (a b c d : Int) : rcheckCyclo_e4 a b c d = evFS Tryz.prog x_rcheckCyclo 1000 22 #[.agg #[.int .i64 a, .int .i64 b, .int .i64 c, .int .i64 d]] (noTabs 7) ⟨[1, 0, 0, 1, 1, 0, 1, 2, 0, 1, 3, 1, 3], True⟩ := by
  delta rcheckCyclo_e4
  exact Eq.refl _
theorem rcheckCyclo_p4 (a b c d : Int) (h : rcheckCyclo_r4 a b c d) (w : World) : Calls Tryz.prog 22 #[.agg #[.int .i64 a, .int .i64 b, .int .i64 c, .int .i64 d]] w fun en w' => en = .returned (rcheckCyclo_w4 a b c d) ∧ Below w.heap.size w w' := by
  have hv := rcheckCyclo_v4 a b c d
  have hc := rcheckCyclo_k4 a b c d
  have he := rcheckCyclo_q4 a b c d
  have ho := rcheckCyclo_o4 a b c d
  generalize rcheckCyclo_e4 a b c d = r at *
  exact calls_way he gfol rcheckCyclo_X hv rfl (rcheckCyclo_args a b c d) hc ho h (bl w)
theorem rcheckCyclo_any (a b c d : Int) (hpre : True) (w : World) : Calls Tryz.prog 22 #[.agg #[.int .i64 a, .int .i64 b, .int .i64 c, .int .i64 d]] w fun en w' => en = .returned (rcheckCyclo_val a b c d) ∧ Below w.heap.size w w' := by
  rcases Bool.eq_false_or_eq_true (rcheckCyclo_c0 a b c d) with h0 | h0
  ·
    unfold rcheckCyclo_c0 at h0
    have hp := rcheckCyclo_p3 a b c d ⟨⟨⟨⟨⟨⟨⟨⟨trivial, rcheckCyclo_g0⟩, rcheckCyclo_g0⟩, rcheckCyclo_g0⟩, rcheckCyclo_g0⟩, rcheckCyclo_g1⟩, rcheckCyclo_g2⟩, h0⟩, rcheckCyclo_g2⟩ w
    have hv : rcheckCyclo_w3 a b c d = (rcheckCyclo_val a b c d) := by
      clear hp
      unfold rcheckCyclo_w3 rcheckCyclo_val
      first | rfl | ((try simp only [bne_iff_ne, ne_eq, decide_eq_true_eq, decide_eq_false_iff_not, Bool.not_eq_true', Bool.not_eq_false', beq_iff_eq, beq_eq_false_iff_ne, bne_eq_false_iff_eq, Bool.and_eq_true, Bool.not_eq_true, Bool.not_eq_false, Pl.cr, parts_eq, cn, two, cz] at *); grind)
    exact hv ▸ hp
  ·
    unfold rcheckCyclo_c0 at h0
    rcases Bool.eq_false_or_eq_true (rcheckCyclo_c1 a b c d) with h1 | h1
    ·
      unfold rcheckCyclo_c1 at h1
      have hp := rcheckCyclo_p2 a b c d ⟨⟨⟨⟨⟨⟨⟨⟨⟨⟨⟨trivial, rcheckCyclo_g0⟩, rcheckCyclo_g0⟩, rcheckCyclo_g0⟩, rcheckCyclo_g0⟩, rcheckCyclo_g1⟩, rcheckCyclo_g2⟩, h0⟩, rcheckCyclo_g1⟩, rcheckCyclo_g4⟩, h1⟩, rcheckCyclo_g4⟩ w
      have hv : rcheckCyclo_w2 a b c d = (rcheckCyclo_val a b c d) := by
        clear hp
        unfold rcheckCyclo_w2 rcheckCyclo_val
        first | rfl | ((try simp only [bne_iff_ne, ne_eq, decide_eq_true_eq, decide_eq_false_iff_not, Bool.not_eq_true', Bool.not_eq_false', beq_iff_eq, beq_eq_false_iff_ne, bne_eq_false_iff_eq, Bool.and_eq_true, Bool.not_eq_true, Bool.not_eq_false, Pl.cr, parts_eq, cn, two, cz] at *); grind)
      exact hv ▸ hp
    ·
      unfold rcheckCyclo_c1 at h1
      rcases Bool.eq_false_or_eq_true (rcheckCyclo_c2 a b c d) with h2 | h2
      ·
        unfold rcheckCyclo_c2 at h2
        have hp := rcheckCyclo_p1 a b c d ⟨⟨⟨⟨⟨⟨⟨⟨⟨⟨⟨⟨⟨⟨trivial, rcheckCyclo_g0⟩, rcheckCyclo_g0⟩, rcheckCyclo_g0⟩, rcheckCyclo_g0⟩, rcheckCyclo_g1⟩, rcheckCyclo_g2⟩, h0⟩, rcheckCyclo_g1⟩, rcheckCyclo_g4⟩, h1⟩, rcheckCyclo_g1⟩, rcheckCyclo_g6⟩, h2⟩, rcheckCyclo_g6⟩ w
        have hv : rcheckCyclo_w1 a b c d = (rcheckCyclo_val a b c d) := by
          clear hp
          unfold rcheckCyclo_w1 rcheckCyclo_val
          first | rfl | ((try simp only [bne_iff_ne, ne_eq, decide_eq_true_eq, decide_eq_false_iff_not, Bool.not_eq_true', Bool.not_eq_false', beq_iff_eq, beq_eq_false_iff_ne, bne_eq_false_iff_eq, Bool.and_eq_true, Bool.not_eq_true, Bool.not_eq_false, Pl.cr, parts_eq, cn, two, cz] at *); grind)
        exact hv ▸ hp
      ·
        unfold rcheckCyclo_c2 at h2
        rcases Bool.eq_false_or_eq_true (rcheckCyclo_c3 a b c d) with h3 | h3
        ·
          unfold rcheckCyclo_c3 at h3
          have hp := rcheckCyclo_p4 a b c d ⟨⟨⟨⟨⟨⟨⟨⟨⟨⟨⟨⟨⟨⟨⟨⟨⟨trivial, rcheckCyclo_g0⟩, rcheckCyclo_g0⟩, rcheckCyclo_g0⟩, rcheckCyclo_g0⟩, rcheckCyclo_g1⟩, rcheckCyclo_g2⟩, h0⟩, rcheckCyclo_g1⟩, rcheckCyclo_g4⟩, h1⟩, rcheckCyclo_g1⟩, rcheckCyclo_g6⟩, h2⟩, rcheckCyclo_g1⟩, rcheckCyclo_g8⟩, h3⟩, rcheckCyclo_g8⟩ w
          have hv : rcheckCyclo_w4 a b c d = (rcheckCyclo_val a b c d) := by
            clear hp
            unfold rcheckCyclo_w4 rcheckCyclo_val
            first | rfl | ((try simp only [bne_iff_ne, ne_eq, decide_eq_true_eq, decide_eq_false_iff_not, Bool.not_eq_true', Bool.not_eq_false', beq_iff_eq, beq_eq_false_iff_ne, bne_eq_false_iff_eq, Bool.and_eq_true, Bool.not_eq_true, Bool.not_eq_false, Pl.cr, parts_eq, cn, two, cz] at *); grind)
          exact hv ▸ hp
        ·
          unfold rcheckCyclo_c3 at h3
          have hp := rcheckCyclo_p0 a b c d ⟨⟨⟨⟨⟨⟨⟨⟨⟨⟨⟨⟨⟨⟨⟨⟨⟨trivial, rcheckCyclo_g0⟩, rcheckCyclo_g0⟩, rcheckCyclo_g0⟩, rcheckCyclo_g0⟩, rcheckCyclo_g1⟩, rcheckCyclo_g2⟩, h0⟩, rcheckCyclo_g1⟩, rcheckCyclo_g4⟩, h1⟩, rcheckCyclo_g1⟩, rcheckCyclo_g6⟩, h2⟩, rcheckCyclo_g1⟩, rcheckCyclo_g8⟩, h3⟩, rcheckCyclo_g10⟩ w
          have hv : rcheckCyclo_w0 a b c d = (rcheckCyclo_val a b c d) := by
            clear hp
            unfold rcheckCyclo_w0 rcheckCyclo_val
            first | rfl | ((try simp only [bne_iff_ne, ne_eq, decide_eq_true_eq, decide_eq_false_iff_not, Bool.not_eq_true', Bool.not_eq_false', beq_iff_eq, beq_eq_false_iff_ne, bne_eq_false_iff_eq, Bool.and_eq_true, Bool.not_eq_true, Bool.not_eq_false, Pl.cr, parts_eq, cn, two, cz] at *); grind)
          exact hv ▸ hp
theorem k_rcheckCyclo : ConOk Tryz.prog c_rcheckCyclo := fun ns hl => by
  have hl0 : ns.length = 4 := hl
  clear hl
  obtain ⟨a, ns0, rfl, hl1⟩ := len_cons hl0
  obtain ⟨b, ns1, rfl, hl2⟩ := len_cons hl1
  obtain ⟨c, ns2, rfl, hl3⟩ := len_cons hl2
  obtain ⟨d, ns3, rfl, hl4⟩ := len_cons hl3
  obtain rfl := len_nil hl4
  exact ⟨rfl, fun h w => rcheckCyclo_any a b c d h w⟩
end Go.Proofs.YtgnmhapgciejfaaGreatDoor
end
section
set_option linter.all false
set_option maxRecDepth 1000000
set_option maxHeartbeats 2000000
open Go.RowKit
namespace Go.Proofs.YtgnmhapgciejfaaGreatDoor
open Mini

def rcheckRoot_val (a b : Int) : Value := .int .i64 (Pl.parts a b 1073741824)
theorem rcheckRoot_X : FOkS Tryz.prog x_rcheckRoot := kAll_ok _ ⟨k_rrange, trivial⟩
theorem rcheckRoot_args (a b : Int) : (#[.agg #[.int .i64 a, .int .i64 b]] : Array Value).toList.all (ground 8) = true := by kernel_rfl
theorem rcheckRoot_g0 : True := by first | rfl | trivial | decide | omega
theorem rcheckRoot_g1 : (true = true) := by first | rfl | trivial | decide | omega
theorem rcheckRoot_g2 : ((0 : Int) = (0 : Int)) := by first | rfl | trivial | decide | omega
def rcheckRoot_c0 (a b : Int) : Bool := ((Pl.cr a (-1073741824 : Int) (1073741824 : Int)) != (0 : Int))
theorem rcheckRoot_g4 : ((1 : Int) = (1 : Int)) := by first | rfl | trivial | decide | omega
def rcheckRoot_c1 (a b : Int) : Bool := ((Pl.cr b (-1073741824 : Int) (1073741824 : Int)) != (0 : Int))
theorem rcheckRoot_g6 : (false = false) := by first | rfl | trivial | decide | omega
def rcheckRoot_w0 (a b : Int) : Value := .int .i64 (0 : Int)
def rcheckRoot_r0 (a b : Int) : Prop := (((((((((True ∧ (True)) ∧ (True)) ∧ ((true = true))) ∧ (((0 : Int) = (0 : Int)))) ∧ (rcheckRoot_c0 a b = false)) ∧ ((true = true))) ∧ (((1 : Int) = (1 : Int)))) ∧ (rcheckRoot_c1 a b = false)) ∧ ((false = false)))
theorem rcheckRoot_o0 (a b : Int) : obOf (rcheckRoot_e0 a b) = rcheckRoot_r0 a b := by kernel_rfl
theorem rcheckRoot_v0 (a b : Int) : resOf (rcheckRoot_e0 a b) = rcheckRoot_w0 a b := by kernel_rfl
theorem rcheckRoot_k0 (a b : Int) : cleanOf Tryz.prog.globals.size (rcheckRoot_e0 a b) = true := by kernel_rfl
theorem rcheckRoot_q0 (a b : Int) : rcheckRoot_e0 a b = evFS Tryz.prog x_rcheckRoot 1000 28 #[.agg #[.int .i64 a, .int .i64 b]] (noTabs 7) ⟨[1, 0, 0, 1, 1, 0, 0], True⟩ := by
  delta rcheckRoot_e0
  exact Eq.refl _
theorem rcheckRoot_p0 (a b : Int) (h : rcheckRoot_r0 a b) (w : World) : Calls Tryz.prog 28 #[.agg #[.int .i64 a, .int .i64 b]] w fun en w' => en = .returned (rcheckRoot_w0 a b) ∧ Below w.heap.size w w' := by
  have hv := rcheckRoot_v0 a b
  have hc := rcheckRoot_k0 a b
  have he := rcheckRoot_q0 a b
  have ho := rcheckRoot_o0 a b
  generalize rcheckRoot_e0 a b = r at *
  exact calls_way he gfol rcheckRoot_X hv rfl (rcheckRoot_args a b) hc ho h (bl w)
def rcheckRoot_w1 (a b : Int) : Value := .int .i64 (Pl.cr b (-1073741824 : Int) (1073741824 : Int))
def rcheckRoot_r1 (a b : Int) : Prop := (((((((((True ∧ (True)) ∧ (True)) ∧ ((true = true))) ∧ (((0 : Int) = (0 : Int)))) ∧ (rcheckRoot_c0 a b = false)) ∧ ((true = true))) ∧ (((1 : Int) = (1 : Int)))) ∧ (rcheckRoot_c1 a b = true)) ∧ (((1 : Int) = (1 : Int))))
theorem rcheckRoot_o1 (a b : Int) : obOf (rcheckRoot_e1 a b) = rcheckRoot_r1 a b := by kernel_rfl
theorem rcheckRoot_v1 (a b : Int) : resOf (rcheckRoot_e1 a b) = rcheckRoot_w1 a b := by kernel_rfl
theorem rcheckRoot_k1 (a b : Int) : cleanOf Tryz.prog.globals.size (rcheckRoot_e1 a b) = true := by kernel_rfl
theorem rcheckRoot_q1 (a b : Int) : rcheckRoot_e1 a b = evFS Tryz.prog x_rcheckRoot 1000 28 #[.agg #[.int .i64 a, .int .i64 b]] (noTabs 7) ⟨[1, 0, 0, 1, 1, 1, 1], True⟩ := by
  delta rcheckRoot_e1
  exact Eq.refl _
theorem rcheckRoot_p1 (a b : Int) (h : rcheckRoot_r1 a b) (w : World) : Calls Tryz.prog 28 #[.agg #[.int .i64 a, .int .i64 b]] w fun en w' => en = .returned (rcheckRoot_w1 a b) ∧ Below w.heap.size w w' := by
  have hv := rcheckRoot_v1 a b
  have hc := rcheckRoot_k1 a b
  have he := rcheckRoot_q1 a b
  have ho := rcheckRoot_o1 a b
  generalize rcheckRoot_e1 a b = r at *
  exact calls_way he gfol rcheckRoot_X hv rfl (rcheckRoot_args a b) hc ho h (bl w)
def rcheckRoot_w2 (a b : Int) : Value := .int .i64 (Pl.cr a (-1073741824 : Int) (1073741824 : Int))
def rcheckRoot_r2 (a b : Int) : Prop := ((((((True ∧ (True)) ∧ (True)) ∧ ((true = true))) ∧ (((0 : Int) = (0 : Int)))) ∧ (rcheckRoot_c0 a b = true)) ∧ (((0 : Int) = (0 : Int))))
theorem rcheckRoot_o2 (a b : Int) : obOf (rcheckRoot_e2 a b) = rcheckRoot_r2 a b := by kernel_rfl
theorem rcheckRoot_v2 (a b : Int) : resOf (rcheckRoot_e2 a b) = rcheckRoot_w2 a b := by kernel_rfl
theorem rcheckRoot_k2 (a b : Int) : cleanOf Tryz.prog.globals.size (rcheckRoot_e2 a b) = true := by kernel_rfl
theorem rcheckRoot_q2 (a b : Int) : rcheckRoot_e2 a b = evFS Tryz.prog x_rcheckRoot 1000 28 #[.agg #[.int .i64 a, .int .i64 b]] (noTabs 7) ⟨[1, 0, 1, 0], True⟩ := by
  delta rcheckRoot_e2
  exact Eq.refl _
theorem rcheckRoot_p2 (a b : Int) (h : rcheckRoot_r2 a b) (w : World) : Calls Tryz.prog 28 #[.agg #[.int .i64 a, .int .i64 b]] w fun en w' => en = .returned (rcheckRoot_w2 a b) ∧ Below w.heap.size w w' := by
  have hv := rcheckRoot_v2 a b
  have hc := rcheckRoot_k2 a b
  have he := rcheckRoot_q2 a b
  have ho := rcheckRoot_o2 a b
  generalize rcheckRoot_e2 a b = r at *
  exact calls_way he gfol rcheckRoot_X hv rfl (rcheckRoot_args a b) hc ho h (bl w)
theorem rcheckRoot_any (a b : Int) (hpre : True) (w : World) : Calls Tryz.prog 28 #[.agg #[.int .i64 a, .int .i64 b]] w fun en w' => en = .returned (rcheckRoot_val a b) ∧ Below w.heap.size w w' := by
  rcases Bool.eq_false_or_eq_true (rcheckRoot_c0 a b) with h0 | h0
  ·
    unfold rcheckRoot_c0 at h0
    have hp := rcheckRoot_p2 a b ⟨⟨⟨⟨⟨⟨trivial, rcheckRoot_g0⟩, rcheckRoot_g0⟩, rcheckRoot_g1⟩, rcheckRoot_g2⟩, h0⟩, rcheckRoot_g2⟩ w
    have hv : rcheckRoot_w2 a b = (rcheckRoot_val a b) := by
      clear hp
      unfold rcheckRoot_w2 rcheckRoot_val
      first | rfl | ((try simp only [bne_iff_ne, ne_eq, decide_eq_true_eq, decide_eq_false_iff_not, Bool.not_eq_true', Bool.not_eq_false', beq_iff_eq, beq_eq_false_iff_ne, bne_eq_false_iff_eq, Bool.and_eq_true, Bool.not_eq_true, Bool.not_eq_false, Pl.cr, parts_eq, cn, two, cz] at *); grind)
    exact hv ▸ hp
  ·
    unfold rcheckRoot_c0 at h0
    rcases Bool.eq_false_or_eq_true (rcheckRoot_c1 a b) with h1 | h1
    ·
      unfold rcheckRoot_c1 at h1
      have hp := rcheckRoot_p1 a b ⟨⟨⟨⟨⟨⟨⟨⟨⟨trivial, rcheckRoot_g0⟩, rcheckRoot_g0⟩, rcheckRoot_g1⟩, rcheckRoot_g2⟩, h0⟩, rcheckRoot_g1⟩, rcheckRoot_g4⟩, h1⟩, rcheckRoot_g4⟩ w
      have hv : rcheckRoot_w1 a b = (rcheckRoot_val a b) := by
        clear hp
        unfold rcheckRoot_w1 rcheckRoot_val
        first | rfl | ((try simp only [bne_iff_ne, ne_eq, decide_eq_true_eq, decide_eq_false_iff_not, Bool.not_eq_true', Bool.not_eq_false', beq_iff_eq, beq_eq_false_iff_ne, bne_eq_false_iff_eq, Bool.and_eq_true, Bool.not_eq_true, Bool.not_eq_false, Pl.cr, parts_eq, cn, two, cz] at *); grind)
      exact hv ▸ hp
    ·
      unfold rcheckRoot_c1 at h1
      have hp := rcheckRoot_p0 a b ⟨⟨⟨⟨⟨⟨⟨⟨⟨trivial, rcheckRoot_g0⟩, rcheckRoot_g0⟩, rcheckRoot_g1⟩, rcheckRoot_g2⟩, h0⟩, rcheckRoot_g1⟩, rcheckRoot_g4⟩, h1⟩, rcheckRoot_g6⟩ w
      have hv : rcheckRoot_w0 a b = (rcheckRoot_val a b) := by
        clear hp
        unfold rcheckRoot_w0 rcheckRoot_val
        first | rfl | ((try simp only [bne_iff_ne, ne_eq, decide_eq_true_eq, decide_eq_false_iff_not, Bool.not_eq_true', Bool.not_eq_false', beq_iff_eq, beq_eq_false_iff_ne, bne_eq_false_iff_eq, Bool.and_eq_true, Bool.not_eq_true, Bool.not_eq_false, Pl.cr, parts_eq, cn, two, cz] at *); grind)
      exact hv ▸ hp
theorem k_rcheckRoot : ConOk Tryz.prog c_rcheckRoot := fun ns hl => by
  have hl0 : ns.length = 2 := hl
  clear hl
  obtain ⟨a, ns0, rfl, hl1⟩ := len_cons hl0
  obtain ⟨b, ns1, rfl, hl2⟩ := len_cons hl1
  obtain rfl := len_nil hl2
  exact ⟨rfl, fun h w => rcheckRoot_any a b h w⟩
end Go.Proofs.YtgnmhapgciejfaaGreatDoor
end
section
set_option linter.all false
set_option maxRecDepth 1000000
set_option maxHeartbeats 2000000
open Go.RowKit
namespace Go.Proofs.YtgnmhapgciejfaaGreatDoor
open Mini

def rproduct_val (a b c d e f g k : Int) : Value := .agg #[.int .i64 (p1 a b c d e f g k), .int .i64 (p2 a b c d e f g k), .int .i64 (p3 a b c d e f g k), .int .i64 (p4 a b c d e f g k)]
theorem rproduct_X : FOkS Tryz.prog x_rproduct := noXS_ok
theorem rproduct_args (a b c d e f g k : Int) : (#[.agg #[.int .i64 a, .int .i64 b, .int .i64 c, .int .i64 d], .agg #[.int .i64 e, .int .i64 f, .int .i64 g, .int .i64 k]] : Array Value).toList.all (ground 8) = true := by kernel_rfl
def rproduct_w0 (a b c d e f g k : Int) : Value := .agg #[.int .i64 (IntKind.i64.wrap ((IntKind.i64.wrap ((IntKind.i64.wrap (a * e)) - (IntKind.i64.wrap (b * f)))) - (IntKind.i64.wrap ((IntKind.i64.wrap (c * g)) - (IntKind.i64.wrap (d * k)))))), .int .i64 (IntKind.i64.wrap ((IntKind.i64.wrap ((IntKind.i64.wrap ((IntKind.i64.wrap (a * f)) + (IntKind.i64.wrap (b * e)))) - (IntKind.i64.wrap (b * f)))) - (IntKind.i64.wrap ((IntKind.i64.wrap ((IntKind.i64.wrap (c * k)) + (IntKind.i64.wrap (d * g)))) - (IntKind.i64.wrap (d * k)))))), .int .i64 (IntKind.i64.wrap ((IntKind.i64.wrap ((IntKind.i64.wrap (a * g)) - (IntKind.i64.wrap (b * k)))) + (IntKind.i64.wrap ((IntKind.i64.wrap (c * e)) - (IntKind.i64.wrap (d * f)))))), .int .i64 (IntKind.i64.wrap ((IntKind.i64.wrap ((IntKind.i64.wrap ((IntKind.i64.wrap (a * k)) + (IntKind.i64.wrap (b * g)))) - (IntKind.i64.wrap (b * k)))) + (IntKind.i64.wrap ((IntKind.i64.wrap ((IntKind.i64.wrap (c * f)) + (IntKind.i64.wrap (d * e)))) - (IntKind.i64.wrap (d * f))))))]
def rproduct_r0 (a b c d e f g k : Int) : Prop := True
theorem rproduct_o0 (a b c d e f g k : Int) : obOf (rproduct_e0 a b c d e f g k) = rproduct_r0 a b c d e f g k := by kernel_rfl
theorem rproduct_v0 (a b c d e f g k : Int) : resOf (rproduct_e0 a b c d e f g k) = rproduct_w0 a b c d e f g k := by kernel_rfl
theorem rproduct_k0 (a b c d e f g k : Int) : cleanOf Tryz.prog.globals.size (rproduct_e0 a b c d e f g k) = true := by kernel_rfl
theorem rproduct_q0 (a b c d e f g k : Int) : rproduct_e0 a b c d e f g k = evFS Tryz.prog x_rproduct 1000 25 #[.agg #[.int .i64 a, .int .i64 b, .int .i64 c, .int .i64 d], .agg #[.int .i64 e, .int .i64 f, .int .i64 g, .int .i64 k]] (noTabs 7) ⟨[], True⟩ := by
  delta rproduct_e0
  exact Eq.refl _
theorem rproduct_p0 (a b c d e f g k : Int) (h : rproduct_r0 a b c d e f g k) (w : World) : Calls Tryz.prog 25 #[.agg #[.int .i64 a, .int .i64 b, .int .i64 c, .int .i64 d], .agg #[.int .i64 e, .int .i64 f, .int .i64 g, .int .i64 k]] w fun en w' => en = .returned (rproduct_w0 a b c d e f g k) ∧ Below w.heap.size w w' := by
  have hv := rproduct_v0 a b c d e f g k
  have hc := rproduct_k0 a b c d e f g k
  have he := rproduct_q0 a b c d e f g k
  have ho := rproduct_o0 a b c d e f g k
  generalize rproduct_e0 a b c d e f g k = r at *
  exact calls_way he gfol rproduct_X hv rfl (rproduct_args a b c d e f g k) hc ho h (bl w)
theorem rproduct_any (a b c d e f g k : Int) (hpre : B4 16777216 a b c d ∧ B4 1048576 e f g k) (w : World) : Calls Tryz.prog 25 #[.agg #[.int .i64 a, .int .i64 b, .int .i64 c, .int .i64 d], .agg #[.int .i64 e, .int .i64 f, .int .i64 g, .int .i64 k]] w fun en w' => en = .returned (rproduct_val a b c d e f g k) ∧ Below w.heap.size w w' := by
  obtain ⟨⟨q1, q2, q3, q4, q5, q6, q7, q8⟩, r1, r2, r3, r4, r5, r6, r7, r8⟩ := hpre
  have b_ae := bd 16777216 1048576 a e (by omega) (by omega) ⟨by omega, by omega⟩ ⟨by omega, by omega⟩
  have b_af := bd 16777216 1048576 a f (by omega) (by omega) ⟨by omega, by omega⟩ ⟨by omega, by omega⟩
  have b_ag := bd 16777216 1048576 a g (by omega) (by omega) ⟨by omega, by omega⟩ ⟨by omega, by omega⟩
  have b_ak := bd 16777216 1048576 a k (by omega) (by omega) ⟨by omega, by omega⟩ ⟨by omega, by omega⟩
  have b_be := bd 16777216 1048576 b e (by omega) (by omega) ⟨by omega, by omega⟩ ⟨by omega, by omega⟩
  have b_bf := bd 16777216 1048576 b f (by omega) (by omega) ⟨by omega, by omega⟩ ⟨by omega, by omega⟩
  have b_bg := bd 16777216 1048576 b g (by omega) (by omega) ⟨by omega, by omega⟩ ⟨by omega, by omega⟩
  have b_bk := bd 16777216 1048576 b k (by omega) (by omega) ⟨by omega, by omega⟩ ⟨by omega, by omega⟩
  have b_ce := bd 16777216 1048576 c e (by omega) (by omega) ⟨by omega, by omega⟩ ⟨by omega, by omega⟩
  have b_cf := bd 16777216 1048576 c f (by omega) (by omega) ⟨by omega, by omega⟩ ⟨by omega, by omega⟩
  have b_cg := bd 16777216 1048576 c g (by omega) (by omega) ⟨by omega, by omega⟩ ⟨by omega, by omega⟩
  have b_ck := bd 16777216 1048576 c k (by omega) (by omega) ⟨by omega, by omega⟩ ⟨by omega, by omega⟩
  have b_de := bd 16777216 1048576 d e (by omega) (by omega) ⟨by omega, by omega⟩ ⟨by omega, by omega⟩
  have b_df := bd 16777216 1048576 d f (by omega) (by omega) ⟨by omega, by omega⟩ ⟨by omega, by omega⟩
  have b_dg := bd 16777216 1048576 d g (by omega) (by omega) ⟨by omega, by omega⟩ ⟨by omega, by omega⟩
  have b_dk := bd 16777216 1048576 d k (by omega) (by omega) ⟨by omega, by omega⟩ ⟨by omega, by omega⟩
  have hp := rproduct_p0 a b c d e f g k trivial w
  have hv : rproduct_w0 a b c d e f g k = (rproduct_val a b c d e f g k) := by
    clear hp
    unfold rproduct_w0 rproduct_val
    (try simp (disch := omega) only [wi])
    all_goals (simp only [p1, p2, p3, p4])
    all_goals (first | rfl | (simp only [Value.agg.injEq, Array.mk.injEq, List.cons.injEq, Value.int.injEq, true_and, and_true]; omega))
  exact hv ▸ hp
theorem k_rproduct : ConOk Tryz.prog c_rproduct := fun ns hl => by
  have hl0 : ns.length = 8 := hl
  clear hl
  obtain ⟨a, ns0, rfl, hl1⟩ := len_cons hl0
  obtain ⟨b, ns1, rfl, hl2⟩ := len_cons hl1
  obtain ⟨c, ns2, rfl, hl3⟩ := len_cons hl2
  obtain ⟨d, ns3, rfl, hl4⟩ := len_cons hl3
  obtain ⟨e, ns4, rfl, hl5⟩ := len_cons hl4
  obtain ⟨f, ns5, rfl, hl6⟩ := len_cons hl5
  obtain ⟨g, ns6, rfl, hl7⟩ := len_cons hl6
  obtain ⟨k, ns7, rfl, hl8⟩ := len_cons hl7
  obtain rfl := len_nil hl8
  exact ⟨rfl, fun h w => rproduct_any a b c d e f g k h w⟩
end Go.Proofs.YtgnmhapgciejfaaGreatDoor
end
section
set_option linter.all false
set_option maxRecDepth 1000000
set_option maxHeartbeats 2000000
open Go.RowKit
namespace Go.Proofs.YtgnmhapgciejfaaGreatDoor
open Mini

def rroot_val (a b c d e f g k : Int) : Value := .agg #[.int .i64 (-d), .int .i64 (c - d), .int .i64 (b), .int .i64 (b - a)]
theorem rroot_any (a b c d e f g k : Int) (hpre : B4 16777216 a b c d ∧ e = 0 ∧ f = 0 ∧ g = 0 ∧ k = -1) (w : World) : Calls Tryz.prog 25 #[.agg #[.int .i64 a, .int .i64 b, .int .i64 c, .int .i64 d], .agg #[.int .i64 e, .int .i64 f, .int .i64 g, .int .i64 k]] w fun en w' => en = .returned (rroot_val a b c d e f g k) ∧ Below w.heap.size w w' := by
  have hp := rproduct_any a b c d e f g k (⟨hpre.1, by obtain ⟨_, rfl, rfl, rfl, rfl⟩ := hpre; decide⟩) w
  have hv : rproduct_val a b c d e f g k = rroot_val a b c d e f g k := by
    clear hp
    unfold rproduct_val rroot_val
    obtain ⟨_, rfl, rfl, rfl, rfl⟩ := hpre
    simp only [p1, p2, p3, p4, Value.agg.injEq, Array.mk.injEq, List.cons.injEq, Value.int.injEq, true_and, and_true]
    omega
  exact hv ▸ hp
theorem k_rroot : ConOk Tryz.prog c_rroot := fun ns hl => by
  have hl0 : ns.length = 8 := hl
  clear hl
  obtain ⟨a, ns0, rfl, hl1⟩ := len_cons hl0
  obtain ⟨b, ns1, rfl, hl2⟩ := len_cons hl1
  obtain ⟨c, ns2, rfl, hl3⟩ := len_cons hl2
  obtain ⟨d, ns3, rfl, hl4⟩ := len_cons hl3
  obtain ⟨e, ns4, rfl, hl5⟩ := len_cons hl4
  obtain ⟨f, ns5, rfl, hl6⟩ := len_cons hl5
  obtain ⟨g, ns6, rfl, hl7⟩ := len_cons hl6
  obtain ⟨k, ns7, rfl, hl8⟩ := len_cons hl7
  obtain rfl := len_nil hl8
  exact ⟨rfl, fun h w => rroot_any a b c d e f g k h w⟩
end Go.Proofs.YtgnmhapgciejfaaGreatDoor
end
section
set_option linter.all false
set_option maxRecDepth 1000000
set_option maxHeartbeats 2000000
open Go.RowKit
namespace Go.Proofs.YtgnmhapgciejfaaGreatDoor
open Mini

def rturned_val (a b c d n : Int) : Value := .agg #[.int .i64 ((tn a b c d n).1), .int .i64 ((tn a b c d n).2.1), .int .i64 ((tn a b c d n).2.2.1), .int .i64 ((tn a b c d n).2.2.2)]
theorem rturned_X : FOkS Tryz.prog x_rturned := kAll_ok _ ⟨k_rroot, trivial⟩
theorem rturned_args (a b c d n : Int) : (#[.agg #[.int .i64 a, .int .i64 b, .int .i64 c, .int .i64 d], .int .i64 n] : Array Value).toList.all (ground 8) = true := by kernel_rfl
def rturned_c0 (a b c d n : Int) : Bool := (decide ((IntKind.i64.wrap ((IntKind.i64.wrap (Int.tdiv n (12 : Int))) * (12 : Int))) > n))
def rturned_c1 (a b c d n : Int) : Bool := (decide ((0 : Int) < (IntKind.i64.wrap (n - (IntKind.i64.wrap ((12 : Int) * (IntKind.i64.wrap ((IntKind.i64.wrap (Int.tdiv n (12 : Int))) - (1 : Int)))))))))
def rturned_b2 (a b c d n : Int) : Prop := ((B4 (16777216 : Int) a b c d) ∧ (((0 : Int) = (0 : Int)) ∧ (((0 : Int) = (0 : Int)) ∧ (((0 : Int) = (0 : Int)) ∧ ((-1 : Int) = (-1 : Int))))))
def rturned_c2 (a b c d n : Int) : Bool := (decide ((1 : Int) < (IntKind.i64.wrap (n - (IntKind.i64.wrap ((12 : Int) * (IntKind.i64.wrap ((IntKind.i64.wrap (Int.tdiv n (12 : Int))) - (1 : Int)))))))))
def rturned_b4 (a b c d n : Int) : Prop := ((B4 (16777216 : Int) (- d) (c - d) b (b - a)) ∧ (((0 : Int) = (0 : Int)) ∧ (((0 : Int) = (0 : Int)) ∧ (((0 : Int) = (0 : Int)) ∧ ((-1 : Int) = (-1 : Int))))))
def rturned_c3 (a b c d n : Int) : Bool := (decide ((2 : Int) < (IntKind.i64.wrap (n - (IntKind.i64.wrap ((12 : Int) * (IntKind.i64.wrap ((IntKind.i64.wrap (Int.tdiv n (12 : Int))) - (1 : Int)))))))))
def rturned_b6 (a b c d n : Int) : Prop := ((B4 (16777216 : Int) (- (b - a)) (b - (b - a)) (c - d) ((c - d) - (- d))) ∧ (((0 : Int) = (0 : Int)) ∧ (((0 : Int) = (0 : Int)) ∧ (((0 : Int) = (0 : Int)) ∧ ((-1 : Int) = (-1 : Int))))))
def rturned_c4 (a b c d n : Int) : Bool := (decide ((3 : Int) < (IntKind.i64.wrap (n - (IntKind.i64.wrap ((12 : Int) * (IntKind.i64.wrap ((IntKind.i64.wrap (Int.tdiv n (12 : Int))) - (1 : Int)))))))))
def rturned_b8 (a b c d n : Int) : Prop := ((B4 (16777216 : Int) (- ((c - d) - (- d))) ((c - d) - ((c - d) - (- d))) (b - (b - a)) ((b - (b - a)) - (- (b - a)))) ∧ (((0 : Int) = (0 : Int)) ∧ (((0 : Int) = (0 : Int)) ∧ (((0 : Int) = (0 : Int)) ∧ ((-1 : Int) = (-1 : Int))))))
def rturned_c5 (a b c d n : Int) : Bool := (decide ((4 : Int) < (IntKind.i64.wrap (n - (IntKind.i64.wrap ((12 : Int) * (IntKind.i64.wrap ((IntKind.i64.wrap (Int.tdiv n (12 : Int))) - (1 : Int)))))))))
def rturned_b10 (a b c d n : Int) : Prop := ((B4 (16777216 : Int) (- ((b - (b - a)) - (- (b - a)))) ((b - (b - a)) - ((b - (b - a)) - (- (b - a)))) ((c - d) - ((c - d) - (- d))) (((c - d) - ((c - d) - (- d))) - (- ((c - d) - (- d))))) ∧ (((0 : Int) = (0 : Int)) ∧ (((0 : Int) = (0 : Int)) ∧ (((0 : Int) = (0 : Int)) ∧ ((-1 : Int) = (-1 : Int))))))
def rturned_c6 (a b c d n : Int) : Bool := (decide ((5 : Int) < (IntKind.i64.wrap (n - (IntKind.i64.wrap ((12 : Int) * (IntKind.i64.wrap ((IntKind.i64.wrap (Int.tdiv n (12 : Int))) - (1 : Int)))))))))
def rturned_b12 (a b c d n : Int) : Prop := ((B4 (16777216 : Int) (- (((c - d) - ((c - d) - (- d))) - (- ((c - d) - (- d))))) (((c - d) - ((c - d) - (- d))) - (((c - d) - ((c - d) - (- d))) - (- ((c - d) - (- d))))) ((b - (b - a)) - ((b - (b - a)) - (- (b - a)))) (((b - (b - a)) - ((b - (b - a)) - (- (b - a)))) - (- ((b - (b - a)) - (- (b - a)))))) ∧ (((0 : Int) = (0 : Int)) ∧ (((0 : Int) = (0 : Int)) ∧ (((0 : Int) = (0 : Int)) ∧ ((-1 : Int) = (-1 : Int))))))
def rturned_c7 (a b c d n : Int) : Bool := (decide ((6 : Int) < (IntKind.i64.wrap (n - (IntKind.i64.wrap ((12 : Int) * (IntKind.i64.wrap ((IntKind.i64.wrap (Int.tdiv n (12 : Int))) - (1 : Int)))))))))
def rturned_b14 (a b c d n : Int) : Prop := ((B4 (16777216 : Int) (- (((b - (b - a)) - ((b - (b - a)) - (- (b - a)))) - (- ((b - (b - a)) - (- (b - a)))))) (((b - (b - a)) - ((b - (b - a)) - (- (b - a)))) - (((b - (b - a)) - ((b - (b - a)) - (- (b - a)))) - (- ((b - (b - a)) - (- (b - a)))))) (((c - d) - ((c - d) - (- d))) - (((c - d) - ((c - d) - (- d))) - (- ((c - d) - (- d))))) ((((c - d) - ((c - d) - (- d))) - (((c - d) - ((c - d) - (- d))) - (- ((c - d) - (- d))))) - (- (((c - d) - ((c - d) - (- d))) - (- ((c - d) - (- d))))))) ∧ (((0 : Int) = (0 : Int)) ∧ (((0 : Int) = (0 : Int)) ∧ (((0 : Int) = (0 : Int)) ∧ ((-1 : Int) = (-1 : Int))))))
def rturned_c8 (a b c d n : Int) : Bool := (decide ((7 : Int) < (IntKind.i64.wrap (n - (IntKind.i64.wrap ((12 : Int) * (IntKind.i64.wrap ((IntKind.i64.wrap (Int.tdiv n (12 : Int))) - (1 : Int)))))))))
def rturned_b16 (a b c d n : Int) : Prop := ((B4 (16777216 : Int) (- ((((c - d) - ((c - d) - (- d))) - (((c - d) - ((c - d) - (- d))) - (- ((c - d) - (- d))))) - (- (((c - d) - ((c - d) - (- d))) - (- ((c - d) - (- d))))))) ((((c - d) - ((c - d) - (- d))) - (((c - d) - ((c - d) - (- d))) - (- ((c - d) - (- d))))) - ((((c - d) - ((c - d) - (- d))) - (((c - d) - ((c - d) - (- d))) - (- ((c - d) - (- d))))) - (- (((c - d) - ((c - d) - (- d))) - (- ((c - d) - (- d))))))) (((b - (b - a)) - ((b - (b - a)) - (- (b - a)))) - (((b - (b - a)) - ((b - (b - a)) - (- (b - a)))) - (- ((b - (b - a)) - (- (b - a)))))) ((((b - (b - a)) - ((b - (b - a)) - (- (b - a)))) - (((b - (b - a)) - ((b - (b - a)) - (- (b - a)))) - (- ((b - (b - a)) - (- (b - a)))))) - (- (((b - (b - a)) - ((b - (b - a)) - (- (b - a)))) - (- ((b - (b - a)) - (- (b - a)))))))) ∧ (((0 : Int) = (0 : Int)) ∧ (((0 : Int) = (0 : Int)) ∧ (((0 : Int) = (0 : Int)) ∧ ((-1 : Int) = (-1 : Int))))))
def rturned_c9 (a b c d n : Int) : Bool := (decide ((8 : Int) < (IntKind.i64.wrap (n - (IntKind.i64.wrap ((12 : Int) * (IntKind.i64.wrap ((IntKind.i64.wrap (Int.tdiv n (12 : Int))) - (1 : Int)))))))))
def rturned_b18 (a b c d n : Int) : Prop := ((B4 (16777216 : Int) (- ((((b - (b - a)) - ((b - (b - a)) - (- (b - a)))) - (((b - (b - a)) - ((b - (b - a)) - (- (b - a)))) - (- ((b - (b - a)) - (- (b - a)))))) - (- (((b - (b - a)) - ((b - (b - a)) - (- (b - a)))) - (- ((b - (b - a)) - (- (b - a)))))))) ((((b - (b - a)) - ((b - (b - a)) - (- (b - a)))) - (((b - (b - a)) - ((b - (b - a)) - (- (b - a)))) - (- ((b - (b - a)) - (- (b - a)))))) - ((((b - (b - a)) - ((b - (b - a)) - (- (b - a)))) - (((b - (b - a)) - ((b - (b - a)) - (- (b - a)))) - (- ((b - (b - a)) - (- (b - a)))))) - (- (((b - (b - a)) - ((b - (b - a)) - (- (b - a)))) - (- ((b - (b - a)) - (- (b - a)))))))) ((((c - d) - ((c - d) - (- d))) - (((c - d) - ((c - d) - (- d))) - (- ((c - d) - (- d))))) - ((((c - d) - ((c - d) - (- d))) - (((c - d) - ((c - d) - (- d))) - (- ((c - d) - (- d))))) - (- (((c - d) - ((c - d) - (- d))) - (- ((c - d) - (- d))))))) (((((c - d) - ((c - d) - (- d))) - (((c - d) - ((c - d) - (- d))) - (- ((c - d) - (- d))))) - ((((c - d) - ((c - d) - (- d))) - (((c - d) - ((c - d) - (- d))) - (- ((c - d) - (- d))))) - (- (((c - d) - ((c - d) - (- d))) - (- ((c - d) - (- d))))))) - (- ((((c - d) - ((c - d) - (- d))) - (((c - d) - ((c - d) - (- d))) - (- ((c - d) - (- d))))) - (- (((c - d) - ((c - d) - (- d))) - (- ((c - d) - (- d))))))))) ∧ (((0 : Int) = (0 : Int)) ∧ (((0 : Int) = (0 : Int)) ∧ (((0 : Int) = (0 : Int)) ∧ ((-1 : Int) = (-1 : Int))))))
def rturned_c10 (a b c d n : Int) : Bool := (decide ((9 : Int) < (IntKind.i64.wrap (n - (IntKind.i64.wrap ((12 : Int) * (IntKind.i64.wrap ((IntKind.i64.wrap (Int.tdiv n (12 : Int))) - (1 : Int)))))))))
def rturned_b20 (a b c d n : Int) : Prop := ((B4 (16777216 : Int) (- (((((c - d) - ((c - d) - (- d))) - (((c - d) - ((c - d) - (- d))) - (- ((c - d) - (- d))))) - ((((c - d) - ((c - d) - (- d))) - (((c - d) - ((c - d) - (- d))) - (- ((c - d) - (- d))))) - (- (((c - d) - ((c - d) - (- d))) - (- ((c - d) - (- d))))))) - (- ((((c - d) - ((c - d) - (- d))) - (((c - d) - ((c - d) - (- d))) - (- ((c - d) - (- d))))) - (- (((c - d) - ((c - d) - (- d))) - (- ((c - d) - (- d))))))))) (((((c - d) - ((c - d) - (- d))) - (((c - d) - ((c - d) - (- d))) - (- ((c - d) - (- d))))) - ((((c - d) - ((c - d) - (- d))) - (((c - d) - ((c - d) - (- d))) - (- ((c - d) - (- d))))) - (- (((c - d) - ((c - d) - (- d))) - (- ((c - d) - (- d))))))) - (((((c - d) - ((c - d) - (- d))) - (((c - d) - ((c - d) - (- d))) - (- ((c - d) - (- d))))) - ((((c - d) - ((c - d) - (- d))) - (((c - d) - ((c - d) - (- d))) - (- ((c - d) - (- d))))) - (- (((c - d) - ((c - d) - (- d))) - (- ((c - d) - (- d))))))) - (- ((((c - d) - ((c - d) - (- d))) - (((c - d) - ((c - d) - (- d))) - (- ((c - d) - (- d))))) - (- (((c - d) - ((c - d) - (- d))) - (- ((c - d) - (- d))))))))) ((((b - (b - a)) - ((b - (b - a)) - (- (b - a)))) - (((b - (b - a)) - ((b - (b - a)) - (- (b - a)))) - (- ((b - (b - a)) - (- (b - a)))))) - ((((b - (b - a)) - ((b - (b - a)) - (- (b - a)))) - (((b - (b - a)) - ((b - (b - a)) - (- (b - a)))) - (- ((b - (b - a)) - (- (b - a)))))) - (- (((b - (b - a)) - ((b - (b - a)) - (- (b - a)))) - (- ((b - (b - a)) - (- (b - a)))))))) (((((b - (b - a)) - ((b - (b - a)) - (- (b - a)))) - (((b - (b - a)) - ((b - (b - a)) - (- (b - a)))) - (- ((b - (b - a)) - (- (b - a)))))) - ((((b - (b - a)) - ((b - (b - a)) - (- (b - a)))) - (((b - (b - a)) - ((b - (b - a)) - (- (b - a)))) - (- ((b - (b - a)) - (- (b - a)))))) - (- (((b - (b - a)) - ((b - (b - a)) - (- (b - a)))) - (- ((b - (b - a)) - (- (b - a)))))))) - (- ((((b - (b - a)) - ((b - (b - a)) - (- (b - a)))) - (((b - (b - a)) - ((b - (b - a)) - (- (b - a)))) - (- ((b - (b - a)) - (- (b - a)))))) - (- (((b - (b - a)) - ((b - (b - a)) - (- (b - a)))) - (- ((b - (b - a)) - (- (b - a)))))))))) ∧ (((0 : Int) = (0 : Int)) ∧ (((0 : Int) = (0 : Int)) ∧ (((0 : Int) = (0 : Int)) ∧ ((-1 : Int) = (-1 : Int))))))
def rturned_c11 (a b c d n : Int) : Bool := (decide ((10 : Int) < (IntKind.i64.wrap (n - (IntKind.i64.wrap ((12 : Int) * (IntKind.i64.wrap ((IntKind.i64.wrap (Int.tdiv n (12 : Int))) - (1 : Int)))))))))
def rturned_b22 (a b c d n : Int) : Prop := ((B4 (16777216 : Int) (- (((((b - (b - a)) - ((b - (b - a)) - (- (b - a)))) - (((b - (b - a)) - ((b - (b - a)) - (- (b - a)))) - (- ((b - (b - a)) - (- (b - a)))))) - ((((b - (b - a)) - ((b - (b - a)) - (- (b - a)))) - (((b - (b - a)) - ((b - (b - a)) - (- (b - a)))) - (- ((b - (b - a)) - (- (b - a)))))) - (- (((b - (b - a)) - ((b - (b - a)) - (- (b - a)))) - (- ((b - (b - a)) - (- (b - a)))))))) - (- ((((b - (b - a)) - ((b - (b - a)) - (- (b - a)))) - (((b - (b - a)) - ((b - (b - a)) - (- (b - a)))) - (- ((b - (b - a)) - (- (b - a)))))) - (- (((b - (b - a)) - ((b - (b - a)) - (- (b - a)))) - (- ((b - (b - a)) - (- (b - a)))))))))) (((((b - (b - a)) - ((b - (b - a)) - (- (b - a)))) - (((b - (b - a)) - ((b - (b - a)) - (- (b - a)))) - (- ((b - (b - a)) - (- (b - a)))))) - ((((b - (b - a)) - ((b - (b - a)) - (- (b - a)))) - (((b - (b - a)) - ((b - (b - a)) - (- (b - a)))) - (- ((b - (b - a)) - (- (b - a)))))) - (- (((b - (b - a)) - ((b - (b - a)) - (- (b - a)))) - (- ((b - (b - a)) - (- (b - a)))))))) - (((((b - (b - a)) - ((b - (b - a)) - (- (b - a)))) - (((b - (b - a)) - ((b - (b - a)) - (- (b - a)))) - (- ((b - (b - a)) - (- (b - a)))))) - ((((b - (b - a)) - ((b - (b - a)) - (- (b - a)))) - (((b - (b - a)) - ((b - (b - a)) - (- (b - a)))) - (- ((b - (b - a)) - (- (b - a)))))) - (- (((b - (b - a)) - ((b - (b - a)) - (- (b - a)))) - (- ((b - (b - a)) - (- (b - a)))))))) - (- ((((b - (b - a)) - ((b - (b - a)) - (- (b - a)))) - (((b - (b - a)) - ((b - (b - a)) - (- (b - a)))) - (- ((b - (b - a)) - (- (b - a)))))) - (- (((b - (b - a)) - ((b - (b - a)) - (- (b - a)))) - (- ((b - (b - a)) - (- (b - a)))))))))) (((((c - d) - ((c - d) - (- d))) - (((c - d) - ((c - d) - (- d))) - (- ((c - d) - (- d))))) - ((((c - d) - ((c - d) - (- d))) - (((c - d) - ((c - d) - (- d))) - (- ((c - d) - (- d))))) - (- (((c - d) - ((c - d) - (- d))) - (- ((c - d) - (- d))))))) - (((((c - d) - ((c - d) - (- d))) - (((c - d) - ((c - d) - (- d))) - (- ((c - d) - (- d))))) - ((((c - d) - ((c - d) - (- d))) - (((c - d) - ((c - d) - (- d))) - (- ((c - d) - (- d))))) - (- (((c - d) - ((c - d) - (- d))) - (- ((c - d) - (- d))))))) - (- ((((c - d) - ((c - d) - (- d))) - (((c - d) - ((c - d) - (- d))) - (- ((c - d) - (- d))))) - (- (((c - d) - ((c - d) - (- d))) - (- ((c - d) - (- d))))))))) ((((((c - d) - ((c - d) - (- d))) - (((c - d) - ((c - d) - (- d))) - (- ((c - d) - (- d))))) - ((((c - d) - ((c - d) - (- d))) - (((c - d) - ((c - d) - (- d))) - (- ((c - d) - (- d))))) - (- (((c - d) - ((c - d) - (- d))) - (- ((c - d) - (- d))))))) - (((((c - d) - ((c - d) - (- d))) - (((c - d) - ((c - d) - (- d))) - (- ((c - d) - (- d))))) - ((((c - d) - ((c - d) - (- d))) - (((c - d) - ((c - d) - (- d))) - (- ((c - d) - (- d))))) - (- (((c - d) - ((c - d) - (- d))) - (- ((c - d) - (- d))))))) - (- ((((c - d) - ((c - d) - (- d))) - (((c - d) - ((c - d) - (- d))) - (- ((c - d) - (- d))))) - (- (((c - d) - ((c - d) - (- d))) - (- ((c - d) - (- d))))))))) - (- (((((c - d) - ((c - d) - (- d))) - (((c - d) - ((c - d) - (- d))) - (- ((c - d) - (- d))))) - ((((c - d) - ((c - d) - (- d))) - (((c - d) - ((c - d) - (- d))) - (- ((c - d) - (- d))))) - (- (((c - d) - ((c - d) - (- d))) - (- ((c - d) - (- d))))))) - (- ((((c - d) - ((c - d) - (- d))) - (((c - d) - ((c - d) - (- d))) - (- ((c - d) - (- d))))) - (- (((c - d) - ((c - d) - (- d))) - (- ((c - d) - (- d))))))))))) ∧ (((0 : Int) = (0 : Int)) ∧ (((0 : Int) = (0 : Int)) ∧ (((0 : Int) = (0 : Int)) ∧ ((-1 : Int) = (-1 : Int))))))
def rturned_c12 (a b c d n : Int) : Bool := (decide ((11 : Int) < (IntKind.i64.wrap (n - (IntKind.i64.wrap ((12 : Int) * (IntKind.i64.wrap ((IntKind.i64.wrap (Int.tdiv n (12 : Int))) - (1 : Int)))))))))
def rturned_c13 (a b c d n : Int) : Bool := (decide ((0 : Int) < (IntKind.i64.wrap (n - (IntKind.i64.wrap ((12 : Int) * (IntKind.i64.wrap (Int.tdiv n (12 : Int)))))))))
def rturned_c14 (a b c d n : Int) : Bool := (decide ((1 : Int) < (IntKind.i64.wrap (n - (IntKind.i64.wrap ((12 : Int) * (IntKind.i64.wrap (Int.tdiv n (12 : Int)))))))))
def rturned_c15 (a b c d n : Int) : Bool := (decide ((2 : Int) < (IntKind.i64.wrap (n - (IntKind.i64.wrap ((12 : Int) * (IntKind.i64.wrap (Int.tdiv n (12 : Int)))))))))
def rturned_c16 (a b c d n : Int) : Bool := (decide ((3 : Int) < (IntKind.i64.wrap (n - (IntKind.i64.wrap ((12 : Int) * (IntKind.i64.wrap (Int.tdiv n (12 : Int)))))))))
def rturned_c17 (a b c d n : Int) : Bool := (decide ((4 : Int) < (IntKind.i64.wrap (n - (IntKind.i64.wrap ((12 : Int) * (IntKind.i64.wrap (Int.tdiv n (12 : Int)))))))))
def rturned_c18 (a b c d n : Int) : Bool := (decide ((5 : Int) < (IntKind.i64.wrap (n - (IntKind.i64.wrap ((12 : Int) * (IntKind.i64.wrap (Int.tdiv n (12 : Int)))))))))
def rturned_c19 (a b c d n : Int) : Bool := (decide ((6 : Int) < (IntKind.i64.wrap (n - (IntKind.i64.wrap ((12 : Int) * (IntKind.i64.wrap (Int.tdiv n (12 : Int)))))))))
def rturned_c20 (a b c d n : Int) : Bool := (decide ((7 : Int) < (IntKind.i64.wrap (n - (IntKind.i64.wrap ((12 : Int) * (IntKind.i64.wrap (Int.tdiv n (12 : Int)))))))))
def rturned_c21 (a b c d n : Int) : Bool := (decide ((8 : Int) < (IntKind.i64.wrap (n - (IntKind.i64.wrap ((12 : Int) * (IntKind.i64.wrap (Int.tdiv n (12 : Int)))))))))
def rturned_c22 (a b c d n : Int) : Bool := (decide ((9 : Int) < (IntKind.i64.wrap (n - (IntKind.i64.wrap ((12 : Int) * (IntKind.i64.wrap (Int.tdiv n (12 : Int)))))))))
def rturned_c23 (a b c d n : Int) : Bool := (decide ((10 : Int) < (IntKind.i64.wrap (n - (IntKind.i64.wrap ((12 : Int) * (IntKind.i64.wrap (Int.tdiv n (12 : Int)))))))))
def rturned_c24 (a b c d n : Int) : Bool := (decide ((11 : Int) < (IntKind.i64.wrap (n - (IntKind.i64.wrap ((12 : Int) * (IntKind.i64.wrap (Int.tdiv n (12 : Int)))))))))
def rturned_w0 (a b c d n : Int) : Value := .agg #[.int .i64 (- ((((((c - d) - ((c - d) - (- d))) - (((c - d) - ((c - d) - (- d))) - (- ((c - d) - (- d))))) - ((((c - d) - ((c - d) - (- d))) - (((c - d) - ((c - d) - (- d))) - (- ((c - d) - (- d))))) - (- (((c - d) - ((c - d) - (- d))) - (- ((c - d) - (- d))))))) - (((((c - d) - ((c - d) - (- d))) - (((c - d) - ((c - d) - (- d))) - (- ((c - d) - (- d))))) - ((((c - d) - ((c - d) - (- d))) - (((c - d) - ((c - d) - (- d))) - (- ((c - d) - (- d))))) - (- (((c - d) - ((c - d) - (- d))) - (- ((c - d) - (- d))))))) - (- ((((c - d) - ((c - d) - (- d))) - (((c - d) - ((c - d) - (- d))) - (- ((c - d) - (- d))))) - (- (((c - d) - ((c - d) - (- d))) - (- ((c - d) - (- d))))))))) - (- (((((c - d) - ((c - d) - (- d))) - (((c - d) - ((c - d) - (- d))) - (- ((c - d) - (- d))))) - ((((c - d) - ((c - d) - (- d))) - (((c - d) - ((c - d) - (- d))) - (- ((c - d) - (- d))))) - (- (((c - d) - ((c - d) - (- d))) - (- ((c - d) - (- d))))))) - (- ((((c - d) - ((c - d) - (- d))) - (((c - d) - ((c - d) - (- d))) - (- ((c - d) - (- d))))) - (- (((c - d) - ((c - d) - (- d))) - (- ((c - d) - (- d))))))))))), .int .i64 ((((((c - d) - ((c - d) - (- d))) - (((c - d) - ((c - d) - (- d))) - (- ((c - d) - (- d))))) - ((((c - d) - ((c - d) - (- d))) - (((c - d) - ((c - d) - (- d))) - (- ((c - d) - (- d))))) - (- (((c - d) - ((c - d) - (- d))) - (- ((c - d) - (- d))))))) - (((((c - d) - ((c - d) - (- d))) - (((c - d) - ((c - d) - (- d))) - (- ((c - d) - (- d))))) - ((((c - d) - ((c - d) - (- d))) - (((c - d) - ((c - d) - (- d))) - (- ((c - d) - (- d))))) - (- (((c - d) - ((c - d) - (- d))) - (- ((c - d) - (- d))))))) - (- ((((c - d) - ((c - d) - (- d))) - (((c - d) - ((c - d) - (- d))) - (- ((c - d) - (- d))))) - (- (((c - d) - ((c - d) - (- d))) - (- ((c - d) - (- d))))))))) - ((((((c - d) - ((c - d) - (- d))) - (((c - d) - ((c - d) - (- d))) - (- ((c - d) - (- d))))) - ((((c - d) - ((c - d) - (- d))) - (((c - d) - ((c - d) - (- d))) - (- ((c - d) - (- d))))) - (- (((c - d) - ((c - d) - (- d))) - (- ((c - d) - (- d))))))) - (((((c - d) - ((c - d) - (- d))) - (((c - d) - ((c - d) - (- d))) - (- ((c - d) - (- d))))) - ((((c - d) - ((c - d) - (- d))) - (((c - d) - ((c - d) - (- d))) - (- ((c - d) - (- d))))) - (- (((c - d) - ((c - d) - (- d))) - (- ((c - d) - (- d))))))) - (- ((((c - d) - ((c - d) - (- d))) - (((c - d) - ((c - d) - (- d))) - (- ((c - d) - (- d))))) - (- (((c - d) - ((c - d) - (- d))) - (- ((c - d) - (- d))))))))) - (- (((((c - d) - ((c - d) - (- d))) - (((c - d) - ((c - d) - (- d))) - (- ((c - d) - (- d))))) - ((((c - d) - ((c - d) - (- d))) - (((c - d) - ((c - d) - (- d))) - (- ((c - d) - (- d))))) - (- (((c - d) - ((c - d) - (- d))) - (- ((c - d) - (- d))))))) - (- ((((c - d) - ((c - d) - (- d))) - (((c - d) - ((c - d) - (- d))) - (- ((c - d) - (- d))))) - (- (((c - d) - ((c - d) - (- d))) - (- ((c - d) - (- d))))))))))), .int .i64 (((((b - (b - a)) - ((b - (b - a)) - (- (b - a)))) - (((b - (b - a)) - ((b - (b - a)) - (- (b - a)))) - (- ((b - (b - a)) - (- (b - a)))))) - ((((b - (b - a)) - ((b - (b - a)) - (- (b - a)))) - (((b - (b - a)) - ((b - (b - a)) - (- (b - a)))) - (- ((b - (b - a)) - (- (b - a)))))) - (- (((b - (b - a)) - ((b - (b - a)) - (- (b - a)))) - (- ((b - (b - a)) - (- (b - a)))))))) - (((((b - (b - a)) - ((b - (b - a)) - (- (b - a)))) - (((b - (b - a)) - ((b - (b - a)) - (- (b - a)))) - (- ((b - (b - a)) - (- (b - a)))))) - ((((b - (b - a)) - ((b - (b - a)) - (- (b - a)))) - (((b - (b - a)) - ((b - (b - a)) - (- (b - a)))) - (- ((b - (b - a)) - (- (b - a)))))) - (- (((b - (b - a)) - ((b - (b - a)) - (- (b - a)))) - (- ((b - (b - a)) - (- (b - a)))))))) - (- ((((b - (b - a)) - ((b - (b - a)) - (- (b - a)))) - (((b - (b - a)) - ((b - (b - a)) - (- (b - a)))) - (- ((b - (b - a)) - (- (b - a)))))) - (- (((b - (b - a)) - ((b - (b - a)) - (- (b - a)))) - (- ((b - (b - a)) - (- (b - a)))))))))), .int .i64 ((((((b - (b - a)) - ((b - (b - a)) - (- (b - a)))) - (((b - (b - a)) - ((b - (b - a)) - (- (b - a)))) - (- ((b - (b - a)) - (- (b - a)))))) - ((((b - (b - a)) - ((b - (b - a)) - (- (b - a)))) - (((b - (b - a)) - ((b - (b - a)) - (- (b - a)))) - (- ((b - (b - a)) - (- (b - a)))))) - (- (((b - (b - a)) - ((b - (b - a)) - (- (b - a)))) - (- ((b - (b - a)) - (- (b - a)))))))) - (((((b - (b - a)) - ((b - (b - a)) - (- (b - a)))) - (((b - (b - a)) - ((b - (b - a)) - (- (b - a)))) - (- ((b - (b - a)) - (- (b - a)))))) - ((((b - (b - a)) - ((b - (b - a)) - (- (b - a)))) - (((b - (b - a)) - ((b - (b - a)) - (- (b - a)))) - (- ((b - (b - a)) - (- (b - a)))))) - (- (((b - (b - a)) - ((b - (b - a)) - (- (b - a)))) - (- ((b - (b - a)) - (- (b - a)))))))) - (- ((((b - (b - a)) - ((b - (b - a)) - (- (b - a)))) - (((b - (b - a)) - ((b - (b - a)) - (- (b - a)))) - (- ((b - (b - a)) - (- (b - a)))))) - (- (((b - (b - a)) - ((b - (b - a)) - (- (b - a)))) - (- ((b - (b - a)) - (- (b - a)))))))))) - (- (((((b - (b - a)) - ((b - (b - a)) - (- (b - a)))) - (((b - (b - a)) - ((b - (b - a)) - (- (b - a)))) - (- ((b - (b - a)) - (- (b - a)))))) - ((((b - (b - a)) - ((b - (b - a)) - (- (b - a)))) - (((b - (b - a)) - ((b - (b - a)) - (- (b - a)))) - (- ((b - (b - a)) - (- (b - a)))))) - (- (((b - (b - a)) - ((b - (b - a)) - (- (b - a)))) - (- ((b - (b - a)) - (- (b - a)))))))) - (- ((((b - (b - a)) - ((b - (b - a)) - (- (b - a)))) - (((b - (b - a)) - ((b - (b - a)) - (- (b - a)))) - (- ((b - (b - a)) - (- (b - a)))))) - (- (((b - (b - a)) - ((b - (b - a)) - (- (b - a)))) - (- ((b - (b - a)) - (- (b - a)))))))))))]
def rturned_r0 (a b c d n : Int) : Prop := (((((((((((((((((((((((((((((((((((True ∧ (rturned_c0 a b c d n = true)) ∧ (rturned_c1 a b c d n = true)) ∧ (rturned_b2 a b c d n)) ∧ (rturned_c0 a b c d n = true)) ∧ (rturned_c2 a b c d n = true)) ∧ (rturned_b4 a b c d n)) ∧ (rturned_c0 a b c d n = true)) ∧ (rturned_c3 a b c d n = true)) ∧ (rturned_b6 a b c d n)) ∧ (rturned_c0 a b c d n = true)) ∧ (rturned_c4 a b c d n = true)) ∧ (rturned_b8 a b c d n)) ∧ (rturned_c0 a b c d n = true)) ∧ (rturned_c5 a b c d n = true)) ∧ (rturned_b10 a b c d n)) ∧ (rturned_c0 a b c d n = true)) ∧ (rturned_c6 a b c d n = true)) ∧ (rturned_b12 a b c d n)) ∧ (rturned_c0 a b c d n = true)) ∧ (rturned_c7 a b c d n = true)) ∧ (rturned_b14 a b c d n)) ∧ (rturned_c0 a b c d n = true)) ∧ (rturned_c8 a b c d n = true)) ∧ (rturned_b16 a b c d n)) ∧ (rturned_c0 a b c d n = true)) ∧ (rturned_c9 a b c d n = true)) ∧ (rturned_b18 a b c d n)) ∧ (rturned_c0 a b c d n = true)) ∧ (rturned_c10 a b c d n = true)) ∧ (rturned_b20 a b c d n)) ∧ (rturned_c0 a b c d n = true)) ∧ (rturned_c11 a b c d n = true)) ∧ (rturned_b22 a b c d n)) ∧ (rturned_c0 a b c d n = true)) ∧ (rturned_c12 a b c d n = false))
theorem rturned_o0 (a b c d n : Int) : obOf (rturned_e0 a b c d n) = rturned_r0 a b c d n := by kernel_rfl
theorem rturned_v0 (a b c d n : Int) : resOf (rturned_e0 a b c d n) = rturned_w0 a b c d n := by kernel_rfl
theorem rturned_k0 (a b c d n : Int) : cleanOf Tryz.prog.globals.size (rturned_e0 a b c d n) = true := by kernel_rfl
theorem rturned_q0 (a b c d n : Int) : rturned_e0 a b c d n = evFS Tryz.prog x_rturned 1000 26 #[.agg #[.int .i64 a, .int .i64 b, .int .i64 c, .int .i64 d], .int .i64 n] (noTabs 7) ⟨[1, 1, 1, 1, 1, 1, 1, 1, 1, 1, 1, 1, 1, 1, 1, 1, 1, 1, 1, 1, 1, 1, 1, 0], True⟩ := by
  delta rturned_e0
  exact Eq.refl _
theorem rturned_p0 (a b c d n : Int) (h : rturned_r0 a b c d n) (w : World) : Calls Tryz.prog 26 #[.agg #[.int .i64 a, .int .i64 b, .int .i64 c, .int .i64 d], .int .i64 n] w fun en w' => en = .returned (rturned_w0 a b c d n) ∧ Below w.heap.size w w' := by
  have hv := rturned_v0 a b c d n
  have hc := rturned_k0 a b c d n
  have he := rturned_q0 a b c d n
  have ho := rturned_o0 a b c d n
  generalize rturned_e0 a b c d n = r at *
  exact calls_way he gfol rturned_X hv rfl (rturned_args a b c d n) hc ho h (bl w)
def rturned_w1 (a b c d n : Int) : Value := .agg #[.int .i64 a, .int .i64 b, .int .i64 c, .int .i64 d]
def rturned_r1 (a b c d n : Int) : Prop := ((True ∧ (rturned_c0 a b c d n = false)) ∧ (rturned_c13 a b c d n = false))
theorem rturned_o1 (a b c d n : Int) : obOf (rturned_e1 a b c d n) = rturned_r1 a b c d n := by kernel_rfl
theorem rturned_v1 (a b c d n : Int) : resOf (rturned_e1 a b c d n) = rturned_w1 a b c d n := by kernel_rfl
theorem rturned_k1 (a b c d n : Int) : cleanOf Tryz.prog.globals.size (rturned_e1 a b c d n) = true := by kernel_rfl
theorem rturned_q1 (a b c d n : Int) : rturned_e1 a b c d n = evFS Tryz.prog x_rturned 1000 26 #[.agg #[.int .i64 a, .int .i64 b, .int .i64 c, .int .i64 d], .int .i64 n] (noTabs 7) ⟨[0, 0], True⟩ := by
  delta rturned_e1
  exact Eq.refl _
theorem rturned_p1 (a b c d n : Int) (h : rturned_r1 a b c d n) (w : World) : Calls Tryz.prog 26 #[.agg #[.int .i64 a, .int .i64 b, .int .i64 c, .int .i64 d], .int .i64 n] w fun en w' => en = .returned (rturned_w1 a b c d n) ∧ Below w.heap.size w w' := by
  have hv := rturned_v1 a b c d n
  have hc := rturned_k1 a b c d n
  have he := rturned_q1 a b c d n
  have ho := rturned_o1 a b c d n
  generalize rturned_e1 a b c d n = r at *
  exact calls_way he gfol rturned_X hv rfl (rturned_args a b c d n) hc ho h (bl w)
def rturned_w2 (a b c d n : Int) : Value := .agg #[.int .i64 (- d), .int .i64 (c - d), .int .i64 b, .int .i64 (b - a)]
def rturned_r2 (a b c d n : Int) : Prop := (((((True ∧ (rturned_c0 a b c d n = true)) ∧ (rturned_c1 a b c d n = true)) ∧ (rturned_b2 a b c d n)) ∧ (rturned_c0 a b c d n = true)) ∧ (rturned_c2 a b c d n = false))
theorem rturned_o2 (a b c d n : Int) : obOf (rturned_e2 a b c d n) = rturned_r2 a b c d n := by kernel_rfl
theorem rturned_v2 (a b c d n : Int) : resOf (rturned_e2 a b c d n) = rturned_w2 a b c d n := by kernel_rfl
theorem rturned_k2 (a b c d n : Int) : cleanOf Tryz.prog.globals.size (rturned_e2 a b c d n) = true := by kernel_rfl
theorem rturned_q2 (a b c d n : Int) : rturned_e2 a b c d n = evFS Tryz.prog x_rturned 1000 26 #[.agg #[.int .i64 a, .int .i64 b, .int .i64 c, .int .i64 d], .int .i64 n] (noTabs 7) ⟨[1, 1, 1, 0], True⟩ := by
  delta rturned_e2
  exact Eq.refl _
theorem rturned_p2 (a b c d n : Int) (h : rturned_r2 a b c d n) (w : World) : Calls Tryz.prog 26 #[.agg #[.int .i64 a, .int .i64 b, .int .i64 c, .int .i64 d], .int .i64 n] w fun en w' => en = .returned (rturned_w2 a b c d n) ∧ Below w.heap.size w w' := by
  have hv := rturned_v2 a b c d n
  have hc := rturned_k2 a b c d n
  have he := rturned_q2 a b c d n
  have ho := rturned_o2 a b c d n
  generalize rturned_e2 a b c d n = r at *
  exact calls_way he gfol rturned_X hv rfl (rturned_args a b c d n) hc ho h (bl w)
def rturned_w3 (a b c d n : Int) : Value := .agg #[.int .i64 (- (b - a)), .int .i64 (b - (b - a)), .int .i64 (c - d), .int .i64 ((c - d) - (- d))]
def rturned_r3 (a b c d n : Int) : Prop := ((((((((True ∧ (rturned_c0 a b c d n = true)) ∧ (rturned_c1 a b c d n = true)) ∧ (rturned_b2 a b c d n)) ∧ (rturned_c0 a b c d n = true)) ∧ (rturned_c2 a b c d n = true)) ∧ (rturned_b4 a b c d n)) ∧ (rturned_c0 a b c d n = true)) ∧ (rturned_c3 a b c d n = false))
theorem rturned_o3 (a b c d n : Int) : obOf (rturned_e3 a b c d n) = rturned_r3 a b c d n := by kernel_rfl
theorem rturned_v3 (a b c d n : Int) : resOf (rturned_e3 a b c d n) = rturned_w3 a b c d n := by kernel_rfl
theorem rturned_k3 (a b c d n : Int) : cleanOf Tryz.prog.globals.size (rturned_e3 a b c d n) = true := by kernel_rfl
theorem rturned_q3 (a b c d n : Int) : rturned_e3 a b c d n = evFS Tryz.prog x_rturned 1000 26 #[.agg #[.int .i64 a, .int .i64 b, .int .i64 c, .int .i64 d], .int .i64 n] (noTabs 7) ⟨[1, 1, 1, 1, 1, 0], True⟩ := by
  delta rturned_e3
  exact Eq.refl _
theorem rturned_p3 (a b c d n : Int) (h : rturned_r3 a b c d n) (w : World) : Calls Tryz.prog 26 #[.agg #[.int .i64 a, .int .i64 b, .int .i64 c, .int .i64 d], .int .i64 n] w fun en w' => en = .returned (rturned_w3 a b c d n) ∧ Below w.heap.size w w' := by
  have hv := rturned_v3 a b c d n
  have hc := rturned_k3 a b c d n
  have he := rturned_q3 a b c d n
  have ho := rturned_o3 a b c d n
  generalize rturned_e3 a b c d n = r at *
  exact calls_way he gfol rturned_X hv rfl (rturned_args a b c d n) hc ho h (bl w)
def rturned_w4 (a b c d n : Int) : Value := .agg #[.int .i64 (- ((c - d) - (- d))), .int .i64 ((c - d) - ((c - d) - (- d))), .int .i64 (b - (b - a)), .int .i64 ((b - (b - a)) - (- (b - a)))]
def rturned_r4 (a b c d n : Int) : Prop := (((((((((((True ∧ (rturned_c0 a b c d n = true)) ∧ (rturned_c1 a b c d n = true)) ∧ (rturned_b2 a b c d n)) ∧ (rturned_c0 a b c d n = true)) ∧ (rturned_c2 a b c d n = true)) ∧ (rturned_b4 a b c d n)) ∧ (rturned_c0 a b c d n = true)) ∧ (rturned_c3 a b c d n = true)) ∧ (rturned_b6 a b c d n)) ∧ (rturned_c0 a b c d n = true)) ∧ (rturned_c4 a b c d n = false))
theorem rturned_o4 (a b c d n : Int) : obOf (rturned_e4 a b c d n) = rturned_r4 a b c d n := by kernel_rfl
theorem rturned_v4 (a b c d n : Int) : resOf (rturned_e4 a b c d n) = rturned_w4 a b c d n := by kernel_rfl
theorem rturned_k4 (a b c d n : Int) : cleanOf Tryz.prog.globals.size (rturned_e4 a b c d n) = true := by kernel_rfl
theorem rturned_q4 (a b c d n : Int) : rturned_e4 a b c d n = evFS Tryz.prog x_rturned 1000 26 #[.agg #[.int .i64 a, .int .i64 b, .int .i64 c, .int .i64 d], .int .i64 n] (noTabs 7) ⟨[1, 1, 1, 1, 1, 1, 1, 0], True⟩ := by
  delta rturned_e4
  exact Eq.refl _
theorem rturned_p4 (a b c d n : Int) (h : rturned_r4 a b c d n) (w : World) : Calls Tryz.prog 26 #[.agg #[.int .i64 a, .int .i64 b, .int .i64 c, .int .i64 d], .int .i64 n] w fun en w' => en = .returned (rturned_w4 a b c d n) ∧ Below w.heap.size w w' := by
  have hv := rturned_v4 a b c d n
  have hc := rturned_k4 a b c d n
  have he := rturned_q4 a b c d n
  have ho := rturned_o4 a b c d n
  generalize rturned_e4 a b c d n = r at *
  exact calls_way he gfol rturned_X hv rfl (rturned_args a b c d n) hc ho h (bl w)
def rturned_w5 (a b c d n : Int) : Value := .agg #[.int .i64 (- ((b - (b - a)) - (- (b - a)))), .int .i64 ((b - (b - a)) - ((b - (b - a)) - (- (b - a)))), .int .i64 ((c - d) - ((c - d) - (- d))), .int .i64 (((c - d) - ((c - d) - (- d))) - (- ((c - d) - (- d))))]
def rturned_r5 (a b c d n : Int) : Prop := ((((((((((((((True ∧ (rturned_c0 a b c d n = true)) ∧ (rturned_c1 a b c d n = true)) ∧ (rturned_b2 a b c d n)) ∧ (rturned_c0 a b c d n = true)) ∧ (rturned_c2 a b c d n = true)) ∧ (rturned_b4 a b c d n)) ∧ (rturned_c0 a b c d n = true)) ∧ (rturned_c3 a b c d n = true)) ∧ (rturned_b6 a b c d n)) ∧ (rturned_c0 a b c d n = true)) ∧ (rturned_c4 a b c d n = true)) ∧ (rturned_b8 a b c d n)) ∧ (rturned_c0 a b c d n = true)) ∧ (rturned_c5 a b c d n = false))
theorem rturned_o5 (a b c d n : Int) : obOf (rturned_e5 a b c d n) = rturned_r5 a b c d n := by kernel_rfl
theorem rturned_v5 (a b c d n : Int) : resOf (rturned_e5 a b c d n) = rturned_w5 a b c d n := by kernel_rfl
theorem rturned_k5 (a b c d n : Int) : cleanOf Tryz.prog.globals.size (rturned_e5 a b c d n) = true := by kernel_rfl
theorem rturned_q5 (a b c d n : Int) : rturned_e5 a b c d n = evFS Tryz.prog x_rturned 1000 26 #[.agg #[.int .i64 a, .int .i64 b, .int .i64 c, .int .i64 d], .int .i64 n] (noTabs 7) ⟨[1, 1, 1, 1, 1, 1, 1, 1, 1, 0], True⟩ := by
  delta rturned_e5
  exact Eq.refl _
theorem rturned_p5 (a b c d n : Int) (h : rturned_r5 a b c d n) (w : World) : Calls Tryz.prog 26 #[.agg #[.int .i64 a, .int .i64 b, .int .i64 c, .int .i64 d], .int .i64 n] w fun en w' => en = .returned (rturned_w5 a b c d n) ∧ Below w.heap.size w w' := by
  have hv := rturned_v5 a b c d n
  have hc := rturned_k5 a b c d n
  have he := rturned_q5 a b c d n
  have ho := rturned_o5 a b c d n
  generalize rturned_e5 a b c d n = r at *
  exact calls_way he gfol rturned_X hv rfl (rturned_args a b c d n) hc ho h (bl w)
def rturned_w6 (a b c d n : Int) : Value := .agg #[.int .i64 (- (((c - d) - ((c - d) - (- d))) - (- ((c - d) - (- d))))), .int .i64 (((c - d) - ((c - d) - (- d))) - (((c - d) - ((c - d) - (- d))) - (- ((c - d) - (- d))))), .int .i64 ((b - (b - a)) - ((b - (b - a)) - (- (b - a)))), .int .i64 (((b - (b - a)) - ((b - (b - a)) - (- (b - a)))) - (- ((b - (b - a)) - (- (b - a)))))]
def rturned_r6 (a b c d n : Int) : Prop := (((((((((((((((((True ∧ (rturned_c0 a b c d n = true)) ∧ (rturned_c1 a b c d n = true)) ∧ (rturned_b2 a b c d n)) ∧ (rturned_c0 a b c d n = true)) ∧ (rturned_c2 a b c d n = true)) ∧ (rturned_b4 a b c d n)) ∧ (rturned_c0 a b c d n = true)) ∧ (rturned_c3 a b c d n = true)) ∧ (rturned_b6 a b c d n)) ∧ (rturned_c0 a b c d n = true)) ∧ (rturned_c4 a b c d n = true)) ∧ (rturned_b8 a b c d n)) ∧ (rturned_c0 a b c d n = true)) ∧ (rturned_c5 a b c d n = true)) ∧ (rturned_b10 a b c d n)) ∧ (rturned_c0 a b c d n = true)) ∧ (rturned_c6 a b c d n = false))
theorem rturned_o6 (a b c d n : Int) : obOf (rturned_e6 a b c d n) = rturned_r6 a b c d n := by kernel_rfl
theorem rturned_v6 (a b c d n : Int) : resOf (rturned_e6 a b c d n) = rturned_w6 a b c d n := by kernel_rfl
theorem rturned_k6 (a b c d n : Int) : cleanOf Tryz.prog.globals.size (rturned_e6 a b c d n) = true := by kernel_rfl
theorem rturned_q6 (a b c d n : Int) : rturned_e6 a b c d n = evFS Tryz.prog x_rturned 1000 26 #[.agg #[.int .i64 a, .int .i64 b, .int .i64 c, .int .i64 d], .int .i64 n] (noTabs 7) ⟨[1, 1, 1, 1, 1, 1, 1, 1, 1, 1, 1, 0], True⟩ := by
  delta rturned_e6
  exact Eq.refl _
theorem rturned_p6 (a b c d n : Int) (h : rturned_r6 a b c d n) (w : World) : Calls Tryz.prog 26 #[.agg #[.int .i64 a, .int .i64 b, .int .i64 c, .int .i64 d], .int .i64 n] w fun en w' => en = .returned (rturned_w6 a b c d n) ∧ Below w.heap.size w w' := by
  have hv := rturned_v6 a b c d n
  have hc := rturned_k6 a b c d n
  have he := rturned_q6 a b c d n
  have ho := rturned_o6 a b c d n
  generalize rturned_e6 a b c d n = r at *
  exact calls_way he gfol rturned_X hv rfl (rturned_args a b c d n) hc ho h (bl w)
def rturned_w7 (a b c d n : Int) : Value := .agg #[.int .i64 (- (((b - (b - a)) - ((b - (b - a)) - (- (b - a)))) - (- ((b - (b - a)) - (- (b - a)))))), .int .i64 (((b - (b - a)) - ((b - (b - a)) - (- (b - a)))) - (((b - (b - a)) - ((b - (b - a)) - (- (b - a)))) - (- ((b - (b - a)) - (- (b - a)))))), .int .i64 (((c - d) - ((c - d) - (- d))) - (((c - d) - ((c - d) - (- d))) - (- ((c - d) - (- d))))), .int .i64 ((((c - d) - ((c - d) - (- d))) - (((c - d) - ((c - d) - (- d))) - (- ((c - d) - (- d))))) - (- (((c - d) - ((c - d) - (- d))) - (- ((c - d) - (- d))))))]
def rturned_r7 (a b c d n : Int) : Prop := ((((((((((((((((((((True ∧ (rturned_c0 a b c d n = true)) ∧ (rturned_c1 a b c d n = true)) ∧ (rturned_b2 a b c d n)) ∧ (rturned_c0 a b c d n = true)) ∧ (rturned_c2 a b c d n = true)) ∧ (rturned_b4 a b c d n)) ∧ (rturned_c0 a b c d n = true)) ∧ (rturned_c3 a b c d n = true)) ∧ (rturned_b6 a b c d n)) ∧ (rturned_c0 a b c d n = true)) ∧ (rturned_c4 a b c d n = true)) ∧ (rturned_b8 a b c d n)) ∧ (rturned_c0 a b c d n = true)) ∧ (rturned_c5 a b c d n = true)) ∧ (rturned_b10 a b c d n)) ∧ (rturned_c0 a b c d n = true)) ∧ (rturned_c6 a b c d n = true)) ∧ (rturned_b12 a b c d n)) ∧ (rturned_c0 a b c d n = true)) ∧ (rturned_c7 a b c d n = false))
theorem rturned_o7 (a b c d n : Int) : obOf (rturned_e7 a b c d n) = rturned_r7 a b c d n := by kernel_rfl
theorem rturned_v7 (a b c d n : Int) : resOf (rturned_e7 a b c d n) = rturned_w7 a b c d n := by kernel_rfl
theorem rturned_k7 (a b c d n : Int) : cleanOf Tryz.prog.globals.size (rturned_e7 a b c d n) = true := by kernel_rfl
theorem rturned_q7 (a b c d n : Int) : rturned_e7 a b c d n = evFS Tryz.prog x_rturned 1000 26 #[.agg #[.int .i64 a, .int .i64 b, .int .i64 c, .int .i64 d], .int .i64 n] (noTabs 7) ⟨[1, 1, 1, 1, 1, 1, 1, 1, 1, 1, 1, 1, 1, 0], True⟩ := by
  delta rturned_e7
  exact Eq.refl _
theorem rturned_p7 (a b c d n : Int) (h : rturned_r7 a b c d n) (w : World) : Calls Tryz.prog 26 #[.agg #[.int .i64 a, .int .i64 b, .int .i64 c, .int .i64 d], .int .i64 n] w fun en w' => en = .returned (rturned_w7 a b c d n) ∧ Below w.heap.size w w' := by
  have hv := rturned_v7 a b c d n
  have hc := rturned_k7 a b c d n
  have he := rturned_q7 a b c d n
  have ho := rturned_o7 a b c d n
  generalize rturned_e7 a b c d n = r at *
  exact calls_way he gfol rturned_X hv rfl (rturned_args a b c d n) hc ho h (bl w)
def rturned_w8 (a b c d n : Int) : Value := .agg #[.int .i64 (- ((((c - d) - ((c - d) - (- d))) - (((c - d) - ((c - d) - (- d))) - (- ((c - d) - (- d))))) - (- (((c - d) - ((c - d) - (- d))) - (- ((c - d) - (- d))))))), .int .i64 ((((c - d) - ((c - d) - (- d))) - (((c - d) - ((c - d) - (- d))) - (- ((c - d) - (- d))))) - ((((c - d) - ((c - d) - (- d))) - (((c - d) - ((c - d) - (- d))) - (- ((c - d) - (- d))))) - (- (((c - d) - ((c - d) - (- d))) - (- ((c - d) - (- d))))))), .int .i64 (((b - (b - a)) - ((b - (b - a)) - (- (b - a)))) - (((b - (b - a)) - ((b - (b - a)) - (- (b - a)))) - (- ((b - (b - a)) - (- (b - a)))))), .int .i64 ((((b - (b - a)) - ((b - (b - a)) - (- (b - a)))) - (((b - (b - a)) - ((b - (b - a)) - (- (b - a)))) - (- ((b - (b - a)) - (- (b - a)))))) - (- (((b - (b - a)) - ((b - (b - a)) - (- (b - a)))) - (- ((b - (b - a)) - (- (b - a)))))))]
def rturned_r8 (a b c d n : Int) : Prop := (((((((((((((((((((((((True ∧ (rturned_c0 a b c d n = true)) ∧ (rturned_c1 a b c d n = true)) ∧ (rturned_b2 a b c d n)) ∧ (rturned_c0 a b c d n = true)) ∧ (rturned_c2 a b c d n = true)) ∧ (rturned_b4 a b c d n)) ∧ (rturned_c0 a b c d n = true)) ∧ (rturned_c3 a b c d n = true)) ∧ (rturned_b6 a b c d n)) ∧ (rturned_c0 a b c d n = true)) ∧ (rturned_c4 a b c d n = true)) ∧ (rturned_b8 a b c d n)) ∧ (rturned_c0 a b c d n = true)) ∧ (rturned_c5 a b c d n = true)) ∧ (rturned_b10 a b c d n)) ∧ (rturned_c0 a b c d n = true)) ∧ (rturned_c6 a b c d n = true)) ∧ (rturned_b12 a b c d n)) ∧ (rturned_c0 a b c d n = true)) ∧ (rturned_c7 a b c d n = true)) ∧ (rturned_b14 a b c d n)) ∧ (rturned_c0 a b c d n = true)) ∧ (rturned_c8 a b c d n = false))
theorem rturned_o8 (a b c d n : Int) : obOf (rturned_e8 a b c d n) = rturned_r8 a b c d n := by kernel_rfl
theorem rturned_v8 (a b c d n : Int) : resOf (rturned_e8 a b c d n) = rturned_w8 a b c d n := by kernel_rfl
theorem rturned_k8 (a b c d n : Int) : cleanOf Tryz.prog.globals.size (rturned_e8 a b c d n) = true := by kernel_rfl
theorem rturned_q8 (a b c d n : Int) : rturned_e8 a b c d n = evFS Tryz.prog x_rturned 1000 26 #[.agg #[.int .i64 a, .int .i64 b, .int .i64 c, .int .i64 d], .int .i64 n] (noTabs 7) ⟨[1, 1, 1, 1, 1, 1, 1, 1, 1, 1, 1, 1, 1, 1, 1, 0], True⟩ := by
  delta rturned_e8
  exact Eq.refl _
theorem rturned_p8 (a b c d n : Int) (h : rturned_r8 a b c d n) (w : World) : Calls Tryz.prog 26 #[.agg #[.int .i64 a, .int .i64 b, .int .i64 c, .int .i64 d], .int .i64 n] w fun en w' => en = .returned (rturned_w8 a b c d n) ∧ Below w.heap.size w w' := by
  have hv := rturned_v8 a b c d n
  have hc := rturned_k8 a b c d n
  have he := rturned_q8 a b c d n
  have ho := rturned_o8 a b c d n
  generalize rturned_e8 a b c d n = r at *
  exact calls_way he gfol rturned_X hv rfl (rturned_args a b c d n) hc ho h (bl w)
def rturned_w9 (a b c d n : Int) : Value := .agg #[.int .i64 (- ((((b - (b - a)) - ((b - (b - a)) - (- (b - a)))) - (((b - (b - a)) - ((b - (b - a)) - (- (b - a)))) - (- ((b - (b - a)) - (- (b - a)))))) - (- (((b - (b - a)) - ((b - (b - a)) - (- (b - a)))) - (- ((b - (b - a)) - (- (b - a)))))))), .int .i64 ((((b - (b - a)) - ((b - (b - a)) - (- (b - a)))) - (((b - (b - a)) - ((b - (b - a)) - (- (b - a)))) - (- ((b - (b - a)) - (- (b - a)))))) - ((((b - (b - a)) - ((b - (b - a)) - (- (b - a)))) - (((b - (b - a)) - ((b - (b - a)) - (- (b - a)))) - (- ((b - (b - a)) - (- (b - a)))))) - (- (((b - (b - a)) - ((b - (b - a)) - (- (b - a)))) - (- ((b - (b - a)) - (- (b - a)))))))), .int .i64 ((((c - d) - ((c - d) - (- d))) - (((c - d) - ((c - d) - (- d))) - (- ((c - d) - (- d))))) - ((((c - d) - ((c - d) - (- d))) - (((c - d) - ((c - d) - (- d))) - (- ((c - d) - (- d))))) - (- (((c - d) - ((c - d) - (- d))) - (- ((c - d) - (- d))))))), .int .i64 (((((c - d) - ((c - d) - (- d))) - (((c - d) - ((c - d) - (- d))) - (- ((c - d) - (- d))))) - ((((c - d) - ((c - d) - (- d))) - (((c - d) - ((c - d) - (- d))) - (- ((c - d) - (- d))))) - (- (((c - d) - ((c - d) - (- d))) - (- ((c - d) - (- d))))))) - (- ((((c - d) - ((c - d) - (- d))) - (((c - d) - ((c - d) - (- d))) - (- ((c - d) - (- d))))) - (- (((c - d) - ((c - d) - (- d))) - (- ((c - d) - (- d))))))))]
def rturned_r9 (a b c d n : Int) : Prop := ((((((((((((((((((((((((((True ∧ (rturned_c0 a b c d n = true)) ∧ (rturned_c1 a b c d n = true)) ∧ (rturned_b2 a b c d n)) ∧ (rturned_c0 a b c d n = true)) ∧ (rturned_c2 a b c d n = true)) ∧ (rturned_b4 a b c d n)) ∧ (rturned_c0 a b c d n = true)) ∧ (rturned_c3 a b c d n = true)) ∧ (rturned_b6 a b c d n)) ∧ (rturned_c0 a b c d n = true)) ∧ (rturned_c4 a b c d n = true)) ∧ (rturned_b8 a b c d n)) ∧ (rturned_c0 a b c d n = true)) ∧ (rturned_c5 a b c d n = true)) ∧ (rturned_b10 a b c d n)) ∧ (rturned_c0 a b c d n = true)) ∧ (rturned_c6 a b c d n = true)) ∧ (rturned_b12 a b c d n)) ∧ (rturned_c0 a b c d n = true)) ∧ (rturned_c7 a b c d n = true)) ∧ (rturned_b14 a b c d n)) ∧ (rturned_c0 a b c d n = true)) ∧ (rturned_c8 a b c d n = true)) ∧ (rturned_b16 a b c d n)) ∧ (rturned_c0 a b c d n = true)) ∧ (rturned_c9 a b c d n = false))
theorem rturned_o9 (a b c d n : Int) : obOf (rturned_e9 a b c d n) = rturned_r9 a b c d n := by kernel_rfl
theorem rturned_v9 (a b c d n : Int) : resOf (rturned_e9 a b c d n) = rturned_w9 a b c d n := by kernel_rfl
theorem rturned_k9 (a b c d n : Int) : cleanOf Tryz.prog.globals.size (rturned_e9 a b c d n) = true := by kernel_rfl
theorem rturned_q9 (a b c d n : Int) : rturned_e9 a b c d n = evFS Tryz.prog x_rturned 1000 26 #[.agg #[.int .i64 a, .int .i64 b, .int .i64 c, .int .i64 d], .int .i64 n] (noTabs 7) ⟨[1, 1, 1, 1, 1, 1, 1, 1, 1, 1, 1, 1, 1, 1, 1, 1, 1, 0], True⟩ := by
  delta rturned_e9
  exact Eq.refl _
theorem rturned_p9 (a b c d n : Int) (h : rturned_r9 a b c d n) (w : World) : Calls Tryz.prog 26 #[.agg #[.int .i64 a, .int .i64 b, .int .i64 c, .int .i64 d], .int .i64 n] w fun en w' => en = .returned (rturned_w9 a b c d n) ∧ Below w.heap.size w w' := by
  have hv := rturned_v9 a b c d n
  have hc := rturned_k9 a b c d n
  have he := rturned_q9 a b c d n
  have ho := rturned_o9 a b c d n
  generalize rturned_e9 a b c d n = r at *
  exact calls_way he gfol rturned_X hv rfl (rturned_args a b c d n) hc ho h (bl w)
def rturned_w10 (a b c d n : Int) : Value := .agg #[.int .i64 (- (((((c - d) - ((c - d) - (- d))) - (((c - d) - ((c - d) - (- d))) - (- ((c - d) - (- d))))) - ((((c - d) - ((c - d) - (- d))) - (((c - d) - ((c - d) - (- d))) - (- ((c - d) - (- d))))) - (- (((c - d) - ((c - d) - (- d))) - (- ((c - d) - (- d))))))) - (- ((((c - d) - ((c - d) - (- d))) - (((c - d) - ((c - d) - (- d))) - (- ((c - d) - (- d))))) - (- (((c - d) - ((c - d) - (- d))) - (- ((c - d) - (- d))))))))), .int .i64 (((((c - d) - ((c - d) - (- d))) - (((c - d) - ((c - d) - (- d))) - (- ((c - d) - (- d))))) - ((((c - d) - ((c - d) - (- d))) - (((c - d) - ((c - d) - (- d))) - (- ((c - d) - (- d))))) - (- (((c - d) - ((c - d) - (- d))) - (- ((c - d) - (- d))))))) - (((((c - d) - ((c - d) - (- d))) - (((c - d) - ((c - d) - (- d))) - (- ((c - d) - (- d))))) - ((((c - d) - ((c - d) - (- d))) - (((c - d) - ((c - d) - (- d))) - (- ((c - d) - (- d))))) - (- (((c - d) - ((c - d) - (- d))) - (- ((c - d) - (- d))))))) - (- ((((c - d) - ((c - d) - (- d))) - (((c - d) - ((c - d) - (- d))) - (- ((c - d) - (- d))))) - (- (((c - d) - ((c - d) - (- d))) - (- ((c - d) - (- d))))))))), .int .i64 ((((b - (b - a)) - ((b - (b - a)) - (- (b - a)))) - (((b - (b - a)) - ((b - (b - a)) - (- (b - a)))) - (- ((b - (b - a)) - (- (b - a)))))) - ((((b - (b - a)) - ((b - (b - a)) - (- (b - a)))) - (((b - (b - a)) - ((b - (b - a)) - (- (b - a)))) - (- ((b - (b - a)) - (- (b - a)))))) - (- (((b - (b - a)) - ((b - (b - a)) - (- (b - a)))) - (- ((b - (b - a)) - (- (b - a)))))))), .int .i64 (((((b - (b - a)) - ((b - (b - a)) - (- (b - a)))) - (((b - (b - a)) - ((b - (b - a)) - (- (b - a)))) - (- ((b - (b - a)) - (- (b - a)))))) - ((((b - (b - a)) - ((b - (b - a)) - (- (b - a)))) - (((b - (b - a)) - ((b - (b - a)) - (- (b - a)))) - (- ((b - (b - a)) - (- (b - a)))))) - (- (((b - (b - a)) - ((b - (b - a)) - (- (b - a)))) - (- ((b - (b - a)) - (- (b - a)))))))) - (- ((((b - (b - a)) - ((b - (b - a)) - (- (b - a)))) - (((b - (b - a)) - ((b - (b - a)) - (- (b - a)))) - (- ((b - (b - a)) - (- (b - a)))))) - (- (((b - (b - a)) - ((b - (b - a)) - (- (b - a)))) - (- ((b - (b - a)) - (- (b - a)))))))))]
def rturned_r10 (a b c d n : Int) : Prop := (((((((((((((((((((((((((((((True ∧ (rturned_c0 a b c d n = true)) ∧ (rturned_c1 a b c d n = true)) ∧ (rturned_b2 a b c d n)) ∧ (rturned_c0 a b c d n = true)) ∧ (rturned_c2 a b c d n = true)) ∧ (rturned_b4 a b c d n)) ∧ (rturned_c0 a b c d n = true)) ∧ (rturned_c3 a b c d n = true)) ∧ (rturned_b6 a b c d n)) ∧ (rturned_c0 a b c d n = true)) ∧ (rturned_c4 a b c d n = true)) ∧ (rturned_b8 a b c d n)) ∧ (rturned_c0 a b c d n = true)) ∧ (rturned_c5 a b c d n = true)) ∧ (rturned_b10 a b c d n)) ∧ (rturned_c0 a b c d n = true)) ∧ (rturned_c6 a b c d n = true)) ∧ (rturned_b12 a b c d n)) ∧ (rturned_c0 a b c d n = true)) ∧ (rturned_c7 a b c d n = true)) ∧ (rturned_b14 a b c d n)) ∧ (rturned_c0 a b c d n = true)) ∧ (rturned_c8 a b c d n = true)) ∧ (rturned_b16 a b c d n)) ∧ (rturned_c0 a b c d n = true)) ∧ (rturned_c9 a b c d n = true)) ∧ (rturned_b18 a b c d n)) ∧ (rturned_c0 a b c d n = true)) ∧ (rturned_c10 a b c d n = false))
theorem rturned_o10 (a b c d n : Int) : obOf (rturned_e10 a b c d n) = rturned_r10 a b c d n := by kernel_rfl
theorem rturned_v10 (a b c d n : Int) : resOf (rturned_e10 a b c d n) = rturned_w10 a b c d n := by kernel_rfl
theorem rturned_k10 (a b c d n : Int) : cleanOf Tryz.prog.globals.size (rturned_e10 a b c d n) = true := by kernel_rfl
theorem rturned_q10 (a b c d n : Int) : rturned_e10 a b c d n = evFS Tryz.prog x_rturned 1000 26 #[.agg #[.int .i64 a, .int .i64 b, .int .i64 c, .int .i64 d], .int .i64 n] (noTabs 7) ⟨[1, 1, 1, 1, 1, 1, 1, 1, 1, 1, 1, 1, 1, 1, 1, 1, 1, 1, 1, 0], True⟩ := by
  delta rturned_e10
  exact Eq.refl _
theorem rturned_p10 (a b c d n : Int) (h : rturned_r10 a b c d n) (w : World) : Calls Tryz.prog 26 #[.agg #[.int .i64 a, .int .i64 b, .int .i64 c, .int .i64 d], .int .i64 n] w fun en w' => en = .returned (rturned_w10 a b c d n) ∧ Below w.heap.size w w' := by
  have hv := rturned_v10 a b c d n
  have hc := rturned_k10 a b c d n
  have he := rturned_q10 a b c d n
  have ho := rturned_o10 a b c d n
  generalize rturned_e10 a b c d n = r at *
  exact calls_way he gfol rturned_X hv rfl (rturned_args a b c d n) hc ho h (bl w)
def rturned_w11 (a b c d n : Int) : Value := .agg #[.int .i64 (- (((((b - (b - a)) - ((b - (b - a)) - (- (b - a)))) - (((b - (b - a)) - ((b - (b - a)) - (- (b - a)))) - (- ((b - (b - a)) - (- (b - a)))))) - ((((b - (b - a)) - ((b - (b - a)) - (- (b - a)))) - (((b - (b - a)) - ((b - (b - a)) - (- (b - a)))) - (- ((b - (b - a)) - (- (b - a)))))) - (- (((b - (b - a)) - ((b - (b - a)) - (- (b - a)))) - (- ((b - (b - a)) - (- (b - a)))))))) - (- ((((b - (b - a)) - ((b - (b - a)) - (- (b - a)))) - (((b - (b - a)) - ((b - (b - a)) - (- (b - a)))) - (- ((b - (b - a)) - (- (b - a)))))) - (- (((b - (b - a)) - ((b - (b - a)) - (- (b - a)))) - (- ((b - (b - a)) - (- (b - a)))))))))), .int .i64 (((((b - (b - a)) - ((b - (b - a)) - (- (b - a)))) - (((b - (b - a)) - ((b - (b - a)) - (- (b - a)))) - (- ((b - (b - a)) - (- (b - a)))))) - ((((b - (b - a)) - ((b - (b - a)) - (- (b - a)))) - (((b - (b - a)) - ((b - (b - a)) - (- (b - a)))) - (- ((b - (b - a)) - (- (b - a)))))) - (- (((b - (b - a)) - ((b - (b - a)) - (- (b - a)))) - (- ((b - (b - a)) - (- (b - a)))))))) - (((((b - (b - a)) - ((b - (b - a)) - (- (b - a)))) - (((b - (b - a)) - ((b - (b - a)) - (- (b - a)))) - (- ((b - (b - a)) - (- (b - a)))))) - ((((b - (b - a)) - ((b - (b - a)) - (- (b - a)))) - (((b - (b - a)) - ((b - (b - a)) - (- (b - a)))) - (- ((b - (b - a)) - (- (b - a)))))) - (- (((b - (b - a)) - ((b - (b - a)) - (- (b - a)))) - (- ((b - (b - a)) - (- (b - a)))))))) - (- ((((b - (b - a)) - ((b - (b - a)) - (- (b - a)))) - (((b - (b - a)) - ((b - (b - a)) - (- (b - a)))) - (- ((b - (b - a)) - (- (b - a)))))) - (- (((b - (b - a)) - ((b - (b - a)) - (- (b - a)))) - (- ((b - (b - a)) - (- (b - a)))))))))), .int .i64 (((((c - d) - ((c - d) - (- d))) - (((c - d) - ((c - d) - (- d))) - (- ((c - d) - (- d))))) - ((((c - d) - ((c - d) - (- d))) - (((c - d) - ((c - d) - (- d))) - (- ((c - d) - (- d))))) - (- (((c - d) - ((c - d) - (- d))) - (- ((c - d) - (- d))))))) - (((((c - d) - ((c - d) - (- d))) - (((c - d) - ((c - d) - (- d))) - (- ((c - d) - (- d))))) - ((((c - d) - ((c - d) - (- d))) - (((c - d) - ((c - d) - (- d))) - (- ((c - d) - (- d))))) - (- (((c - d) - ((c - d) - (- d))) - (- ((c - d) - (- d))))))) - (- ((((c - d) - ((c - d) - (- d))) - (((c - d) - ((c - d) - (- d))) - (- ((c - d) - (- d))))) - (- (((c - d) - ((c - d) - (- d))) - (- ((c - d) - (- d))))))))), .int .i64 ((((((c - d) - ((c - d) - (- d))) - (((c - d) - ((c - d) - (- d))) - (- ((c - d) - (- d))))) - ((((c - d) - ((c - d) - (- d))) - (((c - d) - ((c - d) - (- d))) - (- ((c - d) - (- d))))) - (- (((c - d) - ((c - d) - (- d))) - (- ((c - d) - (- d))))))) - (((((c - d) - ((c - d) - (- d))) - (((c - d) - ((c - d) - (- d))) - (- ((c - d) - (- d))))) - ((((c - d) - ((c - d) - (- d))) - (((c - d) - ((c - d) - (- d))) - (- ((c - d) - (- d))))) - (- (((c - d) - ((c - d) - (- d))) - (- ((c - d) - (- d))))))) - (- ((((c - d) - ((c - d) - (- d))) - (((c - d) - ((c - d) - (- d))) - (- ((c - d) - (- d))))) - (- (((c - d) - ((c - d) - (- d))) - (- ((c - d) - (- d))))))))) - (- (((((c - d) - ((c - d) - (- d))) - (((c - d) - ((c - d) - (- d))) - (- ((c - d) - (- d))))) - ((((c - d) - ((c - d) - (- d))) - (((c - d) - ((c - d) - (- d))) - (- ((c - d) - (- d))))) - (- (((c - d) - ((c - d) - (- d))) - (- ((c - d) - (- d))))))) - (- ((((c - d) - ((c - d) - (- d))) - (((c - d) - ((c - d) - (- d))) - (- ((c - d) - (- d))))) - (- (((c - d) - ((c - d) - (- d))) - (- ((c - d) - (- d))))))))))]
def rturned_r11 (a b c d n : Int) : Prop := ((((((((((((((((((((((((((((((((True ∧ (rturned_c0 a b c d n = true)) ∧ (rturned_c1 a b c d n = true)) ∧ (rturned_b2 a b c d n)) ∧ (rturned_c0 a b c d n = true)) ∧ (rturned_c2 a b c d n = true)) ∧ (rturned_b4 a b c d n)) ∧ (rturned_c0 a b c d n = true)) ∧ (rturned_c3 a b c d n = true)) ∧ (rturned_b6 a b c d n)) ∧ (rturned_c0 a b c d n = true)) ∧ (rturned_c4 a b c d n = true)) ∧ (rturned_b8 a b c d n)) ∧ (rturned_c0 a b c d n = true)) ∧ (rturned_c5 a b c d n = true)) ∧ (rturned_b10 a b c d n)) ∧ (rturned_c0 a b c d n = true)) ∧ (rturned_c6 a b c d n = true)) ∧ (rturned_b12 a b c d n)) ∧ (rturned_c0 a b c d n = true)) ∧ (rturned_c7 a b c d n = true)) ∧ (rturned_b14 a b c d n)) ∧ (rturned_c0 a b c d n = true)) ∧ (rturned_c8 a b c d n = true)) ∧ (rturned_b16 a b c d n)) ∧ (rturned_c0 a b c d n = true)) ∧ (rturned_c9 a b c d n = true)) ∧ (rturned_b18 a b c d n)) ∧ (rturned_c0 a b c d n = true)) ∧ (rturned_c10 a b c d n = true)) ∧ (rturned_b20 a b c d n)) ∧ (rturned_c0 a b c d n = true)) ∧ (rturned_c11 a b c d n = false))
theorem rturned_o11 (a b c d n : Int) : obOf (rturned_e11 a b c d n) = rturned_r11 a b c d n := by kernel_rfl
theorem rturned_v11 (a b c d n : Int) : resOf (rturned_e11 a b c d n) = rturned_w11 a b c d n := by kernel_rfl
theorem rturned_k11 (a b c d n : Int) : cleanOf Tryz.prog.globals.size (rturned_e11 a b c d n) = true := by kernel_rfl
theorem rturned_q11 (a b c d n : Int) : rturned_e11 a b c d n = evFS Tryz.prog x_rturned 1000 26 #[.agg #[.int .i64 a, .int .i64 b, .int .i64 c, .int .i64 d], .int .i64 n] (noTabs 7) ⟨[1, 1, 1, 1, 1, 1, 1, 1, 1, 1, 1, 1, 1, 1, 1, 1, 1, 1, 1, 1, 1, 0], True⟩ := by
  delta rturned_e11
  exact Eq.refl _
theorem rturned_p11 (a b c d n : Int) (h : rturned_r11 a b c d n) (w : World) : Calls Tryz.prog 26 #[.agg #[.int .i64 a, .int .i64 b, .int .i64 c, .int .i64 d], .int .i64 n] w fun en w' => en = .returned (rturned_w11 a b c d n) ∧ Below w.heap.size w w' := by
  have hv := rturned_v11 a b c d n
  have hc := rturned_k11 a b c d n
  have he := rturned_q11 a b c d n
  have ho := rturned_o11 a b c d n
  generalize rturned_e11 a b c d n = r at *
  exact calls_way he gfol rturned_X hv rfl (rturned_args a b c d n) hc ho h (bl w)
def rturned_w12 (a b c d n : Int) : Value := .agg #[.int .i64 (- d), .int .i64 (c - d), .int .i64 b, .int .i64 (b - a)]
def rturned_r12 (a b c d n : Int) : Prop := (((((True ∧ (rturned_c0 a b c d n = false)) ∧ (rturned_c13 a b c d n = true)) ∧ (rturned_b2 a b c d n)) ∧ (rturned_c0 a b c d n = false)) ∧ (rturned_c14 a b c d n = false))
theorem rturned_o12 (a b c d n : Int) : obOf (rturned_e12 a b c d n) = rturned_r12 a b c d n := by kernel_rfl
theorem rturned_v12 (a b c d n : Int) : resOf (rturned_e12 a b c d n) = rturned_w12 a b c d n := by kernel_rfl
theorem rturned_k12 (a b c d n : Int) : cleanOf Tryz.prog.globals.size (rturned_e12 a b c d n) = true := by kernel_rfl
theorem rturned_q12 (a b c d n : Int) : rturned_e12 a b c d n = evFS Tryz.prog x_rturned 1000 26 #[.agg #[.int .i64 a, .int .i64 b, .int .i64 c, .int .i64 d], .int .i64 n] (noTabs 7) ⟨[0, 1, 0, 0], True⟩ := by
  delta rturned_e12
  exact Eq.refl _
theorem rturned_p12 (a b c d n : Int) (h : rturned_r12 a b c d n) (w : World) : Calls Tryz.prog 26 #[.agg #[.int .i64 a, .int .i64 b, .int .i64 c, .int .i64 d], .int .i64 n] w fun en w' => en = .returned (rturned_w12 a b c d n) ∧ Below w.heap.size w w' := by
  have hv := rturned_v12 a b c d n
  have hc := rturned_k12 a b c d n
  have he := rturned_q12 a b c d n
  have ho := rturned_o12 a b c d n
  generalize rturned_e12 a b c d n = r at *
  exact calls_way he gfol rturned_X hv rfl (rturned_args a b c d n) hc ho h (bl w)
def rturned_w13 (a b c d n : Int) : Value := .agg #[.int .i64 (- (b - a)), .int .i64 (b - (b - a)), .int .i64 (c - d), .int .i64 ((c - d) - (- d))]
def rturned_r13 (a b c d n : Int) : Prop := ((((((((True ∧ (rturned_c0 a b c d n = false)) ∧ (rturned_c13 a b c d n = true)) ∧ (rturned_b2 a b c d n)) ∧ (rturned_c0 a b c d n = false)) ∧ (rturned_c14 a b c d n = true)) ∧ (rturned_b4 a b c d n)) ∧ (rturned_c0 a b c d n = false)) ∧ (rturned_c15 a b c d n = false))
theorem rturned_o13 (a b c d n : Int) : obOf (rturned_e13 a b c d n) = rturned_r13 a b c d n := by kernel_rfl
theorem rturned_v13 (a b c d n : Int) : resOf (rturned_e13 a b c d n) = rturned_w13 a b c d n := by kernel_rfl
theorem rturned_k13 (a b c d n : Int) : cleanOf Tryz.prog.globals.size (rturned_e13 a b c d n) = true := by kernel_rfl
theorem rturned_q13 (a b c d n : Int) : rturned_e13 a b c d n = evFS Tryz.prog x_rturned 1000 26 #[.agg #[.int .i64 a, .int .i64 b, .int .i64 c, .int .i64 d], .int .i64 n] (noTabs 7) ⟨[0, 1, 0, 1, 0, 0], True⟩ := by
  delta rturned_e13
  exact Eq.refl _
theorem rturned_p13 (a b c d n : Int) (h : rturned_r13 a b c d n) (w : World) : Calls Tryz.prog 26 #[.agg #[.int .i64 a, .int .i64 b, .int .i64 c, .int .i64 d], .int .i64 n] w fun en w' => en = .returned (rturned_w13 a b c d n) ∧ Below w.heap.size w w' := by
  have hv := rturned_v13 a b c d n
  have hc := rturned_k13 a b c d n
  have he := rturned_q13 a b c d n
  have ho := rturned_o13 a b c d n
  generalize rturned_e13 a b c d n = r at *
  exact calls_way he gfol rturned_X hv rfl (rturned_args a b c d n) hc ho h (bl w)
def rturned_w14 (a b c d n : Int) : Value := .agg #[.int .i64 (- ((c - d) - (- d))), .int .i64 ((c - d) - ((c - d) - (- d))), .int .i64 (b - (b - a)), .int .i64 ((b - (b - a)) - (- (b - a)))]
def rturned_r14 (a b c d n : Int) : Prop := (((((((((((True ∧ (rturned_c0 a b c d n = false)) ∧ (rturned_c13 a b c d n = true)) ∧ (rturned_b2 a b c d n)) ∧ (rturned_c0 a b c d n = false)) ∧ (rturned_c14 a b c d n = true)) ∧ (rturned_b4 a b c d n)) ∧ (rturned_c0 a b c d n = false)) ∧ (rturned_c15 a b c d n = true)) ∧ (rturned_b6 a b c d n)) ∧ (rturned_c0 a b c d n = false)) ∧ (rturned_c16 a b c d n = false))
theorem rturned_o14 (a b c d n : Int) : obOf (rturned_e14 a b c d n) = rturned_r14 a b c d n := by kernel_rfl
theorem rturned_v14 (a b c d n : Int) : resOf (rturned_e14 a b c d n) = rturned_w14 a b c d n := by kernel_rfl
theorem rturned_k14 (a b c d n : Int) : cleanOf Tryz.prog.globals.size (rturned_e14 a b c d n) = true := by kernel_rfl
theorem rturned_q14 (a b c d n : Int) : rturned_e14 a b c d n = evFS Tryz.prog x_rturned 1000 26 #[.agg #[.int .i64 a, .int .i64 b, .int .i64 c, .int .i64 d], .int .i64 n] (noTabs 7) ⟨[0, 1, 0, 1, 0, 1, 0, 0], True⟩ := by
  delta rturned_e14
  exact Eq.refl _
theorem rturned_p14 (a b c d n : Int) (h : rturned_r14 a b c d n) (w : World) : Calls Tryz.prog 26 #[.agg #[.int .i64 a, .int .i64 b, .int .i64 c, .int .i64 d], .int .i64 n] w fun en w' => en = .returned (rturned_w14 a b c d n) ∧ Below w.heap.size w w' := by
  have hv := rturned_v14 a b c d n
  have hc := rturned_k14 a b c d n
  have he := rturned_q14 a b c d n
  have ho := rturned_o14 a b c d n
  generalize rturned_e14 a b c d n = r at *
  exact calls_way he gfol rturned_X hv rfl (rturned_args a b c d n) hc ho h (bl w)
def rturned_w15 (a b c d n : Int) : Value := .agg #[.int .i64 (- ((b - (b - a)) - (- (b - a)))), .int .i64 ((b - (b - a)) - ((b - (b - a)) - (- (b - a)))), .int .i64 ((c - d) - ((c - d) - (- d))), .int .i64 (((c - d) - ((c - d) - (- d))) - (- ((c - d) - (- d))))]
def rturned_r15 (a b c d n : Int) : Prop := ((((((((((((((True ∧ (rturned_c0 a b c d n = false)) ∧ (rturned_c13 a b c d n = true)) ∧ (rturned_b2 a b c d n)) ∧ (rturned_c0 a b c d n = false)) ∧ (rturned_c14 a b c d n = true)) ∧ (rturned_b4 a b c d n)) ∧ (rturned_c0 a b c d n = false)) ∧ (rturned_c15 a b c d n = true)) ∧ (rturned_b6 a b c d n)) ∧ (rturned_c0 a b c d n = false)) ∧ (rturned_c16 a b c d n = true)) ∧ (rturned_b8 a b c d n)) ∧ (rturned_c0 a b c d n = false)) ∧ (rturned_c17 a b c d n = false))
theorem rturned_o15 (a b c d n : Int) : obOf (rturned_e15 a b c d n) = rturned_r15 a b c d n := by kernel_rfl
theorem rturned_v15 (a b c d n : Int) : resOf (rturned_e15 a b c d n) = rturned_w15 a b c d n := by kernel_rfl
theorem rturned_k15 (a b c d n : Int) : cleanOf Tryz.prog.globals.size (rturned_e15 a b c d n) = true := by kernel_rfl
theorem rturned_q15 (a b c d n : Int) : rturned_e15 a b c d n = evFS Tryz.prog x_rturned 1000 26 #[.agg #[.int .i64 a, .int .i64 b, .int .i64 c, .int .i64 d], .int .i64 n] (noTabs 7) ⟨[0, 1, 0, 1, 0, 1, 0, 1, 0, 0], True⟩ := by
  delta rturned_e15
  exact Eq.refl _
theorem rturned_p15 (a b c d n : Int) (h : rturned_r15 a b c d n) (w : World) : Calls Tryz.prog 26 #[.agg #[.int .i64 a, .int .i64 b, .int .i64 c, .int .i64 d], .int .i64 n] w fun en w' => en = .returned (rturned_w15 a b c d n) ∧ Below w.heap.size w w' := by
  have hv := rturned_v15 a b c d n
  have hc := rturned_k15 a b c d n
  have he := rturned_q15 a b c d n
  have ho := rturned_o15 a b c d n
  generalize rturned_e15 a b c d n = r at *
  exact calls_way he gfol rturned_X hv rfl (rturned_args a b c d n) hc ho h (bl w)
def rturned_w16 (a b c d n : Int) : Value := .agg #[.int .i64 (- (((c - d) - ((c - d) - (- d))) - (- ((c - d) - (- d))))), .int .i64 (((c - d) - ((c - d) - (- d))) - (((c - d) - ((c - d) - (- d))) - (- ((c - d) - (- d))))), .int .i64 ((b - (b - a)) - ((b - (b - a)) - (- (b - a)))), .int .i64 (((b - (b - a)) - ((b - (b - a)) - (- (b - a)))) - (- ((b - (b - a)) - (- (b - a)))))]
def rturned_r16 (a b c d n : Int) : Prop := (((((((((((((((((True ∧ (rturned_c0 a b c d n = false)) ∧ (rturned_c13 a b c d n = true)) ∧ (rturned_b2 a b c d n)) ∧ (rturned_c0 a b c d n = false)) ∧ (rturned_c14 a b c d n = true)) ∧ (rturned_b4 a b c d n)) ∧ (rturned_c0 a b c d n = false)) ∧ (rturned_c15 a b c d n = true)) ∧ (rturned_b6 a b c d n)) ∧ (rturned_c0 a b c d n = false)) ∧ (rturned_c16 a b c d n = true)) ∧ (rturned_b8 a b c d n)) ∧ (rturned_c0 a b c d n = false)) ∧ (rturned_c17 a b c d n = true)) ∧ (rturned_b10 a b c d n)) ∧ (rturned_c0 a b c d n = false)) ∧ (rturned_c18 a b c d n = false))
theorem rturned_o16 (a b c d n : Int) : obOf (rturned_e16 a b c d n) = rturned_r16 a b c d n := by kernel_rfl
theorem rturned_v16 (a b c d n : Int) : resOf (rturned_e16 a b c d n) = rturned_w16 a b c d n := by kernel_rfl
theorem rturned_k16 (a b c d n : Int) : cleanOf Tryz.prog.globals.size (rturned_e16 a b c d n) = true := by kernel_rfl
theorem rturned_q16 (a b c d n : Int) : rturned_e16 a b c d n = evFS Tryz.prog x_rturned 1000 26 #[.agg #[.int .i64 a, .int .i64 b, .int .i64 c, .int .i64 d], .int .i64 n] (noTabs 7) ⟨[0, 1, 0, 1, 0, 1, 0, 1, 0, 1, 0, 0], True⟩ := by
  delta rturned_e16
  exact Eq.refl _
theorem rturned_p16 (a b c d n : Int) (h : rturned_r16 a b c d n) (w : World) : Calls Tryz.prog 26 #[.agg #[.int .i64 a, .int .i64 b, .int .i64 c, .int .i64 d], .int .i64 n] w fun en w' => en = .returned (rturned_w16 a b c d n) ∧ Below w.heap.size w w' := by
  have hv := rturned_v16 a b c d n
  have hc := rturned_k16 a b c d n
  have he := rturned_q16 a b c d n
  have ho := rturned_o16 a b c d n
  generalize rturned_e16 a b c d n = r at *
  exact calls_way he gfol rturned_X hv rfl (rturned_args a b c d n) hc ho h (bl w)
def rturned_w17 (a b c d n : Int) : Value := .agg #[.int .i64 (- (((b - (b - a)) - ((b - (b - a)) - (- (b - a)))) - (- ((b - (b - a)) - (- (b - a)))))), .int .i64 (((b - (b - a)) - ((b - (b - a)) - (- (b - a)))) - (((b - (b - a)) - ((b - (b - a)) - (- (b - a)))) - (- ((b - (b - a)) - (- (b - a)))))), .int .i64 (((c - d) - ((c - d) - (- d))) - (((c - d) - ((c - d) - (- d))) - (- ((c - d) - (- d))))), .int .i64 ((((c - d) - ((c - d) - (- d))) - (((c - d) - ((c - d) - (- d))) - (- ((c - d) - (- d))))) - (- (((c - d) - ((c - d) - (- d))) - (- ((c - d) - (- d))))))]
def rturned_r17 (a b c d n : Int) : Prop := ((((((((((((((((((((True ∧ (rturned_c0 a b c d n = false)) ∧ (rturned_c13 a b c d n = true)) ∧ (rturned_b2 a b c d n)) ∧ (rturned_c0 a b c d n = false)) ∧ (rturned_c14 a b c d n = true)) ∧ (rturned_b4 a b c d n)) ∧ (rturned_c0 a b c d n = false)) ∧ (rturned_c15 a b c d n = true)) ∧ (rturned_b6 a b c d n)) ∧ (rturned_c0 a b c d n = false)) ∧ (rturned_c16 a b c d n = true)) ∧ (rturned_b8 a b c d n)) ∧ (rturned_c0 a b c d n = false)) ∧ (rturned_c17 a b c d n = true)) ∧ (rturned_b10 a b c d n)) ∧ (rturned_c0 a b c d n = false)) ∧ (rturned_c18 a b c d n = true)) ∧ (rturned_b12 a b c d n)) ∧ (rturned_c0 a b c d n = false)) ∧ (rturned_c19 a b c d n = false))
theorem rturned_o17 (a b c d n : Int) : obOf (rturned_e17 a b c d n) = rturned_r17 a b c d n := by kernel_rfl
theorem rturned_v17 (a b c d n : Int) : resOf (rturned_e17 a b c d n) = rturned_w17 a b c d n := by kernel_rfl
theorem rturned_k17 (a b c d n : Int) : cleanOf Tryz.prog.globals.size (rturned_e17 a b c d n) = true := by kernel_rfl
theorem rturned_q17 (a b c d n : Int) : rturned_e17 a b c d n = evFS Tryz.prog x_rturned 1000 26 #[.agg #[.int .i64 a, .int .i64 b, .int .i64 c, .int .i64 d], .int .i64 n] (noTabs 7) ⟨[0, 1, 0, 1, 0, 1, 0, 1, 0, 1, 0, 1, 0, 0], True⟩ := by
  delta rturned_e17
  exact Eq.refl _
theorem rturned_p17 (a b c d n : Int) (h : rturned_r17 a b c d n) (w : World) : Calls Tryz.prog 26 #[.agg #[.int .i64 a, .int .i64 b, .int .i64 c, .int .i64 d], .int .i64 n] w fun en w' => en = .returned (rturned_w17 a b c d n) ∧ Below w.heap.size w w' := by
  have hv := rturned_v17 a b c d n
  have hc := rturned_k17 a b c d n
  have he := rturned_q17 a b c d n
  have ho := rturned_o17 a b c d n
  generalize rturned_e17 a b c d n = r at *
  exact calls_way he gfol rturned_X hv rfl (rturned_args a b c d n) hc ho h (bl w)
def rturned_w18 (a b c d n : Int) : Value := .agg #[.int .i64 (- ((((c - d) - ((c - d) - (- d))) - (((c - d) - ((c - d) - (- d))) - (- ((c - d) - (- d))))) - (- (((c - d) - ((c - d) - (- d))) - (- ((c - d) - (- d))))))), .int .i64 ((((c - d) - ((c - d) - (- d))) - (((c - d) - ((c - d) - (- d))) - (- ((c - d) - (- d))))) - ((((c - d) - ((c - d) - (- d))) - (((c - d) - ((c - d) - (- d))) - (- ((c - d) - (- d))))) - (- (((c - d) - ((c - d) - (- d))) - (- ((c - d) - (- d))))))), .int .i64 (((b - (b - a)) - ((b - (b - a)) - (- (b - a)))) - (((b - (b - a)) - ((b - (b - a)) - (- (b - a)))) - (- ((b - (b - a)) - (- (b - a)))))), .int .i64 ((((b - (b - a)) - ((b - (b - a)) - (- (b - a)))) - (((b - (b - a)) - ((b - (b - a)) - (- (b - a)))) - (- ((b - (b - a)) - (- (b - a)))))) - (- (((b - (b - a)) - ((b - (b - a)) - (- (b - a)))) - (- ((b - (b - a)) - (- (b - a)))))))]
def rturned_r18 (a b c d n : Int) : Prop := (((((((((((((((((((((((True ∧ (rturned_c0 a b c d n = false)) ∧ (rturned_c13 a b c d n = true)) ∧ (rturned_b2 a b c d n)) ∧ (rturned_c0 a b c d n = false)) ∧ (rturned_c14 a b c d n = true)) ∧ (rturned_b4 a b c d n)) ∧ (rturned_c0 a b c d n = false)) ∧ (rturned_c15 a b c d n = true)) ∧ (rturned_b6 a b c d n)) ∧ (rturned_c0 a b c d n = false)) ∧ (rturned_c16 a b c d n = true)) ∧ (rturned_b8 a b c d n)) ∧ (rturned_c0 a b c d n = false)) ∧ (rturned_c17 a b c d n = true)) ∧ (rturned_b10 a b c d n)) ∧ (rturned_c0 a b c d n = false)) ∧ (rturned_c18 a b c d n = true)) ∧ (rturned_b12 a b c d n)) ∧ (rturned_c0 a b c d n = false)) ∧ (rturned_c19 a b c d n = true)) ∧ (rturned_b14 a b c d n)) ∧ (rturned_c0 a b c d n = false)) ∧ (rturned_c20 a b c d n = false))
theorem rturned_o18 (a b c d n : Int) : obOf (rturned_e18 a b c d n) = rturned_r18 a b c d n := by kernel_rfl
theorem rturned_v18 (a b c d n : Int) : resOf (rturned_e18 a b c d n) = rturned_w18 a b c d n := by kernel_rfl
theorem rturned_k18 (a b c d n : Int) : cleanOf Tryz.prog.globals.size (rturned_e18 a b c d n) = true := by kernel_rfl
theorem rturned_q18 (a b c d n : Int) : rturned_e18 a b c d n = evFS Tryz.prog x_rturned 1000 26 #[.agg #[.int .i64 a, .int .i64 b, .int .i64 c, .int .i64 d], .int .i64 n] (noTabs 7) ⟨[0, 1, 0, 1, 0, 1, 0, 1, 0, 1, 0, 1, 0, 1, 0, 0], True⟩ := by
  delta rturned_e18
  exact Eq.refl _
theorem rturned_p18 (a b c d n : Int) (h : rturned_r18 a b c d n) (w : World) : Calls Tryz.prog 26 #[.agg #[.int .i64 a, .int .i64 b, .int .i64 c, .int .i64 d], .int .i64 n] w fun en w' => en = .returned (rturned_w18 a b c d n) ∧ Below w.heap.size w w' := by
  have hv := rturned_v18 a b c d n
  have hc := rturned_k18 a b c d n
  have he := rturned_q18 a b c d n
  have ho := rturned_o18 a b c d n
  generalize rturned_e18 a b c d n = r at *
  exact calls_way he gfol rturned_X hv rfl (rturned_args a b c d n) hc ho h (bl w)
def rturned_w19 (a b c d n : Int) : Value := .agg #[.int .i64 (- ((((b - (b - a)) - ((b - (b - a)) - (- (b - a)))) - (((b - (b - a)) - ((b - (b - a)) - (- (b - a)))) - (- ((b - (b - a)) - (- (b - a)))))) - (- (((b - (b - a)) - ((b - (b - a)) - (- (b - a)))) - (- ((b - (b - a)) - (- (b - a)))))))), .int .i64 ((((b - (b - a)) - ((b - (b - a)) - (- (b - a)))) - (((b - (b - a)) - ((b - (b - a)) - (- (b - a)))) - (- ((b - (b - a)) - (- (b - a)))))) - ((((b - (b - a)) - ((b - (b - a)) - (- (b - a)))) - (((b - (b - a)) - ((b - (b - a)) - (- (b - a)))) - (- ((b - (b - a)) - (- (b - a)))))) - (- (((b - (b - a)) - ((b - (b - a)) - (- (b - a)))) - (- ((b - (b - a)) - (- (b - a)))))))), .int .i64 ((((c - d) - ((c - d) - (- d))) - (((c - d) - ((c - d) - (- d))) - (- ((c - d) - (- d))))) - ((((c - d) - ((c - d) - (- d))) - (((c - d) - ((c - d) - (- d))) - (- ((c - d) - (- d))))) - (- (((c - d) - ((c - d) - (- d))) - (- ((c - d) - (- d))))))), .int .i64 (((((c - d) - ((c - d) - (- d))) - (((c - d) - ((c - d) - (- d))) - (- ((c - d) - (- d))))) - ((((c - d) - ((c - d) - (- d))) - (((c - d) - ((c - d) - (- d))) - (- ((c - d) - (- d))))) - (- (((c - d) - ((c - d) - (- d))) - (- ((c - d) - (- d))))))) - (- ((((c - d) - ((c - d) - (- d))) - (((c - d) - ((c - d) - (- d))) - (- ((c - d) - (- d))))) - (- (((c - d) - ((c - d) - (- d))) - (- ((c - d) - (- d))))))))]
def rturned_r19 (a b c d n : Int) : Prop := ((((((((((((((((((((((((((True ∧ (rturned_c0 a b c d n = false)) ∧ (rturned_c13 a b c d n = true)) ∧ (rturned_b2 a b c d n)) ∧ (rturned_c0 a b c d n = false)) ∧ (rturned_c14 a b c d n = true)) ∧ (rturned_b4 a b c d n)) ∧ (rturned_c0 a b c d n = false)) ∧ (rturned_c15 a b c d n = true)) ∧ (rturned_b6 a b c d n)) ∧ (rturned_c0 a b c d n = false)) ∧ (rturned_c16 a b c d n = true)) ∧ (rturned_b8 a b c d n)) ∧ (rturned_c0 a b c d n = false)) ∧ (rturned_c17 a b c d n = true)) ∧ (rturned_b10 a b c d n)) ∧ (rturned_c0 a b c d n = false)) ∧ (rturned_c18 a b c d n = true)) ∧ (rturned_b12 a b c d n)) ∧ (rturned_c0 a b c d n = false)) ∧ (rturned_c19 a b c d n = true)) ∧ (rturned_b14 a b c d n)) ∧ (rturned_c0 a b c d n = false)) ∧ (rturned_c20 a b c d n = true)) ∧ (rturned_b16 a b c d n)) ∧ (rturned_c0 a b c d n = false)) ∧ (rturned_c21 a b c d n = false))
theorem rturned_o19 (a b c d n : Int) : obOf (rturned_e19 a b c d n) = rturned_r19 a b c d n := by kernel_rfl
theorem rturned_v19 (a b c d n : Int) : resOf (rturned_e19 a b c d n) = rturned_w19 a b c d n := by kernel_rfl
theorem rturned_k19 (a b c d n : Int) : cleanOf Tryz.prog.globals.size (rturned_e19 a b c d n) = true := by kernel_rfl
theorem rturned_q19 (a b c d n : Int) : rturned_e19 a b c d n = evFS Tryz.prog x_rturned 1000 26 #[.agg #[.int .i64 a, .int .i64 b, .int .i64 c, .int .i64 d], .int .i64 n] (noTabs 7) ⟨[0, 1, 0, 1, 0, 1, 0, 1, 0, 1, 0, 1, 0, 1, 0, 1, 0, 0], True⟩ := by
  delta rturned_e19
  exact Eq.refl _
theorem rturned_p19 (a b c d n : Int) (h : rturned_r19 a b c d n) (w : World) : Calls Tryz.prog 26 #[.agg #[.int .i64 a, .int .i64 b, .int .i64 c, .int .i64 d], .int .i64 n] w fun en w' => en = .returned (rturned_w19 a b c d n) ∧ Below w.heap.size w w' := by
  have hv := rturned_v19 a b c d n
  have hc := rturned_k19 a b c d n
  have he := rturned_q19 a b c d n
  have ho := rturned_o19 a b c d n
  generalize rturned_e19 a b c d n = r at *
  exact calls_way he gfol rturned_X hv rfl (rturned_args a b c d n) hc ho h (bl w)
def rturned_w20 (a b c d n : Int) : Value := .agg #[.int .i64 (- (((((c - d) - ((c - d) - (- d))) - (((c - d) - ((c - d) - (- d))) - (- ((c - d) - (- d))))) - ((((c - d) - ((c - d) - (- d))) - (((c - d) - ((c - d) - (- d))) - (- ((c - d) - (- d))))) - (- (((c - d) - ((c - d) - (- d))) - (- ((c - d) - (- d))))))) - (- ((((c - d) - ((c - d) - (- d))) - (((c - d) - ((c - d) - (- d))) - (- ((c - d) - (- d))))) - (- (((c - d) - ((c - d) - (- d))) - (- ((c - d) - (- d))))))))), .int .i64 (((((c - d) - ((c - d) - (- d))) - (((c - d) - ((c - d) - (- d))) - (- ((c - d) - (- d))))) - ((((c - d) - ((c - d) - (- d))) - (((c - d) - ((c - d) - (- d))) - (- ((c - d) - (- d))))) - (- (((c - d) - ((c - d) - (- d))) - (- ((c - d) - (- d))))))) - (((((c - d) - ((c - d) - (- d))) - (((c - d) - ((c - d) - (- d))) - (- ((c - d) - (- d))))) - ((((c - d) - ((c - d) - (- d))) - (((c - d) - ((c - d) - (- d))) - (- ((c - d) - (- d))))) - (- (((c - d) - ((c - d) - (- d))) - (- ((c - d) - (- d))))))) - (- ((((c - d) - ((c - d) - (- d))) - (((c - d) - ((c - d) - (- d))) - (- ((c - d) - (- d))))) - (- (((c - d) - ((c - d) - (- d))) - (- ((c - d) - (- d))))))))), .int .i64 ((((b - (b - a)) - ((b - (b - a)) - (- (b - a)))) - (((b - (b - a)) - ((b - (b - a)) - (- (b - a)))) - (- ((b - (b - a)) - (- (b - a)))))) - ((((b - (b - a)) - ((b - (b - a)) - (- (b - a)))) - (((b - (b - a)) - ((b - (b - a)) - (- (b - a)))) - (- ((b - (b - a)) - (- (b - a)))))) - (- (((b - (b - a)) - ((b - (b - a)) - (- (b - a)))) - (- ((b - (b - a)) - (- (b - a)))))))), .int .i64 (((((b - (b - a)) - ((b - (b - a)) - (- (b - a)))) - (((b - (b - a)) - ((b - (b - a)) - (- (b - a)))) - (- ((b - (b - a)) - (- (b - a)))))) - ((((b - (b - a)) - ((b - (b - a)) - (- (b - a)))) - (((b - (b - a)) - ((b - (b - a)) - (- (b - a)))) - (- ((b - (b - a)) - (- (b - a)))))) - (- (((b - (b - a)) - ((b - (b - a)) - (- (b - a)))) - (- ((b - (b - a)) - (- (b - a)))))))) - (- ((((b - (b - a)) - ((b - (b - a)) - (- (b - a)))) - (((b - (b - a)) - ((b - (b - a)) - (- (b - a)))) - (- ((b - (b - a)) - (- (b - a)))))) - (- (((b - (b - a)) - ((b - (b - a)) - (- (b - a)))) - (- ((b - (b - a)) - (- (b - a)))))))))]
def rturned_r20 (a b c d n : Int) : Prop := (((((((((((((((((((((((((((((True ∧ (rturned_c0 a b c d n = false)) ∧ (rturned_c13 a b c d n = true)) ∧ (rturned_b2 a b c d n)) ∧ (rturned_c0 a b c d n = false)) ∧ (rturned_c14 a b c d n = true)) ∧ (rturned_b4 a b c d n)) ∧ (rturned_c0 a b c d n = false)) ∧ (rturned_c15 a b c d n = true)) ∧ (rturned_b6 a b c d n)) ∧ (rturned_c0 a b c d n = false)) ∧ (rturned_c16 a b c d n = true)) ∧ (rturned_b8 a b c d n)) ∧ (rturned_c0 a b c d n = false)) ∧ (rturned_c17 a b c d n = true)) ∧ (rturned_b10 a b c d n)) ∧ (rturned_c0 a b c d n = false)) ∧ (rturned_c18 a b c d n = true)) ∧ (rturned_b12 a b c d n)) ∧ (rturned_c0 a b c d n = false)) ∧ (rturned_c19 a b c d n = true)) ∧ (rturned_b14 a b c d n)) ∧ (rturned_c0 a b c d n = false)) ∧ (rturned_c20 a b c d n = true)) ∧ (rturned_b16 a b c d n)) ∧ (rturned_c0 a b c d n = false)) ∧ (rturned_c21 a b c d n = true)) ∧ (rturned_b18 a b c d n)) ∧ (rturned_c0 a b c d n = false)) ∧ (rturned_c22 a b c d n = false))
theorem rturned_o20 (a b c d n : Int) : obOf (rturned_e20 a b c d n) = rturned_r20 a b c d n := by kernel_rfl
theorem rturned_v20 (a b c d n : Int) : resOf (rturned_e20 a b c d n) = rturned_w20 a b c d n := by kernel_rfl
theorem rturned_k20 (a b c d n : Int) : cleanOf Tryz.prog.globals.size (rturned_e20 a b c d n) = true := by kernel_rfl
theorem rturned_q20 (a b c d n : Int) : rturned_e20 a b c d n = evFS Tryz.prog x_rturned 1000 26 #[.agg #[.int .i64 a, .int .i64 b, .int .i64 c, .int .i64 d], .int .i64 n] (noTabs 7) ⟨[0, 1, 0, 1, 0, 1, 0, 1, 0, 1, 0, 1, 0, 1, 0, 1, 0, 1, 0, 0], True⟩ := by
  delta rturned_e20
  exact Eq.refl _
theorem rturned_p20 (a b c d n : Int) (h : rturned_r20 a b c d n) (w : World) : Calls Tryz.prog 26 #[.agg #[.int .i64 a, .int .i64 b, .int .i64 c, .int .i64 d], .int .i64 n] w fun en w' => en = .returned (rturned_w20 a b c d n) ∧ Below w.heap.size w w' := by
  have hv := rturned_v20 a b c d n
  have hc := rturned_k20 a b c d n
  have he := rturned_q20 a b c d n
  have ho := rturned_o20 a b c d n
  generalize rturned_e20 a b c d n = r at *
  exact calls_way he gfol rturned_X hv rfl (rturned_args a b c d n) hc ho h (bl w)
def rturned_w21 (a b c d n : Int) : Value := .agg #[.int .i64 (- (((((b - (b - a)) - ((b - (b - a)) - (- (b - a)))) - (((b - (b - a)) - ((b - (b - a)) - (- (b - a)))) - (- ((b - (b - a)) - (- (b - a)))))) - ((((b - (b - a)) - ((b - (b - a)) - (- (b - a)))) - (((b - (b - a)) - ((b - (b - a)) - (- (b - a)))) - (- ((b - (b - a)) - (- (b - a)))))) - (- (((b - (b - a)) - ((b - (b - a)) - (- (b - a)))) - (- ((b - (b - a)) - (- (b - a)))))))) - (- ((((b - (b - a)) - ((b - (b - a)) - (- (b - a)))) - (((b - (b - a)) - ((b - (b - a)) - (- (b - a)))) - (- ((b - (b - a)) - (- (b - a)))))) - (- (((b - (b - a)) - ((b - (b - a)) - (- (b - a)))) - (- ((b - (b - a)) - (- (b - a)))))))))), .int .i64 (((((b - (b - a)) - ((b - (b - a)) - (- (b - a)))) - (((b - (b - a)) - ((b - (b - a)) - (- (b - a)))) - (- ((b - (b - a)) - (- (b - a)))))) - ((((b - (b - a)) - ((b - (b - a)) - (- (b - a)))) - (((b - (b - a)) - ((b - (b - a)) - (- (b - a)))) - (- ((b - (b - a)) - (- (b - a)))))) - (- (((b - (b - a)) - ((b - (b - a)) - (- (b - a)))) - (- ((b - (b - a)) - (- (b - a)))))))) - (((((b - (b - a)) - ((b - (b - a)) - (- (b - a)))) - (((b - (b - a)) - ((b - (b - a)) - (- (b - a)))) - (- ((b - (b - a)) - (- (b - a)))))) - ((((b - (b - a)) - ((b - (b - a)) - (- (b - a)))) - (((b - (b - a)) - ((b - (b - a)) - (- (b - a)))) - (- ((b - (b - a)) - (- (b - a)))))) - (- (((b - (b - a)) - ((b - (b - a)) - (- (b - a)))) - (- ((b - (b - a)) - (- (b - a)))))))) - (- ((((b - (b - a)) - ((b - (b - a)) - (- (b - a)))) - (((b - (b - a)) - ((b - (b - a)) - (- (b - a)))) - (- ((b - (b - a)) - (- (b - a)))))) - (- (((b - (b - a)) - ((b - (b - a)) - (- (b - a)))) - (- ((b - (b - a)) - (- (b - a)))))))))), .int .i64 (((((c - d) - ((c - d) - (- d))) - (((c - d) - ((c - d) - (- d))) - (- ((c - d) - (- d))))) - ((((c - d) - ((c - d) - (- d))) - (((c - d) - ((c - d) - (- d))) - (- ((c - d) - (- d))))) - (- (((c - d) - ((c - d) - (- d))) - (- ((c - d) - (- d))))))) - (((((c - d) - ((c - d) - (- d))) - (((c - d) - ((c - d) - (- d))) - (- ((c - d) - (- d))))) - ((((c - d) - ((c - d) - (- d))) - (((c - d) - ((c - d) - (- d))) - (- ((c - d) - (- d))))) - (- (((c - d) - ((c - d) - (- d))) - (- ((c - d) - (- d))))))) - (- ((((c - d) - ((c - d) - (- d))) - (((c - d) - ((c - d) - (- d))) - (- ((c - d) - (- d))))) - (- (((c - d) - ((c - d) - (- d))) - (- ((c - d) - (- d))))))))), .int .i64 ((((((c - d) - ((c - d) - (- d))) - (((c - d) - ((c - d) - (- d))) - (- ((c - d) - (- d))))) - ((((c - d) - ((c - d) - (- d))) - (((c - d) - ((c - d) - (- d))) - (- ((c - d) - (- d))))) - (- (((c - d) - ((c - d) - (- d))) - (- ((c - d) - (- d))))))) - (((((c - d) - ((c - d) - (- d))) - (((c - d) - ((c - d) - (- d))) - (- ((c - d) - (- d))))) - ((((c - d) - ((c - d) - (- d))) - (((c - d) - ((c - d) - (- d))) - (- ((c - d) - (- d))))) - (- (((c - d) - ((c - d) - (- d))) - (- ((c - d) - (- d))))))) - (- ((((c - d) - ((c - d) - (- d))) - (((c - d) - ((c - d) - (- d))) - (- ((c - d) - (- d))))) - (- (((c - d) - ((c - d) - (- d))) - (- ((c - d) - (- d))))))))) - (- (((((c - d) - ((c - d) - (- d))) - (((c - d) - ((c - d) - (- d))) - (- ((c - d) - (- d))))) - ((((c - d) - ((c - d) - (- d))) - (((c - d) - ((c - d) - (- d))) - (- ((c - d) - (- d))))) - (- (((c - d) - ((c - d) - (- d))) - (- ((c - d) - (- d))))))) - (- ((((c - d) - ((c - d) - (- d))) - (((c - d) - ((c - d) - (- d))) - (- ((c - d) - (- d))))) - (- (((c - d) - ((c - d) - (- d))) - (- ((c - d) - (- d))))))))))]
def rturned_r21 (a b c d n : Int) : Prop := ((((((((((((((((((((((((((((((((True ∧ (rturned_c0 a b c d n = false)) ∧ (rturned_c13 a b c d n = true)) ∧ (rturned_b2 a b c d n)) ∧ (rturned_c0 a b c d n = false)) ∧ (rturned_c14 a b c d n = true)) ∧ (rturned_b4 a b c d n)) ∧ (rturned_c0 a b c d n = false)) ∧ (rturned_c15 a b c d n = true)) ∧ (rturned_b6 a b c d n)) ∧ (rturned_c0 a b c d n = false)) ∧ (rturned_c16 a b c d n = true)) ∧ (rturned_b8 a b c d n)) ∧ (rturned_c0 a b c d n = false)) ∧ (rturned_c17 a b c d n = true)) ∧ (rturned_b10 a b c d n)) ∧ (rturned_c0 a b c d n = false)) ∧ (rturned_c18 a b c d n = true)) ∧ (rturned_b12 a b c d n)) ∧ (rturned_c0 a b c d n = false)) ∧ (rturned_c19 a b c d n = true)) ∧ (rturned_b14 a b c d n)) ∧ (rturned_c0 a b c d n = false)) ∧ (rturned_c20 a b c d n = true)) ∧ (rturned_b16 a b c d n)) ∧ (rturned_c0 a b c d n = false)) ∧ (rturned_c21 a b c d n = true)) ∧ (rturned_b18 a b c d n)) ∧ (rturned_c0 a b c d n = false)) ∧ (rturned_c22 a b c d n = true)) ∧ (rturned_b20 a b c d n)) ∧ (rturned_c0 a b c d n = false)) ∧ (rturned_c23 a b c d n = false))
theorem rturned_o21 (a b c d n : Int) : obOf (rturned_e21 a b c d n) = rturned_r21 a b c d n := by kernel_rfl
theorem rturned_v21 (a b c d n : Int) : resOf (rturned_e21 a b c d n) = rturned_w21 a b c d n := by kernel_rfl
theorem rturned_k21 (a b c d n : Int) : cleanOf Tryz.prog.globals.size (rturned_e21 a b c d n) = true := by kernel_rfl
theorem rturned_q21 (a b c d n : Int) : rturned_e21 a b c d n = evFS Tryz.prog x_rturned 1000 26 #[.agg #[.int .i64 a, .int .i64 b, .int .i64 c, .int .i64 d], .int .i64 n] (noTabs 7) ⟨[0, 1, 0, 1, 0, 1, 0, 1, 0, 1, 0, 1, 0, 1, 0, 1, 0, 1, 0, 1, 0, 0], True⟩ := by
  delta rturned_e21
  exact Eq.refl _
theorem rturned_p21 (a b c d n : Int) (h : rturned_r21 a b c d n) (w : World) : Calls Tryz.prog 26 #[.agg #[.int .i64 a, .int .i64 b, .int .i64 c, .int .i64 d], .int .i64 n] w fun en w' => en = .returned (rturned_w21 a b c d n) ∧ Below w.heap.size w w' := by
  have hv := rturned_v21 a b c d n
  have hc := rturned_k21 a b c d n
  have he := rturned_q21 a b c d n
  have ho := rturned_o21 a b c d n
  generalize rturned_e21 a b c d n = r at *
  exact calls_way he gfol rturned_X hv rfl (rturned_args a b c d n) hc ho h (bl w)
def rturned_w22 (a b c d n : Int) : Value := .agg #[.int .i64 (- ((((((c - d) - ((c - d) - (- d))) - (((c - d) - ((c - d) - (- d))) - (- ((c - d) - (- d))))) - ((((c - d) - ((c - d) - (- d))) - (((c - d) - ((c - d) - (- d))) - (- ((c - d) - (- d))))) - (- (((c - d) - ((c - d) - (- d))) - (- ((c - d) - (- d))))))) - (((((c - d) - ((c - d) - (- d))) - (((c - d) - ((c - d) - (- d))) - (- ((c - d) - (- d))))) - ((((c - d) - ((c - d) - (- d))) - (((c - d) - ((c - d) - (- d))) - (- ((c - d) - (- d))))) - (- (((c - d) - ((c - d) - (- d))) - (- ((c - d) - (- d))))))) - (- ((((c - d) - ((c - d) - (- d))) - (((c - d) - ((c - d) - (- d))) - (- ((c - d) - (- d))))) - (- (((c - d) - ((c - d) - (- d))) - (- ((c - d) - (- d))))))))) - (- (((((c - d) - ((c - d) - (- d))) - (((c - d) - ((c - d) - (- d))) - (- ((c - d) - (- d))))) - ((((c - d) - ((c - d) - (- d))) - (((c - d) - ((c - d) - (- d))) - (- ((c - d) - (- d))))) - (- (((c - d) - ((c - d) - (- d))) - (- ((c - d) - (- d))))))) - (- ((((c - d) - ((c - d) - (- d))) - (((c - d) - ((c - d) - (- d))) - (- ((c - d) - (- d))))) - (- (((c - d) - ((c - d) - (- d))) - (- ((c - d) - (- d))))))))))), .int .i64 ((((((c - d) - ((c - d) - (- d))) - (((c - d) - ((c - d) - (- d))) - (- ((c - d) - (- d))))) - ((((c - d) - ((c - d) - (- d))) - (((c - d) - ((c - d) - (- d))) - (- ((c - d) - (- d))))) - (- (((c - d) - ((c - d) - (- d))) - (- ((c - d) - (- d))))))) - (((((c - d) - ((c - d) - (- d))) - (((c - d) - ((c - d) - (- d))) - (- ((c - d) - (- d))))) - ((((c - d) - ((c - d) - (- d))) - (((c - d) - ((c - d) - (- d))) - (- ((c - d) - (- d))))) - (- (((c - d) - ((c - d) - (- d))) - (- ((c - d) - (- d))))))) - (- ((((c - d) - ((c - d) - (- d))) - (((c - d) - ((c - d) - (- d))) - (- ((c - d) - (- d))))) - (- (((c - d) - ((c - d) - (- d))) - (- ((c - d) - (- d))))))))) - ((((((c - d) - ((c - d) - (- d))) - (((c - d) - ((c - d) - (- d))) - (- ((c - d) - (- d))))) - ((((c - d) - ((c - d) - (- d))) - (((c - d) - ((c - d) - (- d))) - (- ((c - d) - (- d))))) - (- (((c - d) - ((c - d) - (- d))) - (- ((c - d) - (- d))))))) - (((((c - d) - ((c - d) - (- d))) - (((c - d) - ((c - d) - (- d))) - (- ((c - d) - (- d))))) - ((((c - d) - ((c - d) - (- d))) - (((c - d) - ((c - d) - (- d))) - (- ((c - d) - (- d))))) - (- (((c - d) - ((c - d) - (- d))) - (- ((c - d) - (- d))))))) - (- ((((c - d) - ((c - d) - (- d))) - (((c - d) - ((c - d) - (- d))) - (- ((c - d) - (- d))))) - (- (((c - d) - ((c - d) - (- d))) - (- ((c - d) - (- d))))))))) - (- (((((c - d) - ((c - d) - (- d))) - (((c - d) - ((c - d) - (- d))) - (- ((c - d) - (- d))))) - ((((c - d) - ((c - d) - (- d))) - (((c - d) - ((c - d) - (- d))) - (- ((c - d) - (- d))))) - (- (((c - d) - ((c - d) - (- d))) - (- ((c - d) - (- d))))))) - (- ((((c - d) - ((c - d) - (- d))) - (((c - d) - ((c - d) - (- d))) - (- ((c - d) - (- d))))) - (- (((c - d) - ((c - d) - (- d))) - (- ((c - d) - (- d))))))))))), .int .i64 (((((b - (b - a)) - ((b - (b - a)) - (- (b - a)))) - (((b - (b - a)) - ((b - (b - a)) - (- (b - a)))) - (- ((b - (b - a)) - (- (b - a)))))) - ((((b - (b - a)) - ((b - (b - a)) - (- (b - a)))) - (((b - (b - a)) - ((b - (b - a)) - (- (b - a)))) - (- ((b - (b - a)) - (- (b - a)))))) - (- (((b - (b - a)) - ((b - (b - a)) - (- (b - a)))) - (- ((b - (b - a)) - (- (b - a)))))))) - (((((b - (b - a)) - ((b - (b - a)) - (- (b - a)))) - (((b - (b - a)) - ((b - (b - a)) - (- (b - a)))) - (- ((b - (b - a)) - (- (b - a)))))) - ((((b - (b - a)) - ((b - (b - a)) - (- (b - a)))) - (((b - (b - a)) - ((b - (b - a)) - (- (b - a)))) - (- ((b - (b - a)) - (- (b - a)))))) - (- (((b - (b - a)) - ((b - (b - a)) - (- (b - a)))) - (- ((b - (b - a)) - (- (b - a)))))))) - (- ((((b - (b - a)) - ((b - (b - a)) - (- (b - a)))) - (((b - (b - a)) - ((b - (b - a)) - (- (b - a)))) - (- ((b - (b - a)) - (- (b - a)))))) - (- (((b - (b - a)) - ((b - (b - a)) - (- (b - a)))) - (- ((b - (b - a)) - (- (b - a)))))))))), .int .i64 ((((((b - (b - a)) - ((b - (b - a)) - (- (b - a)))) - (((b - (b - a)) - ((b - (b - a)) - (- (b - a)))) - (- ((b - (b - a)) - (- (b - a)))))) - ((((b - (b - a)) - ((b - (b - a)) - (- (b - a)))) - (((b - (b - a)) - ((b - (b - a)) - (- (b - a)))) - (- ((b - (b - a)) - (- (b - a)))))) - (- (((b - (b - a)) - ((b - (b - a)) - (- (b - a)))) - (- ((b - (b - a)) - (- (b - a)))))))) - (((((b - (b - a)) - ((b - (b - a)) - (- (b - a)))) - (((b - (b - a)) - ((b - (b - a)) - (- (b - a)))) - (- ((b - (b - a)) - (- (b - a)))))) - ((((b - (b - a)) - ((b - (b - a)) - (- (b - a)))) - (((b - (b - a)) - ((b - (b - a)) - (- (b - a)))) - (- ((b - (b - a)) - (- (b - a)))))) - (- (((b - (b - a)) - ((b - (b - a)) - (- (b - a)))) - (- ((b - (b - a)) - (- (b - a)))))))) - (- ((((b - (b - a)) - ((b - (b - a)) - (- (b - a)))) - (((b - (b - a)) - ((b - (b - a)) - (- (b - a)))) - (- ((b - (b - a)) - (- (b - a)))))) - (- (((b - (b - a)) - ((b - (b - a)) - (- (b - a)))) - (- ((b - (b - a)) - (- (b - a)))))))))) - (- (((((b - (b - a)) - ((b - (b - a)) - (- (b - a)))) - (((b - (b - a)) - ((b - (b - a)) - (- (b - a)))) - (- ((b - (b - a)) - (- (b - a)))))) - ((((b - (b - a)) - ((b - (b - a)) - (- (b - a)))) - (((b - (b - a)) - ((b - (b - a)) - (- (b - a)))) - (- ((b - (b - a)) - (- (b - a)))))) - (- (((b - (b - a)) - ((b - (b - a)) - (- (b - a)))) - (- ((b - (b - a)) - (- (b - a)))))))) - (- ((((b - (b - a)) - ((b - (b - a)) - (- (b - a)))) - (((b - (b - a)) - ((b - (b - a)) - (- (b - a)))) - (- ((b - (b - a)) - (- (b - a)))))) - (- (((b - (b - a)) - ((b - (b - a)) - (- (b - a)))) - (- ((b - (b - a)) - (- (b - a)))))))))))]
def rturned_r22 (a b c d n : Int) : Prop := (((((((((((((((((((((((((((((((((((True ∧ (rturned_c0 a b c d n = false)) ∧ (rturned_c13 a b c d n = true)) ∧ (rturned_b2 a b c d n)) ∧ (rturned_c0 a b c d n = false)) ∧ (rturned_c14 a b c d n = true)) ∧ (rturned_b4 a b c d n)) ∧ (rturned_c0 a b c d n = false)) ∧ (rturned_c15 a b c d n = true)) ∧ (rturned_b6 a b c d n)) ∧ (rturned_c0 a b c d n = false)) ∧ (rturned_c16 a b c d n = true)) ∧ (rturned_b8 a b c d n)) ∧ (rturned_c0 a b c d n = false)) ∧ (rturned_c17 a b c d n = true)) ∧ (rturned_b10 a b c d n)) ∧ (rturned_c0 a b c d n = false)) ∧ (rturned_c18 a b c d n = true)) ∧ (rturned_b12 a b c d n)) ∧ (rturned_c0 a b c d n = false)) ∧ (rturned_c19 a b c d n = true)) ∧ (rturned_b14 a b c d n)) ∧ (rturned_c0 a b c d n = false)) ∧ (rturned_c20 a b c d n = true)) ∧ (rturned_b16 a b c d n)) ∧ (rturned_c0 a b c d n = false)) ∧ (rturned_c21 a b c d n = true)) ∧ (rturned_b18 a b c d n)) ∧ (rturned_c0 a b c d n = false)) ∧ (rturned_c22 a b c d n = true)) ∧ (rturned_b20 a b c d n)) ∧ (rturned_c0 a b c d n = false)) ∧ (rturned_c23 a b c d n = true)) ∧ (rturned_b22 a b c d n)) ∧ (rturned_c0 a b c d n = false)) ∧ (rturned_c24 a b c d n = false))
theorem rturned_o22 (a b c d n : Int) : obOf (rturned_e22 a b c d n) = rturned_r22 a b c d n := by kernel_rfl
theorem rturned_v22 (a b c d n : Int) : resOf (rturned_e22 a b c d n) = rturned_w22 a b c d n := by kernel_rfl
theorem rturned_k22 (a b c d n : Int) : cleanOf Tryz.prog.globals.size (rturned_e22 a b c d n) = true := by kernel_rfl
theorem rturned_q22 (a b c d n : Int) : rturned_e22 a b c d n = evFS Tryz.prog x_rturned 1000 26 #[.agg #[.int .i64 a, .int .i64 b, .int .i64 c, .int .i64 d], .int .i64 n] (noTabs 7) ⟨[0, 1, 0, 1, 0, 1, 0, 1, 0, 1, 0, 1, 0, 1, 0, 1, 0, 1, 0, 1, 0, 1, 0, 0], True⟩ := by
  delta rturned_e22
  exact Eq.refl _
theorem rturned_p22 (a b c d n : Int) (h : rturned_r22 a b c d n) (w : World) : Calls Tryz.prog 26 #[.agg #[.int .i64 a, .int .i64 b, .int .i64 c, .int .i64 d], .int .i64 n] w fun en w' => en = .returned (rturned_w22 a b c d n) ∧ Below w.heap.size w w' := by
  have hv := rturned_v22 a b c d n
  have hc := rturned_k22 a b c d n
  have he := rturned_q22 a b c d n
  have ho := rturned_o22 a b c d n
  generalize rturned_e22 a b c d n = r at *
  exact calls_way he gfol rturned_X hv rfl (rturned_args a b c d n) hc ho h (bl w)
theorem rturned_any (a b c d n : Int) (hpre : B4 1048576 a b c d ∧ -100000 ≤ n ∧ n ≤ 100000) (w : World) : Calls Tryz.prog 26 #[.agg #[.int .i64 a, .int .i64 b, .int .i64 c, .int .i64 d], .int .i64 n] w fun en w' => en = .returned (rturned_val a b c d n) ∧ Below w.heap.size w w' := by
  obtain ⟨⟨q1, q2, q3, q4, q5, q6, q7, q8⟩, n1, n2⟩ := hpre
  have t12 : n.tdiv 12 * 12 = n - n.tmod 12 := by have := Int.mul_tdiv_add_tmod n 12; omega
  have t13 := Int.tmod_lt_of_pos n (b := 12) (by omega)
  have t14 := Int.lt_tmod_of_pos n (b := 12) (by omega)
  have t15 : 0 ≤ n.tdiv 12 ∨ n < 0 := by rcases Int.lt_or_le n 0 with g | g; exact .inr g; exact .inl (Int.tdiv_nonneg g (by omega))
  have t16 : n.tdiv 12 ≤ 0 ∨ 0 < n := by omega
  rcases Bool.eq_false_or_eq_true (rturned_c0 a b c d n) with h0 | h0
  ·
    unfold rturned_c0 at h0
    have h1 : (rturned_c1 a b c d n = true) := by
      unfold rturned_c1
      first | rfl | trivial | decide | (unfold B4; (try simp only [] at *); omega) | ((try simp (disch := omega) only [wi, decide_eq_true_eq, decide_eq_false_iff_not] at *); omega) | (refine ⟨?_, ?_, ?_, ?_, ?_⟩ <;> first | rfl | decide | (unfold B4; omega))
    unfold rturned_c1 at h1
    have h2 : (rturned_b2 a b c d n) := by
      unfold rturned_b2
      first | rfl | trivial | decide | (unfold B4; (try simp only [] at *); omega) | ((try simp (disch := omega) only [wi, decide_eq_true_eq, decide_eq_false_iff_not] at *); omega) | (refine ⟨?_, ?_, ?_, ?_, ?_⟩ <;> first | rfl | decide | (unfold B4; omega))
    unfold rturned_b2 at h2
    rcases Bool.eq_false_or_eq_true (rturned_c2 a b c d n) with h3 | h3
    ·
      unfold rturned_c2 at h3
      have h4 : (rturned_b4 a b c d n) := by
        unfold rturned_b4
        first | rfl | trivial | decide | (unfold B4; (try simp only [] at *); omega) | ((try simp (disch := omega) only [wi, decide_eq_true_eq, decide_eq_false_iff_not] at *); omega) | (refine ⟨?_, ?_, ?_, ?_, ?_⟩ <;> first | rfl | decide | (unfold B4; omega))
      unfold rturned_b4 at h4
      rcases Bool.eq_false_or_eq_true (rturned_c3 a b c d n) with h5 | h5
      ·
        unfold rturned_c3 at h5
        have h6 : (rturned_b6 a b c d n) := by
          unfold rturned_b6
          first | rfl | trivial | decide | (unfold B4; (try simp only [] at *); omega) | ((try simp (disch := omega) only [wi, decide_eq_true_eq, decide_eq_false_iff_not] at *); omega) | (refine ⟨?_, ?_, ?_, ?_, ?_⟩ <;> first | rfl | decide | (unfold B4; omega))
        unfold rturned_b6 at h6
        rcases Bool.eq_false_or_eq_true (rturned_c4 a b c d n) with h7 | h7
        ·
          unfold rturned_c4 at h7
          have h8 : (rturned_b8 a b c d n) := by
            unfold rturned_b8
            first | rfl | trivial | decide | (unfold B4; (try simp only [] at *); omega) | ((try simp (disch := omega) only [wi, decide_eq_true_eq, decide_eq_false_iff_not] at *); omega) | (refine ⟨?_, ?_, ?_, ?_, ?_⟩ <;> first | rfl | decide | (unfold B4; omega))
          unfold rturned_b8 at h8
          rcases Bool.eq_false_or_eq_true (rturned_c5 a b c d n) with h9 | h9
          ·
            unfold rturned_c5 at h9
            have h10 : (rturned_b10 a b c d n) := by
              unfold rturned_b10
              first | rfl | trivial | decide | (unfold B4; (try simp only [] at *); omega) | ((try simp (disch := omega) only [wi, decide_eq_true_eq, decide_eq_false_iff_not] at *); omega) | (refine ⟨?_, ?_, ?_, ?_, ?_⟩ <;> first | rfl | decide | (unfold B4; omega))
            unfold rturned_b10 at h10
            rcases Bool.eq_false_or_eq_true (rturned_c6 a b c d n) with h11 | h11
            ·
              unfold rturned_c6 at h11
              have h12 : (rturned_b12 a b c d n) := by
                unfold rturned_b12
                first | rfl | trivial | decide | (unfold B4; (try simp only [] at *); omega) | ((try simp (disch := omega) only [wi, decide_eq_true_eq, decide_eq_false_iff_not] at *); omega) | (refine ⟨?_, ?_, ?_, ?_, ?_⟩ <;> first | rfl | decide | (unfold B4; omega))
              unfold rturned_b12 at h12
              rcases Bool.eq_false_or_eq_true (rturned_c7 a b c d n) with h13 | h13
              ·
                unfold rturned_c7 at h13
                have h14 : (rturned_b14 a b c d n) := by
                  unfold rturned_b14
                  first | rfl | trivial | decide | (unfold B4; (try simp only [] at *); omega) | ((try simp (disch := omega) only [wi, decide_eq_true_eq, decide_eq_false_iff_not] at *); omega) | (refine ⟨?_, ?_, ?_, ?_, ?_⟩ <;> first | rfl | decide | (unfold B4; omega))
                unfold rturned_b14 at h14
                rcases Bool.eq_false_or_eq_true (rturned_c8 a b c d n) with h15 | h15
                ·
                  unfold rturned_c8 at h15
                  have h16 : (rturned_b16 a b c d n) := by
                    unfold rturned_b16
                    first | rfl | trivial | decide | (unfold B4; (try simp only [] at *); omega) | ((try simp (disch := omega) only [wi, decide_eq_true_eq, decide_eq_false_iff_not] at *); omega) | (refine ⟨?_, ?_, ?_, ?_, ?_⟩ <;> first | rfl | decide | (unfold B4; omega))
                  unfold rturned_b16 at h16
                  rcases Bool.eq_false_or_eq_true (rturned_c9 a b c d n) with h17 | h17
                  ·
                    unfold rturned_c9 at h17
                    have h18 : (rturned_b18 a b c d n) := by
                      unfold rturned_b18
                      first | rfl | trivial | decide | (unfold B4; (try simp only [] at *); omega) | ((try simp (disch := omega) only [wi, decide_eq_true_eq, decide_eq_false_iff_not] at *); omega) | (refine ⟨?_, ?_, ?_, ?_, ?_⟩ <;> first | rfl | decide | (unfold B4; omega))
                    unfold rturned_b18 at h18
                    rcases Bool.eq_false_or_eq_true (rturned_c10 a b c d n) with h19 | h19
                    ·
                      unfold rturned_c10 at h19
                      have h20 : (rturned_b20 a b c d n) := by
                        unfold rturned_b20
                        first | rfl | trivial | decide | (unfold B4; (try simp only [] at *); omega) | ((try simp (disch := omega) only [wi, decide_eq_true_eq, decide_eq_false_iff_not] at *); omega) | (refine ⟨?_, ?_, ?_, ?_, ?_⟩ <;> first | rfl | decide | (unfold B4; omega))
                      unfold rturned_b20 at h20
                      rcases Bool.eq_false_or_eq_true (rturned_c11 a b c d n) with h21 | h21
                      ·
                        unfold rturned_c11 at h21
                        have h22 : (rturned_b22 a b c d n) := by
                          unfold rturned_b22
                          first | rfl | trivial | decide | (unfold B4; (try simp only [] at *); omega) | ((try simp (disch := omega) only [wi, decide_eq_true_eq, decide_eq_false_iff_not] at *); omega) | (refine ⟨?_, ?_, ?_, ?_, ?_⟩ <;> first | rfl | decide | (unfold B4; omega))
                        unfold rturned_b22 at h22
                        have h23 : (rturned_c12 a b c d n = false) := by
                          unfold rturned_c12
                          first | rfl | trivial | decide | (unfold B4; (try simp only [] at *); omega) | ((try simp (disch := omega) only [wi, decide_eq_true_eq, decide_eq_false_iff_not] at *); omega) | (refine ⟨?_, ?_, ?_, ?_, ?_⟩ <;> first | rfl | decide | (unfold B4; omega))
                        unfold rturned_c12 at h23
                        have hp := rturned_p0 a b c d n ⟨⟨⟨⟨⟨⟨⟨⟨⟨⟨⟨⟨⟨⟨⟨⟨⟨⟨⟨⟨⟨⟨⟨⟨⟨⟨⟨⟨⟨⟨⟨⟨⟨⟨⟨trivial, h0⟩, h1⟩, h2⟩, h0⟩, h3⟩, h4⟩, h0⟩, h5⟩, h6⟩, h0⟩, h7⟩, h8⟩, h0⟩, h9⟩, h10⟩, h0⟩, h11⟩, h12⟩, h0⟩, h13⟩, h14⟩, h0⟩, h15⟩, h16⟩, h0⟩, h17⟩, h18⟩, h0⟩, h19⟩, h20⟩, h0⟩, h21⟩, h22⟩, h0⟩, h23⟩ w
                        have hv : rturned_w0 a b c d n = (rturned_val a b c d n) := by
                          clear hp
                          unfold rturned_w0 rturned_val
                          (try simp (disch := omega) only [wi, decide_eq_true_eq, decide_eq_false_iff_not] at *)
                          have hk : n % 12 = 0 ∨ n % 12 = 1 ∨ n % 12 = 2 ∨ n % 12 = 3 ∨ n % 12 = 4 ∨ n % 12 = 5 ∨ n % 12 = 6 ∨ n % 12 = 7 ∨ n % 12 = 8 ∨ n % 12 = 9 ∨ n % 12 = 10 ∨ n % 12 = 11 := by omega
                          rcases hk with hk | hk | hk | hk | hk | hk | hk | hk | hk | hk | hk | hk <;> first | (exfalso; omega) | skip
                          simp only [tn, hk, Int.reduceEq, ↓reduceIte]
                          (try simp only [p1, p2, p3, p4, Int.mul_one, Int.mul_zero, Int.mul_neg, Int.sub_zero, Int.zero_sub, Int.add_zero, Int.zero_add, Int.neg_neg, Int.neg_zero] at *)
                          all_goals (first | rfl | (simp only [Value.agg.injEq, Value.tuple.injEq, Array.mk.injEq, List.cons.injEq, Value.int.injEq, true_and, and_true]; omega))
                        exact hv ▸ hp
                      ·
                        unfold rturned_c11 at h21
                        have hp := rturned_p11 a b c d n ⟨⟨⟨⟨⟨⟨⟨⟨⟨⟨⟨⟨⟨⟨⟨⟨⟨⟨⟨⟨⟨⟨⟨⟨⟨⟨⟨⟨⟨⟨⟨⟨trivial, h0⟩, h1⟩, h2⟩, h0⟩, h3⟩, h4⟩, h0⟩, h5⟩, h6⟩, h0⟩, h7⟩, h8⟩, h0⟩, h9⟩, h10⟩, h0⟩, h11⟩, h12⟩, h0⟩, h13⟩, h14⟩, h0⟩, h15⟩, h16⟩, h0⟩, h17⟩, h18⟩, h0⟩, h19⟩, h20⟩, h0⟩, h21⟩ w
                        have hv : rturned_w11 a b c d n = (rturned_val a b c d n) := by
                          clear hp
                          unfold rturned_w11 rturned_val
                          (try simp (disch := omega) only [wi, decide_eq_true_eq, decide_eq_false_iff_not] at *)
                          have hk : n % 12 = 0 ∨ n % 12 = 1 ∨ n % 12 = 2 ∨ n % 12 = 3 ∨ n % 12 = 4 ∨ n % 12 = 5 ∨ n % 12 = 6 ∨ n % 12 = 7 ∨ n % 12 = 8 ∨ n % 12 = 9 ∨ n % 12 = 10 ∨ n % 12 = 11 := by omega
                          rcases hk with hk | hk | hk | hk | hk | hk | hk | hk | hk | hk | hk | hk <;> first | (exfalso; omega) | skip
                          simp only [tn, hk, Int.reduceEq, ↓reduceIte]
                          (try simp only [p1, p2, p3, p4, Int.mul_one, Int.mul_zero, Int.mul_neg, Int.sub_zero, Int.zero_sub, Int.add_zero, Int.zero_add, Int.neg_neg, Int.neg_zero] at *)
                          all_goals (first | rfl | (simp only [Value.agg.injEq, Value.tuple.injEq, Array.mk.injEq, List.cons.injEq, Value.int.injEq, true_and, and_true]; omega))
                        exact hv ▸ hp
                    ·
                      unfold rturned_c10 at h19
                      have hp := rturned_p10 a b c d n ⟨⟨⟨⟨⟨⟨⟨⟨⟨⟨⟨⟨⟨⟨⟨⟨⟨⟨⟨⟨⟨⟨⟨⟨⟨⟨⟨⟨⟨trivial, h0⟩, h1⟩, h2⟩, h0⟩, h3⟩, h4⟩, h0⟩, h5⟩, h6⟩, h0⟩, h7⟩, h8⟩, h0⟩, h9⟩, h10⟩, h0⟩, h11⟩, h12⟩, h0⟩, h13⟩, h14⟩, h0⟩, h15⟩, h16⟩, h0⟩, h17⟩, h18⟩, h0⟩, h19⟩ w
                      have hv : rturned_w10 a b c d n = (rturned_val a b c d n) := by
                        clear hp
                        unfold rturned_w10 rturned_val
                        (try simp (disch := omega) only [wi, decide_eq_true_eq, decide_eq_false_iff_not] at *)
                        have hk : n % 12 = 0 ∨ n % 12 = 1 ∨ n % 12 = 2 ∨ n % 12 = 3 ∨ n % 12 = 4 ∨ n % 12 = 5 ∨ n % 12 = 6 ∨ n % 12 = 7 ∨ n % 12 = 8 ∨ n % 12 = 9 ∨ n % 12 = 10 ∨ n % 12 = 11 := by omega
                        rcases hk with hk | hk | hk | hk | hk | hk | hk | hk | hk | hk | hk | hk <;> first | (exfalso; omega) | skip
                        simp only [tn, hk, Int.reduceEq, ↓reduceIte]
                        (try simp only [p1, p2, p3, p4, Int.mul_one, Int.mul_zero, Int.mul_neg, Int.sub_zero, Int.zero_sub, Int.add_zero, Int.zero_add, Int.neg_neg, Int.neg_zero] at *)
                        all_goals (first | rfl | (simp only [Value.agg.injEq, Value.tuple.injEq, Array.mk.injEq, List.cons.injEq, Value.int.injEq, true_and, and_true]; omega))
                      exact hv ▸ hp
                  ·
                    unfold rturned_c9 at h17
                    have hp := rturned_p9 a b c d n ⟨⟨⟨⟨⟨⟨⟨⟨⟨⟨⟨⟨⟨⟨⟨⟨⟨⟨⟨⟨⟨⟨⟨⟨⟨⟨trivial, h0⟩, h1⟩, h2⟩, h0⟩, h3⟩, h4⟩, h0⟩, h5⟩, h6⟩, h0⟩, h7⟩, h8⟩, h0⟩, h9⟩, h10⟩, h0⟩, h11⟩, h12⟩, h0⟩, h13⟩, h14⟩, h0⟩, h15⟩, h16⟩, h0⟩, h17⟩ w
                    have hv : rturned_w9 a b c d n = (rturned_val a b c d n) := by
                      clear hp
                      unfold rturned_w9 rturned_val
                      (try simp (disch := omega) only [wi, decide_eq_true_eq, decide_eq_false_iff_not] at *)
                      have hk : n % 12 = 0 ∨ n % 12 = 1 ∨ n % 12 = 2 ∨ n % 12 = 3 ∨ n % 12 = 4 ∨ n % 12 = 5 ∨ n % 12 = 6 ∨ n % 12 = 7 ∨ n % 12 = 8 ∨ n % 12 = 9 ∨ n % 12 = 10 ∨ n % 12 = 11 := by omega
                      rcases hk with hk | hk | hk | hk | hk | hk | hk | hk | hk | hk | hk | hk <;> first | (exfalso; omega) | skip
                      simp only [tn, hk, Int.reduceEq, ↓reduceIte]
                      (try simp only [p1, p2, p3, p4, Int.mul_one, Int.mul_zero, Int.mul_neg, Int.sub_zero, Int.zero_sub, Int.add_zero, Int.zero_add, Int.neg_neg, Int.neg_zero] at *)
                      all_goals (first | rfl | (simp only [Value.agg.injEq, Value.tuple.injEq, Array.mk.injEq, List.cons.injEq, Value.int.injEq, true_and, and_true]; omega))
                    exact hv ▸ hp
                ·
                  unfold rturned_c8 at h15
                  have hp := rturned_p8 a b c d n ⟨⟨⟨⟨⟨⟨⟨⟨⟨⟨⟨⟨⟨⟨⟨⟨⟨⟨⟨⟨⟨⟨⟨trivial, h0⟩, h1⟩, h2⟩, h0⟩, h3⟩, h4⟩, h0⟩, h5⟩, h6⟩, h0⟩, h7⟩, h8⟩, h0⟩, h9⟩, h10⟩, h0⟩, h11⟩, h12⟩, h0⟩, h13⟩, h14⟩, h0⟩, h15⟩ w
                  have hv : rturned_w8 a b c d n = (rturned_val a b c d n) := by
                    clear hp
                    unfold rturned_w8 rturned_val
                    (try simp (disch := omega) only [wi, decide_eq_true_eq, decide_eq_false_iff_not] at *)
                    have hk : n % 12 = 0 ∨ n % 12 = 1 ∨ n % 12 = 2 ∨ n % 12 = 3 ∨ n % 12 = 4 ∨ n % 12 = 5 ∨ n % 12 = 6 ∨ n % 12 = 7 ∨ n % 12 = 8 ∨ n % 12 = 9 ∨ n % 12 = 10 ∨ n % 12 = 11 := by omega
                    rcases hk with hk | hk | hk | hk | hk | hk | hk | hk | hk | hk | hk | hk <;> first | (exfalso; omega) | skip
                    simp only [tn, hk, Int.reduceEq, ↓reduceIte]
                    (try simp only [p1, p2, p3, p4, Int.mul_one, Int.mul_zero, Int.mul_neg, Int.sub_zero, Int.zero_sub, Int.add_zero, Int.zero_add, Int.neg_neg, Int.neg_zero] at *)
                    all_goals (first | rfl | (simp only [Value.agg.injEq, Value.tuple.injEq, Array.mk.injEq, List.cons.injEq, Value.int.injEq, true_and, and_true]; omega))
                  exact hv ▸ hp
              ·
                unfold rturned_c7 at h13
                have hp := rturned_p7 a b c d n ⟨⟨⟨⟨⟨⟨⟨⟨⟨⟨⟨⟨⟨⟨⟨⟨⟨⟨⟨⟨trivial, h0⟩, h1⟩, h2⟩, h0⟩, h3⟩, h4⟩, h0⟩, h5⟩, h6⟩, h0⟩, h7⟩, h8⟩, h0⟩, h9⟩, h10⟩, h0⟩, h11⟩, h12⟩, h0⟩, h13⟩ w
                have hv : rturned_w7 a b c d n = (rturned_val a b c d n) := by
                  clear hp
                  unfold rturned_w7 rturned_val
                  (try simp (disch := omega) only [wi, decide_eq_true_eq, decide_eq_false_iff_not] at *)
                  have hk : n % 12 = 0 ∨ n % 12 = 1 ∨ n % 12 = 2 ∨ n % 12 = 3 ∨ n % 12 = 4 ∨ n % 12 = 5 ∨ n % 12 = 6 ∨ n % 12 = 7 ∨ n % 12 = 8 ∨ n % 12 = 9 ∨ n % 12 = 10 ∨ n % 12 = 11 := by omega
                  rcases hk with hk | hk | hk | hk | hk | hk | hk | hk | hk | hk | hk | hk <;> first | (exfalso; omega) | skip
                  simp only [tn, hk, Int.reduceEq, ↓reduceIte]
                  (try simp only [p1, p2, p3, p4, Int.mul_one, Int.mul_zero, Int.mul_neg, Int.sub_zero, Int.zero_sub, Int.add_zero, Int.zero_add, Int.neg_neg, Int.neg_zero] at *)
                  all_goals (first | rfl | (simp only [Value.agg.injEq, Value.tuple.injEq, Array.mk.injEq, List.cons.injEq, Value.int.injEq, true_and, and_true]; omega))
                exact hv ▸ hp
            ·
              unfold rturned_c6 at h11
              have hp := rturned_p6 a b c d n ⟨⟨⟨⟨⟨⟨⟨⟨⟨⟨⟨⟨⟨⟨⟨⟨⟨trivial, h0⟩, h1⟩, h2⟩, h0⟩, h3⟩, h4⟩, h0⟩, h5⟩, h6⟩, h0⟩, h7⟩, h8⟩, h0⟩, h9⟩, h10⟩, h0⟩, h11⟩ w
              have hv : rturned_w6 a b c d n = (rturned_val a b c d n) := by
                clear hp
                unfold rturned_w6 rturned_val
                (try simp (disch := omega) only [wi, decide_eq_true_eq, decide_eq_false_iff_not] at *)
                have hk : n % 12 = 0 ∨ n % 12 = 1 ∨ n % 12 = 2 ∨ n % 12 = 3 ∨ n % 12 = 4 ∨ n % 12 = 5 ∨ n % 12 = 6 ∨ n % 12 = 7 ∨ n % 12 = 8 ∨ n % 12 = 9 ∨ n % 12 = 10 ∨ n % 12 = 11 := by omega
                rcases hk with hk | hk | hk | hk | hk | hk | hk | hk | hk | hk | hk | hk <;> first | (exfalso; omega) | skip
                simp only [tn, hk, Int.reduceEq, ↓reduceIte]
                (try simp only [p1, p2, p3, p4, Int.mul_one, Int.mul_zero, Int.mul_neg, Int.sub_zero, Int.zero_sub, Int.add_zero, Int.zero_add, Int.neg_neg, Int.neg_zero] at *)
                all_goals (first | rfl | (simp only [Value.agg.injEq, Value.tuple.injEq, Array.mk.injEq, List.cons.injEq, Value.int.injEq, true_and, and_true]; omega))
              exact hv ▸ hp
          ·
            unfold rturned_c5 at h9
            have hp := rturned_p5 a b c d n ⟨⟨⟨⟨⟨⟨⟨⟨⟨⟨⟨⟨⟨⟨trivial, h0⟩, h1⟩, h2⟩, h0⟩, h3⟩, h4⟩, h0⟩, h5⟩, h6⟩, h0⟩, h7⟩, h8⟩, h0⟩, h9⟩ w
            have hv : rturned_w5 a b c d n = (rturned_val a b c d n) := by
              clear hp
              unfold rturned_w5 rturned_val
              (try simp (disch := omega) only [wi, decide_eq_true_eq, decide_eq_false_iff_not] at *)
              have hk : n % 12 = 0 ∨ n % 12 = 1 ∨ n % 12 = 2 ∨ n % 12 = 3 ∨ n % 12 = 4 ∨ n % 12 = 5 ∨ n % 12 = 6 ∨ n % 12 = 7 ∨ n % 12 = 8 ∨ n % 12 = 9 ∨ n % 12 = 10 ∨ n % 12 = 11 := by omega
              rcases hk with hk | hk | hk | hk | hk | hk | hk | hk | hk | hk | hk | hk <;> first | (exfalso; omega) | skip
              simp only [tn, hk, Int.reduceEq, ↓reduceIte]
              (try simp only [p1, p2, p3, p4, Int.mul_one, Int.mul_zero, Int.mul_neg, Int.sub_zero, Int.zero_sub, Int.add_zero, Int.zero_add, Int.neg_neg, Int.neg_zero] at *)
              all_goals (first | rfl | (simp only [Value.agg.injEq, Value.tuple.injEq, Array.mk.injEq, List.cons.injEq, Value.int.injEq, true_and, and_true]; omega))
            exact hv ▸ hp
        ·
          unfold rturned_c4 at h7
          have hp := rturned_p4 a b c d n ⟨⟨⟨⟨⟨⟨⟨⟨⟨⟨⟨trivial, h0⟩, h1⟩, h2⟩, h0⟩, h3⟩, h4⟩, h0⟩, h5⟩, h6⟩, h0⟩, h7⟩ w
          have hv : rturned_w4 a b c d n = (rturned_val a b c d n) := by
            clear hp
            unfold rturned_w4 rturned_val
            (try simp (disch := omega) only [wi, decide_eq_true_eq, decide_eq_false_iff_not] at *)
            have hk : n % 12 = 0 ∨ n % 12 = 1 ∨ n % 12 = 2 ∨ n % 12 = 3 ∨ n % 12 = 4 ∨ n % 12 = 5 ∨ n % 12 = 6 ∨ n % 12 = 7 ∨ n % 12 = 8 ∨ n % 12 = 9 ∨ n % 12 = 10 ∨ n % 12 = 11 := by omega
            rcases hk with hk | hk | hk | hk | hk | hk | hk | hk | hk | hk | hk | hk <;> first | (exfalso; omega) | skip
            simp only [tn, hk, Int.reduceEq, ↓reduceIte]
            (try simp only [p1, p2, p3, p4, Int.mul_one, Int.mul_zero, Int.mul_neg, Int.sub_zero, Int.zero_sub, Int.add_zero, Int.zero_add, Int.neg_neg, Int.neg_zero] at *)
            all_goals (first | rfl | (simp only [Value.agg.injEq, Value.tuple.injEq, Array.mk.injEq, List.cons.injEq, Value.int.injEq, true_and, and_true]; omega))
          exact hv ▸ hp
      ·
        unfold rturned_c3 at h5
        have hp := rturned_p3 a b c d n ⟨⟨⟨⟨⟨⟨⟨⟨trivial, h0⟩, h1⟩, h2⟩, h0⟩, h3⟩, h4⟩, h0⟩, h5⟩ w
        have hv : rturned_w3 a b c d n = (rturned_val a b c d n) := by
          clear hp
          unfold rturned_w3 rturned_val
          (try simp (disch := omega) only [wi, decide_eq_true_eq, decide_eq_false_iff_not] at *)
          have hk : n % 12 = 0 ∨ n % 12 = 1 ∨ n % 12 = 2 ∨ n % 12 = 3 ∨ n % 12 = 4 ∨ n % 12 = 5 ∨ n % 12 = 6 ∨ n % 12 = 7 ∨ n % 12 = 8 ∨ n % 12 = 9 ∨ n % 12 = 10 ∨ n % 12 = 11 := by omega
          rcases hk with hk | hk | hk | hk | hk | hk | hk | hk | hk | hk | hk | hk <;> first | (exfalso; omega) | skip
          simp only [tn, hk, Int.reduceEq, ↓reduceIte]
          (try simp only [p1, p2, p3, p4, Int.mul_one, Int.mul_zero, Int.mul_neg, Int.sub_zero, Int.zero_sub, Int.add_zero, Int.zero_add, Int.neg_neg, Int.neg_zero] at *)
          all_goals (first | rfl | (simp only [Value.agg.injEq, Value.tuple.injEq, Array.mk.injEq, List.cons.injEq, Value.int.injEq, true_and, and_true]; omega))
        exact hv ▸ hp
    ·
      unfold rturned_c2 at h3
      have hp := rturned_p2 a b c d n ⟨⟨⟨⟨⟨trivial, h0⟩, h1⟩, h2⟩, h0⟩, h3⟩ w
      have hv : rturned_w2 a b c d n = (rturned_val a b c d n) := by
        clear hp
        unfold rturned_w2 rturned_val
        (try simp (disch := omega) only [wi, decide_eq_true_eq, decide_eq_false_iff_not] at *)
        have hk : n % 12 = 0 ∨ n % 12 = 1 ∨ n % 12 = 2 ∨ n % 12 = 3 ∨ n % 12 = 4 ∨ n % 12 = 5 ∨ n % 12 = 6 ∨ n % 12 = 7 ∨ n % 12 = 8 ∨ n % 12 = 9 ∨ n % 12 = 10 ∨ n % 12 = 11 := by omega
        rcases hk with hk | hk | hk | hk | hk | hk | hk | hk | hk | hk | hk | hk <;> first | (exfalso; omega) | skip
        simp only [tn, hk, Int.reduceEq, ↓reduceIte]
        (try simp only [p1, p2, p3, p4, Int.mul_one, Int.mul_zero, Int.mul_neg, Int.sub_zero, Int.zero_sub, Int.add_zero, Int.zero_add, Int.neg_neg, Int.neg_zero] at *)
        all_goals (first | rfl | (simp only [Value.agg.injEq, Value.tuple.injEq, Array.mk.injEq, List.cons.injEq, Value.int.injEq, true_and, and_true]; omega))
      exact hv ▸ hp
  ·
    unfold rturned_c0 at h0
    rcases Bool.eq_false_or_eq_true (rturned_c13 a b c d n) with h24 | h24
    ·
      unfold rturned_c13 at h24
      have h25 : (rturned_b2 a b c d n) := by
        unfold rturned_b2
        first | rfl | trivial | decide | (unfold B4; (try simp only [] at *); omega) | ((try simp (disch := omega) only [wi, decide_eq_true_eq, decide_eq_false_iff_not] at *); omega) | (refine ⟨?_, ?_, ?_, ?_, ?_⟩ <;> first | rfl | decide | (unfold B4; omega))
      unfold rturned_b2 at h25
      rcases Bool.eq_false_or_eq_true (rturned_c14 a b c d n) with h26 | h26
      ·
        unfold rturned_c14 at h26
        have h27 : (rturned_b4 a b c d n) := by
          unfold rturned_b4
          first | rfl | trivial | decide | (unfold B4; (try simp only [] at *); omega) | ((try simp (disch := omega) only [wi, decide_eq_true_eq, decide_eq_false_iff_not] at *); omega) | (refine ⟨?_, ?_, ?_, ?_, ?_⟩ <;> first | rfl | decide | (unfold B4; omega))
        unfold rturned_b4 at h27
        rcases Bool.eq_false_or_eq_true (rturned_c15 a b c d n) with h28 | h28
        ·
          unfold rturned_c15 at h28
          have h29 : (rturned_b6 a b c d n) := by
            unfold rturned_b6
            first | rfl | trivial | decide | (unfold B4; (try simp only [] at *); omega) | ((try simp (disch := omega) only [wi, decide_eq_true_eq, decide_eq_false_iff_not] at *); omega) | (refine ⟨?_, ?_, ?_, ?_, ?_⟩ <;> first | rfl | decide | (unfold B4; omega))
          unfold rturned_b6 at h29
          rcases Bool.eq_false_or_eq_true (rturned_c16 a b c d n) with h30 | h30
          ·
            unfold rturned_c16 at h30
            have h31 : (rturned_b8 a b c d n) := by
              unfold rturned_b8
              first | rfl | trivial | decide | (unfold B4; (try simp only [] at *); omega) | ((try simp (disch := omega) only [wi, decide_eq_true_eq, decide_eq_false_iff_not] at *); omega) | (refine ⟨?_, ?_, ?_, ?_, ?_⟩ <;> first | rfl | decide | (unfold B4; omega))
            unfold rturned_b8 at h31
            rcases Bool.eq_false_or_eq_true (rturned_c17 a b c d n) with h32 | h32
            ·
              unfold rturned_c17 at h32
              have h33 : (rturned_b10 a b c d n) := by
                unfold rturned_b10
                first | rfl | trivial | decide | (unfold B4; (try simp only [] at *); omega) | ((try simp (disch := omega) only [wi, decide_eq_true_eq, decide_eq_false_iff_not] at *); omega) | (refine ⟨?_, ?_, ?_, ?_, ?_⟩ <;> first | rfl | decide | (unfold B4; omega))
              unfold rturned_b10 at h33
              rcases Bool.eq_false_or_eq_true (rturned_c18 a b c d n) with h34 | h34
              ·
                unfold rturned_c18 at h34
                have h35 : (rturned_b12 a b c d n) := by
                  unfold rturned_b12
                  first | rfl | trivial | decide | (unfold B4; (try simp only [] at *); omega) | ((try simp (disch := omega) only [wi, decide_eq_true_eq, decide_eq_false_iff_not] at *); omega) | (refine ⟨?_, ?_, ?_, ?_, ?_⟩ <;> first | rfl | decide | (unfold B4; omega))
                unfold rturned_b12 at h35
                rcases Bool.eq_false_or_eq_true (rturned_c19 a b c d n) with h36 | h36
                ·
                  unfold rturned_c19 at h36
                  have h37 : (rturned_b14 a b c d n) := by
                    unfold rturned_b14
                    first | rfl | trivial | decide | (unfold B4; (try simp only [] at *); omega) | ((try simp (disch := omega) only [wi, decide_eq_true_eq, decide_eq_false_iff_not] at *); omega) | (refine ⟨?_, ?_, ?_, ?_, ?_⟩ <;> first | rfl | decide | (unfold B4; omega))
                  unfold rturned_b14 at h37
                  rcases Bool.eq_false_or_eq_true (rturned_c20 a b c d n) with h38 | h38
                  ·
                    unfold rturned_c20 at h38
                    have h39 : (rturned_b16 a b c d n) := by
                      unfold rturned_b16
                      first | rfl | trivial | decide | (unfold B4; (try simp only [] at *); omega) | ((try simp (disch := omega) only [wi, decide_eq_true_eq, decide_eq_false_iff_not] at *); omega) | (refine ⟨?_, ?_, ?_, ?_, ?_⟩ <;> first | rfl | decide | (unfold B4; omega))
                    unfold rturned_b16 at h39
                    rcases Bool.eq_false_or_eq_true (rturned_c21 a b c d n) with h40 | h40
                    ·
                      unfold rturned_c21 at h40
                      have h41 : (rturned_b18 a b c d n) := by
                        unfold rturned_b18
                        first | rfl | trivial | decide | (unfold B4; (try simp only [] at *); omega) | ((try simp (disch := omega) only [wi, decide_eq_true_eq, decide_eq_false_iff_not] at *); omega) | (refine ⟨?_, ?_, ?_, ?_, ?_⟩ <;> first | rfl | decide | (unfold B4; omega))
                      unfold rturned_b18 at h41
                      rcases Bool.eq_false_or_eq_true (rturned_c22 a b c d n) with h42 | h42
                      ·
                        unfold rturned_c22 at h42
                        have h43 : (rturned_b20 a b c d n) := by
                          unfold rturned_b20
                          first | rfl | trivial | decide | (unfold B4; (try simp only [] at *); omega) | ((try simp (disch := omega) only [wi, decide_eq_true_eq, decide_eq_false_iff_not] at *); omega) | (refine ⟨?_, ?_, ?_, ?_, ?_⟩ <;> first | rfl | decide | (unfold B4; omega))
                        unfold rturned_b20 at h43
                        rcases Bool.eq_false_or_eq_true (rturned_c23 a b c d n) with h44 | h44
                        ·
                          unfold rturned_c23 at h44
                          have h45 : (rturned_b22 a b c d n) := by
                            unfold rturned_b22
                            first | rfl | trivial | decide | (unfold B4; (try simp only [] at *); omega) | ((try simp (disch := omega) only [wi, decide_eq_true_eq, decide_eq_false_iff_not] at *); omega) | (refine ⟨?_, ?_, ?_, ?_, ?_⟩ <;> first | rfl | decide | (unfold B4; omega))
                          unfold rturned_b22 at h45
                          have h46 : (rturned_c24 a b c d n = false) := by
                            unfold rturned_c24
                            first | rfl | trivial | decide | (unfold B4; (try simp only [] at *); omega) | ((try simp (disch := omega) only [wi, decide_eq_true_eq, decide_eq_false_iff_not] at *); omega) | (refine ⟨?_, ?_, ?_, ?_, ?_⟩ <;> first | rfl | decide | (unfold B4; omega))
                          unfold rturned_c24 at h46
                          have hp := rturned_p22 a b c d n ⟨⟨⟨⟨⟨⟨⟨⟨⟨⟨⟨⟨⟨⟨⟨⟨⟨⟨⟨⟨⟨⟨⟨⟨⟨⟨⟨⟨⟨⟨⟨⟨⟨⟨⟨trivial, h0⟩, h24⟩, h25⟩, h0⟩, h26⟩, h27⟩, h0⟩, h28⟩, h29⟩, h0⟩, h30⟩, h31⟩, h0⟩, h32⟩, h33⟩, h0⟩, h34⟩, h35⟩, h0⟩, h36⟩, h37⟩, h0⟩, h38⟩, h39⟩, h0⟩, h40⟩, h41⟩, h0⟩, h42⟩, h43⟩, h0⟩, h44⟩, h45⟩, h0⟩, h46⟩ w
                          have hv : rturned_w22 a b c d n = (rturned_val a b c d n) := by
                            clear hp
                            unfold rturned_w22 rturned_val
                            (try simp (disch := omega) only [wi, decide_eq_true_eq, decide_eq_false_iff_not] at *)
                            have hk : n % 12 = 0 ∨ n % 12 = 1 ∨ n % 12 = 2 ∨ n % 12 = 3 ∨ n % 12 = 4 ∨ n % 12 = 5 ∨ n % 12 = 6 ∨ n % 12 = 7 ∨ n % 12 = 8 ∨ n % 12 = 9 ∨ n % 12 = 10 ∨ n % 12 = 11 := by omega
                            rcases hk with hk | hk | hk | hk | hk | hk | hk | hk | hk | hk | hk | hk <;> first | (exfalso; omega) | skip
                            simp only [tn, hk, Int.reduceEq, ↓reduceIte]
                            (try simp only [p1, p2, p3, p4, Int.mul_one, Int.mul_zero, Int.mul_neg, Int.sub_zero, Int.zero_sub, Int.add_zero, Int.zero_add, Int.neg_neg, Int.neg_zero] at *)
                            all_goals (first | rfl | (simp only [Value.agg.injEq, Value.tuple.injEq, Array.mk.injEq, List.cons.injEq, Value.int.injEq, true_and, and_true]; omega))
                          exact hv ▸ hp
                        ·
                          unfold rturned_c23 at h44
                          have hp := rturned_p21 a b c d n ⟨⟨⟨⟨⟨⟨⟨⟨⟨⟨⟨⟨⟨⟨⟨⟨⟨⟨⟨⟨⟨⟨⟨⟨⟨⟨⟨⟨⟨⟨⟨⟨trivial, h0⟩, h24⟩, h25⟩, h0⟩, h26⟩, h27⟩, h0⟩, h28⟩, h29⟩, h0⟩, h30⟩, h31⟩, h0⟩, h32⟩, h33⟩, h0⟩, h34⟩, h35⟩, h0⟩, h36⟩, h37⟩, h0⟩, h38⟩, h39⟩, h0⟩, h40⟩, h41⟩, h0⟩, h42⟩, h43⟩, h0⟩, h44⟩ w
                          have hv : rturned_w21 a b c d n = (rturned_val a b c d n) := by
                            clear hp
                            unfold rturned_w21 rturned_val
                            (try simp (disch := omega) only [wi, decide_eq_true_eq, decide_eq_false_iff_not] at *)
                            have hk : n % 12 = 0 ∨ n % 12 = 1 ∨ n % 12 = 2 ∨ n % 12 = 3 ∨ n % 12 = 4 ∨ n % 12 = 5 ∨ n % 12 = 6 ∨ n % 12 = 7 ∨ n % 12 = 8 ∨ n % 12 = 9 ∨ n % 12 = 10 ∨ n % 12 = 11 := by omega
                            rcases hk with hk | hk | hk | hk | hk | hk | hk | hk | hk | hk | hk | hk <;> first | (exfalso; omega) | skip
                            simp only [tn, hk, Int.reduceEq, ↓reduceIte]
                            (try simp only [p1, p2, p3, p4, Int.mul_one, Int.mul_zero, Int.mul_neg, Int.sub_zero, Int.zero_sub, Int.add_zero, Int.zero_add, Int.neg_neg, Int.neg_zero] at *)
                            all_goals (first | rfl | (simp only [Value.agg.injEq, Value.tuple.injEq, Array.mk.injEq, List.cons.injEq, Value.int.injEq, true_and, and_true]; omega))
                          exact hv ▸ hp
                      ·
                        unfold rturned_c22 at h42
                        have hp := rturned_p20 a b c d n ⟨⟨⟨⟨⟨⟨⟨⟨⟨⟨⟨⟨⟨⟨⟨⟨⟨⟨⟨⟨⟨⟨⟨⟨⟨⟨⟨⟨⟨trivial, h0⟩, h24⟩, h25⟩, h0⟩, h26⟩, h27⟩, h0⟩, h28⟩, h29⟩, h0⟩, h30⟩, h31⟩, h0⟩, h32⟩, h33⟩, h0⟩, h34⟩, h35⟩, h0⟩, h36⟩, h37⟩, h0⟩, h38⟩, h39⟩, h0⟩, h40⟩, h41⟩, h0⟩, h42⟩ w
                        have hv : rturned_w20 a b c d n = (rturned_val a b c d n) := by
                          clear hp
                          unfold rturned_w20 rturned_val
                          (try simp (disch := omega) only [wi, decide_eq_true_eq, decide_eq_false_iff_not] at *)
                          have hk : n % 12 = 0 ∨ n % 12 = 1 ∨ n % 12 = 2 ∨ n % 12 = 3 ∨ n % 12 = 4 ∨ n % 12 = 5 ∨ n % 12 = 6 ∨ n % 12 = 7 ∨ n % 12 = 8 ∨ n % 12 = 9 ∨ n % 12 = 10 ∨ n % 12 = 11 := by omega
                          rcases hk with hk | hk | hk | hk | hk | hk | hk | hk | hk | hk | hk | hk <;> first | (exfalso; omega) | skip
                          simp only [tn, hk, Int.reduceEq, ↓reduceIte]
                          (try simp only [p1, p2, p3, p4, Int.mul_one, Int.mul_zero, Int.mul_neg, Int.sub_zero, Int.zero_sub, Int.add_zero, Int.zero_add, Int.neg_neg, Int.neg_zero] at *)
                          all_goals (first | rfl | (simp only [Value.agg.injEq, Value.tuple.injEq, Array.mk.injEq, List.cons.injEq, Value.int.injEq, true_and, and_true]; omega))
                        exact hv ▸ hp
                    ·
                      unfold rturned_c21 at h40
                      have hp := rturned_p19 a b c d n ⟨⟨⟨⟨⟨⟨⟨⟨⟨⟨⟨⟨⟨⟨⟨⟨⟨⟨⟨⟨⟨⟨⟨⟨⟨⟨trivial, h0⟩, h24⟩, h25⟩, h0⟩, h26⟩, h27⟩, h0⟩, h28⟩, h29⟩, h0⟩, h30⟩, h31⟩, h0⟩, h32⟩, h33⟩, h0⟩, h34⟩, h35⟩, h0⟩, h36⟩, h37⟩, h0⟩, h38⟩, h39⟩, h0⟩, h40⟩ w
                      have hv : rturned_w19 a b c d n = (rturned_val a b c d n) := by
                        clear hp
                        unfold rturned_w19 rturned_val
                        (try simp (disch := omega) only [wi, decide_eq_true_eq, decide_eq_false_iff_not] at *)
                        have hk : n % 12 = 0 ∨ n % 12 = 1 ∨ n % 12 = 2 ∨ n % 12 = 3 ∨ n % 12 = 4 ∨ n % 12 = 5 ∨ n % 12 = 6 ∨ n % 12 = 7 ∨ n % 12 = 8 ∨ n % 12 = 9 ∨ n % 12 = 10 ∨ n % 12 = 11 := by omega
                        rcases hk with hk | hk | hk | hk | hk | hk | hk | hk | hk | hk | hk | hk <;> first | (exfalso; omega) | skip
                        simp only [tn, hk, Int.reduceEq, ↓reduceIte]
                        (try simp only [p1, p2, p3, p4, Int.mul_one, Int.mul_zero, Int.mul_neg, Int.sub_zero, Int.zero_sub, Int.add_zero, Int.zero_add, Int.neg_neg, Int.neg_zero] at *)
                        all_goals (first | rfl | (simp only [Value.agg.injEq, Value.tuple.injEq, Array.mk.injEq, List.cons.injEq, Value.int.injEq, true_and, and_true]; omega))
                      exact hv ▸ hp
                  ·
                    unfold rturned_c20 at h38
                    have hp := rturned_p18 a b c d n ⟨⟨⟨⟨⟨⟨⟨⟨⟨⟨⟨⟨⟨⟨⟨⟨⟨⟨⟨⟨⟨⟨⟨trivial, h0⟩, h24⟩, h25⟩, h0⟩, h26⟩, h27⟩, h0⟩, h28⟩, h29⟩, h0⟩, h30⟩, h31⟩, h0⟩, h32⟩, h33⟩, h0⟩, h34⟩, h35⟩, h0⟩, h36⟩, h37⟩, h0⟩, h38⟩ w
                    have hv : rturned_w18 a b c d n = (rturned_val a b c d n) := by
                      clear hp
                      unfold rturned_w18 rturned_val
                      (try simp (disch := omega) only [wi, decide_eq_true_eq, decide_eq_false_iff_not] at *)
                      have hk : n % 12 = 0 ∨ n % 12 = 1 ∨ n % 12 = 2 ∨ n % 12 = 3 ∨ n % 12 = 4 ∨ n % 12 = 5 ∨ n % 12 = 6 ∨ n % 12 = 7 ∨ n % 12 = 8 ∨ n % 12 = 9 ∨ n % 12 = 10 ∨ n % 12 = 11 := by omega
                      rcases hk with hk | hk | hk | hk | hk | hk | hk | hk | hk | hk | hk | hk <;> first | (exfalso; omega) | skip
                      simp only [tn, hk, Int.reduceEq, ↓reduceIte]
                      (try simp only [p1, p2, p3, p4, Int.mul_one, Int.mul_zero, Int.mul_neg, Int.sub_zero, Int.zero_sub, Int.add_zero, Int.zero_add, Int.neg_neg, Int.neg_zero] at *)
                      all_goals (first | rfl | (simp only [Value.agg.injEq, Value.tuple.injEq, Array.mk.injEq, List.cons.injEq, Value.int.injEq, true_and, and_true]; omega))
                    exact hv ▸ hp
                ·
                  unfold rturned_c19 at h36
                  have hp := rturned_p17 a b c d n ⟨⟨⟨⟨⟨⟨⟨⟨⟨⟨⟨⟨⟨⟨⟨⟨⟨⟨⟨⟨trivial, h0⟩, h24⟩, h25⟩, h0⟩, h26⟩, h27⟩, h0⟩, h28⟩, h29⟩, h0⟩, h30⟩, h31⟩, h0⟩, h32⟩, h33⟩, h0⟩, h34⟩, h35⟩, h0⟩, h36⟩ w
                  have hv : rturned_w17 a b c d n = (rturned_val a b c d n) := by
                    clear hp
                    unfold rturned_w17 rturned_val
                    (try simp (disch := omega) only [wi, decide_eq_true_eq, decide_eq_false_iff_not] at *)
                    have hk : n % 12 = 0 ∨ n % 12 = 1 ∨ n % 12 = 2 ∨ n % 12 = 3 ∨ n % 12 = 4 ∨ n % 12 = 5 ∨ n % 12 = 6 ∨ n % 12 = 7 ∨ n % 12 = 8 ∨ n % 12 = 9 ∨ n % 12 = 10 ∨ n % 12 = 11 := by omega
                    rcases hk with hk | hk | hk | hk | hk | hk | hk | hk | hk | hk | hk | hk <;> first | (exfalso; omega) | skip
                    simp only [tn, hk, Int.reduceEq, ↓reduceIte]
                    (try simp only [p1, p2, p3, p4, Int.mul_one, Int.mul_zero, Int.mul_neg, Int.sub_zero, Int.zero_sub, Int.add_zero, Int.zero_add, Int.neg_neg, Int.neg_zero] at *)
                    all_goals (first | rfl | (simp only [Value.agg.injEq, Value.tuple.injEq, Array.mk.injEq, List.cons.injEq, Value.int.injEq, true_and, and_true]; omega))
                  exact hv ▸ hp
              ·
                unfold rturned_c18 at h34
                have hp := rturned_p16 a b c d n ⟨⟨⟨⟨⟨⟨⟨⟨⟨⟨⟨⟨⟨⟨⟨⟨⟨trivial, h0⟩, h24⟩, h25⟩, h0⟩, h26⟩, h27⟩, h0⟩, h28⟩, h29⟩, h0⟩, h30⟩, h31⟩, h0⟩, h32⟩, h33⟩, h0⟩, h34⟩ w
                have hv : rturned_w16 a b c d n = (rturned_val a b c d n) := by
                  clear hp
                  unfold rturned_w16 rturned_val
                  (try simp (disch := omega) only [wi, decide_eq_true_eq, decide_eq_false_iff_not] at *)
                  have hk : n % 12 = 0 ∨ n % 12 = 1 ∨ n % 12 = 2 ∨ n % 12 = 3 ∨ n % 12 = 4 ∨ n % 12 = 5 ∨ n % 12 = 6 ∨ n % 12 = 7 ∨ n % 12 = 8 ∨ n % 12 = 9 ∨ n % 12 = 10 ∨ n % 12 = 11 := by omega
                  rcases hk with hk | hk | hk | hk | hk | hk | hk | hk | hk | hk | hk | hk <;> first | (exfalso; omega) | skip
                  simp only [tn, hk, Int.reduceEq, ↓reduceIte]
                  (try simp only [p1, p2, p3, p4, Int.mul_one, Int.mul_zero, Int.mul_neg, Int.sub_zero, Int.zero_sub, Int.add_zero, Int.zero_add, Int.neg_neg, Int.neg_zero] at *)
                  all_goals (first | rfl | (simp only [Value.agg.injEq, Value.tuple.injEq, Array.mk.injEq, List.cons.injEq, Value.int.injEq, true_and, and_true]; omega))
                exact hv ▸ hp
            ·
              unfold rturned_c17 at h32
              have hp := rturned_p15 a b c d n ⟨⟨⟨⟨⟨⟨⟨⟨⟨⟨⟨⟨⟨⟨trivial, h0⟩, h24⟩, h25⟩, h0⟩, h26⟩, h27⟩, h0⟩, h28⟩, h29⟩, h0⟩, h30⟩, h31⟩, h0⟩, h32⟩ w
              have hv : rturned_w15 a b c d n = (rturned_val a b c d n) := by
                clear hp
                unfold rturned_w15 rturned_val
                (try simp (disch := omega) only [wi, decide_eq_true_eq, decide_eq_false_iff_not] at *)
                have hk : n % 12 = 0 ∨ n % 12 = 1 ∨ n % 12 = 2 ∨ n % 12 = 3 ∨ n % 12 = 4 ∨ n % 12 = 5 ∨ n % 12 = 6 ∨ n % 12 = 7 ∨ n % 12 = 8 ∨ n % 12 = 9 ∨ n % 12 = 10 ∨ n % 12 = 11 := by omega
                rcases hk with hk | hk | hk | hk | hk | hk | hk | hk | hk | hk | hk | hk <;> first | (exfalso; omega) | skip
                simp only [tn, hk, Int.reduceEq, ↓reduceIte]
                (try simp only [p1, p2, p3, p4, Int.mul_one, Int.mul_zero, Int.mul_neg, Int.sub_zero, Int.zero_sub, Int.add_zero, Int.zero_add, Int.neg_neg, Int.neg_zero] at *)
                all_goals (first | rfl | (simp only [Value.agg.injEq, Value.tuple.injEq, Array.mk.injEq, List.cons.injEq, Value.int.injEq, true_and, and_true]; omega))
              exact hv ▸ hp
          ·
            unfold rturned_c16 at h30
            have hp := rturned_p14 a b c d n ⟨⟨⟨⟨⟨⟨⟨⟨⟨⟨⟨trivial, h0⟩, h24⟩, h25⟩, h0⟩, h26⟩, h27⟩, h0⟩, h28⟩, h29⟩, h0⟩, h30⟩ w
            have hv : rturned_w14 a b c d n = (rturned_val a b c d n) := by
              clear hp
              unfold rturned_w14 rturned_val
              (try simp (disch := omega) only [wi, decide_eq_true_eq, decide_eq_false_iff_not] at *)
              have hk : n % 12 = 0 ∨ n % 12 = 1 ∨ n % 12 = 2 ∨ n % 12 = 3 ∨ n % 12 = 4 ∨ n % 12 = 5 ∨ n % 12 = 6 ∨ n % 12 = 7 ∨ n % 12 = 8 ∨ n % 12 = 9 ∨ n % 12 = 10 ∨ n % 12 = 11 := by omega
              rcases hk with hk | hk | hk | hk | hk | hk | hk | hk | hk | hk | hk | hk <;> first | (exfalso; omega) | skip
              simp only [tn, hk, Int.reduceEq, ↓reduceIte]
              (try simp only [p1, p2, p3, p4, Int.mul_one, Int.mul_zero, Int.mul_neg, Int.sub_zero, Int.zero_sub, Int.add_zero, Int.zero_add, Int.neg_neg, Int.neg_zero] at *)
              all_goals (first | rfl | (simp only [Value.agg.injEq, Value.tuple.injEq, Array.mk.injEq, List.cons.injEq, Value.int.injEq, true_and, and_true]; omega))
            exact hv ▸ hp
        ·
          unfold rturned_c15 at h28
          have hp := rturned_p13 a b c d n ⟨⟨⟨⟨⟨⟨⟨⟨trivial, h0⟩, h24⟩, h25⟩, h0⟩, h26⟩, h27⟩, h0⟩, h28⟩ w
          have hv : rturned_w13 a b c d n = (rturned_val a b c d n) := by
            clear hp
            unfold rturned_w13 rturned_val
            (try simp (disch := omega) only [wi, decide_eq_true_eq, decide_eq_false_iff_not] at *)
            have hk : n % 12 = 0 ∨ n % 12 = 1 ∨ n % 12 = 2 ∨ n % 12 = 3 ∨ n % 12 = 4 ∨ n % 12 = 5 ∨ n % 12 = 6 ∨ n % 12 = 7 ∨ n % 12 = 8 ∨ n % 12 = 9 ∨ n % 12 = 10 ∨ n % 12 = 11 := by omega
            rcases hk with hk | hk | hk | hk | hk | hk | hk | hk | hk | hk | hk | hk <;> first | (exfalso; omega) | skip
            simp only [tn, hk, Int.reduceEq, ↓reduceIte]
            (try simp only [p1, p2, p3, p4, Int.mul_one, Int.mul_zero, Int.mul_neg, Int.sub_zero, Int.zero_sub, Int.add_zero, Int.zero_add, Int.neg_neg, Int.neg_zero] at *)
            all_goals (first | rfl | (simp only [Value.agg.injEq, Value.tuple.injEq, Array.mk.injEq, List.cons.injEq, Value.int.injEq, true_and, and_true]; omega))
          exact hv ▸ hp
      ·
        unfold rturned_c14 at h26
        have hp := rturned_p12 a b c d n ⟨⟨⟨⟨⟨trivial, h0⟩, h24⟩, h25⟩, h0⟩, h26⟩ w
        have hv : rturned_w12 a b c d n = (rturned_val a b c d n) := by
          clear hp
          unfold rturned_w12 rturned_val
          (try simp (disch := omega) only [wi, decide_eq_true_eq, decide_eq_false_iff_not] at *)
          have hk : n % 12 = 0 ∨ n % 12 = 1 ∨ n % 12 = 2 ∨ n % 12 = 3 ∨ n % 12 = 4 ∨ n % 12 = 5 ∨ n % 12 = 6 ∨ n % 12 = 7 ∨ n % 12 = 8 ∨ n % 12 = 9 ∨ n % 12 = 10 ∨ n % 12 = 11 := by omega
          rcases hk with hk | hk | hk | hk | hk | hk | hk | hk | hk | hk | hk | hk <;> first | (exfalso; omega) | skip
          simp only [tn, hk, Int.reduceEq, ↓reduceIte]
          (try simp only [p1, p2, p3, p4, Int.mul_one, Int.mul_zero, Int.mul_neg, Int.sub_zero, Int.zero_sub, Int.add_zero, Int.zero_add, Int.neg_neg, Int.neg_zero] at *)
          all_goals (first | rfl | (simp only [Value.agg.injEq, Value.tuple.injEq, Array.mk.injEq, List.cons.injEq, Value.int.injEq, true_and, and_true]; omega))
        exact hv ▸ hp
    ·
      unfold rturned_c13 at h24
      have hp := rturned_p1 a b c d n ⟨⟨trivial, h0⟩, h24⟩ w
      have hv : rturned_w1 a b c d n = (rturned_val a b c d n) := by
        clear hp
        unfold rturned_w1 rturned_val
        (try simp (disch := omega) only [wi, decide_eq_true_eq, decide_eq_false_iff_not] at *)
        have hk : n % 12 = 0 ∨ n % 12 = 1 ∨ n % 12 = 2 ∨ n % 12 = 3 ∨ n % 12 = 4 ∨ n % 12 = 5 ∨ n % 12 = 6 ∨ n % 12 = 7 ∨ n % 12 = 8 ∨ n % 12 = 9 ∨ n % 12 = 10 ∨ n % 12 = 11 := by omega
        rcases hk with hk | hk | hk | hk | hk | hk | hk | hk | hk | hk | hk | hk <;> first | (exfalso; omega) | skip
        simp only [tn, hk, Int.reduceEq, ↓reduceIte]
        (try simp only [p1, p2, p3, p4, Int.mul_one, Int.mul_zero, Int.mul_neg, Int.sub_zero, Int.zero_sub, Int.add_zero, Int.zero_add, Int.neg_neg, Int.neg_zero] at *)
        all_goals (first | rfl | (simp only [Value.agg.injEq, Value.tuple.injEq, Array.mk.injEq, List.cons.injEq, Value.int.injEq, true_and, and_true]; omega))
      exact hv ▸ hp
theorem k_rturned : ConOk Tryz.prog c_rturned := fun ns hl => by
  have hl0 : ns.length = 5 := hl
  clear hl
  obtain ⟨a, ns0, rfl, hl1⟩ := len_cons hl0
  obtain ⟨b, ns1, rfl, hl2⟩ := len_cons hl1
  obtain ⟨c, ns2, rfl, hl3⟩ := len_cons hl2
  obtain ⟨d, ns3, rfl, hl4⟩ := len_cons hl3
  obtain ⟨n, ns4, rfl, hl5⟩ := len_cons hl4
  obtain rfl := len_nil hl5
  exact ⟨rfl, fun h w => rturned_any a b c d n h w⟩
end Go.Proofs.YtgnmhapgciejfaaGreatDoor
end
section
set_option linter.all false
set_option maxRecDepth 1000000
set_option maxHeartbeats 2000000
open Go.RowKit
namespace Go.Proofs.YtgnmhapgciejfaaGreatDoor
open Mini

def rstrength_val (a b c d : Int) : Value := .agg #[.int .i64 (sA a b c d), .int .i64 (sB a b c d)]
theorem rstrength_X : FOkS Tryz.prog x_rstrength := noXS_ok
theorem rstrength_args (a b c d : Int) : (#[.agg #[.int .i64 a, .int .i64 b, .int .i64 c, .int .i64 d]] : Array Value).toList.all (ground 8) = true := by kernel_rfl
def rstrength_w0 (a b c d : Int) : Value := .agg #[.int .i64 (IntKind.i64.wrap ((IntKind.i64.wrap ((IntKind.i64.wrap (a * (IntKind.i64.wrap (a - b)))) - (IntKind.i64.wrap (b * (IntKind.i64.wrap ((0 : Int) - b)))))) - (IntKind.i64.wrap ((IntKind.i64.wrap (c * (IntKind.i64.wrap ((0 : Int) - (IntKind.i64.wrap (c - d)))))) - (IntKind.i64.wrap (d * (IntKind.i64.wrap ((0 : Int) - (IntKind.i64.wrap ((0 : Int) - d)))))))))), .int .i64 (IntKind.i64.wrap ((0 : Int) - (IntKind.i64.wrap ((IntKind.i64.wrap ((IntKind.i64.wrap (a * (IntKind.i64.wrap ((0 : Int) - (IntKind.i64.wrap (c - d)))))) - (IntKind.i64.wrap (b * (IntKind.i64.wrap ((0 : Int) - (IntKind.i64.wrap ((0 : Int) - d)))))))) + (IntKind.i64.wrap ((IntKind.i64.wrap (c * (IntKind.i64.wrap (a - b)))) - (IntKind.i64.wrap (d * (IntKind.i64.wrap ((0 : Int) - b))))))))))]
def rstrength_r0 (a b c d : Int) : Prop := True
theorem rstrength_o0 (a b c d : Int) : obOf (rstrength_e0 a b c d) = rstrength_r0 a b c d := by kernel_rfl
theorem rstrength_v0 (a b c d : Int) : resOf (rstrength_e0 a b c d) = rstrength_w0 a b c d := by kernel_rfl
theorem rstrength_k0 (a b c d : Int) : cleanOf Tryz.prog.globals.size (rstrength_e0 a b c d) = true := by kernel_rfl
theorem rstrength_q0 (a b c d : Int) : rstrength_e0 a b c d = evFS Tryz.prog x_rstrength 1000 27 #[.agg #[.int .i64 a, .int .i64 b, .int .i64 c, .int .i64 d]] (noTabs 7) ⟨[], True⟩ := by
  delta rstrength_e0
  exact Eq.refl _
theorem rstrength_p0 (a b c d : Int) (h : rstrength_r0 a b c d) (w : World) : Calls Tryz.prog 27 #[.agg #[.int .i64 a, .int .i64 b, .int .i64 c, .int .i64 d]] w fun en w' => en = .returned (rstrength_w0 a b c d) ∧ Below w.heap.size w w' := by
  have hv := rstrength_v0 a b c d
  have hc := rstrength_k0 a b c d
  have he := rstrength_q0 a b c d
  have ho := rstrength_o0 a b c d
  generalize rstrength_e0 a b c d = r at *
  exact calls_way he gfol rstrength_X hv rfl (rstrength_args a b c d) hc ho h (bl w)
theorem rstrength_any (a b c d : Int) (hpre : B4 1048576 a b c d) (w : World) : Calls Tryz.prog 27 #[.agg #[.int .i64 a, .int .i64 b, .int .i64 c, .int .i64 d]] w fun en w' => en = .returned (rstrength_val a b c d) ∧ Below w.heap.size w w' := by
  obtain ⟨q1, q2, q3, q4, q5, q6, q7, q8⟩ := hpre
  have b_aa := bd 1048576 1048576 a a (by omega) (by omega) ⟨by omega, by omega⟩ ⟨by omega, by omega⟩
  have b_ab := bd 1048576 1048576 a b (by omega) (by omega) ⟨by omega, by omega⟩ ⟨by omega, by omega⟩
  have b_bb := bd 1048576 1048576 b b (by omega) (by omega) ⟨by omega, by omega⟩ ⟨by omega, by omega⟩
  have b_cc := bd 1048576 1048576 c c (by omega) (by omega) ⟨by omega, by omega⟩ ⟨by omega, by omega⟩
  have b_cd := bd 1048576 1048576 c d (by omega) (by omega) ⟨by omega, by omega⟩ ⟨by omega, by omega⟩
  have b_dd := bd 1048576 1048576 d d (by omega) (by omega) ⟨by omega, by omega⟩ ⟨by omega, by omega⟩
  have b_cb := bd 1048576 1048576 c b (by omega) (by omega) ⟨by omega, by omega⟩ ⟨by omega, by omega⟩
  have b_da := bd 1048576 1048576 d a (by omega) (by omega) ⟨by omega, by omega⟩ ⟨by omega, by omega⟩
  have b_db := bd 1048576 1048576 d b (by omega) (by omega) ⟨by omega, by omega⟩ ⟨by omega, by omega⟩
  have b_ac := bd 1048576 1048576 a c (by omega) (by omega) ⟨by omega, by omega⟩ ⟨by omega, by omega⟩
  have b_ad := bd 1048576 1048576 a d (by omega) (by omega) ⟨by omega, by omega⟩ ⟨by omega, by omega⟩
  have b_ca := bd 1048576 1048576 c a (by omega) (by omega) ⟨by omega, by omega⟩ ⟨by omega, by omega⟩
  have b_bc := bd 1048576 1048576 b c (by omega) (by omega) ⟨by omega, by omega⟩ ⟨by omega, by omega⟩
  have b_bd := bd 1048576 1048576 b d (by omega) (by omega) ⟨by omega, by omega⟩ ⟨by omega, by omega⟩
  have hp := rstrength_p0 a b c d trivial w
  have hv : rstrength_w0 a b c d = (rstrength_val a b c d) := by
    clear hp
    unfold rstrength_w0 rstrength_val
    (try simp (disch := omega) only [wi, Int.mul_sub, Int.mul_zero, Int.zero_sub, Int.mul_neg, Int.neg_sub])
    simp only [sA, sB]
    first | rfl | (simp only [Value.agg.injEq, Array.mk.injEq, List.cons.injEq, Value.int.injEq, true_and, and_true]; grind)
  exact hv ▸ hp
theorem k_rstrength : ConOk Tryz.prog c_rstrength := fun ns hl => by
  have hl0 : ns.length = 4 := hl
  clear hl
  obtain ⟨a, ns0, rfl, hl1⟩ := len_cons hl0
  obtain ⟨b, ns1, rfl, hl2⟩ := len_cons hl1
  obtain ⟨c, ns2, rfl, hl3⟩ := len_cons hl2
  obtain ⟨d, ns3, rfl, hl4⟩ := len_cons hl3
  obtain rfl := len_nil hl4
  exact ⟨rfl, fun h w => rstrength_any a b c d h w⟩
end Go.Proofs.YtgnmhapgciejfaaGreatDoor
end
section
set_option linter.all false
set_option maxRecDepth 1000000
set_option maxHeartbeats 2000000
open Go.RowKit
namespace Go.Proofs.YtgnmhapgciejfaaGreatDoor
open Mini

def rsign_val (a b : Int) : Value := .int .i64 (sgn a b)
theorem rsign_X : FOkS Tryz.prog x_rsign := noXS_ok
theorem rsign_args (a b : Int) : (#[.agg #[.int .i64 a, .int .i64 b]] : Array Value).toList.all (ground 8) = true := by kernel_rfl
def rsign_c0 (a b : Int) : Bool := (a == (0 : Int))
theorem rsign_g1 : (false = false) := by first | rfl | trivial | decide | omega
def rsign_c1 (a b : Int) : Bool := (decide (a ≥ (0 : Int)))
def rsign_c2 (a b : Int) : Bool := (decide (a > (0 : Int)))
def rsign_c3 (a b : Int) : Bool := (decide (b > (0 : Int)))
def rsign_c4 (a b : Int) : Bool := (decide ((IntKind.i64.wrap ((IntKind.i64.wrap ((3 : Int) * b)) * b)) > (IntKind.i64.wrap (a * a))))
def rsign_c5 (a b : Int) : Bool := (b == (0 : Int))
def rsign_c6 (a b : Int) : Bool := (decide (b ≥ (0 : Int)))
theorem rsign_g14 : (true = true) := by first | rfl | trivial | decide | omega
def rsign_c7 (a b : Int) : Bool := (decide ((IntKind.i64.wrap (a * a)) > (IntKind.i64.wrap ((IntKind.i64.wrap ((3 : Int) * b)) * b))))
def rsign_w0 (a b : Int) : Value := .int .i64 (-1 : Int)
def rsign_r0 (a b : Int) : Prop := ((((((((((((((((((((((((((((((True ∧ (rsign_c0 a b = false)) ∧ (rsign_c0 a b = false)) ∧ (rsign_c0 a b = false)) ∧ (rsign_c0 a b = false)) ∧ ((false = false))) ∧ (rsign_c1 a b = false)) ∧ (rsign_c1 a b = false)) ∧ (rsign_c1 a b = false)) ∧ (rsign_c1 a b = false)) ∧ ((false = false))) ∧ ((false = false))) ∧ ((false = false))) ∧ ((false = false))) ∧ (rsign_c2 a b = false)) ∧ (rsign_c2 a b = false)) ∧ (rsign_c2 a b = false)) ∧ ((false = false))) ∧ (rsign_c2 a b = false)) ∧ ((false = false))) ∧ ((false = false))) ∧ ((false = false))) ∧ ((false = false))) ∧ ((false = false))) ∧ (rsign_c3 a b = false)) ∧ (rsign_c3 a b = false)) ∧ (rsign_c3 a b = false)) ∧ ((false = false))) ∧ (rsign_c3 a b = false)) ∧ ((false = false))) ∧ ((false = false)))
theorem rsign_o0 (a b : Int) : obOf (rsign_e0 a b) = rsign_r0 a b := by kernel_rfl
theorem rsign_v0 (a b : Int) : resOf (rsign_e0 a b) = rsign_w0 a b := by kernel_rfl
theorem rsign_k0 (a b : Int) : cleanOf Tryz.prog.globals.size (rsign_e0 a b) = true := by kernel_rfl
theorem rsign_q0 (a b : Int) : rsign_e0 a b = evFS Tryz.prog x_rsign 1000 29 #[.agg #[.int .i64 a, .int .i64 b]] (noTabs 7) ⟨[0, 0, 0, 0, 0, 0, 0, 0, 0, 1, 1, 1, 1, 0, 0, 0, 1, 0, 0, 1, 1, 1, 1, 0, 0, 0, 1, 0, 0, 0], True⟩ := by
  delta rsign_e0
  exact Eq.refl _
theorem rsign_p0 (a b : Int) (h : rsign_r0 a b) (w : World) : Calls Tryz.prog 29 #[.agg #[.int .i64 a, .int .i64 b]] w fun en w' => en = .returned (rsign_w0 a b) ∧ Below w.heap.size w w' := by
  have hv := rsign_v0 a b
  have hc := rsign_k0 a b
  have he := rsign_q0 a b
  have ho := rsign_o0 a b
  generalize rsign_e0 a b = r at *
  exact calls_way he gfol rsign_X hv rfl (rsign_args a b) hc ho h (bl w)
def rsign_w1 (a b : Int) : Value := .int .i64 (-1 : Int)
def rsign_r1 (a b : Int) : Prop := ((((((((((((((((((((((((((((((True ∧ (rsign_c0 a b = false)) ∧ (rsign_c0 a b = false)) ∧ (rsign_c0 a b = false)) ∧ (rsign_c0 a b = false)) ∧ ((false = false))) ∧ (rsign_c1 a b = false)) ∧ (rsign_c1 a b = false)) ∧ (rsign_c1 a b = false)) ∧ (rsign_c1 a b = false)) ∧ ((false = false))) ∧ ((false = false))) ∧ ((false = false))) ∧ ((false = false))) ∧ (rsign_c2 a b = false)) ∧ (rsign_c2 a b = false)) ∧ (rsign_c2 a b = false)) ∧ ((false = false))) ∧ (rsign_c2 a b = false)) ∧ ((false = false))) ∧ ((false = false))) ∧ ((false = false))) ∧ ((false = false))) ∧ ((false = false))) ∧ (rsign_c3 a b = true)) ∧ (rsign_c3 a b = true)) ∧ (rsign_c3 a b = true)) ∧ ((false = false))) ∧ (rsign_c3 a b = true)) ∧ ((false = false))) ∧ (rsign_c4 a b = false))
theorem rsign_o1 (a b : Int) : obOf (rsign_e1 a b) = rsign_r1 a b := by kernel_rfl
theorem rsign_v1 (a b : Int) : resOf (rsign_e1 a b) = rsign_w1 a b := by kernel_rfl
theorem rsign_k1 (a b : Int) : cleanOf Tryz.prog.globals.size (rsign_e1 a b) = true := by kernel_rfl
theorem rsign_q1 (a b : Int) : rsign_e1 a b = evFS Tryz.prog x_rsign 1000 29 #[.agg #[.int .i64 a, .int .i64 b]] (noTabs 7) ⟨[0, 0, 0, 0, 0, 0, 0, 0, 0, 1, 1, 1, 1, 0, 0, 0, 1, 0, 0, 1, 1, 1, 1, 1, 1, 1, 1, 1, 0, 0], True⟩ := by
  delta rsign_e1
  exact Eq.refl _
theorem rsign_p1 (a b : Int) (h : rsign_r1 a b) (w : World) : Calls Tryz.prog 29 #[.agg #[.int .i64 a, .int .i64 b]] w fun en w' => en = .returned (rsign_w1 a b) ∧ Below w.heap.size w w' := by
  have hv := rsign_v1 a b
  have hc := rsign_k1 a b
  have he := rsign_q1 a b
  have ho := rsign_o1 a b
  generalize rsign_e1 a b = r at *
  exact calls_way he gfol rsign_X hv rfl (rsign_args a b) hc ho h (bl w)
def rsign_w2 (a b : Int) : Value := .int .i64 (1 : Int)
def rsign_r2 (a b : Int) : Prop := ((((((((((((((((((((((((((((((True ∧ (rsign_c0 a b = false)) ∧ (rsign_c0 a b = false)) ∧ (rsign_c0 a b = false)) ∧ (rsign_c0 a b = false)) ∧ ((false = false))) ∧ (rsign_c1 a b = false)) ∧ (rsign_c1 a b = false)) ∧ (rsign_c1 a b = false)) ∧ (rsign_c1 a b = false)) ∧ ((false = false))) ∧ ((false = false))) ∧ ((false = false))) ∧ ((false = false))) ∧ (rsign_c2 a b = false)) ∧ (rsign_c2 a b = false)) ∧ (rsign_c2 a b = false)) ∧ ((false = false))) ∧ (rsign_c2 a b = false)) ∧ ((false = false))) ∧ ((false = false))) ∧ ((false = false))) ∧ ((false = false))) ∧ ((false = false))) ∧ (rsign_c3 a b = true)) ∧ (rsign_c3 a b = true)) ∧ (rsign_c3 a b = true)) ∧ ((false = false))) ∧ (rsign_c3 a b = true)) ∧ ((false = false))) ∧ (rsign_c4 a b = true))
theorem rsign_o2 (a b : Int) : obOf (rsign_e2 a b) = rsign_r2 a b := by kernel_rfl
theorem rsign_v2 (a b : Int) : resOf (rsign_e2 a b) = rsign_w2 a b := by kernel_rfl
theorem rsign_k2 (a b : Int) : cleanOf Tryz.prog.globals.size (rsign_e2 a b) = true := by kernel_rfl
theorem rsign_q2 (a b : Int) : rsign_e2 a b = evFS Tryz.prog x_rsign 1000 29 #[.agg #[.int .i64 a, .int .i64 b]] (noTabs 7) ⟨[0, 0, 0, 0, 0, 0, 0, 0, 0, 1, 1, 1, 1, 0, 0, 0, 1, 0, 0, 1, 1, 1, 1, 1, 1, 1, 1, 1, 0, 1], True⟩ := by
  delta rsign_e2
  exact Eq.refl _
theorem rsign_p2 (a b : Int) (h : rsign_r2 a b) (w : World) : Calls Tryz.prog 29 #[.agg #[.int .i64 a, .int .i64 b]] w fun en w' => en = .returned (rsign_w2 a b) ∧ Below w.heap.size w w' := by
  have hv := rsign_v2 a b
  have hc := rsign_k2 a b
  have he := rsign_q2 a b
  have ho := rsign_o2 a b
  generalize rsign_e2 a b = r at *
  exact calls_way he gfol rsign_X hv rfl (rsign_args a b) hc ho h (bl w)
def rsign_w3 (a b : Int) : Value := .int .i64 (-1 : Int)
def rsign_r3 (a b : Int) : Prop := ((((((((((((((((((((((((((((((True ∧ (rsign_c0 a b = true)) ∧ (rsign_c0 a b = true)) ∧ (rsign_c0 a b = true)) ∧ (rsign_c0 a b = true)) ∧ (rsign_c5 a b = false)) ∧ (rsign_c1 a b = true)) ∧ (rsign_c1 a b = true)) ∧ (rsign_c1 a b = true)) ∧ (rsign_c1 a b = true)) ∧ (rsign_c6 a b = false)) ∧ (rsign_c6 a b = false)) ∧ (rsign_c6 a b = false)) ∧ (rsign_c6 a b = false)) ∧ (rsign_c2 a b = false)) ∧ (rsign_c2 a b = false)) ∧ (rsign_c2 a b = false)) ∧ (rsign_c6 a b = false)) ∧ (rsign_c2 a b = false)) ∧ (rsign_c6 a b = false)) ∧ ((false = false))) ∧ ((false = false))) ∧ ((false = false))) ∧ ((false = false))) ∧ (rsign_c3 a b = false)) ∧ (rsign_c3 a b = false)) ∧ (rsign_c3 a b = false)) ∧ ((false = false))) ∧ (rsign_c3 a b = false)) ∧ ((false = false))) ∧ ((false = false)))
theorem rsign_o3 (a b : Int) : obOf (rsign_e3 a b) = rsign_r3 a b := by kernel_rfl
theorem rsign_v3 (a b : Int) : resOf (rsign_e3 a b) = rsign_w3 a b := by kernel_rfl
theorem rsign_k3 (a b : Int) : cleanOf Tryz.prog.globals.size (rsign_e3 a b) = true := by kernel_rfl
theorem rsign_q3 (a b : Int) : rsign_e3 a b = evFS Tryz.prog x_rsign 1000 29 #[.agg #[.int .i64 a, .int .i64 b]] (noTabs 7) ⟨[1, 1, 1, 1, 0, 1, 1, 1, 1, 1, 1, 1, 1, 0, 0, 0, 1, 0, 0, 1, 1, 1, 1, 0, 0, 0, 1, 0, 0, 0], True⟩ := by
  delta rsign_e3
  exact Eq.refl _
theorem rsign_p3 (a b : Int) (h : rsign_r3 a b) (w : World) : Calls Tryz.prog 29 #[.agg #[.int .i64 a, .int .i64 b]] w fun en w' => en = .returned (rsign_w3 a b) ∧ Below w.heap.size w w' := by
  have hv := rsign_v3 a b
  have hc := rsign_k3 a b
  have he := rsign_q3 a b
  have ho := rsign_o3 a b
  generalize rsign_e3 a b = r at *
  exact calls_way he gfol rsign_X hv rfl (rsign_args a b) hc ho h (bl w)
def rsign_w4 (a b : Int) : Value := .int .i64 (0 : Int)
def rsign_r4 (a b : Int) : Prop := (((((True ∧ (rsign_c0 a b = true)) ∧ (rsign_c0 a b = true)) ∧ (rsign_c0 a b = true)) ∧ (rsign_c0 a b = true)) ∧ (rsign_c5 a b = true))
theorem rsign_o4 (a b : Int) : obOf (rsign_e4 a b) = rsign_r4 a b := by kernel_rfl
theorem rsign_v4 (a b : Int) : resOf (rsign_e4 a b) = rsign_w4 a b := by kernel_rfl
theorem rsign_k4 (a b : Int) : cleanOf Tryz.prog.globals.size (rsign_e4 a b) = true := by kernel_rfl
theorem rsign_q4 (a b : Int) : rsign_e4 a b = evFS Tryz.prog x_rsign 1000 29 #[.agg #[.int .i64 a, .int .i64 b]] (noTabs 7) ⟨[1, 1, 1, 1, 1], True⟩ := by
  delta rsign_e4
  exact Eq.refl _
theorem rsign_p4 (a b : Int) (h : rsign_r4 a b) (w : World) : Calls Tryz.prog 29 #[.agg #[.int .i64 a, .int .i64 b]] w fun en w' => en = .returned (rsign_w4 a b) ∧ Below w.heap.size w w' := by
  have hv := rsign_v4 a b
  have hc := rsign_k4 a b
  have he := rsign_q4 a b
  have ho := rsign_o4 a b
  generalize rsign_e4 a b = r at *
  exact calls_way he gfol rsign_X hv rfl (rsign_args a b) hc ho h (bl w)
def rsign_w5 (a b : Int) : Value := .int .i64 (1 : Int)
def rsign_r5 (a b : Int) : Prop := ((((((((((((((((((((((True ∧ (rsign_c0 a b = true)) ∧ (rsign_c0 a b = true)) ∧ (rsign_c0 a b = true)) ∧ (rsign_c0 a b = true)) ∧ (rsign_c5 a b = false)) ∧ (rsign_c1 a b = true)) ∧ (rsign_c1 a b = true)) ∧ (rsign_c1 a b = true)) ∧ (rsign_c1 a b = true)) ∧ (rsign_c6 a b = true)) ∧ (rsign_c6 a b = true)) ∧ (rsign_c6 a b = true)) ∧ (rsign_c6 a b = true)) ∧ (rsign_c6 a b = true)) ∧ (rsign_c6 a b = true)) ∧ ((true = true))) ∧ ((true = true))) ∧ ((true = true))) ∧ ((true = true))) ∧ ((true = true))) ∧ ((true = true))) ∧ ((true = true)))
theorem rsign_o5 (a b : Int) : obOf (rsign_e5 a b) = rsign_r5 a b := by kernel_rfl
theorem rsign_v5 (a b : Int) : resOf (rsign_e5 a b) = rsign_w5 a b := by kernel_rfl
theorem rsign_k5 (a b : Int) : cleanOf Tryz.prog.globals.size (rsign_e5 a b) = true := by kernel_rfl
theorem rsign_q5 (a b : Int) : rsign_e5 a b = evFS Tryz.prog x_rsign 1000 29 #[.agg #[.int .i64 a, .int .i64 b]] (noTabs 7) ⟨[1, 1, 1, 1, 0, 1, 1, 1, 1, 0, 0, 0, 0, 0, 0, 0, 0, 1, 0, 0, 0, 0, 0, 0, 0, 0, 1, 1], True⟩ := by
  delta rsign_e5
  exact Eq.refl _
theorem rsign_p5 (a b : Int) (h : rsign_r5 a b) (w : World) : Calls Tryz.prog 29 #[.agg #[.int .i64 a, .int .i64 b]] w fun en w' => en = .returned (rsign_w5 a b) ∧ Below w.heap.size w w' := by
  have hv := rsign_v5 a b
  have hc := rsign_k5 a b
  have he := rsign_q5 a b
  have ho := rsign_o5 a b
  generalize rsign_e5 a b = r at *
  exact calls_way he gfol rsign_X hv rfl (rsign_args a b) hc ho h (bl w)
def rsign_w6 (a b : Int) : Value := .int .i64 (-1 : Int)
def rsign_r6 (a b : Int) : Prop := ((((((((((((((((((((((((((((((True ∧ (rsign_c0 a b = false)) ∧ (rsign_c0 a b = false)) ∧ (rsign_c0 a b = false)) ∧ (rsign_c0 a b = false)) ∧ ((false = false))) ∧ (rsign_c1 a b = true)) ∧ (rsign_c1 a b = true)) ∧ (rsign_c1 a b = true)) ∧ (rsign_c1 a b = true)) ∧ (rsign_c6 a b = false)) ∧ (rsign_c6 a b = false)) ∧ (rsign_c6 a b = false)) ∧ (rsign_c6 a b = false)) ∧ (rsign_c2 a b = true)) ∧ (rsign_c2 a b = true)) ∧ (rsign_c2 a b = true)) ∧ (rsign_c6 a b = false)) ∧ (rsign_c2 a b = true)) ∧ (rsign_c6 a b = false)) ∧ (rsign_c7 a b = false)) ∧ (rsign_c7 a b = false)) ∧ (rsign_c7 a b = false)) ∧ (rsign_c7 a b = false)) ∧ (rsign_c3 a b = false)) ∧ (rsign_c3 a b = false)) ∧ (rsign_c3 a b = false)) ∧ (rsign_c7 a b = false)) ∧ (rsign_c3 a b = false)) ∧ (rsign_c7 a b = false)) ∧ ((false = false)))
theorem rsign_o6 (a b : Int) : obOf (rsign_e6 a b) = rsign_r6 a b := by kernel_rfl
theorem rsign_v6 (a b : Int) : resOf (rsign_e6 a b) = rsign_w6 a b := by kernel_rfl
theorem rsign_k6 (a b : Int) : cleanOf Tryz.prog.globals.size (rsign_e6 a b) = true := by kernel_rfl
theorem rsign_q6 (a b : Int) : rsign_e6 a b = evFS Tryz.prog x_rsign 1000 29 #[.agg #[.int .i64 a, .int .i64 b]] (noTabs 7) ⟨[0, 0, 0, 0, 0, 1, 1, 1, 1, 1, 1, 1, 1, 1, 1, 1, 1, 1, 0, 1, 1, 1, 1, 0, 0, 0, 1, 0, 0, 0], True⟩ := by
  delta rsign_e6
  exact Eq.refl _
theorem rsign_p6 (a b : Int) (h : rsign_r6 a b) (w : World) : Calls Tryz.prog 29 #[.agg #[.int .i64 a, .int .i64 b]] w fun en w' => en = .returned (rsign_w6 a b) ∧ Below w.heap.size w w' := by
  have hv := rsign_v6 a b
  have hc := rsign_k6 a b
  have he := rsign_q6 a b
  have ho := rsign_o6 a b
  generalize rsign_e6 a b = r at *
  exact calls_way he gfol rsign_X hv rfl (rsign_args a b) hc ho h (bl w)
def rsign_w7 (a b : Int) : Value := .int .i64 (1 : Int)
def rsign_r7 (a b : Int) : Prop := ((((((((((((((((((((((True ∧ (rsign_c0 a b = false)) ∧ (rsign_c0 a b = false)) ∧ (rsign_c0 a b = false)) ∧ (rsign_c0 a b = false)) ∧ ((false = false))) ∧ (rsign_c1 a b = true)) ∧ (rsign_c1 a b = true)) ∧ (rsign_c1 a b = true)) ∧ (rsign_c1 a b = true)) ∧ (rsign_c6 a b = true)) ∧ (rsign_c6 a b = true)) ∧ (rsign_c6 a b = true)) ∧ (rsign_c6 a b = true)) ∧ (rsign_c6 a b = true)) ∧ (rsign_c6 a b = true)) ∧ ((true = true))) ∧ ((true = true))) ∧ ((true = true))) ∧ ((true = true))) ∧ ((true = true))) ∧ ((true = true))) ∧ ((true = true)))
theorem rsign_o7 (a b : Int) : obOf (rsign_e7 a b) = rsign_r7 a b := by kernel_rfl
theorem rsign_v7 (a b : Int) : resOf (rsign_e7 a b) = rsign_w7 a b := by kernel_rfl
theorem rsign_k7 (a b : Int) : cleanOf Tryz.prog.globals.size (rsign_e7 a b) = true := by kernel_rfl
theorem rsign_q7 (a b : Int) : rsign_e7 a b = evFS Tryz.prog x_rsign 1000 29 #[.agg #[.int .i64 a, .int .i64 b]] (noTabs 7) ⟨[0, 0, 0, 0, 0, 1, 1, 1, 1, 0, 0, 0, 0, 0, 0, 0, 0, 1, 0, 0, 0, 0, 0, 0, 0, 0, 1, 1], True⟩ := by
  delta rsign_e7
  exact Eq.refl _
theorem rsign_p7 (a b : Int) (h : rsign_r7 a b) (w : World) : Calls Tryz.prog 29 #[.agg #[.int .i64 a, .int .i64 b]] w fun en w' => en = .returned (rsign_w7 a b) ∧ Below w.heap.size w w' := by
  have hv := rsign_v7 a b
  have hc := rsign_k7 a b
  have he := rsign_q7 a b
  have ho := rsign_o7 a b
  generalize rsign_e7 a b = r at *
  exact calls_way he gfol rsign_X hv rfl (rsign_args a b) hc ho h (bl w)
def rsign_w8 (a b : Int) : Value := .int .i64 (1 : Int)
def rsign_r8 (a b : Int) : Prop := ((((((((((((((((((((((((((True ∧ (rsign_c0 a b = false)) ∧ (rsign_c0 a b = false)) ∧ (rsign_c0 a b = false)) ∧ (rsign_c0 a b = false)) ∧ ((false = false))) ∧ (rsign_c1 a b = true)) ∧ (rsign_c1 a b = true)) ∧ (rsign_c1 a b = true)) ∧ (rsign_c1 a b = true)) ∧ (rsign_c6 a b = false)) ∧ (rsign_c6 a b = false)) ∧ (rsign_c6 a b = false)) ∧ (rsign_c6 a b = false)) ∧ (rsign_c2 a b = true)) ∧ (rsign_c2 a b = true)) ∧ (rsign_c2 a b = true)) ∧ (rsign_c6 a b = false)) ∧ (rsign_c2 a b = true)) ∧ (rsign_c6 a b = false)) ∧ (rsign_c7 a b = true)) ∧ (rsign_c7 a b = true)) ∧ (rsign_c7 a b = true)) ∧ (rsign_c7 a b = true)) ∧ (rsign_c7 a b = true)) ∧ (rsign_c7 a b = true)) ∧ ((true = true)))
theorem rsign_o8 (a b : Int) : obOf (rsign_e8 a b) = rsign_r8 a b := by kernel_rfl
theorem rsign_v8 (a b : Int) : resOf (rsign_e8 a b) = rsign_w8 a b := by kernel_rfl
theorem rsign_k8 (a b : Int) : cleanOf Tryz.prog.globals.size (rsign_e8 a b) = true := by kernel_rfl
theorem rsign_q8 (a b : Int) : rsign_e8 a b = evFS Tryz.prog x_rsign 1000 29 #[.agg #[.int .i64 a, .int .i64 b]] (noTabs 7) ⟨[0, 0, 0, 0, 0, 1, 1, 1, 1, 1, 1, 1, 1, 1, 1, 1, 1, 1, 0, 0, 0, 0, 0, 0, 0, 0, 0, 1, 1], True⟩ := by
  delta rsign_e8
  exact Eq.refl _
theorem rsign_p8 (a b : Int) (h : rsign_r8 a b) (w : World) : Calls Tryz.prog 29 #[.agg #[.int .i64 a, .int .i64 b]] w fun en w' => en = .returned (rsign_w8 a b) ∧ Below w.heap.size w w' := by
  have hv := rsign_v8 a b
  have hc := rsign_k8 a b
  have he := rsign_q8 a b
  have ho := rsign_o8 a b
  generalize rsign_e8 a b = r at *
  exact calls_way he gfol rsign_X hv rfl (rsign_args a b) hc ho h (bl w)
theorem rsign_any (a b : Int) (hpre : -1500000000 ≤ a ∧ a ≤ 1500000000 ∧ -1500000000 ≤ b ∧ b ≤ 1500000000) (w : World) : Calls Tryz.prog 29 #[.agg #[.int .i64 a, .int .i64 b]] w fun en w' => en = .returned (rsign_val a b) ∧ Below w.heap.size w w' := by
  obtain ⟨q1, q2, q3, q4⟩ := hpre
  have b_aa := bd 1500000000 1500000000 a a (by omega) (by omega) ⟨by omega, by omega⟩ ⟨by omega, by omega⟩
  have b_bb := bd 1500000000 1500000000 b b (by omega) (by omega) ⟨by omega, by omega⟩ ⟨by omega, by omega⟩
  have b_3 : 3 * b * b = 3 * (b * b) := Int.mul_assoc 3 b b
  have n3 := @no3 a b
  have z1 : a * a = 0 ↔ a = 0 := ⟨fun g => by rcases Int.mul_eq_zero.1 g with g | g <;> exact g, fun g => by rw [g, Int.zero_mul]⟩
  have z2 : b * b = 0 ↔ b = 0 := ⟨fun g => by rcases Int.mul_eq_zero.1 g with g | g <;> exact g, fun g => by rw [g, Int.zero_mul]⟩
  have z3 : 0 ≤ a * a := by rcases Int.le_total 0 a with g | g; exact Int.mul_nonneg g g; exact Int.mul_nonneg_of_nonpos_of_nonpos g g
  have z4 : 0 ≤ b * b := by rcases Int.le_total 0 b with g | g; exact Int.mul_nonneg g g; exact Int.mul_nonneg_of_nonpos_of_nonpos g g
  rcases Bool.eq_false_or_eq_true (rsign_c0 a b) with h0 | h0
  ·
    unfold rsign_c0 at h0
    rcases Bool.eq_false_or_eq_true (rsign_c5 a b) with h1 | h1
    ·
      unfold rsign_c5 at h1
      have hp := rsign_p4 a b ⟨⟨⟨⟨⟨trivial, h0⟩, h0⟩, h0⟩, h0⟩, h1⟩ w
      have hv : rsign_w4 a b = (rsign_val a b) := by
        clear hp
        unfold rsign_w4 rsign_val
        (try simp (disch := omega) only [wi, decide_eq_true_eq, decide_eq_false_iff_not, beq_iff_eq, bne_iff_ne, ne_eq, beq_eq_false_iff_ne, bne_eq_false_iff_eq, Bool.and_eq_true, Bool.or_eq_true] at *)
        all_goals (first | rfl | (unfold sgn; (try simp only [Value.int.injEq, true_and]); (repeat' split) <;> first | omega | rfl | (exfalso; omega) | grind))
      exact hv ▸ hp
    ·
      unfold rsign_c5 at h1
      have h2 : (rsign_c1 a b = true) := by
        unfold rsign_c1
        first | rfl | trivial | decide | assumption | ((try simp only [bne_iff_ne, ne_eq, decide_eq_true_eq, decide_eq_false_iff_not, Bool.not_eq_true', Bool.not_eq_false', beq_iff_eq, beq_eq_false_iff_ne, bne_eq_false_iff_eq, Bool.and_eq_true, Bool.not_eq_true, Bool.not_eq_false, Pl.cr, parts_eq, cn, two, cz] at *) <;> first | omega | grind)
      unfold rsign_c1 at h2
      rcases Bool.eq_false_or_eq_true (rsign_c6 a b) with h3 | h3
      ·
        unfold rsign_c6 at h3
        have hp := rsign_p5 a b ⟨⟨⟨⟨⟨⟨⟨⟨⟨⟨⟨⟨⟨⟨⟨⟨⟨⟨⟨⟨⟨⟨trivial, h0⟩, h0⟩, h0⟩, h0⟩, h1⟩, h2⟩, h2⟩, h2⟩, h2⟩, h3⟩, h3⟩, h3⟩, h3⟩, h3⟩, h3⟩, rsign_g14⟩, rsign_g14⟩, rsign_g14⟩, rsign_g14⟩, rsign_g14⟩, rsign_g14⟩, rsign_g14⟩ w
        have hv : rsign_w5 a b = (rsign_val a b) := by
          clear hp
          unfold rsign_w5 rsign_val
          (try simp (disch := omega) only [wi, decide_eq_true_eq, decide_eq_false_iff_not, beq_iff_eq, bne_iff_ne, ne_eq, beq_eq_false_iff_ne, bne_eq_false_iff_eq, Bool.and_eq_true, Bool.or_eq_true] at *)
          all_goals (first | rfl | (unfold sgn; (try simp only [Value.int.injEq, true_and]); (repeat' split) <;> first | omega | rfl | (exfalso; omega) | grind))
        exact hv ▸ hp
      ·
        unfold rsign_c6 at h3
        have h4 : (rsign_c2 a b = false) := by
          unfold rsign_c2
          first | rfl | trivial | decide | assumption | ((try simp only [bne_iff_ne, ne_eq, decide_eq_true_eq, decide_eq_false_iff_not, Bool.not_eq_true', Bool.not_eq_false', beq_iff_eq, beq_eq_false_iff_ne, bne_eq_false_iff_eq, Bool.and_eq_true, Bool.not_eq_true, Bool.not_eq_false, Pl.cr, parts_eq, cn, two, cz] at *) <;> first | omega | grind)
        unfold rsign_c2 at h4
        have h5 : (rsign_c3 a b = false) := by
          unfold rsign_c3
          first | rfl | trivial | decide | assumption | ((try simp only [bne_iff_ne, ne_eq, decide_eq_true_eq, decide_eq_false_iff_not, Bool.not_eq_true', Bool.not_eq_false', beq_iff_eq, beq_eq_false_iff_ne, bne_eq_false_iff_eq, Bool.and_eq_true, Bool.not_eq_true, Bool.not_eq_false, Pl.cr, parts_eq, cn, two, cz] at *) <;> first | omega | grind)
        unfold rsign_c3 at h5
        have hp := rsign_p3 a b ⟨⟨⟨⟨⟨⟨⟨⟨⟨⟨⟨⟨⟨⟨⟨⟨⟨⟨⟨⟨⟨⟨⟨⟨⟨⟨⟨⟨⟨⟨trivial, h0⟩, h0⟩, h0⟩, h0⟩, h1⟩, h2⟩, h2⟩, h2⟩, h2⟩, h3⟩, h3⟩, h3⟩, h3⟩, h4⟩, h4⟩, h4⟩, h3⟩, h4⟩, h3⟩, rsign_g1⟩, rsign_g1⟩, rsign_g1⟩, rsign_g1⟩, h5⟩, h5⟩, h5⟩, rsign_g1⟩, h5⟩, rsign_g1⟩, rsign_g1⟩ w
        have hv : rsign_w3 a b = (rsign_val a b) := by
          clear hp
          unfold rsign_w3 rsign_val
          (try simp (disch := omega) only [wi, decide_eq_true_eq, decide_eq_false_iff_not, beq_iff_eq, bne_iff_ne, ne_eq, beq_eq_false_iff_ne, bne_eq_false_iff_eq, Bool.and_eq_true, Bool.or_eq_true] at *)
          all_goals (first | rfl | (unfold sgn; (try simp only [Value.int.injEq, true_and]); (repeat' split) <;> first | omega | rfl | (exfalso; omega) | grind))
        exact hv ▸ hp
  ·
    unfold rsign_c0 at h0
    rcases Bool.eq_false_or_eq_true (rsign_c1 a b) with h6 | h6
    ·
      unfold rsign_c1 at h6
      rcases Bool.eq_false_or_eq_true (rsign_c6 a b) with h7 | h7
      ·
        unfold rsign_c6 at h7
        have hp := rsign_p7 a b ⟨⟨⟨⟨⟨⟨⟨⟨⟨⟨⟨⟨⟨⟨⟨⟨⟨⟨⟨⟨⟨⟨trivial, h0⟩, h0⟩, h0⟩, h0⟩, rsign_g1⟩, h6⟩, h6⟩, h6⟩, h6⟩, h7⟩, h7⟩, h7⟩, h7⟩, h7⟩, h7⟩, rsign_g14⟩, rsign_g14⟩, rsign_g14⟩, rsign_g14⟩, rsign_g14⟩, rsign_g14⟩, rsign_g14⟩ w
        have hv : rsign_w7 a b = (rsign_val a b) := by
          clear hp
          unfold rsign_w7 rsign_val
          (try simp (disch := omega) only [wi, decide_eq_true_eq, decide_eq_false_iff_not, beq_iff_eq, bne_iff_ne, ne_eq, beq_eq_false_iff_ne, bne_eq_false_iff_eq, Bool.and_eq_true, Bool.or_eq_true] at *)
          all_goals (first | rfl | (unfold sgn; (try simp only [Value.int.injEq, true_and]); (repeat' split) <;> first | omega | rfl | (exfalso; omega) | grind))
        exact hv ▸ hp
      ·
        unfold rsign_c6 at h7
        have h8 : (rsign_c2 a b = true) := by
          unfold rsign_c2
          first | rfl | trivial | decide | assumption | ((try simp only [bne_iff_ne, ne_eq, decide_eq_true_eq, decide_eq_false_iff_not, Bool.not_eq_true', Bool.not_eq_false', beq_iff_eq, beq_eq_false_iff_ne, bne_eq_false_iff_eq, Bool.and_eq_true, Bool.not_eq_true, Bool.not_eq_false, Pl.cr, parts_eq, cn, two, cz] at *) <;> first | omega | grind)
        unfold rsign_c2 at h8
        rcases Bool.eq_false_or_eq_true (rsign_c7 a b) with h9 | h9
        ·
          unfold rsign_c7 at h9
          have hp := rsign_p8 a b ⟨⟨⟨⟨⟨⟨⟨⟨⟨⟨⟨⟨⟨⟨⟨⟨⟨⟨⟨⟨⟨⟨⟨⟨⟨⟨trivial, h0⟩, h0⟩, h0⟩, h0⟩, rsign_g1⟩, h6⟩, h6⟩, h6⟩, h6⟩, h7⟩, h7⟩, h7⟩, h7⟩, h8⟩, h8⟩, h8⟩, h7⟩, h8⟩, h7⟩, h9⟩, h9⟩, h9⟩, h9⟩, h9⟩, h9⟩, rsign_g14⟩ w
          have hv : rsign_w8 a b = (rsign_val a b) := by
            clear hp
            unfold rsign_w8 rsign_val
            (try simp (disch := omega) only [wi, decide_eq_true_eq, decide_eq_false_iff_not, beq_iff_eq, bne_iff_ne, ne_eq, beq_eq_false_iff_ne, bne_eq_false_iff_eq, Bool.and_eq_true, Bool.or_eq_true] at *)
            all_goals (first | rfl | (unfold sgn; (try simp only [Value.int.injEq, true_and]); (repeat' split) <;> first | omega | rfl | (exfalso; omega) | grind))
          exact hv ▸ hp
        ·
          unfold rsign_c7 at h9
          have h10 : (rsign_c3 a b = false) := by
            unfold rsign_c3
            first | rfl | trivial | decide | assumption | ((try simp only [bne_iff_ne, ne_eq, decide_eq_true_eq, decide_eq_false_iff_not, Bool.not_eq_true', Bool.not_eq_false', beq_iff_eq, beq_eq_false_iff_ne, bne_eq_false_iff_eq, Bool.and_eq_true, Bool.not_eq_true, Bool.not_eq_false, Pl.cr, parts_eq, cn, two, cz] at *) <;> first | omega | grind)
          unfold rsign_c3 at h10
          have hp := rsign_p6 a b ⟨⟨⟨⟨⟨⟨⟨⟨⟨⟨⟨⟨⟨⟨⟨⟨⟨⟨⟨⟨⟨⟨⟨⟨⟨⟨⟨⟨⟨⟨trivial, h0⟩, h0⟩, h0⟩, h0⟩, rsign_g1⟩, h6⟩, h6⟩, h6⟩, h6⟩, h7⟩, h7⟩, h7⟩, h7⟩, h8⟩, h8⟩, h8⟩, h7⟩, h8⟩, h7⟩, h9⟩, h9⟩, h9⟩, h9⟩, h10⟩, h10⟩, h10⟩, h9⟩, h10⟩, h9⟩, rsign_g1⟩ w
          have hv : rsign_w6 a b = (rsign_val a b) := by
            clear hp
            unfold rsign_w6 rsign_val
            (try simp (disch := omega) only [wi, decide_eq_true_eq, decide_eq_false_iff_not, beq_iff_eq, bne_iff_ne, ne_eq, beq_eq_false_iff_ne, bne_eq_false_iff_eq, Bool.and_eq_true, Bool.or_eq_true] at *)
            all_goals (first | rfl | (unfold sgn; (try simp only [Value.int.injEq, true_and]); (repeat' split) <;> first | omega | rfl | (exfalso; omega) | grind))
          exact hv ▸ hp
    ·
      unfold rsign_c1 at h6
      have h11 : (rsign_c2 a b = false) := by
        unfold rsign_c2
        first | rfl | trivial | decide | assumption | ((try simp only [bne_iff_ne, ne_eq, decide_eq_true_eq, decide_eq_false_iff_not, Bool.not_eq_true', Bool.not_eq_false', beq_iff_eq, beq_eq_false_iff_ne, bne_eq_false_iff_eq, Bool.and_eq_true, Bool.not_eq_true, Bool.not_eq_false, Pl.cr, parts_eq, cn, two, cz] at *) <;> first | omega | grind)
      unfold rsign_c2 at h11
      rcases Bool.eq_false_or_eq_true (rsign_c3 a b) with h12 | h12
      ·
        unfold rsign_c3 at h12
        rcases Bool.eq_false_or_eq_true (rsign_c4 a b) with h13 | h13
        ·
          unfold rsign_c4 at h13
          have hp := rsign_p2 a b ⟨⟨⟨⟨⟨⟨⟨⟨⟨⟨⟨⟨⟨⟨⟨⟨⟨⟨⟨⟨⟨⟨⟨⟨⟨⟨⟨⟨⟨⟨trivial, h0⟩, h0⟩, h0⟩, h0⟩, rsign_g1⟩, h6⟩, h6⟩, h6⟩, h6⟩, rsign_g1⟩, rsign_g1⟩, rsign_g1⟩, rsign_g1⟩, h11⟩, h11⟩, h11⟩, rsign_g1⟩, h11⟩, rsign_g1⟩, rsign_g1⟩, rsign_g1⟩, rsign_g1⟩, rsign_g1⟩, h12⟩, h12⟩, h12⟩, rsign_g1⟩, h12⟩, rsign_g1⟩, h13⟩ w
          have hv : rsign_w2 a b = (rsign_val a b) := by
            clear hp
            unfold rsign_w2 rsign_val
            (try simp (disch := omega) only [wi, decide_eq_true_eq, decide_eq_false_iff_not, beq_iff_eq, bne_iff_ne, ne_eq, beq_eq_false_iff_ne, bne_eq_false_iff_eq, Bool.and_eq_true, Bool.or_eq_true] at *)
            all_goals (first | rfl | (unfold sgn; (try simp only [Value.int.injEq, true_and]); (repeat' split) <;> first | omega | rfl | (exfalso; omega) | grind))
          exact hv ▸ hp
        ·
          unfold rsign_c4 at h13
          have hp := rsign_p1 a b ⟨⟨⟨⟨⟨⟨⟨⟨⟨⟨⟨⟨⟨⟨⟨⟨⟨⟨⟨⟨⟨⟨⟨⟨⟨⟨⟨⟨⟨⟨trivial, h0⟩, h0⟩, h0⟩, h0⟩, rsign_g1⟩, h6⟩, h6⟩, h6⟩, h6⟩, rsign_g1⟩, rsign_g1⟩, rsign_g1⟩, rsign_g1⟩, h11⟩, h11⟩, h11⟩, rsign_g1⟩, h11⟩, rsign_g1⟩, rsign_g1⟩, rsign_g1⟩, rsign_g1⟩, rsign_g1⟩, h12⟩, h12⟩, h12⟩, rsign_g1⟩, h12⟩, rsign_g1⟩, h13⟩ w
          have hv : rsign_w1 a b = (rsign_val a b) := by
            clear hp
            unfold rsign_w1 rsign_val
            (try simp (disch := omega) only [wi, decide_eq_true_eq, decide_eq_false_iff_not, beq_iff_eq, bne_iff_ne, ne_eq, beq_eq_false_iff_ne, bne_eq_false_iff_eq, Bool.and_eq_true, Bool.or_eq_true] at *)
            all_goals (first | rfl | (unfold sgn; (try simp only [Value.int.injEq, true_and]); (repeat' split) <;> first | omega | rfl | (exfalso; omega) | grind))
          exact hv ▸ hp
      ·
        unfold rsign_c3 at h12
        have hp := rsign_p0 a b ⟨⟨⟨⟨⟨⟨⟨⟨⟨⟨⟨⟨⟨⟨⟨⟨⟨⟨⟨⟨⟨⟨⟨⟨⟨⟨⟨⟨⟨⟨trivial, h0⟩, h0⟩, h0⟩, h0⟩, rsign_g1⟩, h6⟩, h6⟩, h6⟩, h6⟩, rsign_g1⟩, rsign_g1⟩, rsign_g1⟩, rsign_g1⟩, h11⟩, h11⟩, h11⟩, rsign_g1⟩, h11⟩, rsign_g1⟩, rsign_g1⟩, rsign_g1⟩, rsign_g1⟩, rsign_g1⟩, h12⟩, h12⟩, h12⟩, rsign_g1⟩, h12⟩, rsign_g1⟩, rsign_g1⟩ w
        have hv : rsign_w0 a b = (rsign_val a b) := by
          clear hp
          unfold rsign_w0 rsign_val
          (try simp (disch := omega) only [wi, decide_eq_true_eq, decide_eq_false_iff_not, beq_iff_eq, bne_iff_ne, ne_eq, beq_eq_false_iff_ne, bne_eq_false_iff_eq, Bool.and_eq_true, Bool.or_eq_true] at *)
          all_goals (first | rfl | (unfold sgn; (try simp only [Value.int.injEq, true_and]); (repeat' split) <;> first | omega | rfl | (exfalso; omega) | grind))
        exact hv ▸ hp
theorem k_rsign : ConOk Tryz.prog c_rsign := fun ns hl => by
  have hl0 : ns.length = 2 := hl
  clear hl
  obtain ⟨a, ns0, rfl, hl1⟩ := len_cons hl0
  obtain ⟨b, ns1, rfl, hl2⟩ := len_cons hl1
  obtain rfl := len_nil hl2
  exact ⟨rfl, fun h w => rsign_any a b h w⟩
end Go.Proofs.YtgnmhapgciejfaaGreatDoor
end
