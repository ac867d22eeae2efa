/-
  The contract of bipole.bipoleref01.CheckThree.
  The contract of bipole.bipoleref01.CheckThree.
  The contract of bipole.bipoleref01.CheckEisen.
  The contract of bipole.bipoleref01.CheckRange.
  The contract of bipole.phasor.Turned.
  The contract of bipole.phasor.Turned.
  The contract of bipole.phasor.limited.
-/
import Derived.Test.YtledgemlflbfdaaGreatDoorGS3
import Derived.Test.YtledgemlflbfdaaGreatDoorGS4
section
set_option linter.all false
set_option maxRecDepth 1000000
set_option maxHeartbeats 2000000
open Go.RowKit
namespace Go.Proofs.YtledgemlflbfdaaGreatDoor
open Mini

def limited_val (a b : Int) : Value := .tuple #[.agg #[.int .i64 (Pl.lim (a, b)).1.1, .int .i64 (Pl.lim (a, b)).1.2], .int .i64 (Pl.lim (a, b)).2]
theorem limited_X : FOkS Tryz.prog x_limited := noXS_ok
theorem limited_args (a b : Int) : (#[.agg #[.int .i64 a, .int .i64 b]] : Array Value).toList.all (ground 8) = true := by kernel_rfl
def limited_c0 (a b : Int) : Bool := (Bool.not (Bool.and ((if ((1048576 : Int) < (if ((IntKind.i64.wrap ((0 : Int) - (1048576 : Int))) > a) then (IntKind.i64.wrap ((0 : Int) - (1048576 : Int))) else a)) then (1048576 : Int) else (if ((IntKind.i64.wrap ((0 : Int) - (1048576 : Int))) > a) then (IntKind.i64.wrap ((0 : Int) - (1048576 : Int))) else a)) == a) (Bool.and ((if ((1048576 : Int) < (if ((IntKind.i64.wrap ((0 : Int) - (1048576 : Int))) > b) then (IntKind.i64.wrap ((0 : Int) - (1048576 : Int))) else b)) then (1048576 : Int) else (if ((IntKind.i64.wrap ((0 : Int) - (1048576 : Int))) > b) then (IntKind.i64.wrap ((0 : Int) - (1048576 : Int))) else b)) == b) Bool.true)))
def limited_w0 (a b : Int) : Value := .tuple #[.agg #[.int .i64 a, .int .i64 b], .int .i64 (0 : Int)]
def limited_r0 (a b : Int) : Prop := (True ∧ (limited_c0 a b = false))
theorem limited_o0 (a b : Int) : obOf (limited_e0 a b) = limited_r0 a b := by kernel_rfl
theorem limited_v0 (a b : Int) : resOf (limited_e0 a b) = limited_w0 a b := by kernel_rfl
theorem limited_k0 (a b : Int) : cleanOf Tryz.prog.globals.size (limited_e0 a b) = true := by kernel_rfl
theorem limited_q0 (a b : Int) : limited_e0 a b = evFS Tryz.prog x_limited 1000 48 #[.agg #[.int .i64 a, .int .i64 b]] (noTabs 6) ⟨[0], True⟩ := by
  delta limited_e0
  exact Eq.refl _
theorem limited_p0 (a b : Int) (h : limited_r0 a b) (w : World) : Calls Tryz.prog 48 #[.agg #[.int .i64 a, .int .i64 b]] w fun en w' => en = .returned (limited_w0 a b) ∧ Below w.heap.size w w' := by
  have hv := limited_v0 a b
  have hc := limited_k0 a b
  have he := limited_q0 a b
  have ho := limited_o0 a b
  generalize limited_e0 a b = r at *
  exact calls_way he gfol limited_X hv rfl (limited_args a b) hc ho h (bl w)
def limited_w1 (a b : Int) : Value := .tuple #[.agg #[.int .i64 (0 : Int), .int .i64 (0 : Int)], .int .i64 (4 : Int)]
def limited_r1 (a b : Int) : Prop := (True ∧ (limited_c0 a b = true))
theorem limited_o1 (a b : Int) : obOf (limited_e1 a b) = limited_r1 a b := by kernel_rfl
theorem limited_v1 (a b : Int) : resOf (limited_e1 a b) = limited_w1 a b := by kernel_rfl
theorem limited_k1 (a b : Int) : cleanOf Tryz.prog.globals.size (limited_e1 a b) = true := by kernel_rfl
theorem limited_q1 (a b : Int) : limited_e1 a b = evFS Tryz.prog x_limited 1000 48 #[.agg #[.int .i64 a, .int .i64 b]] (noTabs 6) ⟨[1], True⟩ := by
  delta limited_e1
  exact Eq.refl _
theorem limited_p1 (a b : Int) (h : limited_r1 a b) (w : World) : Calls Tryz.prog 48 #[.agg #[.int .i64 a, .int .i64 b]] w fun en w' => en = .returned (limited_w1 a b) ∧ Below w.heap.size w w' := by
  have hv := limited_v1 a b
  have hc := limited_k1 a b
  have he := limited_q1 a b
  have ho := limited_o1 a b
  generalize limited_e1 a b = r at *
  exact calls_way he gfol limited_X hv rfl (limited_args a b) hc ho h (bl w)
theorem limited_any (a b : Int) (hpre : True) (w : World) : Calls Tryz.prog 48 #[.agg #[.int .i64 a, .int .i64 b]] w fun en w' => en = .returned (limited_val a b) ∧ Below w.heap.size w w' := by
  rcases Bool.eq_false_or_eq_true (limited_c0 a b) with h0 | h0
  ·
    unfold limited_c0 at h0
    have hp := limited_p1 a b ⟨trivial, h0⟩ w
    have hv : limited_w1 a b = limited_val a b := by
      clear hp
      unfold limited_w1 limited_val
      first | rfl | ((try simp only [bne_iff_ne, ne_eq, decide_eq_true_eq, decide_eq_false_iff_not, Bool.not_eq_true', Bool.not_eq_false', beq_iff_eq, beq_eq_false_iff_ne, bne_eq_false_iff_eq, Bool.and_eq_true, Bool.not_eq_true, Bool.not_eq_false, Pl.cr, parts_eq, w20, w16, wT, w20', w16', wT', Pl.lim, Pl.inB, first_two, two, oneB, Bg] at *); grind)
    exact hv ▸ hp
  ·
    unfold limited_c0 at h0
    have hp := limited_p0 a b ⟨trivial, h0⟩ w
    have hv : limited_w0 a b = limited_val a b := by
      clear hp
      unfold limited_w0 limited_val
      first | rfl | ((try simp only [bne_iff_ne, ne_eq, decide_eq_true_eq, decide_eq_false_iff_not, Bool.not_eq_true', Bool.not_eq_false', beq_iff_eq, beq_eq_false_iff_ne, bne_eq_false_iff_eq, Bool.and_eq_true, Bool.not_eq_true, Bool.not_eq_false, Pl.cr, parts_eq, w20, w16, wT, w20', w16', wT', Pl.lim, Pl.inB, first_two, two, oneB, Bg] at *); grind)
    exact hv ▸ hp
theorem k_limited : ConOk Tryz.prog c_limited := fun ns hl => by
  have hl0 : ns.length = 2 := hl
  clear hl
  obtain ⟨a, ns0, rfl, hl1⟩ := len_cons hl0
  obtain ⟨b, ns1, rfl, hl2⟩ := len_cons hl1
  obtain rfl := len_nil hl2
  exact ⟨rfl, fun h w => limited_any a b h w⟩
end Go.Proofs.YtledgemlflbfdaaGreatDoor
end
section
set_option linter.all false
set_option maxRecDepth 1000000
set_option maxHeartbeats 2000000
open Go.RowKit
namespace Go.Proofs.YtledgemlflbfdaaGreatDoor
open Mini

def turned_val (a b n : Int) : Value := .tuple #[.agg #[.int .i64 (two (Pl.parts a b 1048576) (Pl.cr n (-1000000) 1000000) (Pl.lim (Pl.turn (a, b) n))).1.1, .int .i64 (two (Pl.parts a b 1048576) (Pl.cr n (-1000000) 1000000) (Pl.lim (Pl.turn (a, b) n))).1.2], .int .i64 (two (Pl.parts a b 1048576) (Pl.cr n (-1000000) 1000000) (Pl.lim (Pl.turn (a, b) n))).2]
theorem turned_X : FOkS Tryz.prog x_turned := kAll_ok _ ⟨k_checkEisen, k_checkTurn, k_turn, k_limited, trivial⟩
theorem turned_args (a b n : Int) : (#[.agg #[.int .i64 a, .int .i64 b], .int .i64 n] : Array Value).toList.all (ground 8) = true := by kernel_rfl
theorem turned_g0 : True := by first | rfl | trivial | decide | omega
theorem turned_g1 : ((decide ((0 : Int) < ((2 : Nat) : Int))) = Bool.true) := by first | rfl | trivial | decide | omega
theorem turned_g2 : ((0 : Int) = (Int.ofNat 0)) := by first | rfl | trivial | decide | omega
def turned_c0 (a b n : Int) : Bool := ((Pl.parts a b (1048576 : Int)) != (0 : Int))
theorem turned_g4 : ((decide ((IntKind.i64.wrap ((0 : Int) + (1 : Int))) < ((2 : Nat) : Int))) = Bool.true) := by first | rfl | trivial | decide | omega
theorem turned_g5 : ((IntKind.i64.wrap ((0 : Int) + (1 : Int))) = (Int.ofNat 1)) := by first | rfl | trivial | decide | omega
def turned_c1 (a b n : Int) : Bool := ((Pl.cr n (- (1000000 : Int)) (1000000 : Int)) != (0 : Int))
theorem turned_g8 : ((decide ((IntKind.i64.wrap ((IntKind.i64.wrap ((0 : Int) + (1 : Int))) + (1 : Int))) < ((2 : Nat) : Int))) = Bool.false) := by first | rfl | trivial | decide | omega
theorem turned_g9 : (((0 : Int) != (0 : Int)) = Bool.false) := by first | rfl | trivial | decide | omega
def turned_b10 (a b n : Int) : Prop := (((- (1099511627776 : Int)) ≤ a) ∧ ((a ≤ (1099511627776 : Int)) ∧ (((- (1099511627776 : Int)) ≤ b) ∧ (b ≤ (1099511627776 : Int)))))
def turned_w0 (a b n : Int) : Value := .tuple #[.agg #[.int .i64 (0 : Int), .int .i64 (0 : Int)], .int .i64 (Pl.cr n (- (1000000 : Int)) (1000000 : Int))]
def turned_r0 (a b n : Int) : Prop := (((((((((True ∧ (True)) ∧ (True)) ∧ (((decide ((0 : Int) < ((2 : Nat) : Int))) = Bool.true))) ∧ (((0 : Int) = (Int.ofNat 0)))) ∧ (turned_c0 a b n = false)) ∧ (((decide ((IntKind.i64.wrap ((0 : Int) + (1 : Int))) < ((2 : Nat) : Int))) = Bool.true))) ∧ (((IntKind.i64.wrap ((0 : Int) + (1 : Int))) = (Int.ofNat 1)))) ∧ (turned_c1 a b n = true)) ∧ (turned_c1 a b n = true))
theorem turned_o0 (a b n : Int) : obOf (turned_e0 a b n) = turned_r0 a b n := by kernel_rfl
theorem turned_v0 (a b n : Int) : resOf (turned_e0 a b n) = turned_w0 a b n := by kernel_rfl
theorem turned_k0 (a b n : Int) : cleanOf Tryz.prog.globals.size (turned_e0 a b n) = true := by kernel_rfl
theorem turned_q0 (a b n : Int) : turned_e0 a b n = evFS Tryz.prog x_turned 1000 11 #[.agg #[.int .i64 a, .int .i64 b], .int .i64 n] (noTabs 6) ⟨[1, 0, 0, 1, 1, 1, 1], True⟩ := by
  delta turned_e0
  exact Eq.refl _
theorem turned_p0 (a b n : Int) (h : turned_r0 a b n) (w : World) : Calls Tryz.prog 11 #[.agg #[.int .i64 a, .int .i64 b], .int .i64 n] w fun en w' => en = .returned (turned_w0 a b n) ∧ Below w.heap.size w w' := by
  have hv := turned_v0 a b n
  have hc := turned_k0 a b n
  have he := turned_q0 a b n
  have ho := turned_o0 a b n
  generalize turned_e0 a b n = r at *
  exact calls_way he gfol turned_X hv rfl (turned_args a b n) hc ho h (bl w)
def turned_w1 (a b n : Int) : Value := .tuple #[.agg #[.int .i64 (((Pl.lim (((Pl.turn (a, b) n)).1, ((Pl.turn (a, b) n)).2))).1).1, .int .i64 (((Pl.lim (((Pl.turn (a, b) n)).1, ((Pl.turn (a, b) n)).2))).1).2], .int .i64 ((Pl.lim (((Pl.turn (a, b) n)).1, ((Pl.turn (a, b) n)).2))).2]
def turned_r1 (a b n : Int) : Prop := ((((((((((((True ∧ (True)) ∧ (True)) ∧ (((decide ((0 : Int) < ((2 : Nat) : Int))) = Bool.true))) ∧ (((0 : Int) = (Int.ofNat 0)))) ∧ (turned_c0 a b n = false)) ∧ (((decide ((IntKind.i64.wrap ((0 : Int) + (1 : Int))) < ((2 : Nat) : Int))) = Bool.true))) ∧ (((IntKind.i64.wrap ((0 : Int) + (1 : Int))) = (Int.ofNat 1)))) ∧ (turned_c1 a b n = false)) ∧ (((decide ((IntKind.i64.wrap ((IntKind.i64.wrap ((0 : Int) + (1 : Int))) + (1 : Int))) < ((2 : Nat) : Int))) = Bool.false))) ∧ ((((0 : Int) != (0 : Int)) = Bool.false))) ∧ (turned_b10 a b n)) ∧ (True))
theorem turned_o1 (a b n : Int) : obOf (turned_e1 a b n) = turned_r1 a b n := by kernel_rfl
theorem turned_v1 (a b n : Int) : resOf (turned_e1 a b n) = turned_w1 a b n := by kernel_rfl
theorem turned_k1 (a b n : Int) : cleanOf Tryz.prog.globals.size (turned_e1 a b n) = true := by kernel_rfl
theorem turned_q1 (a b n : Int) : turned_e1 a b n = evFS Tryz.prog x_turned 1000 11 #[.agg #[.int .i64 a, .int .i64 b], .int .i64 n] (noTabs 6) ⟨[1, 0, 0, 1, 1, 0, 0, 0], True⟩ := by
  delta turned_e1
  exact Eq.refl _
theorem turned_p1 (a b n : Int) (h : turned_r1 a b n) (w : World) : Calls Tryz.prog 11 #[.agg #[.int .i64 a, .int .i64 b], .int .i64 n] w fun en w' => en = .returned (turned_w1 a b n) ∧ Below w.heap.size w w' := by
  have hv := turned_v1 a b n
  have hc := turned_k1 a b n
  have he := turned_q1 a b n
  have ho := turned_o1 a b n
  generalize turned_e1 a b n = r at *
  exact calls_way he gfol turned_X hv rfl (turned_args a b n) hc ho h (bl w)
def turned_w2 (a b n : Int) : Value := .tuple #[.agg #[.int .i64 (0 : Int), .int .i64 (0 : Int)], .int .i64 (Pl.parts a b (1048576 : Int))]
def turned_r2 (a b n : Int) : Prop := ((((((True ∧ (True)) ∧ (True)) ∧ (((decide ((0 : Int) < ((2 : Nat) : Int))) = Bool.true))) ∧ (((0 : Int) = (Int.ofNat 0)))) ∧ (turned_c0 a b n = true)) ∧ (turned_c0 a b n = true))
theorem turned_o2 (a b n : Int) : obOf (turned_e2 a b n) = turned_r2 a b n := by kernel_rfl
theorem turned_v2 (a b n : Int) : resOf (turned_e2 a b n) = turned_w2 a b n := by kernel_rfl
theorem turned_k2 (a b n : Int) : cleanOf Tryz.prog.globals.size (turned_e2 a b n) = true := by kernel_rfl
theorem turned_q2 (a b n : Int) : turned_e2 a b n = evFS Tryz.prog x_turned 1000 11 #[.agg #[.int .i64 a, .int .i64 b], .int .i64 n] (noTabs 6) ⟨[1, 0, 1, 1], True⟩ := by
  delta turned_e2
  exact Eq.refl _
theorem turned_p2 (a b n : Int) (h : turned_r2 a b n) (w : World) : Calls Tryz.prog 11 #[.agg #[.int .i64 a, .int .i64 b], .int .i64 n] w fun en w' => en = .returned (turned_w2 a b n) ∧ Below w.heap.size w w' := by
  have hv := turned_v2 a b n
  have hc := turned_k2 a b n
  have he := turned_q2 a b n
  have ho := turned_o2 a b n
  generalize turned_e2 a b n = r at *
  exact calls_way he gfol turned_X hv rfl (turned_args a b n) hc ho h (bl w)
theorem turned_any (a b n : Int) (hpre : True) (w : World) : Calls Tryz.prog 11 #[.agg #[.int .i64 a, .int .i64 b], .int .i64 n] w fun en w' => en = .returned (turned_val a b n) ∧ Below w.heap.size w w' := by
  rcases Bool.eq_false_or_eq_true (turned_c0 a b n) with h0 | h0
  ·
    unfold turned_c0 at h0
    have hp := turned_p2 a b n ⟨⟨⟨⟨⟨⟨trivial, turned_g0⟩, turned_g0⟩, turned_g1⟩, turned_g2⟩, h0⟩, h0⟩ w
    have hv : turned_w2 a b n = turned_val a b n := by
      clear hp
      unfold turned_w2 turned_val
      first | rfl | ((try simp only [bne_iff_ne, ne_eq, decide_eq_true_eq, decide_eq_false_iff_not, Bool.not_eq_true', Bool.not_eq_false', beq_iff_eq, beq_eq_false_iff_ne, bne_eq_false_iff_eq, Bool.and_eq_true, Bool.not_eq_true, Bool.not_eq_false, two] at *); grind)
    exact hv ▸ hp
  ·
    unfold turned_c0 at h0
    rcases Bool.eq_false_or_eq_true (turned_c1 a b n) with h1 | h1
    ·
      unfold turned_c1 at h1
      have hp := turned_p0 a b n ⟨⟨⟨⟨⟨⟨⟨⟨⟨trivial, turned_g0⟩, turned_g0⟩, turned_g1⟩, turned_g2⟩, h0⟩, turned_g4⟩, turned_g5⟩, h1⟩, h1⟩ w
      have hv : turned_w0 a b n = turned_val a b n := by
        clear hp
        unfold turned_w0 turned_val
        first | rfl | ((try simp only [bne_iff_ne, ne_eq, decide_eq_true_eq, decide_eq_false_iff_not, Bool.not_eq_true', Bool.not_eq_false', beq_iff_eq, beq_eq_false_iff_ne, bne_eq_false_iff_eq, Bool.and_eq_true, Bool.not_eq_true, Bool.not_eq_false, two] at *); grind)
      exact hv ▸ hp
    ·
      unfold turned_c1 at h1
      have h2 : (turned_b10 a b n) := by
        unfold turned_b10
        first | rfl | trivial | (simp only [bne_eq_false_iff_eq] at *; exact bg_of (by assumption) (by decide))
      unfold turned_b10 at h2
      have hp := turned_p1 a b n ⟨⟨⟨⟨⟨⟨⟨⟨⟨⟨⟨⟨trivial, turned_g0⟩, turned_g0⟩, turned_g1⟩, turned_g2⟩, h0⟩, turned_g4⟩, turned_g5⟩, h1⟩, turned_g8⟩, turned_g9⟩, h2⟩, turned_g0⟩ w
      have hv : turned_w1 a b n = turned_val a b n := by
        clear hp
        unfold turned_w1 turned_val
        first | rfl | ((try simp only [bne_iff_ne, ne_eq, decide_eq_true_eq, decide_eq_false_iff_not, Bool.not_eq_true', Bool.not_eq_false', beq_iff_eq, beq_eq_false_iff_ne, bne_eq_false_iff_eq, Bool.and_eq_true, Bool.not_eq_true, Bool.not_eq_false, two] at *); grind)
      exact hv ▸ hp
theorem k_turned : ConOk Tryz.prog c_turned := fun ns hl => by
  have hl0 : ns.length = 3 := hl
  clear hl
  obtain ⟨a, ns0, rfl, hl1⟩ := len_cons hl0
  obtain ⟨b, ns1, rfl, hl2⟩ := len_cons hl1
  obtain ⟨n, ns2, rfl, hl3⟩ := len_cons hl2
  obtain rfl := len_nil hl3
  exact ⟨rfl, fun h w => turned_any a b n h w⟩
end Go.Proofs.YtledgemlflbfdaaGreatDoor
end
section
set_option linter.all false
set_option maxRecDepth 1000000
set_option maxHeartbeats 2000000
open Go.RowKit
namespace Go.Proofs.YtledgemlflbfdaaGreatDoor
open Mini

def turnedS_val (a b n : Int) : Value := .tuple #[.agg #[.int .i64 (Pl.turn (a, b) n).1, .int .i64 (Pl.turn (a, b) n).2], .int .i64 0]
theorem turnedS_any (a b n : Int) (hpre : Pl.inB 1048576 (a, b) ∧ (-1000000 ≤ n ∧ n ≤ 1000000) ∧ Pl.inB 1048576 (Pl.turn (a, b) n)) (w : World) : Calls Tryz.prog 11 #[.agg #[.int .i64 a, .int .i64 b], .int .i64 n] w fun en w' => en = .returned (turnedS_val a b n) ∧ Below w.heap.size w w' := by
  have hp := turned_any a b n (trivial) w
  have hv : turned_val a b n = turnedS_val a b n := by
    clear hp
    unfold turned_val turnedS_val
    obtain ⟨h1, h2, h3⟩ := hpre
    simp only [two, parts_in h1, cr_zero h2, lim_inB h3, ↓reduceIte]
  exact hv ▸ hp
theorem k_turnedS : ConOk Tryz.prog c_turnedS := fun ns hl => by
  have hl0 : ns.length = 3 := hl
  clear hl
  obtain ⟨a, ns0, rfl, hl1⟩ := len_cons hl0
  obtain ⟨b, ns1, rfl, hl2⟩ := len_cons hl1
  obtain ⟨n, ns2, rfl, hl3⟩ := len_cons hl2
  obtain rfl := len_nil hl3
  exact ⟨rfl, fun h w => turnedS_any a b n h w⟩
end Go.Proofs.YtledgemlflbfdaaGreatDoor
end
section
set_option linter.all false
set_option maxRecDepth 1000000
set_option maxHeartbeats 2000000
open Go.RowKit
namespace Go.Proofs.YtledgemlflbfdaaGreatDoor
open Mini

def rrange_val (n lo hi : Int) : Value := .int .i64 (Pl.cr n lo hi)
theorem rrange_X : FOkS Tryz.prog x_rrange := noXS_ok
theorem rrange_args (n lo hi : Int) : (#[.int .i64 n, .int .i64 lo, .int .i64 hi] : Array Value).toList.all (ground 8) = true := by kernel_rfl
def rrange_c0 (n lo hi : Int) : Bool := (decide (n < lo))
theorem rrange_g1 : (Bool.true = Bool.true) := by first | rfl | trivial | decide | omega
def rrange_c1 (n lo hi : Int) : Bool := (decide (n > hi))
def rrange_w0 (n lo hi : Int) : Value := .int .i64 (3 : Int)
def rrange_r0 (n lo hi : Int) : Prop := (((((True ∧ (rrange_c0 n lo hi = true)) ∧ (rrange_c0 n lo hi = true)) ∧ (rrange_c0 n lo hi = true)) ∧ (rrange_c0 n lo hi = true)) ∧ ((Bool.true = Bool.true)))
theorem rrange_o0 (n lo hi : Int) : obOf (rrange_e0 n lo hi) = rrange_r0 n lo hi := by kernel_rfl
theorem rrange_v0 (n lo hi : Int) : resOf (rrange_e0 n lo hi) = rrange_w0 n lo hi := by kernel_rfl
theorem rrange_k0 (n lo hi : Int) : cleanOf Tryz.prog.globals.size (rrange_e0 n lo hi) = true := by kernel_rfl
theorem rrange_q0 (n lo hi : Int) : rrange_e0 n lo hi = evFS Tryz.prog x_rrange 1000 15 #[.int .i64 n, .int .i64 lo, .int .i64 hi] (noTabs 6) ⟨[0, 0, 0, 1, 1], True⟩ := by
  delta rrange_e0
  exact Eq.refl _
theorem rrange_p0 (n lo hi : Int) (h : rrange_r0 n lo hi) (w : World) : Calls Tryz.prog 15 #[.int .i64 n, .int .i64 lo, .int .i64 hi] w fun en w' => en = .returned (rrange_w0 n lo hi) ∧ Below w.heap.size w w' := by
  have hv := rrange_v0 n lo hi
  have hc := rrange_k0 n lo hi
  have he := rrange_q0 n lo hi
  have ho := rrange_o0 n lo hi
  generalize rrange_e0 n lo hi = r at *
  exact calls_way he gfol rrange_X hv rfl (rrange_args n lo hi) hc ho h (bl w)
def rrange_w1 (n lo hi : Int) : Value := .int .i64 (3 : Int)
def rrange_r1 (n lo hi : Int) : Prop := (((((True ∧ (rrange_c0 n lo hi = false)) ∧ (rrange_c0 n lo hi = false)) ∧ (rrange_c0 n lo hi = false)) ∧ (rrange_c0 n lo hi = false)) ∧ (rrange_c1 n lo hi = true))
theorem rrange_o1 (n lo hi : Int) : obOf (rrange_e1 n lo hi) = rrange_r1 n lo hi := by kernel_rfl
theorem rrange_v1 (n lo hi : Int) : resOf (rrange_e1 n lo hi) = rrange_w1 n lo hi := by kernel_rfl
theorem rrange_k1 (n lo hi : Int) : cleanOf Tryz.prog.globals.size (rrange_e1 n lo hi) = true := by kernel_rfl
theorem rrange_q1 (n lo hi : Int) : rrange_e1 n lo hi = evFS Tryz.prog x_rrange 1000 15 #[.int .i64 n, .int .i64 lo, .int .i64 hi] (noTabs 6) ⟨[1, 1, 1, 0, 1], True⟩ := by
  delta rrange_e1
  exact Eq.refl _
theorem rrange_p1 (n lo hi : Int) (h : rrange_r1 n lo hi) (w : World) : Calls Tryz.prog 15 #[.int .i64 n, .int .i64 lo, .int .i64 hi] w fun en w' => en = .returned (rrange_w1 n lo hi) ∧ Below w.heap.size w w' := by
  have hv := rrange_v1 n lo hi
  have hc := rrange_k1 n lo hi
  have he := rrange_q1 n lo hi
  have ho := rrange_o1 n lo hi
  generalize rrange_e1 n lo hi = r at *
  exact calls_way he gfol rrange_X hv rfl (rrange_args n lo hi) hc ho h (bl w)
def rrange_w2 (n lo hi : Int) : Value := .int .i64 (0 : Int)
def rrange_r2 (n lo hi : Int) : Prop := (((((True ∧ (rrange_c0 n lo hi = false)) ∧ (rrange_c0 n lo hi = false)) ∧ (rrange_c0 n lo hi = false)) ∧ (rrange_c0 n lo hi = false)) ∧ (rrange_c1 n lo hi = false))
theorem rrange_o2 (n lo hi : Int) : obOf (rrange_e2 n lo hi) = rrange_r2 n lo hi := by kernel_rfl
theorem rrange_v2 (n lo hi : Int) : resOf (rrange_e2 n lo hi) = rrange_w2 n lo hi := by kernel_rfl
theorem rrange_k2 (n lo hi : Int) : cleanOf Tryz.prog.globals.size (rrange_e2 n lo hi) = true := by kernel_rfl
theorem rrange_q2 (n lo hi : Int) : rrange_e2 n lo hi = evFS Tryz.prog x_rrange 1000 15 #[.int .i64 n, .int .i64 lo, .int .i64 hi] (noTabs 6) ⟨[1, 1, 1, 0, 0], True⟩ := by
  delta rrange_e2
  exact Eq.refl _
theorem rrange_p2 (n lo hi : Int) (h : rrange_r2 n lo hi) (w : World) : Calls Tryz.prog 15 #[.int .i64 n, .int .i64 lo, .int .i64 hi] w fun en w' => en = .returned (rrange_w2 n lo hi) ∧ Below w.heap.size w w' := by
  have hv := rrange_v2 n lo hi
  have hc := rrange_k2 n lo hi
  have he := rrange_q2 n lo hi
  have ho := rrange_o2 n lo hi
  generalize rrange_e2 n lo hi = r at *
  exact calls_way he gfol rrange_X hv rfl (rrange_args n lo hi) hc ho h (bl w)
theorem rrange_any (n lo hi : Int) (hpre : True) (w : World) : Calls Tryz.prog 15 #[.int .i64 n, .int .i64 lo, .int .i64 hi] w fun en w' => en = .returned (rrange_val n lo hi) ∧ Below w.heap.size w w' := by
  rcases Bool.eq_false_or_eq_true (rrange_c0 n lo hi) with h0 | h0
  ·
    unfold rrange_c0 at h0
    have hp := rrange_p0 n lo hi ⟨⟨⟨⟨⟨trivial, h0⟩, h0⟩, h0⟩, h0⟩, rrange_g1⟩ w
    have hv : rrange_w0 n lo hi = rrange_val n lo hi := by
      clear hp
      unfold rrange_w0 rrange_val
      first | rfl | ((try simp only [bne_iff_ne, ne_eq, decide_eq_true_eq, decide_eq_false_iff_not, Bool.not_eq_true', Bool.not_eq_false', beq_iff_eq, beq_eq_false_iff_ne, bne_eq_false_iff_eq, Bool.and_eq_true, Bool.not_eq_true, Bool.not_eq_false, Pl.cr, parts_eq, w20, w16, wT, w20', w16', wT', Pl.lim, Pl.inB, first_two, two, oneB, Bg] at *); grind)
    exact hv ▸ hp
  ·
    unfold rrange_c0 at h0
    rcases Bool.eq_false_or_eq_true (rrange_c1 n lo hi) with h1 | h1
    ·
      unfold rrange_c1 at h1
      have hp := rrange_p1 n lo hi ⟨⟨⟨⟨⟨trivial, h0⟩, h0⟩, h0⟩, h0⟩, h1⟩ w
      have hv : rrange_w1 n lo hi = rrange_val n lo hi := by
        clear hp
        unfold rrange_w1 rrange_val
        first | rfl | ((try simp only [bne_iff_ne, ne_eq, decide_eq_true_eq, decide_eq_false_iff_not, Bool.not_eq_true', Bool.not_eq_false', beq_iff_eq, beq_eq_false_iff_ne, bne_eq_false_iff_eq, Bool.and_eq_true, Bool.not_eq_true, Bool.not_eq_false, Pl.cr, parts_eq, w20, w16, wT, w20', w16', wT', Pl.lim, Pl.inB, first_two, two, oneB, Bg] at *); grind)
      exact hv ▸ hp
    ·
      unfold rrange_c1 at h1
      have hp := rrange_p2 n lo hi ⟨⟨⟨⟨⟨trivial, h0⟩, h0⟩, h0⟩, h0⟩, h1⟩ w
      have hv : rrange_w2 n lo hi = rrange_val n lo hi := by
        clear hp
        unfold rrange_w2 rrange_val
        first | rfl | ((try simp only [bne_iff_ne, ne_eq, decide_eq_true_eq, decide_eq_false_iff_not, Bool.not_eq_true', Bool.not_eq_false', beq_iff_eq, beq_eq_false_iff_ne, bne_eq_false_iff_eq, Bool.and_eq_true, Bool.not_eq_true, Bool.not_eq_false, Pl.cr, parts_eq, w20, w16, wT, w20', w16', wT', Pl.lim, Pl.inB, first_two, two, oneB, Bg] at *); grind)
      exact hv ▸ hp
theorem k_rrange : ConOk Tryz.prog c_rrange := fun ns hl => by
  have hl0 : ns.length = 3 := hl
  clear hl
  obtain ⟨n, ns0, rfl, hl1⟩ := len_cons hl0
  obtain ⟨lo, ns1, rfl, hl2⟩ := len_cons hl1
  obtain ⟨hi, ns2, rfl, hl3⟩ := len_cons hl2
  obtain rfl := len_nil hl3
  exact ⟨rfl, fun h w => rrange_any n lo hi h w⟩
end Go.Proofs.YtledgemlflbfdaaGreatDoor
end
section
set_option linter.all false
set_option maxRecDepth 1000000
set_option maxHeartbeats 2000000
open Go.RowKit
namespace Go.Proofs.YtledgemlflbfdaaGreatDoor
open Mini

def rcheckEisen_val (a b : Int) : Value := .int .i64 (Pl.parts a b 1048576)
theorem rcheckEisen_X : FOkS Tryz.prog x_rcheckEisen := kAll_ok _ ⟨k_rrange, trivial⟩
theorem rcheckEisen_args (a b : Int) : (#[.agg #[.int .i64 a, .int .i64 b]] : Array Value).toList.all (ground 8) = true := by kernel_rfl
theorem rcheckEisen_g0 : True := by first | rfl | trivial | decide | omega
theorem rcheckEisen_g1 : ((decide ((0 : Int) < ((2 : Nat) : Int))) = Bool.true) := by first | rfl | trivial | decide | omega
theorem rcheckEisen_g2 : ((0 : Int) = (Int.ofNat 0)) := by first | rfl | trivial | decide | omega
def rcheckEisen_c0 (a b : Int) : Bool := ((Pl.cr a (IntKind.i64.wrap ((0 : Int) - (1048576 : Int))) (1048576 : Int)) != (0 : Int))
theorem rcheckEisen_g4 : ((decide ((IntKind.i64.wrap ((0 : Int) + (1 : Int))) < ((2 : Nat) : Int))) = Bool.true) := by first | rfl | trivial | decide | omega
theorem rcheckEisen_g5 : ((IntKind.i64.wrap ((0 : Int) + (1 : Int))) = (Int.ofNat 1)) := by first | rfl | trivial | decide | omega
def rcheckEisen_c1 (a b : Int) : Bool := ((Pl.cr b (IntKind.i64.wrap ((0 : Int) - (1048576 : Int))) (1048576 : Int)) != (0 : Int))
theorem rcheckEisen_g7 : ((decide ((IntKind.i64.wrap ((IntKind.i64.wrap ((0 : Int) + (1 : Int))) + (1 : Int))) < ((2 : Nat) : Int))) = Bool.false) := by first | rfl | trivial | decide | omega
def rcheckEisen_w0 (a b : Int) : Value := .int .i64 (0 : Int)
def rcheckEisen_r0 (a b : Int) : Prop := (((((((((True ∧ (True)) ∧ (True)) ∧ (((decide ((0 : Int) < ((2 : Nat) : Int))) = Bool.true))) ∧ (((0 : Int) = (Int.ofNat 0)))) ∧ (rcheckEisen_c0 a b = false)) ∧ (((decide ((IntKind.i64.wrap ((0 : Int) + (1 : Int))) < ((2 : Nat) : Int))) = Bool.true))) ∧ (((IntKind.i64.wrap ((0 : Int) + (1 : Int))) = (Int.ofNat 1)))) ∧ (rcheckEisen_c1 a b = false)) ∧ (((decide ((IntKind.i64.wrap ((IntKind.i64.wrap ((0 : Int) + (1 : Int))) + (1 : Int))) < ((2 : Nat) : Int))) = Bool.false)))
theorem rcheckEisen_o0 (a b : Int) : obOf (rcheckEisen_e0 a b) = rcheckEisen_r0 a b := by kernel_rfl
theorem rcheckEisen_v0 (a b : Int) : resOf (rcheckEisen_e0 a b) = rcheckEisen_w0 a b := by kernel_rfl
theorem rcheckEisen_k0 (a b : Int) : cleanOf Tryz.prog.globals.size (rcheckEisen_e0 a b) = true := by kernel_rfl
theorem rcheckEisen_q0 (a b : Int) : rcheckEisen_e0 a b = evFS Tryz.prog x_rcheckEisen 1000 13 #[.agg #[.int .i64 a, .int .i64 b]] (noTabs 6) ⟨[1, 0, 0, 1, 1, 0, 0], True⟩ := by
  delta rcheckEisen_e0
  exact Eq.refl _
theorem rcheckEisen_p0 (a b : Int) (h : rcheckEisen_r0 a b) (w : World) : Calls Tryz.prog 13 #[.agg #[.int .i64 a, .int .i64 b]] w fun en w' => en = .returned (rcheckEisen_w0 a b) ∧ Below w.heap.size w w' := by
  have hv := rcheckEisen_v0 a b
  have hc := rcheckEisen_k0 a b
  have he := rcheckEisen_q0 a b
  have ho := rcheckEisen_o0 a b
  generalize rcheckEisen_e0 a b = r at *
  exact calls_way he gfol rcheckEisen_X hv rfl (rcheckEisen_args a b) hc ho h (bl w)
def rcheckEisen_w1 (a b : Int) : Value := .int .i64 (Pl.cr b (IntKind.i64.wrap ((0 : Int) - (1048576 : Int))) (1048576 : Int))
def rcheckEisen_r1 (a b : Int) : Prop := (((((((((True ∧ (True)) ∧ (True)) ∧ (((decide ((0 : Int) < ((2 : Nat) : Int))) = Bool.true))) ∧ (((0 : Int) = (Int.ofNat 0)))) ∧ (rcheckEisen_c0 a b = false)) ∧ (((decide ((IntKind.i64.wrap ((0 : Int) + (1 : Int))) < ((2 : Nat) : Int))) = Bool.true))) ∧ (((IntKind.i64.wrap ((0 : Int) + (1 : Int))) = (Int.ofNat 1)))) ∧ (rcheckEisen_c1 a b = true)) ∧ (((IntKind.i64.wrap ((0 : Int) + (1 : Int))) = (Int.ofNat 1))))
theorem rcheckEisen_o1 (a b : Int) : obOf (rcheckEisen_e1 a b) = rcheckEisen_r1 a b := by kernel_rfl
theorem rcheckEisen_v1 (a b : Int) : resOf (rcheckEisen_e1 a b) = rcheckEisen_w1 a b := by kernel_rfl
theorem rcheckEisen_k1 (a b : Int) : cleanOf Tryz.prog.globals.size (rcheckEisen_e1 a b) = true := by kernel_rfl
theorem rcheckEisen_q1 (a b : Int) : rcheckEisen_e1 a b = evFS Tryz.prog x_rcheckEisen 1000 13 #[.agg #[.int .i64 a, .int .i64 b]] (noTabs 6) ⟨[1, 0, 0, 1, 1, 1, 1], True⟩ := by
  delta rcheckEisen_e1
  exact Eq.refl _
theorem rcheckEisen_p1 (a b : Int) (h : rcheckEisen_r1 a b) (w : World) : Calls Tryz.prog 13 #[.agg #[.int .i64 a, .int .i64 b]] w fun en w' => en = .returned (rcheckEisen_w1 a b) ∧ Below w.heap.size w w' := by
  have hv := rcheckEisen_v1 a b
  have hc := rcheckEisen_k1 a b
  have he := rcheckEisen_q1 a b
  have ho := rcheckEisen_o1 a b
  generalize rcheckEisen_e1 a b = r at *
  exact calls_way he gfol rcheckEisen_X hv rfl (rcheckEisen_args a b) hc ho h (bl w)
def rcheckEisen_w2 (a b : Int) : Value := .int .i64 (Pl.cr a (IntKind.i64.wrap ((0 : Int) - (1048576 : Int))) (1048576 : Int))
def rcheckEisen_r2 (a b : Int) : Prop := ((((((True ∧ (True)) ∧ (True)) ∧ (((decide ((0 : Int) < ((2 : Nat) : Int))) = Bool.true))) ∧ (((0 : Int) = (Int.ofNat 0)))) ∧ (rcheckEisen_c0 a b = true)) ∧ (((0 : Int) = (Int.ofNat 0))))
theorem rcheckEisen_o2 (a b : Int) : obOf (rcheckEisen_e2 a b) = rcheckEisen_r2 a b := by kernel_rfl
theorem rcheckEisen_v2 (a b : Int) : resOf (rcheckEisen_e2 a b) = rcheckEisen_w2 a b := by kernel_rfl
theorem rcheckEisen_k2 (a b : Int) : cleanOf Tryz.prog.globals.size (rcheckEisen_e2 a b) = true := by kernel_rfl
theorem rcheckEisen_q2 (a b : Int) : rcheckEisen_e2 a b = evFS Tryz.prog x_rcheckEisen 1000 13 #[.agg #[.int .i64 a, .int .i64 b]] (noTabs 6) ⟨[1, 0, 1, 0], True⟩ := by
  delta rcheckEisen_e2
  exact Eq.refl _
theorem rcheckEisen_p2 (a b : Int) (h : rcheckEisen_r2 a b) (w : World) : Calls Tryz.prog 13 #[.agg #[.int .i64 a, .int .i64 b]] w fun en w' => en = .returned (rcheckEisen_w2 a b) ∧ Below w.heap.size w w' := by
  have hv := rcheckEisen_v2 a b
  have hc := rcheckEisen_k2 a b
  have he := rcheckEisen_q2 a b
  have ho := rcheckEisen_o2 a b
  generalize rcheckEisen_e2 a b = r at *
  exact calls_way he gfol rcheckEisen_X hv rfl (rcheckEisen_args a b) hc ho h (bl w)
theorem rcheckEisen_any (a b : Int) (hpre : True) (w : World) : Calls Tryz.prog 13 #[.agg #[.int .i64 a, .int .i64 b]] w fun en w' => en = .returned (rcheckEisen_val a b) ∧ Below w.heap.size w w' := by
  rcases Bool.eq_false_or_eq_true (rcheckEisen_c0 a b) with h0 | h0
  ·
    unfold rcheckEisen_c0 at h0
    have hp := rcheckEisen_p2 a b ⟨⟨⟨⟨⟨⟨trivial, rcheckEisen_g0⟩, rcheckEisen_g0⟩, rcheckEisen_g1⟩, rcheckEisen_g2⟩, h0⟩, rcheckEisen_g2⟩ w
    have hv : rcheckEisen_w2 a b = rcheckEisen_val a b := by
      clear hp
      unfold rcheckEisen_w2 rcheckEisen_val
      first | rfl | ((try simp only [bne_iff_ne, ne_eq, decide_eq_true_eq, decide_eq_false_iff_not, Bool.not_eq_true', Bool.not_eq_false', beq_iff_eq, beq_eq_false_iff_ne, bne_eq_false_iff_eq, Bool.and_eq_true, Bool.not_eq_true, Bool.not_eq_false, Pl.cr, parts_eq, w20, w16, wT, w20', w16', wT', Pl.lim, Pl.inB, first_two, two, oneB, Bg] at *); grind)
    exact hv ▸ hp
  ·
    unfold rcheckEisen_c0 at h0
    rcases Bool.eq_false_or_eq_true (rcheckEisen_c1 a b) with h1 | h1
    ·
      unfold rcheckEisen_c1 at h1
      have hp := rcheckEisen_p1 a b ⟨⟨⟨⟨⟨⟨⟨⟨⟨trivial, rcheckEisen_g0⟩, rcheckEisen_g0⟩, rcheckEisen_g1⟩, rcheckEisen_g2⟩, h0⟩, rcheckEisen_g4⟩, rcheckEisen_g5⟩, h1⟩, rcheckEisen_g5⟩ w
      have hv : rcheckEisen_w1 a b = rcheckEisen_val a b := by
        clear hp
        unfold rcheckEisen_w1 rcheckEisen_val
        first | rfl | ((try simp only [bne_iff_ne, ne_eq, decide_eq_true_eq, decide_eq_false_iff_not, Bool.not_eq_true', Bool.not_eq_false', beq_iff_eq, beq_eq_false_iff_ne, bne_eq_false_iff_eq, Bool.and_eq_true, Bool.not_eq_true, Bool.not_eq_false, Pl.cr, parts_eq, w20, w16, wT, w20', w16', wT', Pl.lim, Pl.inB, first_two, two, oneB, Bg] at *); grind)
      exact hv ▸ hp
    ·
      unfold rcheckEisen_c1 at h1
      have hp := rcheckEisen_p0 a b ⟨⟨⟨⟨⟨⟨⟨⟨⟨trivial, rcheckEisen_g0⟩, rcheckEisen_g0⟩, rcheckEisen_g1⟩, rcheckEisen_g2⟩, h0⟩, rcheckEisen_g4⟩, rcheckEisen_g5⟩, h1⟩, rcheckEisen_g7⟩ w
      have hv : rcheckEisen_w0 a b = rcheckEisen_val a b := by
        clear hp
        unfold rcheckEisen_w0 rcheckEisen_val
        first | rfl | ((try simp only [bne_iff_ne, ne_eq, decide_eq_true_eq, decide_eq_false_iff_not, Bool.not_eq_true', Bool.not_eq_false', beq_iff_eq, beq_eq_false_iff_ne, bne_eq_false_iff_eq, Bool.and_eq_true, Bool.not_eq_true, Bool.not_eq_false, Pl.cr, parts_eq, w20, w16, wT, w20', w16', wT', Pl.lim, Pl.inB, first_two, two, oneB, Bg] at *); grind)
      exact hv ▸ hp
theorem k_rcheckEisen : ConOk Tryz.prog c_rcheckEisen := fun ns hl => by
  have hl0 : ns.length = 2 := hl
  clear hl
  obtain ⟨a, ns0, rfl, hl1⟩ := len_cons hl0
  obtain ⟨b, ns1, rfl, hl2⟩ := len_cons hl1
  obtain rfl := len_nil hl2
  exact ⟨rfl, fun h w => rcheckEisen_any a b h w⟩
end Go.Proofs.YtledgemlflbfdaaGreatDoor
end
section
set_option linter.all false
set_option maxRecDepth 1000000
set_option maxHeartbeats 2000000
open Go.RowKit
namespace Go.Proofs.YtledgemlflbfdaaGreatDoor
open Mini

def rcheckThree_val (a1 a2 b1 b2 c1 c2 : Int) : Value := .int .i64 (th (Pl.parts a1 a2 1048576) (Pl.parts b1 b2 1048576) (Pl.parts c1 c2 1048576))
theorem rcheckThree_X : FOkS Tryz.prog x_rcheckThree := kAll_ok _ ⟨k_rcheckEisen, trivial⟩
theorem rcheckThree_args (a1 a2 b1 b2 c1 c2 : Int) : (#[.agg #[.int .i64 a1, .int .i64 a2, .int .i64 b1, .int .i64 b2, .int .i64 c1, .int .i64 c2]] : Array Value).toList.all (ground 8) = true := by kernel_rfl
theorem rcheckThree_g0 : ((0 : Int) = (Int.ofNat 0)) := by first | rfl | trivial | decide | omega
theorem rcheckThree_g1 : True := by first | rfl | trivial | decide | omega
theorem rcheckThree_g2 : ((1 : Int) = (Int.ofNat 1)) := by first | rfl | trivial | decide | omega
theorem rcheckThree_g3 : ((2 : Int) = (Int.ofNat 2)) := by first | rfl | trivial | decide | omega
theorem rcheckThree_g4 : ((decide ((0 : Int) < ((3 : Nat) : Int))) = Bool.true) := by first | rfl | trivial | decide | omega
def rcheckThree_c0 (a1 a2 b1 b2 c1 c2 : Int) : Bool := ((Pl.parts a1 a2 (1048576 : Int)) != (0 : Int))
theorem rcheckThree_g7 : ((decide ((IntKind.i64.wrap ((0 : Int) + (1 : Int))) < ((3 : Nat) : Int))) = Bool.true) := by first | rfl | trivial | decide | omega
theorem rcheckThree_g8 : ((IntKind.i64.wrap ((0 : Int) + (1 : Int))) = (Int.ofNat 1)) := by first | rfl | trivial | decide | omega
def rcheckThree_c1 (a1 a2 b1 b2 c1 c2 : Int) : Bool := ((Pl.parts b1 b2 (1048576 : Int)) != (0 : Int))
theorem rcheckThree_g10 : ((decide ((IntKind.i64.wrap ((IntKind.i64.wrap ((0 : Int) + (1 : Int))) + (1 : Int))) < ((3 : Nat) : Int))) = Bool.true) := by first | rfl | trivial | decide | omega
theorem rcheckThree_g11 : ((IntKind.i64.wrap ((IntKind.i64.wrap ((0 : Int) + (1 : Int))) + (1 : Int))) = (Int.ofNat 2)) := by first | rfl | trivial | decide | omega
def rcheckThree_c2 (a1 a2 b1 b2 c1 c2 : Int) : Bool := ((Pl.parts c1 c2 (1048576 : Int)) != (0 : Int))
theorem rcheckThree_g13 : ((decide ((IntKind.i64.wrap ((IntKind.i64.wrap ((IntKind.i64.wrap ((0 : Int) + (1 : Int))) + (1 : Int))) + (1 : Int))) < ((3 : Nat) : Int))) = Bool.false) := by first | rfl | trivial | decide | omega
def rcheckThree_w0 (a1 a2 b1 b2 c1 c2 : Int) : Value := .int .i64 (Pl.parts a1 a2 (1048576 : Int))
def rcheckThree_r0 (a1 a2 b1 b2 c1 c2 : Int) : Prop := ((((((((((True ∧ (((0 : Int) = (Int.ofNat 0)))) ∧ (True)) ∧ (((1 : Int) = (Int.ofNat 1)))) ∧ (True)) ∧ (((2 : Int) = (Int.ofNat 2)))) ∧ (True)) ∧ (((decide ((0 : Int) < ((3 : Nat) : Int))) = Bool.true))) ∧ (((0 : Int) = (Int.ofNat 0)))) ∧ (rcheckThree_c0 a1 a2 b1 b2 c1 c2 = true)) ∧ (((0 : Int) = (Int.ofNat 0))))
theorem rcheckThree_o0 (a1 a2 b1 b2 c1 c2 : Int) : obOf (rcheckThree_e0 a1 a2 b1 b2 c1 c2) = rcheckThree_r0 a1 a2 b1 b2 c1 c2 := by kernel_rfl
theorem rcheckThree_v0 (a1 a2 b1 b2 c1 c2 : Int) : resOf (rcheckThree_e0 a1 a2 b1 b2 c1 c2) = rcheckThree_w0 a1 a2 b1 b2 c1 c2 := by kernel_rfl
theorem rcheckThree_k0 (a1 a2 b1 b2 c1 c2 : Int) : cleanOf Tryz.prog.globals.size (rcheckThree_e0 a1 a2 b1 b2 c1 c2) = true := by kernel_rfl
theorem rcheckThree_q0 (a1 a2 b1 b2 c1 c2 : Int) : rcheckThree_e0 a1 a2 b1 b2 c1 c2 = evFS Tryz.prog x_rcheckThree 1000 34 #[.agg #[.int .i64 a1, .int .i64 a2, .int .i64 b1, .int .i64 b2, .int .i64 c1, .int .i64 c2]] (noTabs 6) ⟨[0, 1, 2, 1, 0, 1, 0], True⟩ := by
  delta rcheckThree_e0
  exact Eq.refl _
theorem rcheckThree_p0 (a1 a2 b1 b2 c1 c2 : Int) (h : rcheckThree_r0 a1 a2 b1 b2 c1 c2) (w : World) : Calls Tryz.prog 34 #[.agg #[.int .i64 a1, .int .i64 a2, .int .i64 b1, .int .i64 b2, .int .i64 c1, .int .i64 c2]] w fun en w' => en = .returned (rcheckThree_w0 a1 a2 b1 b2 c1 c2) ∧ Below w.heap.size w w' := by
  have hv := rcheckThree_v0 a1 a2 b1 b2 c1 c2
  have hc := rcheckThree_k0 a1 a2 b1 b2 c1 c2
  have he := rcheckThree_q0 a1 a2 b1 b2 c1 c2
  have ho := rcheckThree_o0 a1 a2 b1 b2 c1 c2
  generalize rcheckThree_e0 a1 a2 b1 b2 c1 c2 = r at *
  exact calls_way he gfol rcheckThree_X hv rfl (rcheckThree_args a1 a2 b1 b2 c1 c2) hc ho h (bl w)
def rcheckThree_w1 (a1 a2 b1 b2 c1 c2 : Int) : Value := .int .i64 (0 : Int)
def rcheckThree_r1 (a1 a2 b1 b2 c1 c2 : Int) : Prop := ((((((((((((((((True ∧ (((0 : Int) = (Int.ofNat 0)))) ∧ (True)) ∧ (((1 : Int) = (Int.ofNat 1)))) ∧ (True)) ∧ (((2 : Int) = (Int.ofNat 2)))) ∧ (True)) ∧ (((decide ((0 : Int) < ((3 : Nat) : Int))) = Bool.true))) ∧ (((0 : Int) = (Int.ofNat 0)))) ∧ (rcheckThree_c0 a1 a2 b1 b2 c1 c2 = false)) ∧ (((decide ((IntKind.i64.wrap ((0 : Int) + (1 : Int))) < ((3 : Nat) : Int))) = Bool.true))) ∧ (((IntKind.i64.wrap ((0 : Int) + (1 : Int))) = (Int.ofNat 1)))) ∧ (rcheckThree_c1 a1 a2 b1 b2 c1 c2 = false)) ∧ (((decide ((IntKind.i64.wrap ((IntKind.i64.wrap ((0 : Int) + (1 : Int))) + (1 : Int))) < ((3 : Nat) : Int))) = Bool.true))) ∧ (((IntKind.i64.wrap ((IntKind.i64.wrap ((0 : Int) + (1 : Int))) + (1 : Int))) = (Int.ofNat 2)))) ∧ (rcheckThree_c2 a1 a2 b1 b2 c1 c2 = false)) ∧ (((decide ((IntKind.i64.wrap ((IntKind.i64.wrap ((IntKind.i64.wrap ((0 : Int) + (1 : Int))) + (1 : Int))) + (1 : Int))) < ((3 : Nat) : Int))) = Bool.false)))
theorem rcheckThree_o1 (a1 a2 b1 b2 c1 c2 : Int) : obOf (rcheckThree_e1 a1 a2 b1 b2 c1 c2) = rcheckThree_r1 a1 a2 b1 b2 c1 c2 := by kernel_rfl
theorem rcheckThree_v1 (a1 a2 b1 b2 c1 c2 : Int) : resOf (rcheckThree_e1 a1 a2 b1 b2 c1 c2) = rcheckThree_w1 a1 a2 b1 b2 c1 c2 := by kernel_rfl
theorem rcheckThree_k1 (a1 a2 b1 b2 c1 c2 : Int) : cleanOf Tryz.prog.globals.size (rcheckThree_e1 a1 a2 b1 b2 c1 c2) = true := by kernel_rfl
theorem rcheckThree_q1 (a1 a2 b1 b2 c1 c2 : Int) : rcheckThree_e1 a1 a2 b1 b2 c1 c2 = evFS Tryz.prog x_rcheckThree 1000 34 #[.agg #[.int .i64 a1, .int .i64 a2, .int .i64 b1, .int .i64 b2, .int .i64 c1, .int .i64 c2]] (noTabs 6) ⟨[0, 1, 2, 1, 0, 0, 1, 1, 0, 1, 2, 0, 0], True⟩ := by
  delta rcheckThree_e1
  exact Eq.refl _
theorem rcheckThree_p1 (a1 a2 b1 b2 c1 c2 : Int) (h : rcheckThree_r1 a1 a2 b1 b2 c1 c2) (w : World) : Calls Tryz.prog 34 #[.agg #[.int .i64 a1, .int .i64 a2, .int .i64 b1, .int .i64 b2, .int .i64 c1, .int .i64 c2]] w fun en w' => en = .returned (rcheckThree_w1 a1 a2 b1 b2 c1 c2) ∧ Below w.heap.size w w' := by
  have hv := rcheckThree_v1 a1 a2 b1 b2 c1 c2
  have hc := rcheckThree_k1 a1 a2 b1 b2 c1 c2
  have he := rcheckThree_q1 a1 a2 b1 b2 c1 c2
  have ho := rcheckThree_o1 a1 a2 b1 b2 c1 c2
  generalize rcheckThree_e1 a1 a2 b1 b2 c1 c2 = r at *
  exact calls_way he gfol rcheckThree_X hv rfl (rcheckThree_args a1 a2 b1 b2 c1 c2) hc ho h (bl w)
def rcheckThree_w2 (a1 a2 b1 b2 c1 c2 : Int) : Value := .int .i64 (Pl.parts b1 b2 (1048576 : Int))
def rcheckThree_r2 (a1 a2 b1 b2 c1 c2 : Int) : Prop := (((((((((((((True ∧ (((0 : Int) = (Int.ofNat 0)))) ∧ (True)) ∧ (((1 : Int) = (Int.ofNat 1)))) ∧ (True)) ∧ (((2 : Int) = (Int.ofNat 2)))) ∧ (True)) ∧ (((decide ((0 : Int) < ((3 : Nat) : Int))) = Bool.true))) ∧ (((0 : Int) = (Int.ofNat 0)))) ∧ (rcheckThree_c0 a1 a2 b1 b2 c1 c2 = false)) ∧ (((decide ((IntKind.i64.wrap ((0 : Int) + (1 : Int))) < ((3 : Nat) : Int))) = Bool.true))) ∧ (((IntKind.i64.wrap ((0 : Int) + (1 : Int))) = (Int.ofNat 1)))) ∧ (rcheckThree_c1 a1 a2 b1 b2 c1 c2 = true)) ∧ (((IntKind.i64.wrap ((0 : Int) + (1 : Int))) = (Int.ofNat 1))))
theorem rcheckThree_o2 (a1 a2 b1 b2 c1 c2 : Int) : obOf (rcheckThree_e2 a1 a2 b1 b2 c1 c2) = rcheckThree_r2 a1 a2 b1 b2 c1 c2 := by kernel_rfl
theorem rcheckThree_v2 (a1 a2 b1 b2 c1 c2 : Int) : resOf (rcheckThree_e2 a1 a2 b1 b2 c1 c2) = rcheckThree_w2 a1 a2 b1 b2 c1 c2 := by kernel_rfl
theorem rcheckThree_k2 (a1 a2 b1 b2 c1 c2 : Int) : cleanOf Tryz.prog.globals.size (rcheckThree_e2 a1 a2 b1 b2 c1 c2) = true := by kernel_rfl
theorem rcheckThree_q2 (a1 a2 b1 b2 c1 c2 : Int) : rcheckThree_e2 a1 a2 b1 b2 c1 c2 = evFS Tryz.prog x_rcheckThree 1000 34 #[.agg #[.int .i64 a1, .int .i64 a2, .int .i64 b1, .int .i64 b2, .int .i64 c1, .int .i64 c2]] (noTabs 6) ⟨[0, 1, 2, 1, 0, 0, 1, 1, 1, 1], True⟩ := by
  delta rcheckThree_e2
  exact Eq.refl _
theorem rcheckThree_p2 (a1 a2 b1 b2 c1 c2 : Int) (h : rcheckThree_r2 a1 a2 b1 b2 c1 c2) (w : World) : Calls Tryz.prog 34 #[.agg #[.int .i64 a1, .int .i64 a2, .int .i64 b1, .int .i64 b2, .int .i64 c1, .int .i64 c2]] w fun en w' => en = .returned (rcheckThree_w2 a1 a2 b1 b2 c1 c2) ∧ Below w.heap.size w w' := by
  have hv := rcheckThree_v2 a1 a2 b1 b2 c1 c2
  have hc := rcheckThree_k2 a1 a2 b1 b2 c1 c2
  have he := rcheckThree_q2 a1 a2 b1 b2 c1 c2
  have ho := rcheckThree_o2 a1 a2 b1 b2 c1 c2
  generalize rcheckThree_e2 a1 a2 b1 b2 c1 c2 = r at *
  exact calls_way he gfol rcheckThree_X hv rfl (rcheckThree_args a1 a2 b1 b2 c1 c2) hc ho h (bl w)
def rcheckThree_w3 (a1 a2 b1 b2 c1 c2 : Int) : Value := .int .i64 (Pl.parts c1 c2 (1048576 : Int))
def rcheckThree_r3 (a1 a2 b1 b2 c1 c2 : Int) : Prop := ((((((((((((((((True ∧ (((0 : Int) = (Int.ofNat 0)))) ∧ (True)) ∧ (((1 : Int) = (Int.ofNat 1)))) ∧ (True)) ∧ (((2 : Int) = (Int.ofNat 2)))) ∧ (True)) ∧ (((decide ((0 : Int) < ((3 : Nat) : Int))) = Bool.true))) ∧ (((0 : Int) = (Int.ofNat 0)))) ∧ (rcheckThree_c0 a1 a2 b1 b2 c1 c2 = false)) ∧ (((decide ((IntKind.i64.wrap ((0 : Int) + (1 : Int))) < ((3 : Nat) : Int))) = Bool.true))) ∧ (((IntKind.i64.wrap ((0 : Int) + (1 : Int))) = (Int.ofNat 1)))) ∧ (rcheckThree_c1 a1 a2 b1 b2 c1 c2 = false)) ∧ (((decide ((IntKind.i64.wrap ((IntKind.i64.wrap ((0 : Int) + (1 : Int))) + (1 : Int))) < ((3 : Nat) : Int))) = Bool.true))) ∧ (((IntKind.i64.wrap ((IntKind.i64.wrap ((0 : Int) + (1 : Int))) + (1 : Int))) = (Int.ofNat 2)))) ∧ (rcheckThree_c2 a1 a2 b1 b2 c1 c2 = true)) ∧ (((IntKind.i64.wrap ((IntKind.i64.wrap ((0 : Int) + (1 : Int))) + (1 : Int))) = (Int.ofNat 2))))
theorem rcheckThree_o3 (a1 a2 b1 b2 c1 c2 : Int) : obOf (rcheckThree_e3 a1 a2 b1 b2 c1 c2) = rcheckThree_r3 a1 a2 b1 b2 c1 c2 := by kernel_rfl
theorem rcheckThree_v3 (a1 a2 b1 b2 c1 c2 : Int) : resOf (rcheckThree_e3 a1 a2 b1 b2 c1 c2) = rcheckThree_w3 a1 a2 b1 b2 c1 c2 := by kernel_rfl
theorem rcheckThree_k3 (a1 a2 b1 b2 c1 c2 : Int) : cleanOf Tryz.prog.globals.size (rcheckThree_e3 a1 a2 b1 b2 c1 c2) = true := by kernel_rfl
theorem rcheckThree_q3 (a1 a2 b1 b2 c1 c2 : Int) : rcheckThree_e3 a1 a2 b1 b2 c1 c2 = evFS Tryz.prog x_rcheckThree 1000 34 #[.agg #[.int .i64 a1, .int .i64 a2, .int .i64 b1, .int .i64 b2, .int .i64 c1, .int .i64 c2]] (noTabs 6) ⟨[0, 1, 2, 1, 0, 0, 1, 1, 0, 1, 2, 1, 2], True⟩ := by
  delta rcheckThree_e3
  exact Eq.refl _
theorem rcheckThree_p3 (a1 a2 b1 b2 c1 c2 : Int) (h : rcheckThree_r3 a1 a2 b1 b2 c1 c2) (w : World) : Calls Tryz.prog 34 #[.agg #[.int .i64 a1, .int .i64 a2, .int .i64 b1, .int .i64 b2, .int .i64 c1, .int .i64 c2]] w fun en w' => en = .returned (rcheckThree_w3 a1 a2 b1 b2 c1 c2) ∧ Below w.heap.size w w' := by
  have hv := rcheckThree_v3 a1 a2 b1 b2 c1 c2
  have hc := rcheckThree_k3 a1 a2 b1 b2 c1 c2
  have he := rcheckThree_q3 a1 a2 b1 b2 c1 c2
  have ho := rcheckThree_o3 a1 a2 b1 b2 c1 c2
  generalize rcheckThree_e3 a1 a2 b1 b2 c1 c2 = r at *
  exact calls_way he gfol rcheckThree_X hv rfl (rcheckThree_args a1 a2 b1 b2 c1 c2) hc ho h (bl w)
theorem rcheckThree_any (a1 a2 b1 b2 c1 c2 : Int) (hpre : True) (w : World) : Calls Tryz.prog 34 #[.agg #[.int .i64 a1, .int .i64 a2, .int .i64 b1, .int .i64 b2, .int .i64 c1, .int .i64 c2]] w fun en w' => en = .returned (rcheckThree_val a1 a2 b1 b2 c1 c2) ∧ Below w.heap.size w w' := by
  rcases Bool.eq_false_or_eq_true (rcheckThree_c0 a1 a2 b1 b2 c1 c2) with h0 | h0
  ·
    unfold rcheckThree_c0 at h0
    have hp := rcheckThree_p0 a1 a2 b1 b2 c1 c2 ⟨⟨⟨⟨⟨⟨⟨⟨⟨⟨trivial, rcheckThree_g0⟩, rcheckThree_g1⟩, rcheckThree_g2⟩, rcheckThree_g1⟩, rcheckThree_g3⟩, rcheckThree_g1⟩, rcheckThree_g4⟩, rcheckThree_g0⟩, h0⟩, rcheckThree_g0⟩ w
    have hv : rcheckThree_w0 a1 a2 b1 b2 c1 c2 = rcheckThree_val a1 a2 b1 b2 c1 c2 := by
      clear hp
      unfold rcheckThree_w0 rcheckThree_val
      first | rfl | ((try simp only [bne_eq_false_iff_eq, bne_iff_ne, ne_eq, beq_iff_eq, beq_eq_false_iff_ne] at *); (try simp only [th, cz, *, ↓reduceIte]); done)
    exact hv ▸ hp
  ·
    unfold rcheckThree_c0 at h0
    rcases Bool.eq_false_or_eq_true (rcheckThree_c1 a1 a2 b1 b2 c1 c2) with h1 | h1
    ·
      unfold rcheckThree_c1 at h1
      have hp := rcheckThree_p2 a1 a2 b1 b2 c1 c2 ⟨⟨⟨⟨⟨⟨⟨⟨⟨⟨⟨⟨⟨trivial, rcheckThree_g0⟩, rcheckThree_g1⟩, rcheckThree_g2⟩, rcheckThree_g1⟩, rcheckThree_g3⟩, rcheckThree_g1⟩, rcheckThree_g4⟩, rcheckThree_g0⟩, h0⟩, rcheckThree_g7⟩, rcheckThree_g8⟩, h1⟩, rcheckThree_g8⟩ w
      have hv : rcheckThree_w2 a1 a2 b1 b2 c1 c2 = rcheckThree_val a1 a2 b1 b2 c1 c2 := by
        clear hp
        unfold rcheckThree_w2 rcheckThree_val
        first | rfl | ((try simp only [bne_eq_false_iff_eq, bne_iff_ne, ne_eq, beq_iff_eq, beq_eq_false_iff_ne] at *); (try simp only [th, cz, *, ↓reduceIte]); done)
      exact hv ▸ hp
    ·
      unfold rcheckThree_c1 at h1
      rcases Bool.eq_false_or_eq_true (rcheckThree_c2 a1 a2 b1 b2 c1 c2) with h2 | h2
      ·
        unfold rcheckThree_c2 at h2
        have hp := rcheckThree_p3 a1 a2 b1 b2 c1 c2 ⟨⟨⟨⟨⟨⟨⟨⟨⟨⟨⟨⟨⟨⟨⟨⟨trivial, rcheckThree_g0⟩, rcheckThree_g1⟩, rcheckThree_g2⟩, rcheckThree_g1⟩, rcheckThree_g3⟩, rcheckThree_g1⟩, rcheckThree_g4⟩, rcheckThree_g0⟩, h0⟩, rcheckThree_g7⟩, rcheckThree_g8⟩, h1⟩, rcheckThree_g10⟩, rcheckThree_g11⟩, h2⟩, rcheckThree_g11⟩ w
        have hv : rcheckThree_w3 a1 a2 b1 b2 c1 c2 = rcheckThree_val a1 a2 b1 b2 c1 c2 := by
          clear hp
          unfold rcheckThree_w3 rcheckThree_val
          first | rfl | ((try simp only [bne_eq_false_iff_eq, bne_iff_ne, ne_eq, beq_iff_eq, beq_eq_false_iff_ne] at *); (try simp only [th, cz, *, ↓reduceIte]); done)
        exact hv ▸ hp
      ·
        unfold rcheckThree_c2 at h2
        have hp := rcheckThree_p1 a1 a2 b1 b2 c1 c2 ⟨⟨⟨⟨⟨⟨⟨⟨⟨⟨⟨⟨⟨⟨⟨⟨trivial, rcheckThree_g0⟩, rcheckThree_g1⟩, rcheckThree_g2⟩, rcheckThree_g1⟩, rcheckThree_g3⟩, rcheckThree_g1⟩, rcheckThree_g4⟩, rcheckThree_g0⟩, h0⟩, rcheckThree_g7⟩, rcheckThree_g8⟩, h1⟩, rcheckThree_g10⟩, rcheckThree_g11⟩, h2⟩, rcheckThree_g13⟩ w
        have hv : rcheckThree_w1 a1 a2 b1 b2 c1 c2 = rcheckThree_val a1 a2 b1 b2 c1 c2 := by
          clear hp
          unfold rcheckThree_w1 rcheckThree_val
          first | rfl | ((try simp only [bne_eq_false_iff_eq, bne_iff_ne, ne_eq, beq_iff_eq, beq_eq_false_iff_ne] at *); (try simp only [th, cz, *, ↓reduceIte]); done)
        exact hv ▸ hp
theorem k_rcheckThree : ConOk Tryz.prog c_rcheckThree := fun ns hl => by
  have hl0 : ns.length = 6 := hl
  clear hl
  obtain ⟨a1, ns0, rfl, hl1⟩ := len_cons hl0
  obtain ⟨a2, ns1, rfl, hl2⟩ := len_cons hl1
  obtain ⟨b1, ns2, rfl, hl3⟩ := len_cons hl2
  obtain ⟨b2, ns3, rfl, hl4⟩ := len_cons hl3
  obtain ⟨c1, ns4, rfl, hl5⟩ := len_cons hl4
  obtain ⟨c2, ns5, rfl, hl6⟩ := len_cons hl5
  obtain rfl := len_nil hl6
  exact ⟨rfl, fun h w => rcheckThree_any a1 a2 b1 b2 c1 c2 h w⟩
end Go.Proofs.YtledgemlflbfdaaGreatDoor
end
section
set_option linter.all false
set_option maxRecDepth 1000000
set_option maxHeartbeats 2000000
open Go.RowKit
namespace Go.Proofs.YtledgemlflbfdaaGreatDoor
open Mini

def rcheckThreeS_val (a1 a2 b1 b2 c1 c2 : Int) : Value := .int .i64 0
theorem rcheckThreeS_any (a1 a2 b1 b2 c1 c2 : Int) (hpre : Bg 1048576 a1 a2 ∧ Bg 1048576 b1 b2 ∧ Bg 1048576 c1 c2) (w : World) : Calls Tryz.prog 34 #[.agg #[.int .i64 a1, .int .i64 a2, .int .i64 b1, .int .i64 b2, .int .i64 c1, .int .i64 c2]] w fun en w' => en = .returned (rcheckThreeS_val a1 a2 b1 b2 c1 c2) ∧ Below w.heap.size w w' := by
  have hp := rcheckThree_any a1 a2 b1 b2 c1 c2 (trivial) w
  have hv : rcheckThree_val a1 a2 b1 b2 c1 c2 = rcheckThreeS_val a1 a2 b1 b2 c1 c2 := by
    clear hp
    unfold rcheckThree_val rcheckThreeS_val
    obtain ⟨g1, g2, g3⟩ := hpre
    have hz : th (Pl.parts a1 a2 1048576) (Pl.parts b1 b2 1048576) (Pl.parts c1 c2 1048576) = 0 := th0.2 ⟨parts_bg g1, parts_bg g2, parts_bg g3⟩
    simp only [hz]
  exact hv ▸ hp
theorem k_rcheckThreeS : ConOk Tryz.prog c_rcheckThreeS := fun ns hl => by
  have hl0 : ns.length = 6 := hl
  clear hl
  obtain ⟨a1, ns0, rfl, hl1⟩ := len_cons hl0
  obtain ⟨a2, ns1, rfl, hl2⟩ := len_cons hl1
  obtain ⟨b1, ns2, rfl, hl3⟩ := len_cons hl2
  obtain ⟨b2, ns3, rfl, hl4⟩ := len_cons hl3
  obtain ⟨c1, ns4, rfl, hl5⟩ := len_cons hl4
  obtain ⟨c2, ns5, rfl, hl6⟩ := len_cons hl5
  obtain rfl := len_nil hl6
  exact ⟨rfl, fun h w => rcheckThreeS_any a1 a2 b1 b2 c1 c2 h w⟩
end Go.Proofs.YtledgemlflbfdaaGreatDoor
end
