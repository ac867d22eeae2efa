/-
  What holds whichever entry of a map comes next: a piece of code with several outcomes; ranges over maps.
  Straight lines and lowest terms, known when chapter 5's examples are reckoned.
  The contract of (bipole.flow.straight).voltageOf.
  The contract of (bipole.flow.straight).plus.
  The contract of bipole.flow.through.
  The contract of bipole.whole.Lowest.
  The contract of whole.Divisor (for line.py's KN).
  The greatest common divisor of two numbers, by the rounds of its loop.
  Contracts: what is answered.
  The contract of bipole.flow.Supported.
  The contract of bipole.flow.CheckSupport.
  The supports that the law asks the reference for, one after the other.
  The contract of bipole.bipoleref05.Supported.
  Two rows of integers compared.
  list.Mapped at the power that a support adds.
  The contract of (bipole.flow.Support).added.
  CheckDeviations of the reference.
  The contract of bipole.bipoleref05.CheckSupport.
-/
import Derived.Test.YthhgmnocigekaaaGreatDoorGS2
import Derived.Test.YthhgmnocigekaaaGreatDoorProg
import Derived.Test.YthhgmnocigekaaaGreatDoorGS1
import Derived.Maps.RangeRun
section
set_option linter.all false
set_option maxRecDepth 1000000
set_option maxHeartbeats 2000000
open Go.RowKit
namespace Go.Proofs.YthhgmnocigekaaaGreatDoor
open Mini

def rcSupport_val (sd sg sr : Int) : Value := .int .i64 (spE sd sg sr)
theorem rcSupport_X : FOkS Tryz.prog x_rcSupport := kAll_ok _ ⟨k_rrange, trivial⟩
theorem rcSupport_args (sd sg sr : Int) : (#[.agg #[.int .i64 sd, .int .i64 sg, .int .i64 sr]] : Array Value).toList.all (ground 8) = true := by kernel_rfl
theorem rcSupport_g0 : True := by first | rfl | trivial | decide | omega
theorem rcSupport_g1 : (true = true) := by first | rfl | trivial | decide | omega
theorem rcSupport_g2 : ((0 : Int) = (0 : Int)) := by first | rfl | trivial | decide | omega
def rcSupport_c0 (sd sg sr : Int) : Bool := ((Pl.cr sd (0 : Int) (10000 : Int)) != (0 : Int))
theorem rcSupport_g4 : ((1 : Int) = (1 : Int)) := by first | rfl | trivial | decide | omega
def rcSupport_c1 (sd sg sr : Int) : Bool := ((Pl.cr sg (0 : Int) (1000 : Int)) != (0 : Int))
theorem rcSupport_g6 : ((2 : Int) = (2 : Int)) := by first | rfl | trivial | decide | omega
def rcSupport_c2 (sd sg sr : Int) : Bool := ((Pl.cr sr (0 : Int) (1000 : Int)) != (0 : Int))
theorem rcSupport_g8 : (false = false) := by first | rfl | trivial | decide | omega
def rcSupport_w0 (sd sg sr : Int) : Value := .int .i64 (0 : Int)
def rcSupport_r0 (sd sg sr : Int) : Prop := (((((((((((((True ∧ (True)) ∧ (True)) ∧ (True)) ∧ ((true = true))) ∧ (((0 : Int) = (0 : Int)))) ∧ (rcSupport_c0 sd sg sr = false)) ∧ ((true = true))) ∧ (((1 : Int) = (1 : Int)))) ∧ (rcSupport_c1 sd sg sr = false)) ∧ ((true = true))) ∧ (((2 : Int) = (2 : Int)))) ∧ (rcSupport_c2 sd sg sr = false)) ∧ ((false = false)))
theorem rcSupport_o0 (sd sg sr : Int) : obOf (rcSupport_e0 sd sg sr) = rcSupport_r0 sd sg sr := by kernel_rfl
theorem rcSupport_v0 (sd sg sr : Int) : resOf (rcSupport_e0 sd sg sr) = rcSupport_w0 sd sg sr := by kernel_rfl
theorem rcSupport_k0 (sd sg sr : Int) : cleanOf Tryz.prog.globals.size (rcSupport_e0 sd sg sr) = true := by kernel_rfl
theorem rcSupport_q0 (sd sg sr : Int) : rcSupport_e0 sd sg sr = evFS Tryz.prog x_rcSupport 1000 27 #[.agg #[.int .i64 sd, .int .i64 sg, .int .i64 sr]] (noTabs 4) ⟨[1, 0, 0, 1, 1, 0, 1, 2, 0, 0], True⟩ := by
  delta rcSupport_e0
  exact Eq.refl _
theorem rcSupport_p0 (sd sg sr : Int) (h : rcSupport_r0 sd sg sr) (w : World) : Calls Tryz.prog 27 #[.agg #[.int .i64 sd, .int .i64 sg, .int .i64 sr]] w fun en w' => en = .returned (rcSupport_w0 sd sg sr) ∧ Below w.heap.size w w' := by
  have hv := rcSupport_v0 sd sg sr
  have hc := rcSupport_k0 sd sg sr
  have he := rcSupport_q0 sd sg sr
  have ho := rcSupport_o0 sd sg sr
  generalize rcSupport_e0 sd sg sr = r at *
  exact calls_way he gfol rcSupport_X hv rfl (rcSupport_args sd sg sr) hc ho h (bl w)
def rcSupport_w1 (sd sg sr : Int) : Value := .int .i64 (Pl.cr sd (0 : Int) (10000 : Int))
def rcSupport_r1 (sd sg sr : Int) : Prop := (((((((True ∧ (True)) ∧ (True)) ∧ (True)) ∧ ((true = true))) ∧ (((0 : Int) = (0 : Int)))) ∧ (rcSupport_c0 sd sg sr = true)) ∧ (((0 : Int) = (0 : Int))))
theorem rcSupport_o1 (sd sg sr : Int) : obOf (rcSupport_e1 sd sg sr) = rcSupport_r1 sd sg sr := by kernel_rfl
theorem rcSupport_v1 (sd sg sr : Int) : resOf (rcSupport_e1 sd sg sr) = rcSupport_w1 sd sg sr := by kernel_rfl
theorem rcSupport_k1 (sd sg sr : Int) : cleanOf Tryz.prog.globals.size (rcSupport_e1 sd sg sr) = true := by kernel_rfl
theorem rcSupport_q1 (sd sg sr : Int) : rcSupport_e1 sd sg sr = evFS Tryz.prog x_rcSupport 1000 27 #[.agg #[.int .i64 sd, .int .i64 sg, .int .i64 sr]] (noTabs 4) ⟨[1, 0, 1, 0], True⟩ := by
  delta rcSupport_e1
  exact Eq.refl _
theorem rcSupport_p1 (sd sg sr : Int) (h : rcSupport_r1 sd sg sr) (w : World) : Calls Tryz.prog 27 #[.agg #[.int .i64 sd, .int .i64 sg, .int .i64 sr]] w fun en w' => en = .returned (rcSupport_w1 sd sg sr) ∧ Below w.heap.size w w' := by
  have hv := rcSupport_v1 sd sg sr
  have hc := rcSupport_k1 sd sg sr
  have he := rcSupport_q1 sd sg sr
  have ho := rcSupport_o1 sd sg sr
  generalize rcSupport_e1 sd sg sr = r at *
  exact calls_way he gfol rcSupport_X hv rfl (rcSupport_args sd sg sr) hc ho h (bl w)
def rcSupport_w2 (sd sg sr : Int) : Value := .int .i64 (Pl.cr sg (0 : Int) (1000 : Int))
def rcSupport_r2 (sd sg sr : Int) : Prop := ((((((((((True ∧ (True)) ∧ (True)) ∧ (True)) ∧ ((true = true))) ∧ (((0 : Int) = (0 : Int)))) ∧ (rcSupport_c0 sd sg sr = false)) ∧ ((true = true))) ∧ (((1 : Int) = (1 : Int)))) ∧ (rcSupport_c1 sd sg sr = true)) ∧ (((1 : Int) = (1 : Int))))
theorem rcSupport_o2 (sd sg sr : Int) : obOf (rcSupport_e2 sd sg sr) = rcSupport_r2 sd sg sr := by kernel_rfl
theorem rcSupport_v2 (sd sg sr : Int) : resOf (rcSupport_e2 sd sg sr) = rcSupport_w2 sd sg sr := by kernel_rfl
theorem rcSupport_k2 (sd sg sr : Int) : cleanOf Tryz.prog.globals.size (rcSupport_e2 sd sg sr) = true := by kernel_rfl
theorem rcSupport_q2 (sd sg sr : Int) : rcSupport_e2 sd sg sr = evFS Tryz.prog x_rcSupport 1000 27 #[.agg #[.int .i64 sd, .int .i64 sg, .int .i64 sr]] (noTabs 4) ⟨[1, 0, 0, 1, 1, 1, 1], True⟩ := by
  delta rcSupport_e2
  exact Eq.refl _
theorem rcSupport_p2 (sd sg sr : Int) (h : rcSupport_r2 sd sg sr) (w : World) : Calls Tryz.prog 27 #[.agg #[.int .i64 sd, .int .i64 sg, .int .i64 sr]] w fun en w' => en = .returned (rcSupport_w2 sd sg sr) ∧ Below w.heap.size w w' := by
  have hv := rcSupport_v2 sd sg sr
  have hc := rcSupport_k2 sd sg sr
  have he := rcSupport_q2 sd sg sr
  have ho := rcSupport_o2 sd sg sr
  generalize rcSupport_e2 sd sg sr = r at *
  exact calls_way he gfol rcSupport_X hv rfl (rcSupport_args sd sg sr) hc ho h (bl w)
def rcSupport_w3 (sd sg sr : Int) : Value := .int .i64 (Pl.cr sr (0 : Int) (1000 : Int))
def rcSupport_r3 (sd sg sr : Int) : Prop := (((((((((((((True ∧ (True)) ∧ (True)) ∧ (True)) ∧ ((true = true))) ∧ (((0 : Int) = (0 : Int)))) ∧ (rcSupport_c0 sd sg sr = false)) ∧ ((true = true))) ∧ (((1 : Int) = (1 : Int)))) ∧ (rcSupport_c1 sd sg sr = false)) ∧ ((true = true))) ∧ (((2 : Int) = (2 : Int)))) ∧ (rcSupport_c2 sd sg sr = true)) ∧ (((2 : Int) = (2 : Int))))
theorem rcSupport_o3 (sd sg sr : Int) : obOf (rcSupport_e3 sd sg sr) = rcSupport_r3 sd sg sr := by kernel_rfl
theorem rcSupport_v3 (sd sg sr : Int) : resOf (rcSupport_e3 sd sg sr) = rcSupport_w3 sd sg sr := by kernel_rfl
theorem rcSupport_k3 (sd sg sr : Int) : cleanOf Tryz.prog.globals.size (rcSupport_e3 sd sg sr) = true := by kernel_rfl
theorem rcSupport_q3 (sd sg sr : Int) : rcSupport_e3 sd sg sr = evFS Tryz.prog x_rcSupport 1000 27 #[.agg #[.int .i64 sd, .int .i64 sg, .int .i64 sr]] (noTabs 4) ⟨[1, 0, 0, 1, 1, 0, 1, 2, 1, 2], True⟩ := by
  delta rcSupport_e3
  exact Eq.refl _
theorem rcSupport_p3 (sd sg sr : Int) (h : rcSupport_r3 sd sg sr) (w : World) : Calls Tryz.prog 27 #[.agg #[.int .i64 sd, .int .i64 sg, .int .i64 sr]] w fun en w' => en = .returned (rcSupport_w3 sd sg sr) ∧ Below w.heap.size w w' := by
  have hv := rcSupport_v3 sd sg sr
  have hc := rcSupport_k3 sd sg sr
  have he := rcSupport_q3 sd sg sr
  have ho := rcSupport_o3 sd sg sr
  generalize rcSupport_e3 sd sg sr = r at *
  exact calls_way he gfol rcSupport_X hv rfl (rcSupport_args sd sg sr) hc ho h (bl w)
theorem rcSupport_any (sd sg sr : Int) (hpre : True) (w : World) : Calls Tryz.prog 27 #[.agg #[.int .i64 sd, .int .i64 sg, .int .i64 sr]] w fun en w' => en = .returned (rcSupport_val sd sg sr) ∧ Below w.heap.size w w' := by
  rcases Bool.eq_false_or_eq_true (rcSupport_c0 sd sg sr) with h0 | h0
  ·
    unfold rcSupport_c0 at h0
    have hp := rcSupport_p1 sd sg sr ⟨⟨⟨⟨⟨⟨⟨trivial, rcSupport_g0⟩, rcSupport_g0⟩, rcSupport_g0⟩, rcSupport_g1⟩, rcSupport_g2⟩, h0⟩, rcSupport_g2⟩ w
    have hv : rcSupport_w1 sd sg sr = (rcSupport_val sd sg sr) := by
      clear hp
      unfold rcSupport_w1 rcSupport_val
      first | rfl | ((try simp only [bne_iff_ne, ne_eq, decide_eq_true_eq, decide_eq_false_iff_not, Bool.not_eq_true', Bool.not_eq_false', beq_iff_eq, beq_eq_false_iff_ne, bne_eq_false_iff_eq, Bool.and_eq_true, Bool.not_eq_true, Bool.not_eq_false, Pl.cr, th3, th2, spE, devE] at *); grind)
    exact hv ▸ hp
  ·
    unfold rcSupport_c0 at h0
    rcases Bool.eq_false_or_eq_true (rcSupport_c1 sd sg sr) with h1 | h1
    ·
      unfold rcSupport_c1 at h1
      have hp := rcSupport_p2 sd sg sr ⟨⟨⟨⟨⟨⟨⟨⟨⟨⟨trivial, rcSupport_g0⟩, rcSupport_g0⟩, rcSupport_g0⟩, rcSupport_g1⟩, rcSupport_g2⟩, h0⟩, rcSupport_g1⟩, rcSupport_g4⟩, h1⟩, rcSupport_g4⟩ w
      have hv : rcSupport_w2 sd sg sr = (rcSupport_val sd sg sr) := by
        clear hp
        unfold rcSupport_w2 rcSupport_val
        first | rfl | ((try simp only [bne_iff_ne, ne_eq, decide_eq_true_eq, decide_eq_false_iff_not, Bool.not_eq_true', Bool.not_eq_false', beq_iff_eq, beq_eq_false_iff_ne, bne_eq_false_iff_eq, Bool.and_eq_true, Bool.not_eq_true, Bool.not_eq_false, Pl.cr, th3, th2, spE, devE] at *); grind)
      exact hv ▸ hp
    ·
      unfold rcSupport_c1 at h1
      rcases Bool.eq_false_or_eq_true (rcSupport_c2 sd sg sr) with h2 | h2
      ·
        unfold rcSupport_c2 at h2
        have hp := rcSupport_p3 sd sg sr ⟨⟨⟨⟨⟨⟨⟨⟨⟨⟨⟨⟨⟨trivial, rcSupport_g0⟩, rcSupport_g0⟩, rcSupport_g0⟩, rcSupport_g1⟩, rcSupport_g2⟩, h0⟩, rcSupport_g1⟩, rcSupport_g4⟩, h1⟩, rcSupport_g1⟩, rcSupport_g6⟩, h2⟩, rcSupport_g6⟩ w
        have hv : rcSupport_w3 sd sg sr = (rcSupport_val sd sg sr) := by
          clear hp
          unfold rcSupport_w3 rcSupport_val
          first | rfl | ((try simp only [bne_iff_ne, ne_eq, decide_eq_true_eq, decide_eq_false_iff_not, Bool.not_eq_true', Bool.not_eq_false', beq_iff_eq, beq_eq_false_iff_ne, bne_eq_false_iff_eq, Bool.and_eq_true, Bool.not_eq_true, Bool.not_eq_false, Pl.cr, th3, th2, spE, devE] at *); grind)
        exact hv ▸ hp
      ·
        unfold rcSupport_c2 at h2
        have hp := rcSupport_p0 sd sg sr ⟨⟨⟨⟨⟨⟨⟨⟨⟨⟨⟨⟨⟨trivial, rcSupport_g0⟩, rcSupport_g0⟩, rcSupport_g0⟩, rcSupport_g1⟩, rcSupport_g2⟩, h0⟩, rcSupport_g1⟩, rcSupport_g4⟩, h1⟩, rcSupport_g1⟩, rcSupport_g6⟩, h2⟩, rcSupport_g8⟩ w
        have hv : rcSupport_w0 sd sg sr = (rcSupport_val sd sg sr) := by
          clear hp
          unfold rcSupport_w0 rcSupport_val
          first | rfl | ((try simp only [bne_iff_ne, ne_eq, decide_eq_true_eq, decide_eq_false_iff_not, Bool.not_eq_true', Bool.not_eq_false', beq_iff_eq, beq_eq_false_iff_ne, bne_eq_false_iff_eq, Bool.and_eq_true, Bool.not_eq_true, Bool.not_eq_false, Pl.cr, th3, th2, spE, devE] at *); grind)
        exact hv ▸ hp
theorem k_rcSupport : ConOk Tryz.prog c_rcSupport := fun ns hl => by
  have hl0 : ns.length = 3 := hl
  clear hl
  obtain ⟨sd, ns0, rfl, hl1⟩ := len_cons hl0
  obtain ⟨sg, ns1, rfl, hl2⟩ := len_cons hl1
  obtain ⟨sr, ns2, rfl, hl3⟩ := len_cons hl2
  obtain rfl := len_nil hl3
  exact ⟨rfl, fun h w => rcSupport_any sd sg sr h w⟩
end Go.Proofs.YthhgmnocigekaaaGreatDoor
end
section
set_option linter.all false
set_option maxRecDepth 1000000
open Go.RowKit
namespace Go.Proofs.YthhgmnocigekaaaGreatDoor
open Mini
noncomputable def rcdX : Code := loopOf Tryz.prog 24
noncomputable def rcdK : CallS := kAll [c_rrange, c_rcSupport]
def rcdA (sd sg sr : Int) (n c i : Nat) (r : Int) : MA := MA.ofL 30 [.chan none, .slice (some ⟨4, 0, none⟩) n c, .chan none, .chan none, .int .i64 r, .chan none, .int .i64 ((i : Nat) : Int), .chan none, .chan none, .chan none, .chan none, .chan none, .chan none, .chan none, .chan none, .chan none, .chan none, .chan none, .chan none, .chan none, .chan none, .chan none, .chan none, .chan none, .chan none, .chan none, .chan none, .chan none, .chan none, .chan none] []
def rcdArgs (sd sg sr : Int) (n c : Nat) : Array Value := #[.agg #[.int .i64 sd, .int .i64 sg, .int .i64 sr], .slice (some ⟨4, 0, none⟩) n c]
noncomputable def rcdR (sd sg sr : Int) (n c : Nat) (g : Nat → Nat → Int) (e : TypeId) (opn : Bool) (sz : Nat) (ro : Bool) (i : Nat) : Option OutCS := evCRS Tryz.prog rcdK 1000 none false rcdX (rcdA sd sg sr n c i 0) (wS 4 [rowI 1 n g e opn sz ro, .cells [.int .i64 sd, .int .i64 sg, .int .i64 sr] 46 false 0 false]) ⟨[1, .row i 0, .row i 0, 0, .azz (.int .i64 ((i + 1 : Nat) : Int))], True⟩
noncomputable def rcdB (sd sg sr : Int) (n c : Nat) (g : Nat → Nat → Int) (e : TypeId) (opn : Bool) (sz : Nat) (ro : Bool) (i : Nat) : Option OutCS := evCRS Tryz.prog rcdK 1000 none false rcdX (rcdA sd sg sr n c i 0) (wS 4 [rowI 1 n g e opn sz ro, .cells [.int .i64 sd, .int .i64 sg, .int .i64 sr] 46 false 0 false]) ⟨[1, .row i 0, .row i 0, 1], True⟩
noncomputable def rcdE (sd sg sr : Int) (n c : Nat) (g : Nat → Nat → Int) (e : TypeId) (opn : Bool) (sz : Nat) (ro : Bool) (i : Nat) : Option OutCS := evCRS Tryz.prog rcdK 1000 none false rcdX (rcdA sd sg sr n c i 0) (wS 4 [rowI 1 n g e opn sz ro, .cells [.int .i64 sd, .int .i64 sg, .int .i64 sr] 46 false 0 false]) ⟨[0], True⟩
noncomputable def rcdF_0 (sd sg sr : Int) (n c : Nat) (g : Nat → Nat → Int) (e : TypeId) (opn : Bool) (sz : Nat) (ro : Bool) : Option OutS := evFS Tryz.prog rcdK 1000 24 (rcdArgs sd sg sr n c) (wS 4 [rowI 1 n g e opn sz ro]) ⟨[1], True⟩
noncomputable def rcdF_1 (sd sg sr : Int) (n c : Nat) (g : Nat → Nat → Int) (e : TypeId) (opn : Bool) (sz : Nat) (ro : Bool) : Option OutS := evFS Tryz.prog rcdK 1000 24 (rcdArgs sd sg sr n c) (wS 4 [rowI 1 n g e opn sz ro]) ⟨[0, 1], True⟩
noncomputable def rcdF_ret (sd sg sr : Int) (n c : Nat) (g : Nat → Nat → Int) (e : TypeId) (opn : Bool) (sz : Nat) (ro : Bool) (i : Nat) (r : Int) : Option OutS := evFS Tryz.prog rcdK 1000 24 (rcdArgs sd sg sr n c) (wS 4 [rowI 1 n g e opn sz ro]) ⟨[0, 0, .lp 82 (rcdA sd sg sr n c 0 0) 4 [rowI 1 n g e opn sz ro, .cells [.int .i64 sd, .int .i64 sg, .int .i64 sr] 46 false 0 false] .ret (rcdA sd sg sr n c i r) [rowI 1 n g e opn sz ro, .cells [.int .i64 sd, .int .i64 sg, .int .i64 sr] 46 false 0 false] 16 0], True⟩
noncomputable def rcdF_end (sd sg sr : Int) (n c : Nat) (g : Nat → Nat → Int) (e : TypeId) (opn : Bool) (sz : Nat) (ro : Bool) (i : Nat) (r : Int) : Option OutS := evFS Tryz.prog rcdK 1000 24 (rcdArgs sd sg sr n c) (wS 4 [rowI 1 n g e opn sz ro]) ⟨[0, 0, .lp 82 (rcdA sd sg sr n c 0 0) 4 [rowI 1 n g e opn sz ro, .cells [.int .i64 sd, .int .i64 sg, .int .i64 sr] 46 false 0 false] (.exit 0) (rcdA sd sg sr n c i r) [rowI 1 n g e opn sz ro, .cells [.int .i64 sd, .int .i64 sg, .int .i64 sr] 46 false 0 false] 16 0], True⟩
theorem rcdK_ok : FOkS Tryz.prog rcdK := kAll_ok _ ⟨k_rrange, k_rcSupport, trivial⟩
section
variable (sd sg sr : Int) (n c : Nat) (g : Nat → Nat → Int) (e : TypeId) (opn : Bool) (sz : Nat) (ro : Bool) (i : Nat) (r : Int)
theorem rcdR_eq : seenF 4 2 82 (rcdR sd sg sr n c g e opn sz ro i) = some (.normal, rcdA sd sg sr n c (i + 1) 0, [rowI 1 n g e opn sz ro, .cells [.int .i64 sd, .int .i64 sg, .int .i64 sr] 46 false 0 false], 16, 0, ⟨[], ((((((True ∧ ((decide ((((i : Nat)) : Int) < (((n : Nat)) : Int))) = true)) ∧ (((((i : Nat)) : Int) = (Int.ofNat i)) ∧ (i < n))) ∧ (((0 + (i * 1)) = ((i * 1) + 0)) ∧ (i < n))) ∧ True) ∧ (((Pl.cr (g i 0) (- (10000 : Int)) (10000 : Int)) != (0 : Int)) = false)) ∧ (((.int .i64 (IntKind.i64.wrap ((((i : Nat)) : Int) + (1 : Int)))) : Value) = (.int .i64 ((((i + 1) : Nat)) : Int))))⟩) := by kernel_rfl
theorem rcdB_eq : seenF 4 2 82 (rcdB sd sg sr n c g e opn sz ro i) = some (.ret, rcdA sd sg sr n c i (devE (g i 0)), [rowI 1 n g e opn sz ro, .cells [.int .i64 sd, .int .i64 sg, .int .i64 sr] 46 false 0 false], 16, 0, ⟨[], (((((True ∧ ((decide ((((i : Nat)) : Int) < (((n : Nat)) : Int))) = true)) ∧ (((((i : Nat)) : Int) = (Int.ofNat i)) ∧ (i < n))) ∧ (((0 + (i * 1)) = ((i * 1) + 0)) ∧ (i < n))) ∧ True) ∧ (((Pl.cr (g i 0) (- (10000 : Int)) (10000 : Int)) != (0 : Int)) = true))⟩) := by kernel_rfl
theorem rcdE_eq : seenF 4 2 82 (rcdE sd sg sr n c g e opn sz ro i) = some ((.exit (0 : Nat)), rcdA sd sg sr n c i 0, [rowI 1 n g e opn sz ro, .cells [.int .i64 sd, .int .i64 sg, .int .i64 sr] 46 false 0 false], 0, 0, ⟨[], (True ∧ ((decide ((((i : Nat)) : Int) < (((n : Nat)) : Int))) = false))⟩) := by kernel_rfl
theorem rcdA_keep : allKeep (4 + 2) (rcdA sd sg sr n c i r) 30 = true := by kernel_rfl
theorem rcdB_keep : ∀ o, o ∈ [rowI 1 n g e opn sz ro, .cells [.int .i64 sd, .int .i64 sg, .int .i64 sr] 46 false 0 false] → keepO (below (4 + 2)) o := fun o ho => by
  simp only [List.mem_cons, List.not_mem_nil, or_false] at ho
  rcases ho with rfl | rfl
  · exact rowI_keep _ _ _ _ _ _ _
  · rfl
theorem rcdF_0eq : rcdF_0 sd sg sr n c g e opn sz ro = some ((.int .i64 (spE sd sg sr)), wldOf (rcdF_0 sd sg sr n c g e opn sz ro), 0, 0, ⟨[], ((True ∧ True) ∧ (((spE sd sg sr) != (0 : Int)) = true))⟩) := by kernel_rfl
theorem rcdF_1eq : rcdF_1 sd sg sr n c g e opn sz ro = some ((.int .i64 (5 : Int)), wldOf (rcdF_1 sd sg sr n c g e opn sz ro), 0, 0, ⟨[], (((True ∧ True) ∧ (((spE sd sg sr) != (0 : Int)) = false)) ∧ ((decide ((((n : Nat)) : Int) > (256 : Int))) = true))⟩) := by kernel_rfl
theorem rcdF_reteq : rcdF_ret sd sg sr n c g e opn sz ro i r = some ((.int .i64 r), wldOf (rcdF_ret sd sg sr n c g e opn sz ro i r), 16, 0, ⟨[], ((((True ∧ True) ∧ (((spE sd sg sr) != (0 : Int)) = false)) ∧ ((decide ((((n : Nat)) : Int) > (256 : Int))) = false)) ∧ ((((rcdA sd sg sr n c (0 : Nat) (0 : Int)) = (rcdA sd sg sr n c (0 : Nat) (0 : Int))) ∧ ((6 = (4 + 2)) ∧ ((HAppend.hAppend (List.replicate (4 : Nat) MObj.hole) ((rowI (1 : Nat) n g e opn sz ro) :: ((MObj.cells ((Value.int .i64 sd) :: ((Value.int .i64 sg) :: ((Value.int .i64 sr) :: []))) (46 : Nat) false (0 : Nat) false) :: []))) = (HAppend.hAppend (List.replicate (4 : Nat) MObj.hole) ((rowI (1 : Nat) n g e opn sz ro) :: ((MObj.cells ((Value.int .i64 sd) :: ((Value.int .i64 sg) :: ((Value.int .i64 sr) :: []))) (46 : Nat) false (0 : Nat) false) :: [])))))) ∧ SndC Tryz.prog none (.loop rcdX) (rcdA sd sg sr n c 0 0).act (wS 4 [rowI 1 n g e opn sz ro, .cells [.int .i64 sd, .int .i64 sg, .int .i64 sr] 46 false 0 false]) .ret (rcdA sd sg sr n c i r).act (wS 4 [rowI 1 n g e opn sz ro, .cells [.int .i64 sd, .int .i64 sg, .int .i64 sr] 46 false 0 false]) 16 0))⟩) := by kernel_rfl
theorem rcdF_endeq : rcdF_end sd sg sr n c g e opn sz ro i r = some ((.int .i64 (0 : Int)), wldOf (rcdF_end sd sg sr n c g e opn sz ro i r), 16, 0, ⟨[], ((((True ∧ True) ∧ (((spE sd sg sr) != (0 : Int)) = false)) ∧ ((decide ((((n : Nat)) : Int) > (256 : Int))) = false)) ∧ ((((rcdA sd sg sr n c (0 : Nat) (0 : Int)) = (rcdA sd sg sr n c (0 : Nat) (0 : Int))) ∧ ((6 = (4 + 2)) ∧ ((HAppend.hAppend (List.replicate (4 : Nat) MObj.hole) ((rowI (1 : Nat) n g e opn sz ro) :: ((MObj.cells ((Value.int .i64 sd) :: ((Value.int .i64 sg) :: ((Value.int .i64 sr) :: []))) (46 : Nat) false (0 : Nat) false) :: []))) = (HAppend.hAppend (List.replicate (4 : Nat) MObj.hole) ((rowI (1 : Nat) n g e opn sz ro) :: ((MObj.cells ((Value.int .i64 sd) :: ((Value.int .i64 sg) :: ((Value.int .i64 sr) :: []))) (46 : Nat) false (0 : Nat) false) :: [])))))) ∧ SndC Tryz.prog none (.loop rcdX) (rcdA sd sg sr n c 0 0).act (wS 4 [rowI 1 n g e opn sz ro, .cells [.int .i64 sd, .int .i64 sg, .int .i64 sr] 46 false 0 false]) (.exit 0) (rcdA sd sg sr n c i r).act (wS 4 [rowI 1 n g e opn sz ro, .cells [.int .i64 sd, .int .i64 sg, .int .i64 sr] 46 false 0 false]) 16 0))⟩) := by kernel_rfl
variable {n i}
theorem rcd_go (hn : (n : Int) ≤ 9223372036854775807) (hi : i < n) (h0 : devE (g i 0) = 0) : SndC Tryz.prog none rcdX (rcdA sd sg sr n c i 0).act (wS 4 [rowI 1 n g e opn sz ro, .cells [.int .i64 sd, .int .i64 sg, .int .i64 sr] 46 false 0 false]) .normal (rcdA sd sg sr n c (i + 1) 0).act (wS 4 [rowI 1 n g e opn sz ro, .cells [.int .i64 sd, .int .i64 sg, .int .i64 sr] 46 false 0 false]) 16 0 :=
  wayF_ok0 smx rcdK_ok sng (rcdR_eq sd sg sr n c g e opn sz ro i) (by
    repeat' (first | (with_reducible assumption) | apply And.intro)
    all_goals first | trivial | rfl | assumption | exact decide_eq_true (by omega) | exact decide_eq_false (by omega) | exact bne_iff_ne.2 (by assumption) | exact bne_eq_false_iff_eq.2 (by assumption) | exact beq_iff_eq.2 (by assumption) | exact beq_eq_false_iff_ne.2 (by assumption) | exact wnextV (by assumption) (by omega) | omega) rfl (rcdA_keep sd sg sr n c i 0) (rcdB_keep sd sg sr n g e opn sz ro) (rcdB_keep sd sg sr n g e opn sz ro) (by exact (by decide : ∀ b, b < 6 → Nat.testBit 0 b = false)) (by exact (by decide : ∀ b, b < 6 → Nat.testBit 16 b = true → Nat.testBit 16 b = true))
theorem rcd_bad (hn : (n : Int) ≤ 9223372036854775807) (hi : i < n) (h0 : ¬ (devE (g i 0) = 0)) : SndC Tryz.prog none rcdX (rcdA sd sg sr n c i 0).act (wS 4 [rowI 1 n g e opn sz ro, .cells [.int .i64 sd, .int .i64 sg, .int .i64 sr] 46 false 0 false]) .ret (rcdA sd sg sr n c i (devE (g i 0))).act (wS 4 [rowI 1 n g e opn sz ro, .cells [.int .i64 sd, .int .i64 sg, .int .i64 sr] 46 false 0 false]) 16 0 :=
  wayF_ok0 smx rcdK_ok sng (rcdB_eq sd sg sr n c g e opn sz ro i) (by
    repeat' (first | (with_reducible assumption) | apply And.intro)
    all_goals first | trivial | rfl | assumption | exact decide_eq_true (by omega) | exact decide_eq_false (by omega) | exact bne_iff_ne.2 (by assumption) | exact bne_eq_false_iff_eq.2 (by assumption) | exact beq_iff_eq.2 (by assumption) | exact beq_eq_false_iff_ne.2 (by assumption) | exact wnextV (by assumption) (by omega) | omega) rfl (rcdA_keep sd sg sr n c i 0) (rcdB_keep sd sg sr n g e opn sz ro) (rcdB_keep sd sg sr n g e opn sz ro) (by exact (by decide : ∀ b, b < 6 → Nat.testBit 0 b = false)) (by exact (by decide : ∀ b, b < 6 → Nat.testBit 16 b = true → Nat.testBit 16 b = true))
theorem rcd_end (hn : (n : Int) ≤ 9223372036854775807) (hi : ¬ i < n) : SndC Tryz.prog none rcdX (rcdA sd sg sr n c i 0).act (wS 4 [rowI 1 n g e opn sz ro, .cells [.int .i64 sd, .int .i64 sg, .int .i64 sr] 46 false 0 false]) (.exit 0) (rcdA sd sg sr n c i 0).act (wS 4 [rowI 1 n g e opn sz ro, .cells [.int .i64 sd, .int .i64 sg, .int .i64 sr] 46 false 0 false]) 16 0 :=
  wayF_ok0 smx rcdK_ok sng (rcdE_eq sd sg sr n c g e opn sz ro i) (by
    repeat' (first | (with_reducible assumption) | apply And.intro)
    all_goals first | trivial | rfl | assumption | exact decide_eq_true (by omega) | exact decide_eq_false (by omega) | exact bne_iff_ne.2 (by assumption) | exact bne_eq_false_iff_eq.2 (by assumption) | exact beq_iff_eq.2 (by assumption) | exact beq_eq_false_iff_ne.2 (by assumption) | exact wnextV (by assumption) (by omega) | omega) rfl (rcdA_keep sd sg sr n c i 0) (rcdB_keep sd sg sr n g e opn sz ro) (rcdB_keep sd sg sr n g e opn sz ro) (by exact (by decide : ∀ b, b < 6 → Nat.testBit 0 b = false)) (by exact (by decide : ∀ b, b < 6 → Nat.testBit 0 b = true → Nat.testBit 16 b = true))
end
def rcdVal (sd sg sr : Int) (n : Nat) (g : Nat → Nat → Int) : Int := (if spE sd sg sr ≠ 0 then spE sd sg sr else (if 256 < n then 5 else feN (fun i => devE (g i 0)) n 0))
theorem rcd_sndF (sd sg sr : Int) (n c : Nat) (g : Nat → Nat → Int) (e : TypeId) (opn : Bool) (sz : Nat) (ro : Bool) (hn : (n : Int) ≤ 9223372036854775807) : SndF Tryz.prog 24 (rcdArgs sd sg sr n c) (wS 4 [rowI 1 n g e opn sz ro]) (.int .i64 (rcdVal sd sg sr n g)) (wS 4 [rowI 1 n g e opn sz ro]) 16 0 := by
  unfold rcdVal
  by_cases hc0 : spE sd sg sr ≠ 0
  · rw [if_pos hc0]
    exact (SndF.tidy0 (l := [rowI 1 n g e opn sz ro]) ((evFS_ok smx rcdK_ok 1000 _ _ _ _ _ _ _ _ _ (show evFS _ _ _ _ _ _ _ = _ from rcdF_0eq sd sg sr n c g e opn sz ro)).2 (by
      repeat' (first | (with_reducible assumption) | apply And.intro)
      all_goals first | trivial | rfl | assumption | exact decide_eq_true (by omega) | exact decide_eq_false (by omega) | exact bne_iff_ne.2 (by assumption) | exact bne_eq_false_iff_eq.2 (by assumption) | exact beq_iff_eq.2 (by assumption) | exact beq_eq_false_iff_ne.2 (by assumption) | exact wnextV (by assumption) (by omega) | omega)) sng rowI_keep1 (by exact (by decide : ∀ b, b < 5 → Nat.testBit 0 b = false)) (by kernel_rfl) rfl).mask (by exact (by decide : ∀ b, b < 5 → Nat.testBit 0 b = true → Nat.testBit 16 b = true)) (fun b _ => rfl)
  rw [if_neg hc0]
  try simp only [ne_eq, Decidable.not_not] at hc0
  by_cases hc1 : 256 < n
  · rw [if_pos hc1]
    exact (SndF.tidy0 (l := [rowI 1 n g e opn sz ro]) ((evFS_ok smx rcdK_ok 1000 _ _ _ _ _ _ _ _ _ (show evFS _ _ _ _ _ _ _ = _ from rcdF_1eq sd sg sr n c g e opn sz ro)).2 (by
      repeat' (first | (with_reducible assumption) | apply And.intro)
      all_goals first | trivial | rfl | assumption | exact decide_eq_true (by omega) | exact decide_eq_false (by omega) | exact bne_iff_ne.2 (by assumption) | exact bne_eq_false_iff_eq.2 (by assumption) | exact beq_iff_eq.2 (by assumption) | exact beq_eq_false_iff_ne.2 (by assumption) | exact wnextV (by assumption) (by omega) | omega)) sng rowI_keep1 (by exact (by decide : ∀ b, b < 5 → Nat.testBit 0 b = false)) (by kernel_rfl) rfl).mask (by exact (by decide : ∀ b, b < 5 → Nat.testBit 0 b = true → Nat.testBit 16 b = true)) (fun b _ => rfl)
  rw [if_neg hc1]
  try simp only [ne_eq, Decidable.not_not] at hc1
  rcases loop_split (A := fun i => (rcdA sd sg sr n c i 0).act) (S := fun _ => (wS 4 [rowI 1 n g e opn sz ro, .cells [.int .i64 sd, .int .i64 sg, .int .i64 sr] 46 false 0 false])) (A1 := fun i => (rcdA sd sg sr n c i (devE (g i 0))).act) (S1 := fun _ => (wS 4 [rowI 1 n g e opn sz ro, .cells [.int .i64 sd, .int .i64 sg, .int .i64 sr] 46 false 0 false])) (good := fun i => devE (g i 0) = 0) (fun i => Decidable.em _) n
    (fun i hi h0 => rcd_go sd sg sr c g e opn sz ro hn hi h0) (fun i hi h0 => rcd_bad sd sg sr c g e opn sz ro hn hi h0) (rcd_end sd sg sr c g e opn sz ro hn (Nat.lt_irrefl n)) (by simp) (by simp) with ⟨h1, h2⟩ | ⟨j, hj, h1, h3, h2⟩
  · rw [feN_all fun k _ hk => h1 k (by omega)]
    exact (SndF.tidy0 (l := [rowI 1 n g e opn sz ro]) ((evFS_ok smx rcdK_ok 1000 _ _ _ _ _ _ _ _ _ (show evFS _ _ _ _ _ _ _ = _ from rcdF_endeq sd sg sr n c g e opn sz ro n 0)).2 (by
      repeat' (first | (with_reducible assumption) | apply And.intro)
      all_goals first | trivial | rfl | assumption | exact decide_eq_true (by omega) | exact decide_eq_false (by omega) | exact bne_iff_ne.2 (by assumption) | exact bne_eq_false_iff_eq.2 (by assumption) | exact beq_iff_eq.2 (by assumption) | exact beq_eq_false_iff_ne.2 (by assumption) | exact wnextV (by assumption) (by omega) | omega)) sng rowI_keep1 (by exact (by decide : ∀ b, b < 5 → Nat.testBit 0 b = false)) (by kernel_rfl) rfl).mask (by exact (by decide : ∀ b, b < 5 → Nat.testBit 16 b = true → Nat.testBit 16 b = true)) (fun b _ => rfl)
  · rw [feN_first (Nat.zero_le j) (by omega) (fun k _ hk => h1 k hk) h3]
    exact (SndF.tidy0 (l := [rowI 1 n g e opn sz ro]) ((evFS_ok smx rcdK_ok 1000 _ _ _ _ _ _ _ _ _ (show evFS _ _ _ _ _ _ _ = _ from rcdF_reteq sd sg sr n c g e opn sz ro j ((fun i => devE (g i 0)) j))).2 (by
      repeat' (first | (with_reducible assumption) | apply And.intro)
      all_goals first | trivial | rfl | assumption | exact decide_eq_true (by omega) | exact decide_eq_false (by omega) | exact bne_iff_ne.2 (by assumption) | exact bne_eq_false_iff_eq.2 (by assumption) | exact beq_iff_eq.2 (by assumption) | exact beq_eq_false_iff_ne.2 (by assumption) | exact wnextV (by assumption) (by omega) | omega)) sng rowI_keep1 (by exact (by decide : ∀ b, b < 5 → Nat.testBit 0 b = false)) (by kernel_rfl) rfl).mask (by exact (by decide : ∀ b, b < 5 → Nat.testBit 16 b = true → Nat.testBit 16 b = true)) (fun b _ => rfl)
def kRcd : CallS := fun f xs s q => match decide (f = 24) with
  | true => match xs.toList with
    | [.agg ⟨[.int .i64 sd, .int .i64 sg, .int .i64 sr]⟩, .slice (some ⟨b, 0, none⟩) n c] => match Nat.ble 4 b, rowK 1 .i64 s b n with
      | true, some (g, _, _, _, _, p) => some (.int .i64 (rcdVal sd sg sr n g), s, 2 ^ b, 0, ⟨q.rest, q.ob ∧ (p ∧ ((n : Int) ≤ 9223372036854775807))⟩)
      | _, _ => none
    | _ => none
  | false => none
theorem kRcd_ok : FOkS Tryz.prog kRcd := fun f xs s q u s1 R W q1 he => by
  unfold kRcd at he
  split at he
  · rename_i hf
    have hf := of_decide_eq_true hf
    subst hf
    split at he
    · rename_i sd sg sr b n c hx0
      split at he
      · rename_i g e opn sz ro p hb hr
        have hb := Nat.le_of_ble_eq_true hb
        have hxs : xs = #[.agg #[.int .i64 sd, .int .i64 sg, .int .i64 sr], .slice (some ⟨b, 0, none⟩) n c] := by apply Array.ext'; exact hx0
        subst hxs
        cases he
        refine ⟨fun hq => hq.1, fun hq => ?_⟩
        obtain ⟨hp, hn⟩ := hq.2
        obtain ⟨l1, w1⟩ := rowK_wo hr hp
        exact SndF.row (N := 4) sng (rcd_sndF sd sg sr n c g e opn sz ro hn) rfl hb l1 w1 (fun f _ hf => wvs_two (ground_wv (n := 8) rfl) (slice_wv hf))
      · cases he
    · cases he
  · cases he
end Go.Proofs.YthhgmnocigekaaaGreatDoor
end
section
set_option linter.all false
set_option maxRecDepth 1000000
set_option maxHeartbeats 2000000
open Go.RowKit
namespace Go.Proofs.YthhgmnocigekaaaGreatDoor
open Mini

def added_val (sd sg sr x : Int) : Value := .int .i64 (sp sd sg sr x)
theorem added_X : FOkS Tryz.prog x_added := noXS_ok
theorem added_args (sd sg sr x : Int) : (#[.agg #[.int .i64 sd, .int .i64 sg, .int .i64 sr], .int .i64 x] : Array Value).toList.all (ground 8) = true := by kernel_rfl
theorem added_g0 : (false = false) := by first | rfl | trivial | decide | omega
def added_c0 (sd sg sr x : Int) : Bool := (decide (x > (0 : Int)))
def added_w0 (sd sg sr x : Int) : Value := .int .i64 (if (sr < (IntKind.i64.wrap (Int.tdiv (IntKind.i64.wrap (sg * (if ((0 : Int) > (IntKind.i64.wrap ((if ((IntKind.i64.wrap ((0 : Int) - x)) > x) then (IntKind.i64.wrap ((0 : Int) - x)) else x) - sd))) then (0 : Int) else (IntKind.i64.wrap ((if ((IntKind.i64.wrap ((0 : Int) - x)) > x) then (IntKind.i64.wrap ((0 : Int) - x)) else x) - sd))))) (1024 : Int)))) then sr else (IntKind.i64.wrap (Int.tdiv (IntKind.i64.wrap (sg * (if ((0 : Int) > (IntKind.i64.wrap ((if ((IntKind.i64.wrap ((0 : Int) - x)) > x) then (IntKind.i64.wrap ((0 : Int) - x)) else x) - sd))) then (0 : Int) else (IntKind.i64.wrap ((if ((IntKind.i64.wrap ((0 : Int) - x)) > x) then (IntKind.i64.wrap ((0 : Int) - x)) else x) - sd))))) (1024 : Int))))
def added_r0 (sd sg sr x : Int) : Prop := ((True ∧ ((false = false))) ∧ (added_c0 sd sg sr x = false))
theorem added_o0 (sd sg sr x : Int) : obOf (added_e0 sd sg sr x) = added_r0 sd sg sr x := by kernel_rfl
theorem added_v0 (sd sg sr x : Int) : resOf (added_e0 sd sg sr x) = added_w0 sd sg sr x := by kernel_rfl
theorem added_k0 (sd sg sr x : Int) : cleanOf Tryz.prog.globals.size (added_e0 sd sg sr x) = true := by kernel_rfl
theorem added_q0 (sd sg sr x : Int) : added_e0 sd sg sr x = evFS Tryz.prog x_added 1000 67 #[.agg #[.int .i64 sd, .int .i64 sg, .int .i64 sr], .int .i64 x] (noTabs 4) ⟨[0], True⟩ := by
  delta added_e0
  exact Eq.refl _
theorem added_p0 (sd sg sr x : Int) (h : added_r0 sd sg sr x) (w : World) : Calls Tryz.prog 67 #[.agg #[.int .i64 sd, .int .i64 sg, .int .i64 sr], .int .i64 x] w fun en w' => en = .returned (added_w0 sd sg sr x) ∧ Below w.heap.size w w' := by
  have hv := added_v0 sd sg sr x
  have hc := added_k0 sd sg sr x
  have he := added_q0 sd sg sr x
  have ho := added_o0 sd sg sr x
  generalize added_e0 sd sg sr x = r at *
  exact calls_way he gfol added_X hv rfl (added_args sd sg sr x) hc ho h (bl w)
def added_w1 (sd sg sr x : Int) : Value := .int .i64 (IntKind.i64.wrap ((0 : Int) - (if (sr < (IntKind.i64.wrap (Int.tdiv (IntKind.i64.wrap (sg * (if ((0 : Int) > (IntKind.i64.wrap ((if ((IntKind.i64.wrap ((0 : Int) - x)) > x) then (IntKind.i64.wrap ((0 : Int) - x)) else x) - sd))) then (0 : Int) else (IntKind.i64.wrap ((if ((IntKind.i64.wrap ((0 : Int) - x)) > x) then (IntKind.i64.wrap ((0 : Int) - x)) else x) - sd))))) (1024 : Int)))) then sr else (IntKind.i64.wrap (Int.tdiv (IntKind.i64.wrap (sg * (if ((0 : Int) > (IntKind.i64.wrap ((if ((IntKind.i64.wrap ((0 : Int) - x)) > x) then (IntKind.i64.wrap ((0 : Int) - x)) else x) - sd))) then (0 : Int) else (IntKind.i64.wrap ((if ((IntKind.i64.wrap ((0 : Int) - x)) > x) then (IntKind.i64.wrap ((0 : Int) - x)) else x) - sd))))) (1024 : Int))))))
def added_r1 (sd sg sr x : Int) : Prop := ((True ∧ ((false = false))) ∧ (added_c0 sd sg sr x = true))
theorem added_o1 (sd sg sr x : Int) : obOf (added_e1 sd sg sr x) = added_r1 sd sg sr x := by kernel_rfl
theorem added_v1 (sd sg sr x : Int) : resOf (added_e1 sd sg sr x) = added_w1 sd sg sr x := by kernel_rfl
theorem added_k1 (sd sg sr x : Int) : cleanOf Tryz.prog.globals.size (added_e1 sd sg sr x) = true := by kernel_rfl
theorem added_q1 (sd sg sr x : Int) : added_e1 sd sg sr x = evFS Tryz.prog x_added 1000 67 #[.agg #[.int .i64 sd, .int .i64 sg, .int .i64 sr], .int .i64 x] (noTabs 4) ⟨[1], True⟩ := by
  delta added_e1
  exact Eq.refl _
theorem added_p1 (sd sg sr x : Int) (h : added_r1 sd sg sr x) (w : World) : Calls Tryz.prog 67 #[.agg #[.int .i64 sd, .int .i64 sg, .int .i64 sr], .int .i64 x] w fun en w' => en = .returned (added_w1 sd sg sr x) ∧ Below w.heap.size w w' := by
  have hv := added_v1 sd sg sr x
  have hc := added_k1 sd sg sr x
  have he := added_q1 sd sg sr x
  have ho := added_o1 sd sg sr x
  generalize added_e1 sd sg sr x = r at *
  exact calls_way he gfol added_X hv rfl (added_args sd sg sr x) hc ho h (bl w)
theorem added_any (sd sg sr x : Int) (hpre : spIn sd sg sr ∧ devIn x) (w : World) : Calls Tryz.prog 67 #[.agg #[.int .i64 sd, .int .i64 sg, .int .i64 sr], .int .i64 x] w fun en w' => en = .returned (added_val sd sg sr x) ∧ Below w.heap.size w w' := by
  rcases Bool.eq_false_or_eq_true (added_c0 sd sg sr x) with h0 | h0
  ·
    unfold added_c0 at h0
    have hp := added_p1 sd sg sr x ⟨⟨trivial, added_g0⟩, h0⟩ w
    have hv : added_w1 sd sg sr x = (added_val sd sg sr x) := by
      clear hp
      unfold added_w1 added_val
      have hb := spB_in hpre.1 hpre.2
      have hg := gb_in hpre.1 hpre.2
      have hn := neg_abs hpre.2
      unfold spIn devIn at hpre
      simp only [hn, decide_eq_true_eq, decide_eq_false_iff_not, gt_iff_lt] at *
      have hw : IntKind.i64.wrap ((x.natAbs : Int) - sd) = (x.natAbs : Int) - sd := wi _ (by omega)
      simp only [hw] at *
      by_cases hz : (x.natAbs : Int) - sd ≤ 0
      · have h0 := spB_0 hz
        (rw [sp_0 h0 hpre.1.2.2.1]) <;> first | rfl | (exfalso; omega) | (rw [show max ((x.natAbs : Int) - sd) 0 = 0 by omega]; simp; done) | (rw [show max ((x.natAbs : Int) - sd) 0 = 0 by omega]; simp; omega) | (simp only [show (if (0 : Int) > (x.natAbs : Int) - sd then (0 : Int) else (x.natAbs : Int) - sd) = 0 by omega, show (if (x.natAbs : Int) - sd < (0 : Int) then (0 : Int) else (x.natAbs : Int) - sd) = 0 by omega, Int.mul_zero]; simp [IntKind.wrap_i64]; done) | (simp only [show (if (0 : Int) > (x.natAbs : Int) - sd then (0 : Int) else (x.natAbs : Int) - sd) = 0 by omega, show (if (x.natAbs : Int) - sd < (0 : Int) then (0 : Int) else (x.natAbs : Int) - sd) = 0 by omega, Int.mul_zero]; simp [IntKind.wrap_i64]; omega)
      · have h1 := spB_p hz
        rw [h1] at hb hg
        unfold sp spM
        rw [h1]
        (try simp only [show (if (0 : Int) > (x.natAbs : Int) - sd then (0 : Int) else (x.natAbs : Int) - sd) = (x.natAbs : Int) - sd by omega, show (if (x.natAbs : Int) - sd < (0 : Int) then (0 : Int) else (x.natAbs : Int) - sd) = (x.natAbs : Int) - sd by omega])
        generalize sg * ((x.natAbs : Int) - sd) = p at *
        (try simp (disch := omega) only [wi, Int.tdiv_eq_ediv_of_nonneg])
        first | rfl | (congr 1; done) | (congr 1; omega) | (congr 1; simp (disch := omega) only [wi]; omega)
    exact hv ▸ hp
  ·
    unfold added_c0 at h0
    have hp := added_p0 sd sg sr x ⟨⟨trivial, added_g0⟩, h0⟩ w
    have hv : added_w0 sd sg sr x = (added_val sd sg sr x) := by
      clear hp
      unfold added_w0 added_val
      have hb := spB_in hpre.1 hpre.2
      have hg := gb_in hpre.1 hpre.2
      have hn := neg_abs hpre.2
      unfold spIn devIn at hpre
      simp only [hn, decide_eq_true_eq, decide_eq_false_iff_not, gt_iff_lt] at *
      have hw : IntKind.i64.wrap ((x.natAbs : Int) - sd) = (x.natAbs : Int) - sd := wi _ (by omega)
      simp only [hw] at *
      by_cases hz : (x.natAbs : Int) - sd ≤ 0
      · have h0 := spB_0 hz
        (rw [sp_0 h0 hpre.1.2.2.1]) <;> first | rfl | (exfalso; omega) | (rw [show max ((x.natAbs : Int) - sd) 0 = 0 by omega]; simp; done) | (rw [show max ((x.natAbs : Int) - sd) 0 = 0 by omega]; simp; omega) | (simp only [show (if (0 : Int) > (x.natAbs : Int) - sd then (0 : Int) else (x.natAbs : Int) - sd) = 0 by omega, show (if (x.natAbs : Int) - sd < (0 : Int) then (0 : Int) else (x.natAbs : Int) - sd) = 0 by omega, Int.mul_zero]; simp [IntKind.wrap_i64]; done) | (simp only [show (if (0 : Int) > (x.natAbs : Int) - sd then (0 : Int) else (x.natAbs : Int) - sd) = 0 by omega, show (if (x.natAbs : Int) - sd < (0 : Int) then (0 : Int) else (x.natAbs : Int) - sd) = 0 by omega, Int.mul_zero]; simp [IntKind.wrap_i64]; omega)
      · have h1 := spB_p hz
        rw [h1] at hb hg
        unfold sp spM
        rw [h1]
        (try simp only [show (if (0 : Int) > (x.natAbs : Int) - sd then (0 : Int) else (x.natAbs : Int) - sd) = (x.natAbs : Int) - sd by omega, show (if (x.natAbs : Int) - sd < (0 : Int) then (0 : Int) else (x.natAbs : Int) - sd) = (x.natAbs : Int) - sd by omega])
        generalize sg * ((x.natAbs : Int) - sd) = p at *
        (try simp (disch := omega) only [wi, Int.tdiv_eq_ediv_of_nonneg])
        first | rfl | (congr 1; done) | (congr 1; omega) | (congr 1; simp (disch := omega) only [wi]; omega)
    exact hv ▸ hp
theorem k_added : ConOk Tryz.prog c_added := fun ns hl => by
  have hl0 : ns.length = 4 := hl
  clear hl
  obtain ⟨sd, ns0, rfl, hl1⟩ := len_cons hl0
  obtain ⟨sg, ns1, rfl, hl2⟩ := len_cons hl1
  obtain ⟨sr, ns2, rfl, hl3⟩ := len_cons hl2
  obtain ⟨x, ns3, rfl, hl4⟩ := len_cons hl3
  obtain rfl := len_nil hl4
  exact ⟨rfl, fun h w => added_any sd sg sr x h w⟩
end Go.Proofs.YthhgmnocigekaaaGreatDoor
end
section
set_option linter.all false
set_option maxRecDepth 1000000
open Go.RowKit
namespace Go.Proofs.YthhgmnocigekaaaGreatDoor
open Mini
noncomputable def mpsX : Code := loopOf Tryz.prog 68
noncomputable def mpsK : CallS := kAll [c_added]
def mpsArgs (sd sg sr : Int) (n c : Nat) : Array Value := #[.slice (some ⟨4, 0, none⟩) n c, .func (.func 67) #[.agg #[.int .i64 sd, .int .i64 sg, .int .i64 sr]] #[]]
def mpsW (sd sg sr : Int) (g : Nat → Nat → Int) (i : Nat) : List Value := [.int .i64 (sp sd sg sr (g i 0))]
def mpsZ : List Value := [.int .i64 0]
def mpsZ0 : Nat → Nat → Value := fun _ j => (#[.int .i64 0] : Array Value).getD j (.chan none)
def mpsL (sd sg sr : Int) (n c : Nat) (g : Nat → Nat → Int) (e : TypeId) (opn : Bool) (sz : Nat) (ro : Bool) (i : Nat) : List MObj := [rowI 1 n g e opn sz ro, .rows n 1 (fillG mpsZ (mpsW sd sg sr g) i) 3 false 0 false]
def mpsL0 (sd sg sr : Int) (n c : Nat) (g : Nat → Nat → Int) (e : TypeId) (opn : Bool) (sz : Nat) (ro : Bool) : List MObj := [rowI 1 n g e opn sz ro, .rows n 1 mpsZ0 3 false 0 false]
def mpsA (sd sg sr : Int) (n c i : Nat) : MA := MA.ofL 26 [.chan none, .func (.func 67) #[.agg #[.int .i64 sd, .int .i64 sg, .int .i64 sr]] #[], .chan none, .chan none, .slice none 0 0, .slice (some ⟨5, 0, none⟩) n n, .chan none, .chan none, .chan none, .chan none, .chan none, .slice (some ⟨4, 0, none⟩) n c, .int .i64 (n : Int), .int .i64 ((i : Nat) : Int), .chan none, .chan none, .chan none, .chan none, .chan none, .chan none, .chan none, .chan none, .chan none, .chan none, .chan none, .chan none] []
noncomputable def mpsR (sd sg sr : Int) (n c : Nat) (g : Nat → Nat → Int) (e : TypeId) (opn : Bool) (sz : Nat) (ro : Bool) (i : Nat) : Option OutCS := evCRS Tryz.prog mpsK 1000 none false mpsX (mpsA sd sg sr n c i) (wS 4 (mpsL sd sg sr n c g e opn sz ro i)) ⟨[1, .row i 0, .row i 0, .row i 0, .row i 0, .azz (.int .i64 ((i + 1 : Nat) : Int))], True⟩
noncomputable def mpsE (sd sg sr : Int) (n c : Nat) (g : Nat → Nat → Int) (e : TypeId) (opn : Bool) (sz : Nat) (ro : Bool) (i : Nat) : Option OutCS := evCRS Tryz.prog mpsK 1000 none false mpsX (mpsA sd sg sr n c i) (wS 4 (mpsL sd sg sr n c g e opn sz ro i)) ⟨[0], True⟩
noncomputable def mpsF_end (sd sg sr : Int) (n c : Nat) (g : Nat → Nat → Int) (e : TypeId) (opn : Bool) (sz : Nat) (ro : Bool) : Option OutS := evFS Tryz.prog mpsK 1000 68 (mpsArgs sd sg sr n c) (wS 4 [rowI 1 n g e opn sz ro]) ⟨[.row n 0, .lp 14386 (mpsA sd sg sr n c 0) 4 (mpsL0 sd sg sr n c g e opn sz ro) (.exit 0) (mpsA sd sg sr n c n) (mpsL sd sg sr n c g e opn sz ro n) 48 32], True⟩
theorem mpsK_ok : FOkS Tryz.prog mpsK := kAll_ok _ ⟨k_added, trivial⟩
section
variable (sd sg sr : Int) (n c : Nat) (g : Nat → Nat → Int) (e : TypeId) (opn : Bool) (sz : Nat) (ro : Bool) (i : Nat)
theorem mpsR_eq : seenF 4 2 14386 (mpsR sd sg sr n c g e opn sz ro i) = some (.normal, mpsA sd sg sr n c (i + 1), [rowI 1 n g e opn sz ro, .rows n 1 (setRow (fillG mpsZ (mpsW sd sg sr g) i) i 0 (mpsW sd sg sr g i)) 3 false 0 false], 16, 32, ⟨[], (((((((True ∧ ((decide ((((i : Nat)) : Int) < (((n : Nat)) : Int))) = true)) ∧ (((((i : Nat)) : Int) = (Int.ofNat i)) ∧ (i < n))) ∧ (((0 + (i * 1)) = ((i * 1) + 0)) ∧ (i < n))) ∧ ((spIn sd sg sr) ∧ (devIn (g i 0)))) ∧ (((((i : Nat)) : Int) = (Int.ofNat i)) ∧ (i < n))) ∧ (((0 + (i * 1)) = ((i * 1) + 0)) ∧ (i < n))) ∧ (((.int .i64 (IntKind.i64.wrap ((((i : Nat)) : Int) + (1 : Int)))) : Value) = (.int .i64 ((((i + 1) : Nat)) : Int))))⟩) := by kernel_rfl
theorem mpsE_eq : seenF 4 2 14386 (mpsE sd sg sr n c g e opn sz ro i) = some ((.exit (0 : Nat)), mpsA sd sg sr n c i, (mpsL sd sg sr n c g e opn sz ro i), 0, 0, ⟨[], (True ∧ ((decide ((((i : Nat)) : Int) < (((n : Nat)) : Int))) = false))⟩) := by kernel_rfl
theorem mpsA_keep : allKeep (4 + 2) (mpsA sd sg sr n c i) 26 = true := by kernel_rfl
theorem mpsL_keep : ∀ o, o ∈ (mpsL sd sg sr n c g e opn sz ro i) → keepO (below (4 + 2)) o := fun o ho => by
  simp only [mpsL, List.mem_cons, List.not_mem_nil, or_false] at ho
  rcases ho with rfl | rfl
  · exact rowI_keep _ _ _ _ _ _ _
  · exact fill_keep rfl (fun a => rfl)
theorem mpsL_set : [rowI 1 n g e opn sz ro, .rows n 1 (setRow (fillG mpsZ (mpsW sd sg sr g) i) i 0 (mpsW sd sg sr g i)) 3 false 0 false] = mpsL sd sg sr n c g e opn sz ro (i + 1) := by rw [fill_set (z := mpsZ) (w := mpsW sd sg sr g) (i := i) rfl]; rfl
theorem mpsZ0_eq : mpsZ0 = fillG mpsZ (mpsW sd sg sr g) 0 := by
  rw [← fill_zero mpsZ (mpsW sd sg sr g)]
  funext a j
  match j with
  | 0 => rfl
  | j + 1 => simp [mpsZ0, mpsZ, List.getD, Array.getD]
theorem mpsL0_eq : (mpsL0 sd sg sr n c g e opn sz ro) = mpsL sd sg sr n c g e opn sz ro 0 := by unfold mpsL0 mpsL; rw [mpsZ0_eq sd sg sr g]
variable {n i}
theorem mps_go (hx : spIn sd sg sr ∧ ∀ i, i < n → devIn (g i 0)) (hn : n ≤ 1048576) (hi : i < n) : SndC Tryz.prog none mpsX (mpsA sd sg sr n c i).act (wS 4 (mpsL sd sg sr n c g e opn sz ro i)) .normal (mpsA sd sg sr n c (i + 1)).act (wS 4 (mpsL sd sg sr n c g e opn sz ro (i + 1))) 48 32 := by
  have h := mpsR_eq sd sg sr n c g e opn sz ro i
  rw [mpsL_set sd sg sr n c g e opn sz ro i] at h
  refine wayF_ok smx mpsK_ok sng h ?_ rfl (mpsA_keep sd sg sr n c i) (mpsL_keep sd sg sr n c g e opn sz ro i) (mpsL_keep sd sg sr n c g e opn sz ro (i + 1)) (fun k hk hw => ?_) (by exact (by decide : ∀ b, b < 4 → Nat.testBit 32 b = false)) (by exact (by decide : ∀ b, b < 6 → Nat.testBit 16 b = true → Nat.testBit 48 b = true)) (by exact (by decide : ∀ b, b < 6 → Nat.testBit 32 b = Nat.testBit 32 b))
  · repeat' (first | (with_reducible assumption) | exact hx.1 | exact hx.2 _ (by assumption) | apply And.intro)
    all_goals first | trivial | rfl | assumption | exact hx.1 | exact hx.2 _ (by assumption) | exact decide_eq_true (by omega) | exact decide_eq_false (by omega) | exact bne_iff_ne.2 (by assumption) | exact bne_eq_false_iff_eq.2 (by assumption) | exact beq_iff_eq.2 (by assumption) | exact beq_eq_false_iff_ne.2 (by assumption) | exact wnextV (by assumption) (by omega) | exact wnextV hi (by omega) | omega
  · match k, hk, hw with
    | 0, _, hw => exact absurd hw (by decide)
    | 1, _, hw => exact ⟨fun h => (by cases h), rfl⟩
theorem mps_end (hi : ¬ i < n) : SndC Tryz.prog none mpsX (mpsA sd sg sr n c i).act (wS 4 (mpsL sd sg sr n c g e opn sz ro i)) (.exit 0) (mpsA sd sg sr n c i).act (wS 4 (mpsL sd sg sr n c g e opn sz ro i)) 48 32 :=
  (wayF_ok0 smx mpsK_ok sng (mpsE_eq sd sg sr n c g e opn sz ro i) ⟨trivial, decide_eq_false (by omega)⟩ rfl (mpsA_keep sd sg sr n c i) (mpsL_keep sd sg sr n c g e opn sz ro i) (mpsL_keep sd sg sr n c g e opn sz ro i) (by exact (by decide : ∀ b, b < 6 → Nat.testBit 0 b = false)) (R2 := 48) (by exact (by decide : ∀ b, b < 6 → Nat.testBit 0 b = true → Nat.testBit 48 b = true))).wide (fun b hb => by rw [or_bit, hb]; rfl) (fun b hb => by simp at hb)
end
theorem mps_loop (sd sg sr : Int) (n c : Nat) (g : Nat → Nat → Int) (e : TypeId) (opn : Bool) (sz : Nat) (ro : Bool) (hx : spIn sd sg sr ∧ ∀ i, i < n → devIn (g i 0)) (hn : n ≤ 1048576) : SndC Tryz.prog none (.loop mpsX) (mpsA sd sg sr n c 0).act (wS 4 (mpsL0 sd sg sr n c g e opn sz ro)) (.exit 0) (mpsA sd sg sr n c n).act (wS 4 (mpsL sd sg sr n c g e opn sz ro n)) 48 32 := by
  rw [mpsL0_eq sd sg sr n c g e opn sz ro]
  exact sndC_rounds (A := fun i => (mpsA sd sg sr n c i).act) (S := fun i => wS 4 (mpsL sd sg sr n c g e opn sz ro i)) n (fun k hk => mps_go sd sg sr c g e opn sz ro hx hn hk) (mps_end sd sg sr c g e opn sz ro (Nat.lt_irrefl n)) (by simp)
section
variable (sd sg sr : Int) (n c : Nat) (g : Nat → Nat → Int) (e : TypeId) (opn : Bool) (sz : Nat) (ro : Bool)
theorem mpsF_endeq : mpsF_end sd sg sr n c g e opn sz ro = some ((.slice (some ⟨5, 0, none⟩) n n), wldOf (mpsF_end sd sg sr n c g e opn sz ro), 48, 32, ⟨[], ((True ∧ (((((n : Nat)) : Int) = (Int.ofNat n)) ∧ (((((n : Nat)) : Int) = (Int.ofNat n)) ∧ ((((((8 : Nat)) : Int) * (((n : Nat)) : Int)) ≤ (281474976710656 : Int)) ∧ (n ≤ (1048576 : Nat)))))) ∧ ((((mpsA sd sg sr n c (0 : Nat)) = (mpsA sd sg sr n c (0 : Nat))) ∧ ((6 = (4 + 2)) ∧ ((HAppend.hAppend (List.replicate (4 : Nat) MObj.hole) (mpsL0 sd sg sr n c g e opn sz ro)) = (HAppend.hAppend (List.replicate (4 : Nat) MObj.hole) (mpsL0 sd sg sr n c g e opn sz ro))))) ∧ SndC Tryz.prog none (.loop mpsX) (mpsA sd sg sr n c 0).act (wS 4 (mpsL0 sd sg sr n c g e opn sz ro)) (.exit 0) (mpsA sd sg sr n c n).act (wS 4 (mpsL sd sg sr n c g e opn sz ro n)) 48 32))⟩) := by kernel_rfl
theorem mpsF_endo : (wldOf (mpsF_end sd sg sr n c g e opn sz ro)).get 5 = .rows n 1 (fillG mpsZ (mpsW sd sg sr g) n) 3 false 0 false := by kernel_rfl
theorem mpsF_endn : Nat.ble (5 + 1) (wldOf (mpsF_end sd sg sr n c g e opn sz ro)).next = true := by kernel_rfl
end
theorem mps_sndF (sd sg sr : Int) (n c : Nat) (g : Nat → Nat → Int) (e : TypeId) (opn : Bool) (sz : Nat) (ro : Bool) (hx : spIn sd sg sr ∧ ∀ i, i < n → devIn (g i 0)) (hn : n ≤ 1048576) : SndF Tryz.prog 68 (mpsArgs sd sg sr n c) (wS 4 [rowI 1 n g e opn sz ro]) (.slice (some ⟨5, 0, none⟩) n n) (wS 4 [rowI 1 n g e opn sz ro, .rows n 1 (fillG mpsZ (mpsW sd sg sr g) n) 3 false 0 false]) 48 0 := by
  have h2 := mps_loop sd sg sr n c g e opn sz ro hx hn
  refine SndF.tidy (r := 5) (l := [rowI 1 n g e opn sz ro]) (o2 := .rows n 1 (fillG mpsZ (mpsW sd sg sr g) n) 3 false 0 false) ((evFS_ok smx mpsK_ok 1000 _ _ _ _ _ _ _ _ _ (show evFS _ _ _ _ _ _ _ = _ from mpsF_endeq sd sg sr n c g e opn sz ro)).2 ?_) sng (by show 5 ≤ 5; decide) (Nat.le_of_ble_eq_true (mpsF_endn sd sg sr n c g e opn sz ro)) (fun f => ?_) rowI_keep1 (by exact (by decide : ∀ b, b < 5 → Nat.testBit 32 b = false)) (by kernel_rfl) (fun f hf hr => slice_wv hr)
  · repeat' (first | (with_reducible assumption) | exact hx.1 | exact hx.2 _ (by assumption) | apply And.intro)
    all_goals first | trivial | rfl | assumption | exact hx.1 | exact hx.2 _ (by assumption) | exact decide_eq_true (by omega) | exact decide_eq_false (by omega) | exact bne_iff_ne.2 (by assumption) | exact bne_eq_false_iff_eq.2 (by assumption) | exact beq_iff_eq.2 (by assumption) | exact beq_eq_false_iff_ne.2 (by assumption) | exact wnextV (by assumption) (by omega) | omega
  · rw [mpsF_endo]
    exact keep_wo (N := fun _ => false) (fun b hb => by cases hb) (fill_keep rfl (fun a => rfl))
def kMps : CallS := fun f xs s q => match decide (f = 68) with
  | true => match xs.toList with
    | [.slice (some ⟨b, 0, none⟩) n c, .func (.func 67) ⟨[.agg ⟨[.int .i64 sd, .int .i64 sg, .int .i64 sr]⟩]⟩ ⟨[]⟩] => match Nat.ble 4 b, rowK 1 .i64 s b n with
      | true, some (g, _, _, _, _, p) => some (.slice (some ⟨s.next, 0, none⟩) n n, s.push (.rows n 1 (fillG mpsZ (mpsW sd sg sr g) n) 3 false 0 false), 2 ^ b, 0, ⟨q.rest, q.ob ∧ (p ∧ n ≤ 1048576 ∧ spIn sd sg sr ∧ ∀ i, i < n → devIn (g i 0))⟩)
      | _, _ => none
    | _ => none
  | false => none
theorem kMps_ok : FOkS Tryz.prog kMps := fun f xs s q u s1 R W q1 he => by
  unfold kMps at he
  split at he
  · rename_i hf
    have hf := of_decide_eq_true hf
    subst hf
    split at he
    · rename_i b n c sd sg sr hx0
      have hxs : xs = #[.slice (some ⟨b, 0, none⟩) n c, .func (.func 67) #[.agg #[.int .i64 sd, .int .i64 sg, .int .i64 sr]] #[]] := by apply Array.ext'; exact hx0
      subst hxs
      split at he
      · rename_i g e opn sz ro p hb hr
        have hb := Nat.le_of_ble_eq_true hb
        cases he
        refine ⟨fun hq => hq.1, fun hq => ?_⟩
        obtain ⟨hp, hn, hx⟩ := hq.2
        obtain ⟨l1, w1⟩ := rowK_wo hr hp
        refine SndF.rowsNew (N := 4) (bs := [b]) (s0 := wS 4 [rowI 1 n g e opn sz ro]) (o1 := .rows n 1 (fillG mpsZ (mpsW sd sg sr g) n) 3 false 0 false) sng (mps_sndF sd sg sr n c g e opn sz ro hx hn) rfl (fun x hx => ?_) (by simp) (by omega) (fun x hx _ => ?_) (fun x hx => ?_) (fun f j hj => ?_) (fun f hl hf => wvs_two (slice_wv (hf 0 (by simp))) (ground_wv (n := 8) rfl)) (fun f _ hf hn => ⟨slice_wv hn, keep_wo (N := fun _ => false) (fun b hb => by cases hb) (fill_keep rfl (fun a => rfl))⟩)
        · simp at hx; subst hx; omega
        · rcases Nat.lt_or_ge x 4 with k | k
          · have hz := (by decide : ∀ b, b < 4 → Nat.testBit 48 b = false) x k
            rw [hz] at hx; cases hx
          · exact k
        · simp at hx; subst hx; exact bit_self _
        · match j, hj with
          | 0, _ => exact w1 f
      · cases he
    · cases he
  · cases he
end Go.Proofs.YthhgmnocigekaaaGreatDoor
end
section
set_option linter.all false
set_option maxRecDepth 1000000
open Go.RowKit
namespace Go.Proofs.YthhgmnocigekaaaGreatDoor
open Mini
noncomputable def siX : Code := loopOf Tryz.prog 28
def siA (n m c d i : Nat) : MA := MA.ofL 26 [.slice (some ⟨4, 0, none⟩) n c, .slice (some ⟨5, 0, none⟩) m d, .chan none, .chan none, .bool false, .int .i64 (i : Int), .chan none, .chan none, .chan none, .chan none, .chan none, .chan none, .chan none, .chan none, .chan none, .chan none, .chan none, .chan none, .chan none, .chan none, .chan none, .chan none, .chan none, .chan none, .chan none, .chan none] []
def siArgs (n m c d : Nat) : Array Value := #[.slice (some ⟨4, 0, none⟩) n c, .slice (some ⟨5, 0, none⟩) m d]
noncomputable def siR (n m c d : Nat) (g h : Nat → Nat → Int) (e e2 : TypeId) (o o2 : Bool) (z z2 : Nat) (r r2 : Bool) (i : Nat) : Option OutCS := evCRS Tryz.prog noXS 1000 none false siX (siA n m c d i) (wS 4 [rowI 1 n g e o z r, rowI 1 m h e2 o2 z2 r2]) ⟨[1, .row i 0, .row i 0, .row i 0, .row i 0, 0, .azz (.int .i64 ((i + 1 : Nat) : Int))], True⟩
noncomputable def siW (n m c d : Nat) (g h : Nat → Nat → Int) (e e2 : TypeId) (o o2 : Bool) (z z2 : Nat) (r r2 : Bool) (i : Nat) : Option OutCS := evCRS Tryz.prog noXS 1000 none false siX (siA n m c d i) (wS 4 [rowI 1 n g e o z r, rowI 1 m h e2 o2 z2 r2]) ⟨[1, .row i 0, .row i 0, .row i 0, .row i 0, 1], True⟩
noncomputable def siE (n m c d : Nat) (g h : Nat → Nat → Int) (e e2 : TypeId) (o o2 : Bool) (z z2 : Nat) (r r2 : Bool) (i : Nat) : Option OutCS := evCRS Tryz.prog noXS 1000 none false siX (siA n m c d i) (wS 4 [rowI 1 n g e o z r, rowI 1 m h e2 o2 z2 r2]) ⟨[0], True⟩
noncomputable def siF_ne (n m c d : Nat) (g h : Nat → Nat → Int) (e e2 : TypeId) (o o2 : Bool) (z z2 : Nat) (r r2 : Bool) : Option OutS := evFS Tryz.prog noXS 1000 28 (siArgs n m c d) (wS 4 [rowI 1 n g e o z r, rowI 1 m h e2 o2 z2 r2]) ⟨[1], True⟩
noncomputable def siF_ret (n m c d : Nat) (g h : Nat → Nat → Int) (e e2 : TypeId) (o o2 : Bool) (z z2 : Nat) (r r2 : Bool) (i : Nat) : Option OutS := evFS Tryz.prog noXS 1000 28 (siArgs n m c d) (wS 4 [rowI 1 n g e o z r, rowI 1 m h e2 o2 z2 r2]) ⟨[0, .lp 51 (siA n m c d 0) 4 [rowI 1 n g e o z r, rowI 1 m h e2 o2 z2 r2] .ret (siA n m c d i) [rowI 1 n g e o z r, rowI 1 m h e2 o2 z2 r2] 48 0], True⟩
noncomputable def siF_end (n m c d : Nat) (g h : Nat → Nat → Int) (e e2 : TypeId) (o o2 : Bool) (z z2 : Nat) (r r2 : Bool) (i : Nat) : Option OutS := evFS Tryz.prog noXS 1000 28 (siArgs n m c d) (wS 4 [rowI 1 n g e o z r, rowI 1 m h e2 o2 z2 r2]) ⟨[0, .lp 51 (siA n m c d 0) 4 [rowI 1 n g e o z r, rowI 1 m h e2 o2 z2 r2] (.exit 0) (siA n m c d i) [rowI 1 n g e o z r, rowI 1 m h e2 o2 z2 r2] 48 0], True⟩
section
variable (n m c d : Nat) (g h : Nat → Nat → Int) (e e2 : TypeId) (o o2 : Bool) (z z2 : Nat) (r r2 : Bool) (i : Nat)
theorem siR_eq : seenF 4 2 51 (siR n m c d g h e e2 o o2 z z2 r r2 i) = some (.normal, siA n m c d (i + 1), [rowI 1 n g e o z r, rowI 1 m h e2 o2 z2 r2], 48, 0, ⟨[], (((((((True ∧ ((decide ((((i : Nat)) : Int) < (((n : Nat)) : Int))) = true)) ∧ (((((i : Nat)) : Int) = (Int.ofNat i)) ∧ (i < n))) ∧ (((0 + (i * 1)) = ((i * 1) + 0)) ∧ (i < n))) ∧ (((((i : Nat)) : Int) = (Int.ofNat i)) ∧ (i < m))) ∧ (((0 + (i * 1)) = ((i * 1) + 0)) ∧ (i < m))) ∧ (((g i 0) != (h i 0)) = false)) ∧ (((.int .i64 (IntKind.i64.wrap ((((i : Nat)) : Int) + (1 : Int)))) : Value) = (.int .i64 ((((i + 1) : Nat)) : Int))))⟩) := by kernel_rfl
theorem siW_eq : seenF 4 2 51 (siW n m c d g h e e2 o o2 z z2 r r2 i) = some (.ret, siA n m c d i, [rowI 1 n g e o z r, rowI 1 m h e2 o2 z2 r2], 48, 0, ⟨[], ((((((True ∧ ((decide ((((i : Nat)) : Int) < (((n : Nat)) : Int))) = true)) ∧ (((((i : Nat)) : Int) = (Int.ofNat i)) ∧ (i < n))) ∧ (((0 + (i * 1)) = ((i * 1) + 0)) ∧ (i < n))) ∧ (((((i : Nat)) : Int) = (Int.ofNat i)) ∧ (i < m))) ∧ (((0 + (i * 1)) = ((i * 1) + 0)) ∧ (i < m))) ∧ (((g i 0) != (h i 0)) = true))⟩) := by kernel_rfl
theorem siE_eq : seenF 4 2 51 (siE n m c d g h e e2 o o2 z z2 r r2 i) = some ((.exit (0 : Nat)), siA n m c d i, [rowI 1 n g e o z r, rowI 1 m h e2 o2 z2 r2], 0, 0, ⟨[], (True ∧ ((decide ((((i : Nat)) : Int) < (((n : Nat)) : Int))) = false))⟩) := by kernel_rfl
theorem siA_keep : allKeep (4 + 2) (siA n m c d i) 26 = true := by kernel_rfl
theorem siF_neeq : siF_ne n m c d g h e e2 o o2 z z2 r r2 = some ((.bool false), wS 4 [rowI 1 n g e o z r, rowI 1 m h e2 o2 z2 r2], 0, 0, ⟨[], (True ∧ (((((n : Nat)) : Int) != (((m : Nat)) : Int)) = true))⟩) := by kernel_rfl
theorem siF_reteq : siF_ret n m c d g h e e2 o o2 z z2 r r2 i = some ((.bool false), wS 4 [rowI 1 n g e o z r, rowI 1 m h e2 o2 z2 r2], 48, 0, ⟨[], ((True ∧ (((((n : Nat)) : Int) != (((m : Nat)) : Int)) = false)) ∧ ((((siA n m c d (0 : Nat)) = (siA n m c d (0 : Nat))) ∧ ((6 = (4 + 2)) ∧ ((HAppend.hAppend (List.replicate (4 : Nat) MObj.hole) ((rowI (1 : Nat) n g e o z r) :: ((rowI (1 : Nat) m h e2 o2 z2 r2) :: []))) = (HAppend.hAppend (List.replicate (4 : Nat) MObj.hole) ((rowI (1 : Nat) n g e o z r) :: ((rowI (1 : Nat) m h e2 o2 z2 r2) :: [])))))) ∧ SndC Tryz.prog none (.loop siX) (siA n m c d 0).act (wS 4 [rowI 1 n g e o z r, rowI 1 m h e2 o2 z2 r2]) .ret (siA n m c d i).act (wS 4 [rowI 1 n g e o z r, rowI 1 m h e2 o2 z2 r2]) 48 0))⟩) := by kernel_rfl
theorem siF_endeq : siF_end n m c d g h e e2 o o2 z z2 r r2 i = some ((.bool true), wS 4 [rowI 1 n g e o z r, rowI 1 m h e2 o2 z2 r2], 48, 0, ⟨[], ((True ∧ (((((n : Nat)) : Int) != (((m : Nat)) : Int)) = false)) ∧ ((((siA n m c d (0 : Nat)) = (siA n m c d (0 : Nat))) ∧ ((6 = (4 + 2)) ∧ ((HAppend.hAppend (List.replicate (4 : Nat) MObj.hole) ((rowI (1 : Nat) n g e o z r) :: ((rowI (1 : Nat) m h e2 o2 z2 r2) :: []))) = (HAppend.hAppend (List.replicate (4 : Nat) MObj.hole) ((rowI (1 : Nat) n g e o z r) :: ((rowI (1 : Nat) m h e2 o2 z2 r2) :: [])))))) ∧ SndC Tryz.prog none (.loop siX) (siA n m c d 0).act (wS 4 [rowI 1 n g e o z r, rowI 1 m h e2 o2 z2 r2]) (.exit 0) (siA n m c d i).act (wS 4 [rowI 1 n g e o z r, rowI 1 m h e2 o2 z2 r2]) 48 0))⟩) := by kernel_rfl
variable {n c d g h e e2 o o2 z z2 r r2 i}
theorem si_go (hn : (n : Int) ≤ 9223372036854775807) (hi : i < n) (h0 : g i 0 = h i 0) : SndC Tryz.prog none siX (siA n n c d i).act (wS 4 [rowI 1 n g e o z r, rowI 1 n h e2 o2 z2 r2]) .normal (siA n n c d (i + 1)).act (wS 4 [rowI 1 n g e o z r, rowI 1 n h e2 o2 z2 r2]) 48 0 :=
  wayF_ok0 smx noXS_ok sng (siR_eq n n c d g h e e2 o o2 z z2 r r2 i) ⟨⟨⟨⟨⟨⟨⟨trivial, decide_eq_true (by omega)⟩, rfl, hi⟩, (by omega), hi⟩, rfl, hi⟩, (by omega), hi⟩, (by simp [h0])⟩, wnextV hi hn⟩ rfl (siA_keep n n c d i) rowI_keep2 rowI_keep2 (by exact (by decide : ∀ b, b < 6 → Nat.testBit 0 b = false)) (by exact (by decide : ∀ b, b < 6 → Nat.testBit 48 b = true → Nat.testBit 48 b = true))
theorem si_bad (hi : i < n) (h0 : ¬ (g i 0 = h i 0)) : SndC Tryz.prog none siX (siA n n c d i).act (wS 4 [rowI 1 n g e o z r, rowI 1 n h e2 o2 z2 r2]) .ret (siA n n c d i).act (wS 4 [rowI 1 n g e o z r, rowI 1 n h e2 o2 z2 r2]) 48 0 :=
  wayF_ok0 smx noXS_ok sng (siW_eq n n c d g h e e2 o o2 z z2 r r2 i) ⟨⟨⟨⟨⟨⟨trivial, decide_eq_true (by omega)⟩, rfl, hi⟩, (by omega), hi⟩, rfl, hi⟩, (by omega), hi⟩, (by simpa using h0)⟩ rfl (siA_keep n n c d i) rowI_keep2 rowI_keep2 (by exact (by decide : ∀ b, b < 6 → Nat.testBit 0 b = false)) (by exact (by decide : ∀ b, b < 6 → Nat.testBit 48 b = true → Nat.testBit 48 b = true))
theorem si_end (hi : ¬ i < n) : SndC Tryz.prog none siX (siA n n c d i).act (wS 4 [rowI 1 n g e o z r, rowI 1 n h e2 o2 z2 r2]) (.exit 0) (siA n n c d i).act (wS 4 [rowI 1 n g e o z r, rowI 1 n h e2 o2 z2 r2]) 48 0 :=
  wayF_ok0 smx noXS_ok sng (siE_eq n n c d g h e e2 o o2 z z2 r r2 i) ⟨trivial, decide_eq_false (by omega)⟩ rfl (siA_keep n n c d i) rowI_keep2 rowI_keep2 (by exact (by decide : ∀ b, b < 6 → Nat.testBit 0 b = false)) (by exact (by decide : ∀ b, b < 6 → Nat.testBit 0 b = true → Nat.testBit 48 b = true))
end
def sameI (g h : Nat → Nat → Int) (n : Nat) : Prop := ∀ i, i < n → g i 0 = h i 0
instance (g h : Nat → Nat → Int) (n : Nat) : Decidable (sameI g h n) := inferInstanceAs (Decidable (∀ i, i < n → _))
theorem si_sndF {n m : Nat} (c d : Nat) (g h : Nat → Nat → Int) (e e2 : TypeId) (o o2 : Bool) (z z2 : Nat) (r r2 : Bool) (hn : (n : Int) ≤ 9223372036854775807) :
    SndF Tryz.prog 28 (siArgs n m c d) (wS 4 [rowI 1 n g e o z r, rowI 1 m h e2 o2 z2 r2]) (.bool (decide (n = m ∧ sameI g h n))) (wS 4 [rowI 1 n g e o z r, rowI 1 m h e2 o2 z2 r2]) 48 0 := by
  by_cases hm : n = m
  · subst hm
    rcases loop_split (A := fun i => (siA n n c d i).act) (S := fun _ => wS 4 [rowI 1 n g e o z r, rowI 1 n h e2 o2 z2 r2]) (A1 := fun i => (siA n n c d i).act) (S1 := fun _ => wS 4 [rowI 1 n g e o z r, rowI 1 n h e2 o2 z2 r2]) (good := fun i => g i 0 = h i 0) (fun i => Decidable.em _) n
      (fun i hi h0 => si_go hn hi h0) (fun i hi h0 => si_bad hi h0) (si_end (Nat.lt_irrefl n)) (by simp) (by simp) with ⟨h1, h2⟩ | ⟨j, hj, h1, h3, h2⟩
    · rw [decide_eq_true ⟨rfl, h1⟩]
      exact (evFS_ok smx noXS_ok 1000 _ _ _ _ _ _ _ _ _ (show evFS _ _ _ _ _ _ _ = _ from siF_endeq n n c d g h e e2 o o2 z z2 r r2 n)).2 ⟨⟨trivial, by simp⟩, ⟨rfl, rfl, rfl⟩, h2⟩
    · rw [decide_eq_false (fun q => h3 (q.2 j hj))]
      exact (evFS_ok smx noXS_ok 1000 _ _ _ _ _ _ _ _ _ (show evFS _ _ _ _ _ _ _ = _ from siF_reteq n n c d g h e e2 o o2 z z2 r r2 j)).2 ⟨⟨trivial, by simp⟩, ⟨rfl, rfl, rfl⟩, h2⟩
  · rw [decide_eq_false (fun q => hm q.1)]
    exact ((evFS_ok smx noXS_ok 1000 _ _ _ _ _ _ _ _ _ (show evFS _ _ _ _ _ _ _ = _ from siF_neeq n m c d g h e e2 o o2 z z2 r r2)).2 ⟨trivial, by simp; omega⟩).mask (fun b _ hb => by simp at hb) (fun b _ => rfl)

def kSameI : CallS := fun f xs s q => match decide (f = 28) with
  | true => match xs.toList with
    | [.slice (some ⟨b, 0, none⟩) n c, .slice (some ⟨b2, 0, none⟩) m d] => match Nat.ble 4 b, Nat.ble 4 b2, Nat.beq b b2, rowK 1 .i64 s b n, rowK 1 .i64 s b2 m with
      | true, true, false, some (g, _, _, _, _, p), some (h, _, _, _, _, p2) => some (.bool (decide (n = m ∧ sameI g h n)), s, 2 ^ b ||| 2 ^ b2, 0, ⟨q.rest, q.ob ∧ (p ∧ p2 ∧ (n : Int) ≤ 9223372036854775807)⟩)
      | _, _, _, _, _ => none
    | _ => none
  | false => none
theorem kSameI_ok : FOkS Tryz.prog kSameI := fun f xs s q u s1 R W q1 he => by
  unfold kSameI at he
  split at he
  · rename_i hf
    have hf := of_decide_eq_true hf
    subst hf
    split at he
    · rename_i b n c b2 m d hx
      have hxs : xs = #[.slice (some ⟨b, 0, none⟩) n c, .slice (some ⟨b2, 0, none⟩) m d] := by apply Array.ext'; exact hx
      subst hxs
      split at he
      · rename_i g e o z r p h e2 o2 z2 r2 p2 h1 h2 h3 h4 h5
        cases he
        refine ⟨fun hq => hq.1, fun hq => ?_⟩
        obtain ⟨k1, k2, hn⟩ := hq.2
        obtain ⟨l1, w1⟩ := rowK_wo h4 k1
        obtain ⟨l2, w2⟩ := rowK_wo h5 k2
        have b1 := Nat.le_of_ble_eq_true h1
        have b3 := Nat.le_of_ble_eq_true h2
        have hne : b ≠ b2 := fun e => by rw [e, Nat.beq_refl] at h3; cases h3
        refine SndF.rows (N := 4) (bs := [b, b2]) (s0 := wS 4 [rowI 1 n g e o z r, rowI 1 m h e2 o2 z2 r2]) sng (si_sndF c d g h e e2 o o2 z z2 r r2 hn) rfl rfl (fun x hx => ?_) (by simp [hne]) (by omega) (fun x hx _ => ?_) (fun x hx => ?_) (fun f j hj => ?_) (fun f _ hf => ?_)
        · simp at hx
          rcases hx with rfl | rfl <;> omega
        · rcases Nat.lt_or_ge x 4 with k | k
          · have hz := (by decide : ∀ b, b < 4 → Nat.testBit 48 b = false) x k
            rw [hz] at hx; cases hx
          · exact k
        · simp at hx
          rcases hx with rfl | rfl <;> simp [or_bit, bit_self]
        · match j, hj with
          | 0, _ => exact w1 f
          | 1, _ => exact w2 f
        · exact wvs_two (slice_wv (hf 0 (by simp))) (slice_wv (hf 1 (by simp)))
      · cases he
    · cases he
  · cases he
end Go.Proofs.YthhgmnocigekaaaGreatDoor
end
section
set_option linter.all false
set_option maxRecDepth 1000000
set_option maxHeartbeats 2000000
open Go.RowKit
namespace Go.Proofs.YthhgmnocigekaaaGreatDoor
open Mini

def rsupported_val (sd sg sr x : Int) : Value := .int .i64 (sp sd sg sr x)
theorem rsupported_X : FOkS Tryz.prog x_rsupported := noXS_ok
theorem rsupported_args (sd sg sr x : Int) : (#[.agg #[.int .i64 sd, .int .i64 sg, .int .i64 sr], .int .i64 x] : Array Value).toList.all (ground 8) = true := by kernel_rfl
def rsupported_c0 (sd sg sr x : Int) : Bool := (decide ((IntKind.i64.wrap ((if ((IntKind.i64.wrap ((0 : Int) - x)) > x) then (IntKind.i64.wrap ((0 : Int) - x)) else x) - sd)) ≤ (0 : Int)))
theorem rsupported_g1 : (false = false) := by first | rfl | trivial | decide | omega
def rsupported_c1 (sd sg sr x : Int) : Bool := (decide (x > (0 : Int)))
def rsupported_w0 (sd sg sr x : Int) : Value := .int .i64 (if ((IntKind.i64.wrap (Int.tdiv (IntKind.i64.wrap (sg * (IntKind.i64.wrap ((if ((IntKind.i64.wrap ((0 : Int) - x)) > x) then (IntKind.i64.wrap ((0 : Int) - x)) else x) - sd)))) (1024 : Int))) < sr) then (IntKind.i64.wrap (Int.tdiv (IntKind.i64.wrap (sg * (IntKind.i64.wrap ((if ((IntKind.i64.wrap ((0 : Int) - x)) > x) then (IntKind.i64.wrap ((0 : Int) - x)) else x) - sd)))) (1024 : Int))) else sr)
def rsupported_r0 (sd sg sr x : Int) : Prop := (((True ∧ (rsupported_c0 sd sg sr x = false)) ∧ ((false = false))) ∧ (rsupported_c1 sd sg sr x = false))
theorem rsupported_o0 (sd sg sr x : Int) : obOf (rsupported_e0 sd sg sr x) = rsupported_r0 sd sg sr x := by kernel_rfl
theorem rsupported_v0 (sd sg sr x : Int) : resOf (rsupported_e0 sd sg sr x) = rsupported_w0 sd sg sr x := by kernel_rfl
theorem rsupported_k0 (sd sg sr x : Int) : cleanOf Tryz.prog.globals.size (rsupported_e0 sd sg sr x) = true := by kernel_rfl
theorem rsupported_q0 (sd sg sr x : Int) : rsupported_e0 sd sg sr x = evFS Tryz.prog x_rsupported 1000 25 #[.agg #[.int .i64 sd, .int .i64 sg, .int .i64 sr], .int .i64 x] (noTabs 4) ⟨[0, 0], True⟩ := by
  delta rsupported_e0
  exact Eq.refl _
theorem rsupported_p0 (sd sg sr x : Int) (h : rsupported_r0 sd sg sr x) (w : World) : Calls Tryz.prog 25 #[.agg #[.int .i64 sd, .int .i64 sg, .int .i64 sr], .int .i64 x] w fun en w' => en = .returned (rsupported_w0 sd sg sr x) ∧ Below w.heap.size w w' := by
  have hv := rsupported_v0 sd sg sr x
  have hc := rsupported_k0 sd sg sr x
  have he := rsupported_q0 sd sg sr x
  have ho := rsupported_o0 sd sg sr x
  generalize rsupported_e0 sd sg sr x = r at *
  exact calls_way he gfol rsupported_X hv rfl (rsupported_args sd sg sr x) hc ho h (bl w)
def rsupported_w1 (sd sg sr x : Int) : Value := .int .i64 (0 : Int)
def rsupported_r1 (sd sg sr x : Int) : Prop := (True ∧ (rsupported_c0 sd sg sr x = true))
theorem rsupported_o1 (sd sg sr x : Int) : obOf (rsupported_e1 sd sg sr x) = rsupported_r1 sd sg sr x := by kernel_rfl
theorem rsupported_v1 (sd sg sr x : Int) : resOf (rsupported_e1 sd sg sr x) = rsupported_w1 sd sg sr x := by kernel_rfl
theorem rsupported_k1 (sd sg sr x : Int) : cleanOf Tryz.prog.globals.size (rsupported_e1 sd sg sr x) = true := by kernel_rfl
theorem rsupported_q1 (sd sg sr x : Int) : rsupported_e1 sd sg sr x = evFS Tryz.prog x_rsupported 1000 25 #[.agg #[.int .i64 sd, .int .i64 sg, .int .i64 sr], .int .i64 x] (noTabs 4) ⟨[1], True⟩ := by
  delta rsupported_e1
  exact Eq.refl _
theorem rsupported_p1 (sd sg sr x : Int) (h : rsupported_r1 sd sg sr x) (w : World) : Calls Tryz.prog 25 #[.agg #[.int .i64 sd, .int .i64 sg, .int .i64 sr], .int .i64 x] w fun en w' => en = .returned (rsupported_w1 sd sg sr x) ∧ Below w.heap.size w w' := by
  have hv := rsupported_v1 sd sg sr x
  have hc := rsupported_k1 sd sg sr x
  have he := rsupported_q1 sd sg sr x
  have ho := rsupported_o1 sd sg sr x
  generalize rsupported_e1 sd sg sr x = r at *
  exact calls_way he gfol rsupported_X hv rfl (rsupported_args sd sg sr x) hc ho h (bl w)
def rsupported_w2 (sd sg sr x : Int) : Value := .int .i64 (IntKind.i64.wrap ((0 : Int) - (if ((IntKind.i64.wrap (Int.tdiv (IntKind.i64.wrap (sg * (IntKind.i64.wrap ((if ((IntKind.i64.wrap ((0 : Int) - x)) > x) then (IntKind.i64.wrap ((0 : Int) - x)) else x) - sd)))) (1024 : Int))) < sr) then (IntKind.i64.wrap (Int.tdiv (IntKind.i64.wrap (sg * (IntKind.i64.wrap ((if ((IntKind.i64.wrap ((0 : Int) - x)) > x) then (IntKind.i64.wrap ((0 : Int) - x)) else x) - sd)))) (1024 : Int))) else sr)))
def rsupported_r2 (sd sg sr x : Int) : Prop := (((True ∧ (rsupported_c0 sd sg sr x = false)) ∧ ((false = false))) ∧ (rsupported_c1 sd sg sr x = true))
theorem rsupported_o2 (sd sg sr x : Int) : obOf (rsupported_e2 sd sg sr x) = rsupported_r2 sd sg sr x := by kernel_rfl
theorem rsupported_v2 (sd sg sr x : Int) : resOf (rsupported_e2 sd sg sr x) = rsupported_w2 sd sg sr x := by kernel_rfl
theorem rsupported_k2 (sd sg sr x : Int) : cleanOf Tryz.prog.globals.size (rsupported_e2 sd sg sr x) = true := by kernel_rfl
theorem rsupported_q2 (sd sg sr x : Int) : rsupported_e2 sd sg sr x = evFS Tryz.prog x_rsupported 1000 25 #[.agg #[.int .i64 sd, .int .i64 sg, .int .i64 sr], .int .i64 x] (noTabs 4) ⟨[0, 1], True⟩ := by
  delta rsupported_e2
  exact Eq.refl _
theorem rsupported_p2 (sd sg sr x : Int) (h : rsupported_r2 sd sg sr x) (w : World) : Calls Tryz.prog 25 #[.agg #[.int .i64 sd, .int .i64 sg, .int .i64 sr], .int .i64 x] w fun en w' => en = .returned (rsupported_w2 sd sg sr x) ∧ Below w.heap.size w w' := by
  have hv := rsupported_v2 sd sg sr x
  have hc := rsupported_k2 sd sg sr x
  have he := rsupported_q2 sd sg sr x
  have ho := rsupported_o2 sd sg sr x
  generalize rsupported_e2 sd sg sr x = r at *
  exact calls_way he gfol rsupported_X hv rfl (rsupported_args sd sg sr x) hc ho h (bl w)
theorem rsupported_any (sd sg sr x : Int) (hpre : spIn sd sg sr ∧ devIn x) (w : World) : Calls Tryz.prog 25 #[.agg #[.int .i64 sd, .int .i64 sg, .int .i64 sr], .int .i64 x] w fun en w' => en = .returned (rsupported_val sd sg sr x) ∧ Below w.heap.size w w' := by
  rcases Bool.eq_false_or_eq_true (rsupported_c0 sd sg sr x) with h0 | h0
  ·
    unfold rsupported_c0 at h0
    have hp := rsupported_p1 sd sg sr x ⟨trivial, h0⟩ w
    have hv : rsupported_w1 sd sg sr x = (rsupported_val sd sg sr x) := by
      clear hp
      unfold rsupported_w1 rsupported_val
      have hb := spB_in hpre.1 hpre.2
      have hg := gb_in hpre.1 hpre.2
      have hn := neg_abs hpre.2
      unfold spIn devIn at hpre
      simp only [hn, decide_eq_true_eq, decide_eq_false_iff_not, gt_iff_lt] at *
      have hw : IntKind.i64.wrap ((x.natAbs : Int) - sd) = (x.natAbs : Int) - sd := wi _ (by omega)
      simp only [hw] at *
      by_cases hz : (x.natAbs : Int) - sd ≤ 0
      · have h0 := spB_0 hz
        (rw [sp_0 h0 hpre.1.2.2.1]) <;> first | rfl | (exfalso; omega) | (rw [show max ((x.natAbs : Int) - sd) 0 = 0 by omega]; simp; done) | (rw [show max ((x.natAbs : Int) - sd) 0 = 0 by omega]; simp; omega) | (simp only [show (if (0 : Int) > (x.natAbs : Int) - sd then (0 : Int) else (x.natAbs : Int) - sd) = 0 by omega, show (if (x.natAbs : Int) - sd < (0 : Int) then (0 : Int) else (x.natAbs : Int) - sd) = 0 by omega, Int.mul_zero]; simp [IntKind.wrap_i64]; done) | (simp only [show (if (0 : Int) > (x.natAbs : Int) - sd then (0 : Int) else (x.natAbs : Int) - sd) = 0 by omega, show (if (x.natAbs : Int) - sd < (0 : Int) then (0 : Int) else (x.natAbs : Int) - sd) = 0 by omega, Int.mul_zero]; simp [IntKind.wrap_i64]; omega)
      · have h1 := spB_p hz
        rw [h1] at hb hg
        unfold sp spM
        rw [h1]
        (try simp only [show (if (0 : Int) > (x.natAbs : Int) - sd then (0 : Int) else (x.natAbs : Int) - sd) = (x.natAbs : Int) - sd by omega, show (if (x.natAbs : Int) - sd < (0 : Int) then (0 : Int) else (x.natAbs : Int) - sd) = (x.natAbs : Int) - sd by omega])
        generalize sg * ((x.natAbs : Int) - sd) = p at *
        (try simp (disch := omega) only [wi, Int.tdiv_eq_ediv_of_nonneg])
        first | rfl | (congr 1; done) | (congr 1; omega) | (congr 1; simp (disch := omega) only [wi]; omega)
    exact hv ▸ hp
  ·
    unfold rsupported_c0 at h0
    rcases Bool.eq_false_or_eq_true (rsupported_c1 sd sg sr x) with h1 | h1
    ·
      unfold rsupported_c1 at h1
      have hp := rsupported_p2 sd sg sr x ⟨⟨⟨trivial, h0⟩, rsupported_g1⟩, h1⟩ w
      have hv : rsupported_w2 sd sg sr x = (rsupported_val sd sg sr x) := by
        clear hp
        unfold rsupported_w2 rsupported_val
        have hb := spB_in hpre.1 hpre.2
        have hg := gb_in hpre.1 hpre.2
        have hn := neg_abs hpre.2
        unfold spIn devIn at hpre
        simp only [hn, decide_eq_true_eq, decide_eq_false_iff_not, gt_iff_lt] at *
        have hw : IntKind.i64.wrap ((x.natAbs : Int) - sd) = (x.natAbs : Int) - sd := wi _ (by omega)
        simp only [hw] at *
        by_cases hz : (x.natAbs : Int) - sd ≤ 0
        · have h0 := spB_0 hz
          (rw [sp_0 h0 hpre.1.2.2.1]) <;> first | rfl | (exfalso; omega) | (rw [show max ((x.natAbs : Int) - sd) 0 = 0 by omega]; simp; done) | (rw [show max ((x.natAbs : Int) - sd) 0 = 0 by omega]; simp; omega) | (simp only [show (if (0 : Int) > (x.natAbs : Int) - sd then (0 : Int) else (x.natAbs : Int) - sd) = 0 by omega, show (if (x.natAbs : Int) - sd < (0 : Int) then (0 : Int) else (x.natAbs : Int) - sd) = 0 by omega, Int.mul_zero]; simp [IntKind.wrap_i64]; done) | (simp only [show (if (0 : Int) > (x.natAbs : Int) - sd then (0 : Int) else (x.natAbs : Int) - sd) = 0 by omega, show (if (x.natAbs : Int) - sd < (0 : Int) then (0 : Int) else (x.natAbs : Int) - sd) = 0 by omega, Int.mul_zero]; simp [IntKind.wrap_i64]; omega)
        · have h1 := spB_p hz
          rw [h1] at hb hg
          unfold sp spM
          rw [h1]
          (try simp only [show (if (0 : Int) > (x.natAbs : Int) - sd then (0 : Int) else (x.natAbs : Int) - sd) = (x.natAbs : Int) - sd by omega, show (if (x.natAbs : Int) - sd < (0 : Int) then (0 : Int) else (x.natAbs : Int) - sd) = (x.natAbs : Int) - sd by omega])
          generalize sg * ((x.natAbs : Int) - sd) = p at *
          (try simp (disch := omega) only [wi, Int.tdiv_eq_ediv_of_nonneg])
          first | rfl | (congr 1; done) | (congr 1; omega) | (congr 1; simp (disch := omega) only [wi]; omega)
      exact hv ▸ hp
    ·
      unfold rsupported_c1 at h1
      have hp := rsupported_p0 sd sg sr x ⟨⟨⟨trivial, h0⟩, rsupported_g1⟩, h1⟩ w
      have hv : rsupported_w0 sd sg sr x = (rsupported_val sd sg sr x) := by
        clear hp
        unfold rsupported_w0 rsupported_val
        have hb := spB_in hpre.1 hpre.2
        have hg := gb_in hpre.1 hpre.2
        have hn := neg_abs hpre.2
        unfold spIn devIn at hpre
        simp only [hn, decide_eq_true_eq, decide_eq_false_iff_not, gt_iff_lt] at *
        have hw : IntKind.i64.wrap ((x.natAbs : Int) - sd) = (x.natAbs : Int) - sd := wi _ (by omega)
        simp only [hw] at *
        by_cases hz : (x.natAbs : Int) - sd ≤ 0
        · have h0 := spB_0 hz
          (rw [sp_0 h0 hpre.1.2.2.1]) <;> first | rfl | (exfalso; omega) | (rw [show max ((x.natAbs : Int) - sd) 0 = 0 by omega]; simp; done) | (rw [show max ((x.natAbs : Int) - sd) 0 = 0 by omega]; simp; omega) | (simp only [show (if (0 : Int) > (x.natAbs : Int) - sd then (0 : Int) else (x.natAbs : Int) - sd) = 0 by omega, show (if (x.natAbs : Int) - sd < (0 : Int) then (0 : Int) else (x.natAbs : Int) - sd) = 0 by omega, Int.mul_zero]; simp [IntKind.wrap_i64]; done) | (simp only [show (if (0 : Int) > (x.natAbs : Int) - sd then (0 : Int) else (x.natAbs : Int) - sd) = 0 by omega, show (if (x.natAbs : Int) - sd < (0 : Int) then (0 : Int) else (x.natAbs : Int) - sd) = 0 by omega, Int.mul_zero]; simp [IntKind.wrap_i64]; omega)
        · have h1 := spB_p hz
          rw [h1] at hb hg
          unfold sp spM
          rw [h1]
          (try simp only [show (if (0 : Int) > (x.natAbs : Int) - sd then (0 : Int) else (x.natAbs : Int) - sd) = (x.natAbs : Int) - sd by omega, show (if (x.natAbs : Int) - sd < (0 : Int) then (0 : Int) else (x.natAbs : Int) - sd) = (x.natAbs : Int) - sd by omega])
          generalize sg * ((x.natAbs : Int) - sd) = p at *
          (try simp (disch := omega) only [wi, Int.tdiv_eq_ediv_of_nonneg])
          first | rfl | (congr 1; done) | (congr 1; omega) | (congr 1; simp (disch := omega) only [wi]; omega)
      exact hv ▸ hp
theorem k_rsupported : ConOk Tryz.prog c_rsupported := fun ns hl => by
  have hl0 : ns.length = 4 := hl
  clear hl
  obtain ⟨sd, ns0, rfl, hl1⟩ := len_cons hl0
  obtain ⟨sg, ns1, rfl, hl2⟩ := len_cons hl1
  obtain ⟨sr, ns2, rfl, hl3⟩ := len_cons hl2
  obtain ⟨x, ns3, rfl, hl4⟩ := len_cons hl3
  obtain rfl := len_nil hl4
  exact ⟨rfl, fun h w => rsupported_any sd sg sr x h w⟩
end Go.Proofs.YthhgmnocigekaaaGreatDoor
end
section
set_option linter.all false
set_option maxRecDepth 1000000
open Go.RowKit
namespace Go.Proofs.YthhgmnocigekaaaGreatDoor
open Mini
noncomputable def lsgX : Code := loopOf Tryz.prog 4
noncomputable def lsgK : CallS := kAll [c_rsupported]
def lsgL (sd sg sr x u1 u2 a7 a8 a11 a12 a13 : Int) (n c : Nat) (g : Nat → Nat → Int) : List MObj := [rowI 1 n g 0 true 0 true, .cells [.int .i64 sd, .int .i64 sg, .int .i64 sr] 46 false 0 false, .cells [] 3 false 0 false, rowI 1 n g 3 true 1 false, .cells [.int .i64 sd, .int .i64 sg, .int .i64 sr] 48 false 0 false, .cells [.int .i64 u1, .int .i64 u2] 28 false 0 false, .rows n 1 (fillG mpsZ (mpsW sd sg sr g) n) 3 false 0 false, .cells [.int .i64 x] 3 false 0 false]
def lsgW (sd sg sr x u1 u2 a7 a8 a11 a12 a13 : Int) (g : Nat → Nat → Int) (i : Nat) : List Value := [.int .i64 (sp sd sg sr (g i 0))]
def lsgO (sd sg sr x u1 u2 a7 a8 a11 a12 a13 : Int) (g : Nat → Nat → Int) (i : Nat) : MObj := .rows i 1 (fillG [] (lsgW sd sg sr x u1 u2 a7 a8 a11 a12 a13 g) i) 3 true 1 false
def lsgA0 (sd sg sr x u1 u2 a7 a8 a11 a12 a13 : Int) (n c : Nat) : MA := MA.ofL 97 [.chan none, .chan none, .slice (some ⟨4, 0, none⟩) n c, .pointer (some ⟨5, 0, none⟩), .chan none, .chan none, .chan none, .int .i64 a7, .int .i64 a8, .slice (some ⟨10, 0, none⟩) n n, .int .i64 0, .int .i64 a11, .int .i64 a12, .int .i64 a13, .slice none 0 0, .int .i64 ((0 : Nat) : Int), .chan none, .chan none, .chan none, .chan none, .chan none, .chan none, .chan none, .chan none, .chan none, .chan none, .chan none, .chan none, .chan none, .chan none, .chan none, .chan none, .chan none, .chan none, .chan none, .chan none, .chan none, .chan none, .chan none, .chan none, .chan none, .chan none, .chan none, .chan none, .chan none, .chan none, .chan none, .chan none, .chan none, .chan none, .chan none, .chan none, .chan none, .chan none, .chan none, .chan none, .chan none, .chan none, .chan none, .chan none, .chan none, .chan none, .chan none, .chan none, .chan none, .chan none, .chan none, .chan none, .chan none, .chan none, .chan none, .chan none, .chan none, .chan none, .chan none, .chan none, .chan none, .chan none, .chan none, .chan none, .chan none, .chan none, .chan none, .chan none, .chan none, .chan none, .chan none, .chan none, .chan none, .chan none, .chan none, .chan none, .chan none, .chan none, .chan none, .chan none, .chan none] []
def lsgA1 (sd sg sr x u1 u2 a7 a8 a11 a12 a13 : Int) (n c : Nat) (i : Nat) : MA := MA.ofL 97 [.chan none, .chan none, .slice (some ⟨4, 0, none⟩) n c, .pointer (some ⟨5, 0, none⟩), .chan none, .chan none, .chan none, .int .i64 a7, .int .i64 a8, .slice (some ⟨10, 0, none⟩) n n, .int .i64 0, .int .i64 a11, .int .i64 a12, .int .i64 a13, .slice (some ⟨12, 0, none⟩) (i + 1) (i + 1), .int .i64 ((i + 1 : Nat) : Int), .chan none, .chan none, .chan none, .chan none, .chan none, .chan none, .chan none, .chan none, .chan none, .chan none, .chan none, .chan none, .chan none, .chan none, .chan none, .chan none, .chan none, .chan none, .chan none, .chan none, .chan none, .chan none, .chan none, .chan none, .chan none, .chan none, .chan none, .chan none, .chan none, .chan none, .chan none, .chan none, .chan none, .chan none, .chan none, .chan none, .chan none, .chan none, .chan none, .chan none, .chan none, .chan none, .chan none, .chan none, .chan none, .chan none, .chan none, .chan none, .chan none, .chan none, .chan none, .chan none, .chan none, .chan none, .chan none, .chan none, .chan none, .chan none, .chan none, .chan none, .chan none, .chan none, .chan none, .chan none, .chan none, .chan none, .chan none, .chan none, .chan none, .chan none, .chan none, .chan none, .chan none, .chan none, .chan none, .chan none, .chan none, .chan none, .chan none, .chan none, .chan none] []
def lsgE0 (sd sg sr x u1 u2 a7 a8 a11 a12 a13 : Int) (n c : Nat) : MA := MA.ofL 97 [.chan none, .chan none, .chan none, .pointer (some ⟨5, 0, none⟩), .chan none, .chan none, .chan none, .int .i64 a7, .int .i64 a8, .slice (some ⟨10, 0, none⟩) n n, .int .i64 0, .int .i64 a11, .int .i64 a12, .int .i64 a13, .slice none 0 0, .chan none, .chan none, .chan none, .chan none, .chan none, .chan none, .chan none, .chan none, .chan none, .chan none, .chan none, .chan none, .chan none, .chan none, .chan none, .chan none, .chan none, .chan none, .chan none, .chan none, .chan none, .chan none, .chan none, .chan none, .chan none, .chan none, .chan none, .chan none, .chan none, .chan none, .chan none, .chan none, .chan none, .chan none, .chan none, .chan none, .chan none, .chan none, .chan none, .chan none, .chan none, .chan none, .chan none, .chan none, .chan none, .chan none, .chan none, .chan none, .chan none, .chan none, .chan none, .chan none, .chan none, .chan none, .chan none, .chan none, .chan none, .chan none, .chan none, .chan none, .chan none, .chan none, .chan none, .chan none, .chan none, .chan none, .chan none, .chan none, .chan none, .chan none, .chan none, .chan none, .chan none, .chan none, .chan none, .chan none, .chan none, .chan none, .chan none, .chan none, .chan none, .chan none] []
def lsgE1 (sd sg sr x u1 u2 a7 a8 a11 a12 a13 : Int) (n c : Nat) (i : Nat) : MA := MA.ofL 97 [.chan none, .chan none, .chan none, .pointer (some ⟨5, 0, none⟩), .chan none, .chan none, .chan none, .int .i64 a7, .int .i64 a8, .slice (some ⟨10, 0, none⟩) n n, .int .i64 0, .int .i64 a11, .int .i64 a12, .int .i64 a13, .slice (some ⟨12, 0, none⟩) (i + 1) (i + 1), .chan none, .chan none, .chan none, .chan none, .chan none, .chan none, .chan none, .chan none, .chan none, .chan none, .chan none, .chan none, .chan none, .chan none, .chan none, .chan none, .chan none, .chan none, .chan none, .chan none, .chan none, .chan none, .chan none, .chan none, .chan none, .chan none, .chan none, .chan none, .chan none, .chan none, .chan none, .chan none, .chan none, .chan none, .chan none, .chan none, .chan none, .chan none, .chan none, .chan none, .chan none, .chan none, .chan none, .chan none, .chan none, .chan none, .chan none, .chan none, .chan none, .chan none, .chan none, .chan none, .chan none, .chan none, .chan none, .chan none, .chan none, .chan none, .chan none, .chan none, .chan none, .chan none, .chan none, .chan none, .chan none, .chan none, .chan none, .chan none, .chan none, .chan none, .chan none, .chan none, .chan none, .chan none, .chan none, .chan none, .chan none, .chan none, .chan none, .chan none, .chan none, .chan none] []
noncomputable def lsgR0 (sd sg sr x u1 u2 a7 a8 a11 a12 a13 : Int) (n c : Nat) (g : Nat → Nat → Int) : Option OutCS := evCRS Tryz.prog lsgK 1000 none false lsgX (lsgA0 sd sg sr x u1 u2 a7 a8 a11 a12 a13 n c) (wS 4 (lsgL sd sg sr x u1 u2 a7 a8 a11 a12 a13 n c g)) ⟨[1, 1, 1, 1, 1, 1, .row 0 0, .row 0 0, .azz (.int .i64 (sp sd sg sr (g 0 0))), .azz (.slice (some ⟨13, 0, none⟩) 1 1), .azz (.int .i64 ((0 + 1 : Nat) : Int))], True⟩
noncomputable def lsgR1 (sd sg sr x u1 u2 a7 a8 a11 a12 a13 : Int) (n c : Nat) (g : Nat → Nat → Int) (i : Nat) : Option OutCS := evCRS Tryz.prog lsgK 1000 none false lsgX (lsgA1 sd sg sr x u1 u2 a7 a8 a11 a12 a13 n c i) (wS 4 (lsgL sd sg sr x u1 u2 a7 a8 a11 a12 a13 n c g ++ [lsgO sd sg sr x u1 u2 a7 a8 a11 a12 a13 g (i + 1)])) ⟨[1, 1, 1, 1, 1, 1, .row (i + 1) 0, .row (i + 1) 0, .row 0 0, .azz (.int .i64 ((i + 1 + 1 : Nat) : Int))], True⟩
noncomputable def lsgN0 (sd sg sr x u1 u2 a7 a8 a11 a12 a13 : Int) (n c : Nat) (g : Nat → Nat → Int) : Option OutCS := evCRS Tryz.prog lsgK 1000 none false lsgX (lsgA0 sd sg sr x u1 u2 a7 a8 a11 a12 a13 n c) (wS 4 (lsgL sd sg sr x u1 u2 a7 a8 a11 a12 a13 n c g)) ⟨[1, 1, 1, 1, 1, 0], True⟩
noncomputable def lsgN1 (sd sg sr x u1 u2 a7 a8 a11 a12 a13 : Int) (n c : Nat) (g : Nat → Nat → Int) (i : Nat) : Option OutCS := evCRS Tryz.prog lsgK 1000 none false lsgX (lsgA1 sd sg sr x u1 u2 a7 a8 a11 a12 a13 n c i) (wS 4 (lsgL sd sg sr x u1 u2 a7 a8 a11 a12 a13 n c g ++ [lsgO sd sg sr x u1 u2 a7 a8 a11 a12 a13 g (i + 1)])) ⟨[1, 1, 1, 1, 1, 0], True⟩
theorem lsgK_ok : FOkS Tryz.prog lsgK := kAll_ok _ ⟨k_rsupported, trivial⟩
def lsgA (sd sg sr x u1 u2 a7 a8 a11 a12 a13 : Int) (n c : Nat) : Nat → MA
  | 0 => lsgA0 sd sg sr x u1 u2 a7 a8 a11 a12 a13 n c
  | i + 1 => lsgA1 sd sg sr x u1 u2 a7 a8 a11 a12 a13 n c i
def lsgE (sd sg sr x u1 u2 a7 a8 a11 a12 a13 : Int) (n c : Nat) : Nat → MA
  | 0 => lsgE0 sd sg sr x u1 u2 a7 a8 a11 a12 a13 n c
  | i + 1 => lsgE1 sd sg sr x u1 u2 a7 a8 a11 a12 a13 n c i
section
variable (sd sg sr x u1 u2 a7 a8 a11 a12 a13 : Int) (n c : Nat) (g : Nat → Nat → Int) (i : Nat)
theorem lsgR0_eq : seenG0 12 13 65420 (lsgR0 sd sg sr x u1 u2 a7 a8 a11 a12 a13 n c g) = some (.normal, lsgA1 sd sg sr x u1 u2 a7 a8 a11 a12 a13 n c 0, .cells (lsgW sd sg sr x u1 u2 a7 a8 a11 a12 a13 g 0) 3 true 1 false, 4144, 0, ⟨[], ((((((((((((True ∧ ((a12 == (0 : Int)) = true)) ∧ ((a12 == (0 : Int)) = true)) ∧ ((a12 == (0 : Int)) = true)) ∧ ((a12 == (0 : Int)) = true)) ∧ ((a12 == (0 : Int)) = true)) ∧ ((decide ((((0 : Nat)) : Int) < (((n : Nat)) : Int))) = true)) ∧ (((((0 : Nat)) : Int) = (Int.ofNat (0 : Nat))) ∧ ((0 : Nat) < n))) ∧ ((0 = 0) ∧ ((0 : Nat) < n))) ∧ ((spIn sd sg sr) ∧ (devIn (g 0 0)))) ∧ (((.int .i64 (sp sd sg sr (g 0 0))) : Value) = (.int .i64 (sp sd sg sr (g 0 0))))) ∧ (((.slice (some ⟨13, 0, none⟩) 1 1) : Value) = (.slice (some ⟨13, 0, none⟩) (1 : Nat) (1 : Nat)))) ∧ (((.int .i64 (IntKind.i64.wrap ((((0 : Nat)) : Int) + (1 : Int)))) : Value) = (.int .i64 (((1 : Nat)) : Int))))⟩) := by kernel_rfl
theorem lsgR1_eq : seenG 12 14 65420 (lsgR1 sd sg sr x u1 u2 a7 a8 a11 a12 a13 n c g i) = some (.normal, lsgA1 sd sg sr x u1 u2 a7 a8 a11 a12 a13 n c (i + 1), .rows (i + 1 + 1) 1 (pushRow (i + 1) 1 (fillG [] (lsgW sd sg sr x u1 u2 a7 a8 a11 a12 a13 g) (i + 1)) (lsgW sd sg sr x u1 u2 a7 a8 a11 a12 a13 g (i + 1))) 3 true 1 false, .hole, 8240, 4096, ⟨[], (((((((((((True ∧ ((a12 == (0 : Int)) = true)) ∧ ((a12 == (0 : Int)) = true)) ∧ ((a12 == (0 : Int)) = true)) ∧ ((a12 == (0 : Int)) = true)) ∧ ((a12 == (0 : Int)) = true)) ∧ ((decide (((((i + 1) : Nat)) : Int) < (((n : Nat)) : Int))) = true)) ∧ ((((((i + 1) : Nat)) : Int) = (Int.ofNat (i + 1))) ∧ ((i + 1) < n))) ∧ (((0 + ((i + 1) * 1)) = (((i + 1) * 1) + 0)) ∧ ((i + 1) < n))) ∧ ((spIn sd sg sr) ∧ (devIn (g (i + 1) 0)))) ∧ (((i + 1) = (i + 1)) ∧ (((i + 1) = (i + 1)) ∧ ((((i + 1) + 1) * 8) ≤ (140737488355328 : Nat))))) ∧ (((.int .i64 (IntKind.i64.wrap (((((i + 1) : Nat)) : Int) + (1 : Int)))) : Value) = (.int .i64 (((((i + 1) + 1) : Nat)) : Int))))⟩) := by kernel_rfl
theorem lsgN0_eq : seenH 12 0 32648 (lsgN0 sd sg sr x u1 u2 a7 a8 a11 a12 a13 n c g) = some (.exit 0, lsgE0 sd sg sr x u1 u2 a7 a8 a11 a12 a13 n c, 0, 0, ⟨[], ((((((True ∧ ((a12 == (0 : Int)) = true)) ∧ ((a12 == (0 : Int)) = true)) ∧ ((a12 == (0 : Int)) = true)) ∧ ((a12 == (0 : Int)) = true)) ∧ ((a12 == (0 : Int)) = true)) ∧ ((decide ((((0 : Nat)) : Int) < (((n : Nat)) : Int))) = false))⟩) := by kernel_rfl
theorem lsgN1_eq : seenH 12 12 32648 (lsgN1 sd sg sr x u1 u2 a7 a8 a11 a12 a13 n c g i) = some (.exit 0, lsgE1 sd sg sr x u1 u2 a7 a8 a11 a12 a13 n c i, 0, 0, ⟨[], ((((((True ∧ ((a12 == (0 : Int)) = true)) ∧ ((a12 == (0 : Int)) = true)) ∧ ((a12 == (0 : Int)) = true)) ∧ ((a12 == (0 : Int)) = true)) ∧ ((a12 == (0 : Int)) = true)) ∧ ((decide (((((i + 1) : Nat)) : Int) < (((n : Nat)) : Int))) = false))⟩) := by kernel_rfl
theorem lsgA_ok : okA 12 12 (lsgA0 sd sg sr x u1 u2 a7 a8 a11 a12 a13 n c) 97 = true := by kernel_rfl
end
theorem lsgO_keep (B : Nat) (sd sg sr x u1 u2 a7 a8 a11 a12 a13 : Int) (g : Nat → Nat → Int) (i : Nat) : keepO (below B) (lsgO sd sg sr x u1 u2 a7 a8 a11 a12 a13 g i) := fill_keep rfl (fun a => rfl)
theorem lsgL_keep (sd sg sr x u1 u2 a7 a8 a11 a12 a13 : Int) (n c : Nat) (g : Nat → Nat → Int) : ∀ o, o ∈ (lsgL sd sg sr x u1 u2 a7 a8 a11 a12 a13 n c g) → keepO (below 12) o := fun o ho => by
  simp only [lsgL, List.mem_cons, List.not_mem_nil, or_false] at ho
  rcases ho with rfl | rfl | rfl | rfl | rfl | rfl | rfl | rfl
  all_goals first | rfl | exact rowI_keep _ _ _ _ _ _ _ | exact fill_keep rfl (fun a => rfl)
section
variable (sd sg sr x u1 u2 a7 a8 a11 a12 a13 : Int) (n c : Nat) (g : Nat → Nat → Int)
theorem lsg_grow (hx : a12 = 0 ∧ spIn sd sg sr ∧ ∀ i, i < n → devIn (g i 0)) (hn : n ≤ 1048576) {i : Nat} (hi : i < n) : Grow Tryz.prog 4 (lsgL sd sg sr x u1 u2 a7 a8 a11 a12 a13 n c g) lsgX (lsgO sd sg sr x u1 u2 a7 a8 a11 a12 a13 g) (lsgA sd sg sr x u1 u2 a7 a8 a11 a12 a13 n c) 4080 i := by
  cases i with
  | zero =>
    refine grow_way0 (r := 13) (m := 65420) (l := (lsgL sd sg sr x u1 u2 a7 a8 a11 a12 a13 n c g)) smx lsgK_ok rfl rfl (List.append_nil _).symm (lsgR0_eq sd sg sr x u1 u2 a7 a8 a11 a12 a13 n c g) ?_ (by show 12 ≤ 13; decide) (fun f => ?_) (by exact (by decide : ∀ b, b < 12 → Nat.testBit 0 b = false ∧ (Nat.testBit 4144 b = true → Nat.testBit 4080 b = true)))
    · repeat' (first | (with_reducible assumption) | exact hx.2.1 | exact hx.2.2 _ (by assumption) | exact beq_iff_eq.2 hx.1 | apply And.intro)
      all_goals first | trivial | rfl | assumption | exact hx.2.1 | exact hx.2.2 _ (by assumption) | exact beq_iff_eq.2 hx.1 | exact decide_eq_true (by omega) | exact decide_eq_false (by omega) | exact bne_iff_ne.2 (by assumption) | exact bne_eq_false_iff_eq.2 (by assumption) | exact beq_iff_eq.2 (by assumption) | exact beq_eq_false_iff_ne.2 (by assumption) | exact wnextV (by assumption) (by omega) | omega
    · exact wo_rows (congrArg (fun l => MObj.cells l _ _ _ _) (show lsgW sd sg sr x u1 u2 a7 a8 a11 a12 a13 g 0 = rowsL 1 1 (fillG [] (lsgW sd sg sr x u1 u2 a7 a8 a11 a12 a13 g) 1) from rfl)) (fun i j hi hj => by
        have : i = 0 := by omega
        subst this
        match j, hj with
        | 0, _ => rfl)
  | succ i =>
    have h := lsgR1_eq sd sg sr x u1 u2 a7 a8 a11 a12 a13 n c g i
    rw [fill_push (w := lsgW sd sg sr x u1 u2 a7 a8 a11 a12 a13 g) (k := 1) (i := i + 1) rfl (by decide)] at h
    refine grow_way (r := 14) (m := 65420) (l := (lsgL sd sg sr x u1 u2 a7 a8 a11 a12 a13 n c g)) smx lsgK_ok rfl rfl rfl h ?_ (by show 12 + 1 ≤ 14; decide) (fun f => keep_wo (N := fun _ => false) (fun b hb => by cases hb) (fill_keep rfl (fun a => rfl))) (by exact (by decide : ∀ b, b < 12 → Nat.testBit 4096 b = false ∧ (Nat.testBit 8240 b = true → Nat.testBit 4080 b = true))) (fun _ => ⟨by show Nat.testBit 4096 12 = true; decide, rfl⟩)
    repeat' (first | (with_reducible assumption) | exact hx.2.1 | exact hx.2.2 _ (by assumption) | exact beq_iff_eq.2 hx.1 | apply And.intro)
    all_goals first | trivial | rfl | assumption | exact hx.2.1 | exact hx.2.2 _ (by assumption) | exact beq_iff_eq.2 hx.1 | exact decide_eq_true (by omega) | exact decide_eq_false (by omega) | exact bne_iff_ne.2 (by assumption) | exact bne_eq_false_iff_eq.2 (by assumption) | exact beq_iff_eq.2 (by assumption) | exact beq_eq_false_iff_ne.2 (by assumption) | exact wnextV (by assumption) (by omega) | omega
theorem lsg_end (hx : a12 = 0 ∧ spIn sd sg sr ∧ ∀ i, i < n → devIn (g i 0)) (hn : n ≤ 1048576) : Last Tryz.prog 4 (lsgL sd sg sr x u1 u2 a7 a8 a11 a12 a13 n c g) lsgX (lsgO sd sg sr x u1 u2 a7 a8 a11 a12 a13 g) (lsgA sd sg sr x u1 u2 a7 a8 a11 a12 a13 n c) 4080 n (.exit 0) (lsgE sd sg sr x u1 u2 a7 a8 a11 a12 a13 n c n) true := by
  cases n with
  | zero =>
    refine last_way (k := 0) (m := 32648) (l := (lsgL sd sg sr x u1 u2 a7 a8 a11 a12 a13 0 c g)) smx lsgK_ok rfl (List.append_nil _).symm (lsgN0_eq sd sg sr x u1 u2 a7 a8 a11 a12 a13 0 c g) ?_ (by exact (by decide : ∀ b, b < 12 → Nat.testBit 0 b = false ∧ (Nat.testBit 0 b = true → Nat.testBit 4080 b = true))) (fun _ => by simp) (.inl (by show 0 < 12; decide))
    · repeat' (first | (with_reducible assumption) | exact hx.2.1 | exact hx.2.2 _ (by assumption) | exact beq_iff_eq.2 hx.1 | apply And.intro)
      all_goals first | trivial | rfl | assumption | exact hx.2.1 | exact hx.2.2 _ (by assumption) | exact beq_iff_eq.2 hx.1 | exact decide_eq_true (by omega) | exact decide_eq_false (by omega) | exact bne_iff_ne.2 (by assumption) | exact bne_eq_false_iff_eq.2 (by assumption) | exact beq_iff_eq.2 (by assumption) | exact beq_eq_false_iff_ne.2 (by assumption) | exact wnextV (by assumption) (by omega) | omega
  | succ i =>
    refine last_way (k := 12) (m := 32648) (l := (lsgL sd sg sr x u1 u2 a7 a8 a11 a12 a13 (i + 1) c g)) smx lsgK_ok rfl rfl (lsgN1_eq sd sg sr x u1 u2 a7 a8 a11 a12 a13 (i + 1) c g i) ?_ (by exact (by decide : ∀ b, b < 12 → Nat.testBit 0 b = false ∧ (Nat.testBit 0 b = true → Nat.testBit 4080 b = true))) (fun _ => by simp) (.inr ⟨rfl, by omega, rfl⟩)
    · repeat' (first | (with_reducible assumption) | exact hx.2.1 | exact hx.2.2 _ (by assumption) | exact beq_iff_eq.2 hx.1 | apply And.intro)
      all_goals first | trivial | rfl | assumption | exact hx.2.1 | exact hx.2.2 _ (by assumption) | exact beq_iff_eq.2 hx.1 | exact decide_eq_true (by omega) | exact decide_eq_false (by omega) | exact bne_iff_ne.2 (by assumption) | exact bne_eq_false_iff_eq.2 (by assumption) | exact beq_iff_eq.2 (by assumption) | exact beq_eq_false_iff_ne.2 (by assumption) | exact wnextV (by assumption) (by omega) | omega
theorem lsg_loop (hx : a12 = 0 ∧ spIn sd sg sr ∧ ∀ i, i < n → devIn (g i 0)) (hn : n ≤ 1048576) : SndC Tryz.prog none (.loop lsgX) (lsgA0 sd sg sr x u1 u2 a7 a8 a11 a12 a13 n c).act (wS 4 (lsgL sd sg sr x u1 u2 a7 a8 a11 a12 a13 n c g)) (.exit 0) (lsgE sd sg sr x u1 u2 a7 a8 a11 a12 a13 n c n).act (wS 4 ((lsgL sd sg sr x u1 u2 a7 a8 a11 a12 a13 n c g) ++ cur (lsgO sd sg sr x u1 u2 a7 a8 a11 a12 a13 g) n)) 4080 0 := by
  rcases grow_loop (c := lsgX) (l := (lsgL sd sg sr x u1 u2 a7 a8 a11 a12 a13 n c g)) (A := lsgA sd sg sr x u1 u2 a7 a8 a11 a12 a13 n c) (A1 := fun i => lsgA0 sd sg sr x u1 u2 a7 a8 a11 a12 a13 n c) (X := lsgO sd sg sr x u1 u2 a7 a8 a11 a12 a13 g) (good := fun i => True) (e1 := .ret) (fun i => .inl trivial) sng (lsgL_keep sd sg sr x u1 u2 a7 a8 a11 a12 a13 n c g) (fun i hi => ⟨lsgO_keep _ sd sg sr x u1 u2 a7 a8 a11 a12 a13 g i, fun h => (by cases h), rfl⟩) rfl (lsgA_ok sd sg sr x u1 u2 a7 a8 a11 a12 a13 n c) (fun i hi h0 => lsg_grow sd sg sr x u1 u2 a7 a8 a11 a12 a13 n c g hx hn hi) (fun i hi h0 => absurd trivial h0) (lsg_end sd sg sr x u1 u2 a7 a8 a11 a12 a13 n c g hx hn) (by simp) (by simp) with ⟨h1, h2⟩ | ⟨j, hj, h1, h3, h2⟩
  · exact h2
  · exact absurd trivial h3
end
end Go.Proofs.YthhgmnocigekaaaGreatDoor
end
section
set_option linter.all false
set_option maxRecDepth 1000000
set_option maxHeartbeats 2000000
open Go.RowKit
namespace Go.Proofs.YthhgmnocigekaaaGreatDoor
open Mini

def cSupport_val (sd sg sr : Int) : Value := .int .i64 (spE sd sg sr)
theorem cSupport_X : FOkS Tryz.prog x_cSupport := kAll_ok _ ⟨k_range, trivial⟩
theorem cSupport_args (sd sg sr : Int) : (#[.agg #[.int .i64 sd, .int .i64 sg, .int .i64 sr]] : Array Value).toList.all (ground 8) = true := by kernel_rfl
theorem cSupport_g0 : True := by first | rfl | trivial | decide | omega
theorem cSupport_g1 : (true = true) := by first | rfl | trivial | decide | omega
theorem cSupport_g2 : ((0 : Int) = (0 : Int)) := by first | rfl | trivial | decide | omega
def cSupport_c0 (sd sg sr : Int) : Bool := ((Pl.cr sd (0 : Int) (10000 : Int)) != (0 : Int))
theorem cSupport_g5 : ((1 : Int) = (1 : Int)) := by first | rfl | trivial | decide | omega
def cSupport_c1 (sd sg sr : Int) : Bool := ((Pl.cr sg (0 : Int) (1000 : Int)) != (0 : Int))
theorem cSupport_g7 : ((2 : Int) = (2 : Int)) := by first | rfl | trivial | decide | omega
def cSupport_c2 (sd sg sr : Int) : Bool := ((Pl.cr sr (0 : Int) (1000 : Int)) != (0 : Int))
theorem cSupport_g10 : (false = false) := by first | rfl | trivial | decide | omega
def cSupport_w0 (sd sg sr : Int) : Value := .int .i64 (Pl.cr sd (0 : Int) (10000 : Int))
def cSupport_r0 (sd sg sr : Int) : Prop := ((((((True ∧ (True)) ∧ (True)) ∧ (True)) ∧ ((true = true))) ∧ (((0 : Int) = (0 : Int)))) ∧ (cSupport_c0 sd sg sr = true))
theorem cSupport_o0 (sd sg sr : Int) : obOf (cSupport_e0 sd sg sr) = cSupport_r0 sd sg sr := by kernel_rfl
theorem cSupport_v0 (sd sg sr : Int) : resOf (cSupport_e0 sd sg sr) = cSupport_w0 sd sg sr := by kernel_rfl
theorem cSupport_k0 (sd sg sr : Int) : cleanOf Tryz.prog.globals.size (cSupport_e0 sd sg sr) = true := by kernel_rfl
theorem cSupport_q0 (sd sg sr : Int) : cSupport_e0 sd sg sr = evFS Tryz.prog x_cSupport 1000 26 #[.agg #[.int .i64 sd, .int .i64 sg, .int .i64 sr]] (noTabs 4) ⟨[1, 0, 1], True⟩ := by
  delta cSupport_e0
  exact Eq.refl _
theorem cSupport_p0 (sd sg sr : Int) (h : cSupport_r0 sd sg sr) (w : World) : Calls Tryz.prog 26 #[.agg #[.int .i64 sd, .int .i64 sg, .int .i64 sr]] w fun en w' => en = .returned (cSupport_w0 sd sg sr) ∧ Below w.heap.size w w' := by
  have hv := cSupport_v0 sd sg sr
  have hc := cSupport_k0 sd sg sr
  have he := cSupport_q0 sd sg sr
  have ho := cSupport_o0 sd sg sr
  generalize cSupport_e0 sd sg sr = r at *
  exact calls_way he gfol cSupport_X hv rfl (cSupport_args sd sg sr) hc ho h (bl w)
def cSupport_w1 (sd sg sr : Int) : Value := .int .i64 (Pl.cr sr (0 : Int) (1000 : Int))
def cSupport_r1 (sd sg sr : Int) : Prop := ((((((((((((True ∧ (True)) ∧ (True)) ∧ (True)) ∧ ((true = true))) ∧ (((0 : Int) = (0 : Int)))) ∧ (cSupport_c0 sd sg sr = false)) ∧ ((true = true))) ∧ (((1 : Int) = (1 : Int)))) ∧ (cSupport_c1 sd sg sr = false)) ∧ ((true = true))) ∧ (((2 : Int) = (2 : Int)))) ∧ (cSupport_c2 sd sg sr = true))
theorem cSupport_o1 (sd sg sr : Int) : obOf (cSupport_e1 sd sg sr) = cSupport_r1 sd sg sr := by kernel_rfl
theorem cSupport_v1 (sd sg sr : Int) : resOf (cSupport_e1 sd sg sr) = cSupport_w1 sd sg sr := by kernel_rfl
theorem cSupport_k1 (sd sg sr : Int) : cleanOf Tryz.prog.globals.size (cSupport_e1 sd sg sr) = true := by kernel_rfl
theorem cSupport_q1 (sd sg sr : Int) : cSupport_e1 sd sg sr = evFS Tryz.prog x_cSupport 1000 26 #[.agg #[.int .i64 sd, .int .i64 sg, .int .i64 sr]] (noTabs 4) ⟨[1, 0, 0, 1, 1, 0, 1, 2, 1], True⟩ := by
  delta cSupport_e1
  exact Eq.refl _
theorem cSupport_p1 (sd sg sr : Int) (h : cSupport_r1 sd sg sr) (w : World) : Calls Tryz.prog 26 #[.agg #[.int .i64 sd, .int .i64 sg, .int .i64 sr]] w fun en w' => en = .returned (cSupport_w1 sd sg sr) ∧ Below w.heap.size w w' := by
  have hv := cSupport_v1 sd sg sr
  have hc := cSupport_k1 sd sg sr
  have he := cSupport_q1 sd sg sr
  have ho := cSupport_o1 sd sg sr
  generalize cSupport_e1 sd sg sr = r at *
  exact calls_way he gfol cSupport_X hv rfl (cSupport_args sd sg sr) hc ho h (bl w)
def cSupport_w2 (sd sg sr : Int) : Value := .int .i64 (0 : Int)
def cSupport_r2 (sd sg sr : Int) : Prop := (((((((((((((True ∧ (True)) ∧ (True)) ∧ (True)) ∧ ((true = true))) ∧ (((0 : Int) = (0 : Int)))) ∧ (cSupport_c0 sd sg sr = false)) ∧ ((true = true))) ∧ (((1 : Int) = (1 : Int)))) ∧ (cSupport_c1 sd sg sr = false)) ∧ ((true = true))) ∧ (((2 : Int) = (2 : Int)))) ∧ (cSupport_c2 sd sg sr = false)) ∧ ((false = false)))
theorem cSupport_o2 (sd sg sr : Int) : obOf (cSupport_e2 sd sg sr) = cSupport_r2 sd sg sr := by kernel_rfl
theorem cSupport_v2 (sd sg sr : Int) : resOf (cSupport_e2 sd sg sr) = cSupport_w2 sd sg sr := by kernel_rfl
theorem cSupport_k2 (sd sg sr : Int) : cleanOf Tryz.prog.globals.size (cSupport_e2 sd sg sr) = true := by kernel_rfl
theorem cSupport_q2 (sd sg sr : Int) : cSupport_e2 sd sg sr = evFS Tryz.prog x_cSupport 1000 26 #[.agg #[.int .i64 sd, .int .i64 sg, .int .i64 sr]] (noTabs 4) ⟨[1, 0, 0, 1, 1, 0, 1, 2, 0, 0], True⟩ := by
  delta cSupport_e2
  exact Eq.refl _
theorem cSupport_p2 (sd sg sr : Int) (h : cSupport_r2 sd sg sr) (w : World) : Calls Tryz.prog 26 #[.agg #[.int .i64 sd, .int .i64 sg, .int .i64 sr]] w fun en w' => en = .returned (cSupport_w2 sd sg sr) ∧ Below w.heap.size w w' := by
  have hv := cSupport_v2 sd sg sr
  have hc := cSupport_k2 sd sg sr
  have he := cSupport_q2 sd sg sr
  have ho := cSupport_o2 sd sg sr
  generalize cSupport_e2 sd sg sr = r at *
  exact calls_way he gfol cSupport_X hv rfl (cSupport_args sd sg sr) hc ho h (bl w)
def cSupport_w3 (sd sg sr : Int) : Value := .int .i64 (Pl.cr sg (0 : Int) (1000 : Int))
def cSupport_r3 (sd sg sr : Int) : Prop := (((((((((True ∧ (True)) ∧ (True)) ∧ (True)) ∧ ((true = true))) ∧ (((0 : Int) = (0 : Int)))) ∧ (cSupport_c0 sd sg sr = false)) ∧ ((true = true))) ∧ (((1 : Int) = (1 : Int)))) ∧ (cSupport_c1 sd sg sr = true))
theorem cSupport_o3 (sd sg sr : Int) : obOf (cSupport_e3 sd sg sr) = cSupport_r3 sd sg sr := by kernel_rfl
theorem cSupport_v3 (sd sg sr : Int) : resOf (cSupport_e3 sd sg sr) = cSupport_w3 sd sg sr := by kernel_rfl
theorem cSupport_k3 (sd sg sr : Int) : cleanOf Tryz.prog.globals.size (cSupport_e3 sd sg sr) = true := by kernel_rfl
theorem cSupport_q3 (sd sg sr : Int) : cSupport_e3 sd sg sr = evFS Tryz.prog x_cSupport 1000 26 #[.agg #[.int .i64 sd, .int .i64 sg, .int .i64 sr]] (noTabs 4) ⟨[1, 0, 0, 1, 1, 1], True⟩ := by
  delta cSupport_e3
  exact Eq.refl _
theorem cSupport_p3 (sd sg sr : Int) (h : cSupport_r3 sd sg sr) (w : World) : Calls Tryz.prog 26 #[.agg #[.int .i64 sd, .int .i64 sg, .int .i64 sr]] w fun en w' => en = .returned (cSupport_w3 sd sg sr) ∧ Below w.heap.size w w' := by
  have hv := cSupport_v3 sd sg sr
  have hc := cSupport_k3 sd sg sr
  have he := cSupport_q3 sd sg sr
  have ho := cSupport_o3 sd sg sr
  generalize cSupport_e3 sd sg sr = r at *
  exact calls_way he gfol cSupport_X hv rfl (cSupport_args sd sg sr) hc ho h (bl w)
theorem cSupport_any (sd sg sr : Int) (hpre : True) (w : World) : Calls Tryz.prog 26 #[.agg #[.int .i64 sd, .int .i64 sg, .int .i64 sr]] w fun en w' => en = .returned (cSupport_val sd sg sr) ∧ Below w.heap.size w w' := by
  rcases Bool.eq_false_or_eq_true (cSupport_c0 sd sg sr) with h0 | h0
  ·
    unfold cSupport_c0 at h0
    have hp := cSupport_p0 sd sg sr ⟨⟨⟨⟨⟨⟨trivial, cSupport_g0⟩, cSupport_g0⟩, cSupport_g0⟩, cSupport_g1⟩, cSupport_g2⟩, h0⟩ w
    have hv : cSupport_w0 sd sg sr = (cSupport_val sd sg sr) := by
      clear hp
      unfold cSupport_w0 cSupport_val
      first | rfl | ((try simp only [bne_iff_ne, ne_eq, decide_eq_true_eq, decide_eq_false_iff_not, Bool.not_eq_true', Bool.not_eq_false', beq_iff_eq, beq_eq_false_iff_ne, bne_eq_false_iff_eq, Bool.and_eq_true, Bool.not_eq_true, Bool.not_eq_false, Pl.cr, th3, th2, spE, devE] at *); grind)
    exact hv ▸ hp
  ·
    unfold cSupport_c0 at h0
    rcases Bool.eq_false_or_eq_true (cSupport_c1 sd sg sr) with h1 | h1
    ·
      unfold cSupport_c1 at h1
      have hp := cSupport_p3 sd sg sr ⟨⟨⟨⟨⟨⟨⟨⟨⟨trivial, cSupport_g0⟩, cSupport_g0⟩, cSupport_g0⟩, cSupport_g1⟩, cSupport_g2⟩, h0⟩, cSupport_g1⟩, cSupport_g5⟩, h1⟩ w
      have hv : cSupport_w3 sd sg sr = (cSupport_val sd sg sr) := by
        clear hp
        unfold cSupport_w3 cSupport_val
        first | rfl | ((try simp only [bne_iff_ne, ne_eq, decide_eq_true_eq, decide_eq_false_iff_not, Bool.not_eq_true', Bool.not_eq_false', beq_iff_eq, beq_eq_false_iff_ne, bne_eq_false_iff_eq, Bool.and_eq_true, Bool.not_eq_true, Bool.not_eq_false, Pl.cr, th3, th2, spE, devE] at *); grind)
      exact hv ▸ hp
    ·
      unfold cSupport_c1 at h1
      rcases Bool.eq_false_or_eq_true (cSupport_c2 sd sg sr) with h2 | h2
      ·
        unfold cSupport_c2 at h2
        have hp := cSupport_p1 sd sg sr ⟨⟨⟨⟨⟨⟨⟨⟨⟨⟨⟨⟨trivial, cSupport_g0⟩, cSupport_g0⟩, cSupport_g0⟩, cSupport_g1⟩, cSupport_g2⟩, h0⟩, cSupport_g1⟩, cSupport_g5⟩, h1⟩, cSupport_g1⟩, cSupport_g7⟩, h2⟩ w
        have hv : cSupport_w1 sd sg sr = (cSupport_val sd sg sr) := by
          clear hp
          unfold cSupport_w1 cSupport_val
          first | rfl | ((try simp only [bne_iff_ne, ne_eq, decide_eq_true_eq, decide_eq_false_iff_not, Bool.not_eq_true', Bool.not_eq_false', beq_iff_eq, beq_eq_false_iff_ne, bne_eq_false_iff_eq, Bool.and_eq_true, Bool.not_eq_true, Bool.not_eq_false, Pl.cr, th3, th2, spE, devE] at *); grind)
        exact hv ▸ hp
      ·
        unfold cSupport_c2 at h2
        have hp := cSupport_p2 sd sg sr ⟨⟨⟨⟨⟨⟨⟨⟨⟨⟨⟨⟨⟨trivial, cSupport_g0⟩, cSupport_g0⟩, cSupport_g0⟩, cSupport_g1⟩, cSupport_g2⟩, h0⟩, cSupport_g1⟩, cSupport_g5⟩, h1⟩, cSupport_g1⟩, cSupport_g7⟩, h2⟩, cSupport_g10⟩ w
        have hv : cSupport_w2 sd sg sr = (cSupport_val sd sg sr) := by
          clear hp
          unfold cSupport_w2 cSupport_val
          first | rfl | ((try simp only [bne_iff_ne, ne_eq, decide_eq_true_eq, decide_eq_false_iff_not, Bool.not_eq_true', Bool.not_eq_false', beq_iff_eq, beq_eq_false_iff_ne, bne_eq_false_iff_eq, Bool.and_eq_true, Bool.not_eq_true, Bool.not_eq_false, Pl.cr, th3, th2, spE, devE] at *); grind)
        exact hv ▸ hp
theorem k_cSupport : ConOk Tryz.prog c_cSupport := fun ns hl => by
  have hl0 : ns.length = 3 := hl
  clear hl
  obtain ⟨sd, ns0, rfl, hl1⟩ := len_cons hl0
  obtain ⟨sg, ns1, rfl, hl2⟩ := len_cons hl1
  obtain ⟨sr, ns2, rfl, hl3⟩ := len_cons hl2
  obtain rfl := len_nil hl3
  exact ⟨rfl, fun h w => cSupport_any sd sg sr h w⟩
end Go.Proofs.YthhgmnocigekaaaGreatDoor
end
section
set_option linter.all false
set_option maxRecDepth 1000000
set_option maxHeartbeats 2000000
open Go.RowKit
namespace Go.Proofs.YthhgmnocigekaaaGreatDoor
open Mini

def supported_val (sd sg sr x : Int) : Value := .tuple #[.int .i64 (if th2 (spE sd sg sr) (devE x) = 0 then sp sd sg sr x else 0), .int .i64 (th2 (spE sd sg sr) (devE x))]
theorem supported_X : FOkS Tryz.prog x_supported := kAll_ok _ ⟨k_cSupport, k_cDev, k_added, trivial⟩
theorem supported_args (sd sg sr x : Int) : (#[.agg #[.int .i64 sd, .int .i64 sg, .int .i64 sr], .int .i64 x] : Array Value).toList.all (ground 8) = true := by kernel_rfl
theorem supported_g0 : True := by first | rfl | trivial | decide | omega
theorem supported_g1 : (true = true) := by first | rfl | trivial | decide | omega
theorem supported_g2 : ((0 : Int) = (0 : Int)) := by first | rfl | trivial | decide | omega
def supported_c0 (sd sg sr x : Int) : Bool := ((spE sd sg sr) != (0 : Int))
theorem supported_g5 : ((1 : Int) = (1 : Int)) := by first | rfl | trivial | decide | omega
def supported_c1 (sd sg sr x : Int) : Bool := ((devE x) != (0 : Int))
theorem supported_g7 : (false = false) := by first | rfl | trivial | decide | omega
def supported_b8 (sd sg sr x : Int) : Prop := ((spIn sd sg sr) ∧ (devIn x))
def supported_w0 (sd sg sr x : Int) : Value := .tuple #[.int .i64 (0 : Int), .int .i64 (spE sd sg sr)]
def supported_r0 (sd sg sr x : Int) : Prop := ((((((True ∧ (True)) ∧ (True)) ∧ ((true = true))) ∧ (((0 : Int) = (0 : Int)))) ∧ (supported_c0 sd sg sr x = true)) ∧ (supported_c0 sd sg sr x = true))
theorem supported_o0 (sd sg sr x : Int) : obOf (supported_e0 sd sg sr x) = supported_r0 sd sg sr x := by kernel_rfl
theorem supported_v0 (sd sg sr x : Int) : resOf (supported_e0 sd sg sr x) = supported_w0 sd sg sr x := by kernel_rfl
theorem supported_k0 (sd sg sr x : Int) : cleanOf Tryz.prog.globals.size (supported_e0 sd sg sr x) = true := by kernel_rfl
theorem supported_q0 (sd sg sr x : Int) : supported_e0 sd sg sr x = evFS Tryz.prog x_supported 1000 22 #[.agg #[.int .i64 sd, .int .i64 sg, .int .i64 sr], .int .i64 x] (noTabs 4) ⟨[1, 0, 1, 1], True⟩ := by
  delta supported_e0
  exact Eq.refl _
theorem supported_p0 (sd sg sr x : Int) (h : supported_r0 sd sg sr x) (w : World) : Calls Tryz.prog 22 #[.agg #[.int .i64 sd, .int .i64 sg, .int .i64 sr], .int .i64 x] w fun en w' => en = .returned (supported_w0 sd sg sr x) ∧ Below w.heap.size w w' := by
  have hv := supported_v0 sd sg sr x
  have hc := supported_k0 sd sg sr x
  have he := supported_q0 sd sg sr x
  have ho := supported_o0 sd sg sr x
  generalize supported_e0 sd sg sr x = r at *
  exact calls_way he gfol supported_X hv rfl (supported_args sd sg sr x) hc ho h (bl w)
def supported_w1 (sd sg sr x : Int) : Value := .tuple #[.int .i64 (sp sd sg sr x), .int .i64 (0 : Int)]
def supported_r1 (sd sg sr x : Int) : Prop := (((((((((((True ∧ (True)) ∧ (True)) ∧ ((true = true))) ∧ (((0 : Int) = (0 : Int)))) ∧ (supported_c0 sd sg sr x = false)) ∧ ((true = true))) ∧ (((1 : Int) = (1 : Int)))) ∧ (supported_c1 sd sg sr x = false)) ∧ ((false = false))) ∧ ((false = false))) ∧ (supported_b8 sd sg sr x))
theorem supported_o1 (sd sg sr x : Int) : obOf (supported_e1 sd sg sr x) = supported_r1 sd sg sr x := by kernel_rfl
theorem supported_v1 (sd sg sr x : Int) : resOf (supported_e1 sd sg sr x) = supported_w1 sd sg sr x := by kernel_rfl
theorem supported_k1 (sd sg sr x : Int) : cleanOf Tryz.prog.globals.size (supported_e1 sd sg sr x) = true := by kernel_rfl
theorem supported_q1 (sd sg sr x : Int) : supported_e1 sd sg sr x = evFS Tryz.prog x_supported 1000 22 #[.agg #[.int .i64 sd, .int .i64 sg, .int .i64 sr], .int .i64 x] (noTabs 4) ⟨[1, 0, 0, 1, 1, 0, 0, 0], True⟩ := by
  delta supported_e1
  exact Eq.refl _
theorem supported_p1 (sd sg sr x : Int) (h : supported_r1 sd sg sr x) (w : World) : Calls Tryz.prog 22 #[.agg #[.int .i64 sd, .int .i64 sg, .int .i64 sr], .int .i64 x] w fun en w' => en = .returned (supported_w1 sd sg sr x) ∧ Below w.heap.size w w' := by
  have hv := supported_v1 sd sg sr x
  have hc := supported_k1 sd sg sr x
  have he := supported_q1 sd sg sr x
  have ho := supported_o1 sd sg sr x
  generalize supported_e1 sd sg sr x = r at *
  exact calls_way he gfol supported_X hv rfl (supported_args sd sg sr x) hc ho h (bl w)
def supported_w2 (sd sg sr x : Int) : Value := .tuple #[.int .i64 (0 : Int), .int .i64 (devE x)]
def supported_r2 (sd sg sr x : Int) : Prop := (((((((((True ∧ (True)) ∧ (True)) ∧ ((true = true))) ∧ (((0 : Int) = (0 : Int)))) ∧ (supported_c0 sd sg sr x = false)) ∧ ((true = true))) ∧ (((1 : Int) = (1 : Int)))) ∧ (supported_c1 sd sg sr x = true)) ∧ (supported_c1 sd sg sr x = true))
theorem supported_o2 (sd sg sr x : Int) : obOf (supported_e2 sd sg sr x) = supported_r2 sd sg sr x := by kernel_rfl
theorem supported_v2 (sd sg sr x : Int) : resOf (supported_e2 sd sg sr x) = supported_w2 sd sg sr x := by kernel_rfl
theorem supported_k2 (sd sg sr x : Int) : cleanOf Tryz.prog.globals.size (supported_e2 sd sg sr x) = true := by kernel_rfl
theorem supported_q2 (sd sg sr x : Int) : supported_e2 sd sg sr x = evFS Tryz.prog x_supported 1000 22 #[.agg #[.int .i64 sd, .int .i64 sg, .int .i64 sr], .int .i64 x] (noTabs 4) ⟨[1, 0, 0, 1, 1, 1, 1], True⟩ := by
  delta supported_e2
  exact Eq.refl _
theorem supported_p2 (sd sg sr x : Int) (h : supported_r2 sd sg sr x) (w : World) : Calls Tryz.prog 22 #[.agg #[.int .i64 sd, .int .i64 sg, .int .i64 sr], .int .i64 x] w fun en w' => en = .returned (supported_w2 sd sg sr x) ∧ Below w.heap.size w w' := by
  have hv := supported_v2 sd sg sr x
  have hc := supported_k2 sd sg sr x
  have he := supported_q2 sd sg sr x
  have ho := supported_o2 sd sg sr x
  generalize supported_e2 sd sg sr x = r at *
  exact calls_way he gfol supported_X hv rfl (supported_args sd sg sr x) hc ho h (bl w)
theorem supported_any (sd sg sr x : Int) (hpre : True) (w : World) : Calls Tryz.prog 22 #[.agg #[.int .i64 sd, .int .i64 sg, .int .i64 sr], .int .i64 x] w fun en w' => en = .returned (supported_val sd sg sr x) ∧ Below w.heap.size w w' := by
  rcases Bool.eq_false_or_eq_true (supported_c0 sd sg sr x) with h0 | h0
  ·
    unfold supported_c0 at h0
    have hp := supported_p0 sd sg sr x ⟨⟨⟨⟨⟨⟨trivial, supported_g0⟩, supported_g0⟩, supported_g1⟩, supported_g2⟩, h0⟩, h0⟩ w
    have hv : supported_w0 sd sg sr x = (supported_val sd sg sr x) := by
      clear hp
      unfold supported_w0 supported_val
      first | rfl | ((try simp only [bne_iff_ne, ne_eq, decide_eq_true_eq, decide_eq_false_iff_not, Bool.not_eq_true', Bool.not_eq_false', beq_iff_eq, beq_eq_false_iff_ne, bne_eq_false_iff_eq, Bool.and_eq_true, Bool.not_eq_true, Bool.not_eq_false, th2] at *); grind)
    exact hv ▸ hp
  ·
    unfold supported_c0 at h0
    rcases Bool.eq_false_or_eq_true (supported_c1 sd sg sr x) with h1 | h1
    ·
      unfold supported_c1 at h1
      have hp := supported_p2 sd sg sr x ⟨⟨⟨⟨⟨⟨⟨⟨⟨trivial, supported_g0⟩, supported_g0⟩, supported_g1⟩, supported_g2⟩, h0⟩, supported_g1⟩, supported_g5⟩, h1⟩, h1⟩ w
      have hv : supported_w2 sd sg sr x = (supported_val sd sg sr x) := by
        clear hp
        unfold supported_w2 supported_val
        first | rfl | ((try simp only [bne_iff_ne, ne_eq, decide_eq_true_eq, decide_eq_false_iff_not, Bool.not_eq_true', Bool.not_eq_false', beq_iff_eq, beq_eq_false_iff_ne, bne_eq_false_iff_eq, Bool.and_eq_true, Bool.not_eq_true, Bool.not_eq_false, th2] at *); grind)
      exact hv ▸ hp
    ·
      unfold supported_c1 at h1
      have h2 : (supported_b8 sd sg sr x) := by
        unfold supported_b8
        first | rfl | trivial | (simp only [bne_eq_false_iff_eq, bne_iff_ne, ne_eq, beq_iff_eq, beq_eq_false_iff_ne] at *; first | exact ⟨spE_in (by assumption), devE_in (by assumption)⟩ | exact spE_in (by assumption) | exact devE_in (by assumption))
      unfold supported_b8 at h2
      have hp := supported_p1 sd sg sr x ⟨⟨⟨⟨⟨⟨⟨⟨⟨⟨⟨trivial, supported_g0⟩, supported_g0⟩, supported_g1⟩, supported_g2⟩, h0⟩, supported_g1⟩, supported_g5⟩, h1⟩, supported_g7⟩, supported_g7⟩, h2⟩ w
      have hv : supported_w1 sd sg sr x = (supported_val sd sg sr x) := by
        clear hp
        unfold supported_w1 supported_val
        first | rfl | ((try simp only [bne_iff_ne, ne_eq, decide_eq_true_eq, decide_eq_false_iff_not, Bool.not_eq_true', Bool.not_eq_false', beq_iff_eq, beq_eq_false_iff_ne, bne_eq_false_iff_eq, Bool.and_eq_true, Bool.not_eq_true, Bool.not_eq_false, th2] at *); grind)
      exact hv ▸ hp
theorem k_supported : ConOk Tryz.prog c_supported := fun ns hl => by
  have hl0 : ns.length = 4 := hl
  clear hl
  obtain ⟨sd, ns0, rfl, hl1⟩ := len_cons hl0
  obtain ⟨sg, ns1, rfl, hl2⟩ := len_cons hl1
  obtain ⟨sr, ns2, rfl, hl3⟩ := len_cons hl2
  obtain ⟨x, ns3, rfl, hl4⟩ := len_cons hl3
  obtain rfl := len_nil hl4
  exact ⟨rfl, fun h w => supported_any sd sg sr x h w⟩
end Go.Proofs.YthhgmnocigekaaaGreatDoor
end
section
set_option linter.all false
set_option maxRecDepth 1000000
open Go.RowKit
namespace Go.Proofs.YthhgmnocigekaaaGreatDoor
open Mini

theorem wiN (x : Int) (h : -9223372036854775808 ≤ x ∧ x ≤ 9223372036854775807) : IntKind.i64.wrap x = x := IntWalk.i64_in _ (by omega)
def bIn (m x : Int) : Prop := -m ≤ x ∧ x ≤ m
theorem bMul {m k x y : Int} (hm : 0 ≤ m) (hk : 0 ≤ k) (h1 : bIn m x) (h2 : bIn k y) : bIn (m * k) (x * y) := mul_bd2 m k x y hm hk h1.1 h1.2 h2.1 h2.2
def lwD (num den : Int) : Int := if den < 0 then -(Int.gcd num den : Int) else Int.gcd num den
theorem gcd_in {a b m : Int} (hb : b ≠ 0) (h : bIn m b) : 0 < (Int.gcd a b : Int) ∧ (Int.gcd a b : Int) ≤ m := by
  have h1 : 0 < Int.gcd a b := Nat.pos_of_ne_zero fun e => hb (Int.gcd_eq_zero_iff.1 e).2
  have h2 : Int.gcd a b ≤ b.natAbs := Nat.le_of_dvd (by omega) (Int.gcd_dvd_natAbs_right a b)
  unfold bIn at h
  omega
theorem tdiv_in {a b m : Int} (h : bIn m a) : bIn m (a.tdiv b) := by
  have h1 : (a.tdiv b).natAbs ≤ a.natAbs := by rw [Int.natAbs_tdiv]; exact Nat.div_le_self _ _
  unfold bIn at *
  omega

def c_divisor : Con := ⟨121, [.int .i64, .int .i64], fun ns => match ns with | [a, b] => .int .i64 (Int.gcd a b) | _ => .bool true, fun ns => match ns with | [a, b] => (Int.gcd a b : Int) ≤ 9223372036854775807 | _ => True⟩
def c_lowest : Con := ⟨104, [.int .i64, .int .i64], fun ns => match ns with | [num, den] => .agg #[.int .i64 (Int.tdiv num (lwD num den)), .int .i64 (Int.tdiv den (lwD num den))] | _ => .bool true, fun ns => match ns with | [num, den] => den ≠ 0 ∧ bIn 4611686018427387904 num ∧ bIn 4611686018427387904 den | _ => True⟩
def c_through : Con := ⟨103, [.agg [.i64, .i64], .agg [.i64, .i64]], fun ns => match ns with | [pv, pp, qv, qp] => .agg #[.int .i64 (qp - pp), .int .i64 ((qv - pv) * pp - (qp - pp) * pv), .int .i64 (qv - pv)] | _ => .bool true, fun ns => match ns with | [pv, pp, qv, qp] => bIn 1048576 pv ∧ bIn 1048576 pp ∧ bIn 1048576 qv ∧ bIn 1048576 qp | _ => True⟩
def c_plus : Con := ⟨123, [.agg [.i64, .i64, .i64], .agg [.i64, .i64, .i64]], fun ns => match ns with | [s1, s2, s3, o1, o2, o3] => .agg #[.int .i64 (s1 * o3 + o1 * s3), .int .i64 (s2 * o3 + o2 * s3), .int .i64 (s3 * o3)] | _ => .bool true, fun ns => match ns with | [s1, s2, s3, o1, o2, o3] => bIn 1073741824 s1 ∧ bIn 1073741824 s2 ∧ bIn 1073741824 s3 ∧ bIn 1073741824 o1 ∧ bIn 1073741824 o2 ∧ bIn 1073741824 o3 | _ => True⟩
def c_voltageOf : Con := ⟨108, [.agg [.i64, .i64, .i64], .int .i64], fun ns => match ns with | [s1, s2, s3, power] => .agg #[.int .i64 (Int.tdiv (power * s3 - s2) (lwD (power * s3 - s2) s1)), .int .i64 (Int.tdiv s1 (lwD (power * s3 - s2) s1))] | _ => .bool true, fun ns => match ns with | [s1, s2, s3, power] => s1 ≠ 0 ∧ bIn 17592186044416 s1 ∧ bIn 17592186044416 s2 ∧ bIn 1073741824 s3 ∧ bIn 1048576 power | _ => True⟩
noncomputable def x_divisor : CallS := kAll []
noncomputable def divisor_e0 (a b : Int) : Option OutS := evFS Tryz.prog x_divisor 1000 121 #[.int .i64 a, .int .i64 b] (noTabs 4) ⟨[1, 1, 0], True⟩
noncomputable def x_lowest : CallS := kAll [c_divisor]
noncomputable def lowest_e0 (num den : Int) : Option OutS := evFS Tryz.prog x_lowest 1000 104 #[.int .i64 num, .int .i64 den] (noTabs 4) ⟨[0], True⟩
noncomputable def lowest_e1 (num den : Int) : Option OutS := evFS Tryz.prog x_lowest 1000 104 #[.int .i64 num, .int .i64 den] (noTabs 4) ⟨[1], True⟩
noncomputable def x_through : CallS := kAll []
noncomputable def through_e0 (pv pp qv qp : Int) : Option OutS := evFS Tryz.prog x_through 1000 103 #[.agg #[.int .i64 pv, .int .i64 pp], .agg #[.int .i64 qv, .int .i64 qp]] (noTabs 4) ⟨[], True⟩
noncomputable def x_plus : CallS := kAll []
noncomputable def plus_e0 (s1 s2 s3 o1 o2 o3 : Int) : Option OutS := evFS Tryz.prog x_plus 1000 123 #[.agg #[.int .i64 s1, .int .i64 s2, .int .i64 s3], .agg #[.int .i64 o1, .int .i64 o2, .int .i64 o3]] (noTabs 4) ⟨[], True⟩
noncomputable def x_voltageOf : CallS := kAll [c_lowest]
noncomputable def voltageOf_e0 (s1 s2 s3 power : Int) : Option OutS := evFS Tryz.prog x_voltageOf 1000 108 #[.agg #[.int .i64 s1, .int .i64 s2, .int .i64 s3], .int .i64 power] (noTabs 4) ⟨[], True⟩
end Go.Proofs.YthhgmnocigekaaaGreatDoor
end
section
set_option linter.all false
set_option maxRecDepth 1000000
open Go.RowKit
namespace Go.Proofs.YthhgmnocigekaaaGreatDoor
open Mini
noncomputable def dvX : Code := loopOf Tryz.prog 121
noncomputable def dvS : St := noTabs Tryz.prog.globals.size
theorem dvm : Tryz.prog.follows .mixedOrders = true := by kernel_rfl
def dvA (a b : Int) : MA := MA.ofL 13 [.int .i64 a, .int .i64 b, .chan none, .chan none, .int .i64 0, .chan none, .chan none, .chan none, .chan none, .chan none, .chan none, .chan none, .chan none] []
def getA (r : Option OutCS) : MA := match r with
  | some (_, a, _) => a
  | none => ⟨0, .leaf, []⟩
noncomputable def dvR (rd : Option Nat) (a b : Int) : Option OutCS := evCRS Tryz.prog noXS 1000 rd false dvX (dvA a b) dvS ⟨[1], True⟩
theorem dvR_eq (rd : Option Nat) (a b : Int) : dvR rd a b = some (.normal, getA (dvR rd a b), dvS, 0, 0, ⟨[], (True ∧ (a != 0) = true) ∧ (a == 0) = false⟩) := by kernel_rfl
theorem dvR_n (rd : Option Nat) (a b : Int) : (getA (dvR rd a b)).n = 13 := by kernel_rfl
theorem dvR_d (rd : Option Nat) (a b : Int) : (getA (dvR rd a b)).defers = [] := by kernel_rfl
theorem dvR_l (rd : Option Nat) (a b : Int) : lessL (getA (dvR rd a b)) (dvA (b.tmod a) a) 13 = (((((((((((((True ∧ Value.int .i64 (b.tmod a) = .int .i64 (b.tmod a)) ∧ Value.int .i64 a = .int .i64 a) ∧ True) ∧ True) ∧ Value.int .i64 0 = .int .i64 0) ∧ True) ∧ True) ∧ True) ∧ True) ∧ True) ∧ True) ∧ True) ∧ True) := by kernel_rfl
theorem dv_round (rd : Option Nat) (a b : Int) (ha : a ≠ 0) : SndC Tryz.prog rd dvX (dvA a b).act dvS .normal (dvA (b.tmod a) a).act dvS 0 0 := by
  have h := (evCRS_ok dvm noXS_ok 1000 rd false dvX (dvA a b) dvS ⟨[1], True⟩ _ (show evCRS _ _ _ _ _ _ _ _ _ = _ from dvR_eq rd a b)).2 (by simpa using ha)
  exact Snd.leave h (less_of (dvR_n rd a b).symm (dvR_d rd a b).symm (by rw [dvR_n, dvR_l]; simp))
noncomputable def dvE (rd : Option Nat) (b : Int) : Option OutCS := evCRS Tryz.prog noXS 1000 rd false dvX (dvA 0 b) dvS ⟨[0], True⟩
theorem dvE_eq (rd : Option Nat) (b : Int) : dvE rd b = some (.exit 0, getA (dvE rd b), dvS, 0, 0, ⟨[], True ∧ ((0 : Int) != 0) = false⟩) := by kernel_rfl
theorem dvE_n (rd : Option Nat) (b : Int) : (getA (dvE rd b)).n = 13 := by kernel_rfl
theorem dvE_d (rd : Option Nat) (b : Int) : (getA (dvE rd b)).defers = [] := by kernel_rfl
theorem dvE_l (rd : Option Nat) (b : Int) : lessL (getA (dvE rd b)) (dvA 0 b) 13 = (((((((((((((True ∧ Value.int .i64 0 = .int .i64 0) ∧ Value.int .i64 b = .int .i64 b) ∧ True) ∧ True) ∧ Value.int .i64 0 = .int .i64 0) ∧ True) ∧ True) ∧ True) ∧ True) ∧ True) ∧ True) ∧ True) ∧ True) := by kernel_rfl
theorem dv_end (rd : Option Nat) (b : Int) : SndC Tryz.prog rd dvX (dvA 0 b).act dvS (.exit 0) (dvA 0 b).act dvS 0 0 := by
  have h := (evCRS_ok dvm noXS_ok 1000 rd false dvX (dvA 0 b) dvS ⟨[0], True⟩ _ (show evCRS _ _ _ _ _ _ _ _ _ = _ from dvE_eq rd b)).2 (by simp)
  exact Snd.leave h (less_of (dvE_n rd b).symm (dvE_d rd b).symm (by rw [dvE_n, dvE_l]; simp))
theorem dv_loop : ∀ (n : Nat) (a b : Int), a.natAbs ≤ n → ∃ g : Int, g.natAbs = Int.gcd a b ∧ ∀ rd, Snd Tryz.prog rd (LoopFrom Tryz.prog dvX) (dvA a b).act dvS (.exit 0) (dvA 0 g).act dvS 0 0
  | 0, a, b, hn => by
    have : a = 0 := by omega
    subst this
    exact ⟨b, by simp, fun rd => snd_from_stop (by simp) (dv_end rd b)⟩
  | n + 1, a, b, hn => by
    by_cases ha : a = 0
    · subst ha
      exact ⟨b, by simp, fun rd => snd_from_stop (by simp) (dv_end rd b)⟩
    · have hlt : (b.tmod a).natAbs < a.natAbs := by
        rw [Int.natAbs_tmod]
        exact Nat.mod_lt _ (by omega)
      obtain ⟨g, h1, h2⟩ := dv_loop n (b.tmod a) a (by omega)
      refine ⟨g, ?_, ?_⟩
      · rw [h1]
        show Nat.gcd (b.tmod a).natAbs a.natAbs = Nat.gcd a.natAbs b.natAbs
        rw [Int.natAbs_tmod, ← Nat.gcd_rec]
      · intro rd
        have := snd_from_on (dv_round rd a b ha) (h2 rd)
        rwa [Nat.or_self] at this

noncomputable def dvF (a b g : Int) : Option OutS := evFS Tryz.prog noXS 1000 121 #[.int .i64 a, .int .i64 b] dvS ⟨[.out (.exit 0) (dvA 0 g) dvS 0 0], True⟩
noncomputable def dv0 (a b : Int) : MA := (startM Tryz.f121 #[.int .i64 a, .int .i64 b]).put (some 4) (.int .i64 0)
theorem dvF_v (a b g : Int) : resOf (dvF a b g) = .int .i64 (if (IntKind.i64.wrap ((0 : Int) - g)) > g then IntKind.i64.wrap ((0 : Int) - g) else g) := by kernel_rfl
theorem dvF_o (a b g : Int) : obOf (dvF a b g) = (True ∧ SndC Tryz.prog none (.loop dvX) (dv0 a b).act dvS (.exit 0) (dvA 0 g).act dvS 0 0) := by kernel_rfl
theorem dvF_c (a b g : Int) : cleanOf Tryz.prog.globals.size (dvF a b g) = true := by kernel_rfl
theorem dv0_n (a b : Int) : (dv0 a b).n = 13 := by kernel_rfl
theorem dv0_d (a b : Int) : (dv0 a b).defers = [] := by kernel_rfl
theorem dv0_l (a b : Int) : lessL (dv0 a b) (dvA a b) 13 = (((((((((((((True ∧ Value.int .i64 a = .int .i64 a) ∧ Value.int .i64 b = .int .i64 b) ∧ True) ∧ True) ∧ Value.int .i64 0 = .int .i64 0) ∧ True) ∧ True) ∧ True) ∧ True) ∧ True) ∧ True) ∧ True) ∧ True) := by kernel_rfl
theorem dv_calls (a b : Int) (h : (Int.gcd a b : Int) ≤ 9223372036854775807) (w : World) : Calls Tryz.prog 121 #[.int .i64 a, .int .i64 b] w fun e w' => e = .returned (.int .i64 (Int.gcd a b)) ∧ Below w.heap.size w w' := by
  obtain ⟨g, hg, hl⟩ := dv_loop a.natAbs a b (Nat.le_refl _)
  have hall : ∀ rd, SndC Tryz.prog rd (.loop dvX) (dv0 a b).act dvS (.exit 0) (dvA 0 g).act dvS 0 0 := fun rd =>
    Snd.enter (sndC_loop (hl rd)) (less_of (dv0_n a b).symm (dv0_d a b).symm (by rw [dv0_n, dv0_l]; simp))
  have hv : (if (IntKind.i64.wrap ((0 : Int) - g)) > g then IntKind.i64.wrap ((0 : Int) - g) else g) = Int.gcd a b := by
    have hb : (g.natAbs : Int) ≤ 9223372036854775807 := by rw [hg]; exact h
    rw [IntWalk.i64_in (0 - g) (by omega), ← hg]
    split <;> omega
  have hp := calls_way (v := .int .i64 (if (IntKind.i64.wrap ((0 : Int) - g)) > g then IntKind.i64.wrap ((0 : Int) - g) else g)) (r := dvF a b g) (by delta dvF; exact Eq.refl _) dvm noXS_ok (dvF_v a b g) rfl (by kernel_rfl) (dvF_c a b g) (dvF_o a b g) ⟨trivial, hall none⟩ (noTabs_holds w)
  rw [hv] at hp
  exact hp
end Go.Proofs.YthhgmnocigekaaaGreatDoor
end
section
set_option linter.all false
set_option maxRecDepth 1000000
open Go.RowKit
namespace Go.Proofs.YthhgmnocigekaaaGreatDoor
open Mini
theorem divisor_any (a b : Int) (hpre : (Int.gcd a b : Int) ≤ 9223372036854775807) (w : World) : Calls Tryz.prog 121 #[.int .i64 a, .int .i64 b] w fun en w' => en = .returned (.int .i64 (Int.gcd a b)) ∧ Below w.heap.size w w' := dv_calls a b hpre w
theorem k_divisor : ConOk Tryz.prog c_divisor := fun ns hl => by
  have hl0 : ns.length = 2 := hl
  clear hl
  obtain ⟨a, ns0, rfl, hl1⟩ := len_cons hl0
  obtain ⟨b, ns1, rfl, hl2⟩ := len_cons hl1
  obtain rfl := len_nil hl2
  exact ⟨rfl, fun h w => divisor_any a b h w⟩
end Go.Proofs.YthhgmnocigekaaaGreatDoor
end
section
set_option linter.all false
set_option maxRecDepth 1000000
set_option maxHeartbeats 2000000
open Go.RowKit
namespace Go.Proofs.YthhgmnocigekaaaGreatDoor
open Mini

def lowest_val (num den : Int) : Value := .agg #[.int .i64 (Int.tdiv num (lwD num den)), .int .i64 (Int.tdiv den (lwD num den))]
theorem lowest_X : FOkS Tryz.prog x_lowest := kAll_ok _ ⟨k_divisor, trivial⟩
theorem lowest_args (num den : Int) : (#[.int .i64 num, .int .i64 den] : Array Value).toList.all (ground 8) = true := by kernel_rfl
def lowest_b0 (num den : Int) : Prop := (Int.NonNeg ((9223372036854775807 : Int) - (((Int.gcd num den) : Nat) : Int)))
def lowest_c0 (num den : Int) : Bool := (decide (den < (0 : Int)))
def lowest_c1 (num den : Int) : Bool := ((((Int.gcd num den) : Nat) : Int) == (0 : Int))
def lowest_c2 (num den : Int) : Bool := ((IntKind.i64.wrap ((0 : Int) - (((Int.gcd num den) : Nat) : Int))) == (0 : Int))
def lowest_w0 (num den : Int) : Value := .agg #[.int .i64 (IntKind.i64.wrap (Int.tdiv num (((Int.gcd num den) : Nat) : Int))), .int .i64 (IntKind.i64.wrap (Int.tdiv den (((Int.gcd num den) : Nat) : Int)))]
def lowest_r0 (num den : Int) : Prop := ((((True ∧ (lowest_b0 num den)) ∧ (lowest_c0 num den = false)) ∧ (lowest_c1 num den = false)) ∧ (lowest_c1 num den = false))
theorem lowest_o0 (num den : Int) : obOf (lowest_e0 num den) = lowest_r0 num den := by kernel_rfl
theorem lowest_v0 (num den : Int) : resOf (lowest_e0 num den) = lowest_w0 num den := by kernel_rfl
theorem lowest_k0 (num den : Int) : cleanOf Tryz.prog.globals.size (lowest_e0 num den) = true := by kernel_rfl
theorem lowest_q0 (num den : Int) : lowest_e0 num den = evFS Tryz.prog x_lowest 1000 104 #[.int .i64 num, .int .i64 den] (noTabs 4) ⟨[0], True⟩ := by
  delta lowest_e0
  exact Eq.refl _
theorem lowest_p0 (num den : Int) (h : lowest_r0 num den) (w : World) : Calls Tryz.prog 104 #[.int .i64 num, .int .i64 den] w fun en w' => en = .returned (lowest_w0 num den) ∧ Below w.heap.size w w' := by
  have hv := lowest_v0 num den
  have hc := lowest_k0 num den
  have he := lowest_q0 num den
  have ho := lowest_o0 num den
  generalize lowest_e0 num den = r at *
  exact calls_way he gfol lowest_X hv rfl (lowest_args num den) hc ho h (bl w)
def lowest_w1 (num den : Int) : Value := .agg #[.int .i64 (IntKind.i64.wrap (Int.tdiv num (IntKind.i64.wrap ((0 : Int) - (((Int.gcd num den) : Nat) : Int))))), .int .i64 (IntKind.i64.wrap (Int.tdiv den (IntKind.i64.wrap ((0 : Int) - (((Int.gcd num den) : Nat) : Int)))))]
def lowest_r1 (num den : Int) : Prop := ((((True ∧ (lowest_b0 num den)) ∧ (lowest_c0 num den = true)) ∧ (lowest_c2 num den = false)) ∧ (lowest_c2 num den = false))
theorem lowest_o1 (num den : Int) : obOf (lowest_e1 num den) = lowest_r1 num den := by kernel_rfl
theorem lowest_v1 (num den : Int) : resOf (lowest_e1 num den) = lowest_w1 num den := by kernel_rfl
theorem lowest_k1 (num den : Int) : cleanOf Tryz.prog.globals.size (lowest_e1 num den) = true := by kernel_rfl
theorem lowest_q1 (num den : Int) : lowest_e1 num den = evFS Tryz.prog x_lowest 1000 104 #[.int .i64 num, .int .i64 den] (noTabs 4) ⟨[1], True⟩ := by
  delta lowest_e1
  exact Eq.refl _
theorem lowest_p1 (num den : Int) (h : lowest_r1 num den) (w : World) : Calls Tryz.prog 104 #[.int .i64 num, .int .i64 den] w fun en w' => en = .returned (lowest_w1 num den) ∧ Below w.heap.size w w' := by
  have hv := lowest_v1 num den
  have hc := lowest_k1 num den
  have he := lowest_q1 num den
  have ho := lowest_o1 num den
  generalize lowest_e1 num den = r at *
  exact calls_way he gfol lowest_X hv rfl (lowest_args num den) hc ho h (bl w)
theorem lowest_any (num den : Int) (hpre : den ≠ 0 ∧ bIn 4611686018427387904 num ∧ bIn 4611686018427387904 den) (w : World) : Calls Tryz.prog 104 #[.int .i64 num, .int .i64 den] w fun en w' => en = .returned (lowest_val num den) ∧ Below w.heap.size w w' := by
  obtain ⟨p1, p2, p3⟩ := hpre
  have hg := gcd_in (a := num) p1 p3
  have t1 := tdiv_in (b := (Int.gcd num den : Int)) p2
  have t2 := tdiv_in (b := (Int.gcd num den : Int)) p3
  have t3 := tdiv_in (b := -(Int.gcd num den : Int)) p2
  have t4 := tdiv_in (b := -(Int.gcd num den : Int)) p3
  unfold bIn at *
  have h0 : (lowest_b0 num den) := by
    unfold lowest_b0
    first | rfl | trivial | omega | (show (((Int.gcd num den) : Nat) : Int) ≤ 9223372036854775807; omega) | (simp only [decide_eq_true_eq, decide_eq_false_iff_not, beq_eq_false_iff_ne, ne_eq] at *; (try rw [wiN (0 - _) (by omega)]); omega) | (simp only [decide_eq_true_eq, decide_eq_false_iff_not, beq_eq_false_iff_ne, ne_eq] at *; (try simp (disch := omega) only [wiN]); omega)
  unfold lowest_b0 at h0
  rcases Bool.eq_false_or_eq_true (lowest_c0 num den) with h1 | h1
  ·
    unfold lowest_c0 at h1
    have h2 : (lowest_c2 num den = false) := by
      unfold lowest_c2
      first | rfl | trivial | omega | (show (((Int.gcd num den) : Nat) : Int) ≤ 9223372036854775807; omega) | (simp only [decide_eq_true_eq, decide_eq_false_iff_not, beq_eq_false_iff_ne, ne_eq] at *; (try rw [wiN (0 - _) (by omega)]); omega) | (simp only [decide_eq_true_eq, decide_eq_false_iff_not, beq_eq_false_iff_ne, ne_eq] at *; (try simp (disch := omega) only [wiN]); omega)
    unfold lowest_c2 at h2
    have hp := lowest_p1 num den ⟨⟨⟨⟨trivial, h0⟩, h1⟩, h2⟩, h2⟩ w
    have hv : lowest_w1 num den = (lowest_val num den) := by
      clear hp
      unfold lowest_w1 lowest_val
      unfold lwD
      simp only [decide_eq_true_eq, decide_eq_false_iff_not] at *
      first | rw [if_pos (by assumption)] | rw [if_neg (by assumption)]
      (try simp (disch := omega) only [wiN, Int.zero_sub]); (try rfl)
    exact hv ▸ hp
  ·
    unfold lowest_c0 at h1
    have h3 : (lowest_c1 num den = false) := by
      unfold lowest_c1
      first | rfl | trivial | omega | (show (((Int.gcd num den) : Nat) : Int) ≤ 9223372036854775807; omega) | (simp only [decide_eq_true_eq, decide_eq_false_iff_not, beq_eq_false_iff_ne, ne_eq] at *; (try rw [wiN (0 - _) (by omega)]); omega) | (simp only [decide_eq_true_eq, decide_eq_false_iff_not, beq_eq_false_iff_ne, ne_eq] at *; (try simp (disch := omega) only [wiN]); omega)
    unfold lowest_c1 at h3
    have hp := lowest_p0 num den ⟨⟨⟨⟨trivial, h0⟩, h1⟩, h3⟩, h3⟩ w
    have hv : lowest_w0 num den = (lowest_val num den) := by
      clear hp
      unfold lowest_w0 lowest_val
      unfold lwD
      simp only [decide_eq_true_eq, decide_eq_false_iff_not] at *
      first | rw [if_pos (by assumption)] | rw [if_neg (by assumption)]
      (try simp (disch := omega) only [wiN, Int.zero_sub]); (try rfl)
    exact hv ▸ hp
theorem k_lowest : ConOk Tryz.prog c_lowest := fun ns hl => by
  have hl0 : ns.length = 2 := hl
  clear hl
  obtain ⟨num, ns0, rfl, hl1⟩ := len_cons hl0
  obtain ⟨den, ns1, rfl, hl2⟩ := len_cons hl1
  obtain rfl := len_nil hl2
  exact ⟨rfl, fun h w => lowest_any num den h w⟩
end Go.Proofs.YthhgmnocigekaaaGreatDoor
end
section
set_option linter.all false
set_option maxRecDepth 1000000
set_option maxHeartbeats 2000000
open Go.RowKit
namespace Go.Proofs.YthhgmnocigekaaaGreatDoor
open Mini

def through_val (pv pp qv qp : Int) : Value := .agg #[.int .i64 (qp - pp), .int .i64 ((qv - pv) * pp - (qp - pp) * pv), .int .i64 (qv - pv)]
theorem through_X : FOkS Tryz.prog x_through := noXS_ok
theorem through_args (pv pp qv qp : Int) : (#[.agg #[.int .i64 pv, .int .i64 pp], .agg #[.int .i64 qv, .int .i64 qp]] : Array Value).toList.all (ground 8) = true := by kernel_rfl
def through_w0 (pv pp qv qp : Int) : Value := .agg #[.int .i64 (IntKind.i64.wrap (qp - pp)), .int .i64 (IntKind.i64.wrap ((IntKind.i64.wrap ((IntKind.i64.wrap (qv - pv)) * pp)) - (IntKind.i64.wrap ((IntKind.i64.wrap (qp - pp)) * pv)))), .int .i64 (IntKind.i64.wrap (qv - pv))]
def through_r0 (pv pp qv qp : Int) : Prop := True
theorem through_o0 (pv pp qv qp : Int) : obOf (through_e0 pv pp qv qp) = through_r0 pv pp qv qp := by kernel_rfl
theorem through_v0 (pv pp qv qp : Int) : resOf (through_e0 pv pp qv qp) = through_w0 pv pp qv qp := by kernel_rfl
theorem through_k0 (pv pp qv qp : Int) : cleanOf Tryz.prog.globals.size (through_e0 pv pp qv qp) = true := by kernel_rfl
theorem through_q0 (pv pp qv qp : Int) : through_e0 pv pp qv qp = evFS Tryz.prog x_through 1000 103 #[.agg #[.int .i64 pv, .int .i64 pp], .agg #[.int .i64 qv, .int .i64 qp]] (noTabs 4) ⟨[], True⟩ := by
  delta through_e0
  exact Eq.refl _
theorem through_p0 (pv pp qv qp : Int) (h : through_r0 pv pp qv qp) (w : World) : Calls Tryz.prog 103 #[.agg #[.int .i64 pv, .int .i64 pp], .agg #[.int .i64 qv, .int .i64 qp]] w fun en w' => en = .returned (through_w0 pv pp qv qp) ∧ Below w.heap.size w w' := by
  have hv := through_v0 pv pp qv qp
  have hc := through_k0 pv pp qv qp
  have he := through_q0 pv pp qv qp
  have ho := through_o0 pv pp qv qp
  generalize through_e0 pv pp qv qp = r at *
  exact calls_way he gfol through_X hv rfl (through_args pv pp qv qp) hc ho h (bl w)
theorem through_any (pv pp qv qp : Int) (hpre : bIn 1048576 pv ∧ bIn 1048576 pp ∧ bIn 1048576 qv ∧ bIn 1048576 qp) (w : World) : Calls Tryz.prog 103 #[.agg #[.int .i64 pv, .int .i64 pp], .agg #[.int .i64 qv, .int .i64 qp]] w fun en w' => en = .returned (through_val pv pp qv qp) ∧ Below w.heap.size w w' := by
  obtain ⟨p1, p2, p3, p4⟩ := hpre
  have m1 := bMul (m := 2097152) (k := 1048576) (x := qv - pv) (y := pp) (by omega) (by omega) (by unfold bIn at *; omega) p2
  have m2 := bMul (m := 2097152) (k := 1048576) (x := qp - pp) (y := pv) (by omega) (by omega) (by unfold bIn at *; omega) p1
  unfold bIn at *
  have hp := through_p0 pv pp qv qp trivial w
  have hv : through_w0 pv pp qv qp = (through_val pv pp qv qp) := by
    clear hp
    unfold through_w0 through_val
    first | rfl | (simp (disch := omega) only [wiN]; done) | (simp (disch := omega) only [wiN]; rfl)
  exact hv ▸ hp
theorem k_through : ConOk Tryz.prog c_through := fun ns hl => by
  have hl0 : ns.length = 4 := hl
  clear hl
  obtain ⟨pv, ns0, rfl, hl1⟩ := len_cons hl0
  obtain ⟨pp, ns1, rfl, hl2⟩ := len_cons hl1
  obtain ⟨qv, ns2, rfl, hl3⟩ := len_cons hl2
  obtain ⟨qp, ns3, rfl, hl4⟩ := len_cons hl3
  obtain rfl := len_nil hl4
  exact ⟨rfl, fun h w => through_any pv pp qv qp h w⟩
end Go.Proofs.YthhgmnocigekaaaGreatDoor
end
section
set_option linter.all false
set_option maxRecDepth 1000000
set_option maxHeartbeats 2000000
open Go.RowKit
namespace Go.Proofs.YthhgmnocigekaaaGreatDoor
open Mini

def plus_val (s1 s2 s3 o1 o2 o3 : Int) : Value := .agg #[.int .i64 (s1 * o3 + o1 * s3), .int .i64 (s2 * o3 + o2 * s3), .int .i64 (s3 * o3)]
theorem plus_X : FOkS Tryz.prog x_plus := noXS_ok
theorem plus_args (s1 s2 s3 o1 o2 o3 : Int) : (#[.agg #[.int .i64 s1, .int .i64 s2, .int .i64 s3], .agg #[.int .i64 o1, .int .i64 o2, .int .i64 o3]] : Array Value).toList.all (ground 8) = true := by kernel_rfl
def plus_w0 (s1 s2 s3 o1 o2 o3 : Int) : Value := .agg #[.int .i64 (IntKind.i64.wrap ((IntKind.i64.wrap (s1 * o3)) + (IntKind.i64.wrap (o1 * s3)))), .int .i64 (IntKind.i64.wrap ((IntKind.i64.wrap (s2 * o3)) + (IntKind.i64.wrap (o2 * s3)))), .int .i64 (IntKind.i64.wrap (s3 * o3))]
def plus_r0 (s1 s2 s3 o1 o2 o3 : Int) : Prop := True
theorem plus_o0 (s1 s2 s3 o1 o2 o3 : Int) : obOf (plus_e0 s1 s2 s3 o1 o2 o3) = plus_r0 s1 s2 s3 o1 o2 o3 := by kernel_rfl
theorem plus_v0 (s1 s2 s3 o1 o2 o3 : Int) : resOf (plus_e0 s1 s2 s3 o1 o2 o3) = plus_w0 s1 s2 s3 o1 o2 o3 := by kernel_rfl
theorem plus_k0 (s1 s2 s3 o1 o2 o3 : Int) : cleanOf Tryz.prog.globals.size (plus_e0 s1 s2 s3 o1 o2 o3) = true := by kernel_rfl
theorem plus_q0 (s1 s2 s3 o1 o2 o3 : Int) : plus_e0 s1 s2 s3 o1 o2 o3 = evFS Tryz.prog x_plus 1000 123 #[.agg #[.int .i64 s1, .int .i64 s2, .int .i64 s3], .agg #[.int .i64 o1, .int .i64 o2, .int .i64 o3]] (noTabs 4) ⟨[], True⟩ := by
  delta plus_e0
  exact Eq.refl _
theorem plus_p0 (s1 s2 s3 o1 o2 o3 : Int) (h : plus_r0 s1 s2 s3 o1 o2 o3) (w : World) : Calls Tryz.prog 123 #[.agg #[.int .i64 s1, .int .i64 s2, .int .i64 s3], .agg #[.int .i64 o1, .int .i64 o2, .int .i64 o3]] w fun en w' => en = .returned (plus_w0 s1 s2 s3 o1 o2 o3) ∧ Below w.heap.size w w' := by
  have hv := plus_v0 s1 s2 s3 o1 o2 o3
  have hc := plus_k0 s1 s2 s3 o1 o2 o3
  have he := plus_q0 s1 s2 s3 o1 o2 o3
  have ho := plus_o0 s1 s2 s3 o1 o2 o3
  generalize plus_e0 s1 s2 s3 o1 o2 o3 = r at *
  exact calls_way he gfol plus_X hv rfl (plus_args s1 s2 s3 o1 o2 o3) hc ho h (bl w)
theorem plus_any (s1 s2 s3 o1 o2 o3 : Int) (hpre : bIn 1073741824 s1 ∧ bIn 1073741824 s2 ∧ bIn 1073741824 s3 ∧ bIn 1073741824 o1 ∧ bIn 1073741824 o2 ∧ bIn 1073741824 o3) (w : World) : Calls Tryz.prog 123 #[.agg #[.int .i64 s1, .int .i64 s2, .int .i64 s3], .agg #[.int .i64 o1, .int .i64 o2, .int .i64 o3]] w fun en w' => en = .returned (plus_val s1 s2 s3 o1 o2 o3) ∧ Below w.heap.size w w' := by
  obtain ⟨p1, p2, p3, q1, q2, q3⟩ := hpre
  have m0 := bMul (m := 1073741824) (k := 1073741824) (x := s1) (y := o3) (by omega) (by omega) p1 q3
  have m1 := bMul (m := 1073741824) (k := 1073741824) (x := o1) (y := s3) (by omega) (by omega) q1 p3
  have m2 := bMul (m := 1073741824) (k := 1073741824) (x := s2) (y := o3) (by omega) (by omega) p2 q3
  have m3 := bMul (m := 1073741824) (k := 1073741824) (x := o2) (y := s3) (by omega) (by omega) q2 p3
  have m4 := bMul (m := 1073741824) (k := 1073741824) (x := s3) (y := o3) (by omega) (by omega) p3 q3
  unfold bIn at *
  have hp := plus_p0 s1 s2 s3 o1 o2 o3 trivial w
  have hv : plus_w0 s1 s2 s3 o1 o2 o3 = (plus_val s1 s2 s3 o1 o2 o3) := by
    clear hp
    unfold plus_w0 plus_val
    first | rfl | (simp (disch := omega) only [wiN]; done) | (simp (disch := omega) only [wiN]; rfl)
  exact hv ▸ hp
theorem k_plus : ConOk Tryz.prog c_plus := fun ns hl => by
  have hl0 : ns.length = 6 := hl
  clear hl
  obtain ⟨s1, ns0, rfl, hl1⟩ := len_cons hl0
  obtain ⟨s2, ns1, rfl, hl2⟩ := len_cons hl1
  obtain ⟨s3, ns2, rfl, hl3⟩ := len_cons hl2
  obtain ⟨o1, ns3, rfl, hl4⟩ := len_cons hl3
  obtain ⟨o2, ns4, rfl, hl5⟩ := len_cons hl4
  obtain ⟨o3, ns5, rfl, hl6⟩ := len_cons hl5
  obtain rfl := len_nil hl6
  exact ⟨rfl, fun h w => plus_any s1 s2 s3 o1 o2 o3 h w⟩
end Go.Proofs.YthhgmnocigekaaaGreatDoor
end
section
set_option linter.all false
set_option maxRecDepth 1000000
set_option maxHeartbeats 2000000
open Go.RowKit
namespace Go.Proofs.YthhgmnocigekaaaGreatDoor
open Mini

def voltageOf_val (s1 s2 s3 power : Int) : Value := .agg #[.int .i64 (Int.tdiv (power * s3 - s2) (lwD (power * s3 - s2) s1)), .int .i64 (Int.tdiv s1 (lwD (power * s3 - s2) s1))]
theorem voltageOf_X : FOkS Tryz.prog x_voltageOf := kAll_ok _ ⟨k_lowest, trivial⟩
theorem voltageOf_args (s1 s2 s3 power : Int) : (#[.agg #[.int .i64 s1, .int .i64 s2, .int .i64 s3], .int .i64 power] : Array Value).toList.all (ground 8) = true := by kernel_rfl
def voltageOf_b0 (s1 s2 s3 power : Int) : Prop := ((s1 ≠ (0 : Int)) ∧ ((bIn (4611686018427387904 : Int) (IntKind.i64.wrap ((IntKind.i64.wrap (power * s3)) - s2))) ∧ (bIn (4611686018427387904 : Int) s1)))
def voltageOf_w0 (s1 s2 s3 power : Int) : Value := .agg #[.int .i64 (Int.tdiv (IntKind.i64.wrap ((IntKind.i64.wrap (power * s3)) - s2)) (lwD (IntKind.i64.wrap ((IntKind.i64.wrap (power * s3)) - s2)) s1)), .int .i64 (Int.tdiv s1 (lwD (IntKind.i64.wrap ((IntKind.i64.wrap (power * s3)) - s2)) s1))]
def voltageOf_r0 (s1 s2 s3 power : Int) : Prop := (True ∧ (voltageOf_b0 s1 s2 s3 power))
theorem voltageOf_o0 (s1 s2 s3 power : Int) : obOf (voltageOf_e0 s1 s2 s3 power) = voltageOf_r0 s1 s2 s3 power := by kernel_rfl
theorem voltageOf_v0 (s1 s2 s3 power : Int) : resOf (voltageOf_e0 s1 s2 s3 power) = voltageOf_w0 s1 s2 s3 power := by kernel_rfl
theorem voltageOf_k0 (s1 s2 s3 power : Int) : cleanOf Tryz.prog.globals.size (voltageOf_e0 s1 s2 s3 power) = true := by kernel_rfl
theorem voltageOf_q0 (s1 s2 s3 power : Int) : voltageOf_e0 s1 s2 s3 power = evFS Tryz.prog x_voltageOf 1000 108 #[.agg #[.int .i64 s1, .int .i64 s2, .int .i64 s3], .int .i64 power] (noTabs 4) ⟨[], True⟩ := by
  delta voltageOf_e0
  exact Eq.refl _
theorem voltageOf_p0 (s1 s2 s3 power : Int) (h : voltageOf_r0 s1 s2 s3 power) (w : World) : Calls Tryz.prog 108 #[.agg #[.int .i64 s1, .int .i64 s2, .int .i64 s3], .int .i64 power] w fun en w' => en = .returned (voltageOf_w0 s1 s2 s3 power) ∧ Below w.heap.size w w' := by
  have hv := voltageOf_v0 s1 s2 s3 power
  have hc := voltageOf_k0 s1 s2 s3 power
  have he := voltageOf_q0 s1 s2 s3 power
  have ho := voltageOf_o0 s1 s2 s3 power
  generalize voltageOf_e0 s1 s2 s3 power = r at *
  exact calls_way he gfol voltageOf_X hv rfl (voltageOf_args s1 s2 s3 power) hc ho h (bl w)
theorem voltageOf_any (s1 s2 s3 power : Int) (hpre : s1 ≠ 0 ∧ bIn 17592186044416 s1 ∧ bIn 17592186044416 s2 ∧ bIn 1073741824 s3 ∧ bIn 1048576 power) (w : World) : Calls Tryz.prog 108 #[.agg #[.int .i64 s1, .int .i64 s2, .int .i64 s3], .int .i64 power] w fun en w' => en = .returned (voltageOf_val s1 s2 s3 power) ∧ Below w.heap.size w w' := by
  obtain ⟨p0, p1, p2, p3, p4⟩ := hpre
  have m1 := bMul (m := 1048576) (k := 1073741824) (x := power) (y := s3) (by omega) (by omega) p4 p3
  have m2 : bIn 4611686018427387904 (power * s3 - s2) := by unfold bIn at *; omega
  have m3 : bIn 4611686018427387904 s1 := by unfold bIn at *; omega
  have w1 : IntKind.i64.wrap (power * s3) = power * s3 := wiN _ (by unfold bIn at *; omega)
  have w2 : IntKind.i64.wrap (power * s3 - s2) = power * s3 - s2 := wiN _ (by unfold bIn at *; omega)
  have h0 : (voltageOf_b0 s1 s2 s3 power) := by
    unfold voltageOf_b0
    first | rfl | trivial | (simp only [w1, w2]; exact ⟨p0, m2, m3⟩)
  unfold voltageOf_b0 at h0
  have hp := voltageOf_p0 s1 s2 s3 power ⟨trivial, h0⟩ w
  have hv : voltageOf_w0 s1 s2 s3 power = (voltageOf_val s1 s2 s3 power) := by
    clear hp
    unfold voltageOf_w0 voltageOf_val
    simp only [w1, w2]
  exact hv ▸ hp
theorem k_voltageOf : ConOk Tryz.prog c_voltageOf := fun ns hl => by
  have hl0 : ns.length = 4 := hl
  clear hl
  obtain ⟨s1, ns0, rfl, hl1⟩ := len_cons hl0
  obtain ⟨s2, ns1, rfl, hl2⟩ := len_cons hl1
  obtain ⟨s3, ns2, rfl, hl3⟩ := len_cons hl2
  obtain ⟨power, ns3, rfl, hl4⟩ := len_cons hl3
  obtain rfl := len_nil hl4
  exact ⟨rfl, fun h w => voltageOf_any s1 s2 s3 power h w⟩
end Go.Proofs.YthhgmnocigekaaaGreatDoor
end
section
set_option linter.all false
set_option maxRecDepth 1000000
namespace Go.Proofs.YthhgmnocigekaaaGreatDoor
open Mini
def inb (m x : Int) : Bool := decide (-m ≤ x) && decide (x ≤ m)
theorem inb_in {m x : Int} (h : inb m x = true) : bIn m x := by
  simp only [inb, Bool.and_eq_true, decide_eq_true_eq] at h
  exact h
theorem nz_of {x : Int} (h : (!(x == 0)) = true) : x ≠ 0 := by simpa using h
def d_lowest : List Int → Bool := fun ns => match ns with
  | [num, den] => !(den == 0) && inb 4611686018427387904 num && inb 4611686018427387904 den
  | _ => false
theorem d_lowest_ok : ∀ ns, d_lowest ns = true → c_lowest.pre ns := fun ns h => by
  unfold d_lowest at h
  split at h
  · simp only [Bool.and_eq_true] at h
    exact ⟨nz_of h.1.1, inb_in h.1.2, inb_in h.2⟩
  · cases h
def d_through : List Int → Bool := fun ns => match ns with
  | [pv, pp, qv, qp] => inb 1048576 pv && inb 1048576 pp && inb 1048576 qv && inb 1048576 qp
  | _ => false
theorem d_through_ok : ∀ ns, d_through ns = true → c_through.pre ns := fun ns h => by
  unfold d_through at h
  split at h
  · simp only [Bool.and_eq_true] at h
    exact ⟨inb_in h.1.1.1, inb_in h.1.1.2, inb_in h.1.2, inb_in h.2⟩
  · cases h
def d_plus : List Int → Bool := fun ns => match ns with
  | [s1, s2, s3, o1, o2, o3] => inb 1073741824 s1 && inb 1073741824 s2 && inb 1073741824 s3 && inb 1073741824 o1 && inb 1073741824 o2 && inb 1073741824 o3
  | _ => false
theorem d_plus_ok : ∀ ns, d_plus ns = true → c_plus.pre ns := fun ns h => by
  unfold d_plus at h
  split at h
  · simp only [Bool.and_eq_true] at h
    exact ⟨inb_in h.1.1.1.1.1, inb_in h.1.1.1.1.2, inb_in h.1.1.1.2, inb_in h.1.1.2, inb_in h.1.2, inb_in h.2⟩
  · cases h
def d_voltageOf : List Int → Bool := fun ns => match ns with
  | [s1, s2, s3, power] => !(s1 == 0) && inb 17592186044416 s1 && inb 17592186044416 s2 && inb 1073741824 s3 && inb 1048576 power
  | _ => false
theorem d_voltageOf_ok : ∀ ns, d_voltageOf ns = true → c_voltageOf.pre ns := fun ns h => by
  unfold d_voltageOf at h
  split at h
  · simp only [Bool.and_eq_true] at h
    exact ⟨nz_of h.1.1.1.1, inb_in h.1.1.1.2, inb_in h.1.1.2, inb_in h.1.2, inb_in h.2⟩
  · cases h
noncomputable def awK : CallF := orX (kOfC (noTabs 4) c_lowest d_lowest) (orX (kOfC (noTabs 4) c_through d_through) (orX (kOfC (noTabs 4) c_plus d_plus) (kOfC (noTabs 4) c_voltageOf d_voltageOf)))
theorem awK_ok : FOk Tryz.prog awK := orX_ok (kOfC_ok (by kernel_rfl) k_lowest.t d_lowest_ok) (orX_ok (kOfC_ok (by kernel_rfl) k_through.t d_through_ok) (orX_ok (kOfC_ok (by kernel_rfl) k_plus.t d_plus_ok) (kOfC_ok (by kernel_rfl) k_voltageOf.t d_voltageOf_ok)))
end Go.Proofs.YthhgmnocigekaaaGreatDoor
end
section
namespace Go.Proofs.YthhgmnocigekaaaGreatDoor
set_option linter.all false
namespace Mini
open Go.ChangeMaps (setBlock)

def upto (N : Nat) : St := ⟨N, .leaf, []⟩
def SndP (P : Program) (rd : Option Nat) (T : Tr) (N R W : Nat) (a : Act) (s : St) (Φ : Exit → Act → St → Prop) : Prop :=
  ∀ (n : Nat) (ro : Option Nat) (ρ : Ren) (C : Nat → MObj) (a' : Act) (w : World) (Q : Exit → Act → World → Prop), Pre P rd s (upto N) R W ro ρ C w → AR ρ a a' →
    (∀ e a1 s1, Φ e a1 s1 → Stat s s1 W → s1.next ≤ N → ∀ ρ1 a1' w1, Post ρ s s1 W w ρ1 w1 → WRel ρ1 (upd C s s1 W) w1 → AR ρ1 a1 a1' → Q e a1' w1) → T (Fw ro) n Q a' w

section
variable {P : Program} {rd : Option Nat} {a a1 : Act} {s s1 : St} {e : Exit} {R W R1 W1 N : Nat}
theorem upd_more {C : Nat → MObj} (hS : Stat s s1 W1) (hag : ∀ b, (R ||| W).testBit b = true → b < s.next → C b = s.get b) (hW : ∀ b, W1.testBit b = true → b < s.next → W.testBit b = true) : upd C s s1 W1 = upd C s s1 W := by
  funext b
  simp only [upd]
  by_cases c : s.next ≤ b ∧ b < s1.next
  · rw [if_pos (.inl c), if_pos (.inl c)]
  · by_cases c1 : W1.testBit b = true ∧ b < s.next
    · rw [if_pos (.inr c1), if_pos (.inr ⟨hW b c1.1 c1.2, c1.2⟩)]
    · rw [if_neg (by rintro (k | k); exact c k; exact c1 k)]
      by_cases c2 : W.testBit b = true ∧ b < s.next
      · rw [if_pos (.inr c2), hag b (by rw [or_bit, c2.1]; simp) c2.2]
        refine (hS.2 b c2.2 ?_).symm
        cases h : W1.testBit b with
        | false => rfl
        | true => exact absurd ⟨h, c2.2⟩ c1
      · rw [if_neg (by rintro (k | k); exact c k; exact c2 k)]
theorem post_more {ρ ρ1 : Ren} {w w1 : World} (hW : ∀ b, W1.testBit b = true → b < s.next → W.testBit b = true) (h : Post ρ s s1 W1 w ρ1 w1) : Post ρ s s1 W w ρ1 w1 :=
  ⟨h.sub, h.dom, fun b L h1 h2 => (h.fresh b L h1 h2).imp id fun ⟨b0, L0, k1, k2, k3⟩ => ⟨b0, L0, hW b0 k1 k2, k2, k3⟩, h.size, fun x hx hf => h.frame x hx fun b L k1 k2 k3 => hf b L (hW b k1 k2) k2 k3, h.os, h.tape, h.output⟩
theorem stat_more (hW : ∀ b, W1.testBit b = true → b < s.next → W.testBit b = true) (h : Stat s s1 W1) : Stat s s1 W :=
  ⟨h.1, fun b hb hw => h.2 b hb (by
    cases k : W1.testBit b with
    | false => rfl
    | true => rw [hW b k hb] at hw; cases hw)⟩
theorem pre_more {ro : Option Nat} {ρ : Ren} {C : Nat → MObj} {w : World} (hN : s1.next ≤ N) (hR : ∀ b, R1.testBit b = true → b < s.next → R.testBit b = true) (hW : ∀ b, W1.testBit b = true → b < s.next → W.testBit b = true)
    (hp : Pre P rd s (upto N) R W ro ρ C w) : Pre P rd s s1 R1 W1 ro ρ C w :=
  ⟨hp.glob, hp.round, fun b hb hlt => hp.agree b (by
    simp only [or_bit, Bool.or_eq_true] at hb ⊢
    exact hb.imp (fun k => hR b k hlt) (fun k => hW b k hlt)) hlt, fun b h1 h2 => hp.free b h1 (Nat.lt_of_lt_of_le h2 hN), hp.rel⟩
theorem SndP.of {T : Tr} {Φ : Exit → Act → St → Prop} (h : Snd P rd T a s e a1 s1 R1 W1) (hN : s1.next ≤ N) (hR : ∀ b, R1.testBit b = true → b < s.next → R.testBit b = true) (hW : ∀ b, W1.testBit b = true → b < s.next → W.testBit b = true) (hΦ : Φ e a1 s1) : SndP P rd T N R W a s Φ := by
  intro n ro ρ C a' w Q hp ha hQ
  refine h.2 n ro ρ C a' w Q (pre_more hN hR hW hp) ha fun ρ1 a1' w1 p1 r1 ha1 => hQ e a1 s1 hΦ (stat_more hW h.1) hN ρ1 a1' w1 (post_more hW p1) ?_ ha1
  rw [← upd_more h.1 hp.agree hW]
  exact r1
theorem pre_on {ro : Option Nat} {ρ ρ1 : Ren} {C : Nat → MObj} {w w1 : World} (hS : Stat s s1 W) (h : Pre P rd s (upto N) R W ro ρ C w) (hp : Post ρ s s1 W w ρ1 w1) (hr : WRel ρ1 (upd C s s1 W) w1) : Pre P rd s1 (upto N) R W ro ρ1 (upd C s s1 W) w1 := by
  have l1 := hS.1
  refine ⟨h.glob.mono hp.sub, h.round.mono hp.sub, fun b hb hlt => ?_, fun b h1 h2 => ?_, hr⟩
  · by_cases c : s.next ≤ b
    · exact if_pos (.inl ⟨c, hlt⟩)
    · by_cases c2 : W.testBit b = true
      · exact if_pos (.inr ⟨c2, by omega⟩)
      · have e1 : upd C s s1 W b = C b := if_neg (by rintro (k | k); omega; exact c2 k.1)
        rw [e1, h.agree b hb (by omega)]
        exact (hS.2 b (by omega) (by simpa using c2)).symm
  · obtain ⟨k1, k2⟩ := h.free b (by omega) h2
    refine ⟨?_, ?_⟩
    · by_cases e : ρ1 b = ρ b
      · rw [e]; exact k1
      · have := hp.dom b e; omega
    · rw [show upd C s s1 W b = C b from if_neg (by rintro (k | k) <;> omega)]; exact k2
theorem stat_and {s2 : St} (h : Stat s s1 W) (g : Stat s1 s2 W) : Stat s s2 W := by
  have := h.trans g
  rwa [Nat.or_self] at this
theorem post_on {ro : Option Nat} {ρ ρ1 ρ2 : Ren} {C : Nat → MObj} {w w1 w2 : World} {s2 : St} (hp : Pre P rd s (upto N) R W ro ρ C w) (h : Stat s s1 W) (hN : s1.next ≤ N) (g : Stat s1 s2 W) (p1 : Post ρ s s1 W w ρ1 w1) (p2 : Post ρ1 s1 s2 W w1 ρ2 w2) : Post ρ s s2 W w ρ2 w2 := by
  have := p1.trans h g (fun b k1 k2 => (hp.free b k1 (Nat.lt_of_lt_of_le k2 hN)).1) p2
  rwa [Nat.or_self] at this
theorem upd_on {C : Nat → MObj} {s2 : St} (h : Stat s s1 W) (g : Stat s1 s2 W) : upd (upd C s s1 W) s1 s2 W = upd C s s2 W := by
  rw [upd_trans C h g, Nat.or_self]
theorem SndP.bind {T1 T2 T : Tr} (hT : ∀ F n Q a w, T1 F n (Exit.then (T2 F n Q) Q) a w → T F n Q a w) {Φ1 Φ : Exit → Act → St → Prop} (h : SndP P rd T1 N R W a s Φ1)
    (g : ∀ e a1 s1, Φ1 e a1 s1 → (e = .normal ∧ SndP P rd T2 N R W a1 s1 Φ) ∨ (e ≠ .normal ∧ Φ e a1 s1)) : SndP P rd T N R W a s Φ := by
  intro n ro ρ C a' w Q hp ha hQ
  refine hT _ _ _ _ _ (h n ro ρ C a' w _ hp ha fun e a1 s1 hΦ hS hN ρ1 a1' w1 p1 r1 ha1 => ?_)
  rcases g e a1 s1 hΦ with ⟨rfl, g⟩ | ⟨he, g⟩
  · show T2 (Fw ro) n Q a1' w1
    refine g n ro ρ1 _ a1' w1 Q (pre_on hS hp p1 r1) ha1 fun e2 a2 s2 hΦ2 hS2 hN2 ρ2 a2' w2 p2 r2 ha2 => ?_
    refine hQ e2 a2 s2 hΦ2 (stat_and hS hS2) hN2 ρ2 a2' w2 (post_on hp hS hN hS2 p1 p2) ?_ ha2
    rwa [upd_on hS hS2] at r2
  · have := hQ e a1 s1 g hS hN ρ1 a1' w1 p1 r1 ha1
    cases e with
    | normal => exact absurd rfl he
    | _ => exact this
theorem sndP_loop {c : Code} {Φ : Exit → Act → St → Prop} (h : SndP P rd (LoopFrom P c) N R W a s Φ) : SndP P rd (TC P (.loop c)) N R W a s Φ :=
  fun n ro ρ C a' w Q hp ha hQ => loop_of_from (h n ro ρ C a' w Q hp ha hQ)
theorem sndP_cond {x y : Code} {c : Operand} {t : Bool} {Φ : Exit → Act → St → Prop} (hx : okOp P c = true) (hc : a.eval c = .bool t) (h : SndP P rd (TC P (if t then x else y)) N R W a s Φ) : SndP P rd (TC P (.cond c x y)) N R W a s Φ := by
  intro n ro ρ C a' w Q hp ha hQ
  have hv := okOp_vr hp.glob ha.tmps hx
  rw [hc] at hv
  have he : a'.eval c = .bool t := by generalize a'.eval c = z at hv; cases hv; rfl
  exact wpIn_cond he (h n ro ρ C a' w Q hp ha hQ)
theorem sndP_block {id : Nat} {c : Code} {Φ : Exit → Act → St → Prop} (h : SndP P rd (TC P c) N R W a s fun e a1 s1 => Φ (outOf id e) a1 s1) : SndP P rd (TC P (.block id c)) N R W a s Φ := by
  intro n ro ρ C a' w Q hp ha hQ
  refine wpIn_block (h n ro ρ C a' w _ hp ha fun e a1 s1 hΦ hS hN ρ1 a1' w1 p1 r1 ha1 => ?_)
  have hq := hQ _ a1 s1 hΦ hS hN ρ1 a1' w1 p1 r1 ha1
  cases e with
  | exit i =>
    simp only [outOf] at hq
    simp only [Exit.inBlock]
    by_cases c : i = id
    · rw [if_pos c] at hq ⊢; exact hq
    · rw [if_neg c] at hq ⊢; exact hq
  | _ => exact hq
theorem sndP_scope {c : Code} {Φ : Exit → Act → St → Prop} (h : SndP P rd (TC P c) N R W a s fun e a1 s1 => isGoto e = false ∧ Φ e a1 s1) : SndP P rd (TC P (.scope c)) N R W a s Φ := by
  intro n ro ρ C a' w Q hp ha hQ
  refine wpIn_scope_straight (h n ro ρ C a' w _ hp ha fun e a1 s1 hΦ hS hN ρ1 a1' w1 p1 r1 ha1 => ?_)
  have hq := hQ e a1 s1 hΦ.2 hS hN ρ1 a1' w1 p1 r1 ha1
  cases e with
  | goto l => simp [isGoto] at hΦ
  | _ => exact hq
def SndOP (P : Program) (rd : Option Nat) (o : Oper) (vals : Operand → Value) (N R W : Nat) (s : St) (Ψ : Value → St → Prop) : Prop :=
  ∀ (n : Nat) (ro : Option Nat) (ρ : Ren) (C : Nat → MObj) (a' : Act) (w : World) (next : Act → World → Prop) (Q : Exit → Act → World → Prop), Pre P rd s (upto N) R W ro ρ C w →
    (∀ x, x ∈ o.op.operands → VR ρ (vals x) (a'.eval x)) →
    (∀ v s1, Ψ v s1 → Stat s s1 W → s1.next ≤ N → ∀ ρ1 v' w1, Post ρ s s1 W w ρ1 w1 → WRel ρ1 (upd C s s1 W) w1 → VR ρ1 v v' → next (a'.put o.dst v') w1) → o.wpIn (Fw ro) n P a' w next Q
theorem SndOP.of {o : Oper} {vals : Operand → Value} {v : Value} {Ψ : Value → St → Prop} (h : SndO P rd o vals s v s1 R1 W1) (hN : s1.next ≤ N) (hR : ∀ b, R1.testBit b = true → b < s.next → R.testBit b = true) (hW : ∀ b, W1.testBit b = true → b < s.next → W.testBit b = true) (hΨ : Ψ v s1) : SndOP P rd o vals N R W s Ψ := by
  intro n ro ρ C a' w next Q hp hv hn
  refine h.2 n ro ρ C a' w next Q (pre_more hN hR hW hp) hv fun ρ1 v' w1 p1 r1 h1 => hn v s1 hΨ (stat_more hW h.1) hN ρ1 v' w1 (post_more hW p1) ?_ h1
  rw [← upd_more h.1 hp.agree hW]
  exact r1
theorem opsP_yes {ops : Array Oper} {i : Nat} {rest : List Nat} {o : Oper} {Ψ : Value → St → Prop} {Φ : Exit → Act → St → Prop} (ho : ops[i]? = some o) (hw : Region.wanted o (yielded ops a.tmps) = true) (hx : okAll P ops o a = true)
    (h : SndOP P rd o a.eval N R W s Ψ) (g : ∀ v s1, Ψ v s1 → SndP P rd (TOps P ops rest) N R W (a.put o.dst v) s1 Φ) : SndP P rd (TOps P ops (i :: rest)) N R W a s Φ := by
  intro n ro ρ C a' w Q hp ha hQ
  show wpOpsIn (Fw ro) n P ops Q (i :: rest) a' w
  simp only [wpOpsIn, ho]
  rw [wanted_eq ha.tmps (okAll_guard hx), if_pos hw]
  have hx := okAll_ops hx
  refine h n ro ρ C a' w _ Q hp (fun x hm => okOp_vr hp.glob ha.tmps (by rw [List.all_eq_true] at hx; exact hx x (by simpa using hm))) fun v s1 hΨ hS hN ρ1 v' w1 p1 r1 hv => ?_
  refine g v s1 hΨ n ro ρ1 _ _ w1 Q (pre_on hS hp p1 r1) ((ha.mono p1.sub).put o.dst hv) fun e2 a2 s2 hΦ2 hS2 hN2 ρ2 a2' w2 p2 r2 ha2 => ?_
  refine hQ e2 a2 s2 hΦ2 (stat_and hS hS2) hN2 ρ2 a2' w2 (post_on hp hS hN hS2 p1 p2) ?_ ha2
  rwa [upd_on hS hS2] at r2
theorem opsP_no {ops : Array Oper} {i : Nat} {rest : List Nat} {o : Oper} {Φ : Exit → Act → St → Prop} (ho : ops[i]? = some o) (hw : Region.wanted o (yielded ops a.tmps) = false) (hx : okAll P ops o a = true)
    (g : SndP P rd (TOps P ops rest) N R W (a.put o.dst undef) s Φ) : SndP P rd (TOps P ops (i :: rest)) N R W a s Φ := by
  intro n ro ρ C a' w Q hp ha hQ
  show wpOpsIn (Fw ro) n P ops Q (i :: rest) a' w
  simp only [wpOpsIn, ho]
  rw [wanted_eq ha.tmps (okAll_guard hx), if_neg (by rw [hw]; simp)]
  exact ⟨fun f _ => Fw_fn ro f, g n ro ρ C _ w Q hp (ha.put o.dst (undef_vr ρ)) hQ⟩
theorem opsP_nil {ops : Array Oper} {Φ : Exit → Act → St → Prop} (hΦ : Φ .normal a s) (hN : s.next ≤ N) : SndP P rd (TOps P ops []) N R W a s Φ :=
  SndP.of snd_ops_nil hN (fun b h => by simp at h) (fun b h => by simp at h) hΦ
theorem regionP {id : Nat} {ops : Array Oper} {Φ : Exit → Act → St → Prop} (h : SndP P rd (TOps P ops (List.range ops.size)) N R W a s Φ) : SndP P rd (TC P (.region id ops false)) N R W a s Φ :=
  fun n ro ρ C a' w Q hp ha hQ => wpIn_region (h n ro ρ C a' w Q hp ha hQ)
end

section
variable {P : Program} {rd : Option Nat} {s s1 : St} {R W N : Nat} {ro : Option Nat} {ρ : Ren} {C : Nat → MObj} {w : World}
theorem miter_of {b m si la : Nat} {sn : List Nat} (hr : WRel ρ C w) (hc : C b = .miter m si sn la) : ∃ L L' sn', ρ b = some L ∧ L.base = 0 ∧ ρ m = some L' ∧ sn'.toList = sn ∧ w.heap[L.blk]? = some (.mapIter (some L'.blk) si sn' la) := by
  obtain ⟨L, o', h1, h2, h3⟩ := hr.1 b (by rw [hc]; simp)
  rw [hc] at h3
  cases o' with
  | mapIter m' si' sn' la' =>
    obtain ⟨rfl, h4, rfl, h5, L', h6, rfl⟩ := h3
    exact ⟨L, L', sn', h1, h5, h6, h4, h2⟩
  | _ => simp [OR] at h3
def evRangeM (P : Program) (t : TypeId) (x : Value) (s : St) : Option Out :=
  match P.underlying t, x with
  | some (.map _ _), .map (some b) => match s.get b with
    | .map _ k => some (.pointer (some ⟨s.next, 0, none⟩), s.push (.miter b k [] k), 2 ^ b, 0)
    | _ => none
  | _, _ => none
theorem evRangeM_snd {o : Oper} {vals : Operand → Value} {t : TypeId} {x : Operand} {v : Value} (h : o.op = .range t x) (he : evRangeM P t (vals x) s = some (v, s1, R, W)) : SndO P rd o vals s v s1 R W := by
  unfold evRangeM at he
  split at he
  · rename_i kt et b ht hx
    split at he
    · rename_i es k hb
      simp only [Option.some.injEq, Prod.mk.injEq] at he
      obtain ⟨rfl, rfl, rfl, rfl⟩ := he
      refine sndO_of (fun c => by rw [h]; simp) (stat_push s _) fun ro ρ C ev w hp hv => ?_
      have h1 := hv x (by simp [h, Op.operands])
      rw [hx] at h1
      obtain ⟨L, k1, k2⟩ := map_inv h1
      have hbb := hp.agree b (by rw [or_bit, bit_self]; simp) (St.lt_of_live (by rw [hb]; simp))
      obtain ⟨L', es', g1, g2, g3⟩ := map_of hp.rel (hbb.trans hb)
      rw [k1] at g1
      cases g1
      obtain ⟨p1, r1, hs⟩ := step_new (o := .miter b k [] k) (o' := .mapIter (some L.blk) k #[] k) (L := ⟨w.heap.size, 0, false, 0, 0⟩) hp rfl ⟨rfl, rfl, rfl, rfl, L, k1, rfl⟩
      refine ⟨_, _, _, .inl ?_, p1, r1, .ptr s.next 0 ⟨w.heap.size, 0, false, 0, 0⟩ hs⟩
      simp [execOp, h, k2, run_range_map w t kt et L.blk es'  k ht g2]
    · cases he
  · cases he
theorem find_born {st : Nat} : ∀ (es es' : List MapEntry), ERs ρ es es' → ∀ e, es.find? (fun e => e.born == st) = some e → ∃ e', es'.find? (fun e => e.born == st) = some e' ∧ VR ρ e.key e'.key ∧ VR ρ e.val e'.val
  | [], _, _, e, he => by simp at he
  | e0 :: es, [], h, e, he => by have := h.1; simp at this
  | e0 :: es, e1 :: es', h, e, he => by
    obtain ⟨e2, h1, h2, h3, h4⟩ := h.2 0 e0 rfl
    simp at h1
    subst h1
    have ht : ERs ρ es es' := ⟨by have := h.1; simpa using this, fun i x hx => by have := h.2 (i + 1) x (by simpa using hx); simpa using this⟩
    rw [List.find?_cons] at he
    rw [List.find?_cons, h2]
    split at he
    · cases he; exact ⟨e1, rfl, h3, h4⟩
    · exact find_born es es' ht e he
def evEntryM (x : Value) (s : St) : Option Out :=
  match x with
  | .pointer (some ⟨r, 0, none⟩) => match s.get r with
    | .miter m _ sn la => match s.get m, sn.reverse with
      | .map es k, st :: _ => match decide (k = la), es.find? (fun e => e.born == st) with
        | true, some e => some (.tuple #[e.key, e.val], s, 2 ^ r ||| 2 ^ m, 0)
        | _, _ => none
      | _, _ => none
    | _ => none
  | _ => none
theorem evEntryM_snd {o : Oper} {vals : Operand → Value} {x : Operand} {v : Value} (h : o.op = .entry x) (he : evEntryM (vals x) s = some (v, s1, R, W)) : SndO P rd o vals s v s1 R W := by
  unfold evEntryM at he
  split at he
  · rename_i r hx
    split at he
    · rename_i m si sn la hr0
      split at he
      · rename_i es k st rest hm hrev
        split at he
        · rename_i e hd hf
          simp only [Option.some.injEq, Prod.mk.injEq] at he
          obtain ⟨rfl, rfl, rfl, rfl⟩ := he
          refine sndO_still (fun c => by rw [h]; simp) fun ρ C ev w _ ag hr hxs => ?_
          have h1 := hxs x (by simp [h, Op.operands])
          rw [hx] at h1
          obtain ⟨L, k1, k2⟩ := ptr_inv h1
          have hbr := ag r (by rw [or_bit, bit_self]; rfl) (St.lt_of_live (by rw [hr0]; simp))
          have hbm := ag m (by rw [or_bit, bit_self, Bool.or_true]) (St.lt_of_live (by rw [hm]; simp))
          obtain ⟨L1, Lm, sn', g1, g2, g3, g4, g5⟩ := miter_of hr (hbr.trans hr0)
          rw [k1] at g1
          cases g1
          obtain ⟨L2, es', q1, q2, q3⟩ := map_of hr (hbm.trans hm)
          rw [g3] at q1
          cases q1
          obtain ⟨e', f1, f2, f3⟩ := find_born es es'.toList q3 e hf
          have hk : k = la := of_decide_eq_true hd
          subst hk
          have hb : sn'.back? = some st := by rw [← Array.getLast?_toList, g4, List.getLast?_eq_head?_reverse, hrev]; rfl
          have hfa : es'.find? (fun e => e.born == st) = some e' := by rw [← Array.find?_toList]; exact f1
          have m1 : (getObj L.blk).run P w = .ok (.mapIter (some Lm.blk) si sn' k) w := by simp [getObj, Sem.run, g5]
          have m2 : (getObj Lm.blk).run P w = .ok (.map es' k) w := by simp [getObj, Sem.run, q2]
          refine ⟨.tuple #[e'.key, e'.val], ?_, ?_⟩
          · simp [execOp, h, k2, g2, Instr.entry, m1, m2, hb, hfa]
          · refine .tuple _ _ rfl fun i y y' h1 h2 => ?_
            match i, h1, h2 with
            | 0, h1, h2 => simp at h1 h2; subst h1 h2; exact f2
            | 1, h1, h2 => simp at h1 h2; subst h1 h2; exact f3
            | i + 2, h1, h2 => simp at h1
        · cases he
      · cases he
    · cases he
  · cases he
def candM (m si : Nat) (sn : List Nat) (es : List MapEntry) : Option (List MapEntry) := match es.all fun e => Nat.blt e.born si with
  | true => some (es.filter fun e => !sn.contains e.born)
  | false => none
def nextM (x : Value) (s : St) : Option (List (Value × St) × Nat × Nat) :=
  match x with
  | .pointer (some ⟨r, 0, none⟩) => match s.get r with
    | .miter m si sn la => match s.get m, Nat.ble si la with
      | .map es k, true => match candM m si sn es with
        | some [] => some ([(.tuple #[.bool false], s)], r, m)
        | some l => some (l.map fun e => (.tuple #[.bool true, e.key, e.val], s.put r (.miter m si (sn ++ [e.born]) k)), r, m)
        | none => none
      | _, _ => none
    | _ => none
  | _ => none
theorem ers_size {es es' : List MapEntry} (h : ERs ρ es es') : es'.length = es.length := h.1
theorem ers_mem' {es es' : List MapEntry} (h : ERs ρ es es') {e' : MapEntry} (he : e' ∈ es') : ∃ e, e ∈ es ∧ e'.born = e.born ∧ VR ρ e.key e'.key ∧ VR ρ e.val e'.val := by
  obtain ⟨i, hi, rfl⟩ := List.mem_iff_getElem.1 he
  have hl : i < es.length := by rw [← h.1]; exact hi
  obtain ⟨e2, k1, k2, k3, k4⟩ := h.2 i es[i] (List.getElem?_eq_getElem hl)
  rw [List.getElem?_eq_getElem hi] at k1
  cases k1
  exact ⟨es[i], List.getElem_mem hl, k2, k3, k4⟩
theorem sndOP_next {o : Oper} {vals : Operand → Value} {x : Operand} {l : List (Value × St)} {r m : Nat} (h : o.op = .next x false) (he : nextM (vals x) s = some (l, r, m)) (hRr : (R ||| W).testBit r = true) (hRm : (R ||| W).testBit m = true) (hW : W.testBit r = true) (hN : s.next ≤ N) :
    SndOP P rd o vals N R W s fun v s1 => (v, s1) ∈ l := by
  unfold nextM at he
  split at he
  · rename_i r0 hx
    split at he
    · rename_i m0 si sn la hr
      split at he
      · rename_i es k hm hsc
        have hsc := Nat.le_of_ble_eq_true hsc
        have hrl : s.get r0 ≠ .hole := by rw [hr]; simp
        have key : r0 = r ∧ m0 = m ∧ ∃ cs, candM m0 si sn es = some cs ∧ (cs = [] → l = [(.tuple #[.bool false], s)]) ∧ (cs ≠ [] → l = cs.map fun e => (.tuple #[.bool true, e.key, e.val], s.put r0 (.miter m0 si (sn ++ [e.born]) k))) := by
          split at he
          · rename_i hc
            simp only [Option.some.injEq, Prod.mk.injEq] at he
            obtain ⟨rfl, rfl, rfl⟩ := he
            exact ⟨rfl, rfl, [], hc, fun _ => rfl, fun h => absurd rfl h⟩
          · rename_i cs hne hc
            simp only [Option.some.injEq, Prod.mk.injEq] at he
            obtain ⟨rfl, rfl, rfl⟩ := he
            exact ⟨rfl, rfl, cs, hc, fun h => (hne h).elim, fun _ => rfl⟩
          · cases he
        obtain ⟨rfl, rfl, cs, hcs, hnil, hcons⟩ := key
        intro n ro ρ C a' w next Q hp hv hn
        have h1 := hv x (by simp [h, Op.operands])
        rw [hx] at h1
        obtain ⟨L, k1, k2⟩ := ptr_inv h1
        have hbr := hp.agree r0 hRr (St.lt_of_live hrl)
        have hbm := hp.agree m0 hRm (St.lt_of_live (by rw [hm]; simp))
        obtain ⟨L1, Lm, sn', g1, g2, g3, g4, g5⟩ := miter_of hp.rel (hbr.trans hr)
        rw [k1] at g1
        cases g1
        obtain ⟨L2, es', q1, q2, q3⟩ := map_of hp.rel (hbm.trans hm)
        rw [g3] at q1
        cases q1
        unfold candM at hcs
        split at hcs
        · rename_i hall
          cases hcs
          have hold : ∀ y ∈ es'.toList, y.born < si := fun y hy => by
            obtain ⟨e, he1, he2, _⟩ := ers_mem' q3 hy
            rw [List.all_eq_true] at hall
            have := hall e he1
            rw [he2]
            simpa [Nat.blt_eq] using this
          refine ⟨fun f _ => Fw_fn ro f, ?_⟩
          rw [Oper.semAt_eq _ _ _ (fun c => by rw [h]; simp)]
          have hz : ∀ b, (0 : Nat).testBit b = true → b < s.next → W.testBit b = true := fun b hb => by simp at hb
          rcases run_next_at (P := P) w o.type L.blk Lm.blk si la sn' es' k g5 q2 hold hsc with ⟨h0, hrun⟩ | ⟨e', he', w1, hw1, hrun⟩
          · have hex : (execOp a'.eval o).run P w = .ok (.value (.tuple #[.bool false])) w := by simp [execOp, h, k2, g2, hrun]
            rw [hex]
            have hcs0 : (es.filter fun e => !sn.contains e.born) = [] := by
              rw [List.filter_eq_nil_iff]
              intro e he hc
              obtain ⟨i, hi, rfl⟩ := List.mem_iff_getElem.1 he
              obtain ⟨e2, j1, j2, _⟩ := q3.2 i es[i] (List.getElem?_eq_getElem hi)
              have hm2 : e2 ∈ (leftOf es' sn').toList := by
                unfold leftOf
                simp only [Array.toList_filter, List.mem_filter]
                refine ⟨List.mem_of_getElem? j1, ?_⟩
                rw [j2]
                rw [← g4] at hc
                simpa using hc
              have : (leftOf es' sn').toList.length = 0 := by simpa using h0
              rw [List.length_eq_zero_iff] at this
              rw [this] at hm2
              cases hm2
            refine hn (.tuple #[.bool false]) s (by rw [hnil hcs0]; simp) (stat_more hz (Stat.refl s)) hN ρ _ w (post_more hz (Post.refl ρ s w)) ?_ (ground_refl 12 rfl)
            rw [← upd_more (Stat.refl s) hp.agree hz, upd_zero]
            exact hp.rel
          · have he2 := he'
            unfold leftOf at he2
            simp only [Array.toList_filter, List.mem_filter] at he2
            obtain ⟨e, m1, m2, m3, m4⟩ := ers_mem' q3 he2.1
            have hin : e ∈ es.filter fun e => !sn.contains e.born := by
              rw [List.mem_filter]
              refine ⟨m1, ?_⟩
              have := he2.2
              rw [m2] at this
              rw [← g4]
              simpa using this
            have hne : (es.filter fun e => !sn.contains e.born) ≠ [] := fun hq => by rw [hq] at hin; cases hin
            have hlt : L.blk < w1.heap.size := by
              have : L.blk < w.heap.size := lt_of_some g5
              rcases hw1 with rfl | rfl
              · exact this
              · exact this
            have hex : (execOp a'.eval o).run P w = .ok (.value (.tuple #[.bool true, e'.key, e'.val])) (setBlock w1 L.blk (.mapIter (some Lm.blk) si (sn'.push e'.born) k)) := by simp [execOp, h, k2, g2, hrun]
            rw [hex]
            have hWr : ∀ b, (2 ^ r0).testBit b = true → b < s.next → W.testBit b = true := fun b hb _ => by rw [bit_iff.1 hb]; exact hW
            have off : OneOff w L.blk (setBlock w1 L.blk (.mapIter (some Lm.blk) si (sn'.push e'.born) k)) := by
              rcases hw1 with rfl | rfl
              · exact ⟨by simp [setBlock], fun y hy => by simp [setBlock, Array.getElem?_setIfInBounds, Ne.symm hy], rfl, rfl, rfl⟩
              · exact ⟨by show (w.heap.setIfInBounds L.blk _).size = _; simp, fun y hy => by show (w.heap.setIfInBounds L.blk _)[y]? = _; simp [Array.getElem?_setIfInBounds, Ne.symm hy], rfl, rfl, rfl⟩
            obtain ⟨p1, r1⟩ := step_put (b := r0) (o := .miter m0 si (sn ++ [e.born]) k) (o1 := .mapIter (some Lm.blk) si (sn'.push e'.born) k) (o' := .mapIter (some Lm.blk) si sn' la) (R := 0)
              (pre_more (s1 := s.put r0 (.miter m0 si (sn ++ [e.born]) k)) hN (fun b hb => by simp at hb) hWr hp) hrl (by rw [hr]; rfl) k1 off
              (by simp [setBlock, Array.getElem?_setIfInBounds, hlt]) ⟨rfl, by simp [g4, m2], rfl, g2, Lm, g3, rfl⟩
            refine hn (.tuple #[.bool true, e.key, e.val]) (s.put r0 (.miter m0 si (sn ++ [e.born]) k)) (by rw [hcons hne]; exact List.mem_map.2 ⟨e, hin, rfl⟩) (stat_more hWr (stat_put hrl _)) hN ρ _ _ (post_more hWr p1) ?_ ?_
            · rw [← upd_more (stat_put hrl _) hp.agree hWr]
              exact r1
            · refine .tuple _ _ rfl fun i y y' h1 h2 => ?_
              match i, h1, h2 with
              | 0, h1, h2 => simp at h1 h2; subst h1 h2; exact .bool _
              | 1, h1, h2 => simp at h1 h2; subst h1 h2; exact m3
              | 2, h1, h2 => simp at h1 h2; subst h1 h2; exact m4
              | i + 3, h1, h2 => simp at h1
        · cases hcs
      · cases he
    · cases he
  · cases he
end

section
variable {P : Program} {s s1 : St}
def RRN (N : Nat) : Nat := 2 ^ N - 1
def WWN (lo N : Nat) : Nat := ((2 ^ N - 1) >>> lo) <<< lo
theorem RRN_bit {N b : Nat} (h : b < N) : (RRN N).testBit b = true := by unfold RRN; rw [Nat.testBit_two_pow_sub_one]; simpa using h
theorem WWN_bit {lo N b : Nat} : (WWN lo N).testBit b = true ↔ lo ≤ b ∧ b < N := by
  unfold WWN
  rw [Nat.testBit_shiftLeft, Nat.testBit_shiftRight, Nat.testBit_two_pow_sub_one]
  simp only [Bool.and_eq_true, decide_eq_true_eq]
  constructor
  · rintro ⟨h1, h2⟩; exact ⟨h1, by omega⟩
  · rintro ⟨h1, h2⟩; exact ⟨h1, by omega⟩
def okMask (lo N : Nat) (s1 : St) (W1 : Nat) : Bool := Nat.ble s1.next N && Nat.beq (W1 % 2 ^ lo) 0
theorem okMask_iff {lo N W1 : Nat} (h : okMask lo N s1 W1 = true) : s1.next ≤ N ∧ W1 % 2 ^ lo = 0 := by
  simp only [okMask, Bool.and_eq_true] at h
  exact ⟨Nat.le_of_ble_eq_true h.1, Nat.eq_of_beq_eq_true h.2⟩
theorem mask_low {lo N W1 : Nat} (hs : s.next ≤ N) (h : W1 % 2 ^ lo = 0) : ∀ b, W1.testBit b = true → b < s.next → (WWN lo N).testBit b = true := fun b hb hlt => by
  rw [WWN_bit]
  refine ⟨?_, by omega⟩
  rcases Nat.lt_or_ge b lo with c | c
  · rw [low_bit h c] at hb; cases hb
  · exact c
theorem mask_R {N R1 : Nat} (hs : s.next ≤ N) : ∀ b, R1.testBit b = true → b < s.next → (RRN N).testBit b = true := fun b _ hlt => RRN_bit (by omega)
def bindL {α β : Type} (f : α → Option (List β)) : List α → Option (List β)
  | [] => some []
  | x :: xs => match f x with
    | some l => match bindL f xs with
      | some r => some (l ++ r)
      | none => none
    | none => none
theorem bindL_mem {α β : Type} {f : α → Option (List β)} : ∀ {l : List α} {r : List β}, bindL f l = some r → ∀ x, x ∈ l → ∃ q, f x = some q ∧ ∀ y, y ∈ q → y ∈ r
  | [], r, h, x, hx => by cases hx
  | z :: xs, r, h, x, hx => by
    simp only [bindL] at h
    split at h
    · rename_i q hq
      split at h
      · rename_i r' hr
        cases h
        rcases List.mem_cons.1 hx with rfl | hx
        · exact ⟨q, hq, fun y hy => List.mem_append_left _ hy⟩
        · obtain ⟨q2, h1, h2⟩ := bindL_mem hr x hx
          exact ⟨q2, h1, fun y hy => List.mem_append_right _ (h2 y hy)⟩
      · cases h
    · cases h
def stepL (P : Program) (F : FY) (lo N : Nat) (ops : Array Oper) (o : Oper) (a : MA) (s : St) : Option (List (MA × St)) :=
  match a.okAll P ops o with
  | false => none
  | true => match Region.wanted o (a.yielded ops) with
    | false => some [(a.put o.dst undef, s)]
    | true => match evOpY P F a.eval o s with
      | some (v, s1, _, W1) => match okMask lo N s1 W1 with
        | true => some [(a.put o.dst v, s1)]
        | false => none
      | none => match o.op with
        | .range t x => match evRangeM P t (a.eval x) s with
          | some (v, s1, _, W1) => match okMask lo N s1 W1 with
            | true => some [(a.put o.dst v, s1)]
            | false => none
          | none => none
        | .next x false => match nextM (a.eval x) s with
          | some (l, r, m) => match Nat.ble lo r && Nat.blt r s.next && Nat.blt m s.next with
            | true => some (l.map fun p => (a.put o.dst p.1, p.2))
            | false => none
          | none => none
        | .entry x => match evEntryM (a.eval x) s with
          | some (v, s1, _, W1) => match okMask lo N s1 W1 with
            | true => some [(a.put o.dst v, s1)]
            | false => none
          | none => none
        | _ => none
def runL (P : Program) (F : FY) (lo N : Nat) (ops : Array Oper) : List Oper → MA → St → Option (List (MA × St))
  | [], a, s => some [(a, s)]
  | o :: os, a, s => match stepL P F lo N ops o a s with
    | some l => bindL (fun p => runL P F lo N ops os p.1 p.2) l
    | none => none
theorem ops_runL {F : FY} {lo N : Nat} {ops : Array Oper} {rd : Option Nat} (hF : FYOk P F) : ∀ (os : List Oper) (i : Nat) (a : MA) (s : St) (l : List (MA × St)), s.next ≤ N → runL P F lo N ops os a s = some l → (∀ k o, os[k]? = some o → ops[i + k]? = some o) →
    SndP P rd (TOps P ops (List.range' i os.length)) N (RRN N) (WWN lo N) a.act s fun e a1 s1 => e = .normal ∧ s1.next ≤ N ∧ ∃ m, (m, s1) ∈ l ∧ m.act = a1
  | [], i, a, s, l, hs, h, ho => by cases h; exact opsP_nil ⟨rfl, hs, a, by simp, rfl⟩ hs
  | o :: os, i, a, s, l, hs, h, ho => by
    simp only [runL] at h
    split at h
    · rename_i q hq
      have hoi : ops[i]? = some o := ho 0 o rfl
      have rest : ∀ (p : MA × St), p ∈ q → p.2.next ≤ N → SndP P rd (TOps P ops (List.range' (i + 1) os.length)) N (RRN N) (WWN lo N) p.1.act p.2 fun e a1 s1 => e = .normal ∧ s1.next ≤ N ∧ ∃ m, (m, s1) ∈ l ∧ m.act = a1 := fun p hp hpn => by
        obtain ⟨l2, h1, h2⟩ := bindL_mem h p hp
        have ih := ops_runL (rd := rd) hF os (i + 1) p.1 p.2 l2 hpn h1 (fun k o hk => by rw [show i + 1 + k = i + (k + 1) from by omega]; exact ho (k + 1) o (by simpa using hk))
        intro n ro ρ C a' w Q hp' ha hQ
        exact ih n ro ρ C a' w Q hp' ha fun e a1 s1 ⟨k1, k2, m, k3, k4⟩ => hQ e a1 s1 ⟨k1, k2, m, h2 _ k3, k4⟩
      show SndP P rd (TOps P ops (i :: List.range' (i + 1) os.length)) _ _ _ _ _ _
      unfold stepL at hq
      split at hq
      · cases hq
      · rename_i hok
        rw [← MA.okAll_act] at hok
        split at hq
        · rename_i hw
          cases hq
          rw [← MA.yielded_act] at hw
          have := rest _ (List.mem_singleton.2 rfl) hs
          rw [MA.put_act] at this
          exact opsP_no hoi hw hok this
        · rename_i hw
          rw [← MA.yielded_act] at hw
          split at hq
          · rename_i v s2 R1 W1 he
            split at hq
            · rename_i hm
              cases hq
              obtain ⟨m1, m2⟩ := okMask_iff hm
              have h2 := evOpY_snd (rd := rd) hF he
              rw [← MA.eval_act] at h2
              refine opsP_yes hoi hw hok (SndOP.of (Ψ := fun v' s' => v' = v ∧ s' = s2) h2 m1 (mask_R hs) (mask_low hs m2) ⟨rfl, rfl⟩) fun v' s' ⟨e1, e2⟩ => ?_
              subst e1 e2
              have := rest _ (List.mem_singleton.2 rfl) m1
              rwa [MA.put_act] at this
            · cases hq
          · split at hq
            · rename_i t x hop
              split at hq
              · rename_i v s2 R1 W1 he
                split at hq
                · rename_i hm
                  cases hq
                  obtain ⟨m1, m2⟩ := okMask_iff hm
                  rw [← MA.eval_act] at he
                  have h2 := evRangeM_snd (rd := rd) hop he
                  refine opsP_yes hoi hw hok (SndOP.of (Ψ := fun v' s' => v' = v ∧ s' = s2) h2 m1 (mask_R hs) (mask_low hs m2) ⟨rfl, rfl⟩) fun v' s' ⟨e1, e2⟩ => ?_
                  subst e1 e2
                  have := rest _ (List.mem_singleton.2 rfl) m1
                  rwa [MA.put_act] at this
                · cases hq
              · cases hq
            · rename_i x hop
              split at hq
              · rename_i l0 r m he
                split at hq
                · rename_i hm
                  simp only [Bool.and_eq_true] at hm
                  have b1 := Nat.le_of_ble_eq_true hm.1.1
                  have b2 : r < s.next := by simpa [Nat.blt_eq] using hm.1.2
                  have b3 : m < s.next := by simpa [Nat.blt_eq] using hm.2
                  simp only [Option.some.injEq] at hq
                  subst hq
                  rw [← MA.eval_act] at he
                  have hWr : (WWN lo N).testBit r = true := WWN_bit.2 ⟨b1, by omega⟩
                  have hn : ∀ v' s', (v', s') ∈ l0 → s'.next = s.next := fun v' s' hv => by
                    unfold nextM at he
                    split at he
                    · split at he
                      · split at he
                        · split at he
                          · simp only [Option.some.injEq, Prod.mk.injEq] at he
                            obtain ⟨rfl, _⟩ := he
                            simp at hv
                            rw [hv.2]
                          · simp only [Option.some.injEq, Prod.mk.injEq] at he
                            obtain ⟨rfl, _⟩ := he
                            obtain ⟨e, _, h3⟩ := List.mem_map.1 hv
                            simp only [Prod.mk.injEq] at h3
                            rw [← h3.2]; rfl
                          · cases he
                        · cases he
                      · cases he
                    · cases he
                  refine opsP_yes hoi hw hok (sndOP_next hop he (by rw [or_bit, hWr]; simp) (by rw [or_bit, RRN_bit (show m < N by omega)]; rfl) hWr hs) fun v' s' hv => ?_
                  have := rest (a.put o.dst v', s') (List.mem_map.2 ⟨(v', s'), hv, rfl⟩) (by rw [hn v' s' hv]; exact hs)
                  rwa [MA.put_act] at this
                · cases hq
              · cases hq
            · rename_i x hop
              split at hq
              · rename_i v s2 R1 W1 he
                split at hq
                · rename_i hm
                  cases hq
                  obtain ⟨m1, m2⟩ := okMask_iff hm
                  rw [← MA.eval_act] at he
                  have h2 := evEntryM_snd (P := P) (rd := rd) hop he
                  refine opsP_yes hoi hw hok (SndOP.of (Ψ := fun v' s' => v' = v ∧ s' = s2) h2 m1 (mask_R hs) (mask_low hs m2) ⟨rfl, rfl⟩) fun v' s' ⟨e1, e2⟩ => ?_
                  subst e1 e2
                  have := rest _ (List.mem_singleton.2 rfl) m1
                  rwa [MA.put_act] at this
                · cases hq
              · cases hq
            · cases hq
    · cases h
end

section
variable {P : Program} {s s1 : St}
abbrev OutN := Exit × MA × St
def ΦN (N : Nat) (L : List OutN) : Exit → Act → St → Prop := fun e a1 s1 => s1.next ≤ N ∧ ∃ m, (e, m, s1) ∈ L ∧ m.act = a1
theorem SndP.mono {rd : Option Nat} {T : Tr} {N R W : Nat} {a : Act} {Φ Φ2 : Exit → Act → St → Prop} (h : SndP P rd T N R W a s Φ) (g : ∀ e a1 s1, Φ e a1 s1 → Φ2 e a1 s1) : SndP P rd T N R W a s Φ2 :=
  fun n ro ρ C a' w Q hp ha hQ => h n ro ρ C a' w Q hp ha fun e a1 s1 hΦ => hQ e a1 s1 (g e a1 s1 hΦ)
def fyN (P : Program) (X : CallF) : FY := ⟨evFn P X (evC P X 1000), evY (evCR P X 1000)⟩
def evL (P : Program) (X : CallF) (lo N : Nat) : Nat → Bool → Code → MA → St → Option (List OutN)
  | 0, _, _, _, _ => none
  | k + 1, flag, c, a, s => match evC P X 1000 flag c a s with
    | some (e, a1, s1, _, W1) => match okMask lo N s1 W1 with
      | true => some [(e, a1, s1)]
      | false => none
    | none => match flag with
      | true => match evL P X lo N k false c a s with
        | some l => bindL (fun o => match isNormal o.1 with
          | true => evL P X lo N k true c o.2.1 o.2.2
          | false => some [o]) l
        | none => none
      | false => match c with
        | .seq x y => match evL P X lo N k false x a s with
          | some l => bindL (fun o => match isNormal o.1 with
            | true => evL P X lo N k false y o.2.1 o.2.2
            | false => some [o]) l
          | none => none
        | .cond x t f => match okOp P x, a.eval x with
          | true, .bool b => evL P X lo N k false (if b then t else f) a s
          | _, _ => none
        | .block id x => match evL P X lo N k false x a s with
          | some l => some (l.map fun o => (outOf id o.1, o.2.1, o.2.2))
          | none => none
        | .loop x => evL P X lo N k true x a s
        | .scope x => match evL P X lo N k false x a s with
          | some l => match l.all fun o => Bool.not (isGoto o.1) with
            | true => some l
            | false => none
          | none => none
        | .region _ ops false => match runL P (fyN P X) lo N ops ops.toList a s with
          | some l => some (l.map fun p => (.normal, p.1, p.2))
          | none => none
        | _ => none
theorem evL_ok {X : CallF} {lo N : Nat} (hm : P.follows .mixedOrders = true) (hX : FOk P X) : ∀ (k : Nat) (flag : Bool) (c : Code) (a : MA) (s : St) (L : List OutN), s.next ≤ N → evL P X lo N k flag c a s = some L → SndP P none (TF P flag c) N (RRN N) (WWN lo N) a.act s (ΦN N L)
  | 0, flag, c, a, s, L, hs, h => by cases h
  | k + 1, flag, c, a, s, L, hs, h => by
    have seqs : ∀ {T1 T2 T : Tr} (hT : ∀ F n Q a w, T1 F n (Exit.then (T2 F n Q) Q) a w → T F n Q a w) (l : List OutN) (f : MA → St → Option (List OutN)), SndP P none T1 N (RRN N) (WWN lo N) a.act s (ΦN N l) →
        (∀ a1 s1 q, s1.next ≤ N → f a1 s1 = some q → SndP P none T2 N (RRN N) (WWN lo N) a1.act s1 (ΦN N q)) → bindL (fun o => match isNormal o.1 with
          | true => f o.2.1 o.2.2
          | false => some [o]) l = some L → SndP P none T N (RRN N) (WWN lo N) a.act s (ΦN N L) := fun {T1 T2 T} hT l f h1 h2 hb => by
      refine SndP.bind (T1 := T1) (T2 := T2) hT h1 fun e a1 s1 ⟨hn, m, hmem, hact⟩ => ?_
      obtain ⟨q, k1, k2⟩ := bindL_mem hb _ hmem
      simp only at k1
      split at k1
      · rename_i hno
        refine .inl ⟨isNormal_iff hno, ?_⟩
        rw [← hact]
        exact (h2 m s1 q hn k1).mono fun e2 a2 s2 ⟨j1, m2, j2, j3⟩ => ⟨j1, m2, k2 _ j2, j3⟩
      · rename_i hno
        cases k1
        exact .inr ⟨isNormal_no hno, hn, m, k2 _ (List.mem_singleton.2 rfl), hact⟩
    unfold evL at h
    split at h
    · rename_i e a1 s1 R1 W1 he
      split at h
      · rename_i hmk
        cases h
        obtain ⟨m1, m2⟩ := okMask_iff hmk
        exact SndP.of (evC_ok hm hX 1000 _ _ _ _ _ _ _ _ _ he) m1 (mask_R hs) (mask_low hs m2) ⟨m1, a1, by simp, rfl⟩
      · cases h
    · split at h
      · split at h
        · rename_i l hl
          exact seqs (T1 := TC P c) (T2 := LoopFrom P c) (fun _ _ _ _ _ h => loopFrom_step h) l (evL P X lo N k true c) (evL_ok hm hX k false c a s l hs hl) (fun a1 s1 q hn hq => evL_ok hm hX k true c a1 s1 q hn hq) h
        · cases h
      · split at h
        · rename_i x y _
          split at h
          · rename_i l hl
            exact seqs (T1 := TC P x) (T2 := TC P y) (fun _ _ _ _ _ h => wpIn_seq h) l (evL P X lo N k false y) (evL_ok hm hX k false x a s l hs hl) (fun a1 s1 q hn hq => evL_ok hm hX k false y a1 s1 q hn hq) h
          · cases h
        · rename_i x t f _
          split at h
          · rename_i b hx hb
            rw [← MA.eval_act] at hb
            exact sndP_cond hx hb (evL_ok hm hX k false _ a s L hs h)
          · cases h
        · rename_i id x _
          split at h
          · rename_i l hl
            cases h
            exact sndP_block ((evL_ok hm hX k false x a s l hs hl).mono fun e a1 s1 ⟨j1, m, j2, j3⟩ => ⟨j1, m, List.mem_map.2 ⟨_, j2, rfl⟩, j3⟩)
          · cases h
        · rename_i x _
          exact sndP_loop (evL_ok hm hX k true x a s L hs h)
        · rename_i x _
          split at h
          · rename_i l hl
            split at h
            · rename_i hall
              cases h
              refine sndP_scope ((evL_ok hm hX k false x a s _ hs hl).mono fun e a1 s1 ⟨j1, m, j2, j3⟩ => ⟨?_, j1, m, j2, j3⟩)
              rw [List.all_eq_true] at hall
              have := hall _ j2
              simpa using this
            · cases h
          · cases h
        · rename_i id ops _
          split at h
          · rename_i l hl
            cases h
            have hF : FYOk P (fyN P X) := ⟨evFn_ok hX (evC_ok hm hX 1000), evY_ok (fun rd => evCR_ok hm hX 1000 rd)⟩
            have := ops_runL (rd := none) hF ops.toList 0 a s l hs hl (fun k o hk => by simpa using hk)
            refine regionP ?_
            rw [List.range_eq_range', show ops.size = ops.toList.length by simp]
            exact this.mono fun e a1 s1 ⟨j1, j2, m, j3, j4⟩ => ⟨j2, m, List.mem_map.2 ⟨(m, s1), j3, by rw [j1]⟩, j4⟩
          · cases h
        · cases h
end

section
variable {P : Program} {s s1 : St}
theorem sndF_nd {f : FuncId} {fn : Func} {c : Code} {args : Array Value} {N : Nat} {L : List OutN} {n cp : Nat} {cs : List Value} {el : TypeId} {opn : Bool} {sz : Nat} (hf : P.funcs[f]? = some fn) (hb : fn.body = some c) (hs : s.next ≤ N)
    (hL : SndP P none (TC P c) N (RRN N) (WWN s.next N) (startA fn args) s (ΦN N L)) (hcs : cs.all (ground 8) = true)
    (hk : ∀ e m s1, (e, m, s1) ∈ L → (e = .normal ∨ e = .ret) ∧ m.act.defers = [] ∧ ∃ b R2, resultsL P s1 m.act.tmps fn.results.toList = some ([.slice (some ⟨b, 0, none⟩) n cp], R2) ∧ s1.get b = .cells cs el opn sz false ∧ s.next ≤ b) :
    SndF P f args s (.slice (some ⟨N, 0, none⟩) n cp) ((s.gc (upto N)).push (.cells cs el opn sz false)) (RRN s.next) 0 := by
  have hgn : (s.gc (upto N)).next = N := rfl
  have hpn : ((s.gc (upto N)).push (.cells cs el opn sz false)).next = N + 1 := rfl
  have hget : ∀ b, ((s.gc (upto N)).push (.cells cs el opn sz false)).get b = if b = N then .cells cs el opn sz false else if b < s.next then s.get b else .hole := fun b => by
    by_cases e : b = N
    · subst e
      rw [if_pos rfl]
      exact St.get_push_new (s.gc (upto b)) _
    · rw [if_neg e]
      by_cases c1 : b < N
      · rw [St.get_push_old _ _ _ (by rw [hgn]; exact c1), St.gc_get (s1 := upto N) hs]
      · rw [St.get_beyond _ _ (by rw [hpn]; omega), if_neg (by omega)]
  refine ⟨⟨by rw [hpn]; omega, fun b hb _ => by rw [hget, if_neg (by omega), if_pos hb]⟩, fun n' ρ C args' w Q hp ha hQ => ?_⟩
  refine callsIn_of_wp hf hb (Fw_fn none f) ?_ rfl
  have hp1 : Pre P none s (upto N) (RRN N) (WWN s.next N) none ρ C w := ⟨hp.glob, hp.round, fun b _ hlt => hp.agree b (by rw [or_bit, RRN_bit hlt]; rfl) hlt, fun b h1 h2 => hp.free b h1 (by rw [hpn]; exact Nat.lt_succ_of_lt h2), hp.rel⟩
  refine hL n' none ρ C _ w _ hp1 (startA_ar ha) fun e a1 s1 ⟨hn, m, hmem, hact⟩ hS hN ρ1 a1' w1 p1 r1 ha1 => ?_
  obtain ⟨he, hd, b, R2, hres, hbc, hlo⟩ := hk e m s1 hmem
  subst hact
  have hWlo : ∀ x, (WWN s.next N).testBit x = true → x < s.next → False := fun x h1 h2 => by have := WWN_bit.1 h1; omega
  have hupd : ∀ x, x < s.next → upd C s s1 (WWN s.next N) x = C x := fun x hx => if_neg (by
    rintro (k | k)
    · omega
    · exact hWlo x k.1 k.2)
  have hag : ∀ x, R2.testBit x = true → x < s1.next → upd C s s1 (WWN s.next N) x = s1.get x := fun x _ hlt => by
    by_cases c1 : s.next ≤ x
    · exact if_pos (.inl ⟨c1, hlt⟩)
    · rw [hupd x (by omega), hp1.agree x (by rw [or_bit, RRN_bit (show x < N by omega)]; rfl) (by omega)]
      refine (hS.2 x (by omega) ?_).symm
      cases hw : (WWN s.next N).testBit x with
      | false => rfl
      | true => exact (hWlo x hw (by omega)).elim
  obtain ⟨v', g1, g2⟩ := results_run ha1.tmps r1 hres hag
  have hd' : a1'.defers = [] := by
    have := ha1.defs
    rw [hd] at this
    cases hdd : a1'.defers with
    | nil => rfl
    | cons x xs => rw [hdd] at this; exact this.elim
  have hblt : b < s1.next := St.lt_of_live (by rw [hbc]; simp)
  have hub : upd C s s1 (WWN s.next N) b = .cells cs el opn sz false := (if_pos (.inl ⟨hlo, hblt⟩)).trans hbc
  obtain ⟨L0, o', k1, k2, k3⟩ := r1.1 b (by rw [hub]; simp)
  rw [hub] at k3
  have hfr : ρ b = none := (hp1.free b hlo (Nat.lt_of_lt_of_le hblt hN)).1
  have hfN : ρ N = none := (hp.free N hs (by rw [hpn]; exact Nat.lt_succ_self _)).1
  have hbig : w.heap.size ≤ L0.blk := by
    rcases p1.fresh b L0 hfr k1 with k | ⟨b0, L', j1, j2, _⟩
    · exact k
    · exact (hWlo b0 j1 j2).elim
  have hkeep : ∀ x, x < w.heap.size → w1.heap[x]? = w.heap[x]? := fun x hx => p1.frame x hx fun b0 L' j1 j2 _ => (hWlo b0 j1 j2).elim
  obtain ⟨ρ2, hρ2⟩ : ∃ ρ2 : Ren, ρ2 = fun x => if x = N then some L0 else ρ x := ⟨_, rfl⟩
  have hN2 : ρ2 N = some L0 := by rw [hρ2]; exact if_pos rfl
  have ho2 : ∀ x, x ≠ N → ρ2 x = ρ x := fun x hx => by rw [hρ2]; exact if_neg hx
  have hle : ρ.le ρ2 := fun x L' hx => by
    by_cases e : x = N
    · subst e; rw [hfN] at hx; cases hx
    · rw [ho2 x e]; exact hx
  have hor : OR ρ2 L0 (.cells cs el opn sz false) o' := by
    cases o' <;> simp only [OR] at k3 ⊢
    obtain ⟨j1, j2, j3, j4, j5, j6, j7⟩ := k3
    refine ⟨j1, j2, j3, j4, j5, fun i v hi => ?_, j7⟩
    obtain ⟨u, h1, h2⟩ := j6 i v hi
    have hg : ground 8 v = true := by rw [List.all_eq_true] at hcs; exact hcs v (List.mem_of_getElem? hi)
    have := ground_eq 8 hg h2
    subst this
    exact ⟨_, h1, ground_refl 8 hg⟩
  have hC : ∀ x, upd C s ((s.gc (upto N)).push (.cells cs el opn sz false)) 0 x = if x = N then .cells cs el opn sz false else if s.next ≤ x ∧ x < N then .hole else C x := fun x => by
    unfold upd
    rw [hpn]
    by_cases e : x = N
    · subst e
      rw [if_pos (.inl ⟨hs, Nat.lt_succ_self _⟩), if_pos rfl, hget, if_pos rfl]
    · rw [if_neg e]
      by_cases c1 : s.next ≤ x ∧ x < N
      · rw [if_pos (.inl ⟨c1.1, by omega⟩), if_pos c1, hget, if_neg e, if_neg (by omega)]
      · rw [if_neg (by
          rintro (k | k)
          · omega
          · simp at k), if_neg c1]
  have hold : ∀ x, x ≠ N → upd C s ((s.gc (upto N)).push (.cells cs el opn sz false)) 0 x ≠ .hole → upd C s ((s.gc (upto N)).push (.cells cs el opn sz false)) 0 x = C x ∧ C x ≠ .hole := fun x e hx => by
    rw [hC, if_neg e] at hx ⊢
    split at hx
    · exact absurd rfl hx
    · rename_i c1
      rw [if_neg c1]
      exact ⟨rfl, hx⟩
  have fin : Q (.returned v') w1 := by
    refine hQ ρ2 v' w1 ⟨hle, fun x hx => ?_, fun x L' h1 h2 => ?_, p1.size, fun x hx _ => hkeep x hx, p1.os, p1.tape, p1.output⟩ ⟨fun x hx => ?_, fun x x' L1 L2 h1 h2 hq h3 h4 he => ?_⟩ ?_
    · by_cases e : x = N
      · rw [hpn]; omega
      · exact absurd (ho2 x e) hx
    · by_cases e : x = N
      · subst e; rw [hN2] at h2; cases h2; exact .inl hbig
      · rw [ho2 x e, h1] at h2; cases h2
    · by_cases e : x = N
      · subst e
        rw [hC, if_pos rfl]
        exact ⟨L0, o', hN2, k2, hor⟩
      · obtain ⟨q1, q2⟩ := hold x e hx
        rw [q1]
        obtain ⟨L', o2, j1, j2, j3⟩ := hp.rel.1 x q2
        exact ⟨L', o2, hle _ _ j1, (hkeep _ (lt_of_some j2)).trans j2, j3.mono hle⟩
    · by_cases e1 : x = N
      · by_cases e2 : x' = N
        · rw [e1, e2]
        · obtain ⟨q1, q2⟩ := hold x' e2 h2
          obtain ⟨L', o2, j1, j2, j3⟩ := hp.rel.1 x' q2
          rw [ho2 x' e2, j1] at h4
          cases h4
          rw [e1, hN2] at h3
          cases h3
          have := lt_of_some j2
          omega
      · obtain ⟨q1, q2⟩ := hold x e1 h1
        obtain ⟨L', o2, j1, j2, j3⟩ := hp.rel.1 x q2
        by_cases e2 : x' = N
        · rw [ho2 x e1, j1] at h3
          cases h3
          rw [e2, hN2] at h4
          cases h4
          have := lt_of_some j2
          omega
        · obtain ⟨q3, q4⟩ := hold x' e2 h2
          rw [q1, q3] at hq
          rw [ho2 x e1] at h3
          rw [ho2 x' e2] at h4
          exact hp.rel.2 x x' L1 L2 q2 q4 hq h3 h4 he
    · have g2 : VR ρ1 (.slice (some ⟨b, 0, none⟩) n cp) v' := g2
      cases g2 with
      | empty a a' => exact .empty _ _
      | slice b o n c c' L' h hc =>
        rw [k1] at h
        cases h
        exact .slice N 0 n cp _ L0 hN2 hc
  rcases he with rfl | rfl <;> exact ⟨hd', v', g1, fin⟩
end

section
variable {P : Program} {s s1 : St}
abbrev KeyN := Nat × Nat × List Value × TypeId × Bool × Nat
def keyN (P : Program) (fn : Func) (lo : Nat) (o : OutN) : Option KeyN :=
  match isNormal o.1 || isRet o.1, o.2.1.defers with
  | true, [] => match resultsG P o.2.2 o.2.1.get fn.results.toList with
    | some ([.slice (some ⟨b, 0, none⟩) n c], _) => match o.2.2.get b with
      | .cells cs el opn sz false => match Nat.ble lo b && cs.all (ground 8) with
        | true => some (n, c, cs, el, opn, sz)
        | false => none
      | _ => none
    | _ => none
  | _, _ => none
where isRet : Exit → Bool
  | .ret => true
  | _ => false
def sameV : Value → Value → Bool
  | .int k a, .int k' b => decide (k = k') && decide (a = b)
  | .bool a, .bool b => a == b
  | _, _ => false
theorem sameV_eq {a b : Value} (h : sameV a b = true) : a = b := by
  unfold sameV at h
  split at h
  · simp only [Bool.and_eq_true, decide_eq_true_eq] at h
    rw [h.1, h.2]
  · simp only [beq_iff_eq] at h
    rw [h]
  · cases h
def sameVs : List Value → List Value → Bool
  | [], [] => true
  | a :: l, b :: l' => sameV a b && sameVs l l'
  | _, _ => false
theorem sameVs_eq : ∀ {a b : List Value}, sameVs a b = true → a = b
  | [], [], _ => rfl
  | a :: l, b :: l', h => by
    simp only [sameVs, Bool.and_eq_true] at h
    rw [sameV_eq h.1, sameVs_eq h.2]
  | [], _ :: _, h => by cases h
  | _ :: _, [], h => by cases h
def sameK : Option KeyN → KeyN → Bool
  | some (n, c, cs, el, opn, sz), (n', c', cs', el', opn', sz') => Nat.beq n n' && Nat.beq c c' && sameVs cs cs' && Nat.beq el el' && (opn == opn') && Nat.beq sz sz'
  | none, _ => false
theorem sameK_eq {a : Option KeyN} {b : KeyN} (h : sameK a b = true) : a = some b := by
  obtain ⟨n', c', cs', el', opn', sz'⟩ := b
  unfold sameK at h
  split at h
  · rename_i e1 e2
    cases e2
    simp only [Bool.and_eq_true, beq_iff_eq] at h
    obtain ⟨⟨⟨⟨⟨h1, h2⟩, h3⟩, h4⟩, h5⟩, h6⟩ := h
    rw [Nat.eq_of_beq_eq_true h1, Nat.eq_of_beq_eq_true h2, sameVs_eq h3, Nat.eq_of_beq_eq_true h4, h5, Nat.eq_of_beq_eq_true h6]
  · cases h
def evNF (P : Program) (X : CallF) (K : Nat) (f0 : FuncId) : CallF := fun f args s => match decide (f = f0) with
  | true => match P.funcs[f]? with
    | some fn => match fn.body with
      | some c => match evL P X s.next (s.next + K) 300 false c (startM fn args) s with
        | some (o :: os) => match keyN P fn s.next o with
          | some (n, cp, cs, el, opn, sz) => match os.all fun o' => sameK (keyN P fn s.next o') (n, cp, cs, el, opn, sz) with
            | true => some (.slice (some ⟨s.next + K, 0, none⟩) n cp, (s.gc (upto (s.next + K))).push (.cells cs el opn sz false), RRN s.next, 0)
            | false => none
          | none => none
        | _ => none
      | none => none
    | none => none
  | false => none
theorem evNF_ok {X : CallF} {K : Nat} {f0 : FuncId} (hm : P.follows .mixedOrders = true) (hX : FOk P X) : FOk P (evNF P X K f0) := fun f args s v s1 R W he => by
  unfold evNF at he
  split at he
  · split at he
    · rename_i fn hf
      split at he
      · rename_i c hb
        split at he
        · rename_i o os hL
          split at he
          · rename_i n cp cs el opn sz hk
            split at he
            · rename_i hall
              simp only [Option.some.injEq, Prod.mk.injEq] at he
              obtain ⟨rfl, rfl, rfl, rfl⟩ := he
              have hkey : ∀ q, q ∈ o :: os → keyN P fn s.next q = some (n, cp, cs, el, opn, sz) := fun q hq => by
                rcases List.mem_cons.1 hq with rfl | hq
                · exact hk
                · rw [List.all_eq_true] at hall
                  exact sameK_eq (hall q hq)
              have unk : ∀ q, keyN P fn s.next q = some (n, cp, cs, el, opn, sz) → (q.1 = .normal ∨ q.1 = .ret) ∧ q.2.1.defers = [] ∧ (∃ b R2, resultsG P q.2.2 q.2.1.get fn.results.toList = some ([.slice (some ⟨b, 0, none⟩) n cp], R2) ∧ q.2.2.get b = .cells cs el opn sz false ∧ s.next ≤ b) ∧ cs.all (ground 8) = true := fun q hq => by
                unfold keyN at hq
                split at hq
                · rename_i h1 h2
                  split at hq
                  · rename_i b n2 c2 R2 h3
                    split at hq
                    · rename_i cs2 el2 opn2 sz2 h4
                      split at hq
                      · rename_i h5
                        simp only [Option.some.injEq, Prod.mk.injEq] at hq
                        obtain ⟨rfl, rfl, rfl, rfl, rfl, rfl⟩ := hq
                        simp only [Bool.and_eq_true] at h5
                        refine ⟨?_, h2, ⟨b, R2, h3, h4, Nat.le_of_ble_eq_true h5.1⟩, h5.2⟩
                        generalize q.1 = e at h1
                        cases e <;> first | exact .inl rfl | exact .inr rfl | (simp [isNormal, keyN.isRet] at h1)
                      · cases hq
                    · cases hq
                  · cases hq
                · cases hq
              have hS := evL_ok hm hX 300 false c (startM fn args) s (o :: os) (Nat.le_add_right _ _) hL
              rw [startM_act] at hS
              refine sndF_nd (L := o :: os) hf hb (Nat.le_add_right _ _) hS (unk o hk).2.2.2 fun e m s1 hmem => ?_
              obtain ⟨h1, h2, ⟨b, R2, h3, h4, h5⟩, _⟩ := unk _ (hkey _ hmem)
              exact ⟨h1, h2, b, R2, (resultsL_act m _).trans h3, h4, h5⟩
            · cases he
          · cases he
        · cases he
      · cases he
    · cases he
  · cases he
end
end Mini
end Go.Proofs.YthhgmnocigekaaaGreatDoor
end
