/-
  What the ways of the law PhasorTurns ask for.
  The law PhasorTurns: what its ways are told over.
  The contract of bipole.phasor.Spectrum.
  The contract of bipole.bipoleref01.part.
  The contract of bipole.bipoleref01.CheckRange.
  The contract of bipole.phasor.Turned.
  The contract of bipole.phasor.Norm.
  The contract of bipole.eisen.Norm.
  The contract of bipole.phasor.Steps.
-/
import Derived.Test.YtjpffbekhfkibaaGreatDoorGTU10
import Derived.Test.YtjpffbekhfkibaaGreatDoorGTU2
section
set_option linter.all false
set_option maxRecDepth 1000000
set_option maxHeartbeats 8000000
open Go.RowKit
namespace Go.Proofs.YtjpffbekhfkibaaGreatDoor
open Mini

def oSteps_val (s0 t0 s1 t1 s2 t2 s3 t3 s4 t4 s5 t5 : Int) : Value := .tuple #[.agg #[.int .i64 (b6_0 s0 t0 s1 t1 s2 t2 s3 t3 s4 t4 s5 t5), .int .i64 (b6_1 s0 t0 s1 t1 s2 t2 s3 t3 s4 t4 s5 t5), .int .i64 (b6_2 s0 t0 s1 t1 s2 t2 s3 t3 s4 t4 s5 t5), .int .i64 (b6_3 s0 t0 s1 t1 s2 t2 s3 t3 s4 t4 s5 t5), .int .i64 (b6_4 s0 t0 s1 t1 s2 t2 s3 t3 s4 t4 s5 t5), .int .i64 (b6_5 s0 t0 s1 t1 s2 t2 s3 t3 s4 t4 s5 t5), .int .i64 (b6_6 s0 t0 s1 t1 s2 t2 s3 t3 s4 t4 s5 t5), .int .i64 (b6_7 s0 t0 s1 t1 s2 t2 s3 t3 s4 t4 s5 t5), .int .i64 (b6_8 s0 t0 s1 t1 s2 t2 s3 t3 s4 t4 s5 t5), .int .i64 (b6_9 s0 t0 s1 t1 s2 t2 s3 t3 s4 t4 s5 t5), .int .i64 (b6_10 s0 t0 s1 t1 s2 t2 s3 t3 s4 t4 s5 t5), .int .i64 (b6_11 s0 t0 s1 t1 s2 t2 s3 t3 s4 t4 s5 t5)], .int .i64 0]
theorem oSteps_X : FOkS Tryz.prog x_oSteps := kAll_ok _ ⟨k_checkEisen, k_turn, k_checkPhase, k_spec6, trivial⟩
theorem oSteps_args (s0 t0 s1 t1 s2 t2 s3 t3 s4 t4 s5 t5 : Int) : (#[.agg #[.int .i64 s0, .int .i64 t0, .int .i64 s1, .int .i64 t1, .int .i64 s2, .int .i64 t2, .int .i64 s3, .int .i64 t3, .int .i64 s4, .int .i64 t4, .int .i64 s5, .int .i64 t5]] : Array Value).toList.all (ground 8) = true := by kernel_rfl
theorem oSteps_g0 : (true = true) := by first | rfl | trivial | decide | omega
theorem oSteps_g1 : ((0 : Int) = (0 : Int)) := by first | rfl | trivial | decide | omega
theorem oSteps_g2 : True := by first | rfl | trivial | decide | omega
def oSteps_c0 (s0 t0 s1 t1 s2 t2 s3 t3 s4 t4 s5 t5 : Int) : Bool := ((Pl.parts s0 t0 (1048576 : Int)) != (0 : Int))
theorem oSteps_g4 : ((1 : Int) = (1 : Int)) := by first | rfl | trivial | decide | omega
def oSteps_c1 (s0 t0 s1 t1 s2 t2 s3 t3 s4 t4 s5 t5 : Int) : Bool := ((Pl.parts s1 t1 (1048576 : Int)) != (0 : Int))
theorem oSteps_g6 : ((2 : Int) = (2 : Int)) := by first | rfl | trivial | decide | omega
def oSteps_c2 (s0 t0 s1 t1 s2 t2 s3 t3 s4 t4 s5 t5 : Int) : Bool := ((Pl.parts s2 t2 (1048576 : Int)) != (0 : Int))
theorem oSteps_g8 : ((3 : Int) = (3 : Int)) := by first | rfl | trivial | decide | omega
def oSteps_c3 (s0 t0 s1 t1 s2 t2 s3 t3 s4 t4 s5 t5 : Int) : Bool := ((Pl.parts s3 t3 (1048576 : Int)) != (0 : Int))
theorem oSteps_g10 : ((4 : Int) = (4 : Int)) := by first | rfl | trivial | decide | omega
def oSteps_c4 (s0 t0 s1 t1 s2 t2 s3 t3 s4 t4 s5 t5 : Int) : Bool := ((Pl.parts s4 t4 (1048576 : Int)) != (0 : Int))
theorem oSteps_g12 : ((5 : Int) = (5 : Int)) := by first | rfl | trivial | decide | omega
def oSteps_c5 (s0 t0 s1 t1 s2 t2 s3 t3 s4 t4 s5 t5 : Int) : Bool := ((Pl.parts s5 t5 (1048576 : Int)) != (0 : Int))
theorem oSteps_g14 : (false = false) := by first | rfl | trivial | decide | omega
def oSteps_b15 (s0 t0 s1 t1 s2 t2 s3 t3 s4 t4 s5 t5 : Int) : Prop := (((-1099511627776 : Int) ≤ s0) ∧ ((s0 ≤ (1099511627776 : Int)) ∧ (((-1099511627776 : Int) ≤ t0) ∧ (t0 ≤ (1099511627776 : Int)))))
def oSteps_b16 (s0 t0 s1 t1 s2 t2 s3 t3 s4 t4 s5 t5 : Int) : Prop := (((-1099511627776 : Int) ≤ s1) ∧ ((s1 ≤ (1099511627776 : Int)) ∧ (((-1099511627776 : Int) ≤ t1) ∧ (t1 ≤ (1099511627776 : Int)))))
def oSteps_b17 (s0 t0 s1 t1 s2 t2 s3 t3 s4 t4 s5 t5 : Int) : Prop := (((-1099511627776 : Int) ≤ s2) ∧ ((s2 ≤ (1099511627776 : Int)) ∧ (((-1099511627776 : Int) ≤ t2) ∧ (t2 ≤ (1099511627776 : Int)))))
def oSteps_b18 (s0 t0 s1 t1 s2 t2 s3 t3 s4 t4 s5 t5 : Int) : Prop := (((-1099511627776 : Int) ≤ s3) ∧ ((s3 ≤ (1099511627776 : Int)) ∧ (((-1099511627776 : Int) ≤ t3) ∧ (t3 ≤ (1099511627776 : Int)))))
def oSteps_b19 (s0 t0 s1 t1 s2 t2 s3 t3 s4 t4 s5 t5 : Int) : Prop := (((-1099511627776 : Int) ≤ s4) ∧ ((s4 ≤ (1099511627776 : Int)) ∧ (((-1099511627776 : Int) ≤ t4) ∧ (t4 ≤ (1099511627776 : Int)))))
def oSteps_b20 (s0 t0 s1 t1 s2 t2 s3 t3 s4 t4 s5 t5 : Int) : Prop := (((-1099511627776 : Int) ≤ s5) ∧ ((s5 ≤ (1099511627776 : Int)) ∧ (((-1099511627776 : Int) ≤ t5) ∧ (t5 ≤ (1099511627776 : Int)))))
def oSteps_c6 (s0 t0 s1 t1 s2 t2 s3 t3 s4 t4 s5 t5 : Int) : Bool := ((Pl.parts (IntKind.i64.wrap (Int.tdiv (IntKind.i64.wrap ((IntKind.i64.wrap ((IntKind.i64.wrap ((IntKind.i64.wrap ((IntKind.i64.wrap ((IntKind.i64.wrap ((0 : Int) + (Pl.turn (s0 , t0) (0 : Int)).1)) + (Pl.turn (s1 , t1) (0 : Int)).1)) + (Pl.turn (s2 , t2) (0 : Int)).1)) + (Pl.turn (s3 , t3) (0 : Int)).1)) + (Pl.turn (s4 , t4) (0 : Int)).1)) + (Pl.turn (s5 , t5) (0 : Int)).1)) (6 : Int))) (IntKind.i64.wrap (Int.tdiv (IntKind.i64.wrap ((IntKind.i64.wrap ((IntKind.i64.wrap ((IntKind.i64.wrap ((IntKind.i64.wrap ((IntKind.i64.wrap ((0 : Int) + (Pl.turn (s0 , t0) (0 : Int)).2)) + (Pl.turn (s1 , t1) (0 : Int)).2)) + (Pl.turn (s2 , t2) (0 : Int)).2)) + (Pl.turn (s3 , t3) (0 : Int)).2)) + (Pl.turn (s4 , t4) (0 : Int)).2)) + (Pl.turn (s5 , t5) (0 : Int)).2)) (6 : Int))) (65536 : Int)) != (0 : Int))
def oSteps_c7 (s0 t0 s1 t1 s2 t2 s3 t3 s4 t4 s5 t5 : Int) : Bool := ((Pl.parts (IntKind.i64.wrap (Int.tdiv (IntKind.i64.wrap ((IntKind.i64.wrap ((IntKind.i64.wrap ((IntKind.i64.wrap ((IntKind.i64.wrap ((IntKind.i64.wrap ((0 : Int) + (Pl.turn (s0 , t0) (0 : Int)).1)) + (Pl.turn (s1 , t1) (1 : Int)).1)) + (Pl.turn (s2 , t2) (2 : Int)).1)) + (Pl.turn (s3 , t3) (3 : Int)).1)) + (Pl.turn (s4 , t4) (4 : Int)).1)) + (Pl.turn (s5 , t5) (5 : Int)).1)) (6 : Int))) (IntKind.i64.wrap (Int.tdiv (IntKind.i64.wrap ((IntKind.i64.wrap ((IntKind.i64.wrap ((IntKind.i64.wrap ((IntKind.i64.wrap ((IntKind.i64.wrap ((0 : Int) + (Pl.turn (s0 , t0) (0 : Int)).2)) + (Pl.turn (s1 , t1) (1 : Int)).2)) + (Pl.turn (s2 , t2) (2 : Int)).2)) + (Pl.turn (s3 , t3) (3 : Int)).2)) + (Pl.turn (s4 , t4) (4 : Int)).2)) + (Pl.turn (s5 , t5) (5 : Int)).2)) (6 : Int))) (65536 : Int)) != (0 : Int))
def oSteps_c8 (s0 t0 s1 t1 s2 t2 s3 t3 s4 t4 s5 t5 : Int) : Bool := ((Pl.parts (IntKind.i64.wrap (Int.tdiv (IntKind.i64.wrap ((IntKind.i64.wrap ((IntKind.i64.wrap ((IntKind.i64.wrap ((IntKind.i64.wrap ((IntKind.i64.wrap ((0 : Int) + (Pl.turn (s0 , t0) (0 : Int)).1)) + (Pl.turn (s1 , t1) (2 : Int)).1)) + (Pl.turn (s2 , t2) (4 : Int)).1)) + (Pl.turn (s3 , t3) (6 : Int)).1)) + (Pl.turn (s4 , t4) (8 : Int)).1)) + (Pl.turn (s5 , t5) (10 : Int)).1)) (6 : Int))) (IntKind.i64.wrap (Int.tdiv (IntKind.i64.wrap ((IntKind.i64.wrap ((IntKind.i64.wrap ((IntKind.i64.wrap ((IntKind.i64.wrap ((IntKind.i64.wrap ((0 : Int) + (Pl.turn (s0 , t0) (0 : Int)).2)) + (Pl.turn (s1 , t1) (2 : Int)).2)) + (Pl.turn (s2 , t2) (4 : Int)).2)) + (Pl.turn (s3 , t3) (6 : Int)).2)) + (Pl.turn (s4 , t4) (8 : Int)).2)) + (Pl.turn (s5 , t5) (10 : Int)).2)) (6 : Int))) (65536 : Int)) != (0 : Int))
def oSteps_c9 (s0 t0 s1 t1 s2 t2 s3 t3 s4 t4 s5 t5 : Int) : Bool := ((Pl.parts (IntKind.i64.wrap (Int.tdiv (IntKind.i64.wrap ((IntKind.i64.wrap ((IntKind.i64.wrap ((IntKind.i64.wrap ((IntKind.i64.wrap ((IntKind.i64.wrap ((0 : Int) + (Pl.turn (s0 , t0) (0 : Int)).1)) + (Pl.turn (s1 , t1) (3 : Int)).1)) + (Pl.turn (s2 , t2) (6 : Int)).1)) + (Pl.turn (s3 , t3) (9 : Int)).1)) + (Pl.turn (s4 , t4) (12 : Int)).1)) + (Pl.turn (s5 , t5) (15 : Int)).1)) (6 : Int))) (IntKind.i64.wrap (Int.tdiv (IntKind.i64.wrap ((IntKind.i64.wrap ((IntKind.i64.wrap ((IntKind.i64.wrap ((IntKind.i64.wrap ((IntKind.i64.wrap ((0 : Int) + (Pl.turn (s0 , t0) (0 : Int)).2)) + (Pl.turn (s1 , t1) (3 : Int)).2)) + (Pl.turn (s2 , t2) (6 : Int)).2)) + (Pl.turn (s3 , t3) (9 : Int)).2)) + (Pl.turn (s4 , t4) (12 : Int)).2)) + (Pl.turn (s5 , t5) (15 : Int)).2)) (6 : Int))) (65536 : Int)) != (0 : Int))
def oSteps_c10 (s0 t0 s1 t1 s2 t2 s3 t3 s4 t4 s5 t5 : Int) : Bool := ((Pl.parts (IntKind.i64.wrap (Int.tdiv (IntKind.i64.wrap ((IntKind.i64.wrap ((IntKind.i64.wrap ((IntKind.i64.wrap ((IntKind.i64.wrap ((IntKind.i64.wrap ((0 : Int) + (Pl.turn (s0 , t0) (0 : Int)).1)) + (Pl.turn (s1 , t1) (4 : Int)).1)) + (Pl.turn (s2 , t2) (8 : Int)).1)) + (Pl.turn (s3 , t3) (12 : Int)).1)) + (Pl.turn (s4 , t4) (16 : Int)).1)) + (Pl.turn (s5 , t5) (20 : Int)).1)) (6 : Int))) (IntKind.i64.wrap (Int.tdiv (IntKind.i64.wrap ((IntKind.i64.wrap ((IntKind.i64.wrap ((IntKind.i64.wrap ((IntKind.i64.wrap ((IntKind.i64.wrap ((0 : Int) + (Pl.turn (s0 , t0) (0 : Int)).2)) + (Pl.turn (s1 , t1) (4 : Int)).2)) + (Pl.turn (s2 , t2) (8 : Int)).2)) + (Pl.turn (s3 , t3) (12 : Int)).2)) + (Pl.turn (s4 , t4) (16 : Int)).2)) + (Pl.turn (s5 , t5) (20 : Int)).2)) (6 : Int))) (65536 : Int)) != (0 : Int))
def oSteps_c11 (s0 t0 s1 t1 s2 t2 s3 t3 s4 t4 s5 t5 : Int) : Bool := ((Pl.parts (IntKind.i64.wrap (Int.tdiv (IntKind.i64.wrap ((IntKind.i64.wrap ((IntKind.i64.wrap ((IntKind.i64.wrap ((IntKind.i64.wrap ((IntKind.i64.wrap ((0 : Int) + (Pl.turn (s0 , t0) (0 : Int)).1)) + (Pl.turn (s1 , t1) (5 : Int)).1)) + (Pl.turn (s2 , t2) (10 : Int)).1)) + (Pl.turn (s3 , t3) (15 : Int)).1)) + (Pl.turn (s4 , t4) (20 : Int)).1)) + (Pl.turn (s5 , t5) (25 : Int)).1)) (6 : Int))) (IntKind.i64.wrap (Int.tdiv (IntKind.i64.wrap ((IntKind.i64.wrap ((IntKind.i64.wrap ((IntKind.i64.wrap ((IntKind.i64.wrap ((IntKind.i64.wrap ((0 : Int) + (Pl.turn (s0 , t0) (0 : Int)).2)) + (Pl.turn (s1 , t1) (5 : Int)).2)) + (Pl.turn (s2 , t2) (10 : Int)).2)) + (Pl.turn (s3 , t3) (15 : Int)).2)) + (Pl.turn (s4 , t4) (20 : Int)).2)) + (Pl.turn (s5 , t5) (25 : Int)).2)) (6 : Int))) (65536 : Int)) != (0 : Int))
def oSteps_b27 (s0 t0 s1 t1 s2 t2 s3 t3 s4 t4 s5 t5 : Int) : Prop := ((((-65536 : Int) ≤ (IntKind.i64.wrap (Int.tdiv (IntKind.i64.wrap ((IntKind.i64.wrap ((IntKind.i64.wrap ((IntKind.i64.wrap ((IntKind.i64.wrap ((IntKind.i64.wrap ((0 : Int) + (Pl.turn (s0 , t0) (0 : Int)).1)) + (Pl.turn (s1 , t1) (0 : Int)).1)) + (Pl.turn (s2 , t2) (0 : Int)).1)) + (Pl.turn (s3 , t3) (0 : Int)).1)) + (Pl.turn (s4 , t4) (0 : Int)).1)) + (Pl.turn (s5 , t5) (0 : Int)).1)) (6 : Int)))) ∧ ((IntKind.i64.wrap (Int.tdiv (IntKind.i64.wrap ((IntKind.i64.wrap ((IntKind.i64.wrap ((IntKind.i64.wrap ((IntKind.i64.wrap ((IntKind.i64.wrap ((0 : Int) + (Pl.turn (s0 , t0) (0 : Int)).1)) + (Pl.turn (s1 , t1) (0 : Int)).1)) + (Pl.turn (s2 , t2) (0 : Int)).1)) + (Pl.turn (s3 , t3) (0 : Int)).1)) + (Pl.turn (s4 , t4) (0 : Int)).1)) + (Pl.turn (s5 , t5) (0 : Int)).1)) (6 : Int))) ≤ (65536 : Int))) ∧ ((((-65536 : Int) ≤ (IntKind.i64.wrap (Int.tdiv (IntKind.i64.wrap ((IntKind.i64.wrap ((IntKind.i64.wrap ((IntKind.i64.wrap ((IntKind.i64.wrap ((IntKind.i64.wrap ((0 : Int) + (Pl.turn (s0 , t0) (0 : Int)).2)) + (Pl.turn (s1 , t1) (0 : Int)).2)) + (Pl.turn (s2 , t2) (0 : Int)).2)) + (Pl.turn (s3 , t3) (0 : Int)).2)) + (Pl.turn (s4 , t4) (0 : Int)).2)) + (Pl.turn (s5 , t5) (0 : Int)).2)) (6 : Int)))) ∧ ((IntKind.i64.wrap (Int.tdiv (IntKind.i64.wrap ((IntKind.i64.wrap ((IntKind.i64.wrap ((IntKind.i64.wrap ((IntKind.i64.wrap ((IntKind.i64.wrap ((0 : Int) + (Pl.turn (s0 , t0) (0 : Int)).2)) + (Pl.turn (s1 , t1) (0 : Int)).2)) + (Pl.turn (s2 , t2) (0 : Int)).2)) + (Pl.turn (s3 , t3) (0 : Int)).2)) + (Pl.turn (s4 , t4) (0 : Int)).2)) + (Pl.turn (s5 , t5) (0 : Int)).2)) (6 : Int))) ≤ (65536 : Int))) ∧ ((((-65536 : Int) ≤ (IntKind.i64.wrap (Int.tdiv (IntKind.i64.wrap ((IntKind.i64.wrap ((IntKind.i64.wrap ((IntKind.i64.wrap ((IntKind.i64.wrap ((IntKind.i64.wrap ((0 : Int) + (Pl.turn (s0 , t0) (0 : Int)).1)) + (Pl.turn (s1 , t1) (1 : Int)).1)) + (Pl.turn (s2 , t2) (2 : Int)).1)) + (Pl.turn (s3 , t3) (3 : Int)).1)) + (Pl.turn (s4 , t4) (4 : Int)).1)) + (Pl.turn (s5 , t5) (5 : Int)).1)) (6 : Int)))) ∧ ((IntKind.i64.wrap (Int.tdiv (IntKind.i64.wrap ((IntKind.i64.wrap ((IntKind.i64.wrap ((IntKind.i64.wrap ((IntKind.i64.wrap ((IntKind.i64.wrap ((0 : Int) + (Pl.turn (s0 , t0) (0 : Int)).1)) + (Pl.turn (s1 , t1) (1 : Int)).1)) + (Pl.turn (s2 , t2) (2 : Int)).1)) + (Pl.turn (s3 , t3) (3 : Int)).1)) + (Pl.turn (s4 , t4) (4 : Int)).1)) + (Pl.turn (s5 , t5) (5 : Int)).1)) (6 : Int))) ≤ (65536 : Int))) ∧ ((((-65536 : Int) ≤ (IntKind.i64.wrap (Int.tdiv (IntKind.i64.wrap ((IntKind.i64.wrap ((IntKind.i64.wrap ((IntKind.i64.wrap ((IntKind.i64.wrap ((IntKind.i64.wrap ((0 : Int) + (Pl.turn (s0 , t0) (0 : Int)).2)) + (Pl.turn (s1 , t1) (1 : Int)).2)) + (Pl.turn (s2 , t2) (2 : Int)).2)) + (Pl.turn (s3 , t3) (3 : Int)).2)) + (Pl.turn (s4 , t4) (4 : Int)).2)) + (Pl.turn (s5 , t5) (5 : Int)).2)) (6 : Int)))) ∧ ((IntKind.i64.wrap (Int.tdiv (IntKind.i64.wrap ((IntKind.i64.wrap ((IntKind.i64.wrap ((IntKind.i64.wrap ((IntKind.i64.wrap ((IntKind.i64.wrap ((0 : Int) + (Pl.turn (s0 , t0) (0 : Int)).2)) + (Pl.turn (s1 , t1) (1 : Int)).2)) + (Pl.turn (s2 , t2) (2 : Int)).2)) + (Pl.turn (s3 , t3) (3 : Int)).2)) + (Pl.turn (s4 , t4) (4 : Int)).2)) + (Pl.turn (s5 , t5) (5 : Int)).2)) (6 : Int))) ≤ (65536 : Int))) ∧ ((((-65536 : Int) ≤ (IntKind.i64.wrap (Int.tdiv (IntKind.i64.wrap ((IntKind.i64.wrap ((IntKind.i64.wrap ((IntKind.i64.wrap ((IntKind.i64.wrap ((IntKind.i64.wrap ((0 : Int) + (Pl.turn (s0 , t0) (0 : Int)).1)) + (Pl.turn (s1 , t1) (2 : Int)).1)) + (Pl.turn (s2 , t2) (4 : Int)).1)) + (Pl.turn (s3 , t3) (6 : Int)).1)) + (Pl.turn (s4 , t4) (8 : Int)).1)) + (Pl.turn (s5 , t5) (10 : Int)).1)) (6 : Int)))) ∧ ((IntKind.i64.wrap (Int.tdiv (IntKind.i64.wrap ((IntKind.i64.wrap ((IntKind.i64.wrap ((IntKind.i64.wrap ((IntKind.i64.wrap ((IntKind.i64.wrap ((0 : Int) + (Pl.turn (s0 , t0) (0 : Int)).1)) + (Pl.turn (s1 , t1) (2 : Int)).1)) + (Pl.turn (s2 , t2) (4 : Int)).1)) + (Pl.turn (s3 , t3) (6 : Int)).1)) + (Pl.turn (s4 , t4) (8 : Int)).1)) + (Pl.turn (s5 , t5) (10 : Int)).1)) (6 : Int))) ≤ (65536 : Int))) ∧ ((((-65536 : Int) ≤ (IntKind.i64.wrap (Int.tdiv (IntKind.i64.wrap ((IntKind.i64.wrap ((IntKind.i64.wrap ((IntKind.i64.wrap ((IntKind.i64.wrap ((IntKind.i64.wrap ((0 : Int) + (Pl.turn (s0 , t0) (0 : Int)).2)) + (Pl.turn (s1 , t1) (2 : Int)).2)) + (Pl.turn (s2 , t2) (4 : Int)).2)) + (Pl.turn (s3 , t3) (6 : Int)).2)) + (Pl.turn (s4 , t4) (8 : Int)).2)) + (Pl.turn (s5 , t5) (10 : Int)).2)) (6 : Int)))) ∧ ((IntKind.i64.wrap (Int.tdiv (IntKind.i64.wrap ((IntKind.i64.wrap ((IntKind.i64.wrap ((IntKind.i64.wrap ((IntKind.i64.wrap ((IntKind.i64.wrap ((0 : Int) + (Pl.turn (s0 , t0) (0 : Int)).2)) + (Pl.turn (s1 , t1) (2 : Int)).2)) + (Pl.turn (s2 , t2) (4 : Int)).2)) + (Pl.turn (s3 , t3) (6 : Int)).2)) + (Pl.turn (s4 , t4) (8 : Int)).2)) + (Pl.turn (s5 , t5) (10 : Int)).2)) (6 : Int))) ≤ (65536 : Int))) ∧ ((((-65536 : Int) ≤ (IntKind.i64.wrap (Int.tdiv (IntKind.i64.wrap ((IntKind.i64.wrap ((IntKind.i64.wrap ((IntKind.i64.wrap ((IntKind.i64.wrap ((IntKind.i64.wrap ((0 : Int) + (Pl.turn (s0 , t0) (0 : Int)).1)) + (Pl.turn (s1 , t1) (3 : Int)).1)) + (Pl.turn (s2 , t2) (6 : Int)).1)) + (Pl.turn (s3 , t3) (9 : Int)).1)) + (Pl.turn (s4 , t4) (12 : Int)).1)) + (Pl.turn (s5 , t5) (15 : Int)).1)) (6 : Int)))) ∧ ((IntKind.i64.wrap (Int.tdiv (IntKind.i64.wrap ((IntKind.i64.wrap ((IntKind.i64.wrap ((IntKind.i64.wrap ((IntKind.i64.wrap ((IntKind.i64.wrap ((0 : Int) + (Pl.turn (s0 , t0) (0 : Int)).1)) + (Pl.turn (s1 , t1) (3 : Int)).1)) + (Pl.turn (s2 , t2) (6 : Int)).1)) + (Pl.turn (s3 , t3) (9 : Int)).1)) + (Pl.turn (s4 , t4) (12 : Int)).1)) + (Pl.turn (s5 , t5) (15 : Int)).1)) (6 : Int))) ≤ (65536 : Int))) ∧ ((((-65536 : Int) ≤ (IntKind.i64.wrap (Int.tdiv (IntKind.i64.wrap ((IntKind.i64.wrap ((IntKind.i64.wrap ((IntKind.i64.wrap ((IntKind.i64.wrap ((IntKind.i64.wrap ((0 : Int) + (Pl.turn (s0 , t0) (0 : Int)).2)) + (Pl.turn (s1 , t1) (3 : Int)).2)) + (Pl.turn (s2 , t2) (6 : Int)).2)) + (Pl.turn (s3 , t3) (9 : Int)).2)) + (Pl.turn (s4 , t4) (12 : Int)).2)) + (Pl.turn (s5 , t5) (15 : Int)).2)) (6 : Int)))) ∧ ((IntKind.i64.wrap (Int.tdiv (IntKind.i64.wrap ((IntKind.i64.wrap ((IntKind.i64.wrap ((IntKind.i64.wrap ((IntKind.i64.wrap ((IntKind.i64.wrap ((0 : Int) + (Pl.turn (s0 , t0) (0 : Int)).2)) + (Pl.turn (s1 , t1) (3 : Int)).2)) + (Pl.turn (s2 , t2) (6 : Int)).2)) + (Pl.turn (s3 , t3) (9 : Int)).2)) + (Pl.turn (s4 , t4) (12 : Int)).2)) + (Pl.turn (s5 , t5) (15 : Int)).2)) (6 : Int))) ≤ (65536 : Int))) ∧ ((((-65536 : Int) ≤ (IntKind.i64.wrap (Int.tdiv (IntKind.i64.wrap ((IntKind.i64.wrap ((IntKind.i64.wrap ((IntKind.i64.wrap ((IntKind.i64.wrap ((IntKind.i64.wrap ((0 : Int) + (Pl.turn (s0 , t0) (0 : Int)).1)) + (Pl.turn (s1 , t1) (4 : Int)).1)) + (Pl.turn (s2 , t2) (8 : Int)).1)) + (Pl.turn (s3 , t3) (12 : Int)).1)) + (Pl.turn (s4 , t4) (16 : Int)).1)) + (Pl.turn (s5 , t5) (20 : Int)).1)) (6 : Int)))) ∧ ((IntKind.i64.wrap (Int.tdiv (IntKind.i64.wrap ((IntKind.i64.wrap ((IntKind.i64.wrap ((IntKind.i64.wrap ((IntKind.i64.wrap ((IntKind.i64.wrap ((0 : Int) + (Pl.turn (s0 , t0) (0 : Int)).1)) + (Pl.turn (s1 , t1) (4 : Int)).1)) + (Pl.turn (s2 , t2) (8 : Int)).1)) + (Pl.turn (s3 , t3) (12 : Int)).1)) + (Pl.turn (s4 , t4) (16 : Int)).1)) + (Pl.turn (s5 , t5) (20 : Int)).1)) (6 : Int))) ≤ (65536 : Int))) ∧ ((((-65536 : Int) ≤ (IntKind.i64.wrap (Int.tdiv (IntKind.i64.wrap ((IntKind.i64.wrap ((IntKind.i64.wrap ((IntKind.i64.wrap ((IntKind.i64.wrap ((IntKind.i64.wrap ((0 : Int) + (Pl.turn (s0 , t0) (0 : Int)).2)) + (Pl.turn (s1 , t1) (4 : Int)).2)) + (Pl.turn (s2 , t2) (8 : Int)).2)) + (Pl.turn (s3 , t3) (12 : Int)).2)) + (Pl.turn (s4 , t4) (16 : Int)).2)) + (Pl.turn (s5 , t5) (20 : Int)).2)) (6 : Int)))) ∧ ((IntKind.i64.wrap (Int.tdiv (IntKind.i64.wrap ((IntKind.i64.wrap ((IntKind.i64.wrap ((IntKind.i64.wrap ((IntKind.i64.wrap ((IntKind.i64.wrap ((0 : Int) + (Pl.turn (s0 , t0) (0 : Int)).2)) + (Pl.turn (s1 , t1) (4 : Int)).2)) + (Pl.turn (s2 , t2) (8 : Int)).2)) + (Pl.turn (s3 , t3) (12 : Int)).2)) + (Pl.turn (s4 , t4) (16 : Int)).2)) + (Pl.turn (s5 , t5) (20 : Int)).2)) (6 : Int))) ≤ (65536 : Int))) ∧ ((((-65536 : Int) ≤ (IntKind.i64.wrap (Int.tdiv (IntKind.i64.wrap ((IntKind.i64.wrap ((IntKind.i64.wrap ((IntKind.i64.wrap ((IntKind.i64.wrap ((IntKind.i64.wrap ((0 : Int) + (Pl.turn (s0 , t0) (0 : Int)).1)) + (Pl.turn (s1 , t1) (5 : Int)).1)) + (Pl.turn (s2 , t2) (10 : Int)).1)) + (Pl.turn (s3 , t3) (15 : Int)).1)) + (Pl.turn (s4 , t4) (20 : Int)).1)) + (Pl.turn (s5 , t5) (25 : Int)).1)) (6 : Int)))) ∧ ((IntKind.i64.wrap (Int.tdiv (IntKind.i64.wrap ((IntKind.i64.wrap ((IntKind.i64.wrap ((IntKind.i64.wrap ((IntKind.i64.wrap ((IntKind.i64.wrap ((0 : Int) + (Pl.turn (s0 , t0) (0 : Int)).1)) + (Pl.turn (s1 , t1) (5 : Int)).1)) + (Pl.turn (s2 , t2) (10 : Int)).1)) + (Pl.turn (s3 , t3) (15 : Int)).1)) + (Pl.turn (s4 , t4) (20 : Int)).1)) + (Pl.turn (s5 , t5) (25 : Int)).1)) (6 : Int))) ≤ (65536 : Int))) ∧ (((-65536 : Int) ≤ (IntKind.i64.wrap (Int.tdiv (IntKind.i64.wrap ((IntKind.i64.wrap ((IntKind.i64.wrap ((IntKind.i64.wrap ((IntKind.i64.wrap ((IntKind.i64.wrap ((0 : Int) + (Pl.turn (s0 , t0) (0 : Int)).2)) + (Pl.turn (s1 , t1) (5 : Int)).2)) + (Pl.turn (s2 , t2) (10 : Int)).2)) + (Pl.turn (s3 , t3) (15 : Int)).2)) + (Pl.turn (s4 , t4) (20 : Int)).2)) + (Pl.turn (s5 , t5) (25 : Int)).2)) (6 : Int)))) ∧ ((IntKind.i64.wrap (Int.tdiv (IntKind.i64.wrap ((IntKind.i64.wrap ((IntKind.i64.wrap ((IntKind.i64.wrap ((IntKind.i64.wrap ((IntKind.i64.wrap ((0 : Int) + (Pl.turn (s0 , t0) (0 : Int)).2)) + (Pl.turn (s1 , t1) (5 : Int)).2)) + (Pl.turn (s2 , t2) (10 : Int)).2)) + (Pl.turn (s3 , t3) (15 : Int)).2)) + (Pl.turn (s4 , t4) (20 : Int)).2)) + (Pl.turn (s5 , t5) (25 : Int)).2)) (6 : Int))) ≤ (65536 : Int))))))))))))))
def oSteps_c12 (s0 t0 s1 t1 s2 t2 s3 t3 s4 t4 s5 t5 : Int) : Bool := (Bool.not (Bool.and (Bool.and (((((((IntKind.i64.wrap (Int.tdiv (IntKind.i64.wrap ((IntKind.i64.wrap ((IntKind.i64.wrap ((IntKind.i64.wrap ((IntKind.i64.wrap ((IntKind.i64.wrap ((0 : Int) + (Pl.turn (s0 , t0) (0 : Int)).1)) + (Pl.turn (s1 , t1) (0 : Int)).1)) + (Pl.turn (s2 , t2) (0 : Int)).1)) + (Pl.turn (s3 , t3) (0 : Int)).1)) + (Pl.turn (s4 , t4) (0 : Int)).1)) + (Pl.turn (s5 , t5) (0 : Int)).1)) (6 : Int))) + (IntKind.i64.wrap (Int.tdiv (IntKind.i64.wrap ((IntKind.i64.wrap ((IntKind.i64.wrap ((IntKind.i64.wrap ((IntKind.i64.wrap ((IntKind.i64.wrap ((0 : Int) + (Pl.turn (s0 , t0) (0 : Int)).1)) + (Pl.turn (s1 , t1) (1 : Int)).1)) + (Pl.turn (s2 , t2) (2 : Int)).1)) + (Pl.turn (s3 , t3) (3 : Int)).1)) + (Pl.turn (s4 , t4) (4 : Int)).1)) + (Pl.turn (s5 , t5) (5 : Int)).1)) (6 : Int)))) + (IntKind.i64.wrap (Int.tdiv (IntKind.i64.wrap ((IntKind.i64.wrap ((IntKind.i64.wrap ((IntKind.i64.wrap ((IntKind.i64.wrap ((IntKind.i64.wrap ((0 : Int) + (Pl.turn (s0 , t0) (0 : Int)).1)) + (Pl.turn (s1 , t1) (2 : Int)).1)) + (Pl.turn (s2 , t2) (4 : Int)).1)) + (Pl.turn (s3 , t3) (6 : Int)).1)) + (Pl.turn (s4 , t4) (8 : Int)).1)) + (Pl.turn (s5 , t5) (10 : Int)).1)) (6 : Int)))) + (IntKind.i64.wrap (Int.tdiv (IntKind.i64.wrap ((IntKind.i64.wrap ((IntKind.i64.wrap ((IntKind.i64.wrap ((IntKind.i64.wrap ((IntKind.i64.wrap ((0 : Int) + (Pl.turn (s0 , t0) (0 : Int)).1)) + (Pl.turn (s1 , t1) (3 : Int)).1)) + (Pl.turn (s2 , t2) (6 : Int)).1)) + (Pl.turn (s3 , t3) (9 : Int)).1)) + (Pl.turn (s4 , t4) (12 : Int)).1)) + (Pl.turn (s5 , t5) (15 : Int)).1)) (6 : Int)))) + (IntKind.i64.wrap (Int.tdiv (IntKind.i64.wrap ((IntKind.i64.wrap ((IntKind.i64.wrap ((IntKind.i64.wrap ((IntKind.i64.wrap ((IntKind.i64.wrap ((0 : Int) + (Pl.turn (s0 , t0) (0 : Int)).1)) + (Pl.turn (s1 , t1) (4 : Int)).1)) + (Pl.turn (s2 , t2) (8 : Int)).1)) + (Pl.turn (s3 , t3) (12 : Int)).1)) + (Pl.turn (s4 , t4) (16 : Int)).1)) + (Pl.turn (s5 , t5) (20 : Int)).1)) (6 : Int)))) + (IntKind.i64.wrap (Int.tdiv (IntKind.i64.wrap ((IntKind.i64.wrap ((IntKind.i64.wrap ((IntKind.i64.wrap ((IntKind.i64.wrap ((IntKind.i64.wrap ((0 : Int) + (Pl.turn (s0 , t0) (0 : Int)).1)) + (Pl.turn (s1 , t1) (5 : Int)).1)) + (Pl.turn (s2 , t2) (10 : Int)).1)) + (Pl.turn (s3 , t3) (15 : Int)).1)) + (Pl.turn (s4 , t4) (20 : Int)).1)) + (Pl.turn (s5 , t5) (25 : Int)).1)) (6 : Int)))) == s0) (Bool.and (((((((IntKind.i64.wrap (Int.tdiv (IntKind.i64.wrap ((IntKind.i64.wrap ((IntKind.i64.wrap ((IntKind.i64.wrap ((IntKind.i64.wrap ((IntKind.i64.wrap ((0 : Int) + (Pl.turn (s0 , t0) (0 : Int)).2)) + (Pl.turn (s1 , t1) (0 : Int)).2)) + (Pl.turn (s2 , t2) (0 : Int)).2)) + (Pl.turn (s3 , t3) (0 : Int)).2)) + (Pl.turn (s4 , t4) (0 : Int)).2)) + (Pl.turn (s5 , t5) (0 : Int)).2)) (6 : Int))) + (IntKind.i64.wrap (Int.tdiv (IntKind.i64.wrap ((IntKind.i64.wrap ((IntKind.i64.wrap ((IntKind.i64.wrap ((IntKind.i64.wrap ((IntKind.i64.wrap ((0 : Int) + (Pl.turn (s0 , t0) (0 : Int)).2)) + (Pl.turn (s1 , t1) (1 : Int)).2)) + (Pl.turn (s2 , t2) (2 : Int)).2)) + (Pl.turn (s3 , t3) (3 : Int)).2)) + (Pl.turn (s4 , t4) (4 : Int)).2)) + (Pl.turn (s5 , t5) (5 : Int)).2)) (6 : Int)))) + (IntKind.i64.wrap (Int.tdiv (IntKind.i64.wrap ((IntKind.i64.wrap ((IntKind.i64.wrap ((IntKind.i64.wrap ((IntKind.i64.wrap ((IntKind.i64.wrap ((0 : Int) + (Pl.turn (s0 , t0) (0 : Int)).2)) + (Pl.turn (s1 , t1) (2 : Int)).2)) + (Pl.turn (s2 , t2) (4 : Int)).2)) + (Pl.turn (s3 , t3) (6 : Int)).2)) + (Pl.turn (s4 , t4) (8 : Int)).2)) + (Pl.turn (s5 , t5) (10 : Int)).2)) (6 : Int)))) + (IntKind.i64.wrap (Int.tdiv (IntKind.i64.wrap ((IntKind.i64.wrap ((IntKind.i64.wrap ((IntKind.i64.wrap ((IntKind.i64.wrap ((IntKind.i64.wrap ((0 : Int) + (Pl.turn (s0 , t0) (0 : Int)).2)) + (Pl.turn (s1 , t1) (3 : Int)).2)) + (Pl.turn (s2 , t2) (6 : Int)).2)) + (Pl.turn (s3 , t3) (9 : Int)).2)) + (Pl.turn (s4 , t4) (12 : Int)).2)) + (Pl.turn (s5 , t5) (15 : Int)).2)) (6 : Int)))) + (IntKind.i64.wrap (Int.tdiv (IntKind.i64.wrap ((IntKind.i64.wrap ((IntKind.i64.wrap ((IntKind.i64.wrap ((IntKind.i64.wrap ((IntKind.i64.wrap ((0 : Int) + (Pl.turn (s0 , t0) (0 : Int)).2)) + (Pl.turn (s1 , t1) (4 : Int)).2)) + (Pl.turn (s2 , t2) (8 : Int)).2)) + (Pl.turn (s3 , t3) (12 : Int)).2)) + (Pl.turn (s4 , t4) (16 : Int)).2)) + (Pl.turn (s5 , t5) (20 : Int)).2)) (6 : Int)))) + (IntKind.i64.wrap (Int.tdiv (IntKind.i64.wrap ((IntKind.i64.wrap ((IntKind.i64.wrap ((IntKind.i64.wrap ((IntKind.i64.wrap ((IntKind.i64.wrap ((0 : Int) + (Pl.turn (s0 , t0) (0 : Int)).2)) + (Pl.turn (s1 , t1) (5 : Int)).2)) + (Pl.turn (s2 , t2) (10 : Int)).2)) + (Pl.turn (s3 , t3) (15 : Int)).2)) + (Pl.turn (s4 , t4) (20 : Int)).2)) + (Pl.turn (s5 , t5) (25 : Int)).2)) (6 : Int)))) == t0) Bool.true)) (Bool.and (Bool.and (((((((((IntKind.i64.wrap (Int.tdiv (IntKind.i64.wrap ((IntKind.i64.wrap ((IntKind.i64.wrap ((IntKind.i64.wrap ((IntKind.i64.wrap ((IntKind.i64.wrap ((0 : Int) + (Pl.turn (s0 , t0) (0 : Int)).1)) + (Pl.turn (s1 , t1) (0 : Int)).1)) + (Pl.turn (s2 , t2) (0 : Int)).1)) + (Pl.turn (s3 , t3) (0 : Int)).1)) + (Pl.turn (s4 , t4) (0 : Int)).1)) + (Pl.turn (s5 , t5) (0 : Int)).1)) (6 : Int))) + (IntKind.i64.wrap (Int.tdiv (IntKind.i64.wrap ((IntKind.i64.wrap ((IntKind.i64.wrap ((IntKind.i64.wrap ((IntKind.i64.wrap ((IntKind.i64.wrap ((0 : Int) + (Pl.turn (s0 , t0) (0 : Int)).2)) + (Pl.turn (s1 , t1) (1 : Int)).2)) + (Pl.turn (s2 , t2) (2 : Int)).2)) + (Pl.turn (s3 , t3) (3 : Int)).2)) + (Pl.turn (s4 , t4) (4 : Int)).2)) + (Pl.turn (s5 , t5) (5 : Int)).2)) (6 : Int)))) - (IntKind.i64.wrap (Int.tdiv (IntKind.i64.wrap ((IntKind.i64.wrap ((IntKind.i64.wrap ((IntKind.i64.wrap ((IntKind.i64.wrap ((IntKind.i64.wrap ((0 : Int) + (Pl.turn (s0 , t0) (0 : Int)).1)) + (Pl.turn (s1 , t1) (2 : Int)).1)) + (Pl.turn (s2 , t2) (4 : Int)).1)) + (Pl.turn (s3 , t3) (6 : Int)).1)) + (Pl.turn (s4 , t4) (8 : Int)).1)) + (Pl.turn (s5 , t5) (10 : Int)).1)) (6 : Int)))) + (IntKind.i64.wrap (Int.tdiv (IntKind.i64.wrap ((IntKind.i64.wrap ((IntKind.i64.wrap ((IntKind.i64.wrap ((IntKind.i64.wrap ((IntKind.i64.wrap ((0 : Int) + (Pl.turn (s0 , t0) (0 : Int)).2)) + (Pl.turn (s1 , t1) (2 : Int)).2)) + (Pl.turn (s2 , t2) (4 : Int)).2)) + (Pl.turn (s3 , t3) (6 : Int)).2)) + (Pl.turn (s4 , t4) (8 : Int)).2)) + (Pl.turn (s5 , t5) (10 : Int)).2)) (6 : Int)))) - (IntKind.i64.wrap (Int.tdiv (IntKind.i64.wrap ((IntKind.i64.wrap ((IntKind.i64.wrap ((IntKind.i64.wrap ((IntKind.i64.wrap ((IntKind.i64.wrap ((0 : Int) + (Pl.turn (s0 , t0) (0 : Int)).1)) + (Pl.turn (s1 , t1) (3 : Int)).1)) + (Pl.turn (s2 , t2) (6 : Int)).1)) + (Pl.turn (s3 , t3) (9 : Int)).1)) + (Pl.turn (s4 , t4) (12 : Int)).1)) + (Pl.turn (s5 , t5) (15 : Int)).1)) (6 : Int)))) - (IntKind.i64.wrap (Int.tdiv (IntKind.i64.wrap ((IntKind.i64.wrap ((IntKind.i64.wrap ((IntKind.i64.wrap ((IntKind.i64.wrap ((IntKind.i64.wrap ((0 : Int) + (Pl.turn (s0 , t0) (0 : Int)).2)) + (Pl.turn (s1 , t1) (4 : Int)).2)) + (Pl.turn (s2 , t2) (8 : Int)).2)) + (Pl.turn (s3 , t3) (12 : Int)).2)) + (Pl.turn (s4 , t4) (16 : Int)).2)) + (Pl.turn (s5 , t5) (20 : Int)).2)) (6 : Int)))) + (IntKind.i64.wrap (Int.tdiv (IntKind.i64.wrap ((IntKind.i64.wrap ((IntKind.i64.wrap ((IntKind.i64.wrap ((IntKind.i64.wrap ((IntKind.i64.wrap ((0 : Int) + (Pl.turn (s0 , t0) (0 : Int)).1)) + (Pl.turn (s1 , t1) (5 : Int)).1)) + (Pl.turn (s2 , t2) (10 : Int)).1)) + (Pl.turn (s3 , t3) (15 : Int)).1)) + (Pl.turn (s4 , t4) (20 : Int)).1)) + (Pl.turn (s5 , t5) (25 : Int)).1)) (6 : Int)))) - (IntKind.i64.wrap (Int.tdiv (IntKind.i64.wrap ((IntKind.i64.wrap ((IntKind.i64.wrap ((IntKind.i64.wrap ((IntKind.i64.wrap ((IntKind.i64.wrap ((0 : Int) + (Pl.turn (s0 , t0) (0 : Int)).2)) + (Pl.turn (s1 , t1) (5 : Int)).2)) + (Pl.turn (s2 , t2) (10 : Int)).2)) + (Pl.turn (s3 , t3) (15 : Int)).2)) + (Pl.turn (s4 , t4) (20 : Int)).2)) + (Pl.turn (s5 , t5) (25 : Int)).2)) (6 : Int)))) == s1) (Bool.and (((((((((IntKind.i64.wrap (Int.tdiv (IntKind.i64.wrap ((IntKind.i64.wrap ((IntKind.i64.wrap ((IntKind.i64.wrap ((IntKind.i64.wrap ((IntKind.i64.wrap ((0 : Int) + (Pl.turn (s0 , t0) (0 : Int)).2)) + (Pl.turn (s1 , t1) (0 : Int)).2)) + (Pl.turn (s2 , t2) (0 : Int)).2)) + (Pl.turn (s3 , t3) (0 : Int)).2)) + (Pl.turn (s4 , t4) (0 : Int)).2)) + (Pl.turn (s5 , t5) (0 : Int)).2)) (6 : Int))) - (IntKind.i64.wrap (Int.tdiv (IntKind.i64.wrap ((IntKind.i64.wrap ((IntKind.i64.wrap ((IntKind.i64.wrap ((IntKind.i64.wrap ((IntKind.i64.wrap ((0 : Int) + (Pl.turn (s0 , t0) (0 : Int)).1)) + (Pl.turn (s1 , t1) (1 : Int)).1)) + (Pl.turn (s2 , t2) (2 : Int)).1)) + (Pl.turn (s3 , t3) (3 : Int)).1)) + (Pl.turn (s4 , t4) (4 : Int)).1)) + (Pl.turn (s5 , t5) (5 : Int)).1)) (6 : Int)))) + (IntKind.i64.wrap (Int.tdiv (IntKind.i64.wrap ((IntKind.i64.wrap ((IntKind.i64.wrap ((IntKind.i64.wrap ((IntKind.i64.wrap ((IntKind.i64.wrap ((0 : Int) + (Pl.turn (s0 , t0) (0 : Int)).2)) + (Pl.turn (s1 , t1) (1 : Int)).2)) + (Pl.turn (s2 , t2) (2 : Int)).2)) + (Pl.turn (s3 , t3) (3 : Int)).2)) + (Pl.turn (s4 , t4) (4 : Int)).2)) + (Pl.turn (s5 , t5) (5 : Int)).2)) (6 : Int)))) - (IntKind.i64.wrap (Int.tdiv (IntKind.i64.wrap ((IntKind.i64.wrap ((IntKind.i64.wrap ((IntKind.i64.wrap ((IntKind.i64.wrap ((IntKind.i64.wrap ((0 : Int) + (Pl.turn (s0 , t0) (0 : Int)).1)) + (Pl.turn (s1 , t1) (2 : Int)).1)) + (Pl.turn (s2 , t2) (4 : Int)).1)) + (Pl.turn (s3 , t3) (6 : Int)).1)) + (Pl.turn (s4 , t4) (8 : Int)).1)) + (Pl.turn (s5 , t5) (10 : Int)).1)) (6 : Int)))) - (IntKind.i64.wrap (Int.tdiv (IntKind.i64.wrap ((IntKind.i64.wrap ((IntKind.i64.wrap ((IntKind.i64.wrap ((IntKind.i64.wrap ((IntKind.i64.wrap ((0 : Int) + (Pl.turn (s0 , t0) (0 : Int)).2)) + (Pl.turn (s1 , t1) (3 : Int)).2)) + (Pl.turn (s2 , t2) (6 : Int)).2)) + (Pl.turn (s3 , t3) (9 : Int)).2)) + (Pl.turn (s4 , t4) (12 : Int)).2)) + (Pl.turn (s5 , t5) (15 : Int)).2)) (6 : Int)))) + (IntKind.i64.wrap (Int.tdiv (IntKind.i64.wrap ((IntKind.i64.wrap ((IntKind.i64.wrap ((IntKind.i64.wrap ((IntKind.i64.wrap ((IntKind.i64.wrap ((0 : Int) + (Pl.turn (s0 , t0) (0 : Int)).1)) + (Pl.turn (s1 , t1) (4 : Int)).1)) + (Pl.turn (s2 , t2) (8 : Int)).1)) + (Pl.turn (s3 , t3) (12 : Int)).1)) + (Pl.turn (s4 , t4) (16 : Int)).1)) + (Pl.turn (s5 , t5) (20 : Int)).1)) (6 : Int)))) - (IntKind.i64.wrap (Int.tdiv (IntKind.i64.wrap ((IntKind.i64.wrap ((IntKind.i64.wrap ((IntKind.i64.wrap ((IntKind.i64.wrap ((IntKind.i64.wrap ((0 : Int) + (Pl.turn (s0 , t0) (0 : Int)).2)) + (Pl.turn (s1 , t1) (4 : Int)).2)) + (Pl.turn (s2 , t2) (8 : Int)).2)) + (Pl.turn (s3 , t3) (12 : Int)).2)) + (Pl.turn (s4 , t4) (16 : Int)).2)) + (Pl.turn (s5 , t5) (20 : Int)).2)) (6 : Int)))) + (IntKind.i64.wrap (Int.tdiv (IntKind.i64.wrap ((IntKind.i64.wrap ((IntKind.i64.wrap ((IntKind.i64.wrap ((IntKind.i64.wrap ((IntKind.i64.wrap ((0 : Int) + (Pl.turn (s0 , t0) (0 : Int)).1)) + (Pl.turn (s1 , t1) (5 : Int)).1)) + (Pl.turn (s2 , t2) (10 : Int)).1)) + (Pl.turn (s3 , t3) (15 : Int)).1)) + (Pl.turn (s4 , t4) (20 : Int)).1)) + (Pl.turn (s5 , t5) (25 : Int)).1)) (6 : Int)))) == t1) Bool.true)) (Bool.and (Bool.and (((((((((IntKind.i64.wrap (Int.tdiv (IntKind.i64.wrap ((IntKind.i64.wrap ((IntKind.i64.wrap ((IntKind.i64.wrap ((IntKind.i64.wrap ((IntKind.i64.wrap ((0 : Int) + (Pl.turn (s0 , t0) (0 : Int)).1)) + (Pl.turn (s1 , t1) (0 : Int)).1)) + (Pl.turn (s2 , t2) (0 : Int)).1)) + (Pl.turn (s3 , t3) (0 : Int)).1)) + (Pl.turn (s4 , t4) (0 : Int)).1)) + (Pl.turn (s5 , t5) (0 : Int)).1)) (6 : Int))) - (IntKind.i64.wrap (Int.tdiv (IntKind.i64.wrap ((IntKind.i64.wrap ((IntKind.i64.wrap ((IntKind.i64.wrap ((IntKind.i64.wrap ((IntKind.i64.wrap ((0 : Int) + (Pl.turn (s0 , t0) (0 : Int)).1)) + (Pl.turn (s1 , t1) (1 : Int)).1)) + (Pl.turn (s2 , t2) (2 : Int)).1)) + (Pl.turn (s3 , t3) (3 : Int)).1)) + (Pl.turn (s4 , t4) (4 : Int)).1)) + (Pl.turn (s5 , t5) (5 : Int)).1)) (6 : Int)))) + (IntKind.i64.wrap (Int.tdiv (IntKind.i64.wrap ((IntKind.i64.wrap ((IntKind.i64.wrap ((IntKind.i64.wrap ((IntKind.i64.wrap ((IntKind.i64.wrap ((0 : Int) + (Pl.turn (s0 , t0) (0 : Int)).2)) + (Pl.turn (s1 , t1) (1 : Int)).2)) + (Pl.turn (s2 , t2) (2 : Int)).2)) + (Pl.turn (s3 , t3) (3 : Int)).2)) + (Pl.turn (s4 , t4) (4 : Int)).2)) + (Pl.turn (s5 , t5) (5 : Int)).2)) (6 : Int)))) - (IntKind.i64.wrap (Int.tdiv (IntKind.i64.wrap ((IntKind.i64.wrap ((IntKind.i64.wrap ((IntKind.i64.wrap ((IntKind.i64.wrap ((IntKind.i64.wrap ((0 : Int) + (Pl.turn (s0 , t0) (0 : Int)).2)) + (Pl.turn (s1 , t1) (2 : Int)).2)) + (Pl.turn (s2 , t2) (4 : Int)).2)) + (Pl.turn (s3 , t3) (6 : Int)).2)) + (Pl.turn (s4 , t4) (8 : Int)).2)) + (Pl.turn (s5 , t5) (10 : Int)).2)) (6 : Int)))) + (IntKind.i64.wrap (Int.tdiv (IntKind.i64.wrap ((IntKind.i64.wrap ((IntKind.i64.wrap ((IntKind.i64.wrap ((IntKind.i64.wrap ((IntKind.i64.wrap ((0 : Int) + (Pl.turn (s0 , t0) (0 : Int)).1)) + (Pl.turn (s1 , t1) (3 : Int)).1)) + (Pl.turn (s2 , t2) (6 : Int)).1)) + (Pl.turn (s3 , t3) (9 : Int)).1)) + (Pl.turn (s4 , t4) (12 : Int)).1)) + (Pl.turn (s5 , t5) (15 : Int)).1)) (6 : Int)))) - (IntKind.i64.wrap (Int.tdiv (IntKind.i64.wrap ((IntKind.i64.wrap ((IntKind.i64.wrap ((IntKind.i64.wrap ((IntKind.i64.wrap ((IntKind.i64.wrap ((0 : Int) + (Pl.turn (s0 , t0) (0 : Int)).1)) + (Pl.turn (s1 , t1) (4 : Int)).1)) + (Pl.turn (s2 , t2) (8 : Int)).1)) + (Pl.turn (s3 , t3) (12 : Int)).1)) + (Pl.turn (s4 , t4) (16 : Int)).1)) + (Pl.turn (s5 , t5) (20 : Int)).1)) (6 : Int)))) + (IntKind.i64.wrap (Int.tdiv (IntKind.i64.wrap ((IntKind.i64.wrap ((IntKind.i64.wrap ((IntKind.i64.wrap ((IntKind.i64.wrap ((IntKind.i64.wrap ((0 : Int) + (Pl.turn (s0 , t0) (0 : Int)).2)) + (Pl.turn (s1 , t1) (4 : Int)).2)) + (Pl.turn (s2 , t2) (8 : Int)).2)) + (Pl.turn (s3 , t3) (12 : Int)).2)) + (Pl.turn (s4 , t4) (16 : Int)).2)) + (Pl.turn (s5 , t5) (20 : Int)).2)) (6 : Int)))) - (IntKind.i64.wrap (Int.tdiv (IntKind.i64.wrap ((IntKind.i64.wrap ((IntKind.i64.wrap ((IntKind.i64.wrap ((IntKind.i64.wrap ((IntKind.i64.wrap ((0 : Int) + (Pl.turn (s0 , t0) (0 : Int)).2)) + (Pl.turn (s1 , t1) (5 : Int)).2)) + (Pl.turn (s2 , t2) (10 : Int)).2)) + (Pl.turn (s3 , t3) (15 : Int)).2)) + (Pl.turn (s4 , t4) (20 : Int)).2)) + (Pl.turn (s5 , t5) (25 : Int)).2)) (6 : Int)))) == s2) (Bool.and (((((((((IntKind.i64.wrap (Int.tdiv (IntKind.i64.wrap ((IntKind.i64.wrap ((IntKind.i64.wrap ((IntKind.i64.wrap ((IntKind.i64.wrap ((IntKind.i64.wrap ((0 : Int) + (Pl.turn (s0 , t0) (0 : Int)).2)) + (Pl.turn (s1 , t1) (0 : Int)).2)) + (Pl.turn (s2 , t2) (0 : Int)).2)) + (Pl.turn (s3 , t3) (0 : Int)).2)) + (Pl.turn (s4 , t4) (0 : Int)).2)) + (Pl.turn (s5 , t5) (0 : Int)).2)) (6 : Int))) - (IntKind.i64.wrap (Int.tdiv (IntKind.i64.wrap ((IntKind.i64.wrap ((IntKind.i64.wrap ((IntKind.i64.wrap ((IntKind.i64.wrap ((IntKind.i64.wrap ((0 : Int) + (Pl.turn (s0 , t0) (0 : Int)).1)) + (Pl.turn (s1 , t1) (1 : Int)).1)) + (Pl.turn (s2 , t2) (2 : Int)).1)) + (Pl.turn (s3 , t3) (3 : Int)).1)) + (Pl.turn (s4 , t4) (4 : Int)).1)) + (Pl.turn (s5 , t5) (5 : Int)).1)) (6 : Int)))) + (IntKind.i64.wrap (Int.tdiv (IntKind.i64.wrap ((IntKind.i64.wrap ((IntKind.i64.wrap ((IntKind.i64.wrap ((IntKind.i64.wrap ((IntKind.i64.wrap ((0 : Int) + (Pl.turn (s0 , t0) (0 : Int)).1)) + (Pl.turn (s1 , t1) (2 : Int)).1)) + (Pl.turn (s2 , t2) (4 : Int)).1)) + (Pl.turn (s3 , t3) (6 : Int)).1)) + (Pl.turn (s4 , t4) (8 : Int)).1)) + (Pl.turn (s5 , t5) (10 : Int)).1)) (6 : Int)))) - (IntKind.i64.wrap (Int.tdiv (IntKind.i64.wrap ((IntKind.i64.wrap ((IntKind.i64.wrap ((IntKind.i64.wrap ((IntKind.i64.wrap ((IntKind.i64.wrap ((0 : Int) + (Pl.turn (s0 , t0) (0 : Int)).2)) + (Pl.turn (s1 , t1) (2 : Int)).2)) + (Pl.turn (s2 , t2) (4 : Int)).2)) + (Pl.turn (s3 , t3) (6 : Int)).2)) + (Pl.turn (s4 , t4) (8 : Int)).2)) + (Pl.turn (s5 , t5) (10 : Int)).2)) (6 : Int)))) + (IntKind.i64.wrap (Int.tdiv (IntKind.i64.wrap ((IntKind.i64.wrap ((IntKind.i64.wrap ((IntKind.i64.wrap ((IntKind.i64.wrap ((IntKind.i64.wrap ((0 : Int) + (Pl.turn (s0 , t0) (0 : Int)).2)) + (Pl.turn (s1 , t1) (3 : Int)).2)) + (Pl.turn (s2 , t2) (6 : Int)).2)) + (Pl.turn (s3 , t3) (9 : Int)).2)) + (Pl.turn (s4 , t4) (12 : Int)).2)) + (Pl.turn (s5 , t5) (15 : Int)).2)) (6 : Int)))) - (IntKind.i64.wrap (Int.tdiv (IntKind.i64.wrap ((IntKind.i64.wrap ((IntKind.i64.wrap ((IntKind.i64.wrap ((IntKind.i64.wrap ((IntKind.i64.wrap ((0 : Int) + (Pl.turn (s0 , t0) (0 : Int)).1)) + (Pl.turn (s1 , t1) (4 : Int)).1)) + (Pl.turn (s2 , t2) (8 : Int)).1)) + (Pl.turn (s3 , t3) (12 : Int)).1)) + (Pl.turn (s4 , t4) (16 : Int)).1)) + (Pl.turn (s5 , t5) (20 : Int)).1)) (6 : Int)))) + (IntKind.i64.wrap (Int.tdiv (IntKind.i64.wrap ((IntKind.i64.wrap ((IntKind.i64.wrap ((IntKind.i64.wrap ((IntKind.i64.wrap ((IntKind.i64.wrap ((0 : Int) + (Pl.turn (s0 , t0) (0 : Int)).1)) + (Pl.turn (s1 , t1) (5 : Int)).1)) + (Pl.turn (s2 , t2) (10 : Int)).1)) + (Pl.turn (s3 , t3) (15 : Int)).1)) + (Pl.turn (s4 , t4) (20 : Int)).1)) + (Pl.turn (s5 , t5) (25 : Int)).1)) (6 : Int)))) - (IntKind.i64.wrap (Int.tdiv (IntKind.i64.wrap ((IntKind.i64.wrap ((IntKind.i64.wrap ((IntKind.i64.wrap ((IntKind.i64.wrap ((IntKind.i64.wrap ((0 : Int) + (Pl.turn (s0 , t0) (0 : Int)).2)) + (Pl.turn (s1 , t1) (5 : Int)).2)) + (Pl.turn (s2 , t2) (10 : Int)).2)) + (Pl.turn (s3 , t3) (15 : Int)).2)) + (Pl.turn (s4 , t4) (20 : Int)).2)) + (Pl.turn (s5 , t5) (25 : Int)).2)) (6 : Int)))) == t2) Bool.true)) (Bool.and (Bool.and (((((((IntKind.i64.wrap (Int.tdiv (IntKind.i64.wrap ((IntKind.i64.wrap ((IntKind.i64.wrap ((IntKind.i64.wrap ((IntKind.i64.wrap ((IntKind.i64.wrap ((0 : Int) + (Pl.turn (s0 , t0) (0 : Int)).1)) + (Pl.turn (s1 , t1) (0 : Int)).1)) + (Pl.turn (s2 , t2) (0 : Int)).1)) + (Pl.turn (s3 , t3) (0 : Int)).1)) + (Pl.turn (s4 , t4) (0 : Int)).1)) + (Pl.turn (s5 , t5) (0 : Int)).1)) (6 : Int))) - (IntKind.i64.wrap (Int.tdiv (IntKind.i64.wrap ((IntKind.i64.wrap ((IntKind.i64.wrap ((IntKind.i64.wrap ((IntKind.i64.wrap ((IntKind.i64.wrap ((0 : Int) + (Pl.turn (s0 , t0) (0 : Int)).1)) + (Pl.turn (s1 , t1) (1 : Int)).1)) + (Pl.turn (s2 , t2) (2 : Int)).1)) + (Pl.turn (s3 , t3) (3 : Int)).1)) + (Pl.turn (s4 , t4) (4 : Int)).1)) + (Pl.turn (s5 , t5) (5 : Int)).1)) (6 : Int)))) + (IntKind.i64.wrap (Int.tdiv (IntKind.i64.wrap ((IntKind.i64.wrap ((IntKind.i64.wrap ((IntKind.i64.wrap ((IntKind.i64.wrap ((IntKind.i64.wrap ((0 : Int) + (Pl.turn (s0 , t0) (0 : Int)).1)) + (Pl.turn (s1 , t1) (2 : Int)).1)) + (Pl.turn (s2 , t2) (4 : Int)).1)) + (Pl.turn (s3 , t3) (6 : Int)).1)) + (Pl.turn (s4 , t4) (8 : Int)).1)) + (Pl.turn (s5 , t5) (10 : Int)).1)) (6 : Int)))) - (IntKind.i64.wrap (Int.tdiv (IntKind.i64.wrap ((IntKind.i64.wrap ((IntKind.i64.wrap ((IntKind.i64.wrap ((IntKind.i64.wrap ((IntKind.i64.wrap ((0 : Int) + (Pl.turn (s0 , t0) (0 : Int)).1)) + (Pl.turn (s1 , t1) (3 : Int)).1)) + (Pl.turn (s2 , t2) (6 : Int)).1)) + (Pl.turn (s3 , t3) (9 : Int)).1)) + (Pl.turn (s4 , t4) (12 : Int)).1)) + (Pl.turn (s5 , t5) (15 : Int)).1)) (6 : Int)))) + (IntKind.i64.wrap (Int.tdiv (IntKind.i64.wrap ((IntKind.i64.wrap ((IntKind.i64.wrap ((IntKind.i64.wrap ((IntKind.i64.wrap ((IntKind.i64.wrap ((0 : Int) + (Pl.turn (s0 , t0) (0 : Int)).1)) + (Pl.turn (s1 , t1) (4 : Int)).1)) + (Pl.turn (s2 , t2) (8 : Int)).1)) + (Pl.turn (s3 , t3) (12 : Int)).1)) + (Pl.turn (s4 , t4) (16 : Int)).1)) + (Pl.turn (s5 , t5) (20 : Int)).1)) (6 : Int)))) - (IntKind.i64.wrap (Int.tdiv (IntKind.i64.wrap ((IntKind.i64.wrap ((IntKind.i64.wrap ((IntKind.i64.wrap ((IntKind.i64.wrap ((IntKind.i64.wrap ((0 : Int) + (Pl.turn (s0 , t0) (0 : Int)).1)) + (Pl.turn (s1 , t1) (5 : Int)).1)) + (Pl.turn (s2 , t2) (10 : Int)).1)) + (Pl.turn (s3 , t3) (15 : Int)).1)) + (Pl.turn (s4 , t4) (20 : Int)).1)) + (Pl.turn (s5 , t5) (25 : Int)).1)) (6 : Int)))) == s3) (Bool.and (((((((IntKind.i64.wrap (Int.tdiv (IntKind.i64.wrap ((IntKind.i64.wrap ((IntKind.i64.wrap ((IntKind.i64.wrap ((IntKind.i64.wrap ((IntKind.i64.wrap ((0 : Int) + (Pl.turn (s0 , t0) (0 : Int)).2)) + (Pl.turn (s1 , t1) (0 : Int)).2)) + (Pl.turn (s2 , t2) (0 : Int)).2)) + (Pl.turn (s3 , t3) (0 : Int)).2)) + (Pl.turn (s4 , t4) (0 : Int)).2)) + (Pl.turn (s5 , t5) (0 : Int)).2)) (6 : Int))) - (IntKind.i64.wrap (Int.tdiv (IntKind.i64.wrap ((IntKind.i64.wrap ((IntKind.i64.wrap ((IntKind.i64.wrap ((IntKind.i64.wrap ((IntKind.i64.wrap ((0 : Int) + (Pl.turn (s0 , t0) (0 : Int)).2)) + (Pl.turn (s1 , t1) (1 : Int)).2)) + (Pl.turn (s2 , t2) (2 : Int)).2)) + (Pl.turn (s3 , t3) (3 : Int)).2)) + (Pl.turn (s4 , t4) (4 : Int)).2)) + (Pl.turn (s5 , t5) (5 : Int)).2)) (6 : Int)))) + (IntKind.i64.wrap (Int.tdiv (IntKind.i64.wrap ((IntKind.i64.wrap ((IntKind.i64.wrap ((IntKind.i64.wrap ((IntKind.i64.wrap ((IntKind.i64.wrap ((0 : Int) + (Pl.turn (s0 , t0) (0 : Int)).2)) + (Pl.turn (s1 , t1) (2 : Int)).2)) + (Pl.turn (s2 , t2) (4 : Int)).2)) + (Pl.turn (s3 , t3) (6 : Int)).2)) + (Pl.turn (s4 , t4) (8 : Int)).2)) + (Pl.turn (s5 , t5) (10 : Int)).2)) (6 : Int)))) - (IntKind.i64.wrap (Int.tdiv (IntKind.i64.wrap ((IntKind.i64.wrap ((IntKind.i64.wrap ((IntKind.i64.wrap ((IntKind.i64.wrap ((IntKind.i64.wrap ((0 : Int) + (Pl.turn (s0 , t0) (0 : Int)).2)) + (Pl.turn (s1 , t1) (3 : Int)).2)) + (Pl.turn (s2 , t2) (6 : Int)).2)) + (Pl.turn (s3 , t3) (9 : Int)).2)) + (Pl.turn (s4 , t4) (12 : Int)).2)) + (Pl.turn (s5 , t5) (15 : Int)).2)) (6 : Int)))) + (IntKind.i64.wrap (Int.tdiv (IntKind.i64.wrap ((IntKind.i64.wrap ((IntKind.i64.wrap ((IntKind.i64.wrap ((IntKind.i64.wrap ((IntKind.i64.wrap ((0 : Int) + (Pl.turn (s0 , t0) (0 : Int)).2)) + (Pl.turn (s1 , t1) (4 : Int)).2)) + (Pl.turn (s2 , t2) (8 : Int)).2)) + (Pl.turn (s3 , t3) (12 : Int)).2)) + (Pl.turn (s4 , t4) (16 : Int)).2)) + (Pl.turn (s5 , t5) (20 : Int)).2)) (6 : Int)))) - (IntKind.i64.wrap (Int.tdiv (IntKind.i64.wrap ((IntKind.i64.wrap ((IntKind.i64.wrap ((IntKind.i64.wrap ((IntKind.i64.wrap ((IntKind.i64.wrap ((0 : Int) + (Pl.turn (s0 , t0) (0 : Int)).2)) + (Pl.turn (s1 , t1) (5 : Int)).2)) + (Pl.turn (s2 , t2) (10 : Int)).2)) + (Pl.turn (s3 , t3) (15 : Int)).2)) + (Pl.turn (s4 , t4) (20 : Int)).2)) + (Pl.turn (s5 , t5) (25 : Int)).2)) (6 : Int)))) == t3) Bool.true)) (Bool.and (Bool.and (((((((((IntKind.i64.wrap (Int.tdiv (IntKind.i64.wrap ((IntKind.i64.wrap ((IntKind.i64.wrap ((IntKind.i64.wrap ((IntKind.i64.wrap ((IntKind.i64.wrap ((0 : Int) + (Pl.turn (s0 , t0) (0 : Int)).1)) + (Pl.turn (s1 , t1) (0 : Int)).1)) + (Pl.turn (s2 , t2) (0 : Int)).1)) + (Pl.turn (s3 , t3) (0 : Int)).1)) + (Pl.turn (s4 , t4) (0 : Int)).1)) + (Pl.turn (s5 , t5) (0 : Int)).1)) (6 : Int))) - (IntKind.i64.wrap (Int.tdiv (IntKind.i64.wrap ((IntKind.i64.wrap ((IntKind.i64.wrap ((IntKind.i64.wrap ((IntKind.i64.wrap ((IntKind.i64.wrap ((0 : Int) + (Pl.turn (s0 , t0) (0 : Int)).2)) + (Pl.turn (s1 , t1) (1 : Int)).2)) + (Pl.turn (s2 , t2) (2 : Int)).2)) + (Pl.turn (s3 , t3) (3 : Int)).2)) + (Pl.turn (s4 , t4) (4 : Int)).2)) + (Pl.turn (s5 , t5) (5 : Int)).2)) (6 : Int)))) - (IntKind.i64.wrap (Int.tdiv (IntKind.i64.wrap ((IntKind.i64.wrap ((IntKind.i64.wrap ((IntKind.i64.wrap ((IntKind.i64.wrap ((IntKind.i64.wrap ((0 : Int) + (Pl.turn (s0 , t0) (0 : Int)).1)) + (Pl.turn (s1 , t1) (2 : Int)).1)) + (Pl.turn (s2 , t2) (4 : Int)).1)) + (Pl.turn (s3 , t3) (6 : Int)).1)) + (Pl.turn (s4 , t4) (8 : Int)).1)) + (Pl.turn (s5 , t5) (10 : Int)).1)) (6 : Int)))) + (IntKind.i64.wrap (Int.tdiv (IntKind.i64.wrap ((IntKind.i64.wrap ((IntKind.i64.wrap ((IntKind.i64.wrap ((IntKind.i64.wrap ((IntKind.i64.wrap ((0 : Int) + (Pl.turn (s0 , t0) (0 : Int)).2)) + (Pl.turn (s1 , t1) (2 : Int)).2)) + (Pl.turn (s2 , t2) (4 : Int)).2)) + (Pl.turn (s3 , t3) (6 : Int)).2)) + (Pl.turn (s4 , t4) (8 : Int)).2)) + (Pl.turn (s5 , t5) (10 : Int)).2)) (6 : Int)))) + (IntKind.i64.wrap (Int.tdiv (IntKind.i64.wrap ((IntKind.i64.wrap ((IntKind.i64.wrap ((IntKind.i64.wrap ((IntKind.i64.wrap ((IntKind.i64.wrap ((0 : Int) + (Pl.turn (s0 , t0) (0 : Int)).1)) + (Pl.turn (s1 , t1) (3 : Int)).1)) + (Pl.turn (s2 , t2) (6 : Int)).1)) + (Pl.turn (s3 , t3) (9 : Int)).1)) + (Pl.turn (s4 , t4) (12 : Int)).1)) + (Pl.turn (s5 , t5) (15 : Int)).1)) (6 : Int)))) - (IntKind.i64.wrap (Int.tdiv (IntKind.i64.wrap ((IntKind.i64.wrap ((IntKind.i64.wrap ((IntKind.i64.wrap ((IntKind.i64.wrap ((IntKind.i64.wrap ((0 : Int) + (Pl.turn (s0 , t0) (0 : Int)).2)) + (Pl.turn (s1 , t1) (4 : Int)).2)) + (Pl.turn (s2 , t2) (8 : Int)).2)) + (Pl.turn (s3 , t3) (12 : Int)).2)) + (Pl.turn (s4 , t4) (16 : Int)).2)) + (Pl.turn (s5 , t5) (20 : Int)).2)) (6 : Int)))) - (IntKind.i64.wrap (Int.tdiv (IntKind.i64.wrap ((IntKind.i64.wrap ((IntKind.i64.wrap ((IntKind.i64.wrap ((IntKind.i64.wrap ((IntKind.i64.wrap ((0 : Int) + (Pl.turn (s0 , t0) (0 : Int)).1)) + (Pl.turn (s1 , t1) (5 : Int)).1)) + (Pl.turn (s2 , t2) (10 : Int)).1)) + (Pl.turn (s3 , t3) (15 : Int)).1)) + (Pl.turn (s4 , t4) (20 : Int)).1)) + (Pl.turn (s5 , t5) (25 : Int)).1)) (6 : Int)))) + (IntKind.i64.wrap (Int.tdiv (IntKind.i64.wrap ((IntKind.i64.wrap ((IntKind.i64.wrap ((IntKind.i64.wrap ((IntKind.i64.wrap ((IntKind.i64.wrap ((0 : Int) + (Pl.turn (s0 , t0) (0 : Int)).2)) + (Pl.turn (s1 , t1) (5 : Int)).2)) + (Pl.turn (s2 , t2) (10 : Int)).2)) + (Pl.turn (s3 , t3) (15 : Int)).2)) + (Pl.turn (s4 , t4) (20 : Int)).2)) + (Pl.turn (s5 , t5) (25 : Int)).2)) (6 : Int)))) == s4) (Bool.and (((((((((IntKind.i64.wrap (Int.tdiv (IntKind.i64.wrap ((IntKind.i64.wrap ((IntKind.i64.wrap ((IntKind.i64.wrap ((IntKind.i64.wrap ((IntKind.i64.wrap ((0 : Int) + (Pl.turn (s0 , t0) (0 : Int)).2)) + (Pl.turn (s1 , t1) (0 : Int)).2)) + (Pl.turn (s2 , t2) (0 : Int)).2)) + (Pl.turn (s3 , t3) (0 : Int)).2)) + (Pl.turn (s4 , t4) (0 : Int)).2)) + (Pl.turn (s5 , t5) (0 : Int)).2)) (6 : Int))) + (IntKind.i64.wrap (Int.tdiv (IntKind.i64.wrap ((IntKind.i64.wrap ((IntKind.i64.wrap ((IntKind.i64.wrap ((IntKind.i64.wrap ((IntKind.i64.wrap ((0 : Int) + (Pl.turn (s0 , t0) (0 : Int)).1)) + (Pl.turn (s1 , t1) (1 : Int)).1)) + (Pl.turn (s2 , t2) (2 : Int)).1)) + (Pl.turn (s3 , t3) (3 : Int)).1)) + (Pl.turn (s4 , t4) (4 : Int)).1)) + (Pl.turn (s5 , t5) (5 : Int)).1)) (6 : Int)))) - (IntKind.i64.wrap (Int.tdiv (IntKind.i64.wrap ((IntKind.i64.wrap ((IntKind.i64.wrap ((IntKind.i64.wrap ((IntKind.i64.wrap ((IntKind.i64.wrap ((0 : Int) + (Pl.turn (s0 , t0) (0 : Int)).2)) + (Pl.turn (s1 , t1) (1 : Int)).2)) + (Pl.turn (s2 , t2) (2 : Int)).2)) + (Pl.turn (s3 , t3) (3 : Int)).2)) + (Pl.turn (s4 , t4) (4 : Int)).2)) + (Pl.turn (s5 , t5) (5 : Int)).2)) (6 : Int)))) - (IntKind.i64.wrap (Int.tdiv (IntKind.i64.wrap ((IntKind.i64.wrap ((IntKind.i64.wrap ((IntKind.i64.wrap ((IntKind.i64.wrap ((IntKind.i64.wrap ((0 : Int) + (Pl.turn (s0 , t0) (0 : Int)).1)) + (Pl.turn (s1 , t1) (2 : Int)).1)) + (Pl.turn (s2 , t2) (4 : Int)).1)) + (Pl.turn (s3 , t3) (6 : Int)).1)) + (Pl.turn (s4 , t4) (8 : Int)).1)) + (Pl.turn (s5 , t5) (10 : Int)).1)) (6 : Int)))) + (IntKind.i64.wrap (Int.tdiv (IntKind.i64.wrap ((IntKind.i64.wrap ((IntKind.i64.wrap ((IntKind.i64.wrap ((IntKind.i64.wrap ((IntKind.i64.wrap ((0 : Int) + (Pl.turn (s0 , t0) (0 : Int)).2)) + (Pl.turn (s1 , t1) (3 : Int)).2)) + (Pl.turn (s2 , t2) (6 : Int)).2)) + (Pl.turn (s3 , t3) (9 : Int)).2)) + (Pl.turn (s4 , t4) (12 : Int)).2)) + (Pl.turn (s5 , t5) (15 : Int)).2)) (6 : Int)))) + (IntKind.i64.wrap (Int.tdiv (IntKind.i64.wrap ((IntKind.i64.wrap ((IntKind.i64.wrap ((IntKind.i64.wrap ((IntKind.i64.wrap ((IntKind.i64.wrap ((0 : Int) + (Pl.turn (s0 , t0) (0 : Int)).1)) + (Pl.turn (s1 , t1) (4 : Int)).1)) + (Pl.turn (s2 , t2) (8 : Int)).1)) + (Pl.turn (s3 , t3) (12 : Int)).1)) + (Pl.turn (s4 , t4) (16 : Int)).1)) + (Pl.turn (s5 , t5) (20 : Int)).1)) (6 : Int)))) - (IntKind.i64.wrap (Int.tdiv (IntKind.i64.wrap ((IntKind.i64.wrap ((IntKind.i64.wrap ((IntKind.i64.wrap ((IntKind.i64.wrap ((IntKind.i64.wrap ((0 : Int) + (Pl.turn (s0 , t0) (0 : Int)).2)) + (Pl.turn (s1 , t1) (4 : Int)).2)) + (Pl.turn (s2 , t2) (8 : Int)).2)) + (Pl.turn (s3 , t3) (12 : Int)).2)) + (Pl.turn (s4 , t4) (16 : Int)).2)) + (Pl.turn (s5 , t5) (20 : Int)).2)) (6 : Int)))) - (IntKind.i64.wrap (Int.tdiv (IntKind.i64.wrap ((IntKind.i64.wrap ((IntKind.i64.wrap ((IntKind.i64.wrap ((IntKind.i64.wrap ((IntKind.i64.wrap ((0 : Int) + (Pl.turn (s0 , t0) (0 : Int)).1)) + (Pl.turn (s1 , t1) (5 : Int)).1)) + (Pl.turn (s2 , t2) (10 : Int)).1)) + (Pl.turn (s3 , t3) (15 : Int)).1)) + (Pl.turn (s4 , t4) (20 : Int)).1)) + (Pl.turn (s5 , t5) (25 : Int)).1)) (6 : Int)))) == t4) Bool.true)) (Bool.and (Bool.and (((((((((IntKind.i64.wrap (Int.tdiv (IntKind.i64.wrap ((IntKind.i64.wrap ((IntKind.i64.wrap ((IntKind.i64.wrap ((IntKind.i64.wrap ((IntKind.i64.wrap ((0 : Int) + (Pl.turn (s0 , t0) (0 : Int)).1)) + (Pl.turn (s1 , t1) (0 : Int)).1)) + (Pl.turn (s2 , t2) (0 : Int)).1)) + (Pl.turn (s3 , t3) (0 : Int)).1)) + (Pl.turn (s4 , t4) (0 : Int)).1)) + (Pl.turn (s5 , t5) (0 : Int)).1)) (6 : Int))) + (IntKind.i64.wrap (Int.tdiv (IntKind.i64.wrap ((IntKind.i64.wrap ((IntKind.i64.wrap ((IntKind.i64.wrap ((IntKind.i64.wrap ((IntKind.i64.wrap ((0 : Int) + (Pl.turn (s0 , t0) (0 : Int)).1)) + (Pl.turn (s1 , t1) (1 : Int)).1)) + (Pl.turn (s2 , t2) (2 : Int)).1)) + (Pl.turn (s3 , t3) (3 : Int)).1)) + (Pl.turn (s4 , t4) (4 : Int)).1)) + (Pl.turn (s5 , t5) (5 : Int)).1)) (6 : Int)))) - (IntKind.i64.wrap (Int.tdiv (IntKind.i64.wrap ((IntKind.i64.wrap ((IntKind.i64.wrap ((IntKind.i64.wrap ((IntKind.i64.wrap ((IntKind.i64.wrap ((0 : Int) + (Pl.turn (s0 , t0) (0 : Int)).2)) + (Pl.turn (s1 , t1) (1 : Int)).2)) + (Pl.turn (s2 , t2) (2 : Int)).2)) + (Pl.turn (s3 , t3) (3 : Int)).2)) + (Pl.turn (s4 , t4) (4 : Int)).2)) + (Pl.turn (s5 , t5) (5 : Int)).2)) (6 : Int)))) - (IntKind.i64.wrap (Int.tdiv (IntKind.i64.wrap ((IntKind.i64.wrap ((IntKind.i64.wrap ((IntKind.i64.wrap ((IntKind.i64.wrap ((IntKind.i64.wrap ((0 : Int) + (Pl.turn (s0 , t0) (0 : Int)).2)) + (Pl.turn (s1 , t1) (2 : Int)).2)) + (Pl.turn (s2 , t2) (4 : Int)).2)) + (Pl.turn (s3 , t3) (6 : Int)).2)) + (Pl.turn (s4 , t4) (8 : Int)).2)) + (Pl.turn (s5 , t5) (10 : Int)).2)) (6 : Int)))) - (IntKind.i64.wrap (Int.tdiv (IntKind.i64.wrap ((IntKind.i64.wrap ((IntKind.i64.wrap ((IntKind.i64.wrap ((IntKind.i64.wrap ((IntKind.i64.wrap ((0 : Int) + (Pl.turn (s0 , t0) (0 : Int)).1)) + (Pl.turn (s1 , t1) (3 : Int)).1)) + (Pl.turn (s2 , t2) (6 : Int)).1)) + (Pl.turn (s3 , t3) (9 : Int)).1)) + (Pl.turn (s4 , t4) (12 : Int)).1)) + (Pl.turn (s5 , t5) (15 : Int)).1)) (6 : Int)))) - (IntKind.i64.wrap (Int.tdiv (IntKind.i64.wrap ((IntKind.i64.wrap ((IntKind.i64.wrap ((IntKind.i64.wrap ((IntKind.i64.wrap ((IntKind.i64.wrap ((0 : Int) + (Pl.turn (s0 , t0) (0 : Int)).1)) + (Pl.turn (s1 , t1) (4 : Int)).1)) + (Pl.turn (s2 , t2) (8 : Int)).1)) + (Pl.turn (s3 , t3) (12 : Int)).1)) + (Pl.turn (s4 , t4) (16 : Int)).1)) + (Pl.turn (s5 , t5) (20 : Int)).1)) (6 : Int)))) + (IntKind.i64.wrap (Int.tdiv (IntKind.i64.wrap ((IntKind.i64.wrap ((IntKind.i64.wrap ((IntKind.i64.wrap ((IntKind.i64.wrap ((IntKind.i64.wrap ((0 : Int) + (Pl.turn (s0 , t0) (0 : Int)).2)) + (Pl.turn (s1 , t1) (4 : Int)).2)) + (Pl.turn (s2 , t2) (8 : Int)).2)) + (Pl.turn (s3 , t3) (12 : Int)).2)) + (Pl.turn (s4 , t4) (16 : Int)).2)) + (Pl.turn (s5 , t5) (20 : Int)).2)) (6 : Int)))) + (IntKind.i64.wrap (Int.tdiv (IntKind.i64.wrap ((IntKind.i64.wrap ((IntKind.i64.wrap ((IntKind.i64.wrap ((IntKind.i64.wrap ((IntKind.i64.wrap ((0 : Int) + (Pl.turn (s0 , t0) (0 : Int)).2)) + (Pl.turn (s1 , t1) (5 : Int)).2)) + (Pl.turn (s2 , t2) (10 : Int)).2)) + (Pl.turn (s3 , t3) (15 : Int)).2)) + (Pl.turn (s4 , t4) (20 : Int)).2)) + (Pl.turn (s5 , t5) (25 : Int)).2)) (6 : Int)))) == s5) (Bool.and (((((((((IntKind.i64.wrap (Int.tdiv (IntKind.i64.wrap ((IntKind.i64.wrap ((IntKind.i64.wrap ((IntKind.i64.wrap ((IntKind.i64.wrap ((IntKind.i64.wrap ((0 : Int) + (Pl.turn (s0 , t0) (0 : Int)).2)) + (Pl.turn (s1 , t1) (0 : Int)).2)) + (Pl.turn (s2 , t2) (0 : Int)).2)) + (Pl.turn (s3 , t3) (0 : Int)).2)) + (Pl.turn (s4 , t4) (0 : Int)).2)) + (Pl.turn (s5 , t5) (0 : Int)).2)) (6 : Int))) + (IntKind.i64.wrap (Int.tdiv (IntKind.i64.wrap ((IntKind.i64.wrap ((IntKind.i64.wrap ((IntKind.i64.wrap ((IntKind.i64.wrap ((IntKind.i64.wrap ((0 : Int) + (Pl.turn (s0 , t0) (0 : Int)).1)) + (Pl.turn (s1 , t1) (1 : Int)).1)) + (Pl.turn (s2 , t2) (2 : Int)).1)) + (Pl.turn (s3 , t3) (3 : Int)).1)) + (Pl.turn (s4 , t4) (4 : Int)).1)) + (Pl.turn (s5 , t5) (5 : Int)).1)) (6 : Int)))) + (IntKind.i64.wrap (Int.tdiv (IntKind.i64.wrap ((IntKind.i64.wrap ((IntKind.i64.wrap ((IntKind.i64.wrap ((IntKind.i64.wrap ((IntKind.i64.wrap ((0 : Int) + (Pl.turn (s0 , t0) (0 : Int)).1)) + (Pl.turn (s1 , t1) (2 : Int)).1)) + (Pl.turn (s2 , t2) (4 : Int)).1)) + (Pl.turn (s3 , t3) (6 : Int)).1)) + (Pl.turn (s4 , t4) (8 : Int)).1)) + (Pl.turn (s5 , t5) (10 : Int)).1)) (6 : Int)))) - (IntKind.i64.wrap (Int.tdiv (IntKind.i64.wrap ((IntKind.i64.wrap ((IntKind.i64.wrap ((IntKind.i64.wrap ((IntKind.i64.wrap ((IntKind.i64.wrap ((0 : Int) + (Pl.turn (s0 , t0) (0 : Int)).2)) + (Pl.turn (s1 , t1) (2 : Int)).2)) + (Pl.turn (s2 , t2) (4 : Int)).2)) + (Pl.turn (s3 , t3) (6 : Int)).2)) + (Pl.turn (s4 , t4) (8 : Int)).2)) + (Pl.turn (s5 , t5) (10 : Int)).2)) (6 : Int)))) - (IntKind.i64.wrap (Int.tdiv (IntKind.i64.wrap ((IntKind.i64.wrap ((IntKind.i64.wrap ((IntKind.i64.wrap ((IntKind.i64.wrap ((IntKind.i64.wrap ((0 : Int) + (Pl.turn (s0 , t0) (0 : Int)).2)) + (Pl.turn (s1 , t1) (3 : Int)).2)) + (Pl.turn (s2 , t2) (6 : Int)).2)) + (Pl.turn (s3 , t3) (9 : Int)).2)) + (Pl.turn (s4 , t4) (12 : Int)).2)) + (Pl.turn (s5 , t5) (15 : Int)).2)) (6 : Int)))) - (IntKind.i64.wrap (Int.tdiv (IntKind.i64.wrap ((IntKind.i64.wrap ((IntKind.i64.wrap ((IntKind.i64.wrap ((IntKind.i64.wrap ((IntKind.i64.wrap ((0 : Int) + (Pl.turn (s0 , t0) (0 : Int)).1)) + (Pl.turn (s1 , t1) (4 : Int)).1)) + (Pl.turn (s2 , t2) (8 : Int)).1)) + (Pl.turn (s3 , t3) (12 : Int)).1)) + (Pl.turn (s4 , t4) (16 : Int)).1)) + (Pl.turn (s5 , t5) (20 : Int)).1)) (6 : Int)))) - (IntKind.i64.wrap (Int.tdiv (IntKind.i64.wrap ((IntKind.i64.wrap ((IntKind.i64.wrap ((IntKind.i64.wrap ((IntKind.i64.wrap ((IntKind.i64.wrap ((0 : Int) + (Pl.turn (s0 , t0) (0 : Int)).1)) + (Pl.turn (s1 , t1) (5 : Int)).1)) + (Pl.turn (s2 , t2) (10 : Int)).1)) + (Pl.turn (s3 , t3) (15 : Int)).1)) + (Pl.turn (s4 , t4) (20 : Int)).1)) + (Pl.turn (s5 , t5) (25 : Int)).1)) (6 : Int)))) + (IntKind.i64.wrap (Int.tdiv (IntKind.i64.wrap ((IntKind.i64.wrap ((IntKind.i64.wrap ((IntKind.i64.wrap ((IntKind.i64.wrap ((IntKind.i64.wrap ((0 : Int) + (Pl.turn (s0 , t0) (0 : Int)).2)) + (Pl.turn (s1 , t1) (5 : Int)).2)) + (Pl.turn (s2 , t2) (10 : Int)).2)) + (Pl.turn (s3 , t3) (15 : Int)).2)) + (Pl.turn (s4 , t4) (20 : Int)).2)) + (Pl.turn (s5 , t5) (25 : Int)).2)) (6 : Int)))) == t5) Bool.true)) Bool.true)))))))
def oSteps_w0 (s0 t0 s1 t1 s2 t2 s3 t3 s4 t4 s5 t5 : Int) : Value := .tuple #[.agg #[.int .i64 (IntKind.i64.wrap (Int.tdiv (IntKind.i64.wrap ((IntKind.i64.wrap ((IntKind.i64.wrap ((IntKind.i64.wrap ((IntKind.i64.wrap ((IntKind.i64.wrap ((0 : Int) + (Pl.turn (s0 , t0) (0 : Int)).1)) + (Pl.turn (s1 , t1) (0 : Int)).1)) + (Pl.turn (s2 , t2) (0 : Int)).1)) + (Pl.turn (s3 , t3) (0 : Int)).1)) + (Pl.turn (s4 , t4) (0 : Int)).1)) + (Pl.turn (s5 , t5) (0 : Int)).1)) (6 : Int))), .int .i64 (IntKind.i64.wrap (Int.tdiv (IntKind.i64.wrap ((IntKind.i64.wrap ((IntKind.i64.wrap ((IntKind.i64.wrap ((IntKind.i64.wrap ((IntKind.i64.wrap ((0 : Int) + (Pl.turn (s0 , t0) (0 : Int)).2)) + (Pl.turn (s1 , t1) (0 : Int)).2)) + (Pl.turn (s2 , t2) (0 : Int)).2)) + (Pl.turn (s3 , t3) (0 : Int)).2)) + (Pl.turn (s4 , t4) (0 : Int)).2)) + (Pl.turn (s5 , t5) (0 : Int)).2)) (6 : Int))), .int .i64 (IntKind.i64.wrap (Int.tdiv (IntKind.i64.wrap ((IntKind.i64.wrap ((IntKind.i64.wrap ((IntKind.i64.wrap ((IntKind.i64.wrap ((IntKind.i64.wrap ((0 : Int) + (Pl.turn (s0 , t0) (0 : Int)).1)) + (Pl.turn (s1 , t1) (1 : Int)).1)) + (Pl.turn (s2 , t2) (2 : Int)).1)) + (Pl.turn (s3 , t3) (3 : Int)).1)) + (Pl.turn (s4 , t4) (4 : Int)).1)) + (Pl.turn (s5 , t5) (5 : Int)).1)) (6 : Int))), .int .i64 (IntKind.i64.wrap (Int.tdiv (IntKind.i64.wrap ((IntKind.i64.wrap ((IntKind.i64.wrap ((IntKind.i64.wrap ((IntKind.i64.wrap ((IntKind.i64.wrap ((0 : Int) + (Pl.turn (s0 , t0) (0 : Int)).2)) + (Pl.turn (s1 , t1) (1 : Int)).2)) + (Pl.turn (s2 , t2) (2 : Int)).2)) + (Pl.turn (s3 , t3) (3 : Int)).2)) + (Pl.turn (s4 , t4) (4 : Int)).2)) + (Pl.turn (s5 , t5) (5 : Int)).2)) (6 : Int))), .int .i64 (IntKind.i64.wrap (Int.tdiv (IntKind.i64.wrap ((IntKind.i64.wrap ((IntKind.i64.wrap ((IntKind.i64.wrap ((IntKind.i64.wrap ((IntKind.i64.wrap ((0 : Int) + (Pl.turn (s0 , t0) (0 : Int)).1)) + (Pl.turn (s1 , t1) (2 : Int)).1)) + (Pl.turn (s2 , t2) (4 : Int)).1)) + (Pl.turn (s3 , t3) (6 : Int)).1)) + (Pl.turn (s4 , t4) (8 : Int)).1)) + (Pl.turn (s5 , t5) (10 : Int)).1)) (6 : Int))), .int .i64 (IntKind.i64.wrap (Int.tdiv (IntKind.i64.wrap ((IntKind.i64.wrap ((IntKind.i64.wrap ((IntKind.i64.wrap ((IntKind.i64.wrap ((IntKind.i64.wrap ((0 : Int) + (Pl.turn (s0 , t0) (0 : Int)).2)) + (Pl.turn (s1 , t1) (2 : Int)).2)) + (Pl.turn (s2 , t2) (4 : Int)).2)) + (Pl.turn (s3 , t3) (6 : Int)).2)) + (Pl.turn (s4 , t4) (8 : Int)).2)) + (Pl.turn (s5 , t5) (10 : Int)).2)) (6 : Int))), .int .i64 (IntKind.i64.wrap (Int.tdiv (IntKind.i64.wrap ((IntKind.i64.wrap ((IntKind.i64.wrap ((IntKind.i64.wrap ((IntKind.i64.wrap ((IntKind.i64.wrap ((0 : Int) + (Pl.turn (s0 , t0) (0 : Int)).1)) + (Pl.turn (s1 , t1) (3 : Int)).1)) + (Pl.turn (s2 , t2) (6 : Int)).1)) + (Pl.turn (s3 , t3) (9 : Int)).1)) + (Pl.turn (s4 , t4) (12 : Int)).1)) + (Pl.turn (s5 , t5) (15 : Int)).1)) (6 : Int))), .int .i64 (IntKind.i64.wrap (Int.tdiv (IntKind.i64.wrap ((IntKind.i64.wrap ((IntKind.i64.wrap ((IntKind.i64.wrap ((IntKind.i64.wrap ((IntKind.i64.wrap ((0 : Int) + (Pl.turn (s0 , t0) (0 : Int)).2)) + (Pl.turn (s1 , t1) (3 : Int)).2)) + (Pl.turn (s2 , t2) (6 : Int)).2)) + (Pl.turn (s3 , t3) (9 : Int)).2)) + (Pl.turn (s4 , t4) (12 : Int)).2)) + (Pl.turn (s5 , t5) (15 : Int)).2)) (6 : Int))), .int .i64 (IntKind.i64.wrap (Int.tdiv (IntKind.i64.wrap ((IntKind.i64.wrap ((IntKind.i64.wrap ((IntKind.i64.wrap ((IntKind.i64.wrap ((IntKind.i64.wrap ((0 : Int) + (Pl.turn (s0 , t0) (0 : Int)).1)) + (Pl.turn (s1 , t1) (4 : Int)).1)) + (Pl.turn (s2 , t2) (8 : Int)).1)) + (Pl.turn (s3 , t3) (12 : Int)).1)) + (Pl.turn (s4 , t4) (16 : Int)).1)) + (Pl.turn (s5 , t5) (20 : Int)).1)) (6 : Int))), .int .i64 (IntKind.i64.wrap (Int.tdiv (IntKind.i64.wrap ((IntKind.i64.wrap ((IntKind.i64.wrap ((IntKind.i64.wrap ((IntKind.i64.wrap ((IntKind.i64.wrap ((0 : Int) + (Pl.turn (s0 , t0) (0 : Int)).2)) + (Pl.turn (s1 , t1) (4 : Int)).2)) + (Pl.turn (s2 , t2) (8 : Int)).2)) + (Pl.turn (s3 , t3) (12 : Int)).2)) + (Pl.turn (s4 , t4) (16 : Int)).2)) + (Pl.turn (s5 , t5) (20 : Int)).2)) (6 : Int))), .int .i64 (IntKind.i64.wrap (Int.tdiv (IntKind.i64.wrap ((IntKind.i64.wrap ((IntKind.i64.wrap ((IntKind.i64.wrap ((IntKind.i64.wrap ((IntKind.i64.wrap ((0 : Int) + (Pl.turn (s0 , t0) (0 : Int)).1)) + (Pl.turn (s1 , t1) (5 : Int)).1)) + (Pl.turn (s2 , t2) (10 : Int)).1)) + (Pl.turn (s3 , t3) (15 : Int)).1)) + (Pl.turn (s4 , t4) (20 : Int)).1)) + (Pl.turn (s5 , t5) (25 : Int)).1)) (6 : Int))), .int .i64 (IntKind.i64.wrap (Int.tdiv (IntKind.i64.wrap ((IntKind.i64.wrap ((IntKind.i64.wrap ((IntKind.i64.wrap ((IntKind.i64.wrap ((IntKind.i64.wrap ((0 : Int) + (Pl.turn (s0 , t0) (0 : Int)).2)) + (Pl.turn (s1 , t1) (5 : Int)).2)) + (Pl.turn (s2 , t2) (10 : Int)).2)) + (Pl.turn (s3 , t3) (15 : Int)).2)) + (Pl.turn (s4 , t4) (20 : Int)).2)) + (Pl.turn (s5 , t5) (25 : Int)).2)) (6 : Int)))], .int .i64 (0 : Int)]
def oSteps_r0 (s0 t0 s1 t1 s2 t2 s3 t3 s4 t4 s5 t5 : Int) : Prop := ((((((((((((((((((((((((((((((((((((((((((((((((((((((((((((((((((((((((((((((((((((((((((((((((((((((((((((((((((((((((((((((((((((((((((((((((((((((((((((((((((((((((((((((((((((((((((((((((((((((((((((((((((((((((((((((((((((((((((((((((((((((((((((((((((((((((((((((((((((((((((True ∧ ((true = true))) ∧ (((0 : Int) = (0 : Int)))) ∧ (True)) ∧ (oSteps_c0 s0 t0 s1 t1 s2 t2 s3 t3 s4 t4 s5 t5 = false)) ∧ ((true = true))) ∧ (((1 : Int) = (1 : Int)))) ∧ (True)) ∧ (oSteps_c1 s0 t0 s1 t1 s2 t2 s3 t3 s4 t4 s5 t5 = false)) ∧ ((true = true))) ∧ (((2 : Int) = (2 : Int)))) ∧ (True)) ∧ (oSteps_c2 s0 t0 s1 t1 s2 t2 s3 t3 s4 t4 s5 t5 = false)) ∧ ((true = true))) ∧ (((3 : Int) = (3 : Int)))) ∧ (True)) ∧ (oSteps_c3 s0 t0 s1 t1 s2 t2 s3 t3 s4 t4 s5 t5 = false)) ∧ ((true = true))) ∧ (((4 : Int) = (4 : Int)))) ∧ (True)) ∧ (oSteps_c4 s0 t0 s1 t1 s2 t2 s3 t3 s4 t4 s5 t5 = false)) ∧ ((true = true))) ∧ (((5 : Int) = (5 : Int)))) ∧ (True)) ∧ (oSteps_c5 s0 t0 s1 t1 s2 t2 s3 t3 s4 t4 s5 t5 = false)) ∧ ((false = false))) ∧ ((false = false))) ∧ ((true = true))) ∧ ((true = true))) ∧ (((0 : Int) = (0 : Int)))) ∧ (((0 : Int) = (0 : Int)))) ∧ (oSteps_b15 s0 t0 s1 t1 s2 t2 s3 t3 s4 t4 s5 t5)) ∧ (((0 : Int) = (0 : Int)))) ∧ ((true = true))) ∧ (((0 : Int) = (0 : Int)))) ∧ (((1 : Int) = (1 : Int)))) ∧ (oSteps_b16 s0 t0 s1 t1 s2 t2 s3 t3 s4 t4 s5 t5)) ∧ (((0 : Int) = (0 : Int)))) ∧ ((true = true))) ∧ (((0 : Int) = (0 : Int)))) ∧ (((2 : Int) = (2 : Int)))) ∧ (oSteps_b17 s0 t0 s1 t1 s2 t2 s3 t3 s4 t4 s5 t5)) ∧ (((0 : Int) = (0 : Int)))) ∧ ((true = true))) ∧ (((0 : Int) = (0 : Int)))) ∧ (((3 : Int) = (3 : Int)))) ∧ (oSteps_b18 s0 t0 s1 t1 s2 t2 s3 t3 s4 t4 s5 t5)) ∧ (((0 : Int) = (0 : Int)))) ∧ ((true = true))) ∧ (((0 : Int) = (0 : Int)))) ∧ (((4 : Int) = (4 : Int)))) ∧ (oSteps_b19 s0 t0 s1 t1 s2 t2 s3 t3 s4 t4 s5 t5)) ∧ (((0 : Int) = (0 : Int)))) ∧ ((true = true))) ∧ (((0 : Int) = (0 : Int)))) ∧ (((5 : Int) = (5 : Int)))) ∧ (oSteps_b20 s0 t0 s1 t1 s2 t2 s3 t3 s4 t4 s5 t5)) ∧ (((0 : Int) = (0 : Int)))) ∧ ((false = false))) ∧ ((true = true))) ∧ ((true = true))) ∧ (((1 : Int) = (1 : Int)))) ∧ (((0 : Int) = (0 : Int)))) ∧ (oSteps_b15 s0 t0 s1 t1 s2 t2 s3 t3 s4 t4 s5 t5)) ∧ (((1 : Int) = (1 : Int)))) ∧ ((true = true))) ∧ (((1 : Int) = (1 : Int)))) ∧ (((1 : Int) = (1 : Int)))) ∧ (oSteps_b16 s0 t0 s1 t1 s2 t2 s3 t3 s4 t4 s5 t5)) ∧ (((1 : Int) = (1 : Int)))) ∧ ((true = true))) ∧ (((1 : Int) = (1 : Int)))) ∧ (((2 : Int) = (2 : Int)))) ∧ (oSteps_b17 s0 t0 s1 t1 s2 t2 s3 t3 s4 t4 s5 t5)) ∧ (((1 : Int) = (1 : Int)))) ∧ ((true = true))) ∧ (((1 : Int) = (1 : Int)))) ∧ (((3 : Int) = (3 : Int)))) ∧ (oSteps_b18 s0 t0 s1 t1 s2 t2 s3 t3 s4 t4 s5 t5)) ∧ (((1 : Int) = (1 : Int)))) ∧ ((true = true))) ∧ (((1 : Int) = (1 : Int)))) ∧ (((4 : Int) = (4 : Int)))) ∧ (oSteps_b19 s0 t0 s1 t1 s2 t2 s3 t3 s4 t4 s5 t5)) ∧ (((1 : Int) = (1 : Int)))) ∧ ((true = true))) ∧ (((1 : Int) = (1 : Int)))) ∧ (((5 : Int) = (5 : Int)))) ∧ (oSteps_b20 s0 t0 s1 t1 s2 t2 s3 t3 s4 t4 s5 t5)) ∧ (((1 : Int) = (1 : Int)))) ∧ ((false = false))) ∧ ((true = true))) ∧ ((true = true))) ∧ (((2 : Int) = (2 : Int)))) ∧ (((0 : Int) = (0 : Int)))) ∧ (oSteps_b15 s0 t0 s1 t1 s2 t2 s3 t3 s4 t4 s5 t5)) ∧ (((2 : Int) = (2 : Int)))) ∧ ((true = true))) ∧ (((2 : Int) = (2 : Int)))) ∧ (((1 : Int) = (1 : Int)))) ∧ (oSteps_b16 s0 t0 s1 t1 s2 t2 s3 t3 s4 t4 s5 t5)) ∧ (((2 : Int) = (2 : Int)))) ∧ ((true = true))) ∧ (((2 : Int) = (2 : Int)))) ∧ (((2 : Int) = (2 : Int)))) ∧ (oSteps_b17 s0 t0 s1 t1 s2 t2 s3 t3 s4 t4 s5 t5)) ∧ (((2 : Int) = (2 : Int)))) ∧ ((true = true))) ∧ (((2 : Int) = (2 : Int)))) ∧ (((3 : Int) = (3 : Int)))) ∧ (oSteps_b18 s0 t0 s1 t1 s2 t2 s3 t3 s4 t4 s5 t5)) ∧ (((2 : Int) = (2 : Int)))) ∧ ((true = true))) ∧ (((2 : Int) = (2 : Int)))) ∧ (((4 : Int) = (4 : Int)))) ∧ (oSteps_b19 s0 t0 s1 t1 s2 t2 s3 t3 s4 t4 s5 t5)) ∧ (((2 : Int) = (2 : Int)))) ∧ ((true = true))) ∧ (((2 : Int) = (2 : Int)))) ∧ (((5 : Int) = (5 : Int)))) ∧ (oSteps_b20 s0 t0 s1 t1 s2 t2 s3 t3 s4 t4 s5 t5)) ∧ (((2 : Int) = (2 : Int)))) ∧ ((false = false))) ∧ ((true = true))) ∧ ((true = true))) ∧ (((3 : Int) = (3 : Int)))) ∧ (((0 : Int) = (0 : Int)))) ∧ (oSteps_b15 s0 t0 s1 t1 s2 t2 s3 t3 s4 t4 s5 t5)) ∧ (((3 : Int) = (3 : Int)))) ∧ ((true = true))) ∧ (((3 : Int) = (3 : Int)))) ∧ (((1 : Int) = (1 : Int)))) ∧ (oSteps_b16 s0 t0 s1 t1 s2 t2 s3 t3 s4 t4 s5 t5)) ∧ (((3 : Int) = (3 : Int)))) ∧ ((true = true))) ∧ (((3 : Int) = (3 : Int)))) ∧ (((2 : Int) = (2 : Int)))) ∧ (oSteps_b17 s0 t0 s1 t1 s2 t2 s3 t3 s4 t4 s5 t5)) ∧ (((3 : Int) = (3 : Int)))) ∧ ((true = true))) ∧ (((3 : Int) = (3 : Int)))) ∧ (((3 : Int) = (3 : Int)))) ∧ (oSteps_b18 s0 t0 s1 t1 s2 t2 s3 t3 s4 t4 s5 t5)) ∧ (((3 : Int) = (3 : Int)))) ∧ ((true = true))) ∧ (((3 : Int) = (3 : Int)))) ∧ (((4 : Int) = (4 : Int)))) ∧ (oSteps_b19 s0 t0 s1 t1 s2 t2 s3 t3 s4 t4 s5 t5)) ∧ (((3 : Int) = (3 : Int)))) ∧ ((true = true))) ∧ (((3 : Int) = (3 : Int)))) ∧ (((5 : Int) = (5 : Int)))) ∧ (oSteps_b20 s0 t0 s1 t1 s2 t2 s3 t3 s4 t4 s5 t5)) ∧ (((3 : Int) = (3 : Int)))) ∧ ((false = false))) ∧ ((true = true))) ∧ ((true = true))) ∧ (((4 : Int) = (4 : Int)))) ∧ (((0 : Int) = (0 : Int)))) ∧ (oSteps_b15 s0 t0 s1 t1 s2 t2 s3 t3 s4 t4 s5 t5)) ∧ (((4 : Int) = (4 : Int)))) ∧ ((true = true))) ∧ (((4 : Int) = (4 : Int)))) ∧ (((1 : Int) = (1 : Int)))) ∧ (oSteps_b16 s0 t0 s1 t1 s2 t2 s3 t3 s4 t4 s5 t5)) ∧ (((4 : Int) = (4 : Int)))) ∧ ((true = true))) ∧ (((4 : Int) = (4 : Int)))) ∧ (((2 : Int) = (2 : Int)))) ∧ (oSteps_b17 s0 t0 s1 t1 s2 t2 s3 t3 s4 t4 s5 t5)) ∧ (((4 : Int) = (4 : Int)))) ∧ ((true = true))) ∧ (((4 : Int) = (4 : Int)))) ∧ (((3 : Int) = (3 : Int)))) ∧ (oSteps_b18 s0 t0 s1 t1 s2 t2 s3 t3 s4 t4 s5 t5)) ∧ (((4 : Int) = (4 : Int)))) ∧ ((true = true))) ∧ (((4 : Int) = (4 : Int)))) ∧ (((4 : Int) = (4 : Int)))) ∧ (oSteps_b19 s0 t0 s1 t1 s2 t2 s3 t3 s4 t4 s5 t5)) ∧ (((4 : Int) = (4 : Int)))) ∧ ((true = true))) ∧ (((4 : Int) = (4 : Int)))) ∧ (((5 : Int) = (5 : Int)))) ∧ (oSteps_b20 s0 t0 s1 t1 s2 t2 s3 t3 s4 t4 s5 t5)) ∧ (((4 : Int) = (4 : Int)))) ∧ ((false = false))) ∧ ((true = true))) ∧ ((true = true))) ∧ (((5 : Int) = (5 : Int)))) ∧ (((0 : Int) = (0 : Int)))) ∧ (oSteps_b15 s0 t0 s1 t1 s2 t2 s3 t3 s4 t4 s5 t5)) ∧ (((5 : Int) = (5 : Int)))) ∧ ((true = true))) ∧ (((5 : Int) = (5 : Int)))) ∧ (((1 : Int) = (1 : Int)))) ∧ (oSteps_b16 s0 t0 s1 t1 s2 t2 s3 t3 s4 t4 s5 t5)) ∧ (((5 : Int) = (5 : Int)))) ∧ ((true = true))) ∧ (((5 : Int) = (5 : Int)))) ∧ (((2 : Int) = (2 : Int)))) ∧ (oSteps_b17 s0 t0 s1 t1 s2 t2 s3 t3 s4 t4 s5 t5)) ∧ (((5 : Int) = (5 : Int)))) ∧ ((true = true))) ∧ (((5 : Int) = (5 : Int)))) ∧ (((3 : Int) = (3 : Int)))) ∧ (oSteps_b18 s0 t0 s1 t1 s2 t2 s3 t3 s4 t4 s5 t5)) ∧ (((5 : Int) = (5 : Int)))) ∧ ((true = true))) ∧ (((5 : Int) = (5 : Int)))) ∧ (((4 : Int) = (4 : Int)))) ∧ (oSteps_b19 s0 t0 s1 t1 s2 t2 s3 t3 s4 t4 s5 t5)) ∧ (((5 : Int) = (5 : Int)))) ∧ ((true = true))) ∧ (((5 : Int) = (5 : Int)))) ∧ (((5 : Int) = (5 : Int)))) ∧ (oSteps_b20 s0 t0 s1 t1 s2 t2 s3 t3 s4 t4 s5 t5)) ∧ (((5 : Int) = (5 : Int)))) ∧ ((false = false))) ∧ ((false = false))) ∧ ((true = true))) ∧ (((0 : Int) = (0 : Int)))) ∧ ((false = false))) ∧ ((false = false))) ∧ (((0 : Int) = (0 : Int)))) ∧ ((true = true))) ∧ (((1 : Int) = (1 : Int)))) ∧ ((false = false))) ∧ ((false = false))) ∧ (((1 : Int) = (1 : Int)))) ∧ ((true = true))) ∧ (((2 : Int) = (2 : Int)))) ∧ ((false = false))) ∧ ((false = false))) ∧ (((2 : Int) = (2 : Int)))) ∧ ((true = true))) ∧ (((3 : Int) = (3 : Int)))) ∧ ((false = false))) ∧ ((false = false))) ∧ (((3 : Int) = (3 : Int)))) ∧ ((true = true))) ∧ (((4 : Int) = (4 : Int)))) ∧ ((false = false))) ∧ ((false = false))) ∧ (((4 : Int) = (4 : Int)))) ∧ ((true = true))) ∧ (((5 : Int) = (5 : Int)))) ∧ ((false = false))) ∧ ((false = false))) ∧ (((5 : Int) = (5 : Int)))) ∧ ((false = false))) ∧ ((true = true))) ∧ (((0 : Int) = (0 : Int)))) ∧ (True)) ∧ (oSteps_c6 s0 t0 s1 t1 s2 t2 s3 t3 s4 t4 s5 t5 = false)) ∧ ((true = true))) ∧ (((1 : Int) = (1 : Int)))) ∧ (True)) ∧ (oSteps_c7 s0 t0 s1 t1 s2 t2 s3 t3 s4 t4 s5 t5 = false)) ∧ ((true = true))) ∧ (((2 : Int) = (2 : Int)))) ∧ (True)) ∧ (oSteps_c8 s0 t0 s1 t1 s2 t2 s3 t3 s4 t4 s5 t5 = false)) ∧ ((true = true))) ∧ (((3 : Int) = (3 : Int)))) ∧ (True)) ∧ (oSteps_c9 s0 t0 s1 t1 s2 t2 s3 t3 s4 t4 s5 t5 = false)) ∧ ((true = true))) ∧ (((4 : Int) = (4 : Int)))) ∧ (True)) ∧ (oSteps_c10 s0 t0 s1 t1 s2 t2 s3 t3 s4 t4 s5 t5 = false)) ∧ ((true = true))) ∧ (((5 : Int) = (5 : Int)))) ∧ (True)) ∧ (oSteps_c11 s0 t0 s1 t1 s2 t2 s3 t3 s4 t4 s5 t5 = false)) ∧ ((false = false))) ∧ ((false = false))) ∧ ((false = false))) ∧ (oSteps_b27 s0 t0 s1 t1 s2 t2 s3 t3 s4 t4 s5 t5)) ∧ ((false = false))) ∧ ((false = false))) ∧ ((false = false))) ∧ (oSteps_c12 s0 t0 s1 t1 s2 t2 s3 t3 s4 t4 s5 t5 = false))
theorem oSteps_o0 (s0 t0 s1 t1 s2 t2 s3 t3 s4 t4 s5 t5 : Int) : obOf (oSteps_e0 s0 t0 s1 t1 s2 t2 s3 t3 s4 t4 s5 t5) = oSteps_r0 s0 t0 s1 t1 s2 t2 s3 t3 s4 t4 s5 t5 := by kernel_rfl
theorem oSteps_v0 (s0 t0 s1 t1 s2 t2 s3 t3 s4 t4 s5 t5 : Int) : resOf (oSteps_e0 s0 t0 s1 t1 s2 t2 s3 t3 s4 t4 s5 t5) = oSteps_w0 s0 t0 s1 t1 s2 t2 s3 t3 s4 t4 s5 t5 := by kernel_rfl
theorem oSteps_k0 (s0 t0 s1 t1 s2 t2 s3 t3 s4 t4 s5 t5 : Int) : cleanOf Tryz.prog.globals.size (oSteps_e0 s0 t0 s1 t1 s2 t2 s3 t3 s4 t4 s5 t5) = true := by kernel_rfl
theorem oSteps_q0 (s0 t0 s1 t1 s2 t2 s3 t3 s4 t4 s5 t5 : Int) : oSteps_e0 s0 t0 s1 t1 s2 t2 s3 t3 s4 t4 s5 t5 = evFS Tryz.prog x_oSteps 1000 11 #[.agg #[.int .i64 s0, .int .i64 t0, .int .i64 s1, .int .i64 t1, .int .i64 s2, .int .i64 t2, .int .i64 s3, .int .i64 t3, .int .i64 s4, .int .i64 t4, .int .i64 s5, .int .i64 t5]] (noTabs 6) ⟨[1, 0, 0, 1, 1, 0, 1, 2, 0, 1, 3, 0, 1, 4, 0, 1, 5, 0, 0, 0, 1, 1, 0, 0, 0, 1, 0, 1, 0, 1, 0, 2, 0, 1, 0, 3, 0, 1, 0, 4, 0, 1, 0, 5, 0, 0, 1, 1, 1, 0, 1, 1, 1, 1, 1, 1, 1, 2, 1, 1, 1, 3, 1, 1, 1, 4, 1, 1, 1, 5, 1, 0, 1, 1, 2, 0, 2, 1, 2, 1, 2, 1, 2, 2, 2, 1, 2, 3, 2, 1, 2, 4, 2, 1, 2, 5, 2, 0, 1, 1, 3, 0, 3, 1, 3, 1, 3, 1, 3, 2, 3, 1, 3, 3, 3, 1, 3, 4, 3, 1, 3, 5, 3, 0, 1, 1, 4, 0, 4, 1, 4, 1, 4, 1, 4, 2, 4, 1, 4, 3, 4, 1, 4, 4, 4, 1, 4, 5, 4, 0, 1, 1, 5, 0, 5, 1, 5, 1, 5, 1, 5, 2, 5, 1, 5, 3, 5, 1, 5, 4, 5, 1, 5, 5, 5, 0, 0, 1, 0, 0, 1, 1, 1, 1, 2, 2, 1, 3, 3, 1, 4, 4, 1, 5, 5, 0, 1, 0, 0, 1, 1, 0, 1, 2, 0, 1, 3, 0, 1, 4, 0, 1, 5, 0, 0, 1, 1, 1, 1, 0, 0], True⟩ := by
  delta oSteps_e0
  exact Eq.refl _
theorem oSteps_p0 (s0 t0 s1 t1 s2 t2 s3 t3 s4 t4 s5 t5 : Int) (h : oSteps_r0 s0 t0 s1 t1 s2 t2 s3 t3 s4 t4 s5 t5) (w : World) : Calls Tryz.prog 11 #[.agg #[.int .i64 s0, .int .i64 t0, .int .i64 s1, .int .i64 t1, .int .i64 s2, .int .i64 t2, .int .i64 s3, .int .i64 t3, .int .i64 s4, .int .i64 t4, .int .i64 s5, .int .i64 t5]] w fun en w' => en = .returned (oSteps_w0 s0 t0 s1 t1 s2 t2 s3 t3 s4 t4 s5 t5) ∧ Below w.heap.size w w' := by
  have hv := oSteps_v0 s0 t0 s1 t1 s2 t2 s3 t3 s4 t4 s5 t5
  have hc := oSteps_k0 s0 t0 s1 t1 s2 t2 s3 t3 s4 t4 s5 t5
  have he := oSteps_q0 s0 t0 s1 t1 s2 t2 s3 t3 s4 t4 s5 t5
  have ho := oSteps_o0 s0 t0 s1 t1 s2 t2 s3 t3 s4 t4 s5 t5
  generalize oSteps_e0 s0 t0 s1 t1 s2 t2 s3 t3 s4 t4 s5 t5 = r at *
  exact calls_way he gfol oSteps_X hv rfl (oSteps_args s0 t0 s1 t1 s2 t2 s3 t3 s4 t4 s5 t5) hc ho h (bl w)
theorem oSteps_any (s0 t0 s1 t1 s2 t2 s3 t3 s4 t4 s5 t5 : Int) (hpre : isS s0 t0 s1 t1 s2 t2 s3 t3 s4 t4 s5 t5) (w : World) : Calls Tryz.prog 11 #[.agg #[.int .i64 s0, .int .i64 t0, .int .i64 s1, .int .i64 t1, .int .i64 s2, .int .i64 t2, .int .i64 s3, .int .i64 t3, .int .i64 s4, .int .i64 t4, .int .i64 s5, .int .i64 t5]] w fun en w' => en = .returned (oSteps_val s0 t0 s1 t1 s2 t2 s3 t3 s4 t4 s5 t5) ∧ Below w.heap.size w w' := by
  have h0 : (oSteps_c0 s0 t0 s1 t1 s2 t2 s3 t3 s4 t4 s5 t5 = false) := by
    unfold oSteps_c0
    first | rfl | trivial | with_reducible exact ps0 hpre | with_reducible exact ps1 hpre | with_reducible exact ps2 hpre | with_reducible exact ps3 hpre | with_reducible exact ps4 hpre | with_reducible exact ps5 hpre | exact pg0 hpre | exact pg1 hpre | exact pg2 hpre | exact pg3 hpre | exact pg4 hpre | exact pg5 hpre | (simp only [st0 hpre, st1 hpre, st2 hpre, st3 hpre, st4 hpre, st5 hpre, st6 hpre, st7 hpre, st8 hpre, st9 hpre, st10 hpre, st11 hpre]; first | with_reducible exact pq0 hpre | with_reducible exact pq1 hpre | with_reducible exact pq2 hpre | with_reducible exact pq3 hpre | with_reducible exact pq4 hpre | with_reducible exact pq5 hpre | exact s6p hpre | (simp only [rs0 hpre, rs1 hpre, rs2 hpre, rs3 hpre, rs4 hpre, rs5 hpre, rs6 hpre, rs7 hpre, rs8 hpre, rs9 hpre, rs10 hpre, rs11 hpre, beq_self_eq_true, Bool.and_self, Bool.not_true, bne_self_eq_false]; done))
  unfold oSteps_c0 at h0
  have h1 : (oSteps_c1 s0 t0 s1 t1 s2 t2 s3 t3 s4 t4 s5 t5 = false) := by
    unfold oSteps_c1
    first | rfl | trivial | with_reducible exact ps0 hpre | with_reducible exact ps1 hpre | with_reducible exact ps2 hpre | with_reducible exact ps3 hpre | with_reducible exact ps4 hpre | with_reducible exact ps5 hpre | exact pg0 hpre | exact pg1 hpre | exact pg2 hpre | exact pg3 hpre | exact pg4 hpre | exact pg5 hpre | (simp only [st0 hpre, st1 hpre, st2 hpre, st3 hpre, st4 hpre, st5 hpre, st6 hpre, st7 hpre, st8 hpre, st9 hpre, st10 hpre, st11 hpre]; first | with_reducible exact pq0 hpre | with_reducible exact pq1 hpre | with_reducible exact pq2 hpre | with_reducible exact pq3 hpre | with_reducible exact pq4 hpre | with_reducible exact pq5 hpre | exact s6p hpre | (simp only [rs0 hpre, rs1 hpre, rs2 hpre, rs3 hpre, rs4 hpre, rs5 hpre, rs6 hpre, rs7 hpre, rs8 hpre, rs9 hpre, rs10 hpre, rs11 hpre, beq_self_eq_true, Bool.and_self, Bool.not_true, bne_self_eq_false]; done))
  unfold oSteps_c1 at h1
  have h2 : (oSteps_c2 s0 t0 s1 t1 s2 t2 s3 t3 s4 t4 s5 t5 = false) := by
    unfold oSteps_c2
    first | rfl | trivial | with_reducible exact ps0 hpre | with_reducible exact ps1 hpre | with_reducible exact ps2 hpre | with_reducible exact ps3 hpre | with_reducible exact ps4 hpre | with_reducible exact ps5 hpre | exact pg0 hpre | exact pg1 hpre | exact pg2 hpre | exact pg3 hpre | exact pg4 hpre | exact pg5 hpre | (simp only [st0 hpre, st1 hpre, st2 hpre, st3 hpre, st4 hpre, st5 hpre, st6 hpre, st7 hpre, st8 hpre, st9 hpre, st10 hpre, st11 hpre]; first | with_reducible exact pq0 hpre | with_reducible exact pq1 hpre | with_reducible exact pq2 hpre | with_reducible exact pq3 hpre | with_reducible exact pq4 hpre | with_reducible exact pq5 hpre | exact s6p hpre | (simp only [rs0 hpre, rs1 hpre, rs2 hpre, rs3 hpre, rs4 hpre, rs5 hpre, rs6 hpre, rs7 hpre, rs8 hpre, rs9 hpre, rs10 hpre, rs11 hpre, beq_self_eq_true, Bool.and_self, Bool.not_true, bne_self_eq_false]; done))
  unfold oSteps_c2 at h2
  have h3 : (oSteps_c3 s0 t0 s1 t1 s2 t2 s3 t3 s4 t4 s5 t5 = false) := by
    unfold oSteps_c3
    first | rfl | trivial | with_reducible exact ps0 hpre | with_reducible exact ps1 hpre | with_reducible exact ps2 hpre | with_reducible exact ps3 hpre | with_reducible exact ps4 hpre | with_reducible exact ps5 hpre | exact pg0 hpre | exact pg1 hpre | exact pg2 hpre | exact pg3 hpre | exact pg4 hpre | exact pg5 hpre | (simp only [st0 hpre, st1 hpre, st2 hpre, st3 hpre, st4 hpre, st5 hpre, st6 hpre, st7 hpre, st8 hpre, st9 hpre, st10 hpre, st11 hpre]; first | with_reducible exact pq0 hpre | with_reducible exact pq1 hpre | with_reducible exact pq2 hpre | with_reducible exact pq3 hpre | with_reducible exact pq4 hpre | with_reducible exact pq5 hpre | exact s6p hpre | (simp only [rs0 hpre, rs1 hpre, rs2 hpre, rs3 hpre, rs4 hpre, rs5 hpre, rs6 hpre, rs7 hpre, rs8 hpre, rs9 hpre, rs10 hpre, rs11 hpre, beq_self_eq_true, Bool.and_self, Bool.not_true, bne_self_eq_false]; done))
  unfold oSteps_c3 at h3
  have h4 : (oSteps_c4 s0 t0 s1 t1 s2 t2 s3 t3 s4 t4 s5 t5 = false) := by
    unfold oSteps_c4
    first | rfl | trivial | with_reducible exact ps0 hpre | with_reducible exact ps1 hpre | with_reducible exact ps2 hpre | with_reducible exact ps3 hpre | with_reducible exact ps4 hpre | with_reducible exact ps5 hpre | exact pg0 hpre | exact pg1 hpre | exact pg2 hpre | exact pg3 hpre | exact pg4 hpre | exact pg5 hpre | (simp only [st0 hpre, st1 hpre, st2 hpre, st3 hpre, st4 hpre, st5 hpre, st6 hpre, st7 hpre, st8 hpre, st9 hpre, st10 hpre, st11 hpre]; first | with_reducible exact pq0 hpre | with_reducible exact pq1 hpre | with_reducible exact pq2 hpre | with_reducible exact pq3 hpre | with_reducible exact pq4 hpre | with_reducible exact pq5 hpre | exact s6p hpre | (simp only [rs0 hpre, rs1 hpre, rs2 hpre, rs3 hpre, rs4 hpre, rs5 hpre, rs6 hpre, rs7 hpre, rs8 hpre, rs9 hpre, rs10 hpre, rs11 hpre, beq_self_eq_true, Bool.and_self, Bool.not_true, bne_self_eq_false]; done))
  unfold oSteps_c4 at h4
  have h5 : (oSteps_c5 s0 t0 s1 t1 s2 t2 s3 t3 s4 t4 s5 t5 = false) := by
    unfold oSteps_c5
    first | rfl | trivial | with_reducible exact ps0 hpre | with_reducible exact ps1 hpre | with_reducible exact ps2 hpre | with_reducible exact ps3 hpre | with_reducible exact ps4 hpre | with_reducible exact ps5 hpre | exact pg0 hpre | exact pg1 hpre | exact pg2 hpre | exact pg3 hpre | exact pg4 hpre | exact pg5 hpre | (simp only [st0 hpre, st1 hpre, st2 hpre, st3 hpre, st4 hpre, st5 hpre, st6 hpre, st7 hpre, st8 hpre, st9 hpre, st10 hpre, st11 hpre]; first | with_reducible exact pq0 hpre | with_reducible exact pq1 hpre | with_reducible exact pq2 hpre | with_reducible exact pq3 hpre | with_reducible exact pq4 hpre | with_reducible exact pq5 hpre | exact s6p hpre | (simp only [rs0 hpre, rs1 hpre, rs2 hpre, rs3 hpre, rs4 hpre, rs5 hpre, rs6 hpre, rs7 hpre, rs8 hpre, rs9 hpre, rs10 hpre, rs11 hpre, beq_self_eq_true, Bool.and_self, Bool.not_true, bne_self_eq_false]; done))
  unfold oSteps_c5 at h5
  have h6 : (oSteps_b15 s0 t0 s1 t1 s2 t2 s3 t3 s4 t4 s5 t5) := by
    unfold oSteps_b15
    first | rfl | trivial | with_reducible exact ps0 hpre | with_reducible exact ps1 hpre | with_reducible exact ps2 hpre | with_reducible exact ps3 hpre | with_reducible exact ps4 hpre | with_reducible exact ps5 hpre | exact pg0 hpre | exact pg1 hpre | exact pg2 hpre | exact pg3 hpre | exact pg4 hpre | exact pg5 hpre | (simp only [st0 hpre, st1 hpre, st2 hpre, st3 hpre, st4 hpre, st5 hpre, st6 hpre, st7 hpre, st8 hpre, st9 hpre, st10 hpre, st11 hpre]; first | with_reducible exact pq0 hpre | with_reducible exact pq1 hpre | with_reducible exact pq2 hpre | with_reducible exact pq3 hpre | with_reducible exact pq4 hpre | with_reducible exact pq5 hpre | exact s6p hpre | (simp only [rs0 hpre, rs1 hpre, rs2 hpre, rs3 hpre, rs4 hpre, rs5 hpre, rs6 hpre, rs7 hpre, rs8 hpre, rs9 hpre, rs10 hpre, rs11 hpre, beq_self_eq_true, Bool.and_self, Bool.not_true, bne_self_eq_false]; done))
  unfold oSteps_b15 at h6
  have h7 : (oSteps_b16 s0 t0 s1 t1 s2 t2 s3 t3 s4 t4 s5 t5) := by
    unfold oSteps_b16
    first | rfl | trivial | with_reducible exact ps0 hpre | with_reducible exact ps1 hpre | with_reducible exact ps2 hpre | with_reducible exact ps3 hpre | with_reducible exact ps4 hpre | with_reducible exact ps5 hpre | exact pg0 hpre | exact pg1 hpre | exact pg2 hpre | exact pg3 hpre | exact pg4 hpre | exact pg5 hpre | (simp only [st0 hpre, st1 hpre, st2 hpre, st3 hpre, st4 hpre, st5 hpre, st6 hpre, st7 hpre, st8 hpre, st9 hpre, st10 hpre, st11 hpre]; first | with_reducible exact pq0 hpre | with_reducible exact pq1 hpre | with_reducible exact pq2 hpre | with_reducible exact pq3 hpre | with_reducible exact pq4 hpre | with_reducible exact pq5 hpre | exact s6p hpre | (simp only [rs0 hpre, rs1 hpre, rs2 hpre, rs3 hpre, rs4 hpre, rs5 hpre, rs6 hpre, rs7 hpre, rs8 hpre, rs9 hpre, rs10 hpre, rs11 hpre, beq_self_eq_true, Bool.and_self, Bool.not_true, bne_self_eq_false]; done))
  unfold oSteps_b16 at h7
  have h8 : (oSteps_b17 s0 t0 s1 t1 s2 t2 s3 t3 s4 t4 s5 t5) := by
    unfold oSteps_b17
    first | rfl | trivial | with_reducible exact ps0 hpre | with_reducible exact ps1 hpre | with_reducible exact ps2 hpre | with_reducible exact ps3 hpre | with_reducible exact ps4 hpre | with_reducible exact ps5 hpre | exact pg0 hpre | exact pg1 hpre | exact pg2 hpre | exact pg3 hpre | exact pg4 hpre | exact pg5 hpre | (simp only [st0 hpre, st1 hpre, st2 hpre, st3 hpre, st4 hpre, st5 hpre, st6 hpre, st7 hpre, st8 hpre, st9 hpre, st10 hpre, st11 hpre]; first | with_reducible exact pq0 hpre | with_reducible exact pq1 hpre | with_reducible exact pq2 hpre | with_reducible exact pq3 hpre | with_reducible exact pq4 hpre | with_reducible exact pq5 hpre | exact s6p hpre | (simp only [rs0 hpre, rs1 hpre, rs2 hpre, rs3 hpre, rs4 hpre, rs5 hpre, rs6 hpre, rs7 hpre, rs8 hpre, rs9 hpre, rs10 hpre, rs11 hpre, beq_self_eq_true, Bool.and_self, Bool.not_true, bne_self_eq_false]; done))
  unfold oSteps_b17 at h8
  have h9 : (oSteps_b18 s0 t0 s1 t1 s2 t2 s3 t3 s4 t4 s5 t5) := by
    unfold oSteps_b18
    first | rfl | trivial | with_reducible exact ps0 hpre | with_reducible exact ps1 hpre | with_reducible exact ps2 hpre | with_reducible exact ps3 hpre | with_reducible exact ps4 hpre | with_reducible exact ps5 hpre | exact pg0 hpre | exact pg1 hpre | exact pg2 hpre | exact pg3 hpre | exact pg4 hpre | exact pg5 hpre | (simp only [st0 hpre, st1 hpre, st2 hpre, st3 hpre, st4 hpre, st5 hpre, st6 hpre, st7 hpre, st8 hpre, st9 hpre, st10 hpre, st11 hpre]; first | with_reducible exact pq0 hpre | with_reducible exact pq1 hpre | with_reducible exact pq2 hpre | with_reducible exact pq3 hpre | with_reducible exact pq4 hpre | with_reducible exact pq5 hpre | exact s6p hpre | (simp only [rs0 hpre, rs1 hpre, rs2 hpre, rs3 hpre, rs4 hpre, rs5 hpre, rs6 hpre, rs7 hpre, rs8 hpre, rs9 hpre, rs10 hpre, rs11 hpre, beq_self_eq_true, Bool.and_self, Bool.not_true, bne_self_eq_false]; done))
  unfold oSteps_b18 at h9
  have h10 : (oSteps_b19 s0 t0 s1 t1 s2 t2 s3 t3 s4 t4 s5 t5) := by
    unfold oSteps_b19
    first | rfl | trivial | with_reducible exact ps0 hpre | with_reducible exact ps1 hpre | with_reducible exact ps2 hpre | with_reducible exact ps3 hpre | with_reducible exact ps4 hpre | with_reducible exact ps5 hpre | exact pg0 hpre | exact pg1 hpre | exact pg2 hpre | exact pg3 hpre | exact pg4 hpre | exact pg5 hpre | (simp only [st0 hpre, st1 hpre, st2 hpre, st3 hpre, st4 hpre, st5 hpre, st6 hpre, st7 hpre, st8 hpre, st9 hpre, st10 hpre, st11 hpre]; first | with_reducible exact pq0 hpre | with_reducible exact pq1 hpre | with_reducible exact pq2 hpre | with_reducible exact pq3 hpre | with_reducible exact pq4 hpre | with_reducible exact pq5 hpre | exact s6p hpre | (simp only [rs0 hpre, rs1 hpre, rs2 hpre, rs3 hpre, rs4 hpre, rs5 hpre, rs6 hpre, rs7 hpre, rs8 hpre, rs9 hpre, rs10 hpre, rs11 hpre, beq_self_eq_true, Bool.and_self, Bool.not_true, bne_self_eq_false]; done))
  unfold oSteps_b19 at h10
  have h11 : (oSteps_b20 s0 t0 s1 t1 s2 t2 s3 t3 s4 t4 s5 t5) := by
    unfold oSteps_b20
    first | rfl | trivial | with_reducible exact ps0 hpre | with_reducible exact ps1 hpre | with_reducible exact ps2 hpre | with_reducible exact ps3 hpre | with_reducible exact ps4 hpre | with_reducible exact ps5 hpre | exact pg0 hpre | exact pg1 hpre | exact pg2 hpre | exact pg3 hpre | exact pg4 hpre | exact pg5 hpre | (simp only [st0 hpre, st1 hpre, st2 hpre, st3 hpre, st4 hpre, st5 hpre, st6 hpre, st7 hpre, st8 hpre, st9 hpre, st10 hpre, st11 hpre]; first | with_reducible exact pq0 hpre | with_reducible exact pq1 hpre | with_reducible exact pq2 hpre | with_reducible exact pq3 hpre | with_reducible exact pq4 hpre | with_reducible exact pq5 hpre | exact s6p hpre | (simp only [rs0 hpre, rs1 hpre, rs2 hpre, rs3 hpre, rs4 hpre, rs5 hpre, rs6 hpre, rs7 hpre, rs8 hpre, rs9 hpre, rs10 hpre, rs11 hpre, beq_self_eq_true, Bool.and_self, Bool.not_true, bne_self_eq_false]; done))
  unfold oSteps_b20 at h11
  have h12 : (oSteps_c6 s0 t0 s1 t1 s2 t2 s3 t3 s4 t4 s5 t5 = false) := by
    unfold oSteps_c6
    first | rfl | trivial | with_reducible exact ps0 hpre | with_reducible exact ps1 hpre | with_reducible exact ps2 hpre | with_reducible exact ps3 hpre | with_reducible exact ps4 hpre | with_reducible exact ps5 hpre | exact pg0 hpre | exact pg1 hpre | exact pg2 hpre | exact pg3 hpre | exact pg4 hpre | exact pg5 hpre | (simp only [st0 hpre, st1 hpre, st2 hpre, st3 hpre, st4 hpre, st5 hpre, st6 hpre, st7 hpre, st8 hpre, st9 hpre, st10 hpre, st11 hpre]; first | with_reducible exact pq0 hpre | with_reducible exact pq1 hpre | with_reducible exact pq2 hpre | with_reducible exact pq3 hpre | with_reducible exact pq4 hpre | with_reducible exact pq5 hpre | exact s6p hpre | (simp only [rs0 hpre, rs1 hpre, rs2 hpre, rs3 hpre, rs4 hpre, rs5 hpre, rs6 hpre, rs7 hpre, rs8 hpre, rs9 hpre, rs10 hpre, rs11 hpre, beq_self_eq_true, Bool.and_self, Bool.not_true, bne_self_eq_false]; done))
  unfold oSteps_c6 at h12
  have h13 : (oSteps_c7 s0 t0 s1 t1 s2 t2 s3 t3 s4 t4 s5 t5 = false) := by
    unfold oSteps_c7
    first | rfl | trivial | with_reducible exact ps0 hpre | with_reducible exact ps1 hpre | with_reducible exact ps2 hpre | with_reducible exact ps3 hpre | with_reducible exact ps4 hpre | with_reducible exact ps5 hpre | exact pg0 hpre | exact pg1 hpre | exact pg2 hpre | exact pg3 hpre | exact pg4 hpre | exact pg5 hpre | (simp only [st0 hpre, st1 hpre, st2 hpre, st3 hpre, st4 hpre, st5 hpre, st6 hpre, st7 hpre, st8 hpre, st9 hpre, st10 hpre, st11 hpre]; first | with_reducible exact pq0 hpre | with_reducible exact pq1 hpre | with_reducible exact pq2 hpre | with_reducible exact pq3 hpre | with_reducible exact pq4 hpre | with_reducible exact pq5 hpre | exact s6p hpre | (simp only [rs0 hpre, rs1 hpre, rs2 hpre, rs3 hpre, rs4 hpre, rs5 hpre, rs6 hpre, rs7 hpre, rs8 hpre, rs9 hpre, rs10 hpre, rs11 hpre, beq_self_eq_true, Bool.and_self, Bool.not_true, bne_self_eq_false]; done))
  unfold oSteps_c7 at h13
  have h14 : (oSteps_c8 s0 t0 s1 t1 s2 t2 s3 t3 s4 t4 s5 t5 = false) := by
    unfold oSteps_c8
    first | rfl | trivial | with_reducible exact ps0 hpre | with_reducible exact ps1 hpre | with_reducible exact ps2 hpre | with_reducible exact ps3 hpre | with_reducible exact ps4 hpre | with_reducible exact ps5 hpre | exact pg0 hpre | exact pg1 hpre | exact pg2 hpre | exact pg3 hpre | exact pg4 hpre | exact pg5 hpre | (simp only [st0 hpre, st1 hpre, st2 hpre, st3 hpre, st4 hpre, st5 hpre, st6 hpre, st7 hpre, st8 hpre, st9 hpre, st10 hpre, st11 hpre]; first | with_reducible exact pq0 hpre | with_reducible exact pq1 hpre | with_reducible exact pq2 hpre | with_reducible exact pq3 hpre | with_reducible exact pq4 hpre | with_reducible exact pq5 hpre | exact s6p hpre | (simp only [rs0 hpre, rs1 hpre, rs2 hpre, rs3 hpre, rs4 hpre, rs5 hpre, rs6 hpre, rs7 hpre, rs8 hpre, rs9 hpre, rs10 hpre, rs11 hpre, beq_self_eq_true, Bool.and_self, Bool.not_true, bne_self_eq_false]; done))
  unfold oSteps_c8 at h14
  have h15 : (oSteps_c9 s0 t0 s1 t1 s2 t2 s3 t3 s4 t4 s5 t5 = false) := by
    unfold oSteps_c9
    first | rfl | trivial | with_reducible exact ps0 hpre | with_reducible exact ps1 hpre | with_reducible exact ps2 hpre | with_reducible exact ps3 hpre | with_reducible exact ps4 hpre | with_reducible exact ps5 hpre | exact pg0 hpre | exact pg1 hpre | exact pg2 hpre | exact pg3 hpre | exact pg4 hpre | exact pg5 hpre | (simp only [st0 hpre, st1 hpre, st2 hpre, st3 hpre, st4 hpre, st5 hpre, st6 hpre, st7 hpre, st8 hpre, st9 hpre, st10 hpre, st11 hpre]; first | with_reducible exact pq0 hpre | with_reducible exact pq1 hpre | with_reducible exact pq2 hpre | with_reducible exact pq3 hpre | with_reducible exact pq4 hpre | with_reducible exact pq5 hpre | exact s6p hpre | (simp only [rs0 hpre, rs1 hpre, rs2 hpre, rs3 hpre, rs4 hpre, rs5 hpre, rs6 hpre, rs7 hpre, rs8 hpre, rs9 hpre, rs10 hpre, rs11 hpre, beq_self_eq_true, Bool.and_self, Bool.not_true, bne_self_eq_false]; done))
  unfold oSteps_c9 at h15
  have h16 : (oSteps_c10 s0 t0 s1 t1 s2 t2 s3 t3 s4 t4 s5 t5 = false) := by
    unfold oSteps_c10
    first | rfl | trivial | with_reducible exact ps0 hpre | with_reducible exact ps1 hpre | with_reducible exact ps2 hpre | with_reducible exact ps3 hpre | with_reducible exact ps4 hpre | with_reducible exact ps5 hpre | exact pg0 hpre | exact pg1 hpre | exact pg2 hpre | exact pg3 hpre | exact pg4 hpre | exact pg5 hpre | (simp only [st0 hpre, st1 hpre, st2 hpre, st3 hpre, st4 hpre, st5 hpre, st6 hpre, st7 hpre, st8 hpre, st9 hpre, st10 hpre, st11 hpre]; first | with_reducible exact pq0 hpre | with_reducible exact pq1 hpre | with_reducible exact pq2 hpre | with_reducible exact pq3 hpre | with_reducible exact pq4 hpre | with_reducible exact pq5 hpre | exact s6p hpre | (simp only [rs0 hpre, rs1 hpre, rs2 hpre, rs3 hpre, rs4 hpre, rs5 hpre, rs6 hpre, rs7 hpre, rs8 hpre, rs9 hpre, rs10 hpre, rs11 hpre, beq_self_eq_true, Bool.and_self, Bool.not_true, bne_self_eq_false]; done))
  unfold oSteps_c10 at h16
  have h17 : (oSteps_c11 s0 t0 s1 t1 s2 t2 s3 t3 s4 t4 s5 t5 = false) := by
    unfold oSteps_c11
    first | rfl | trivial | with_reducible exact ps0 hpre | with_reducible exact ps1 hpre | with_reducible exact ps2 hpre | with_reducible exact ps3 hpre | with_reducible exact ps4 hpre | with_reducible exact ps5 hpre | exact pg0 hpre | exact pg1 hpre | exact pg2 hpre | exact pg3 hpre | exact pg4 hpre | exact pg5 hpre | (simp only [st0 hpre, st1 hpre, st2 hpre, st3 hpre, st4 hpre, st5 hpre, st6 hpre, st7 hpre, st8 hpre, st9 hpre, st10 hpre, st11 hpre]; first | with_reducible exact pq0 hpre | with_reducible exact pq1 hpre | with_reducible exact pq2 hpre | with_reducible exact pq3 hpre | with_reducible exact pq4 hpre | with_reducible exact pq5 hpre | exact s6p hpre | (simp only [rs0 hpre, rs1 hpre, rs2 hpre, rs3 hpre, rs4 hpre, rs5 hpre, rs6 hpre, rs7 hpre, rs8 hpre, rs9 hpre, rs10 hpre, rs11 hpre, beq_self_eq_true, Bool.and_self, Bool.not_true, bne_self_eq_false]; done))
  unfold oSteps_c11 at h17
  have h18 : (oSteps_b27 s0 t0 s1 t1 s2 t2 s3 t3 s4 t4 s5 t5) := by
    unfold oSteps_b27
    first | rfl | trivial | with_reducible exact ps0 hpre | with_reducible exact ps1 hpre | with_reducible exact ps2 hpre | with_reducible exact ps3 hpre | with_reducible exact ps4 hpre | with_reducible exact ps5 hpre | exact pg0 hpre | exact pg1 hpre | exact pg2 hpre | exact pg3 hpre | exact pg4 hpre | exact pg5 hpre | (simp only [st0 hpre, st1 hpre, st2 hpre, st3 hpre, st4 hpre, st5 hpre, st6 hpre, st7 hpre, st8 hpre, st9 hpre, st10 hpre, st11 hpre]; first | with_reducible exact pq0 hpre | with_reducible exact pq1 hpre | with_reducible exact pq2 hpre | with_reducible exact pq3 hpre | with_reducible exact pq4 hpre | with_reducible exact pq5 hpre | exact s6p hpre | (simp only [rs0 hpre, rs1 hpre, rs2 hpre, rs3 hpre, rs4 hpre, rs5 hpre, rs6 hpre, rs7 hpre, rs8 hpre, rs9 hpre, rs10 hpre, rs11 hpre, beq_self_eq_true, Bool.and_self, Bool.not_true, bne_self_eq_false]; done))
  unfold oSteps_b27 at h18
  have h19 : (oSteps_c12 s0 t0 s1 t1 s2 t2 s3 t3 s4 t4 s5 t5 = false) := by
    unfold oSteps_c12
    first | rfl | trivial | with_reducible exact ps0 hpre | with_reducible exact ps1 hpre | with_reducible exact ps2 hpre | with_reducible exact ps3 hpre | with_reducible exact ps4 hpre | with_reducible exact ps5 hpre | exact pg0 hpre | exact pg1 hpre | exact pg2 hpre | exact pg3 hpre | exact pg4 hpre | exact pg5 hpre | (simp only [st0 hpre, st1 hpre, st2 hpre, st3 hpre, st4 hpre, st5 hpre, st6 hpre, st7 hpre, st8 hpre, st9 hpre, st10 hpre, st11 hpre]; first | with_reducible exact pq0 hpre | with_reducible exact pq1 hpre | with_reducible exact pq2 hpre | with_reducible exact pq3 hpre | with_reducible exact pq4 hpre | with_reducible exact pq5 hpre | exact s6p hpre | (simp only [rs0 hpre, rs1 hpre, rs2 hpre, rs3 hpre, rs4 hpre, rs5 hpre, rs6 hpre, rs7 hpre, rs8 hpre, rs9 hpre, rs10 hpre, rs11 hpre, beq_self_eq_true, Bool.and_self, Bool.not_true, bne_self_eq_false]; done))
  unfold oSteps_c12 at h19
  have hp := oSteps_p0 s0 t0 s1 t1 s2 t2 s3 t3 s4 t4 s5 t5 ⟨⟨⟨⟨⟨⟨⟨⟨⟨⟨⟨⟨⟨⟨⟨⟨⟨⟨⟨⟨⟨⟨⟨⟨⟨⟨⟨⟨⟨⟨⟨⟨⟨⟨⟨⟨⟨⟨⟨⟨⟨⟨⟨⟨⟨⟨⟨⟨⟨⟨⟨⟨⟨⟨⟨⟨⟨⟨⟨⟨⟨⟨⟨⟨⟨⟨⟨⟨⟨⟨⟨⟨⟨⟨⟨⟨⟨⟨⟨⟨⟨⟨⟨⟨⟨⟨⟨⟨⟨⟨⟨⟨⟨⟨⟨⟨⟨⟨⟨⟨⟨⟨⟨⟨⟨⟨⟨⟨⟨⟨⟨⟨⟨⟨⟨⟨⟨⟨⟨⟨⟨⟨⟨⟨⟨⟨⟨⟨⟨⟨⟨⟨⟨⟨⟨⟨⟨⟨⟨⟨⟨⟨⟨⟨⟨⟨⟨⟨⟨⟨⟨⟨⟨⟨⟨⟨⟨⟨⟨⟨⟨⟨⟨⟨⟨⟨⟨⟨⟨⟨⟨⟨⟨⟨⟨⟨⟨⟨⟨⟨⟨⟨⟨⟨⟨⟨⟨⟨⟨⟨⟨⟨⟨⟨⟨⟨⟨⟨⟨⟨⟨⟨⟨⟨⟨⟨⟨⟨⟨⟨⟨⟨⟨⟨⟨⟨⟨⟨⟨⟨⟨⟨⟨⟨⟨⟨⟨⟨⟨⟨⟨⟨⟨⟨⟨⟨⟨⟨⟨⟨⟨⟨⟨⟨⟨⟨⟨⟨⟨⟨⟨⟨⟨⟨⟨⟨⟨⟨⟨⟨⟨⟨⟨⟨⟨⟨⟨⟨⟨⟨⟨⟨⟨⟨⟨⟨⟨⟨⟨⟨⟨⟨trivial, oSteps_g0⟩, oSteps_g1⟩, oSteps_g2⟩, h0⟩, oSteps_g0⟩, oSteps_g4⟩, oSteps_g2⟩, h1⟩, oSteps_g0⟩, oSteps_g6⟩, oSteps_g2⟩, h2⟩, oSteps_g0⟩, oSteps_g8⟩, oSteps_g2⟩, h3⟩, oSteps_g0⟩, oSteps_g10⟩, oSteps_g2⟩, h4⟩, oSteps_g0⟩, oSteps_g12⟩, oSteps_g2⟩, h5⟩, oSteps_g14⟩, oSteps_g14⟩, oSteps_g0⟩, oSteps_g0⟩, oSteps_g1⟩, oSteps_g1⟩, h6⟩, oSteps_g1⟩, oSteps_g0⟩, oSteps_g1⟩, oSteps_g4⟩, h7⟩, oSteps_g1⟩, oSteps_g0⟩, oSteps_g1⟩, oSteps_g6⟩, h8⟩, oSteps_g1⟩, oSteps_g0⟩, oSteps_g1⟩, oSteps_g8⟩, h9⟩, oSteps_g1⟩, oSteps_g0⟩, oSteps_g1⟩, oSteps_g10⟩, h10⟩, oSteps_g1⟩, oSteps_g0⟩, oSteps_g1⟩, oSteps_g12⟩, h11⟩, oSteps_g1⟩, oSteps_g14⟩, oSteps_g0⟩, oSteps_g0⟩, oSteps_g4⟩, oSteps_g1⟩, h6⟩, oSteps_g4⟩, oSteps_g0⟩, oSteps_g4⟩, oSteps_g4⟩, h7⟩, oSteps_g4⟩, oSteps_g0⟩, oSteps_g4⟩, oSteps_g6⟩, h8⟩, oSteps_g4⟩, oSteps_g0⟩, oSteps_g4⟩, oSteps_g8⟩, h9⟩, oSteps_g4⟩, oSteps_g0⟩, oSteps_g4⟩, oSteps_g10⟩, h10⟩, oSteps_g4⟩, oSteps_g0⟩, oSteps_g4⟩, oSteps_g12⟩, h11⟩, oSteps_g4⟩, oSteps_g14⟩, oSteps_g0⟩, oSteps_g0⟩, oSteps_g6⟩, oSteps_g1⟩, h6⟩, oSteps_g6⟩, oSteps_g0⟩, oSteps_g6⟩, oSteps_g4⟩, h7⟩, oSteps_g6⟩, oSteps_g0⟩, oSteps_g6⟩, oSteps_g6⟩, h8⟩, oSteps_g6⟩, oSteps_g0⟩, oSteps_g6⟩, oSteps_g8⟩, h9⟩, oSteps_g6⟩, oSteps_g0⟩, oSteps_g6⟩, oSteps_g10⟩, h10⟩, oSteps_g6⟩, oSteps_g0⟩, oSteps_g6⟩, oSteps_g12⟩, h11⟩, oSteps_g6⟩, oSteps_g14⟩, oSteps_g0⟩, oSteps_g0⟩, oSteps_g8⟩, oSteps_g1⟩, h6⟩, oSteps_g8⟩, oSteps_g0⟩, oSteps_g8⟩, oSteps_g4⟩, h7⟩, oSteps_g8⟩, oSteps_g0⟩, oSteps_g8⟩, oSteps_g6⟩, h8⟩, oSteps_g8⟩, oSteps_g0⟩, oSteps_g8⟩, oSteps_g8⟩, h9⟩, oSteps_g8⟩, oSteps_g0⟩, oSteps_g8⟩, oSteps_g10⟩, h10⟩, oSteps_g8⟩, oSteps_g0⟩, oSteps_g8⟩, oSteps_g12⟩, h11⟩, oSteps_g8⟩, oSteps_g14⟩, oSteps_g0⟩, oSteps_g0⟩, oSteps_g10⟩, oSteps_g1⟩, h6⟩, oSteps_g10⟩, oSteps_g0⟩, oSteps_g10⟩, oSteps_g4⟩, h7⟩, oSteps_g10⟩, oSteps_g0⟩, oSteps_g10⟩, oSteps_g6⟩, h8⟩, oSteps_g10⟩, oSteps_g0⟩, oSteps_g10⟩, oSteps_g8⟩, h9⟩, oSteps_g10⟩, oSteps_g0⟩, oSteps_g10⟩, oSteps_g10⟩, h10⟩, oSteps_g10⟩, oSteps_g0⟩, oSteps_g10⟩, oSteps_g12⟩, h11⟩, oSteps_g10⟩, oSteps_g14⟩, oSteps_g0⟩, oSteps_g0⟩, oSteps_g12⟩, oSteps_g1⟩, h6⟩, oSteps_g12⟩, oSteps_g0⟩, oSteps_g12⟩, oSteps_g4⟩, h7⟩, oSteps_g12⟩, oSteps_g0⟩, oSteps_g12⟩, oSteps_g6⟩, h8⟩, oSteps_g12⟩, oSteps_g0⟩, oSteps_g12⟩, oSteps_g8⟩, h9⟩, oSteps_g12⟩, oSteps_g0⟩, oSteps_g12⟩, oSteps_g10⟩, h10⟩, oSteps_g12⟩, oSteps_g0⟩, oSteps_g12⟩, oSteps_g12⟩, h11⟩, oSteps_g12⟩, oSteps_g14⟩, oSteps_g14⟩, oSteps_g0⟩, oSteps_g1⟩, oSteps_g14⟩, oSteps_g14⟩, oSteps_g1⟩, oSteps_g0⟩, oSteps_g4⟩, oSteps_g14⟩, oSteps_g14⟩, oSteps_g4⟩, oSteps_g0⟩, oSteps_g6⟩, oSteps_g14⟩, oSteps_g14⟩, oSteps_g6⟩, oSteps_g0⟩, oSteps_g8⟩, oSteps_g14⟩, oSteps_g14⟩, oSteps_g8⟩, oSteps_g0⟩, oSteps_g10⟩, oSteps_g14⟩, oSteps_g14⟩, oSteps_g10⟩, oSteps_g0⟩, oSteps_g12⟩, oSteps_g14⟩, oSteps_g14⟩, oSteps_g12⟩, oSteps_g14⟩, oSteps_g0⟩, oSteps_g1⟩, oSteps_g2⟩, h12⟩, oSteps_g0⟩, oSteps_g4⟩, oSteps_g2⟩, h13⟩, oSteps_g0⟩, oSteps_g6⟩, oSteps_g2⟩, h14⟩, oSteps_g0⟩, oSteps_g8⟩, oSteps_g2⟩, h15⟩, oSteps_g0⟩, oSteps_g10⟩, oSteps_g2⟩, h16⟩, oSteps_g0⟩, oSteps_g12⟩, oSteps_g2⟩, h17⟩, oSteps_g14⟩, oSteps_g14⟩, oSteps_g14⟩, h18⟩, oSteps_g14⟩, oSteps_g14⟩, oSteps_g14⟩, h19⟩ w
  have hv : oSteps_w0 s0 t0 s1 t1 s2 t2 s3 t3 s4 t4 s5 t5 = (oSteps_val s0 t0 s1 t1 s2 t2 s3 t3 s4 t4 s5 t5) := by
    clear hp
    unfold oSteps_w0 oSteps_val
    simp only [st0 hpre, st1 hpre, st2 hpre, st3 hpre, st4 hpre, st5 hpre, st6 hpre, st7 hpre, st8 hpre, st9 hpre, st10 hpre, st11 hpre]
  exact hv ▸ hp
theorem k_oSteps : ConOk Tryz.prog c_oSteps := fun ns hl => by
  have hl0 : ns.length = 12 := hl
  clear hl
  obtain ⟨s0, ns0, rfl, hl1⟩ := len_cons hl0
  obtain ⟨t0, ns1, rfl, hl2⟩ := len_cons hl1
  obtain ⟨s1, ns2, rfl, hl3⟩ := len_cons hl2
  obtain ⟨t1, ns3, rfl, hl4⟩ := len_cons hl3
  obtain ⟨s2, ns4, rfl, hl5⟩ := len_cons hl4
  obtain ⟨t2, ns5, rfl, hl6⟩ := len_cons hl5
  obtain ⟨s3, ns6, rfl, hl7⟩ := len_cons hl6
  obtain ⟨t3, ns7, rfl, hl8⟩ := len_cons hl7
  obtain ⟨s4, ns8, rfl, hl9⟩ := len_cons hl8
  obtain ⟨t4, ns9, rfl, hl10⟩ := len_cons hl9
  obtain ⟨s5, ns10, rfl, hl11⟩ := len_cons hl10
  obtain ⟨t5, ns11, rfl, hl12⟩ := len_cons hl11
  obtain rfl := len_nil hl12
  exact ⟨rfl, fun h w => oSteps_any s0 t0 s1 t1 s2 t2 s3 t3 s4 t4 s5 t5 h w⟩
end Go.Proofs.YtjpffbekhfkibaaGreatDoor
end
section
set_option linter.all false
set_option maxRecDepth 1000000
set_option maxHeartbeats 2000000
open Go.RowKit
namespace Go.Proofs.YtjpffbekhfkibaaGreatDoor
open Mini

def enorm_val (a b : Int) : Value := .int .i64 (Pl.norm (a, b))
theorem enorm_X : FOkS Tryz.prog x_enorm := noXS_ok
theorem enorm_args (a b : Int) : (#[.agg #[.int .i64 a, .int .i64 b]] : Array Value).toList.all (ground 8) = true := by kernel_rfl
def enorm_w0 (a b : Int) : Value := .int .i64 (IntKind.i64.wrap ((IntKind.i64.wrap ((IntKind.i64.wrap (a * a)) - (IntKind.i64.wrap (a * b)))) + (IntKind.i64.wrap (b * b))))
def enorm_r0 (a b : Int) : Prop := True
theorem enorm_o0 (a b : Int) : obOf (enorm_e0 a b) = enorm_r0 a b := by kernel_rfl
theorem enorm_v0 (a b : Int) : resOf (enorm_e0 a b) = enorm_w0 a b := by kernel_rfl
theorem enorm_k0 (a b : Int) : cleanOf Tryz.prog.globals.size (enorm_e0 a b) = true := by kernel_rfl
theorem enorm_q0 (a b : Int) : enorm_e0 a b = evFS Tryz.prog x_enorm 1000 42 #[.agg #[.int .i64 a, .int .i64 b]] (noTabs 6) ⟨[], True⟩ := by
  delta enorm_e0
  exact Eq.refl _
theorem enorm_p0 (a b : Int) (h : enorm_r0 a b) (w : World) : Calls Tryz.prog 42 #[.agg #[.int .i64 a, .int .i64 b]] w fun en w' => en = .returned (enorm_w0 a b) ∧ Below w.heap.size w w' := by
  have hv := enorm_v0 a b
  have hc := enorm_k0 a b
  have he := enorm_q0 a b
  have ho := enorm_o0 a b
  generalize enorm_e0 a b = r at *
  exact calls_way he gfol enorm_X hv rfl (enorm_args a b) hc ho h (bl w)
theorem enorm_any (a b : Int) (hpre : Bg 268435456 a b) (w : World) : Calls Tryz.prog 42 #[.agg #[.int .i64 a, .int .i64 b]] w fun en w' => en = .returned (enorm_val a b) ∧ Below w.heap.size w w' := by
  obtain ⟨p1, p2, p3, p4⟩ := hpre
  have b1 := bd 268435456 268435456 a a (by omega) (by omega) ⟨p1, p2⟩ ⟨p1, p2⟩
  have b2 := bd 268435456 268435456 b b (by omega) (by omega) ⟨p3, p4⟩ ⟨p3, p4⟩
  have b3 := bd 268435456 268435456 a b (by omega) (by omega) ⟨p1, p2⟩ ⟨p3, p4⟩
  have hp := enorm_p0 a b trivial w
  have hv : enorm_w0 a b = (enorm_val a b) := by
    clear hp
    unfold enorm_w0 enorm_val
    (try simp (disch := omega) only [wi]); rfl
  exact hv ▸ hp
theorem k_enorm : ConOk Tryz.prog c_enorm := fun ns hl => by
  have hl0 : ns.length = 2 := hl
  clear hl
  obtain ⟨a, ns0, rfl, hl1⟩ := len_cons hl0
  obtain ⟨b, ns1, rfl, hl2⟩ := len_cons hl1
  obtain rfl := len_nil hl2
  exact ⟨rfl, fun h w => enorm_any a b h w⟩
end Go.Proofs.YtjpffbekhfkibaaGreatDoor
end
section
set_option linter.all false
set_option maxRecDepth 1000000
set_option maxHeartbeats 2000000
open Go.RowKit
namespace Go.Proofs.YtjpffbekhfkibaaGreatDoor
open Mini

def oNorm_val (a b : Int) : Value := .tuple #[.int .i64 (Pl.norm (a, b)), .int .i64 0]
theorem oNorm_X : FOkS Tryz.prog x_oNorm := kAll_ok _ ⟨k_checkEisen, k_enorm, trivial⟩
theorem oNorm_args (a b : Int) : (#[.agg #[.int .i64 a, .int .i64 b]] : Array Value).toList.all (ground 8) = true := by kernel_rfl
theorem oNorm_g0 : True := by first | rfl | trivial | decide | omega
def oNorm_c0 (a b : Int) : Bool := ((Pl.parts a b (1048576 : Int)) != (0 : Int))
def oNorm_b2 (a b : Int) : Prop := (((-268435456 : Int) ≤ a) ∧ ((a ≤ (268435456 : Int)) ∧ (((-268435456 : Int) ≤ b) ∧ (b ≤ (268435456 : Int)))))
def oNorm_w0 (a b : Int) : Value := .tuple #[.int .i64 (Pl.norm (a , b)), .int .i64 (0 : Int)]
def oNorm_r0 (a b : Int) : Prop := (((True ∧ (True)) ∧ (oNorm_c0 a b = false)) ∧ (oNorm_b2 a b))
theorem oNorm_o0 (a b : Int) : obOf (oNorm_e0 a b) = oNorm_r0 a b := by kernel_rfl
theorem oNorm_v0 (a b : Int) : resOf (oNorm_e0 a b) = oNorm_w0 a b := by kernel_rfl
theorem oNorm_k0 (a b : Int) : cleanOf Tryz.prog.globals.size (oNorm_e0 a b) = true := by kernel_rfl
theorem oNorm_q0 (a b : Int) : oNorm_e0 a b = evFS Tryz.prog x_oNorm 1000 12 #[.agg #[.int .i64 a, .int .i64 b]] (noTabs 6) ⟨[0], True⟩ := by
  delta oNorm_e0
  exact Eq.refl _
theorem oNorm_p0 (a b : Int) (h : oNorm_r0 a b) (w : World) : Calls Tryz.prog 12 #[.agg #[.int .i64 a, .int .i64 b]] w fun en w' => en = .returned (oNorm_w0 a b) ∧ Below w.heap.size w w' := by
  have hv := oNorm_v0 a b
  have hc := oNorm_k0 a b
  have he := oNorm_q0 a b
  have ho := oNorm_o0 a b
  generalize oNorm_e0 a b = r at *
  exact calls_way he gfol oNorm_X hv rfl (oNorm_args a b) hc ho h (bl w)
theorem oNorm_any (a b : Int) (hpre : -1048576 ≤ a ∧ a ≤ 1048576 ∧ -1048576 ≤ b ∧ b ≤ 1048576) (w : World) : Calls Tryz.prog 12 #[.agg #[.int .i64 a, .int .i64 b]] w fun en w' => en = .returned (oNorm_val a b) ∧ Below w.heap.size w w' := by
  obtain ⟨q1, q2, q3, q4⟩ := hpre
  have h0 : (oNorm_c0 a b = false) := by
    unfold oNorm_c0
    first | rfl | trivial | exact pz (by omega) (by omega) | exact bgo (by omega) (by omega)
  unfold oNorm_c0 at h0
  have h1 : (oNorm_b2 a b) := by
    unfold oNorm_b2
    first | rfl | trivial | exact pz (by omega) (by omega) | exact bgo (by omega) (by omega)
  unfold oNorm_b2 at h1
  have hp := oNorm_p0 a b ⟨⟨⟨trivial, oNorm_g0⟩, h0⟩, h1⟩ w
  have hv : oNorm_w0 a b = (oNorm_val a b) := by
    clear hp
    unfold oNorm_w0 oNorm_val
    rfl
  exact hv ▸ hp
theorem k_oNorm : ConOk Tryz.prog c_oNorm := fun ns hl => by
  have hl0 : ns.length = 2 := hl
  clear hl
  obtain ⟨a, ns0, rfl, hl1⟩ := len_cons hl0
  obtain ⟨b, ns1, rfl, hl2⟩ := len_cons hl1
  obtain rfl := len_nil hl2
  exact ⟨rfl, fun h w => oNorm_any a b h w⟩
end Go.Proofs.YtjpffbekhfkibaaGreatDoor
end
section
set_option linter.all false
set_option maxRecDepth 1000000
set_option maxHeartbeats 2000000
open Go.RowKit
namespace Go.Proofs.YtjpffbekhfkibaaGreatDoor
open Mini

def oTurned_val (a b n : Int) : Value := .tuple #[.agg #[.int .i64 (Pl.turn (a, b) n).1, .int .i64 (Pl.turn (a, b) n).2], .int .i64 0]
theorem oTurned_X : FOkS Tryz.prog x_oTurned := kAll_ok _ ⟨k_checkEisen, k_checkTurn, k_turn, k_limited, trivial⟩
theorem oTurned_args (a b n : Int) : (#[.agg #[.int .i64 a, .int .i64 b], .int .i64 n] : Array Value).toList.all (ground 8) = true := by kernel_rfl
theorem oTurned_g0 : True := by first | rfl | trivial | decide | omega
theorem oTurned_g1 : (true = true) := by first | rfl | trivial | decide | omega
theorem oTurned_g2 : ((0 : Int) = (0 : Int)) := by first | rfl | trivial | decide | omega
def oTurned_c0 (a b n : Int) : Bool := ((Pl.parts a b (1048576 : Int)) != (0 : Int))
theorem oTurned_g4 : ((1 : Int) = (1 : Int)) := by first | rfl | trivial | decide | omega
def oTurned_c1 (a b n : Int) : Bool := ((Pl.cr n (-1000000 : Int) (1000000 : Int)) != (0 : Int))
theorem oTurned_g6 : (false = false) := by first | rfl | trivial | decide | omega
def oTurned_b7 (a b n : Int) : Prop := (((-1099511627776 : Int) ≤ a) ∧ ((a ≤ (1099511627776 : Int)) ∧ (((-1099511627776 : Int) ≤ b) ∧ (b ≤ (1099511627776 : Int)))))
def oTurned_w0 (a b n : Int) : Value := .tuple #[.agg #[.int .i64 ((Pl.lim ((Pl.turn (a , b) n).1 , (Pl.turn (a , b) n).2)).1).1, .int .i64 ((Pl.lim ((Pl.turn (a , b) n).1 , (Pl.turn (a , b) n).2)).1).2], .int .i64 (Pl.lim ((Pl.turn (a , b) n).1 , (Pl.turn (a , b) n).2)).2]
def oTurned_r0 (a b n : Int) : Prop := ((((((((((((True ∧ (True)) ∧ (True)) ∧ ((true = true))) ∧ (((0 : Int) = (0 : Int)))) ∧ (oTurned_c0 a b n = false)) ∧ ((true = true))) ∧ (((1 : Int) = (1 : Int)))) ∧ (oTurned_c1 a b n = false)) ∧ ((false = false))) ∧ ((false = false))) ∧ (oTurned_b7 a b n)) ∧ (True))
theorem oTurned_o0 (a b n : Int) : obOf (oTurned_e0 a b n) = oTurned_r0 a b n := by kernel_rfl
theorem oTurned_v0 (a b n : Int) : resOf (oTurned_e0 a b n) = oTurned_w0 a b n := by kernel_rfl
theorem oTurned_k0 (a b n : Int) : cleanOf Tryz.prog.globals.size (oTurned_e0 a b n) = true := by kernel_rfl
theorem oTurned_q0 (a b n : Int) : oTurned_e0 a b n = evFS Tryz.prog x_oTurned 1000 13 #[.agg #[.int .i64 a, .int .i64 b], .int .i64 n] (noTabs 6) ⟨[1, 0, 0, 1, 1, 0, 0, 0], True⟩ := by
  delta oTurned_e0
  exact Eq.refl _
theorem oTurned_p0 (a b n : Int) (h : oTurned_r0 a b n) (w : World) : Calls Tryz.prog 13 #[.agg #[.int .i64 a, .int .i64 b], .int .i64 n] w fun en w' => en = .returned (oTurned_w0 a b n) ∧ Below w.heap.size w w' := by
  have hv := oTurned_v0 a b n
  have hc := oTurned_k0 a b n
  have he := oTurned_q0 a b n
  have ho := oTurned_o0 a b n
  generalize oTurned_e0 a b n = r at *
  exact calls_way he gfol oTurned_X hv rfl (oTurned_args a b n) hc ho h (bl w)
theorem oTurned_any (a b n : Int) (hpre : (-524288 ≤ a ∧ a ≤ 524288) ∧ (-524288 ≤ b ∧ b ≤ 524288) ∧ -1000000 ≤ n ∧ n ≤ 1000000) (w : World) : Calls Tryz.prog 13 #[.agg #[.int .i64 a, .int .i64 b], .int .i64 n] w fun en w' => en = .returned (oTurned_val a b n) ∧ Below w.heap.size w w' := by
  obtain ⟨q0, q1, q2⟩ := hpre
  have hl : Pl.lim ((Pl.turn (a, b) n).1, (Pl.turn (a, b) n).2) = ((Pl.turn (a, b) n), 0) := by
    have h := turn_in (a, b) n 524288 ⟨q0.1, q0.2, q1.1, q1.2⟩
    have h2 : Pl.inB 1048576 ((Pl.turn (a, b) n).1, (Pl.turn (a, b) n).2) := h
    unfold Pl.lim
    rw [if_pos h2]
  have h0 : (oTurned_c0 a b n = false) := by
    unfold oTurned_c0
    first | rfl | trivial | (exact pz (by omega) (by omega)) | exact bgo (by omega) (by omega) | (rw [pz (by omega) (by omega)]; done) | (rw [crt q2]; done) | (rw [crt q2]; rfl) | (simp [crt q2, par0 (show -1048576 ≤ a ∧ a ≤ 1048576 by omega) (show -1048576 ≤ b ∧ b ≤ 1048576 by omega)]; done)
  unfold oTurned_c0 at h0
  have h1 : (oTurned_c1 a b n = false) := by
    unfold oTurned_c1
    first | rfl | trivial | (exact pz (by omega) (by omega)) | exact bgo (by omega) (by omega) | (rw [pz (by omega) (by omega)]; done) | (rw [crt q2]; done) | (rw [crt q2]; rfl) | (simp [crt q2, par0 (show -1048576 ≤ a ∧ a ≤ 1048576 by omega) (show -1048576 ≤ b ∧ b ≤ 1048576 by omega)]; done)
  unfold oTurned_c1 at h1
  have h2 : (oTurned_b7 a b n) := by
    unfold oTurned_b7
    first | rfl | trivial | (exact pz (by omega) (by omega)) | exact bgo (by omega) (by omega) | (rw [pz (by omega) (by omega)]; done) | (rw [crt q2]; done) | (rw [crt q2]; rfl) | (simp [crt q2, par0 (show -1048576 ≤ a ∧ a ≤ 1048576 by omega) (show -1048576 ≤ b ∧ b ≤ 1048576 by omega)]; done)
  unfold oTurned_b7 at h2
  have hp := oTurned_p0 a b n ⟨⟨⟨⟨⟨⟨⟨⟨⟨⟨⟨⟨trivial, oTurned_g0⟩, oTurned_g0⟩, oTurned_g1⟩, oTurned_g2⟩, h0⟩, oTurned_g1⟩, oTurned_g4⟩, h1⟩, oTurned_g6⟩, oTurned_g6⟩, h2⟩, oTurned_g0⟩ w
  have hv : oTurned_w0 a b n = (oTurned_val a b n) := by
    clear hp
    unfold oTurned_w0 oTurned_val
    first | (rw [hl]; done) | (rw [hl]; rfl) | (simp only [hl])
  exact hv ▸ hp
theorem k_oTurned : ConOk Tryz.prog c_oTurned := fun ns hl => by
  have hl0 : ns.length = 3 := hl
  clear hl
  obtain ⟨a, ns0, rfl, hl1⟩ := len_cons hl0
  obtain ⟨b, ns1, rfl, hl2⟩ := len_cons hl1
  obtain ⟨n, ns2, rfl, hl3⟩ := len_cons hl2
  obtain rfl := len_nil hl3
  exact ⟨rfl, fun h w => oTurned_any a b n h w⟩
end Go.Proofs.YtjpffbekhfkibaaGreatDoor
end
section
set_option linter.all false
set_option maxRecDepth 1000000
set_option maxHeartbeats 2000000
open Go.RowKit
namespace Go.Proofs.YtjpffbekhfkibaaGreatDoor
open Mini

def rrange_val (n lo hi : Int) : Value := .int .i64 (Pl.cr n lo hi)
theorem rrange_X : FOkS Tryz.prog x_rrange := noXS_ok
theorem rrange_args (n lo hi : Int) : (#[.int .i64 n, .int .i64 lo, .int .i64 hi] : Array Value).toList.all (ground 8) = true := by kernel_rfl
def rrange_c0 (n lo hi : Int) : Bool := (decide (n < lo))
theorem rrange_g1 : (true = true) := by first | rfl | trivial | decide | omega
def rrange_c1 (n lo hi : Int) : Bool := (decide (n > hi))
def rrange_w0 (n lo hi : Int) : Value := .int .i64 (3 : Int)
def rrange_r0 (n lo hi : Int) : Prop := (((((True ∧ (rrange_c0 n lo hi = true)) ∧ (rrange_c0 n lo hi = true)) ∧ (rrange_c0 n lo hi = true)) ∧ (rrange_c0 n lo hi = true)) ∧ ((true = true)))
theorem rrange_o0 (n lo hi : Int) : obOf (rrange_e0 n lo hi) = rrange_r0 n lo hi := by kernel_rfl
theorem rrange_v0 (n lo hi : Int) : resOf (rrange_e0 n lo hi) = rrange_w0 n lo hi := by kernel_rfl
theorem rrange_k0 (n lo hi : Int) : cleanOf Tryz.prog.globals.size (rrange_e0 n lo hi) = true := by kernel_rfl
theorem rrange_q0 (n lo hi : Int) : rrange_e0 n lo hi = evFS Tryz.prog x_rrange 1000 67 #[.int .i64 n, .int .i64 lo, .int .i64 hi] (noTabs 6) ⟨[0, 0, 0, 1, 1], True⟩ := by
  delta rrange_e0
  exact Eq.refl _
theorem rrange_p0 (n lo hi : Int) (h : rrange_r0 n lo hi) (w : World) : Calls Tryz.prog 67 #[.int .i64 n, .int .i64 lo, .int .i64 hi] w fun en w' => en = .returned (rrange_w0 n lo hi) ∧ Below w.heap.size w w' := by
  have hv := rrange_v0 n lo hi
  have hc := rrange_k0 n lo hi
  have he := rrange_q0 n lo hi
  have ho := rrange_o0 n lo hi
  generalize rrange_e0 n lo hi = r at *
  exact calls_way he gfol rrange_X hv rfl (rrange_args n lo hi) hc ho h (bl w)
def rrange_w1 (n lo hi : Int) : Value := .int .i64 (3 : Int)
def rrange_r1 (n lo hi : Int) : Prop := (((((True ∧ (rrange_c0 n lo hi = false)) ∧ (rrange_c0 n lo hi = false)) ∧ (rrange_c0 n lo hi = false)) ∧ (rrange_c0 n lo hi = false)) ∧ (rrange_c1 n lo hi = true))
theorem rrange_o1 (n lo hi : Int) : obOf (rrange_e1 n lo hi) = rrange_r1 n lo hi := by kernel_rfl
theorem rrange_v1 (n lo hi : Int) : resOf (rrange_e1 n lo hi) = rrange_w1 n lo hi := by kernel_rfl
theorem rrange_k1 (n lo hi : Int) : cleanOf Tryz.prog.globals.size (rrange_e1 n lo hi) = true := by kernel_rfl
theorem rrange_q1 (n lo hi : Int) : rrange_e1 n lo hi = evFS Tryz.prog x_rrange 1000 67 #[.int .i64 n, .int .i64 lo, .int .i64 hi] (noTabs 6) ⟨[1, 1, 1, 0, 1], True⟩ := by
  delta rrange_e1
  exact Eq.refl _
theorem rrange_p1 (n lo hi : Int) (h : rrange_r1 n lo hi) (w : World) : Calls Tryz.prog 67 #[.int .i64 n, .int .i64 lo, .int .i64 hi] w fun en w' => en = .returned (rrange_w1 n lo hi) ∧ Below w.heap.size w w' := by
  have hv := rrange_v1 n lo hi
  have hc := rrange_k1 n lo hi
  have he := rrange_q1 n lo hi
  have ho := rrange_o1 n lo hi
  generalize rrange_e1 n lo hi = r at *
  exact calls_way he gfol rrange_X hv rfl (rrange_args n lo hi) hc ho h (bl w)
def rrange_w2 (n lo hi : Int) : Value := .int .i64 (0 : Int)
def rrange_r2 (n lo hi : Int) : Prop := (((((True ∧ (rrange_c0 n lo hi = false)) ∧ (rrange_c0 n lo hi = false)) ∧ (rrange_c0 n lo hi = false)) ∧ (rrange_c0 n lo hi = false)) ∧ (rrange_c1 n lo hi = false))
theorem rrange_o2 (n lo hi : Int) : obOf (rrange_e2 n lo hi) = rrange_r2 n lo hi := by kernel_rfl
theorem rrange_v2 (n lo hi : Int) : resOf (rrange_e2 n lo hi) = rrange_w2 n lo hi := by kernel_rfl
theorem rrange_k2 (n lo hi : Int) : cleanOf Tryz.prog.globals.size (rrange_e2 n lo hi) = true := by kernel_rfl
theorem rrange_q2 (n lo hi : Int) : rrange_e2 n lo hi = evFS Tryz.prog x_rrange 1000 67 #[.int .i64 n, .int .i64 lo, .int .i64 hi] (noTabs 6) ⟨[1, 1, 1, 0, 0], True⟩ := by
  delta rrange_e2
  exact Eq.refl _
theorem rrange_p2 (n lo hi : Int) (h : rrange_r2 n lo hi) (w : World) : Calls Tryz.prog 67 #[.int .i64 n, .int .i64 lo, .int .i64 hi] w fun en w' => en = .returned (rrange_w2 n lo hi) ∧ Below w.heap.size w w' := by
  have hv := rrange_v2 n lo hi
  have hc := rrange_k2 n lo hi
  have he := rrange_q2 n lo hi
  have ho := rrange_o2 n lo hi
  generalize rrange_e2 n lo hi = r at *
  exact calls_way he gfol rrange_X hv rfl (rrange_args n lo hi) hc ho h (bl w)
theorem rrange_any (n lo hi : Int) (hpre : True) (w : World) : Calls Tryz.prog 67 #[.int .i64 n, .int .i64 lo, .int .i64 hi] w fun en w' => en = .returned (rrange_val n lo hi) ∧ Below w.heap.size w w' := by
  rcases Bool.eq_false_or_eq_true (rrange_c0 n lo hi) with h0 | h0
  ·
    unfold rrange_c0 at h0
    have hp := rrange_p0 n lo hi ⟨⟨⟨⟨⟨trivial, h0⟩, h0⟩, h0⟩, h0⟩, rrange_g1⟩ w
    have hv : rrange_w0 n lo hi = (rrange_val n lo hi) := by
      clear hp
      unfold rrange_w0 rrange_val
      first | rfl | ((try simp only [bne_iff_ne, ne_eq, decide_eq_true_eq, decide_eq_false_iff_not, Bool.not_eq_true', Bool.not_eq_false', beq_iff_eq, beq_eq_false_iff_ne, bne_eq_false_iff_eq, Bool.and_eq_true, Bool.not_eq_true, Bool.not_eq_false, Pl.cr, parts_eq, w20, w16, wT, w20', w16', wT', Pl.lim, Pl.inB, first_two, two, oneB, Bg] at *); grind)
    exact hv ▸ hp
  ·
    unfold rrange_c0 at h0
    rcases Bool.eq_false_or_eq_true (rrange_c1 n lo hi) with h1 | h1
    ·
      unfold rrange_c1 at h1
      have hp := rrange_p1 n lo hi ⟨⟨⟨⟨⟨trivial, h0⟩, h0⟩, h0⟩, h0⟩, h1⟩ w
      have hv : rrange_w1 n lo hi = (rrange_val n lo hi) := by
        clear hp
        unfold rrange_w1 rrange_val
        first | rfl | ((try simp only [bne_iff_ne, ne_eq, decide_eq_true_eq, decide_eq_false_iff_not, Bool.not_eq_true', Bool.not_eq_false', beq_iff_eq, beq_eq_false_iff_ne, bne_eq_false_iff_eq, Bool.and_eq_true, Bool.not_eq_true, Bool.not_eq_false, Pl.cr, parts_eq, w20, w16, wT, w20', w16', wT', Pl.lim, Pl.inB, first_two, two, oneB, Bg] at *); grind)
      exact hv ▸ hp
    ·
      unfold rrange_c1 at h1
      have hp := rrange_p2 n lo hi ⟨⟨⟨⟨⟨trivial, h0⟩, h0⟩, h0⟩, h0⟩, h1⟩ w
      have hv : rrange_w2 n lo hi = (rrange_val n lo hi) := by
        clear hp
        unfold rrange_w2 rrange_val
        first | rfl | ((try simp only [bne_iff_ne, ne_eq, decide_eq_true_eq, decide_eq_false_iff_not, Bool.not_eq_true', Bool.not_eq_false', beq_iff_eq, beq_eq_false_iff_ne, bne_eq_false_iff_eq, Bool.and_eq_true, Bool.not_eq_true, Bool.not_eq_false, Pl.cr, parts_eq, w20, w16, wT, w20', w16', wT', Pl.lim, Pl.inB, first_two, two, oneB, Bg] at *); grind)
      exact hv ▸ hp
theorem k_rrange : ConOk Tryz.prog c_rrange := fun ns hl => by
  have hl0 : ns.length = 3 := hl
  clear hl
  obtain ⟨n, ns0, rfl, hl1⟩ := len_cons hl0
  obtain ⟨lo, ns1, rfl, hl2⟩ := len_cons hl1
  obtain ⟨hi, ns2, rfl, hl3⟩ := len_cons hl2
  obtain rfl := len_nil hl3
  exact ⟨rfl, fun h w => rrange_any n lo hi h w⟩
end Go.Proofs.YtjpffbekhfkibaaGreatDoor
end
section
set_option linter.all false
set_option maxRecDepth 1000000
set_option maxHeartbeats 2000000
open Go.RowKit
namespace Go.Proofs.YtjpffbekhfkibaaGreatDoor
open Mini

def rpart_val (a b m : Int) : Value := .int .i64 0
theorem rpart_X : FOkS Tryz.prog x_rpart := kAll_ok _ ⟨k_rrange, trivial⟩
theorem rpart_args (a b m : Int) : (#[.agg #[.int .i64 a, .int .i64 b], .int .i64 m] : Array Value).toList.all (ground 8) = true := by kernel_rfl
theorem rpart_g0 : True := by first | rfl | trivial | decide | omega
theorem rpart_g1 : (true = true) := by first | rfl | trivial | decide | omega
theorem rpart_g2 : ((0 : Int) = (0 : Int)) := by first | rfl | trivial | decide | omega
def rpart_c0 (a b m : Int) : Bool := ((Pl.cr a (IntKind.i64.wrap ((0 : Int) - m)) m) != (0 : Int))
theorem rpart_g4 : ((1 : Int) = (1 : Int)) := by first | rfl | trivial | decide | omega
def rpart_c1 (a b m : Int) : Bool := ((Pl.cr b (IntKind.i64.wrap ((0 : Int) - m)) m) != (0 : Int))
theorem rpart_g6 : (false = false) := by first | rfl | trivial | decide | omega
def rpart_w0 (a b m : Int) : Value := .int .i64 (0 : Int)
def rpart_r0 (a b m : Int) : Prop := (((((((((True ∧ (True)) ∧ (True)) ∧ ((true = true))) ∧ (((0 : Int) = (0 : Int)))) ∧ (rpart_c0 a b m = false)) ∧ ((true = true))) ∧ (((1 : Int) = (1 : Int)))) ∧ (rpart_c1 a b m = false)) ∧ ((false = false)))
theorem rpart_o0 (a b m : Int) : obOf (rpart_e0 a b m) = rpart_r0 a b m := by kernel_rfl
theorem rpart_v0 (a b m : Int) : resOf (rpart_e0 a b m) = rpart_w0 a b m := by kernel_rfl
theorem rpart_k0 (a b m : Int) : cleanOf Tryz.prog.globals.size (rpart_e0 a b m) = true := by kernel_rfl
theorem rpart_q0 (a b m : Int) : rpart_e0 a b m = evFS Tryz.prog x_rpart 1000 37 #[.agg #[.int .i64 a, .int .i64 b], .int .i64 m] (noTabs 6) ⟨[1, 0, 0, 1, 1, 0, 0], True⟩ := by
  delta rpart_e0
  exact Eq.refl _
theorem rpart_p0 (a b m : Int) (h : rpart_r0 a b m) (w : World) : Calls Tryz.prog 37 #[.agg #[.int .i64 a, .int .i64 b], .int .i64 m] w fun en w' => en = .returned (rpart_w0 a b m) ∧ Below w.heap.size w w' := by
  have hv := rpart_v0 a b m
  have hc := rpart_k0 a b m
  have he := rpart_q0 a b m
  have ho := rpart_o0 a b m
  generalize rpart_e0 a b m = r at *
  exact calls_way he gfol rpart_X hv rfl (rpart_args a b m) hc ho h (bl w)
theorem rpart_any (a b m : Int) (hpre : (0 ≤ m ∧ m ≤ 1048576) ∧ (-m ≤ a ∧ a ≤ m) ∧ -m ≤ b ∧ b ≤ m) (w : World) : Calls Tryz.prog 37 #[.agg #[.int .i64 a, .int .i64 b], .int .i64 m] w fun en w' => en = .returned (rpart_val a b m) ∧ Below w.heap.size w w' := by
  obtain ⟨q0, q1, q2⟩ := hpre
  have h0 : (rpart_c0 a b m = false) := by
    unfold rpart_c0
    first | rfl | trivial | (rw [wi (0 - m) (by omega), Int.zero_sub, crz q1]; done) | (rw [wi (0 - m) (by omega), Int.zero_sub, crz q1]; rfl) | (rw [wi (0 - m) (by omega), Int.zero_sub, crz q2]; done) | (rw [wi (0 - m) (by omega), Int.zero_sub, crz q2]; rfl) | omega
  unfold rpart_c0 at h0
  have h1 : (rpart_c1 a b m = false) := by
    unfold rpart_c1
    first | rfl | trivial | (rw [wi (0 - m) (by omega), Int.zero_sub, crz q1]; done) | (rw [wi (0 - m) (by omega), Int.zero_sub, crz q1]; rfl) | (rw [wi (0 - m) (by omega), Int.zero_sub, crz q2]; done) | (rw [wi (0 - m) (by omega), Int.zero_sub, crz q2]; rfl) | omega
  unfold rpart_c1 at h1
  have hp := rpart_p0 a b m ⟨⟨⟨⟨⟨⟨⟨⟨⟨trivial, rpart_g0⟩, rpart_g0⟩, rpart_g1⟩, rpart_g2⟩, h0⟩, rpart_g1⟩, rpart_g4⟩, h1⟩, rpart_g6⟩ w
  have hv : rpart_w0 a b m = (rpart_val a b m) := by
    clear hp
    unfold rpart_w0 rpart_val
    first | rfl | (simp only [wi (0 - m) (by omega), Int.zero_sub, crz q1, crz q2])
  exact hv ▸ hp
theorem k_rpart : ConOk Tryz.prog c_rpart := fun ns hl => by
  have hl0 : ns.length = 3 := hl
  clear hl
  obtain ⟨a, ns0, rfl, hl1⟩ := len_cons hl0
  obtain ⟨b, ns1, rfl, hl2⟩ := len_cons hl1
  obtain ⟨m, ns2, rfl, hl3⟩ := len_cons hl2
  obtain rfl := len_nil hl3
  exact ⟨rfl, fun h w => rpart_any a b m h w⟩
end Go.Proofs.YtjpffbekhfkibaaGreatDoor
end
section
set_option linter.all false
set_option maxRecDepth 1000000
set_option maxHeartbeats 2000000
open Go.RowKit
namespace Go.Proofs.YtjpffbekhfkibaaGreatDoor
open Mini

def oSpec6_val (x0 y0 x1 y1 x2 y2 x3 y3 x4 y4 x5 y5 : Int) : Value := .tuple #[.agg #[.int .i64 (x0 + x1 + x2 + x3 + x4 + x5), .int .i64 (y0 + y1 + y2 + y3 + y4 + y5), .int .i64 (x0 + y1 - x2 + y2 - x3 - y4 + x5 - y5), .int .i64 (y0 - x1 + y1 - x2 - y3 + x4 - y4 + x5), .int .i64 (x0 - x1 + y1 - y2 + x3 - x4 + y4 - y5), .int .i64 (y0 - x1 + x2 - y2 + y3 - x4 + x5 - y5), .int .i64 (x0 - x1 + x2 - x3 + x4 - x5), .int .i64 (y0 - y1 + y2 - y3 + y4 - y5), .int .i64 (x0 - y1 - x2 + y2 + x3 - y4 - x5 + y5), .int .i64 (y0 + x1 - y1 - x2 + y3 + x4 - y4 - x5), .int .i64 (x0 + x1 - y1 - y2 - x3 - x4 + y4 + y5), .int .i64 (y0 + x1 + x2 - y2 - y3 - x4 - x5 + y5)], .int .i64 0]
theorem oSpec6_X : FOkS Tryz.prog x_oSpec6 := kAll_ok _ ⟨k_checkPhase, k_spec6, trivial⟩
theorem oSpec6_args (x0 y0 x1 y1 x2 y2 x3 y3 x4 y4 x5 y5 : Int) : (#[.agg #[.int .i64 x0, .int .i64 y0, .int .i64 x1, .int .i64 y1, .int .i64 x2, .int .i64 y2, .int .i64 x3, .int .i64 y3, .int .i64 x4, .int .i64 y4, .int .i64 x5, .int .i64 y5]] : Array Value).toList.all (ground 8) = true := by kernel_rfl
theorem oSpec6_g0 : (true = true) := by first | rfl | trivial | decide | omega
theorem oSpec6_g1 : ((0 : Int) = (0 : Int)) := by first | rfl | trivial | decide | omega
theorem oSpec6_g2 : True := by first | rfl | trivial | decide | omega
def oSpec6_c0 (x0 y0 x1 y1 x2 y2 x3 y3 x4 y4 x5 y5 : Int) : Bool := ((Pl.parts x0 y0 (65536 : Int)) != (0 : Int))
theorem oSpec6_g4 : ((1 : Int) = (1 : Int)) := by first | rfl | trivial | decide | omega
def oSpec6_c1 (x0 y0 x1 y1 x2 y2 x3 y3 x4 y4 x5 y5 : Int) : Bool := ((Pl.parts x1 y1 (65536 : Int)) != (0 : Int))
theorem oSpec6_g6 : ((2 : Int) = (2 : Int)) := by first | rfl | trivial | decide | omega
def oSpec6_c2 (x0 y0 x1 y1 x2 y2 x3 y3 x4 y4 x5 y5 : Int) : Bool := ((Pl.parts x2 y2 (65536 : Int)) != (0 : Int))
theorem oSpec6_g8 : ((3 : Int) = (3 : Int)) := by first | rfl | trivial | decide | omega
def oSpec6_c3 (x0 y0 x1 y1 x2 y2 x3 y3 x4 y4 x5 y5 : Int) : Bool := ((Pl.parts x3 y3 (65536 : Int)) != (0 : Int))
theorem oSpec6_g10 : ((4 : Int) = (4 : Int)) := by first | rfl | trivial | decide | omega
def oSpec6_c4 (x0 y0 x1 y1 x2 y2 x3 y3 x4 y4 x5 y5 : Int) : Bool := ((Pl.parts x4 y4 (65536 : Int)) != (0 : Int))
theorem oSpec6_g12 : ((5 : Int) = (5 : Int)) := by first | rfl | trivial | decide | omega
def oSpec6_c5 (x0 y0 x1 y1 x2 y2 x3 y3 x4 y4 x5 y5 : Int) : Bool := ((Pl.parts x5 y5 (65536 : Int)) != (0 : Int))
theorem oSpec6_g14 : (false = false) := by first | rfl | trivial | decide | omega
def oSpec6_b15 (x0 y0 x1 y1 x2 y2 x3 y3 x4 y4 x5 y5 : Int) : Prop := ((((-65536 : Int) ≤ x0) ∧ (x0 ≤ (65536 : Int))) ∧ ((((-65536 : Int) ≤ y0) ∧ (y0 ≤ (65536 : Int))) ∧ ((((-65536 : Int) ≤ x1) ∧ (x1 ≤ (65536 : Int))) ∧ ((((-65536 : Int) ≤ y1) ∧ (y1 ≤ (65536 : Int))) ∧ ((((-65536 : Int) ≤ x2) ∧ (x2 ≤ (65536 : Int))) ∧ ((((-65536 : Int) ≤ y2) ∧ (y2 ≤ (65536 : Int))) ∧ ((((-65536 : Int) ≤ x3) ∧ (x3 ≤ (65536 : Int))) ∧ ((((-65536 : Int) ≤ y3) ∧ (y3 ≤ (65536 : Int))) ∧ ((((-65536 : Int) ≤ x4) ∧ (x4 ≤ (65536 : Int))) ∧ ((((-65536 : Int) ≤ y4) ∧ (y4 ≤ (65536 : Int))) ∧ ((((-65536 : Int) ≤ x5) ∧ (x5 ≤ (65536 : Int))) ∧ (((-65536 : Int) ≤ y5) ∧ (y5 ≤ (65536 : Int))))))))))))))
def oSpec6_w0 (x0 y0 x1 y1 x2 y2 x3 y3 x4 y4 x5 y5 : Int) : Value := .tuple #[.agg #[.int .i64 (((((x0 + x1) + x2) + x3) + x4) + x5), .int .i64 (((((y0 + y1) + y2) + y3) + y4) + y5), .int .i64 (((((((x0 + y1) - x2) + y2) - x3) - y4) + x5) - y5), .int .i64 (((((((y0 - x1) + y1) - x2) - y3) + x4) - y4) + x5), .int .i64 (((((((x0 - x1) + y1) - y2) + x3) - x4) + y4) - y5), .int .i64 (((((((y0 - x1) + x2) - y2) + y3) - x4) + x5) - y5), .int .i64 (((((x0 - x1) + x2) - x3) + x4) - x5), .int .i64 (((((y0 - y1) + y2) - y3) + y4) - y5), .int .i64 (((((((x0 - y1) - x2) + y2) + x3) - y4) - x5) + y5), .int .i64 (((((((y0 + x1) - y1) - x2) + y3) + x4) - y4) - x5), .int .i64 (((((((x0 + x1) - y1) - y2) - x3) - x4) + y4) + y5), .int .i64 (((((((y0 + x1) + x2) - y2) - y3) - x4) - x5) + y5)], .int .i64 (0 : Int)]
def oSpec6_r0 (x0 y0 x1 y1 x2 y2 x3 y3 x4 y4 x5 y5 : Int) : Prop := (((((((((((((((((((((((((((True ∧ ((true = true))) ∧ (((0 : Int) = (0 : Int)))) ∧ (True)) ∧ (oSpec6_c0 x0 y0 x1 y1 x2 y2 x3 y3 x4 y4 x5 y5 = false)) ∧ ((true = true))) ∧ (((1 : Int) = (1 : Int)))) ∧ (True)) ∧ (oSpec6_c1 x0 y0 x1 y1 x2 y2 x3 y3 x4 y4 x5 y5 = false)) ∧ ((true = true))) ∧ (((2 : Int) = (2 : Int)))) ∧ (True)) ∧ (oSpec6_c2 x0 y0 x1 y1 x2 y2 x3 y3 x4 y4 x5 y5 = false)) ∧ ((true = true))) ∧ (((3 : Int) = (3 : Int)))) ∧ (True)) ∧ (oSpec6_c3 x0 y0 x1 y1 x2 y2 x3 y3 x4 y4 x5 y5 = false)) ∧ ((true = true))) ∧ (((4 : Int) = (4 : Int)))) ∧ (True)) ∧ (oSpec6_c4 x0 y0 x1 y1 x2 y2 x3 y3 x4 y4 x5 y5 = false)) ∧ ((true = true))) ∧ (((5 : Int) = (5 : Int)))) ∧ (True)) ∧ (oSpec6_c5 x0 y0 x1 y1 x2 y2 x3 y3 x4 y4 x5 y5 = false)) ∧ ((false = false))) ∧ ((false = false))) ∧ (oSpec6_b15 x0 y0 x1 y1 x2 y2 x3 y3 x4 y4 x5 y5))
theorem oSpec6_o0 (x0 y0 x1 y1 x2 y2 x3 y3 x4 y4 x5 y5 : Int) : obOf (oSpec6_e0 x0 y0 x1 y1 x2 y2 x3 y3 x4 y4 x5 y5) = oSpec6_r0 x0 y0 x1 y1 x2 y2 x3 y3 x4 y4 x5 y5 := by kernel_rfl
theorem oSpec6_v0 (x0 y0 x1 y1 x2 y2 x3 y3 x4 y4 x5 y5 : Int) : resOf (oSpec6_e0 x0 y0 x1 y1 x2 y2 x3 y3 x4 y4 x5 y5) = oSpec6_w0 x0 y0 x1 y1 x2 y2 x3 y3 x4 y4 x5 y5 := by kernel_rfl
theorem oSpec6_k0 (x0 y0 x1 y1 x2 y2 x3 y3 x4 y4 x5 y5 : Int) : cleanOf Tryz.prog.globals.size (oSpec6_e0 x0 y0 x1 y1 x2 y2 x3 y3 x4 y4 x5 y5) = true := by kernel_rfl
theorem oSpec6_q0 (x0 y0 x1 y1 x2 y2 x3 y3 x4 y4 x5 y5 : Int) : oSpec6_e0 x0 y0 x1 y1 x2 y2 x3 y3 x4 y4 x5 y5 = evFS Tryz.prog x_oSpec6 1000 9 #[.agg #[.int .i64 x0, .int .i64 y0, .int .i64 x1, .int .i64 y1, .int .i64 x2, .int .i64 y2, .int .i64 x3, .int .i64 y3, .int .i64 x4, .int .i64 y4, .int .i64 x5, .int .i64 y5]] (noTabs 6) ⟨[1, 0, 0, 1, 1, 0, 1, 2, 0, 1, 3, 0, 1, 4, 0, 1, 5, 0, 0, 0], True⟩ := by
  delta oSpec6_e0
  exact Eq.refl _
theorem oSpec6_p0 (x0 y0 x1 y1 x2 y2 x3 y3 x4 y4 x5 y5 : Int) (h : oSpec6_r0 x0 y0 x1 y1 x2 y2 x3 y3 x4 y4 x5 y5) (w : World) : Calls Tryz.prog 9 #[.agg #[.int .i64 x0, .int .i64 y0, .int .i64 x1, .int .i64 y1, .int .i64 x2, .int .i64 y2, .int .i64 x3, .int .i64 y3, .int .i64 x4, .int .i64 y4, .int .i64 x5, .int .i64 y5]] w fun en w' => en = .returned (oSpec6_w0 x0 y0 x1 y1 x2 y2 x3 y3 x4 y4 x5 y5) ∧ Below w.heap.size w w' := by
  have hv := oSpec6_v0 x0 y0 x1 y1 x2 y2 x3 y3 x4 y4 x5 y5
  have hc := oSpec6_k0 x0 y0 x1 y1 x2 y2 x3 y3 x4 y4 x5 y5
  have he := oSpec6_q0 x0 y0 x1 y1 x2 y2 x3 y3 x4 y4 x5 y5
  have ho := oSpec6_o0 x0 y0 x1 y1 x2 y2 x3 y3 x4 y4 x5 y5
  generalize oSpec6_e0 x0 y0 x1 y1 x2 y2 x3 y3 x4 y4 x5 y5 = r at *
  exact calls_way he gfol oSpec6_X hv rfl (oSpec6_args x0 y0 x1 y1 x2 y2 x3 y3 x4 y4 x5 y5) hc ho h (bl w)
theorem oSpec6_any (x0 y0 x1 y1 x2 y2 x3 y3 x4 y4 x5 y5 : Int) (hpre : (-65536 ≤ x0 ∧ x0 ≤ 65536) ∧ (-65536 ≤ y0 ∧ y0 ≤ 65536) ∧ (-65536 ≤ x1 ∧ x1 ≤ 65536) ∧ (-65536 ≤ y1 ∧ y1 ≤ 65536) ∧ (-65536 ≤ x2 ∧ x2 ≤ 65536) ∧ (-65536 ≤ y2 ∧ y2 ≤ 65536) ∧ (-65536 ≤ x3 ∧ x3 ≤ 65536) ∧ (-65536 ≤ y3 ∧ y3 ≤ 65536) ∧ (-65536 ≤ x4 ∧ x4 ≤ 65536) ∧ (-65536 ≤ y4 ∧ y4 ≤ 65536) ∧ (-65536 ≤ x5 ∧ x5 ≤ 65536) ∧ (-65536 ≤ y5 ∧ y5 ≤ 65536)) (w : World) : Calls Tryz.prog 9 #[.agg #[.int .i64 x0, .int .i64 y0, .int .i64 x1, .int .i64 y1, .int .i64 x2, .int .i64 y2, .int .i64 x3, .int .i64 y3, .int .i64 x4, .int .i64 y4, .int .i64 x5, .int .i64 y5]] w fun en w' => en = .returned (oSpec6_val x0 y0 x1 y1 x2 y2 x3 y3 x4 y4 x5 y5) ∧ Below w.heap.size w w' := by
  obtain ⟨q0, q1, q2, q3, q4, q5, q6, q7, q8, q9, q10, q11⟩ := hpre
  have h0 : (oSpec6_c0 x0 y0 x1 y1 x2 y2 x3 y3 x4 y4 x5 y5 = false) := by
    unfold oSpec6_c0
    first | rfl | trivial | assumption | (exact ⟨q0, q1, q2, q3, q4, q5, q6, q7, q8, q9, q10, q11⟩) | (rw [par0 (by omega) (by omega)]; rfl) | (simp only [bne_eq_false_iff_eq]; exact par0 (by omega) (by omega))
  unfold oSpec6_c0 at h0
  have h1 : (oSpec6_c1 x0 y0 x1 y1 x2 y2 x3 y3 x4 y4 x5 y5 = false) := by
    unfold oSpec6_c1
    first | rfl | trivial | assumption | (exact ⟨q0, q1, q2, q3, q4, q5, q6, q7, q8, q9, q10, q11⟩) | (rw [par0 (by omega) (by omega)]; rfl) | (simp only [bne_eq_false_iff_eq]; exact par0 (by omega) (by omega))
  unfold oSpec6_c1 at h1
  have h2 : (oSpec6_c2 x0 y0 x1 y1 x2 y2 x3 y3 x4 y4 x5 y5 = false) := by
    unfold oSpec6_c2
    first | rfl | trivial | assumption | (exact ⟨q0, q1, q2, q3, q4, q5, q6, q7, q8, q9, q10, q11⟩) | (rw [par0 (by omega) (by omega)]; rfl) | (simp only [bne_eq_false_iff_eq]; exact par0 (by omega) (by omega))
  unfold oSpec6_c2 at h2
  have h3 : (oSpec6_c3 x0 y0 x1 y1 x2 y2 x3 y3 x4 y4 x5 y5 = false) := by
    unfold oSpec6_c3
    first | rfl | trivial | assumption | (exact ⟨q0, q1, q2, q3, q4, q5, q6, q7, q8, q9, q10, q11⟩) | (rw [par0 (by omega) (by omega)]; rfl) | (simp only [bne_eq_false_iff_eq]; exact par0 (by omega) (by omega))
  unfold oSpec6_c3 at h3
  have h4 : (oSpec6_c4 x0 y0 x1 y1 x2 y2 x3 y3 x4 y4 x5 y5 = false) := by
    unfold oSpec6_c4
    first | rfl | trivial | assumption | (exact ⟨q0, q1, q2, q3, q4, q5, q6, q7, q8, q9, q10, q11⟩) | (rw [par0 (by omega) (by omega)]; rfl) | (simp only [bne_eq_false_iff_eq]; exact par0 (by omega) (by omega))
  unfold oSpec6_c4 at h4
  have h5 : (oSpec6_c5 x0 y0 x1 y1 x2 y2 x3 y3 x4 y4 x5 y5 = false) := by
    unfold oSpec6_c5
    first | rfl | trivial | assumption | (exact ⟨q0, q1, q2, q3, q4, q5, q6, q7, q8, q9, q10, q11⟩) | (rw [par0 (by omega) (by omega)]; rfl) | (simp only [bne_eq_false_iff_eq]; exact par0 (by omega) (by omega))
  unfold oSpec6_c5 at h5
  have h6 : (oSpec6_b15 x0 y0 x1 y1 x2 y2 x3 y3 x4 y4 x5 y5) := by
    unfold oSpec6_b15
    first | rfl | trivial | assumption | (exact ⟨q0, q1, q2, q3, q4, q5, q6, q7, q8, q9, q10, q11⟩) | (rw [par0 (by omega) (by omega)]; rfl) | (simp only [bne_eq_false_iff_eq]; exact par0 (by omega) (by omega))
  unfold oSpec6_b15 at h6
  have hp := oSpec6_p0 x0 y0 x1 y1 x2 y2 x3 y3 x4 y4 x5 y5 ⟨⟨⟨⟨⟨⟨⟨⟨⟨⟨⟨⟨⟨⟨⟨⟨⟨⟨⟨⟨⟨⟨⟨⟨⟨⟨⟨trivial, oSpec6_g0⟩, oSpec6_g1⟩, oSpec6_g2⟩, h0⟩, oSpec6_g0⟩, oSpec6_g4⟩, oSpec6_g2⟩, h1⟩, oSpec6_g0⟩, oSpec6_g6⟩, oSpec6_g2⟩, h2⟩, oSpec6_g0⟩, oSpec6_g8⟩, oSpec6_g2⟩, h3⟩, oSpec6_g0⟩, oSpec6_g10⟩, oSpec6_g2⟩, h4⟩, oSpec6_g0⟩, oSpec6_g12⟩, oSpec6_g2⟩, h5⟩, oSpec6_g14⟩, oSpec6_g14⟩, h6⟩ w
  have hv : oSpec6_w0 x0 y0 x1 y1 x2 y2 x3 y3 x4 y4 x5 y5 = (oSpec6_val x0 y0 x1 y1 x2 y2 x3 y3 x4 y4 x5 y5) := by
    clear hp
    unfold oSpec6_w0 oSpec6_val
    rfl
  exact hv ▸ hp
theorem k_oSpec6 : ConOk Tryz.prog c_oSpec6 := fun ns hl => by
  have hl0 : ns.length = 12 := hl
  clear hl
  obtain ⟨x0, ns0, rfl, hl1⟩ := len_cons hl0
  obtain ⟨y0, ns1, rfl, hl2⟩ := len_cons hl1
  obtain ⟨x1, ns2, rfl, hl3⟩ := len_cons hl2
  obtain ⟨y1, ns3, rfl, hl4⟩ := len_cons hl3
  obtain ⟨x2, ns4, rfl, hl5⟩ := len_cons hl4
  obtain ⟨y2, ns5, rfl, hl6⟩ := len_cons hl5
  obtain ⟨x3, ns6, rfl, hl7⟩ := len_cons hl6
  obtain ⟨y3, ns7, rfl, hl8⟩ := len_cons hl7
  obtain ⟨x4, ns8, rfl, hl9⟩ := len_cons hl8
  obtain ⟨y4, ns9, rfl, hl10⟩ := len_cons hl9
  obtain ⟨x5, ns10, rfl, hl11⟩ := len_cons hl10
  obtain ⟨y5, ns11, rfl, hl12⟩ := len_cons hl11
  obtain rfl := len_nil hl12
  exact ⟨rfl, fun h w => oSpec6_any x0 y0 x1 y1 x2 y2 x3 y3 x4 y4 x5 y5 h w⟩
end Go.Proofs.YtjpffbekhfkibaaGreatDoor
end
section
set_option linter.all false
set_option maxRecDepth 1000000
set_option maxHeartbeats 1000000
open Go.RowKit
namespace Go.Proofs.YtjpffbekhfkibaaGreatDoor
open Mini
def ltV (a b : Int) : Int := Pl.parts a b 1048576
noncomputable def ltX : CallS := bothX (kFrmC ltV) (bothX (kFrm ltV) (bothX kSameE (bothX (kAll [c_small, c_oSpec6, c_oSteps, c_rpart, c_oNorm, c_oTurned]) (tabX awS0 4))))
def ltArgs (n c : Nat) (z0 z1 z2 z3 z4 z5 z6 z7 z8 z9 z10 z11 k : Int) : Array Value := #[.slice (some ⟨6, 0, none⟩) n c, .agg #[.int .i8 z0, .int .i8 z1, .int .i8 z2, .int .i8 z3, .int .i8 z4, .int .i8 z5, .int .i8 z6, .int .i8 z7, .int .i8 z8, .int .i8 z9, .int .i8 z10, .int .i8 z11], .int .i8 k]
noncomputable def ltS (n : Nat) (g : Nat → Nat → Int) (e : TypeId) : St := awS0.push (rowB 2 n g e true 0 true)
theorem ltV0 {a b : Int} (h : inM 1048576 a) (g : inM 1048576 b) : ltV a b = 0 := par0 h g
theorem bgM {a b : Int} (h : inM 1048576 a) (g : inM 1048576 b) : Bg 1099511627776 a b := by unfold inM at h g; exact bgo (by omega) (by omega)
theorem sm1 (x : Int) : inM 1048576 (sm x) := ⟨by have := (sm_bd x).1; omega, by have := (sm_bd x).2; omega⟩
theorem fr_six {l : List Int} {s : Int} (hs : inM 1000000 s) (h : ∀ i, i < 6 → inM 524288 (gL l i 0) ∧ inM 524288 (gL l i 1)) : (∀ i, i < 6 → ltV (gL l i 0) (gL l i 1) = 0 → Bg 1099511627776 (gL l i 0) (gL l i 1)) ∧ frErr ltV 6 (gL l) s = 0 := by
  have h2 : ∀ i, i < 6 → inM 1048576 (gL l i 0) ∧ inM 1048576 (gL l i 1) := fun i hi => by
    obtain ⟨⟨a, b⟩, c, d⟩ := h i hi
    exact ⟨⟨by omega, by omega⟩, by omega, by omega⟩
  exact ⟨fun i hi _ => bgM (h2 i hi).1 (h2 i hi).2, fr_free (by decide) hs h fun i hi => ltV0 (h2 i hi).1 (h2 i hi).2⟩
theorem six_in {P : Nat → Prop} (h0 : P 0) (h1 : P 1) (h2 : P 2) (h3 : P 3) (h4 : P 4) (h5 : P 5) : ∀ i, i < 6 → P i := fun i hi => by
  match i, hi with
  | 0, _ => exact h0
  | 1, _ => exact h1
  | 2, _ => exact h2
  | 3, _ => exact h3
  | 4, _ => exact h4
  | 5, _ => exact h5
theorem gf0 {g : Nat → Nat → Int} {n a : Nat} (h : a < n) : fillG [] (tlW g) n a 0 = .int .i64 (sm (g a 0)) := by
  unfold fillG; rw [if_pos h]; rfl
theorem gf1 {g : Nat → Nat → Int} {n a : Nat} (h : a < n) : fillG [] (tlW g) n a 1 = .int .i64 (sm (g a 1)) := by
  unfold fillG; rw [if_pos h]; rfl
theorem gfs {g : Nat → Nat → Int} {n a j : Nat} (h : a < n) (hj : j < 2) : fillG [] (tlW g) n a j = .int .i64 (gI (fillG [] (tlW g) n a j)) := by
  match j, hj with
  | 0, _ => rw [gf0 h]; rfl
  | 1, _ => rw [gf1 h]; rfl
theorem gm0 {g : Nat → Nat → Int} {n a : Nat} (h : a < n) : inM 100 (gI (fillG [] (tlW g) n a 0)) := by rw [gf0 h]; exact sm_bd _
theorem gm1 {g : Nat → Nat → Int} {n a : Nat} (h : a < n) : inM 100 (gI (fillG [] (tlW g) n a 1)) := by rw [gf1 h]; exact sm_bd _
theorem inW {m q a : Int} (h : inM m a) (hq : m ≤ q) : inM q a := ⟨by have := h.1; omega, by have := h.2; omega⟩
theorem kM {k : Int} (hk : -128 ≤ k ∧ k ≤ 127) : inM 1000000 k ∧ inM 1000000 (-k) := ⟨⟨by omega, by omega⟩, by omega, by omega⟩
theorem fI_in {g : Nat → Nat → Int} {s : Int} {a : Nat} (ha : inM 100 (g a 0)) (hb : inM 100 (g a 1)) : inM 200 (frI g s a 0) ∧ inM 200 (frI g s a 1) := by
  have h1 := frI_pair (s := s) (inW ha (q := 524288) (by decide)) (inW hb (by decide))
  have h2 := turn_in (g a 0, g a 1) (frQ s a) 100 ⟨ha.1, ha.2, hb.1, hb.2⟩
  rw [← h1] at h2
  exact ⟨⟨h2.1, h2.2.1⟩, h2.2.2.1, h2.2.2.2⟩
theorem nrm_bd {a b : Int} (ha : inM 1200 a) (hb : inM 1200 b) : 0 ≤ Pl.norm (a, b) ∧ Pl.norm (a, b) ≤ 8640000 := by
  refine ⟨norm_nn a b, ?_⟩
  have h1 := bd 1200 1200 a a (by omega) (by omega) ha ha
  have h2 := bd 1200 1200 b b (by omega) (by omega) hb hb
  have h3 := bd 1200 1200 a b (by omega) (by omega) ha hb
  unfold Pl.norm
  simp only
  omega
theorem ltC_ok : ConOk Tryz.prog (ceC ltV) := fun ns hl => by
  have h := k_checkEisen ns hl
  match ns, hl with
  | [a, b], _ => exact ⟨h.1, fun _ => h.2 trivial⟩
theorem ltX_ok : FOkS Tryz.prog ltX := bothX_ok (kFrmC_ok ltC_ok) (bothX_ok (kFrm_ok ltC_ok) (bothX_ok kSameE_ok (bothX_ok (kAll_ok _ ⟨k_small, k_oSpec6, k_oSteps, k_rpart, k_oNorm, k_oTurned, trivial⟩) (tabX_ok (by kernel_rfl) aw_calls))))
def obZ (r : Option OutS) : Prop := match r with
  | some (_, _, _, _, q) => q.ob
  | none => False
def goodZ (r : Option OutS) : Bool := match r with
  | some (.bool true, _, _, 0, ⟨[], _⟩) => true
  | _ => false
theorem sndZ {P : Program} {X : CallS} {n : Nat} {f : FuncId} {xs : Array Value} {s : St} {q : Orc} {r : Option OutS} (he : r = evFS P X n f xs s q) (hm : P.follows .mixedOrders = true) (hX : FOkS P X) (hg : goodZ r = true) (ho : obZ r) : ∃ s1 R, SndF P f xs s (.bool true) s1 R 0 := by
  unfold goodZ at hg
  split at hg
  · exact ⟨_, _, (evFS_ok hm hX n _ _ _ _ _ _ _ _ _ he.symm).2 ho⟩
  · cases hg
end Go.Proofs.YtjpffbekhfkibaaGreatDoor
end
section
set_option linter.all false
set_option maxRecDepth 1000000
set_option maxHeartbeats 1000000
open Go.RowKit
namespace Go.Proofs.YtjpffbekhfkibaaGreatDoor
open Mini
def ltb0 (m : Nat) : Prop := ((decide (((((m + 1) : Nat)) : Int) > (12 : Int))) = false)
theorem ltb0_ok (m : Nat) (hi : m + 1 ≤ 12) : ltb0 m := by
  unfold ltb0
  first
    | rfl
    | decide
    | (simp; omega)
    | (first | omega | (and_intros <;> omega))
    | ((try simp (disch := omega) only [wi, Int.reduceAdd, Int.reduceSub, Int.reduceNeg, Int.reduceMul]); (try simp only [Bool.not_eq_false', Bool.and_eq_true, beq_iff_eq, and_true]); (try simp (disch := omega) only [wi, Int.reduceAdd, Int.reduceSub, Int.reduceNeg, Int.reduceMul]); and_intros <;> omega)
def ltb1 (m : Nat) (c : Nat) (g : Nat → Nat → Int) (e : TypeId) (z0 : Int) (z1 : Int) (z2 : Int) (z3 : Int) (z4 : Int) (z5 : Int) (z6 : Int) (z7 : Int) (z8 : Int) (z9 : Int) (z10 : Int) (z11 : Int) (k : Int) : Prop := ((((tlA0 (m + 1) c k) = (tlA0 (m + 1) c k)) ∧ ((8 = (0 + 8)) ∧ ((HAppend.hAppend (List.replicate (0 : Nat) MObj.hole) (HAppend.hAppend awT ((rowB (2 : Nat) (m + 1) g e true (0 : Nat) true) :: ((MObj.cells ((Value.int .i8 z0) :: ((Value.int .i8 z1) :: ((Value.int .i8 z2) :: ((Value.int .i8 z3) :: ((Value.int .i8 z4) :: ((Value.int .i8 z5) :: ((Value.int .i8 z6) :: ((Value.int .i8 z7) :: ((Value.int .i8 z8) :: ((Value.int .i8 z9) :: ((Value.int .i8 z10) :: ((Value.int .i8 z11) :: [])))))))))))) (25 : Nat) false (0 : Nat) false) :: [])))) = (HAppend.hAppend (List.replicate (0 : Nat) MObj.hole) (HAppend.hAppend awT ((rowB (2 : Nat) (m + 1) g e true (0 : Nat) true) :: ((MObj.cells ((Value.int .i8 z0) :: ((Value.int .i8 z1) :: ((Value.int .i8 z2) :: ((Value.int .i8 z3) :: ((Value.int .i8 z4) :: ((Value.int .i8 z5) :: ((Value.int .i8 z6) :: ((Value.int .i8 z7) :: ((Value.int .i8 z8) :: ((Value.int .i8 z9) :: ((Value.int .i8 z10) :: ((Value.int .i8 z11) :: [])))))))))))) (25 : Nat) false (0 : Nat) false) :: []))))))) ∧ SndC Tryz.prog none (.loop tlX) (tlA0 (m + 1) c k).act (wS 0 (awT ++ [rowB 2 (m + 1) g e true 0 true, .cells [.int .i8 z0, .int .i8 z1, .int .i8 z2, .int .i8 z3, .int .i8 z4, .int .i8 z5, .int .i8 z6, .int .i8 z7, .int .i8 z8, .int .i8 z9, .int .i8 z10, .int .i8 z11] 25 false 0 false])) (.exit 0) (tlE1 k m).act (wS 0 (awT ++ [rowB 2 (m + 1) g e true 0 true, .cells [.int .i8 z0, .int .i8 z1, .int .i8 z2, .int .i8 z3, .int .i8 z4, .int .i8 z5, .int .i8 z6, .int .i8 z7, .int .i8 z8, .int .i8 z9, .int .i8 z10, .int .i8 z11] 25 false 0 false, tlO g (m + 1)])) 64 0)
theorem ltb1_ok (m : Nat) (c : Nat) (g : Nat → Nat → Int) (e : TypeId) (z0 : Int) (z1 : Int) (z2 : Int) (z3 : Int) (z4 : Int) (z5 : Int) (z6 : Int) (z7 : Int) (z8 : Int) (z9 : Int) (z10 : Int) (z11 : Int) (k : Int) (hi : m + 1 ≤ 12) (hk : -128 ≤ k ∧ k ≤ 127) : ltb1 m c g e z0 z1 z2 z3 z4 z5 z6 z7 z8 z9 z10 z11 k := by
  unfold ltb1
  exact ⟨⟨rfl, rfl, rfl⟩, tl_tabs c g e true 0 true [.int .i8 z0, .int .i8 z1, .int .i8 z2, .int .i8 z3, .int .i8 z4, .int .i8 z5, .int .i8 z6, .int .i8 z7, .int .i8 z8, .int .i8 z9, .int .i8 z10, .int .i8 z11] 25 k (by omega) (by omega) (fun B => rfl)⟩
def ltb2 (m : Nat) : Prop := (((m + 1) = (m + 1)) ∧ (((m + 1) ≠ (0 : Nat)) ∧ (((m + 1) * 16) ≤ (140737488355328 : Nat))))
theorem ltb2_ok (m : Nat) (hi : m + 1 ≤ 12) : ltb2 m := by
  unfold ltb2
  first
    | rfl
    | decide
    | (simp; omega)
    | (first | omega | (and_intros <;> omega))
    | ((try simp (disch := omega) only [wi, Int.reduceAdd, Int.reduceSub, Int.reduceNeg, Int.reduceMul]); (try simp only [Bool.not_eq_false', Bool.and_eq_true, beq_iff_eq, and_true]); (try simp (disch := omega) only [wi, Int.reduceAdd, Int.reduceSub, Int.reduceNeg, Int.reduceMul]); and_intros <;> omega)
def ltb3 (k : Int) : Prop := (((.int .i64 (IntKind.i64.wrap k)) : Value) = (.int .i64 k))
theorem ltb3_ok (k : Int) (hk : -128 ≤ k ∧ k ≤ 127) : ltb3 k := by
  unfold ltb3
  first | rfl | (refine congrArg (Value.int .i64) ?_; first | rfl | (rw [wi _ (by omega)]; done) | (rw [wi _ (by omega)]; omega) | omega)
def ltb4 (m : Nat) (g : Nat → Nat → Int) (k : Int) : Prop := ((((m + 1) = (m + 1)) ∧ (∀ (i : Nat), ((i < (m + 1)) → (∀ (j : Nat), ((j < (2 : Nat)) → ((fillG [] (tlW g) (m + 1) i j) = (Value.int .i64 (gI (fillG [] (tlW g) (m + 1) i j))))))))) ∧ ((∀ (i : Nat), ((i < (m + 1)) → (((ltV (gI (fillG [] (tlW g) (m + 1) i (0 : Nat))) (gI (fillG [] (tlW g) (m + 1) i (1 : Nat)))) = (0 : Int)) → (Bg (1099511627776 : Int) (gI (fillG [] (tlW g) (m + 1) i (0 : Nat))) (gI (fillG [] (tlW g) (m + 1) i (1 : Nat))))))) ∧ ((frErr ltV (m + 1) (fun (i : Nat) => (fun (j : Nat) => (gI (fillG [] (tlW g) (m + 1) i j)))) k) = (Int.ofNat 0))))
theorem ltb4_ok (m : Nat) (g : Nat → Nat → Int) (k : Int) (hi : m + 1 ≤ 12) (hk : -128 ≤ k ∧ k ≤ 127) : ltb4 m g k := by
  unfold ltb4
  exact ⟨⟨rfl, fun a ha j hj => gfs ha hj⟩, fun a ha _ => bgM (inW (gm0 ha) (by decide)) (inW (gm1 ha) (by decide)), fr_free (by omega) (kM hk).1 (fun a ha => ⟨inW (gm0 ha) (by decide), inW (gm1 ha) (by decide)⟩) fun a ha => ltV0 (inW (gm0 ha) (by decide)) (inW (gm1 ha) (by decide))⟩
def ltb5 : Prop := (((0 : Int) != (0 : Int)) = false)
theorem ltb5_ok : ltb5 := by
  unfold ltb5
  first
    | rfl
    | decide
    | (simp; omega)
    | (first | omega | (and_intros <;> omega))
    | ((try simp (disch := omega) only [wi, Int.reduceAdd, Int.reduceSub, Int.reduceNeg, Int.reduceMul]); (try simp only [Bool.not_eq_false', Bool.and_eq_true, beq_iff_eq, and_true]); (try simp (disch := omega) only [wi, Int.reduceAdd, Int.reduceSub, Int.reduceNeg, Int.reduceMul]); and_intros <;> omega)
def ltb6 (k : Int) : Prop := (((.int .i64 (IntKind.i64.wrap ((0 : Int) - k))) : Value) = (.int .i64 (- k)))
theorem ltb6_ok (k : Int) (hk : -128 ≤ k ∧ k ≤ 127) : ltb6 k := by
  unfold ltb6
  first | rfl | (refine congrArg (Value.int .i64) ?_; first | rfl | (rw [wi _ (by omega)]; done) | (rw [wi _ (by omega)]; omega) | omega)
def ltb7 (m : Nat) (g : Nat → Nat → Int) (k : Int) : Prop := ((((m + 1) = (m + 1)) ∧ (∀ (i : Nat), ((i < (m + 1)) → (∀ (j : Nat), ((j < (2 : Nat)) → ((Value.int .i64 (frI (fun (i : Nat) => (fun (j : Nat) => (gI (fillG [] (tlW g) (m + 1) i j)))) k i j)) = (Value.int .i64 (gI (Value.int .i64 (frI (fun (i : Nat) => (fun (j : Nat) => (gI (fillG [] (tlW g) (m + 1) i j)))) k i j)))))))))) ∧ ((∀ (i : Nat), ((i < (m + 1)) → (((ltV (gI (Value.int .i64 (frI (fun (i : Nat) => (fun (j : Nat) => (gI (fillG [] (tlW g) (m + 1) i j)))) k i (0 : Nat)))) (gI (Value.int .i64 (frI (fun (i : Nat) => (fun (j : Nat) => (gI (fillG [] (tlW g) (m + 1) i j)))) k i (1 : Nat))))) = (0 : Int)) → (Bg (1099511627776 : Int) (gI (Value.int .i64 (frI (fun (i : Nat) => (fun (j : Nat) => (gI (fillG [] (tlW g) (m + 1) i j)))) k i (0 : Nat)))) (gI (Value.int .i64 (frI (fun (i : Nat) => (fun (j : Nat) => (gI (fillG [] (tlW g) (m + 1) i j)))) k i (1 : Nat)))))))) ∧ ((frErr ltV (m + 1) (fun (i : Nat) => (fun (j : Nat) => (gI (Value.int .i64 (frI (fun (i : Nat) => (fun (j : Nat) => (gI (fillG [] (tlW g) (m + 1) i j)))) k i j))))) (- k)) = (Int.ofNat 0))))
theorem ltb7_ok (m : Nat) (g : Nat → Nat → Int) (k : Int) (hi : m + 1 ≤ 12) (hk : -128 ≤ k ∧ k ≤ 127) : ltb7 m g k := by
  unfold ltb7
  exact ⟨⟨rfl, fun a ha j hj => rfl⟩, fun a ha _ => bgM (inW (fI_in (gm0 ha) (gm1 ha)).1 (by decide)) (inW (fI_in (gm0 ha) (gm1 ha)).2 (by decide)), fr_free (by omega) (kM hk).2 (fun a ha => ⟨inW (fI_in (gm0 ha) (gm1 ha)).1 (by decide), inW (fI_in (gm0 ha) (gm1 ha)).2 (by decide)⟩) fun a ha => ltV0 (inW (fI_in (gm0 ha) (gm1 ha)).1 (by decide)) (inW (fI_in (gm0 ha) (gm1 ha)).2 (by decide))⟩
def ltb8 (m : Nat) (g : Nat → Nat → Int) (k : Int) : Prop := ((((m + 1) = (m + 1)) ∧ (∀ (i : Nat), ((i < (m + 1)) → (∀ (j : Nat), ((j < (2 : Nat)) → ((Value.int .i64 (frI (fun (i : Nat) => (fun (j : Nat) => (gI (Value.int .i64 (frI (fun (i : Nat) => (fun (j : Nat) => (gI (fillG [] (tlW g) (m + 1) i j)))) k i j))))) (- k) i j)) = (Value.int .i64 (gI (Value.int .i64 (frI (fun (i : Nat) => (fun (j : Nat) => (gI (Value.int .i64 (frI (fun (i : Nat) => (fun (j : Nat) => (gI (fillG [] (tlW g) (m + 1) i j)))) k i j))))) (- k) i j)))))))))) ∧ ((((m + 1) = (m + 1)) ∧ (∀ (i : Nat), ((i < (m + 1)) → (∀ (j : Nat), ((j < (2 : Nat)) → ((fillG [] (tlW g) (m + 1) i j) = (Value.int .i64 (gI (fillG [] (tlW g) (m + 1) i j))))))))) ∧ (((((m + 1) : Nat)) : Int) ≤ (9223372036854775807 : Int))))
theorem ltb8_ok (m : Nat) (g : Nat → Nat → Int) (k : Int) (hi : m + 1 ≤ 12) (hk : -128 ≤ k ∧ k ≤ 127) : ltb8 m g k := by
  unfold ltb8
  exact ⟨⟨rfl, fun a ha j hj => rfl⟩, ⟨rfl, fun a ha j hj => gfs ha hj⟩, by omega⟩
def ltb9 (m : Nat) (g : Nat → Nat → Int) (k : Int) : Prop := ((Bool.not (decide (((m + 1) = (m + 1)) ∧ (sameE (fun (i : Nat) => (fun (j : Nat) => (gI (Value.int .i64 (frI (fun (i : Nat) => (fun (j : Nat) => (gI (Value.int .i64 (frI (fun (i : Nat) => (fun (j : Nat) => (gI (fillG [] (tlW g) (m + 1) i j)))) k i j))))) (- k) i j))))) (fun (i : Nat) => (fun (j : Nat) => (gI (fillG [] (tlW g) (m + 1) i j)))) (m + 1))))) = false)
theorem ltb9_ok (m : Nat) (g : Nat → Nat → Int) (k : Int) (hi : m + 1 ≤ 12) (hk : -128 ≤ k ∧ k ≤ 127) : ltb9 m g k := by
  unfold ltb9
  rw [decide_eq_true ⟨rfl, fun a ha => fr_back (kM hk).1 (by omega) (inW (gm0 ha) (by decide)) (inW (gm1 ha) (by decide))⟩]; rfl
def ltb10 : Prop := ((decide ((0 : Int) < (6 : Int))) = true)
theorem ltb10_ok : ltb10 := by
  unfold ltb10
  first
    | rfl
    | decide
    | (simp; omega)
    | (first | omega | (and_intros <;> omega))
    | ((try simp (disch := omega) only [wi, Int.reduceAdd, Int.reduceSub, Int.reduceNeg, Int.reduceMul]); (try simp only [Bool.not_eq_false', Bool.and_eq_true, beq_iff_eq, and_true]); (try simp (disch := omega) only [wi, Int.reduceAdd, Int.reduceSub, Int.reduceNeg, Int.reduceMul]); and_intros <;> omega)
def ltb11 : Prop := (((6 : Int) == (0 : Int)) = false)
theorem ltb11_ok : ltb11 := by
  unfold ltb11
  first
    | rfl
    | decide
    | (simp; omega)
    | (first | omega | (and_intros <;> omega))
    | ((try simp (disch := omega) only [wi, Int.reduceAdd, Int.reduceSub, Int.reduceNeg, Int.reduceMul]); (try simp only [Bool.not_eq_false', Bool.and_eq_true, beq_iff_eq, and_true]); (try simp (disch := omega) only [wi, Int.reduceAdd, Int.reduceSub, Int.reduceNeg, Int.reduceMul]); and_intros <;> omega)
def ltb12 : Prop := ((0 : Int) = (Int.ofNat 0))
theorem ltb12_ok : ltb12 := by
  unfold ltb12
  first
    | rfl
    | decide
    | (simp; omega)
    | (first | omega | (and_intros <;> omega))
    | ((try simp (disch := omega) only [wi, Int.reduceAdd, Int.reduceSub, Int.reduceNeg, Int.reduceMul]); (try simp only [Bool.not_eq_false', Bool.and_eq_true, beq_iff_eq, and_true]); (try simp (disch := omega) only [wi, Int.reduceAdd, Int.reduceSub, Int.reduceNeg, Int.reduceMul]); and_intros <;> omega)
def ltb13 : Prop := True
theorem ltb13_ok : ltb13 := by
  unfold ltb13
  first
    | rfl
    | decide
    | (simp; omega)
    | (first | omega | (and_intros <;> omega))
    | ((try simp (disch := omega) only [wi, Int.reduceAdd, Int.reduceSub, Int.reduceNeg, Int.reduceMul]); (try simp only [Bool.not_eq_false', Bool.and_eq_true, beq_iff_eq, and_true]); (try simp (disch := omega) only [wi, Int.reduceAdd, Int.reduceSub, Int.reduceNeg, Int.reduceMul]); and_intros <;> omega)
def ltb14 : Prop := ((Int.tmod (IntKind.i64.wrap ((0 : Int) + (1 : Int))) (6 : Int)) = (Int.ofNat 1))
theorem ltb14_ok : ltb14 := by
  unfold ltb14
  first
    | rfl
    | decide
    | (simp; omega)
    | (first | omega | (and_intros <;> omega))
    | ((try simp (disch := omega) only [wi, Int.reduceAdd, Int.reduceSub, Int.reduceNeg, Int.reduceMul]); (try simp only [Bool.not_eq_false', Bool.and_eq_true, beq_iff_eq, and_true]); (try simp (disch := omega) only [wi, Int.reduceAdd, Int.reduceSub, Int.reduceNeg, Int.reduceMul]); and_intros <;> omega)
def ltb15 : Prop := ((decide ((IntKind.i64.wrap ((0 : Int) + (1 : Int))) < (6 : Int))) = true)
theorem ltb15_ok : ltb15 := by
  unfold ltb15
  first
    | rfl
    | decide
    | (simp; omega)
    | (first | omega | (and_intros <;> omega))
    | ((try simp (disch := omega) only [wi, Int.reduceAdd, Int.reduceSub, Int.reduceNeg, Int.reduceMul]); (try simp only [Bool.not_eq_false', Bool.and_eq_true, beq_iff_eq, and_true]); (try simp (disch := omega) only [wi, Int.reduceAdd, Int.reduceSub, Int.reduceNeg, Int.reduceMul]); and_intros <;> omega)
def ltb16 : Prop := ((IntKind.i64.wrap ((0 : Int) + (1 : Int))) = (Int.ofNat 1))
theorem ltb16_ok : ltb16 := by
  unfold ltb16
  first
    | rfl
    | decide
    | (simp; omega)
    | (first | omega | (and_intros <;> omega))
    | ((try simp (disch := omega) only [wi, Int.reduceAdd, Int.reduceSub, Int.reduceNeg, Int.reduceMul]); (try simp only [Bool.not_eq_false', Bool.and_eq_true, beq_iff_eq, and_true]); (try simp (disch := omega) only [wi, Int.reduceAdd, Int.reduceSub, Int.reduceNeg, Int.reduceMul]); and_intros <;> omega)
def ltb17 : Prop := ((Int.tmod (IntKind.i64.wrap ((IntKind.i64.wrap ((0 : Int) + (1 : Int))) + (1 : Int))) (6 : Int)) = (Int.ofNat 2))
theorem ltb17_ok : ltb17 := by
  unfold ltb17
  first
    | rfl
    | decide
    | (simp; omega)
    | (first | omega | (and_intros <;> omega))
    | ((try simp (disch := omega) only [wi, Int.reduceAdd, Int.reduceSub, Int.reduceNeg, Int.reduceMul]); (try simp only [Bool.not_eq_false', Bool.and_eq_true, beq_iff_eq, and_true]); (try simp (disch := omega) only [wi, Int.reduceAdd, Int.reduceSub, Int.reduceNeg, Int.reduceMul]); and_intros <;> omega)
def ltb18 : Prop := ((decide ((IntKind.i64.wrap ((IntKind.i64.wrap ((0 : Int) + (1 : Int))) + (1 : Int))) < (6 : Int))) = true)
theorem ltb18_ok : ltb18 := by
  unfold ltb18
  first
    | rfl
    | decide
    | (simp; omega)
    | (first | omega | (and_intros <;> omega))
    | ((try simp (disch := omega) only [wi, Int.reduceAdd, Int.reduceSub, Int.reduceNeg, Int.reduceMul]); (try simp only [Bool.not_eq_false', Bool.and_eq_true, beq_iff_eq, and_true]); (try simp (disch := omega) only [wi, Int.reduceAdd, Int.reduceSub, Int.reduceNeg, Int.reduceMul]); and_intros <;> omega)
def ltb19 : Prop := ((IntKind.i64.wrap ((IntKind.i64.wrap ((0 : Int) + (1 : Int))) + (1 : Int))) = (Int.ofNat 2))
theorem ltb19_ok : ltb19 := by
  unfold ltb19
  first
    | rfl
    | decide
    | (simp; omega)
    | (first | omega | (and_intros <;> omega))
    | ((try simp (disch := omega) only [wi, Int.reduceAdd, Int.reduceSub, Int.reduceNeg, Int.reduceMul]); (try simp only [Bool.not_eq_false', Bool.and_eq_true, beq_iff_eq, and_true]); (try simp (disch := omega) only [wi, Int.reduceAdd, Int.reduceSub, Int.reduceNeg, Int.reduceMul]); and_intros <;> omega)
def ltb20 : Prop := ((Int.tmod (IntKind.i64.wrap ((IntKind.i64.wrap ((IntKind.i64.wrap ((0 : Int) + (1 : Int))) + (1 : Int))) + (1 : Int))) (6 : Int)) = (Int.ofNat 3))
theorem ltb20_ok : ltb20 := by
  unfold ltb20
  first
    | rfl
    | decide
    | (simp; omega)
    | (first | omega | (and_intros <;> omega))
    | ((try simp (disch := omega) only [wi, Int.reduceAdd, Int.reduceSub, Int.reduceNeg, Int.reduceMul]); (try simp only [Bool.not_eq_false', Bool.and_eq_true, beq_iff_eq, and_true]); (try simp (disch := omega) only [wi, Int.reduceAdd, Int.reduceSub, Int.reduceNeg, Int.reduceMul]); and_intros <;> omega)
def ltb21 : Prop := ((decide ((IntKind.i64.wrap ((IntKind.i64.wrap ((IntKind.i64.wrap ((0 : Int) + (1 : Int))) + (1 : Int))) + (1 : Int))) < (6 : Int))) = true)
theorem ltb21_ok : ltb21 := by
  unfold ltb21
  first
    | rfl
    | decide
    | (simp; omega)
    | (first | omega | (and_intros <;> omega))
    | ((try simp (disch := omega) only [wi, Int.reduceAdd, Int.reduceSub, Int.reduceNeg, Int.reduceMul]); (try simp only [Bool.not_eq_false', Bool.and_eq_true, beq_iff_eq, and_true]); (try simp (disch := omega) only [wi, Int.reduceAdd, Int.reduceSub, Int.reduceNeg, Int.reduceMul]); and_intros <;> omega)
def ltb22 : Prop := ((IntKind.i64.wrap ((IntKind.i64.wrap ((IntKind.i64.wrap ((0 : Int) + (1 : Int))) + (1 : Int))) + (1 : Int))) = (Int.ofNat 3))
theorem ltb22_ok : ltb22 := by
  unfold ltb22
  first
    | rfl
    | decide
    | (simp; omega)
    | (first | omega | (and_intros <;> omega))
    | ((try simp (disch := omega) only [wi, Int.reduceAdd, Int.reduceSub, Int.reduceNeg, Int.reduceMul]); (try simp only [Bool.not_eq_false', Bool.and_eq_true, beq_iff_eq, and_true]); (try simp (disch := omega) only [wi, Int.reduceAdd, Int.reduceSub, Int.reduceNeg, Int.reduceMul]); and_intros <;> omega)
def ltb23 : Prop := ((Int.tmod (IntKind.i64.wrap ((IntKind.i64.wrap ((IntKind.i64.wrap ((IntKind.i64.wrap ((0 : Int) + (1 : Int))) + (1 : Int))) + (1 : Int))) + (1 : Int))) (6 : Int)) = (Int.ofNat 4))
theorem ltb23_ok : ltb23 := by
  unfold ltb23
  first
    | rfl
    | decide
    | (simp; omega)
    | (first | omega | (and_intros <;> omega))
    | ((try simp (disch := omega) only [wi, Int.reduceAdd, Int.reduceSub, Int.reduceNeg, Int.reduceMul]); (try simp only [Bool.not_eq_false', Bool.and_eq_true, beq_iff_eq, and_true]); (try simp (disch := omega) only [wi, Int.reduceAdd, Int.reduceSub, Int.reduceNeg, Int.reduceMul]); and_intros <;> omega)
def ltb24 : Prop := ((decide ((IntKind.i64.wrap ((IntKind.i64.wrap ((IntKind.i64.wrap ((IntKind.i64.wrap ((0 : Int) + (1 : Int))) + (1 : Int))) + (1 : Int))) + (1 : Int))) < (6 : Int))) = true)
theorem ltb24_ok : ltb24 := by
  unfold ltb24
  first
    | rfl
    | decide
    | (simp; omega)
    | (first | omega | (and_intros <;> omega))
    | ((try simp (disch := omega) only [wi, Int.reduceAdd, Int.reduceSub, Int.reduceNeg, Int.reduceMul]); (try simp only [Bool.not_eq_false', Bool.and_eq_true, beq_iff_eq, and_true]); (try simp (disch := omega) only [wi, Int.reduceAdd, Int.reduceSub, Int.reduceNeg, Int.reduceMul]); and_intros <;> omega)
def ltb25 : Prop := ((IntKind.i64.wrap ((IntKind.i64.wrap ((IntKind.i64.wrap ((IntKind.i64.wrap ((0 : Int) + (1 : Int))) + (1 : Int))) + (1 : Int))) + (1 : Int))) = (Int.ofNat 4))
theorem ltb25_ok : ltb25 := by
  unfold ltb25
  first
    | rfl
    | decide
    | (simp; omega)
    | (first | omega | (and_intros <;> omega))
    | ((try simp (disch := omega) only [wi, Int.reduceAdd, Int.reduceSub, Int.reduceNeg, Int.reduceMul]); (try simp only [Bool.not_eq_false', Bool.and_eq_true, beq_iff_eq, and_true]); (try simp (disch := omega) only [wi, Int.reduceAdd, Int.reduceSub, Int.reduceNeg, Int.reduceMul]); and_intros <;> omega)
def ltb26 : Prop := ((Int.tmod (IntKind.i64.wrap ((IntKind.i64.wrap ((IntKind.i64.wrap ((IntKind.i64.wrap ((IntKind.i64.wrap ((0 : Int) + (1 : Int))) + (1 : Int))) + (1 : Int))) + (1 : Int))) + (1 : Int))) (6 : Int)) = (Int.ofNat 5))
theorem ltb26_ok : ltb26 := by
  unfold ltb26
  first
    | rfl
    | decide
    | (simp; omega)
    | (first | omega | (and_intros <;> omega))
    | ((try simp (disch := omega) only [wi, Int.reduceAdd, Int.reduceSub, Int.reduceNeg, Int.reduceMul]); (try simp only [Bool.not_eq_false', Bool.and_eq_true, beq_iff_eq, and_true]); (try simp (disch := omega) only [wi, Int.reduceAdd, Int.reduceSub, Int.reduceNeg, Int.reduceMul]); and_intros <;> omega)
def ltb27 : Prop := ((decide ((IntKind.i64.wrap ((IntKind.i64.wrap ((IntKind.i64.wrap ((IntKind.i64.wrap ((IntKind.i64.wrap ((0 : Int) + (1 : Int))) + (1 : Int))) + (1 : Int))) + (1 : Int))) + (1 : Int))) < (6 : Int))) = true)
theorem ltb27_ok : ltb27 := by
  unfold ltb27
  first
    | rfl
    | decide
    | (simp; omega)
    | (first | omega | (and_intros <;> omega))
    | ((try simp (disch := omega) only [wi, Int.reduceAdd, Int.reduceSub, Int.reduceNeg, Int.reduceMul]); (try simp only [Bool.not_eq_false', Bool.and_eq_true, beq_iff_eq, and_true]); (try simp (disch := omega) only [wi, Int.reduceAdd, Int.reduceSub, Int.reduceNeg, Int.reduceMul]); and_intros <;> omega)
def ltb28 : Prop := ((IntKind.i64.wrap ((IntKind.i64.wrap ((IntKind.i64.wrap ((IntKind.i64.wrap ((IntKind.i64.wrap ((0 : Int) + (1 : Int))) + (1 : Int))) + (1 : Int))) + (1 : Int))) + (1 : Int))) = (Int.ofNat 5))
theorem ltb28_ok : ltb28 := by
  unfold ltb28
  first
    | rfl
    | decide
    | (simp; omega)
    | (first | omega | (and_intros <;> omega))
    | ((try simp (disch := omega) only [wi, Int.reduceAdd, Int.reduceSub, Int.reduceNeg, Int.reduceMul]); (try simp only [Bool.not_eq_false', Bool.and_eq_true, beq_iff_eq, and_true]); (try simp (disch := omega) only [wi, Int.reduceAdd, Int.reduceSub, Int.reduceNeg, Int.reduceMul]); and_intros <;> omega)
def ltb29 : Prop := ((Int.tmod (IntKind.i64.wrap ((IntKind.i64.wrap ((IntKind.i64.wrap ((IntKind.i64.wrap ((IntKind.i64.wrap ((IntKind.i64.wrap ((0 : Int) + (1 : Int))) + (1 : Int))) + (1 : Int))) + (1 : Int))) + (1 : Int))) + (1 : Int))) (6 : Int)) = (Int.ofNat 0))
theorem ltb29_ok : ltb29 := by
  unfold ltb29
  first
    | rfl
    | decide
    | (simp; omega)
    | (first | omega | (and_intros <;> omega))
    | ((try simp (disch := omega) only [wi, Int.reduceAdd, Int.reduceSub, Int.reduceNeg, Int.reduceMul]); (try simp only [Bool.not_eq_false', Bool.and_eq_true, beq_iff_eq, and_true]); (try simp (disch := omega) only [wi, Int.reduceAdd, Int.reduceSub, Int.reduceNeg, Int.reduceMul]); and_intros <;> omega)
def ltb30 : Prop := ((decide ((IntKind.i64.wrap ((IntKind.i64.wrap ((IntKind.i64.wrap ((IntKind.i64.wrap ((IntKind.i64.wrap ((IntKind.i64.wrap ((0 : Int) + (1 : Int))) + (1 : Int))) + (1 : Int))) + (1 : Int))) + (1 : Int))) + (1 : Int))) < (6 : Int))) = false)
theorem ltb30_ok : ltb30 := by
  unfold ltb30
  first
    | rfl
    | decide
    | (simp; omega)
    | (first | omega | (and_intros <;> omega))
    | ((try simp (disch := omega) only [wi, Int.reduceAdd, Int.reduceSub, Int.reduceNeg, Int.reduceMul]); (try simp only [Bool.not_eq_false', Bool.and_eq_true, beq_iff_eq, and_true]); (try simp (disch := omega) only [wi, Int.reduceAdd, Int.reduceSub, Int.reduceNeg, Int.reduceMul]); and_intros <;> omega)
def ltb31 (z0 : Int) (z1 : Int) (z2 : Int) (z3 : Int) (z4 : Int) (z5 : Int) (z6 : Int) (z7 : Int) (z8 : Int) (z9 : Int) (z10 : Int) (z11 : Int) : Prop := ((((- (65536 : Int)) ≤ (sm z0)) ∧ ((sm z0) ≤ (65536 : Int))) ∧ ((((- (65536 : Int)) ≤ (sm z1)) ∧ ((sm z1) ≤ (65536 : Int))) ∧ ((((- (65536 : Int)) ≤ (sm z2)) ∧ ((sm z2) ≤ (65536 : Int))) ∧ ((((- (65536 : Int)) ≤ (sm z3)) ∧ ((sm z3) ≤ (65536 : Int))) ∧ ((((- (65536 : Int)) ≤ (sm z4)) ∧ ((sm z4) ≤ (65536 : Int))) ∧ ((((- (65536 : Int)) ≤ (sm z5)) ∧ ((sm z5) ≤ (65536 : Int))) ∧ ((((- (65536 : Int)) ≤ (sm z6)) ∧ ((sm z6) ≤ (65536 : Int))) ∧ ((((- (65536 : Int)) ≤ (sm z7)) ∧ ((sm z7) ≤ (65536 : Int))) ∧ ((((- (65536 : Int)) ≤ (sm z8)) ∧ ((sm z8) ≤ (65536 : Int))) ∧ ((((- (65536 : Int)) ≤ (sm z9)) ∧ ((sm z9) ≤ (65536 : Int))) ∧ ((((- (65536 : Int)) ≤ (sm z10)) ∧ ((sm z10) ≤ (65536 : Int))) ∧ (((- (65536 : Int)) ≤ (sm z11)) ∧ ((sm z11) ≤ (65536 : Int))))))))))))))
theorem ltb31_ok (z0 : Int) (z1 : Int) (z2 : Int) (z3 : Int) (z4 : Int) (z5 : Int) (z6 : Int) (z7 : Int) (z8 : Int) (z9 : Int) (z10 : Int) (z11 : Int) : ltb31 z0 z1 z2 z3 z4 z5 z6 z7 z8 z9 z10 z11 := by
  unfold ltb31
  have s0 := sm_bd z0
  have s1 := sm_bd z1
  have s2 := sm_bd z2
  have s3 := sm_bd z3
  have s4 := sm_bd z4
  have s5 := sm_bd z5
  have s6 := sm_bd z6
  have s7 := sm_bd z7
  have s8 := sm_bd z8
  have s9 := sm_bd z9
  have s10 := sm_bd z10
  have s11 := sm_bd z11
  first
    | rfl
    | decide
    | (simp; omega)
    | (first | omega | (and_intros <;> omega))
    | ((try simp (disch := omega) only [wi, Int.reduceAdd, Int.reduceSub, Int.reduceNeg, Int.reduceMul]); (try simp only [Bool.not_eq_false', Bool.and_eq_true, beq_iff_eq, and_true]); (try simp (disch := omega) only [wi, Int.reduceAdd, Int.reduceSub, Int.reduceNeg, Int.reduceMul]); and_intros <;> omega)
def ltb32 (z0 : Int) (z1 : Int) (z2 : Int) (z3 : Int) (z4 : Int) (z5 : Int) (z6 : Int) (z7 : Int) (z8 : Int) (z9 : Int) (z10 : Int) (z11 : Int) : Prop := ((((- (65536 : Int)) ≤ (sm z10)) ∧ ((sm z10) ≤ (65536 : Int))) ∧ ((((- (65536 : Int)) ≤ (sm z11)) ∧ ((sm z11) ≤ (65536 : Int))) ∧ ((((- (65536 : Int)) ≤ (sm z0)) ∧ ((sm z0) ≤ (65536 : Int))) ∧ ((((- (65536 : Int)) ≤ (sm z1)) ∧ ((sm z1) ≤ (65536 : Int))) ∧ ((((- (65536 : Int)) ≤ (sm z2)) ∧ ((sm z2) ≤ (65536 : Int))) ∧ ((((- (65536 : Int)) ≤ (sm z3)) ∧ ((sm z3) ≤ (65536 : Int))) ∧ ((((- (65536 : Int)) ≤ (sm z4)) ∧ ((sm z4) ≤ (65536 : Int))) ∧ ((((- (65536 : Int)) ≤ (sm z5)) ∧ ((sm z5) ≤ (65536 : Int))) ∧ ((((- (65536 : Int)) ≤ (sm z6)) ∧ ((sm z6) ≤ (65536 : Int))) ∧ ((((- (65536 : Int)) ≤ (sm z7)) ∧ ((sm z7) ≤ (65536 : Int))) ∧ ((((- (65536 : Int)) ≤ (sm z8)) ∧ ((sm z8) ≤ (65536 : Int))) ∧ (((- (65536 : Int)) ≤ (sm z9)) ∧ ((sm z9) ≤ (65536 : Int))))))))))))))
theorem ltb32_ok (z0 : Int) (z1 : Int) (z2 : Int) (z3 : Int) (z4 : Int) (z5 : Int) (z6 : Int) (z7 : Int) (z8 : Int) (z9 : Int) (z10 : Int) (z11 : Int) : ltb32 z0 z1 z2 z3 z4 z5 z6 z7 z8 z9 z10 z11 := by
  unfold ltb32
  have s0 := sm_bd z0
  have s1 := sm_bd z1
  have s2 := sm_bd z2
  have s3 := sm_bd z3
  have s4 := sm_bd z4
  have s5 := sm_bd z5
  have s6 := sm_bd z6
  have s7 := sm_bd z7
  have s8 := sm_bd z8
  have s9 := sm_bd z9
  have s10 := sm_bd z10
  have s11 := sm_bd z11
  first
    | rfl
    | decide
    | (simp; omega)
    | (first | omega | (and_intros <;> omega))
    | ((try simp (disch := omega) only [wi, Int.reduceAdd, Int.reduceSub, Int.reduceNeg, Int.reduceMul]); (try simp only [Bool.not_eq_false', Bool.and_eq_true, beq_iff_eq, and_true]); (try simp (disch := omega) only [wi, Int.reduceAdd, Int.reduceSub, Int.reduceNeg, Int.reduceMul]); and_intros <;> omega)
def ltb33 (z0 : Int) (z1 : Int) (z2 : Int) (z3 : Int) (z4 : Int) (z5 : Int) (z6 : Int) (z7 : Int) (z8 : Int) (z9 : Int) (z10 : Int) (z11 : Int) : Prop := ((∀ (i : Nat), ((i < 6) → (((ltV (gL ((sm z0) :: ((sm z1) :: ((sm z2) :: ((sm z3) :: ((sm z4) :: ((sm z5) :: ((sm z6) :: ((sm z7) :: ((sm z8) :: ((sm z9) :: ((sm z10) :: ((sm z11) :: [])))))))))))) i (0 : Nat)) (gL ((sm z0) :: ((sm z1) :: ((sm z2) :: ((sm z3) :: ((sm z4) :: ((sm z5) :: ((sm z6) :: ((sm z7) :: ((sm z8) :: ((sm z9) :: ((sm z10) :: ((sm z11) :: [])))))))))))) i (1 : Nat))) = (0 : Int)) → (Bg (1099511627776 : Int) (gL ((sm z0) :: ((sm z1) :: ((sm z2) :: ((sm z3) :: ((sm z4) :: ((sm z5) :: ((sm z6) :: ((sm z7) :: ((sm z8) :: ((sm z9) :: ((sm z10) :: ((sm z11) :: [])))))))))))) i (0 : Nat)) (gL ((sm z0) :: ((sm z1) :: ((sm z2) :: ((sm z3) :: ((sm z4) :: ((sm z5) :: ((sm z6) :: ((sm z7) :: ((sm z8) :: ((sm z9) :: ((sm z10) :: ((sm z11) :: [])))))))))))) i (1 : Nat)))))) ∧ ((frErr ltV 6 (gL ((sm z0) :: ((sm z1) :: ((sm z2) :: ((sm z3) :: ((sm z4) :: ((sm z5) :: ((sm z6) :: ((sm z7) :: ((sm z8) :: ((sm z9) :: ((sm z10) :: ((sm z11) :: []))))))))))))) (1 : Int)) = (Int.ofNat 0)))
theorem ltb33_ok (z0 : Int) (z1 : Int) (z2 : Int) (z3 : Int) (z4 : Int) (z5 : Int) (z6 : Int) (z7 : Int) (z8 : Int) (z9 : Int) (z10 : Int) (z11 : Int) : ltb33 z0 z1 z2 z3 z4 z5 z6 z7 z8 z9 z10 z11 := by
  unfold ltb33
  exact fr_six ⟨by decide, by decide⟩ (six_in ⟨sm_in _, sm_in _⟩ ⟨sm_in _, sm_in _⟩ ⟨sm_in _, sm_in _⟩ ⟨sm_in _, sm_in _⟩ ⟨sm_in _, sm_in _⟩ ⟨sm_in _, sm_in _⟩)
def ltb34 : Prop := (((IntKind.i64.wrap ((IntKind.i64.wrap ((0 : Int) + (0 : Int))) + (0 : Int))) != (0 : Int)) = false)
theorem ltb34_ok : ltb34 := by
  unfold ltb34
  first
    | rfl
    | decide
    | (simp; omega)
    | (first | omega | (and_intros <;> omega))
    | ((try simp (disch := omega) only [wi, Int.reduceAdd, Int.reduceSub, Int.reduceNeg, Int.reduceMul]); (try simp only [Bool.not_eq_false', Bool.and_eq_true, beq_iff_eq, and_true]); (try simp (disch := omega) only [wi, Int.reduceAdd, Int.reduceSub, Int.reduceNeg, Int.reduceMul]); and_intros <;> omega)
def ltb35 : Prop := (((((6 : Nat)) : Int) != (6 : Int)) = false)
theorem ltb35_ok : ltb35 := by
  unfold ltb35
  first
    | rfl
    | decide
    | (simp; omega)
    | (first | omega | (and_intros <;> omega))
    | ((try simp (disch := omega) only [wi, Int.reduceAdd, Int.reduceSub, Int.reduceNeg, Int.reduceMul]); (try simp only [Bool.not_eq_false', Bool.and_eq_true, beq_iff_eq, and_true]); (try simp (disch := omega) only [wi, Int.reduceAdd, Int.reduceSub, Int.reduceNeg, Int.reduceMul]); and_intros <;> omega)
def ltb36 (z0 : Int) (z1 : Int) : Prop := ((((0 : Int) ≤ (65536 : Int)) ∧ ((65536 : Int) ≤ (1048576 : Int))) ∧ ((((- (65536 : Int)) ≤ (((frP (sm z0) (sm z1) (1 : Int) (0 : Nat))).1).1) ∧ ((((frP (sm z0) (sm z1) (1 : Int) (0 : Nat))).1).1 ≤ (65536 : Int))) ∧ (((- (65536 : Int)) ≤ (((frP (sm z0) (sm z1) (1 : Int) (0 : Nat))).1).2) ∧ ((((frP (sm z0) (sm z1) (1 : Int) (0 : Nat))).1).2 ≤ (65536 : Int)))))
theorem ltb36_ok (z0 : Int) (z1 : Int) : ltb36 z0 z1 := by
  unfold ltb36
  have s0 := sm_bd z0
  have s1 := sm_bd z1
  first
    | rfl
    | decide
    | (simp; omega)
    | (first | omega | (and_intros <;> omega))
    | ((try simp (disch := omega) only [wi, Int.reduceAdd, Int.reduceSub, Int.reduceNeg, Int.reduceMul]); (try simp only [fq_1_0, fq_1_1, fq_1_2, fq_1_3, fq_1_4, fq_1_5, fq_0_0, fq_0_1, fq_0_2, fq_0_3, fq_0_4, fq_0_5, fq_m1_0, fq_m1_1, fq_m1_2, fq_m1_3, fq_m1_4, fq_m1_5, fq_m2_0, fq_m2_1, fq_m2_2, fq_m2_3, fq_m2_4, fq_m2_5, fq_m3_0, fq_m3_1, fq_m3_2, fq_m3_3, fq_m3_4, fq_m3_5, fq_m4_0, fq_m4_1, fq_m4_2, fq_m4_3, fq_m4_4, fq_m4_5, fq_m5_0, fq_m5_1, fq_m5_2, fq_m5_3, fq_m5_4, fq_m5_5]); (try simp only [tw0, tw1, tw2, tw3, tw4, tw5, twm1, twm2, twm3, twm4, twm5]); (try simp only [Bool.not_eq_false', Bool.and_eq_true, beq_iff_eq, and_true]); (try simp (disch := omega) only [wi, Int.reduceAdd, Int.reduceSub, Int.reduceNeg, Int.reduceMul]); and_intros <;> omega)
def ltb37 (z2 : Int) (z3 : Int) : Prop := ((((0 : Int) ≤ (65536 : Int)) ∧ ((65536 : Int) ≤ (1048576 : Int))) ∧ ((((- (65536 : Int)) ≤ (((frP (sm z2) (sm z3) (1 : Int) 1)).1).1) ∧ ((((frP (sm z2) (sm z3) (1 : Int) 1)).1).1 ≤ (65536 : Int))) ∧ (((- (65536 : Int)) ≤ (((frP (sm z2) (sm z3) (1 : Int) 1)).1).2) ∧ ((((frP (sm z2) (sm z3) (1 : Int) 1)).1).2 ≤ (65536 : Int)))))
theorem ltb37_ok (z2 : Int) (z3 : Int) : ltb37 z2 z3 := by
  unfold ltb37
  have s2 := sm_bd z2
  have s3 := sm_bd z3
  first
    | rfl
    | decide
    | (simp; omega)
    | (first | omega | (and_intros <;> omega))
    | ((try simp (disch := omega) only [wi, Int.reduceAdd, Int.reduceSub, Int.reduceNeg, Int.reduceMul]); (try simp only [fq_1_0, fq_1_1, fq_1_2, fq_1_3, fq_1_4, fq_1_5, fq_0_0, fq_0_1, fq_0_2, fq_0_3, fq_0_4, fq_0_5, fq_m1_0, fq_m1_1, fq_m1_2, fq_m1_3, fq_m1_4, fq_m1_5, fq_m2_0, fq_m2_1, fq_m2_2, fq_m2_3, fq_m2_4, fq_m2_5, fq_m3_0, fq_m3_1, fq_m3_2, fq_m3_3, fq_m3_4, fq_m3_5, fq_m4_0, fq_m4_1, fq_m4_2, fq_m4_3, fq_m4_4, fq_m4_5, fq_m5_0, fq_m5_1, fq_m5_2, fq_m5_3, fq_m5_4, fq_m5_5]); (try simp only [tw0, tw1, tw2, tw3, tw4, tw5, twm1, twm2, twm3, twm4, twm5]); (try simp only [Bool.not_eq_false', Bool.and_eq_true, beq_iff_eq, and_true]); (try simp (disch := omega) only [wi, Int.reduceAdd, Int.reduceSub, Int.reduceNeg, Int.reduceMul]); and_intros <;> omega)
def ltb38 (z4 : Int) (z5 : Int) : Prop := ((((0 : Int) ≤ (65536 : Int)) ∧ ((65536 : Int) ≤ (1048576 : Int))) ∧ ((((- (65536 : Int)) ≤ (((frP (sm z4) (sm z5) (1 : Int) 2)).1).1) ∧ ((((frP (sm z4) (sm z5) (1 : Int) 2)).1).1 ≤ (65536 : Int))) ∧ (((- (65536 : Int)) ≤ (((frP (sm z4) (sm z5) (1 : Int) 2)).1).2) ∧ ((((frP (sm z4) (sm z5) (1 : Int) 2)).1).2 ≤ (65536 : Int)))))
theorem ltb38_ok (z4 : Int) (z5 : Int) : ltb38 z4 z5 := by
  unfold ltb38
  have s4 := sm_bd z4
  have s5 := sm_bd z5
  first
    | rfl
    | decide
    | (simp; omega)
    | (first | omega | (and_intros <;> omega))
    | ((try simp (disch := omega) only [wi, Int.reduceAdd, Int.reduceSub, Int.reduceNeg, Int.reduceMul]); (try simp only [fq_1_0, fq_1_1, fq_1_2, fq_1_3, fq_1_4, fq_1_5, fq_0_0, fq_0_1, fq_0_2, fq_0_3, fq_0_4, fq_0_5, fq_m1_0, fq_m1_1, fq_m1_2, fq_m1_3, fq_m1_4, fq_m1_5, fq_m2_0, fq_m2_1, fq_m2_2, fq_m2_3, fq_m2_4, fq_m2_5, fq_m3_0, fq_m3_1, fq_m3_2, fq_m3_3, fq_m3_4, fq_m3_5, fq_m4_0, fq_m4_1, fq_m4_2, fq_m4_3, fq_m4_4, fq_m4_5, fq_m5_0, fq_m5_1, fq_m5_2, fq_m5_3, fq_m5_4, fq_m5_5]); (try simp only [tw0, tw1, tw2, tw3, tw4, tw5, twm1, twm2, twm3, twm4, twm5]); (try simp only [Bool.not_eq_false', Bool.and_eq_true, beq_iff_eq, and_true]); (try simp (disch := omega) only [wi, Int.reduceAdd, Int.reduceSub, Int.reduceNeg, Int.reduceMul]); and_intros <;> omega)
def ltb39 (z6 : Int) (z7 : Int) : Prop := ((((0 : Int) ≤ (65536 : Int)) ∧ ((65536 : Int) ≤ (1048576 : Int))) ∧ ((((- (65536 : Int)) ≤ (((frP (sm z6) (sm z7) (1 : Int) 3)).1).1) ∧ ((((frP (sm z6) (sm z7) (1 : Int) 3)).1).1 ≤ (65536 : Int))) ∧ (((- (65536 : Int)) ≤ (((frP (sm z6) (sm z7) (1 : Int) 3)).1).2) ∧ ((((frP (sm z6) (sm z7) (1 : Int) 3)).1).2 ≤ (65536 : Int)))))
theorem ltb39_ok (z6 : Int) (z7 : Int) : ltb39 z6 z7 := by
  unfold ltb39
  have s6 := sm_bd z6
  have s7 := sm_bd z7
  first
    | rfl
    | decide
    | (simp; omega)
    | (first | omega | (and_intros <;> omega))
    | ((try simp (disch := omega) only [wi, Int.reduceAdd, Int.reduceSub, Int.reduceNeg, Int.reduceMul]); (try simp only [fq_1_0, fq_1_1, fq_1_2, fq_1_3, fq_1_4, fq_1_5, fq_0_0, fq_0_1, fq_0_2, fq_0_3, fq_0_4, fq_0_5, fq_m1_0, fq_m1_1, fq_m1_2, fq_m1_3, fq_m1_4, fq_m1_5, fq_m2_0, fq_m2_1, fq_m2_2, fq_m2_3, fq_m2_4, fq_m2_5, fq_m3_0, fq_m3_1, fq_m3_2, fq_m3_3, fq_m3_4, fq_m3_5, fq_m4_0, fq_m4_1, fq_m4_2, fq_m4_3, fq_m4_4, fq_m4_5, fq_m5_0, fq_m5_1, fq_m5_2, fq_m5_3, fq_m5_4, fq_m5_5]); (try simp only [tw0, tw1, tw2, tw3, tw4, tw5, twm1, twm2, twm3, twm4, twm5]); (try simp only [Bool.not_eq_false', Bool.and_eq_true, beq_iff_eq, and_true]); (try simp (disch := omega) only [wi, Int.reduceAdd, Int.reduceSub, Int.reduceNeg, Int.reduceMul]); and_intros <;> omega)
def ltb40 (z8 : Int) (z9 : Int) : Prop := ((((0 : Int) ≤ (65536 : Int)) ∧ ((65536 : Int) ≤ (1048576 : Int))) ∧ ((((- (65536 : Int)) ≤ (((frP (sm z8) (sm z9) (1 : Int) 4)).1).1) ∧ ((((frP (sm z8) (sm z9) (1 : Int) 4)).1).1 ≤ (65536 : Int))) ∧ (((- (65536 : Int)) ≤ (((frP (sm z8) (sm z9) (1 : Int) 4)).1).2) ∧ ((((frP (sm z8) (sm z9) (1 : Int) 4)).1).2 ≤ (65536 : Int)))))
theorem ltb40_ok (z8 : Int) (z9 : Int) : ltb40 z8 z9 := by
  unfold ltb40
  have s8 := sm_bd z8
  have s9 := sm_bd z9
  first
    | rfl
    | decide
    | (simp; omega)
    | (first | omega | (and_intros <;> omega))
    | ((try simp (disch := omega) only [wi, Int.reduceAdd, Int.reduceSub, Int.reduceNeg, Int.reduceMul]); (try simp only [fq_1_0, fq_1_1, fq_1_2, fq_1_3, fq_1_4, fq_1_5, fq_0_0, fq_0_1, fq_0_2, fq_0_3, fq_0_4, fq_0_5, fq_m1_0, fq_m1_1, fq_m1_2, fq_m1_3, fq_m1_4, fq_m1_5, fq_m2_0, fq_m2_1, fq_m2_2, fq_m2_3, fq_m2_4, fq_m2_5, fq_m3_0, fq_m3_1, fq_m3_2, fq_m3_3, fq_m3_4, fq_m3_5, fq_m4_0, fq_m4_1, fq_m4_2, fq_m4_3, fq_m4_4, fq_m4_5, fq_m5_0, fq_m5_1, fq_m5_2, fq_m5_3, fq_m5_4, fq_m5_5]); (try simp only [tw0, tw1, tw2, tw3, tw4, tw5, twm1, twm2, twm3, twm4, twm5]); (try simp only [Bool.not_eq_false', Bool.and_eq_true, beq_iff_eq, and_true]); (try simp (disch := omega) only [wi, Int.reduceAdd, Int.reduceSub, Int.reduceNeg, Int.reduceMul]); and_intros <;> omega)
def ltb41 (z10 : Int) (z11 : Int) : Prop := ((((0 : Int) ≤ (65536 : Int)) ∧ ((65536 : Int) ≤ (1048576 : Int))) ∧ ((((- (65536 : Int)) ≤ (((frP (sm z10) (sm z11) (1 : Int) 5)).1).1) ∧ ((((frP (sm z10) (sm z11) (1 : Int) 5)).1).1 ≤ (65536 : Int))) ∧ (((- (65536 : Int)) ≤ (((frP (sm z10) (sm z11) (1 : Int) 5)).1).2) ∧ ((((frP (sm z10) (sm z11) (1 : Int) 5)).1).2 ≤ (65536 : Int)))))
theorem ltb41_ok (z10 : Int) (z11 : Int) : ltb41 z10 z11 := by
  unfold ltb41
  have s10 := sm_bd z10
  have s11 := sm_bd z11
  first
    | rfl
    | decide
    | (simp; omega)
    | (first | omega | (and_intros <;> omega))
    | ((try simp (disch := omega) only [wi, Int.reduceAdd, Int.reduceSub, Int.reduceNeg, Int.reduceMul]); (try simp only [fq_1_0, fq_1_1, fq_1_2, fq_1_3, fq_1_4, fq_1_5, fq_0_0, fq_0_1, fq_0_2, fq_0_3, fq_0_4, fq_0_5, fq_m1_0, fq_m1_1, fq_m1_2, fq_m1_3, fq_m1_4, fq_m1_5, fq_m2_0, fq_m2_1, fq_m2_2, fq_m2_3, fq_m2_4, fq_m2_5, fq_m3_0, fq_m3_1, fq_m3_2, fq_m3_3, fq_m3_4, fq_m3_5, fq_m4_0, fq_m4_1, fq_m4_2, fq_m4_3, fq_m4_4, fq_m4_5, fq_m5_0, fq_m5_1, fq_m5_2, fq_m5_3, fq_m5_4, fq_m5_5]); (try simp only [tw0, tw1, tw2, tw3, tw4, tw5, twm1, twm2, twm3, twm4, twm5]); (try simp only [Bool.not_eq_false', Bool.and_eq_true, beq_iff_eq, and_true]); (try simp (disch := omega) only [wi, Int.reduceAdd, Int.reduceSub, Int.reduceNeg, Int.reduceMul]); and_intros <;> omega)
def ltb42 (z0 : Int) (z1 : Int) (z2 : Int) (z3 : Int) (z4 : Int) (z5 : Int) (z6 : Int) (z7 : Int) (z8 : Int) (z9 : Int) (z10 : Int) (z11 : Int) : Prop := ((((- (65536 : Int)) ≤ (((frP (sm z0) (sm z1) (1 : Int) (0 : Nat))).1).1) ∧ ((((frP (sm z0) (sm z1) (1 : Int) (0 : Nat))).1).1 ≤ (65536 : Int))) ∧ ((((- (65536 : Int)) ≤ (((frP (sm z0) (sm z1) (1 : Int) (0 : Nat))).1).2) ∧ ((((frP (sm z0) (sm z1) (1 : Int) (0 : Nat))).1).2 ≤ (65536 : Int))) ∧ ((((- (65536 : Int)) ≤ (((frP (sm z2) (sm z3) (1 : Int) 1)).1).1) ∧ ((((frP (sm z2) (sm z3) (1 : Int) 1)).1).1 ≤ (65536 : Int))) ∧ ((((- (65536 : Int)) ≤ (((frP (sm z2) (sm z3) (1 : Int) 1)).1).2) ∧ ((((frP (sm z2) (sm z3) (1 : Int) 1)).1).2 ≤ (65536 : Int))) ∧ ((((- (65536 : Int)) ≤ (((frP (sm z4) (sm z5) (1 : Int) 2)).1).1) ∧ ((((frP (sm z4) (sm z5) (1 : Int) 2)).1).1 ≤ (65536 : Int))) ∧ ((((- (65536 : Int)) ≤ (((frP (sm z4) (sm z5) (1 : Int) 2)).1).2) ∧ ((((frP (sm z4) (sm z5) (1 : Int) 2)).1).2 ≤ (65536 : Int))) ∧ ((((- (65536 : Int)) ≤ (((frP (sm z6) (sm z7) (1 : Int) 3)).1).1) ∧ ((((frP (sm z6) (sm z7) (1 : Int) 3)).1).1 ≤ (65536 : Int))) ∧ ((((- (65536 : Int)) ≤ (((frP (sm z6) (sm z7) (1 : Int) 3)).1).2) ∧ ((((frP (sm z6) (sm z7) (1 : Int) 3)).1).2 ≤ (65536 : Int))) ∧ ((((- (65536 : Int)) ≤ (((frP (sm z8) (sm z9) (1 : Int) 4)).1).1) ∧ ((((frP (sm z8) (sm z9) (1 : Int) 4)).1).1 ≤ (65536 : Int))) ∧ ((((- (65536 : Int)) ≤ (((frP (sm z8) (sm z9) (1 : Int) 4)).1).2) ∧ ((((frP (sm z8) (sm z9) (1 : Int) 4)).1).2 ≤ (65536 : Int))) ∧ ((((- (65536 : Int)) ≤ (((frP (sm z10) (sm z11) (1 : Int) 5)).1).1) ∧ ((((frP (sm z10) (sm z11) (1 : Int) 5)).1).1 ≤ (65536 : Int))) ∧ (((- (65536 : Int)) ≤ (((frP (sm z10) (sm z11) (1 : Int) 5)).1).2) ∧ ((((frP (sm z10) (sm z11) (1 : Int) 5)).1).2 ≤ (65536 : Int))))))))))))))
theorem ltb42_ok (z0 : Int) (z1 : Int) (z2 : Int) (z3 : Int) (z4 : Int) (z5 : Int) (z6 : Int) (z7 : Int) (z8 : Int) (z9 : Int) (z10 : Int) (z11 : Int) : ltb42 z0 z1 z2 z3 z4 z5 z6 z7 z8 z9 z10 z11 := by
  unfold ltb42
  have s0 := sm_bd z0
  have s1 := sm_bd z1
  have s2 := sm_bd z2
  have s3 := sm_bd z3
  have s4 := sm_bd z4
  have s5 := sm_bd z5
  have s6 := sm_bd z6
  have s7 := sm_bd z7
  have s8 := sm_bd z8
  have s9 := sm_bd z9
  have s10 := sm_bd z10
  have s11 := sm_bd z11
  first
    | rfl
    | decide
    | (simp; omega)
    | (first | omega | (and_intros <;> omega))
    | ((try simp (disch := omega) only [wi, Int.reduceAdd, Int.reduceSub, Int.reduceNeg, Int.reduceMul]); (try simp only [fq_1_0, fq_1_1, fq_1_2, fq_1_3, fq_1_4, fq_1_5, fq_0_0, fq_0_1, fq_0_2, fq_0_3, fq_0_4, fq_0_5, fq_m1_0, fq_m1_1, fq_m1_2, fq_m1_3, fq_m1_4, fq_m1_5, fq_m2_0, fq_m2_1, fq_m2_2, fq_m2_3, fq_m2_4, fq_m2_5, fq_m3_0, fq_m3_1, fq_m3_2, fq_m3_3, fq_m3_4, fq_m3_5, fq_m4_0, fq_m4_1, fq_m4_2, fq_m4_3, fq_m4_4, fq_m4_5, fq_m5_0, fq_m5_1, fq_m5_2, fq_m5_3, fq_m5_4, fq_m5_5]); (try simp only [tw0, tw1, tw2, tw3, tw4, tw5, twm1, twm2, twm3, twm4, twm5]); (try simp only [Bool.not_eq_false', Bool.and_eq_true, beq_iff_eq, and_true]); (try simp (disch := omega) only [wi, Int.reduceAdd, Int.reduceSub, Int.reduceNeg, Int.reduceMul]); and_intros <;> omega)
def ltb43 (z0 : Int) (z1 : Int) (z2 : Int) (z3 : Int) (z4 : Int) (z5 : Int) (z6 : Int) (z7 : Int) (z8 : Int) (z9 : Int) (z10 : Int) (z11 : Int) : Prop := isS ((sm z0) + (sm z2) + (sm z4) + (sm z6) + (sm z8) + (sm z10)) ((sm z1) + (sm z3) + (sm z5) + (sm z7) + (sm z9) + (sm z11)) ((sm z0) + (sm z3) - (sm z4) + (sm z5) - (sm z6) - (sm z9) + (sm z10) - (sm z11)) ((sm z1) - (sm z2) + (sm z3) - (sm z4) - (sm z7) + (sm z8) - (sm z9) + (sm z10)) ((sm z0) - (sm z2) + (sm z3) - (sm z5) + (sm z6) - (sm z8) + (sm z9) - (sm z11)) ((sm z1) - (sm z2) + (sm z4) - (sm z5) + (sm z7) - (sm z8) + (sm z10) - (sm z11)) ((sm z0) - (sm z2) + (sm z4) - (sm z6) + (sm z8) - (sm z10)) ((sm z1) - (sm z3) + (sm z5) - (sm z7) + (sm z9) - (sm z11)) ((sm z0) - (sm z3) - (sm z4) + (sm z5) + (sm z6) - (sm z9) - (sm z10) + (sm z11)) ((sm z1) + (sm z2) - (sm z3) - (sm z4) + (sm z7) + (sm z8) - (sm z9) - (sm z10)) ((sm z0) + (sm z2) - (sm z3) - (sm z5) - (sm z6) - (sm z8) + (sm z9) + (sm z11)) ((sm z1) + (sm z2) + (sm z4) - (sm z5) - (sm z7) - (sm z8) - (sm z10) + (sm z11))
theorem ltb43_ok (z0 : Int) (z1 : Int) (z2 : Int) (z3 : Int) (z4 : Int) (z5 : Int) (z6 : Int) (z7 : Int) (z8 : Int) (z9 : Int) (z10 : Int) (z11 : Int) : ltb43 z0 z1 z2 z3 z4 z5 z6 z7 z8 z9 z10 z11 := by
  unfold ltb43
  exact ⟨sm z0, sm z1, sm z2, sm z3, sm z4, sm z5, sm z6, sm z7, sm z8, sm z9, sm z10, sm z11, ⟨sm_bd z0, sm_bd z1, sm_bd z2, sm_bd z3, sm_bd z4, sm_bd z5, sm_bd z6, sm_bd z7, sm_bd z8, sm_bd z9, sm_bd z10, sm_bd z11⟩, rfl, rfl, rfl, rfl, rfl, rfl, rfl, rfl, rfl, rfl, rfl, rfl⟩
def ltb44 : Prop := (((IntKind.i64.wrap ((0 : Int) + (0 : Int))) != (0 : Int)) = false)
theorem ltb44_ok : ltb44 := by
  unfold ltb44
  first
    | rfl
    | decide
    | (simp; omega)
    | (first | omega | (and_intros <;> omega))
    | ((try simp (disch := omega) only [wi, Int.reduceAdd, Int.reduceSub, Int.reduceNeg, Int.reduceMul]); (try simp only [Bool.not_eq_false', Bool.and_eq_true, beq_iff_eq, and_true]); (try simp (disch := omega) only [wi, Int.reduceAdd, Int.reduceSub, Int.reduceNeg, Int.reduceMul]); and_intros <;> omega)
def ltb45 (z0 : Int) (z1 : Int) (z2 : Int) (z3 : Int) (z4 : Int) (z5 : Int) (z6 : Int) (z7 : Int) (z8 : Int) (z9 : Int) (z10 : Int) (z11 : Int) : Prop := ((Bool.not (Bool.and (Bool.and ((b6_0 ((((((sm z0) + (sm z2)) + (sm z4)) + (sm z6)) + (sm z8)) + (sm z10)) ((((((sm z1) + (sm z3)) + (sm z5)) + (sm z7)) + (sm z9)) + (sm z11)) ((((((((sm z0) + (sm z3)) - (sm z4)) + (sm z5)) - (sm z6)) - (sm z9)) + (sm z10)) - (sm z11)) ((((((((sm z1) - (sm z2)) + (sm z3)) - (sm z4)) - (sm z7)) + (sm z8)) - (sm z9)) + (sm z10)) ((((((((sm z0) - (sm z2)) + (sm z3)) - (sm z5)) + (sm z6)) - (sm z8)) + (sm z9)) - (sm z11)) ((((((((sm z1) - (sm z2)) + (sm z4)) - (sm z5)) + (sm z7)) - (sm z8)) + (sm z10)) - (sm z11)) ((((((sm z0) - (sm z2)) + (sm z4)) - (sm z6)) + (sm z8)) - (sm z10)) ((((((sm z1) - (sm z3)) + (sm z5)) - (sm z7)) + (sm z9)) - (sm z11)) ((((((((sm z0) - (sm z3)) - (sm z4)) + (sm z5)) + (sm z6)) - (sm z9)) - (sm z10)) + (sm z11)) ((((((((sm z1) + (sm z2)) - (sm z3)) - (sm z4)) + (sm z7)) + (sm z8)) - (sm z9)) - (sm z10)) ((((((((sm z0) + (sm z2)) - (sm z3)) - (sm z5)) - (sm z6)) - (sm z8)) + (sm z9)) + (sm z11)) ((((((((sm z1) + (sm z2)) + (sm z4)) - (sm z5)) - (sm z7)) - (sm z8)) - (sm z10)) + (sm z11))) == (sm z0)) (Bool.and ((b6_1 ((((((sm z0) + (sm z2)) + (sm z4)) + (sm z6)) + (sm z8)) + (sm z10)) ((((((sm z1) + (sm z3)) + (sm z5)) + (sm z7)) + (sm z9)) + (sm z11)) ((((((((sm z0) + (sm z3)) - (sm z4)) + (sm z5)) - (sm z6)) - (sm z9)) + (sm z10)) - (sm z11)) ((((((((sm z1) - (sm z2)) + (sm z3)) - (sm z4)) - (sm z7)) + (sm z8)) - (sm z9)) + (sm z10)) ((((((((sm z0) - (sm z2)) + (sm z3)) - (sm z5)) + (sm z6)) - (sm z8)) + (sm z9)) - (sm z11)) ((((((((sm z1) - (sm z2)) + (sm z4)) - (sm z5)) + (sm z7)) - (sm z8)) + (sm z10)) - (sm z11)) ((((((sm z0) - (sm z2)) + (sm z4)) - (sm z6)) + (sm z8)) - (sm z10)) ((((((sm z1) - (sm z3)) + (sm z5)) - (sm z7)) + (sm z9)) - (sm z11)) ((((((((sm z0) - (sm z3)) - (sm z4)) + (sm z5)) + (sm z6)) - (sm z9)) - (sm z10)) + (sm z11)) ((((((((sm z1) + (sm z2)) - (sm z3)) - (sm z4)) + (sm z7)) + (sm z8)) - (sm z9)) - (sm z10)) ((((((((sm z0) + (sm z2)) - (sm z3)) - (sm z5)) - (sm z6)) - (sm z8)) + (sm z9)) + (sm z11)) ((((((((sm z1) + (sm z2)) + (sm z4)) - (sm z5)) - (sm z7)) - (sm z8)) - (sm z10)) + (sm z11))) == (sm z1)) true)) (Bool.and (Bool.and ((b6_2 ((((((sm z0) + (sm z2)) + (sm z4)) + (sm z6)) + (sm z8)) + (sm z10)) ((((((sm z1) + (sm z3)) + (sm z5)) + (sm z7)) + (sm z9)) + (sm z11)) ((((((((sm z0) + (sm z3)) - (sm z4)) + (sm z5)) - (sm z6)) - (sm z9)) + (sm z10)) - (sm z11)) ((((((((sm z1) - (sm z2)) + (sm z3)) - (sm z4)) - (sm z7)) + (sm z8)) - (sm z9)) + (sm z10)) ((((((((sm z0) - (sm z2)) + (sm z3)) - (sm z5)) + (sm z6)) - (sm z8)) + (sm z9)) - (sm z11)) ((((((((sm z1) - (sm z2)) + (sm z4)) - (sm z5)) + (sm z7)) - (sm z8)) + (sm z10)) - (sm z11)) ((((((sm z0) - (sm z2)) + (sm z4)) - (sm z6)) + (sm z8)) - (sm z10)) ((((((sm z1) - (sm z3)) + (sm z5)) - (sm z7)) + (sm z9)) - (sm z11)) ((((((((sm z0) - (sm z3)) - (sm z4)) + (sm z5)) + (sm z6)) - (sm z9)) - (sm z10)) + (sm z11)) ((((((((sm z1) + (sm z2)) - (sm z3)) - (sm z4)) + (sm z7)) + (sm z8)) - (sm z9)) - (sm z10)) ((((((((sm z0) + (sm z2)) - (sm z3)) - (sm z5)) - (sm z6)) - (sm z8)) + (sm z9)) + (sm z11)) ((((((((sm z1) + (sm z2)) + (sm z4)) - (sm z5)) - (sm z7)) - (sm z8)) - (sm z10)) + (sm z11))) == (sm z2)) (Bool.and ((b6_3 ((((((sm z0) + (sm z2)) + (sm z4)) + (sm z6)) + (sm z8)) + (sm z10)) ((((((sm z1) + (sm z3)) + (sm z5)) + (sm z7)) + (sm z9)) + (sm z11)) ((((((((sm z0) + (sm z3)) - (sm z4)) + (sm z5)) - (sm z6)) - (sm z9)) + (sm z10)) - (sm z11)) ((((((((sm z1) - (sm z2)) + (sm z3)) - (sm z4)) - (sm z7)) + (sm z8)) - (sm z9)) + (sm z10)) ((((((((sm z0) - (sm z2)) + (sm z3)) - (sm z5)) + (sm z6)) - (sm z8)) + (sm z9)) - (sm z11)) ((((((((sm z1) - (sm z2)) + (sm z4)) - (sm z5)) + (sm z7)) - (sm z8)) + (sm z10)) - (sm z11)) ((((((sm z0) - (sm z2)) + (sm z4)) - (sm z6)) + (sm z8)) - (sm z10)) ((((((sm z1) - (sm z3)) + (sm z5)) - (sm z7)) + (sm z9)) - (sm z11)) ((((((((sm z0) - (sm z3)) - (sm z4)) + (sm z5)) + (sm z6)) - (sm z9)) - (sm z10)) + (sm z11)) ((((((((sm z1) + (sm z2)) - (sm z3)) - (sm z4)) + (sm z7)) + (sm z8)) - (sm z9)) - (sm z10)) ((((((((sm z0) + (sm z2)) - (sm z3)) - (sm z5)) - (sm z6)) - (sm z8)) + (sm z9)) + (sm z11)) ((((((((sm z1) + (sm z2)) + (sm z4)) - (sm z5)) - (sm z7)) - (sm z8)) - (sm z10)) + (sm z11))) == (sm z3)) true)) (Bool.and (Bool.and ((b6_4 ((((((sm z0) + (sm z2)) + (sm z4)) + (sm z6)) + (sm z8)) + (sm z10)) ((((((sm z1) + (sm z3)) + (sm z5)) + (sm z7)) + (sm z9)) + (sm z11)) ((((((((sm z0) + (sm z3)) - (sm z4)) + (sm z5)) - (sm z6)) - (sm z9)) + (sm z10)) - (sm z11)) ((((((((sm z1) - (sm z2)) + (sm z3)) - (sm z4)) - (sm z7)) + (sm z8)) - (sm z9)) + (sm z10)) ((((((((sm z0) - (sm z2)) + (sm z3)) - (sm z5)) + (sm z6)) - (sm z8)) + (sm z9)) - (sm z11)) ((((((((sm z1) - (sm z2)) + (sm z4)) - (sm z5)) + (sm z7)) - (sm z8)) + (sm z10)) - (sm z11)) ((((((sm z0) - (sm z2)) + (sm z4)) - (sm z6)) + (sm z8)) - (sm z10)) ((((((sm z1) - (sm z3)) + (sm z5)) - (sm z7)) + (sm z9)) - (sm z11)) ((((((((sm z0) - (sm z3)) - (sm z4)) + (sm z5)) + (sm z6)) - (sm z9)) - (sm z10)) + (sm z11)) ((((((((sm z1) + (sm z2)) - (sm z3)) - (sm z4)) + (sm z7)) + (sm z8)) - (sm z9)) - (sm z10)) ((((((((sm z0) + (sm z2)) - (sm z3)) - (sm z5)) - (sm z6)) - (sm z8)) + (sm z9)) + (sm z11)) ((((((((sm z1) + (sm z2)) + (sm z4)) - (sm z5)) - (sm z7)) - (sm z8)) - (sm z10)) + (sm z11))) == (sm z4)) (Bool.and ((b6_5 ((((((sm z0) + (sm z2)) + (sm z4)) + (sm z6)) + (sm z8)) + (sm z10)) ((((((sm z1) + (sm z3)) + (sm z5)) + (sm z7)) + (sm z9)) + (sm z11)) ((((((((sm z0) + (sm z3)) - (sm z4)) + (sm z5)) - (sm z6)) - (sm z9)) + (sm z10)) - (sm z11)) ((((((((sm z1) - (sm z2)) + (sm z3)) - (sm z4)) - (sm z7)) + (sm z8)) - (sm z9)) + (sm z10)) ((((((((sm z0) - (sm z2)) + (sm z3)) - (sm z5)) + (sm z6)) - (sm z8)) + (sm z9)) - (sm z11)) ((((((((sm z1) - (sm z2)) + (sm z4)) - (sm z5)) + (sm z7)) - (sm z8)) + (sm z10)) - (sm z11)) ((((((sm z0) - (sm z2)) + (sm z4)) - (sm z6)) + (sm z8)) - (sm z10)) ((((((sm z1) - (sm z3)) + (sm z5)) - (sm z7)) + (sm z9)) - (sm z11)) ((((((((sm z0) - (sm z3)) - (sm z4)) + (sm z5)) + (sm z6)) - (sm z9)) - (sm z10)) + (sm z11)) ((((((((sm z1) + (sm z2)) - (sm z3)) - (sm z4)) + (sm z7)) + (sm z8)) - (sm z9)) - (sm z10)) ((((((((sm z0) + (sm z2)) - (sm z3)) - (sm z5)) - (sm z6)) - (sm z8)) + (sm z9)) + (sm z11)) ((((((((sm z1) + (sm z2)) + (sm z4)) - (sm z5)) - (sm z7)) - (sm z8)) - (sm z10)) + (sm z11))) == (sm z5)) true)) (Bool.and (Bool.and ((b6_6 ((((((sm z0) + (sm z2)) + (sm z4)) + (sm z6)) + (sm z8)) + (sm z10)) ((((((sm z1) + (sm z3)) + (sm z5)) + (sm z7)) + (sm z9)) + (sm z11)) ((((((((sm z0) + (sm z3)) - (sm z4)) + (sm z5)) - (sm z6)) - (sm z9)) + (sm z10)) - (sm z11)) ((((((((sm z1) - (sm z2)) + (sm z3)) - (sm z4)) - (sm z7)) + (sm z8)) - (sm z9)) + (sm z10)) ((((((((sm z0) - (sm z2)) + (sm z3)) - (sm z5)) + (sm z6)) - (sm z8)) + (sm z9)) - (sm z11)) ((((((((sm z1) - (sm z2)) + (sm z4)) - (sm z5)) + (sm z7)) - (sm z8)) + (sm z10)) - (sm z11)) ((((((sm z0) - (sm z2)) + (sm z4)) - (sm z6)) + (sm z8)) - (sm z10)) ((((((sm z1) - (sm z3)) + (sm z5)) - (sm z7)) + (sm z9)) - (sm z11)) ((((((((sm z0) - (sm z3)) - (sm z4)) + (sm z5)) + (sm z6)) - (sm z9)) - (sm z10)) + (sm z11)) ((((((((sm z1) + (sm z2)) - (sm z3)) - (sm z4)) + (sm z7)) + (sm z8)) - (sm z9)) - (sm z10)) ((((((((sm z0) + (sm z2)) - (sm z3)) - (sm z5)) - (sm z6)) - (sm z8)) + (sm z9)) + (sm z11)) ((((((((sm z1) + (sm z2)) + (sm z4)) - (sm z5)) - (sm z7)) - (sm z8)) - (sm z10)) + (sm z11))) == (sm z6)) (Bool.and ((b6_7 ((((((sm z0) + (sm z2)) + (sm z4)) + (sm z6)) + (sm z8)) + (sm z10)) ((((((sm z1) + (sm z3)) + (sm z5)) + (sm z7)) + (sm z9)) + (sm z11)) ((((((((sm z0) + (sm z3)) - (sm z4)) + (sm z5)) - (sm z6)) - (sm z9)) + (sm z10)) - (sm z11)) ((((((((sm z1) - (sm z2)) + (sm z3)) - (sm z4)) - (sm z7)) + (sm z8)) - (sm z9)) + (sm z10)) ((((((((sm z0) - (sm z2)) + (sm z3)) - (sm z5)) + (sm z6)) - (sm z8)) + (sm z9)) - (sm z11)) ((((((((sm z1) - (sm z2)) + (sm z4)) - (sm z5)) + (sm z7)) - (sm z8)) + (sm z10)) - (sm z11)) ((((((sm z0) - (sm z2)) + (sm z4)) - (sm z6)) + (sm z8)) - (sm z10)) ((((((sm z1) - (sm z3)) + (sm z5)) - (sm z7)) + (sm z9)) - (sm z11)) ((((((((sm z0) - (sm z3)) - (sm z4)) + (sm z5)) + (sm z6)) - (sm z9)) - (sm z10)) + (sm z11)) ((((((((sm z1) + (sm z2)) - (sm z3)) - (sm z4)) + (sm z7)) + (sm z8)) - (sm z9)) - (sm z10)) ((((((((sm z0) + (sm z2)) - (sm z3)) - (sm z5)) - (sm z6)) - (sm z8)) + (sm z9)) + (sm z11)) ((((((((sm z1) + (sm z2)) + (sm z4)) - (sm z5)) - (sm z7)) - (sm z8)) - (sm z10)) + (sm z11))) == (sm z7)) true)) (Bool.and (Bool.and ((b6_8 ((((((sm z0) + (sm z2)) + (sm z4)) + (sm z6)) + (sm z8)) + (sm z10)) ((((((sm z1) + (sm z3)) + (sm z5)) + (sm z7)) + (sm z9)) + (sm z11)) ((((((((sm z0) + (sm z3)) - (sm z4)) + (sm z5)) - (sm z6)) - (sm z9)) + (sm z10)) - (sm z11)) ((((((((sm z1) - (sm z2)) + (sm z3)) - (sm z4)) - (sm z7)) + (sm z8)) - (sm z9)) + (sm z10)) ((((((((sm z0) - (sm z2)) + (sm z3)) - (sm z5)) + (sm z6)) - (sm z8)) + (sm z9)) - (sm z11)) ((((((((sm z1) - (sm z2)) + (sm z4)) - (sm z5)) + (sm z7)) - (sm z8)) + (sm z10)) - (sm z11)) ((((((sm z0) - (sm z2)) + (sm z4)) - (sm z6)) + (sm z8)) - (sm z10)) ((((((sm z1) - (sm z3)) + (sm z5)) - (sm z7)) + (sm z9)) - (sm z11)) ((((((((sm z0) - (sm z3)) - (sm z4)) + (sm z5)) + (sm z6)) - (sm z9)) - (sm z10)) + (sm z11)) ((((((((sm z1) + (sm z2)) - (sm z3)) - (sm z4)) + (sm z7)) + (sm z8)) - (sm z9)) - (sm z10)) ((((((((sm z0) + (sm z2)) - (sm z3)) - (sm z5)) - (sm z6)) - (sm z8)) + (sm z9)) + (sm z11)) ((((((((sm z1) + (sm z2)) + (sm z4)) - (sm z5)) - (sm z7)) - (sm z8)) - (sm z10)) + (sm z11))) == (sm z8)) (Bool.and ((b6_9 ((((((sm z0) + (sm z2)) + (sm z4)) + (sm z6)) + (sm z8)) + (sm z10)) ((((((sm z1) + (sm z3)) + (sm z5)) + (sm z7)) + (sm z9)) + (sm z11)) ((((((((sm z0) + (sm z3)) - (sm z4)) + (sm z5)) - (sm z6)) - (sm z9)) + (sm z10)) - (sm z11)) ((((((((sm z1) - (sm z2)) + (sm z3)) - (sm z4)) - (sm z7)) + (sm z8)) - (sm z9)) + (sm z10)) ((((((((sm z0) - (sm z2)) + (sm z3)) - (sm z5)) + (sm z6)) - (sm z8)) + (sm z9)) - (sm z11)) ((((((((sm z1) - (sm z2)) + (sm z4)) - (sm z5)) + (sm z7)) - (sm z8)) + (sm z10)) - (sm z11)) ((((((sm z0) - (sm z2)) + (sm z4)) - (sm z6)) + (sm z8)) - (sm z10)) ((((((sm z1) - (sm z3)) + (sm z5)) - (sm z7)) + (sm z9)) - (sm z11)) ((((((((sm z0) - (sm z3)) - (sm z4)) + (sm z5)) + (sm z6)) - (sm z9)) - (sm z10)) + (sm z11)) ((((((((sm z1) + (sm z2)) - (sm z3)) - (sm z4)) + (sm z7)) + (sm z8)) - (sm z9)) - (sm z10)) ((((((((sm z0) + (sm z2)) - (sm z3)) - (sm z5)) - (sm z6)) - (sm z8)) + (sm z9)) + (sm z11)) ((((((((sm z1) + (sm z2)) + (sm z4)) - (sm z5)) - (sm z7)) - (sm z8)) - (sm z10)) + (sm z11))) == (sm z9)) true)) (Bool.and (Bool.and ((b6_10 ((((((sm z0) + (sm z2)) + (sm z4)) + (sm z6)) + (sm z8)) + (sm z10)) ((((((sm z1) + (sm z3)) + (sm z5)) + (sm z7)) + (sm z9)) + (sm z11)) ((((((((sm z0) + (sm z3)) - (sm z4)) + (sm z5)) - (sm z6)) - (sm z9)) + (sm z10)) - (sm z11)) ((((((((sm z1) - (sm z2)) + (sm z3)) - (sm z4)) - (sm z7)) + (sm z8)) - (sm z9)) + (sm z10)) ((((((((sm z0) - (sm z2)) + (sm z3)) - (sm z5)) + (sm z6)) - (sm z8)) + (sm z9)) - (sm z11)) ((((((((sm z1) - (sm z2)) + (sm z4)) - (sm z5)) + (sm z7)) - (sm z8)) + (sm z10)) - (sm z11)) ((((((sm z0) - (sm z2)) + (sm z4)) - (sm z6)) + (sm z8)) - (sm z10)) ((((((sm z1) - (sm z3)) + (sm z5)) - (sm z7)) + (sm z9)) - (sm z11)) ((((((((sm z0) - (sm z3)) - (sm z4)) + (sm z5)) + (sm z6)) - (sm z9)) - (sm z10)) + (sm z11)) ((((((((sm z1) + (sm z2)) - (sm z3)) - (sm z4)) + (sm z7)) + (sm z8)) - (sm z9)) - (sm z10)) ((((((((sm z0) + (sm z2)) - (sm z3)) - (sm z5)) - (sm z6)) - (sm z8)) + (sm z9)) + (sm z11)) ((((((((sm z1) + (sm z2)) + (sm z4)) - (sm z5)) - (sm z7)) - (sm z8)) - (sm z10)) + (sm z11))) == (sm z10)) (Bool.and ((b6_11 ((((((sm z0) + (sm z2)) + (sm z4)) + (sm z6)) + (sm z8)) + (sm z10)) ((((((sm z1) + (sm z3)) + (sm z5)) + (sm z7)) + (sm z9)) + (sm z11)) ((((((((sm z0) + (sm z3)) - (sm z4)) + (sm z5)) - (sm z6)) - (sm z9)) + (sm z10)) - (sm z11)) ((((((((sm z1) - (sm z2)) + (sm z3)) - (sm z4)) - (sm z7)) + (sm z8)) - (sm z9)) + (sm z10)) ((((((((sm z0) - (sm z2)) + (sm z3)) - (sm z5)) + (sm z6)) - (sm z8)) + (sm z9)) - (sm z11)) ((((((((sm z1) - (sm z2)) + (sm z4)) - (sm z5)) + (sm z7)) - (sm z8)) + (sm z10)) - (sm z11)) ((((((sm z0) - (sm z2)) + (sm z4)) - (sm z6)) + (sm z8)) - (sm z10)) ((((((sm z1) - (sm z3)) + (sm z5)) - (sm z7)) + (sm z9)) - (sm z11)) ((((((((sm z0) - (sm z3)) - (sm z4)) + (sm z5)) + (sm z6)) - (sm z9)) - (sm z10)) + (sm z11)) ((((((((sm z1) + (sm z2)) - (sm z3)) - (sm z4)) + (sm z7)) + (sm z8)) - (sm z9)) - (sm z10)) ((((((((sm z0) + (sm z2)) - (sm z3)) - (sm z5)) - (sm z6)) - (sm z8)) + (sm z9)) + (sm z11)) ((((((((sm z1) + (sm z2)) + (sm z4)) - (sm z5)) - (sm z7)) - (sm z8)) - (sm z10)) + (sm z11))) == (sm z11)) true)) true))))))) = false)
theorem ltb45_ok (z0 : Int) (z1 : Int) (z2 : Int) (z3 : Int) (z4 : Int) (z5 : Int) (z6 : Int) (z7 : Int) (z8 : Int) (z9 : Int) (z10 : Int) (z11 : Int) : ltb45 z0 z1 z2 z3 z4 z5 z6 z7 z8 z9 z10 z11 := by
  unfold ltb45
  simp only [b6_0s, b6_1s, b6_2s, b6_3s, b6_4s, b6_5s, b6_6s, b6_7s, b6_8s, b6_9s, b6_10s, b6_11s, beq_self_eq_true, Bool.and_self, Bool.not_true]
def ltb46 (k : Int) : Prop := (((.int .i64 (Int.tmod k (6 : Int))) : Value) = (.int .i64 (Int.tmod k (6 : Nat))))
theorem ltb46_ok (k : Int) (hk : -128 ≤ k ∧ k ≤ 127) : ltb46 k := by
  unfold ltb46
  rfl
def ltb47 (k : Int) : Prop := (((.int .i64 (IntKind.i64.wrap ((Int.tmod k (6 : Nat)) + (6 : Int)))) : Value) = (.int .i64 ((Int.tmod k (6 : Nat)) + (6 : Int))))
theorem ltb47_ok (k : Int) (hk : -128 ≤ k ∧ k ≤ 127) : ltb47 k := by
  unfold ltb47
  show Value.int .i64 (IntKind.i64.wrap (k.tmod 6 + 6)) = Value.int .i64 (k.tmod 6 + 6)
  have h1 := Int.tmod_lt_of_pos k (b := 6) (by omega)
  have h2 := Int.lt_tmod_of_pos k (b := 6) (by omega)
  rw [wi _ (by omega)]
def ltb48 (k : Int) : Prop := (((.int .i64 (Int.tmod ((Int.tmod k (6 : Nat)) + (6 : Int)) (6 : Int))) : Value) = (.int .i64 (0 : Int)))
theorem ltb48_ok (k : Int) (hk : -128 ≤ k ∧ k ≤ 127) (hc : (k.tmod 6 + 6).tmod 6 = 0) : ltb48 k := by
  unfold ltb48
  exact congrArg (Value.int .i64) hc
def ltb49 : Prop := (((.int .i64 (IntKind.i64.wrap ((0 : Int) - (0 : Int)))) : Value) = (.int .i64 (0 : Int)))
theorem ltb49_ok : ltb49 := by
  unfold ltb49
  first | rfl | (refine congrArg (Value.int .i64) ?_; first | rfl | (rw [wi _ (by omega)]; done) | (rw [wi _ (by omega)]; omega) | omega)
def ltb50 (z0 : Int) (z1 : Int) : Prop := ((∀ (i : Nat), ((i < (6 : Nat)) → (((ltV (gL ((sm z0) :: ((sm z1) :: ((sm z0) :: ((sm z1) :: ((sm z0) :: ((sm z1) :: ((sm z0) :: ((sm z1) :: ((sm z0) :: ((sm z1) :: ((sm z0) :: ((sm z1) :: [])))))))))))) i (0 : Nat)) (gL ((sm z0) :: ((sm z1) :: ((sm z0) :: ((sm z1) :: ((sm z0) :: ((sm z1) :: ((sm z0) :: ((sm z1) :: ((sm z0) :: ((sm z1) :: ((sm z0) :: ((sm z1) :: [])))))))))))) i (1 : Nat))) = (0 : Int)) → (Bg (1099511627776 : Int) (gL ((sm z0) :: ((sm z1) :: ((sm z0) :: ((sm z1) :: ((sm z0) :: ((sm z1) :: ((sm z0) :: ((sm z1) :: ((sm z0) :: ((sm z1) :: ((sm z0) :: ((sm z1) :: [])))))))))))) i (0 : Nat)) (gL ((sm z0) :: ((sm z1) :: ((sm z0) :: ((sm z1) :: ((sm z0) :: ((sm z1) :: ((sm z0) :: ((sm z1) :: ((sm z0) :: ((sm z1) :: ((sm z0) :: ((sm z1) :: [])))))))))))) i (1 : Nat)))))) ∧ ((frErr ltV (6 : Nat) (gL ((sm z0) :: ((sm z1) :: ((sm z0) :: ((sm z1) :: ((sm z0) :: ((sm z1) :: ((sm z0) :: ((sm z1) :: ((sm z0) :: ((sm z1) :: ((sm z0) :: ((sm z1) :: []))))))))))))) (0 : Int)) = (Int.ofNat 0)))
theorem ltb50_ok (z0 : Int) (z1 : Int) : ltb50 z0 z1 := by
  unfold ltb50
  exact fr_six ⟨by decide, by decide⟩ (six_in ⟨sm_in _, sm_in _⟩ ⟨sm_in _, sm_in _⟩ ⟨sm_in _, sm_in _⟩ ⟨sm_in _, sm_in _⟩ ⟨sm_in _, sm_in _⟩ ⟨sm_in _, sm_in _⟩)
def ltb51 (z0 : Int) (z1 : Int) : Prop := ((((- (65536 : Int)) ≤ (((frP (sm z0) (sm z1) (0 : Int) (0 : Nat))).1).1) ∧ ((((frP (sm z0) (sm z1) (0 : Int) (0 : Nat))).1).1 ≤ (65536 : Int))) ∧ ((((- (65536 : Int)) ≤ (((frP (sm z0) (sm z1) (0 : Int) (0 : Nat))).1).2) ∧ ((((frP (sm z0) (sm z1) (0 : Int) (0 : Nat))).1).2 ≤ (65536 : Int))) ∧ ((((- (65536 : Int)) ≤ (((frP (sm z0) (sm z1) (0 : Int) 1)).1).1) ∧ ((((frP (sm z0) (sm z1) (0 : Int) 1)).1).1 ≤ (65536 : Int))) ∧ ((((- (65536 : Int)) ≤ (((frP (sm z0) (sm z1) (0 : Int) 1)).1).2) ∧ ((((frP (sm z0) (sm z1) (0 : Int) 1)).1).2 ≤ (65536 : Int))) ∧ ((((- (65536 : Int)) ≤ (((frP (sm z0) (sm z1) (0 : Int) 2)).1).1) ∧ ((((frP (sm z0) (sm z1) (0 : Int) 2)).1).1 ≤ (65536 : Int))) ∧ ((((- (65536 : Int)) ≤ (((frP (sm z0) (sm z1) (0 : Int) 2)).1).2) ∧ ((((frP (sm z0) (sm z1) (0 : Int) 2)).1).2 ≤ (65536 : Int))) ∧ ((((- (65536 : Int)) ≤ (((frP (sm z0) (sm z1) (0 : Int) 3)).1).1) ∧ ((((frP (sm z0) (sm z1) (0 : Int) 3)).1).1 ≤ (65536 : Int))) ∧ ((((- (65536 : Int)) ≤ (((frP (sm z0) (sm z1) (0 : Int) 3)).1).2) ∧ ((((frP (sm z0) (sm z1) (0 : Int) 3)).1).2 ≤ (65536 : Int))) ∧ ((((- (65536 : Int)) ≤ (((frP (sm z0) (sm z1) (0 : Int) 4)).1).1) ∧ ((((frP (sm z0) (sm z1) (0 : Int) 4)).1).1 ≤ (65536 : Int))) ∧ ((((- (65536 : Int)) ≤ (((frP (sm z0) (sm z1) (0 : Int) 4)).1).2) ∧ ((((frP (sm z0) (sm z1) (0 : Int) 4)).1).2 ≤ (65536 : Int))) ∧ ((((- (65536 : Int)) ≤ (((frP (sm z0) (sm z1) (0 : Int) 5)).1).1) ∧ ((((frP (sm z0) (sm z1) (0 : Int) 5)).1).1 ≤ (65536 : Int))) ∧ (((- (65536 : Int)) ≤ (((frP (sm z0) (sm z1) (0 : Int) 5)).1).2) ∧ ((((frP (sm z0) (sm z1) (0 : Int) 5)).1).2 ≤ (65536 : Int))))))))))))))
theorem ltb51_ok (z0 : Int) (z1 : Int) : ltb51 z0 z1 := by
  unfold ltb51
  have s0 := sm_bd z0
  have s1 := sm_bd z1
  first
    | rfl
    | decide
    | (simp; omega)
    | (first | omega | (and_intros <;> omega))
    | ((try simp (disch := omega) only [wi, Int.reduceAdd, Int.reduceSub, Int.reduceNeg, Int.reduceMul]); (try simp only [fq_1_0, fq_1_1, fq_1_2, fq_1_3, fq_1_4, fq_1_5, fq_0_0, fq_0_1, fq_0_2, fq_0_3, fq_0_4, fq_0_5, fq_m1_0, fq_m1_1, fq_m1_2, fq_m1_3, fq_m1_4, fq_m1_5, fq_m2_0, fq_m2_1, fq_m2_2, fq_m2_3, fq_m2_4, fq_m2_5, fq_m3_0, fq_m3_1, fq_m3_2, fq_m3_3, fq_m3_4, fq_m3_5, fq_m4_0, fq_m4_1, fq_m4_2, fq_m4_3, fq_m4_4, fq_m4_5, fq_m5_0, fq_m5_1, fq_m5_2, fq_m5_3, fq_m5_4, fq_m5_5]); (try simp only [tw0, tw1, tw2, tw3, tw4, tw5, twm1, twm2, twm3, twm4, twm5]); (try simp only [Bool.not_eq_false', Bool.and_eq_true, beq_iff_eq, and_true]); (try simp (disch := omega) only [wi, Int.reduceAdd, Int.reduceSub, Int.reduceNeg, Int.reduceMul]); and_intros <;> omega)
def ltb52 (z0 : Int) (z1 : Int) : Prop := (((- (1048576 : Int)) ≤ (sm z0)) ∧ (((sm z0) ≤ (1048576 : Int)) ∧ (((- (1048576 : Int)) ≤ (sm z1)) ∧ ((sm z1) ≤ (1048576 : Int)))))
theorem ltb52_ok (z0 : Int) (z1 : Int) : ltb52 z0 z1 := by
  unfold ltb52
  have s0 := sm_bd z0
  have s1 := sm_bd z1
  first
    | rfl
    | decide
    | (simp; omega)
    | (first | omega | (and_intros <;> omega))
    | ((try simp (disch := omega) only [wi, Int.reduceAdd, Int.reduceSub, Int.reduceNeg, Int.reduceMul]); (try simp only [Bool.not_eq_false', Bool.and_eq_true, beq_iff_eq, and_true]); (try simp (disch := omega) only [wi, Int.reduceAdd, Int.reduceSub, Int.reduceNeg, Int.reduceMul]); and_intros <;> omega)
def ltb53 (z0 : Int) (z1 : Int) (z2 : Int) (z3 : Int) (z4 : Int) (z5 : Int) (z6 : Int) (z7 : Int) (z8 : Int) (z9 : Int) (z10 : Int) (z11 : Int) : Prop := (((- (1048576 : Int)) ≤ ((((((sm z0) + (sm z2)) + (sm z4)) + (sm z6)) + (sm z8)) + (sm z10))) ∧ ((((((((sm z0) + (sm z2)) + (sm z4)) + (sm z6)) + (sm z8)) + (sm z10)) ≤ (1048576 : Int)) ∧ (((- (1048576 : Int)) ≤ ((((((sm z1) + (sm z3)) + (sm z5)) + (sm z7)) + (sm z9)) + (sm z11))) ∧ (((((((sm z1) + (sm z3)) + (sm z5)) + (sm z7)) + (sm z9)) + (sm z11)) ≤ (1048576 : Int)))))
theorem ltb53_ok (z0 : Int) (z1 : Int) (z2 : Int) (z3 : Int) (z4 : Int) (z5 : Int) (z6 : Int) (z7 : Int) (z8 : Int) (z9 : Int) (z10 : Int) (z11 : Int) : ltb53 z0 z1 z2 z3 z4 z5 z6 z7 z8 z9 z10 z11 := by
  unfold ltb53
  have s0 := sm_bd z0
  have s1 := sm_bd z1
  have s2 := sm_bd z2
  have s3 := sm_bd z3
  have s4 := sm_bd z4
  have s5 := sm_bd z5
  have s6 := sm_bd z6
  have s7 := sm_bd z7
  have s8 := sm_bd z8
  have s9 := sm_bd z9
  have s10 := sm_bd z10
  have s11 := sm_bd z11
  first
    | rfl
    | decide
    | (simp; omega)
    | (first | omega | (and_intros <;> omega))
    | ((try simp (disch := omega) only [wi, Int.reduceAdd, Int.reduceSub, Int.reduceNeg, Int.reduceMul]); (try simp only [Bool.not_eq_false', Bool.and_eq_true, beq_iff_eq, and_true]); (try simp (disch := omega) only [wi, Int.reduceAdd, Int.reduceSub, Int.reduceNeg, Int.reduceMul]); and_intros <;> omega)
def ltb54 (z0 : Int) (z1 : Int) (z2 : Int) (z3 : Int) (z4 : Int) (z5 : Int) (z6 : Int) (z7 : Int) (z8 : Int) (z9 : Int) (z10 : Int) (z11 : Int) : Prop := ((((- (524288 : Int)) ≤ ((((((sm z0) + (sm z2)) + (sm z4)) + (sm z6)) + (sm z8)) + (sm z10))) ∧ (((((((sm z0) + (sm z2)) + (sm z4)) + (sm z6)) + (sm z8)) + (sm z10)) ≤ (524288 : Int))) ∧ ((((- (524288 : Int)) ≤ ((((((sm z1) + (sm z3)) + (sm z5)) + (sm z7)) + (sm z9)) + (sm z11))) ∧ (((((((sm z1) + (sm z3)) + (sm z5)) + (sm z7)) + (sm z9)) + (sm z11)) ≤ (524288 : Int))) ∧ (((- (1000000 : Int)) ≤ (IntKind.i64.wrap ((0 : Int) - (0 : Int)))) ∧ ((IntKind.i64.wrap ((0 : Int) - (0 : Int))) ≤ (1000000 : Int)))))
theorem ltb54_ok (z0 : Int) (z1 : Int) (z2 : Int) (z3 : Int) (z4 : Int) (z5 : Int) (z6 : Int) (z7 : Int) (z8 : Int) (z9 : Int) (z10 : Int) (z11 : Int) : ltb54 z0 z1 z2 z3 z4 z5 z6 z7 z8 z9 z10 z11 := by
  unfold ltb54
  have s0 := sm_bd z0
  have s1 := sm_bd z1
  have s2 := sm_bd z2
  have s3 := sm_bd z3
  have s4 := sm_bd z4
  have s5 := sm_bd z5
  have s6 := sm_bd z6
  have s7 := sm_bd z7
  have s8 := sm_bd z8
  have s9 := sm_bd z9
  have s10 := sm_bd z10
  have s11 := sm_bd z11
  first
    | rfl
    | decide
    | (simp; omega)
    | (first | omega | (and_intros <;> omega))
    | ((try simp (disch := omega) only [wi, Int.reduceAdd, Int.reduceSub, Int.reduceNeg, Int.reduceMul]); (try simp only [Bool.not_eq_false', Bool.and_eq_true, beq_iff_eq, and_true]); (try simp (disch := omega) only [wi, Int.reduceAdd, Int.reduceSub, Int.reduceNeg, Int.reduceMul]); and_intros <;> omega)
def ltb55 : Prop := (((0 : Int) == (0 : Int)) = true)
theorem ltb55_ok : ltb55 := by
  unfold ltb55
  first
    | rfl
    | decide
    | (simp; omega)
    | (first | omega | (and_intros <;> omega))
    | ((try simp (disch := omega) only [wi, Int.reduceAdd, Int.reduceSub, Int.reduceNeg, Int.reduceMul]); (try simp only [Bool.not_eq_false', Bool.and_eq_true, beq_iff_eq, and_true]); (try simp (disch := omega) only [wi, Int.reduceAdd, Int.reduceSub, Int.reduceNeg, Int.reduceMul]); and_intros <;> omega)
def ltb56 (z0 : Int) (z1 : Int) (z2 : Int) (z3 : Int) (z4 : Int) (z5 : Int) (z6 : Int) (z7 : Int) (z8 : Int) (z9 : Int) (z10 : Int) (z11 : Int) : Prop := ((Bool.not (Bool.and (((((((((frP (sm z0) (sm z1) (1 : Int) (0 : Nat))).1).1 + (((frP (sm z2) (sm z3) (1 : Int) 1)).1).1) + (((frP (sm z4) (sm z5) (1 : Int) 2)).1).1) + (((frP (sm z6) (sm z7) (1 : Int) 3)).1).1) + (((frP (sm z8) (sm z9) (1 : Int) 4)).1).1) + (((frP (sm z10) (sm z11) (1 : Int) 5)).1).1) == ((((((((sm z0) + (sm z3)) - (sm z4)) + (sm z5)) - (sm z6)) - (sm z9)) + (sm z10)) - (sm z11))) (Bool.and (((((((((frP (sm z0) (sm z1) (1 : Int) (0 : Nat))).1).2 + (((frP (sm z2) (sm z3) (1 : Int) 1)).1).2) + (((frP (sm z4) (sm z5) (1 : Int) 2)).1).2) + (((frP (sm z6) (sm z7) (1 : Int) 3)).1).2) + (((frP (sm z8) (sm z9) (1 : Int) 4)).1).2) + (((frP (sm z10) (sm z11) (1 : Int) 5)).1).2) == ((((((((sm z1) - (sm z2)) + (sm z3)) - (sm z4)) - (sm z7)) + (sm z8)) - (sm z9)) + (sm z10))) true))) = false)
theorem ltb56_ok (z0 : Int) (z1 : Int) (z2 : Int) (z3 : Int) (z4 : Int) (z5 : Int) (z6 : Int) (z7 : Int) (z8 : Int) (z9 : Int) (z10 : Int) (z11 : Int) : ltb56 z0 z1 z2 z3 z4 z5 z6 z7 z8 z9 z10 z11 := by
  unfold ltb56
  have s0 := sm_bd z0
  have s1 := sm_bd z1
  have s2 := sm_bd z2
  have s3 := sm_bd z3
  have s4 := sm_bd z4
  have s5 := sm_bd z5
  have s6 := sm_bd z6
  have s7 := sm_bd z7
  have s8 := sm_bd z8
  have s9 := sm_bd z9
  have s10 := sm_bd z10
  have s11 := sm_bd z11
  first
    | rfl
    | decide
    | (simp; omega)
    | (first | omega | (and_intros <;> omega))
    | ((try simp (disch := omega) only [wi, Int.reduceAdd, Int.reduceSub, Int.reduceNeg, Int.reduceMul]); (try simp only [fq_1_0, fq_1_1, fq_1_2, fq_1_3, fq_1_4, fq_1_5, fq_0_0, fq_0_1, fq_0_2, fq_0_3, fq_0_4, fq_0_5, fq_m1_0, fq_m1_1, fq_m1_2, fq_m1_3, fq_m1_4, fq_m1_5, fq_m2_0, fq_m2_1, fq_m2_2, fq_m2_3, fq_m2_4, fq_m2_5, fq_m3_0, fq_m3_1, fq_m3_2, fq_m3_3, fq_m3_4, fq_m3_5, fq_m4_0, fq_m4_1, fq_m4_2, fq_m4_3, fq_m4_4, fq_m4_5, fq_m5_0, fq_m5_1, fq_m5_2, fq_m5_3, fq_m5_4, fq_m5_5]); (try simp only [tw0, tw1, tw2, tw3, tw4, tw5, twm1, twm2, twm3, twm4, twm5]); (try simp only [Bool.not_eq_false', Bool.and_eq_true, beq_iff_eq, and_true]); (try simp (disch := omega) only [wi, Int.reduceAdd, Int.reduceSub, Int.reduceNeg, Int.reduceMul]); and_intros <;> omega)
def ltb57 (z0 : Int) (z1 : Int) (z2 : Int) (z3 : Int) (z4 : Int) (z5 : Int) (z6 : Int) (z7 : Int) (z8 : Int) (z9 : Int) (z10 : Int) (z11 : Int) : Prop := ((Bool.not (Bool.and (((((((sm z10) + (sm z0)) + (sm z2)) + (sm z4)) + (sm z6)) + (sm z8)) == ((Pl.turn (((((((sm z0) + (sm z2)) + (sm z4)) + (sm z6)) + (sm z8)) + (sm z10)), ((((((sm z1) + (sm z3)) + (sm z5)) + (sm z7)) + (sm z9)) + (sm z11))) (IntKind.i64.wrap ((0 : Int) - (0 : Int))))).1) (Bool.and (((((((sm z11) + (sm z1)) + (sm z3)) + (sm z5)) + (sm z7)) + (sm z9)) == ((Pl.turn (((((((sm z0) + (sm z2)) + (sm z4)) + (sm z6)) + (sm z8)) + (sm z10)), ((((((sm z1) + (sm z3)) + (sm z5)) + (sm z7)) + (sm z9)) + (sm z11))) (IntKind.i64.wrap ((0 : Int) - (0 : Int))))).2) true))) = false)
theorem ltb57_ok (z0 : Int) (z1 : Int) (z2 : Int) (z3 : Int) (z4 : Int) (z5 : Int) (z6 : Int) (z7 : Int) (z8 : Int) (z9 : Int) (z10 : Int) (z11 : Int) : ltb57 z0 z1 z2 z3 z4 z5 z6 z7 z8 z9 z10 z11 := by
  unfold ltb57
  have s0 := sm_bd z0
  have s1 := sm_bd z1
  have s2 := sm_bd z2
  have s3 := sm_bd z3
  have s4 := sm_bd z4
  have s5 := sm_bd z5
  have s6 := sm_bd z6
  have s7 := sm_bd z7
  have s8 := sm_bd z8
  have s9 := sm_bd z9
  have s10 := sm_bd z10
  have s11 := sm_bd z11
  first
    | rfl
    | decide
    | (simp; omega)
    | (first | omega | (and_intros <;> omega))
    | ((try simp (disch := omega) only [wi, Int.reduceAdd, Int.reduceSub, Int.reduceNeg, Int.reduceMul]); (try simp only [tw0, tw1, tw2, tw3, tw4, tw5, twm1, twm2, twm3, twm4, twm5]); (try simp only [Bool.not_eq_false', Bool.and_eq_true, beq_iff_eq, and_true]); (try simp (disch := omega) only [wi, Int.reduceAdd, Int.reduceSub, Int.reduceNeg, Int.reduceMul]); and_intros <;> omega)
def ltb58 (z0 : Int) (z1 : Int) : Prop := ((Bool.not (Bool.and (((((((((frP (sm z0) (sm z1) (0 : Int) (0 : Nat))).1).1 + (((frP (sm z0) (sm z1) (0 : Int) 1)).1).1) + (((frP (sm z0) (sm z1) (0 : Int) 2)).1).1) + (((frP (sm z0) (sm z1) (0 : Int) 3)).1).1) + (((frP (sm z0) (sm z1) (0 : Int) 4)).1).1) + (((frP (sm z0) (sm z1) (0 : Int) 5)).1).1) == (IntKind.i64.wrap ((6 : Int) * (sm z0)))) (Bool.and (((((((((frP (sm z0) (sm z1) (0 : Int) (0 : Nat))).1).2 + (((frP (sm z0) (sm z1) (0 : Int) 1)).1).2) + (((frP (sm z0) (sm z1) (0 : Int) 2)).1).2) + (((frP (sm z0) (sm z1) (0 : Int) 3)).1).2) + (((frP (sm z0) (sm z1) (0 : Int) 4)).1).2) + (((frP (sm z0) (sm z1) (0 : Int) 5)).1).2) == (IntKind.i64.wrap ((6 : Int) * (sm z1)))) true))) = false)
theorem ltb58_ok (z0 : Int) (z1 : Int) : ltb58 z0 z1 := by
  unfold ltb58
  have s0 := sm_bd z0
  have s1 := sm_bd z1
  first
    | rfl
    | decide
    | (simp; omega)
    | (first | omega | (and_intros <;> omega))
    | ((try simp (disch := omega) only [wi, Int.reduceAdd, Int.reduceSub, Int.reduceNeg, Int.reduceMul]); (try simp only [fq_1_0, fq_1_1, fq_1_2, fq_1_3, fq_1_4, fq_1_5, fq_0_0, fq_0_1, fq_0_2, fq_0_3, fq_0_4, fq_0_5, fq_m1_0, fq_m1_1, fq_m1_2, fq_m1_3, fq_m1_4, fq_m1_5, fq_m2_0, fq_m2_1, fq_m2_2, fq_m2_3, fq_m2_4, fq_m2_5, fq_m3_0, fq_m3_1, fq_m3_2, fq_m3_3, fq_m3_4, fq_m3_5, fq_m4_0, fq_m4_1, fq_m4_2, fq_m4_3, fq_m4_4, fq_m4_5, fq_m5_0, fq_m5_1, fq_m5_2, fq_m5_3, fq_m5_4, fq_m5_5]); (try simp only [tw0, tw1, tw2, tw3, tw4, tw5, twm1, twm2, twm3, twm4, twm5]); (try simp only [Bool.not_eq_false', Bool.and_eq_true, beq_iff_eq, and_true]); (try simp (disch := omega) only [wi, Int.reduceAdd, Int.reduceSub, Int.reduceNeg, Int.reduceMul]); and_intros <;> omega)
def ltb59 (z2 : Int) (z3 : Int) : Prop := (((- (1048576 : Int)) ≤ (sm z2)) ∧ (((sm z2) ≤ (1048576 : Int)) ∧ (((- (1048576 : Int)) ≤ (sm z3)) ∧ ((sm z3) ≤ (1048576 : Int)))))
theorem ltb59_ok (z2 : Int) (z3 : Int) : ltb59 z2 z3 := by
  unfold ltb59
  have s2 := sm_bd z2
  have s3 := sm_bd z3
  first
    | rfl
    | decide
    | (simp; omega)
    | (first | omega | (and_intros <;> omega))
    | ((try simp (disch := omega) only [wi, Int.reduceAdd, Int.reduceSub, Int.reduceNeg, Int.reduceMul]); (try simp only [Bool.not_eq_false', Bool.and_eq_true, beq_iff_eq, and_true]); (try simp (disch := omega) only [wi, Int.reduceAdd, Int.reduceSub, Int.reduceNeg, Int.reduceMul]); and_intros <;> omega)
def ltb60 (z0 : Int) (z1 : Int) (z2 : Int) (z3 : Int) (z4 : Int) (z5 : Int) (z6 : Int) (z7 : Int) (z8 : Int) (z9 : Int) (z10 : Int) (z11 : Int) : Prop := (((- (1048576 : Int)) ≤ ((((((((sm z0) + (sm z3)) - (sm z4)) + (sm z5)) - (sm z6)) - (sm z9)) + (sm z10)) - (sm z11))) ∧ ((((((((((sm z0) + (sm z3)) - (sm z4)) + (sm z5)) - (sm z6)) - (sm z9)) + (sm z10)) - (sm z11)) ≤ (1048576 : Int)) ∧ (((- (1048576 : Int)) ≤ ((((((((sm z1) - (sm z2)) + (sm z3)) - (sm z4)) - (sm z7)) + (sm z8)) - (sm z9)) + (sm z10))) ∧ (((((((((sm z1) - (sm z2)) + (sm z3)) - (sm z4)) - (sm z7)) + (sm z8)) - (sm z9)) + (sm z10)) ≤ (1048576 : Int)))))
theorem ltb60_ok (z0 : Int) (z1 : Int) (z2 : Int) (z3 : Int) (z4 : Int) (z5 : Int) (z6 : Int) (z7 : Int) (z8 : Int) (z9 : Int) (z10 : Int) (z11 : Int) : ltb60 z0 z1 z2 z3 z4 z5 z6 z7 z8 z9 z10 z11 := by
  unfold ltb60
  have s0 := sm_bd z0
  have s1 := sm_bd z1
  have s2 := sm_bd z2
  have s3 := sm_bd z3
  have s4 := sm_bd z4
  have s5 := sm_bd z5
  have s6 := sm_bd z6
  have s7 := sm_bd z7
  have s8 := sm_bd z8
  have s9 := sm_bd z9
  have s10 := sm_bd z10
  have s11 := sm_bd z11
  first
    | rfl
    | decide
    | (simp; omega)
    | (first | omega | (and_intros <;> omega))
    | ((try simp (disch := omega) only [wi, Int.reduceAdd, Int.reduceSub, Int.reduceNeg, Int.reduceMul]); (try simp only [Bool.not_eq_false', Bool.and_eq_true, beq_iff_eq, and_true]); (try simp (disch := omega) only [wi, Int.reduceAdd, Int.reduceSub, Int.reduceNeg, Int.reduceMul]); and_intros <;> omega)
def ltb61 (z0 : Int) (z1 : Int) (z2 : Int) (z3 : Int) (z4 : Int) (z5 : Int) (z6 : Int) (z7 : Int) (z8 : Int) (z9 : Int) (z10 : Int) (z11 : Int) : Prop := ((((- (524288 : Int)) ≤ ((((((((sm z0) + (sm z3)) - (sm z4)) + (sm z5)) - (sm z6)) - (sm z9)) + (sm z10)) - (sm z11))) ∧ (((((((((sm z0) + (sm z3)) - (sm z4)) + (sm z5)) - (sm z6)) - (sm z9)) + (sm z10)) - (sm z11)) ≤ (524288 : Int))) ∧ ((((- (524288 : Int)) ≤ ((((((((sm z1) - (sm z2)) + (sm z3)) - (sm z4)) - (sm z7)) + (sm z8)) - (sm z9)) + (sm z10))) ∧ (((((((((sm z1) - (sm z2)) + (sm z3)) - (sm z4)) - (sm z7)) + (sm z8)) - (sm z9)) + (sm z10)) ≤ (524288 : Int))) ∧ (((- (1000000 : Int)) ≤ (IntKind.i64.wrap ((0 : Int) - (IntKind.i64.wrap ((0 : Int) + (1 : Int)))))) ∧ ((IntKind.i64.wrap ((0 : Int) - (IntKind.i64.wrap ((0 : Int) + (1 : Int))))) ≤ (1000000 : Int)))))
theorem ltb61_ok (z0 : Int) (z1 : Int) (z2 : Int) (z3 : Int) (z4 : Int) (z5 : Int) (z6 : Int) (z7 : Int) (z8 : Int) (z9 : Int) (z10 : Int) (z11 : Int) : ltb61 z0 z1 z2 z3 z4 z5 z6 z7 z8 z9 z10 z11 := by
  unfold ltb61
  have s0 := sm_bd z0
  have s1 := sm_bd z1
  have s2 := sm_bd z2
  have s3 := sm_bd z3
  have s4 := sm_bd z4
  have s5 := sm_bd z5
  have s6 := sm_bd z6
  have s7 := sm_bd z7
  have s8 := sm_bd z8
  have s9 := sm_bd z9
  have s10 := sm_bd z10
  have s11 := sm_bd z11
  first
    | rfl
    | decide
    | (simp; omega)
    | (first | omega | (and_intros <;> omega))
    | ((try simp (disch := omega) only [wi, Int.reduceAdd, Int.reduceSub, Int.reduceNeg, Int.reduceMul]); (try simp only [Bool.not_eq_false', Bool.and_eq_true, beq_iff_eq, and_true]); (try simp (disch := omega) only [wi, Int.reduceAdd, Int.reduceSub, Int.reduceNeg, Int.reduceMul]); and_intros <;> omega)
def ltb62 : Prop := (((IntKind.i64.wrap ((0 : Int) + (1 : Int))) == (0 : Int)) = false)
theorem ltb62_ok : ltb62 := by
  unfold ltb62
  first
    | rfl
    | decide
    | (simp; omega)
    | (first | omega | (and_intros <;> omega))
    | ((try simp (disch := omega) only [wi, Int.reduceAdd, Int.reduceSub, Int.reduceNeg, Int.reduceMul]); (try simp only [Bool.not_eq_false', Bool.and_eq_true, beq_iff_eq, and_true]); (try simp (disch := omega) only [wi, Int.reduceAdd, Int.reduceSub, Int.reduceNeg, Int.reduceMul]); and_intros <;> omega)
def ltb63 (z0 : Int) (z1 : Int) (z2 : Int) (z3 : Int) (z4 : Int) (z5 : Int) (z6 : Int) (z7 : Int) (z8 : Int) (z9 : Int) (z10 : Int) (z11 : Int) : Prop := ((Bool.not (Bool.and (((((((((((frP (sm z0) (sm z1) (1 : Int) (0 : Nat))).1).1 + (((frP (sm z2) (sm z3) (1 : Int) 1)).1).2) - (((frP (sm z4) (sm z5) (1 : Int) 2)).1).1) + (((frP (sm z4) (sm z5) (1 : Int) 2)).1).2) - (((frP (sm z6) (sm z7) (1 : Int) 3)).1).1) - (((frP (sm z8) (sm z9) (1 : Int) 4)).1).2) + (((frP (sm z10) (sm z11) (1 : Int) 5)).1).1) - (((frP (sm z10) (sm z11) (1 : Int) 5)).1).2) == ((((((((sm z0) - (sm z2)) + (sm z3)) - (sm z5)) + (sm z6)) - (sm z8)) + (sm z9)) - (sm z11))) (Bool.and (((((((((((frP (sm z0) (sm z1) (1 : Int) (0 : Nat))).1).2 - (((frP (sm z2) (sm z3) (1 : Int) 1)).1).1) + (((frP (sm z2) (sm z3) (1 : Int) 1)).1).2) - (((frP (sm z4) (sm z5) (1 : Int) 2)).1).1) - (((frP (sm z6) (sm z7) (1 : Int) 3)).1).2) + (((frP (sm z8) (sm z9) (1 : Int) 4)).1).1) - (((frP (sm z8) (sm z9) (1 : Int) 4)).1).2) + (((frP (sm z10) (sm z11) (1 : Int) 5)).1).1) == ((((((((sm z1) - (sm z2)) + (sm z4)) - (sm z5)) + (sm z7)) - (sm z8)) + (sm z10)) - (sm z11))) true))) = false)
theorem ltb63_ok (z0 : Int) (z1 : Int) (z2 : Int) (z3 : Int) (z4 : Int) (z5 : Int) (z6 : Int) (z7 : Int) (z8 : Int) (z9 : Int) (z10 : Int) (z11 : Int) : ltb63 z0 z1 z2 z3 z4 z5 z6 z7 z8 z9 z10 z11 := by
  unfold ltb63
  have s0 := sm_bd z0
  have s1 := sm_bd z1
  have s2 := sm_bd z2
  have s3 := sm_bd z3
  have s4 := sm_bd z4
  have s5 := sm_bd z5
  have s6 := sm_bd z6
  have s7 := sm_bd z7
  have s8 := sm_bd z8
  have s9 := sm_bd z9
  have s10 := sm_bd z10
  have s11 := sm_bd z11
  first
    | rfl
    | decide
    | (simp; omega)
    | (first | omega | (and_intros <;> omega))
    | ((try simp (disch := omega) only [wi, Int.reduceAdd, Int.reduceSub, Int.reduceNeg, Int.reduceMul]); (try simp only [fq_1_0, fq_1_1, fq_1_2, fq_1_3, fq_1_4, fq_1_5, fq_0_0, fq_0_1, fq_0_2, fq_0_3, fq_0_4, fq_0_5, fq_m1_0, fq_m1_1, fq_m1_2, fq_m1_3, fq_m1_4, fq_m1_5, fq_m2_0, fq_m2_1, fq_m2_2, fq_m2_3, fq_m2_4, fq_m2_5, fq_m3_0, fq_m3_1, fq_m3_2, fq_m3_3, fq_m3_4, fq_m3_5, fq_m4_0, fq_m4_1, fq_m4_2, fq_m4_3, fq_m4_4, fq_m4_5, fq_m5_0, fq_m5_1, fq_m5_2, fq_m5_3, fq_m5_4, fq_m5_5]); (try simp only [tw0, tw1, tw2, tw3, tw4, tw5, twm1, twm2, twm3, twm4, twm5]); (try simp only [Bool.not_eq_false', Bool.and_eq_true, beq_iff_eq, and_true]); (try simp (disch := omega) only [wi, Int.reduceAdd, Int.reduceSub, Int.reduceNeg, Int.reduceMul]); and_intros <;> omega)
def ltb64 (z0 : Int) (z1 : Int) (z2 : Int) (z3 : Int) (z4 : Int) (z5 : Int) (z6 : Int) (z7 : Int) (z8 : Int) (z9 : Int) (z10 : Int) (z11 : Int) : Prop := ((Bool.not (Bool.and (((((((((sm z10) + (sm z1)) - (sm z2)) + (sm z3)) - (sm z4)) - (sm z7)) + (sm z8)) - (sm z9)) == ((Pl.turn (((((((((sm z0) + (sm z3)) - (sm z4)) + (sm z5)) - (sm z6)) - (sm z9)) + (sm z10)) - (sm z11)), ((((((((sm z1) - (sm z2)) + (sm z3)) - (sm z4)) - (sm z7)) + (sm z8)) - (sm z9)) + (sm z10))) (IntKind.i64.wrap ((0 : Int) - (IntKind.i64.wrap ((0 : Int) + (1 : Int))))))).1) (Bool.and (((((((((sm z11) - (sm z0)) + (sm z1)) - (sm z2)) - (sm z5)) + (sm z6)) - (sm z7)) + (sm z8)) == ((Pl.turn (((((((((sm z0) + (sm z3)) - (sm z4)) + (sm z5)) - (sm z6)) - (sm z9)) + (sm z10)) - (sm z11)), ((((((((sm z1) - (sm z2)) + (sm z3)) - (sm z4)) - (sm z7)) + (sm z8)) - (sm z9)) + (sm z10))) (IntKind.i64.wrap ((0 : Int) - (IntKind.i64.wrap ((0 : Int) + (1 : Int))))))).2) true))) = false)
theorem ltb64_ok (z0 : Int) (z1 : Int) (z2 : Int) (z3 : Int) (z4 : Int) (z5 : Int) (z6 : Int) (z7 : Int) (z8 : Int) (z9 : Int) (z10 : Int) (z11 : Int) : ltb64 z0 z1 z2 z3 z4 z5 z6 z7 z8 z9 z10 z11 := by
  unfold ltb64
  have s0 := sm_bd z0
  have s1 := sm_bd z1
  have s2 := sm_bd z2
  have s3 := sm_bd z3
  have s4 := sm_bd z4
  have s5 := sm_bd z5
  have s6 := sm_bd z6
  have s7 := sm_bd z7
  have s8 := sm_bd z8
  have s9 := sm_bd z9
  have s10 := sm_bd z10
  have s11 := sm_bd z11
  first
    | rfl
    | decide
    | (simp; omega)
    | (first | omega | (and_intros <;> omega))
    | ((try simp (disch := omega) only [wi, Int.reduceAdd, Int.reduceSub, Int.reduceNeg, Int.reduceMul]); (try simp only [tw0, tw1, tw2, tw3, tw4, tw5, twm1, twm2, twm3, twm4, twm5]); (try simp only [Bool.not_eq_false', Bool.and_eq_true, beq_iff_eq, and_true]); (try simp (disch := omega) only [wi, Int.reduceAdd, Int.reduceSub, Int.reduceNeg, Int.reduceMul]); and_intros <;> omega)
def ltb65 (z0 : Int) (z1 : Int) : Prop := ((Bool.not (Bool.and (((((((((((frP (sm z0) (sm z1) (0 : Int) (0 : Nat))).1).1 + (((frP (sm z0) (sm z1) (0 : Int) 1)).1).2) - (((frP (sm z0) (sm z1) (0 : Int) 2)).1).1) + (((frP (sm z0) (sm z1) (0 : Int) 2)).1).2) - (((frP (sm z0) (sm z1) (0 : Int) 3)).1).1) - (((frP (sm z0) (sm z1) (0 : Int) 4)).1).2) + (((frP (sm z0) (sm z1) (0 : Int) 5)).1).1) - (((frP (sm z0) (sm z1) (0 : Int) 5)).1).2) == (0 : Int)) (Bool.and (((((((((((frP (sm z0) (sm z1) (0 : Int) (0 : Nat))).1).2 - (((frP (sm z0) (sm z1) (0 : Int) 1)).1).1) + (((frP (sm z0) (sm z1) (0 : Int) 1)).1).2) - (((frP (sm z0) (sm z1) (0 : Int) 2)).1).1) - (((frP (sm z0) (sm z1) (0 : Int) 3)).1).2) + (((frP (sm z0) (sm z1) (0 : Int) 4)).1).1) - (((frP (sm z0) (sm z1) (0 : Int) 4)).1).2) + (((frP (sm z0) (sm z1) (0 : Int) 5)).1).1) == (0 : Int)) true))) = false)
theorem ltb65_ok (z0 : Int) (z1 : Int) : ltb65 z0 z1 := by
  unfold ltb65
  have s0 := sm_bd z0
  have s1 := sm_bd z1
  first
    | rfl
    | decide
    | (simp; omega)
    | (first | omega | (and_intros <;> omega))
    | ((try simp (disch := omega) only [wi, Int.reduceAdd, Int.reduceSub, Int.reduceNeg, Int.reduceMul]); (try simp only [fq_1_0, fq_1_1, fq_1_2, fq_1_3, fq_1_4, fq_1_5, fq_0_0, fq_0_1, fq_0_2, fq_0_3, fq_0_4, fq_0_5, fq_m1_0, fq_m1_1, fq_m1_2, fq_m1_3, fq_m1_4, fq_m1_5, fq_m2_0, fq_m2_1, fq_m2_2, fq_m2_3, fq_m2_4, fq_m2_5, fq_m3_0, fq_m3_1, fq_m3_2, fq_m3_3, fq_m3_4, fq_m3_5, fq_m4_0, fq_m4_1, fq_m4_2, fq_m4_3, fq_m4_4, fq_m4_5, fq_m5_0, fq_m5_1, fq_m5_2, fq_m5_3, fq_m5_4, fq_m5_5]); (try simp only [tw0, tw1, tw2, tw3, tw4, tw5, twm1, twm2, twm3, twm4, twm5]); (try simp only [Bool.not_eq_false', Bool.and_eq_true, beq_iff_eq, and_true]); (try simp (disch := omega) only [wi, Int.reduceAdd, Int.reduceSub, Int.reduceNeg, Int.reduceMul]); and_intros <;> omega)
def ltb66 (z4 : Int) (z5 : Int) : Prop := (((- (1048576 : Int)) ≤ (sm z4)) ∧ (((sm z4) ≤ (1048576 : Int)) ∧ (((- (1048576 : Int)) ≤ (sm z5)) ∧ ((sm z5) ≤ (1048576 : Int)))))
theorem ltb66_ok (z4 : Int) (z5 : Int) : ltb66 z4 z5 := by
  unfold ltb66
  have s4 := sm_bd z4
  have s5 := sm_bd z5
  first
    | rfl
    | decide
    | (simp; omega)
    | (first | omega | (and_intros <;> omega))
    | ((try simp (disch := omega) only [wi, Int.reduceAdd, Int.reduceSub, Int.reduceNeg, Int.reduceMul]); (try simp only [Bool.not_eq_false', Bool.and_eq_true, beq_iff_eq, and_true]); (try simp (disch := omega) only [wi, Int.reduceAdd, Int.reduceSub, Int.reduceNeg, Int.reduceMul]); and_intros <;> omega)
def ltb67 (z0 : Int) (z1 : Int) (z2 : Int) (z3 : Int) (z4 : Int) (z5 : Int) (z6 : Int) (z7 : Int) (z8 : Int) (z9 : Int) (z10 : Int) (z11 : Int) : Prop := (((- (1048576 : Int)) ≤ ((((((((sm z0) - (sm z2)) + (sm z3)) - (sm z5)) + (sm z6)) - (sm z8)) + (sm z9)) - (sm z11))) ∧ ((((((((((sm z0) - (sm z2)) + (sm z3)) - (sm z5)) + (sm z6)) - (sm z8)) + (sm z9)) - (sm z11)) ≤ (1048576 : Int)) ∧ (((- (1048576 : Int)) ≤ ((((((((sm z1) - (sm z2)) + (sm z4)) - (sm z5)) + (sm z7)) - (sm z8)) + (sm z10)) - (sm z11))) ∧ (((((((((sm z1) - (sm z2)) + (sm z4)) - (sm z5)) + (sm z7)) - (sm z8)) + (sm z10)) - (sm z11)) ≤ (1048576 : Int)))))
theorem ltb67_ok (z0 : Int) (z1 : Int) (z2 : Int) (z3 : Int) (z4 : Int) (z5 : Int) (z6 : Int) (z7 : Int) (z8 : Int) (z9 : Int) (z10 : Int) (z11 : Int) : ltb67 z0 z1 z2 z3 z4 z5 z6 z7 z8 z9 z10 z11 := by
  unfold ltb67
  have s0 := sm_bd z0
  have s1 := sm_bd z1
  have s2 := sm_bd z2
  have s3 := sm_bd z3
  have s4 := sm_bd z4
  have s5 := sm_bd z5
  have s6 := sm_bd z6
  have s7 := sm_bd z7
  have s8 := sm_bd z8
  have s9 := sm_bd z9
  have s10 := sm_bd z10
  have s11 := sm_bd z11
  first
    | rfl
    | decide
    | (simp; omega)
    | (first | omega | (and_intros <;> omega))
    | ((try simp (disch := omega) only [wi, Int.reduceAdd, Int.reduceSub, Int.reduceNeg, Int.reduceMul]); (try simp only [Bool.not_eq_false', Bool.and_eq_true, beq_iff_eq, and_true]); (try simp (disch := omega) only [wi, Int.reduceAdd, Int.reduceSub, Int.reduceNeg, Int.reduceMul]); and_intros <;> omega)
def ltb68 (z0 : Int) (z1 : Int) (z2 : Int) (z3 : Int) (z4 : Int) (z5 : Int) (z6 : Int) (z7 : Int) (z8 : Int) (z9 : Int) (z10 : Int) (z11 : Int) : Prop := ((((- (524288 : Int)) ≤ ((((((((sm z0) - (sm z2)) + (sm z3)) - (sm z5)) + (sm z6)) - (sm z8)) + (sm z9)) - (sm z11))) ∧ (((((((((sm z0) - (sm z2)) + (sm z3)) - (sm z5)) + (sm z6)) - (sm z8)) + (sm z9)) - (sm z11)) ≤ (524288 : Int))) ∧ ((((- (524288 : Int)) ≤ ((((((((sm z1) - (sm z2)) + (sm z4)) - (sm z5)) + (sm z7)) - (sm z8)) + (sm z10)) - (sm z11))) ∧ (((((((((sm z1) - (sm z2)) + (sm z4)) - (sm z5)) + (sm z7)) - (sm z8)) + (sm z10)) - (sm z11)) ≤ (524288 : Int))) ∧ (((- (1000000 : Int)) ≤ (IntKind.i64.wrap ((0 : Int) - (IntKind.i64.wrap ((IntKind.i64.wrap ((0 : Int) + (1 : Int))) + (1 : Int)))))) ∧ ((IntKind.i64.wrap ((0 : Int) - (IntKind.i64.wrap ((IntKind.i64.wrap ((0 : Int) + (1 : Int))) + (1 : Int))))) ≤ (1000000 : Int)))))
theorem ltb68_ok (z0 : Int) (z1 : Int) (z2 : Int) (z3 : Int) (z4 : Int) (z5 : Int) (z6 : Int) (z7 : Int) (z8 : Int) (z9 : Int) (z10 : Int) (z11 : Int) : ltb68 z0 z1 z2 z3 z4 z5 z6 z7 z8 z9 z10 z11 := by
  unfold ltb68
  have s0 := sm_bd z0
  have s1 := sm_bd z1
  have s2 := sm_bd z2
  have s3 := sm_bd z3
  have s4 := sm_bd z4
  have s5 := sm_bd z5
  have s6 := sm_bd z6
  have s7 := sm_bd z7
  have s8 := sm_bd z8
  have s9 := sm_bd z9
  have s10 := sm_bd z10
  have s11 := sm_bd z11
  first
    | rfl
    | decide
    | (simp; omega)
    | (first | omega | (and_intros <;> omega))
    | ((try simp (disch := omega) only [wi, Int.reduceAdd, Int.reduceSub, Int.reduceNeg, Int.reduceMul]); (try simp only [Bool.not_eq_false', Bool.and_eq_true, beq_iff_eq, and_true]); (try simp (disch := omega) only [wi, Int.reduceAdd, Int.reduceSub, Int.reduceNeg, Int.reduceMul]); and_intros <;> omega)
def ltb69 : Prop := (((IntKind.i64.wrap ((IntKind.i64.wrap ((0 : Int) + (1 : Int))) + (1 : Int))) == (0 : Int)) = false)
theorem ltb69_ok : ltb69 := by
  unfold ltb69
  first
    | rfl
    | decide
    | (simp; omega)
    | (first | omega | (and_intros <;> omega))
    | ((try simp (disch := omega) only [wi, Int.reduceAdd, Int.reduceSub, Int.reduceNeg, Int.reduceMul]); (try simp only [Bool.not_eq_false', Bool.and_eq_true, beq_iff_eq, and_true]); (try simp (disch := omega) only [wi, Int.reduceAdd, Int.reduceSub, Int.reduceNeg, Int.reduceMul]); and_intros <;> omega)
def ltb70 (z0 : Int) (z1 : Int) (z2 : Int) (z3 : Int) (z4 : Int) (z5 : Int) (z6 : Int) (z7 : Int) (z8 : Int) (z9 : Int) (z10 : Int) (z11 : Int) : Prop := ((Bool.not (Bool.and (((((((((((frP (sm z0) (sm z1) (1 : Int) (0 : Nat))).1).1 - (((frP (sm z2) (sm z3) (1 : Int) 1)).1).1) + (((frP (sm z2) (sm z3) (1 : Int) 1)).1).2) - (((frP (sm z4) (sm z5) (1 : Int) 2)).1).2) + (((frP (sm z6) (sm z7) (1 : Int) 3)).1).1) - (((frP (sm z8) (sm z9) (1 : Int) 4)).1).1) + (((frP (sm z8) (sm z9) (1 : Int) 4)).1).2) - (((frP (sm z10) (sm z11) (1 : Int) 5)).1).2) == ((((((sm z0) - (sm z2)) + (sm z4)) - (sm z6)) + (sm z8)) - (sm z10))) (Bool.and (((((((((((frP (sm z0) (sm z1) (1 : Int) (0 : Nat))).1).2 - (((frP (sm z2) (sm z3) (1 : Int) 1)).1).1) + (((frP (sm z4) (sm z5) (1 : Int) 2)).1).1) - (((frP (sm z4) (sm z5) (1 : Int) 2)).1).2) + (((frP (sm z6) (sm z7) (1 : Int) 3)).1).2) - (((frP (sm z8) (sm z9) (1 : Int) 4)).1).1) + (((frP (sm z10) (sm z11) (1 : Int) 5)).1).1) - (((frP (sm z10) (sm z11) (1 : Int) 5)).1).2) == ((((((sm z1) - (sm z3)) + (sm z5)) - (sm z7)) + (sm z9)) - (sm z11))) true))) = false)
theorem ltb70_ok (z0 : Int) (z1 : Int) (z2 : Int) (z3 : Int) (z4 : Int) (z5 : Int) (z6 : Int) (z7 : Int) (z8 : Int) (z9 : Int) (z10 : Int) (z11 : Int) : ltb70 z0 z1 z2 z3 z4 z5 z6 z7 z8 z9 z10 z11 := by
  unfold ltb70
  have s0 := sm_bd z0
  have s1 := sm_bd z1
  have s2 := sm_bd z2
  have s3 := sm_bd z3
  have s4 := sm_bd z4
  have s5 := sm_bd z5
  have s6 := sm_bd z6
  have s7 := sm_bd z7
  have s8 := sm_bd z8
  have s9 := sm_bd z9
  have s10 := sm_bd z10
  have s11 := sm_bd z11
  first
    | rfl
    | decide
    | (simp; omega)
    | (first | omega | (and_intros <;> omega))
    | ((try simp (disch := omega) only [wi, Int.reduceAdd, Int.reduceSub, Int.reduceNeg, Int.reduceMul]); (try simp only [fq_1_0, fq_1_1, fq_1_2, fq_1_3, fq_1_4, fq_1_5, fq_0_0, fq_0_1, fq_0_2, fq_0_3, fq_0_4, fq_0_5, fq_m1_0, fq_m1_1, fq_m1_2, fq_m1_3, fq_m1_4, fq_m1_5, fq_m2_0, fq_m2_1, fq_m2_2, fq_m2_3, fq_m2_4, fq_m2_5, fq_m3_0, fq_m3_1, fq_m3_2, fq_m3_3, fq_m3_4, fq_m3_5, fq_m4_0, fq_m4_1, fq_m4_2, fq_m4_3, fq_m4_4, fq_m4_5, fq_m5_0, fq_m5_1, fq_m5_2, fq_m5_3, fq_m5_4, fq_m5_5]); (try simp only [tw0, tw1, tw2, tw3, tw4, tw5, twm1, twm2, twm3, twm4, twm5]); (try simp only [Bool.not_eq_false', Bool.and_eq_true, beq_iff_eq, and_true]); (try simp (disch := omega) only [wi, Int.reduceAdd, Int.reduceSub, Int.reduceNeg, Int.reduceMul]); and_intros <;> omega)
end Go.Proofs.YtjpffbekhfkibaaGreatDoor
end
