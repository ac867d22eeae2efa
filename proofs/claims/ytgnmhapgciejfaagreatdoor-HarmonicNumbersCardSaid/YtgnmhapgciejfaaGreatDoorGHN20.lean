/-
  HarmonicNumbers: for all arguments the law returns true and leaves its arguments as they were, wherever the tables that its row lists are laid as the text lays them.
  Tables of structures of two pairs on a row's list.
  The last step of a row whose call leaves a world of which only 'Below' is known; tables of pairs on a row's list.
  Arguments that are made of integers alone (numbers, arrays and structs of them, in any depth), opened: their cells are numbers, and their data is the same in each world.
  The contract of bipole.bipolelaw04.HarmonicNumbers.
  The whole.
-/
import Derived.Test.YtgnmhapgciejfaaGreatDoorGHN6
import Derived.Test.YtgnmhapgciejfaaGreatDoorGHN7
import Derived.Test.YtgnmhapgciejfaaGreatDoorGHN8
import Derived.Test.YtgnmhapgciejfaaGreatDoorGHN9
import Derived.Test.YtgnmhapgciejfaaGreatDoorGHN10
import Derived.Test.YtgnmhapgciejfaaGreatDoorGHN11
import Derived.Test.YtgnmhapgciejfaaGreatDoorGHN12
import Derived.Test.YtgnmhapgciejfaaGreatDoorGHN13
import Derived.Test.YtgnmhapgciejfaaGreatDoorGHN14
import Derived.Test.YtgnmhapgciejfaaGreatDoorGHN15
import Derived.Test.YtgnmhapgciejfaaGreatDoorGHN16
import Derived.Test.YtgnmhapgciejfaaGreatDoorGHN17
import Derived.Test.YtgnmhapgciejfaaGreatDoorGHN18
import Derived.Test.YtgnmhapgciejfaaGreatDoorGHN19
import Derived.Test.YtgnmhapgciejfaaGreatDoorGHN4
import Derived.Test.YtgnmhapgciejfaaGreatDoorGHN5
import Derived.Test.YtgnmhapgciejfaaGreatDoorGHN2
import Derived.OpenShut
import Derived.RowKit
import Derived.WideShapes
import Derived.Below
import Derived.ChangeSame
import Derived.ProofKit
import Derived.JoinedCond
import Derived.JoinedOf
import Derived.JoinedAt
import Derived.RowKit3
import Derived.Lib.LaidTab
import Derived.LaidSub
import Derived.Test.YtgnmhapgciejfaaGreatDoorCards
import Derived.Test.YtgnmhapgciejfaaGreatDoorTie
import Derived.WalkKit
import Derived.Deep.DeepHandedRow
section
set_option linter.all false
set_option maxRecDepth 1000000
open Go.RowKit
namespace Go.Proofs.YtgnmhapgciejfaaGreatDoor
open Mini
theorem awX0 : FOk Tryz.prog (joinX 211) := joinX_ok fun bk o c xs sep w h1 h2 h3 h4 h5 => Tryz.strings_Join bk o c xs sep w h1 h2 h3 h4 h5
theorem awX : FOk Tryz.prog (orX awK (joinX 211)) := orX_ok awK_ok awX0
theorem awm : Tryz.prog.follows .mixedOrders = true := by kernel_rfl
theorem awg25 : SndC Tryz.prog none (dropS 25 awB) awA25.act awS25 .ret awA26.act awS26 awR25 awW25 := chain_last awm awX awc25
theorem awg24 : SndC Tryz.prog none (dropS 24 awB) awA24.act awS24 .ret awA26.act awS26 awRR24 awWW24 := by
  have h := chain_step awm awX (by kernel_rfl) awc24 awg25
  rwa [show awR24 ||| awR25 = awRR24 from by decide +kernel, show awW24 ||| awW25 = awWW24 from by decide +kernel] at h
theorem awg23 : SndC Tryz.prog none (dropS 23 awB) awA23.act awS23 .ret awA26.act awS26 awRR23 awWW23 := by
  have h := chain_step awm awX (by kernel_rfl) awc23 awg24
  rwa [show awR23 ||| awRR24 = awRR23 from by decide +kernel, show awW23 ||| awWW24 = awWW23 from by decide +kernel] at h
theorem awg22 : SndC Tryz.prog none (dropS 22 awB) awA22.act awS22 .ret awA26.act awS26 awRR22 awWW22 := by
  have h := chain_step awm awX (by kernel_rfl) awc22 awg23
  rwa [show awR22 ||| awRR23 = awRR22 from by decide +kernel, show awW22 ||| awWW23 = awWW22 from by decide +kernel] at h
theorem awg21 : SndC Tryz.prog none (dropS 21 awB) awA21.act awS21 .ret awA26.act awS26 awRR21 awWW21 := by
  have h := chain_step awm awX (by kernel_rfl) awc21 awg22
  rwa [show awR21 ||| awRR22 = awRR21 from by decide +kernel, show awW21 ||| awWW22 = awWW21 from by decide +kernel] at h
theorem awg20 : SndC Tryz.prog none (dropS 20 awB) awA20.act awS20 .ret awA26.act awS26 awRR20 awWW20 := by
  have h := chain_step awm awX (by kernel_rfl) awc20 awg21
  rwa [show awR20 ||| awRR21 = awRR20 from by decide +kernel, show awW20 ||| awWW21 = awWW20 from by decide +kernel] at h
theorem awg19 : SndC Tryz.prog none (dropS 19 awB) awA19.act awS19 .ret awA26.act awS26 awRR19 awWW19 := by
  have h := chain_step awm awX (by kernel_rfl) awc19 awg20
  rwa [show awR19 ||| awRR20 = awRR19 from by decide +kernel, show awW19 ||| awWW20 = awWW19 from by decide +kernel] at h
theorem awg18 : SndC Tryz.prog none (dropS 18 awB) awA18.act awS18 .ret awA26.act awS26 awRR18 awWW18 := by
  have h := chain_step awm awX (by kernel_rfl) awc18 awg19
  rwa [show awR18 ||| awRR19 = awRR18 from by decide +kernel, show awW18 ||| awWW19 = awWW18 from by decide +kernel] at h
theorem awg17 : SndC Tryz.prog none (dropS 17 awB) awA17.act awS17 .ret awA26.act awS26 awRR17 awWW17 := by
  have h := chain_step awm awX (by kernel_rfl) awc17 awg18
  rwa [show awR17 ||| awRR18 = awRR17 from by decide +kernel, show awW17 ||| awWW18 = awWW17 from by decide +kernel] at h
theorem awg16 : SndC Tryz.prog none (dropS 16 awB) awA16.act awS16 .ret awA26.act awS26 awRR16 awWW16 := by
  have h := chain_step awm awX (by kernel_rfl) awc16 awg17
  rwa [show awR16 ||| awRR17 = awRR16 from by decide +kernel, show awW16 ||| awWW17 = awWW16 from by decide +kernel] at h
theorem awg15 : SndC Tryz.prog none (dropS 15 awB) awA15.act awS15 .ret awA26.act awS26 awRR15 awWW15 := by
  have h := chain_step awm awX (by kernel_rfl) awc15 awg16
  rwa [show awR15 ||| awRR16 = awRR15 from by decide +kernel, show awW15 ||| awWW16 = awWW15 from by decide +kernel] at h
theorem awg14 : SndC Tryz.prog none (dropS 14 awB) awA14.act awS14 .ret awA26.act awS26 awRR14 awWW14 := by
  have h := chain_step awm awX (by kernel_rfl) awc14 awg15
  rwa [show awR14 ||| awRR15 = awRR14 from by decide +kernel, show awW14 ||| awWW15 = awWW14 from by decide +kernel] at h
theorem awg13 : SndC Tryz.prog none (dropS 13 awB) awA13.act awS13 .ret awA26.act awS26 awRR13 awWW13 := by
  have h := chain_step awm awX (by kernel_rfl) awc13 awg14
  rwa [show awR13 ||| awRR14 = awRR13 from by decide +kernel, show awW13 ||| awWW14 = awWW13 from by decide +kernel] at h
theorem awg12 : SndC Tryz.prog none (dropS 12 awB) awA12.act awS12 .ret awA26.act awS26 awRR12 awWW12 := by
  have h := chain_step awm awX (by kernel_rfl) awc12 awg13
  rwa [show awR12 ||| awRR13 = awRR12 from by decide +kernel, show awW12 ||| awWW13 = awWW12 from by decide +kernel] at h
theorem awg11 : SndC Tryz.prog none (dropS 11 awB) awA11.act awS11 .ret awA26.act awS26 awRR11 awWW11 := by
  have h := chain_step awm awX (by kernel_rfl) awc11 awg12
  rwa [show awR11 ||| awRR12 = awRR11 from by decide +kernel, show awW11 ||| awWW12 = awWW11 from by decide +kernel] at h
theorem awg10 : SndC Tryz.prog none (dropS 10 awB) awA10.act awS10 .ret awA26.act awS26 awRR10 awWW10 := by
  have h := chain_step awm awX (by kernel_rfl) awc10 awg11
  rwa [show awR10 ||| awRR11 = awRR10 from by decide +kernel, show awW10 ||| awWW11 = awWW10 from by decide +kernel] at h
theorem awg9 : SndC Tryz.prog none (dropS 9 awB) awA9.act awS9 .ret awA26.act awS26 awRR9 awWW9 := by
  have h := chain_step awm awX (by kernel_rfl) awc9 awg10
  rwa [show awR9 ||| awRR10 = awRR9 from by decide +kernel, show awW9 ||| awWW10 = awWW9 from by decide +kernel] at h
theorem awg8 : SndC Tryz.prog none (dropS 8 awB) awA8.act awS8 .ret awA26.act awS26 awRR8 awWW8 := by
  have h := chain_step awm awX (by kernel_rfl) awc8 awg9
  rwa [show awR8 ||| awRR9 = awRR8 from by decide +kernel, show awW8 ||| awWW9 = awWW8 from by decide +kernel] at h
theorem awg7 : SndC Tryz.prog none (dropS 7 awB) awA7.act awS7 .ret awA26.act awS26 awRR7 awWW7 := by
  have h := chain_step awm awX (by kernel_rfl) awc7 awg8
  rwa [show awR7 ||| awRR8 = awRR7 from by decide +kernel, show awW7 ||| awWW8 = awWW7 from by decide +kernel] at h
theorem awg6 : SndC Tryz.prog none (dropS 6 awB) awA6.act awS6 .ret awA26.act awS26 awRR6 awWW6 := by
  have h := chain_step awm awX (by kernel_rfl) awc6 awg7
  rwa [show awR6 ||| awRR7 = awRR6 from by decide +kernel, show awW6 ||| awWW7 = awWW6 from by decide +kernel] at h
theorem awg5 : SndC Tryz.prog none (dropS 5 awB) awA5.act awS5 .ret awA26.act awS26 awRR5 awWW5 := by
  have h := chain_step awm awX (by kernel_rfl) awc5 awg6
  rwa [show awR5 ||| awRR6 = awRR5 from by decide +kernel, show awW5 ||| awWW6 = awWW5 from by decide +kernel] at h
theorem awg4 : SndC Tryz.prog none (dropS 4 awB) awA4.act awS4 .ret awA26.act awS26 awRR4 awWW4 := by
  have h := chain_step awm awX (by kernel_rfl) awc4 awg5
  rwa [show awR4 ||| awRR5 = awRR4 from by decide +kernel, show awW4 ||| awWW5 = awWW4 from by decide +kernel] at h
theorem awg3 : SndC Tryz.prog none (dropS 3 awB) awA3.act awS3 .ret awA26.act awS26 awRR3 awWW3 := by
  have h := chain_step awm awX (by kernel_rfl) awc3 awg4
  rwa [show awR3 ||| awRR4 = awRR3 from by decide +kernel, show awW3 ||| awWW4 = awWW3 from by decide +kernel] at h
theorem awg2 : SndC Tryz.prog none (dropS 2 awB) awA2.act awS2 .ret awA26.act awS26 awRR2 awWW2 := by
  have h := chain_step awm awX (by kernel_rfl) awc2 awg3
  rwa [show awR2 ||| awRR3 = awRR2 from by decide +kernel, show awW2 ||| awWW3 = awWW2 from by decide +kernel] at h
theorem awg1 : SndC Tryz.prog none (dropS 1 awB) awA1.act awS1 .ret awA26.act awS26 awRR1 awWW1 := by
  have h := chain_step awm awX (by kernel_rfl) awc1 awg2
  rwa [show awR1 ||| awRR2 = awRR1 from by decide +kernel, show awW1 ||| awWW2 = awWW1 from by decide +kernel] at h
theorem awg0 : SndC Tryz.prog none (dropS 0 awB) awA0.act awS0 .ret awA26.act awS26 awRR0 awWW0 := by
  have h := chain_step awm awX (by kernel_rfl) awc0 awg1
  rwa [show awR0 ||| awRR1 = awRR0 from by decide +kernel, show awW0 ||| awWW1 = awWW0 from by decide +kernel] at h
theorem awf : SndF Tryz.prog 30 #[] awS0 (.bool true) awS26 (awRR0 ||| 0) awWW0 :=
  sndF_of (vs := [.bool true]) Tryz.func30 (show _ = some awB by kernel_rfl) (.inr rfl) (by kernel_rfl) (show SndC Tryz.prog none awB (startA Tryz.f30 #[]) awS0 .ret awA26.act awS26 awRR0 awWW0 from ((startM_act _ _).symm.trans (congrArg MA.act (show startM Tryz.f30 #[] = awA0 by kernel_rfl))) ▸ awg0) (by kernel_rfl)
theorem aw_calls (w : World) (h : Holds Tryz.prog awS0 w) : Calls Tryz.prog 30 #[] w fun e w' => e = .returned (.bool true) ∧ Below w.heap.size w w' :=
  calls_of awf (by kernel_rfl) (by kernel_rfl) (fun b hb => by
    have hb : b < Tryz.prog.globals.size := hb
    rw [show Tryz.prog.globals.size = 7 by kernel_rfl] at hb
    revert b; decide +kernel) h
end Go.Proofs.YtgnmhapgciejfaaGreatDoor
end
section
set_option linter.all false
set_option maxRecDepth 1000000
set_option maxHeartbeats 4000000
open Go.RowKit
namespace Go.Proofs.YtgnmhapgciejfaaGreatDoor
open Mini

theorem lNum_X : FOkS Tryz.prog x_lNum := bothX_ok (bothX_ok (kAllT_ok (by kernel_rfl) _ ⟨k_hTurn, trivial⟩) (kAll_ok _ ⟨k_hProd, k_hStr, k_hSign, k_rcheckCyclo, k_rcheckRoot, k_rrange, k_rproduct, k_rturned, k_rstrength, k_rsign, trivial⟩)) (tabX_ok (by kernel_rfl) aw_calls)
theorem lNum_args (a b c d e f g k n : Int) : (#[.agg #[.int .i64 a, .int .i64 b, .int .i64 c, .int .i64 d], .agg #[.int .i64 e, .int .i64 f, .int .i64 g, .int .i64 k], .int .i64 n] : Array Value).toList.all (ground 8) = true := by kernel_rfl
theorem lNum_g0 : True := by first | rfl | trivial | decide | omega
theorem lNum_g1 : (true = true) := by first | rfl | trivial | decide | omega
theorem lNum_g2 : ((0 : Int) = (0 : Int)) := by first | rfl | trivial | decide | omega
def lNum_c0 (a b c d e f g k n : Int) : Bool := ((cn a b c d) != (0 : Int))
theorem lNum_g4 : ((1 : Int) = (1 : Int)) := by first | rfl | trivial | decide | omega
def lNum_c1 (a b c d e f g k n : Int) : Bool := ((cn e f g k) != (0 : Int))
theorem lNum_g6 : (false = false) := by first | rfl | trivial | decide | omega
def lNum_c2 (a b c d e f g k n : Int) : Bool := ((Pl.cr n (-100000 : Int) (100000 : Int)) != (0 : Int))
def lNum_b8 (a b c d e f g k n : Int) : Prop := ((B4 (16777216 : Int) a b c d) ∧ (B4 (1048576 : Int) e f g k))
def lNum_b9 (a b c d e f g k n : Int) : Prop := ((B4 (1048576 : Int) a b c d) ∧ (((-100000 : Int) ≤ n) ∧ (n ≤ (100000 : Int))))
def lNum_c3 (a b c d e f g k n : Int) : Bool := ((cn a b c d) == (0 : Int))
def lNum_b11 (a b c d e f g k n : Int) : Prop := (((-1048576 : Int) ≤ a) ∧ ((a ≤ (1048576 : Int)) ∧ (((-1048576 : Int) ≤ b) ∧ ((b ≤ (1048576 : Int)) ∧ (((-1048576 : Int) ≤ c) ∧ ((c ≤ (1048576 : Int)) ∧ (((-1048576 : Int) ≤ d) ∧ (d ≤ (1048576 : Int)))))))))
def lNum_c4 (a b c d e f g k n : Int) : Bool := ((Pl.parts a b (1073741824 : Int)) == (0 : Int))
def lNum_b13 (a b c d e f g k n : Int) : Prop := (((-1500000000 : Int) ≤ a) ∧ ((a ≤ (1500000000 : Int)) ∧ (((-1500000000 : Int) ≤ b) ∧ (b ≤ (1500000000 : Int)))))
def lNum_c5 (a b c d e f g k n : Int) : Bool := (Bool.and (Bool.and ((cz (two (cn a b c d) (cn e f g k)) (p1 a b c d e f g k)) == (p1 a b c d e f g k)) (Bool.and ((cz (two (cn a b c d) (cn e f g k)) (p2 a b c d e f g k)) == (p2 a b c d e f g k)) Bool.true)) (Bool.and (Bool.and ((cz (two (cn a b c d) (cn e f g k)) (p3 a b c d e f g k)) == (p3 a b c d e f g k)) (Bool.and ((cz (two (cn a b c d) (cn e f g k)) (p4 a b c d e f g k)) == (p4 a b c d e f g k)) Bool.true)) Bool.true))
def lNum_c6 (a b c d e f g k n : Int) : Bool := ((two (cn a b c d) (cn e f g k)) == (0 : Int))
def lNum_c7 (a b c d e f g k n : Int) : Bool := (Bool.and (Bool.and ((cz (two (cn a b c d) (Pl.cr n (-100000 : Int) (100000 : Int))) (tn a b c d n).1) == (tn a b c d n).1) (Bool.and ((cz (two (cn a b c d) (Pl.cr n (-100000 : Int) (100000 : Int))) ((tn a b c d n).2).1) == ((tn a b c d n).2).1) Bool.true)) (Bool.and (Bool.and ((cz (two (cn a b c d) (Pl.cr n (-100000 : Int) (100000 : Int))) (((tn a b c d n).2).2).1) == (((tn a b c d n).2).2).1) (Bool.and ((cz (two (cn a b c d) (Pl.cr n (-100000 : Int) (100000 : Int))) (((tn a b c d n).2).2).2) == (((tn a b c d n).2).2).2) Bool.true)) Bool.true))
def lNum_c8 (a b c d e f g k n : Int) : Bool := ((two (cn a b c d) (Pl.cr n (-100000 : Int) (100000 : Int))) == (0 : Int))
def lNum_c9 (a b c d e f g k n : Int) : Bool := (Bool.and ((cz (cn a b c d) (sA a b c d)) == (sA a b c d)) (Bool.and ((cz (cn a b c d) (sB a b c d)) == (sB a b c d)) Bool.true))
def lNum_c10 (a b c d e f g k n : Int) : Bool := ((cn a b c d) == (cn a b c d))
def lNum_c11 (a b c d e f g k n : Int) : Bool := ((cz (Pl.parts a b (1073741824 : Int)) (sgn a b)) == (sgn a b))
def lNum_c12 (a b c d e f g k n : Int) : Bool := ((Pl.parts a b (1073741824 : Int)) == (Pl.parts a b (1073741824 : Int)))
def lNum_c13 (a b c d e f g k n : Int) : Bool := ((Pl.cr n (-100000 : Int) (100000 : Int)) == (0 : Int))
def lNum_c14 (a b c d e f g k n : Int) : Bool := (Bool.and (Bool.and ((cz (two (cn a b c d) (Pl.cr n (-100000 : Int) (100000 : Int))) (tn a b c d n).1) == (0 : Int)) (Bool.and ((cz (two (cn a b c d) (Pl.cr n (-100000 : Int) (100000 : Int))) ((tn a b c d n).2).1) == (0 : Int)) Bool.true)) (Bool.and (Bool.and ((cz (two (cn a b c d) (Pl.cr n (-100000 : Int) (100000 : Int))) (((tn a b c d n).2).2).1) == (0 : Int)) (Bool.and ((cz (two (cn a b c d) (Pl.cr n (-100000 : Int) (100000 : Int))) (((tn a b c d n).2).2).2) == (0 : Int)) Bool.true)) Bool.true))
def lNum_c15 (a b c d e f g k n : Int) : Bool := ((two (cn a b c d) (Pl.cr n (-100000 : Int) (100000 : Int))) == (Pl.cr n (-100000 : Int) (100000 : Int)))
def lNum_c16 (a b c d e f g k n : Int) : Bool := ((cn e f g k) == (0 : Int))
def lNum_c17 (a b c d e f g k n : Int) : Bool := (Bool.and (Bool.and ((cz (two (cn a b c d) (cn e f g k)) (p1 a b c d e f g k)) == (0 : Int)) (Bool.and ((cz (two (cn a b c d) (cn e f g k)) (p2 a b c d e f g k)) == (0 : Int)) Bool.true)) (Bool.and (Bool.and ((cz (two (cn a b c d) (cn e f g k)) (p3 a b c d e f g k)) == (0 : Int)) (Bool.and ((cz (two (cn a b c d) (cn e f g k)) (p4 a b c d e f g k)) == (0 : Int)) Bool.true)) Bool.true))
def lNum_c18 (a b c d e f g k n : Int) : Bool := ((two (cn a b c d) (cn e f g k)) == (cn e f g k))
def lNum_c19 (a b c d e f g k n : Int) : Bool := ((two (cn a b c d) (cn e f g k)) == (cn a b c d))
def lNum_c20 (a b c d e f g k n : Int) : Bool := ((two (cn a b c d) (Pl.cr n (-100000 : Int) (100000 : Int))) == (cn a b c d))
def lNum_c21 (a b c d e f g k n : Int) : Bool := (Bool.and ((cz (cn a b c d) (sA a b c d)) == (0 : Int)) (Bool.and ((cz (cn a b c d) (sB a b c d)) == (0 : Int)) Bool.true))
def lNum_c22 (a b c d e f g k n : Int) : Bool := ((cz (Pl.parts a b (1073741824 : Int)) (sgn a b)) == (0 : Int))
def lNum_w0 (a b c d e f g k n : Int) : Value := .bool Bool.true
def lNum_r0 (a b c d e f g k n : Int) : Prop := ((((((((((((((((((((((((((((((((((((((((((((((((((((((((((((((True ∧ (True)) ∧ (True)) ∧ (True)) ∧ (True)) ∧ (True)) ∧ (True)) ∧ ((true = true))) ∧ (((0 : Int) = (0 : Int)))) ∧ (lNum_c0 a b c d e f g k n = false)) ∧ ((true = true))) ∧ (((1 : Int) = (1 : Int)))) ∧ (lNum_c1 a b c d e f g k n = false)) ∧ ((false = false))) ∧ (True)) ∧ ((true = true))) ∧ (((0 : Int) = (0 : Int)))) ∧ (lNum_c0 a b c d e f g k n = false)) ∧ ((true = true))) ∧ (((1 : Int) = (1 : Int)))) ∧ (lNum_c2 a b c d e f g k n = false)) ∧ ((false = false))) ∧ ((true = true))) ∧ (lNum_b8 a b c d e f g k n)) ∧ ((true = true))) ∧ (lNum_b9 a b c d e f g k n)) ∧ (lNum_c3 a b c d e f g k n = true)) ∧ (lNum_b11 a b c d e f g k n)) ∧ (True)) ∧ (lNum_c4 a b c d e f g k n = true)) ∧ (lNum_b13 a b c d e f g k n)) ∧ (lNum_c5 a b c d e f g k n = true)) ∧ (lNum_c5 a b c d e f g k n = true)) ∧ (lNum_c5 a b c d e f g k n = true)) ∧ (lNum_c5 a b c d e f g k n = true)) ∧ (lNum_c6 a b c d e f g k n = true)) ∧ (lNum_c6 a b c d e f g k n = true)) ∧ (lNum_c6 a b c d e f g k n = true)) ∧ (lNum_c6 a b c d e f g k n = true)) ∧ (lNum_c7 a b c d e f g k n = true)) ∧ (lNum_c7 a b c d e f g k n = true)) ∧ (lNum_c7 a b c d e f g k n = true)) ∧ (lNum_c7 a b c d e f g k n = true)) ∧ (lNum_c8 a b c d e f g k n = true)) ∧ (lNum_c8 a b c d e f g k n = true)) ∧ (lNum_c8 a b c d e f g k n = true)) ∧ (lNum_c8 a b c d e f g k n = true)) ∧ (lNum_c9 a b c d e f g k n = true)) ∧ (lNum_c9 a b c d e f g k n = true)) ∧ (lNum_c9 a b c d e f g k n = true)) ∧ (lNum_c9 a b c d e f g k n = true)) ∧ (lNum_c10 a b c d e f g k n = true)) ∧ (lNum_c10 a b c d e f g k n = true)) ∧ (lNum_c10 a b c d e f g k n = true)) ∧ (lNum_c10 a b c d e f g k n = true)) ∧ (lNum_c11 a b c d e f g k n = true)) ∧ (lNum_c11 a b c d e f g k n = true)) ∧ (lNum_c11 a b c d e f g k n = true)) ∧ (True)) ∧ (lNum_c11 a b c d e f g k n = true)) ∧ (lNum_c11 a b c d e f g k n = true)) ∧ (lNum_c12 a b c d e f g k n = true)) ∧ (lNum_c12 a b c d e f g k n = true))
theorem lNum_o0 (a b c d e f g k n : Int) : obOf (lNum_e0 a b c d e f g k n) = lNum_r0 a b c d e f g k n := by kernel_rfl
theorem lNum_v0 (a b c d e f g k n : Int) : resOf (lNum_e0 a b c d e f g k n) = lNum_w0 a b c d e f g k n := by kernel_rfl
theorem lNum_k0 (a b c d e f g k n : Int) : cleanOf Tryz.prog.globals.size (lNum_e0 a b c d e f g k n) = true := by kernel_rfl
theorem lNum_q0 (a b c d e f g k n : Int) : lNum_e0 a b c d e f g k n = evFS Tryz.prog x_lNum 1000 4 #[.agg #[.int .i64 a, .int .i64 b, .int .i64 c, .int .i64 d], .agg #[.int .i64 e, .int .i64 f, .int .i64 g, .int .i64 k], .int .i64 n] awS0 ⟨[1, 0, 0, 1, 1, 0, 0, 1, 0, 0, 1, 1, 0, 0, 1, 1, 1, 1, 1, 1, 1, 1, 1, 1, 1, 1, 1, 1, 1, 1, 1, 1, 1, 1, 1, 1, 1, 1, 1, 1, 1, 1, 1, 1, 1, 1, 1, 1, 1], True⟩ := by
  delta lNum_e0
  exact Eq.refl _
theorem lNum_p0 (a b c d e f g k n : Int) (h : lNum_r0 a b c d e f g k n) (w : World) (hh : Holds Tryz.prog awS0 w) : Calls Tryz.prog 4 #[.agg #[.int .i64 a, .int .i64 b, .int .i64 c, .int .i64 d], .agg #[.int .i64 e, .int .i64 f, .int .i64 g, .int .i64 k], .int .i64 n] w fun en w' => en = .returned (lNum_w0 a b c d e f g k n) ∧ Below w.heap.size w w' := by
  have hv := lNum_v0 a b c d e f g k n
  have hc := lNum_k0 a b c d e f g k n
  have he := lNum_q0 a b c d e f g k n
  have ho := lNum_o0 a b c d e f g k n
  generalize lNum_e0 a b c d e f g k n = r at *
  exact calls_way he gfol lNum_X hv rfl (lNum_args a b c d e f g k n) hc ho h hh
def lNum_w1 (a b c d e f g k n : Int) : Value := .bool Bool.true
def lNum_r1 (a b c d e f g k n : Int) : Prop := (((((((((((((((((((((((((((((((((((((((((((((((((((((((((((((True ∧ (True)) ∧ (True)) ∧ (True)) ∧ (True)) ∧ (True)) ∧ (True)) ∧ ((true = true))) ∧ (((0 : Int) = (0 : Int)))) ∧ (lNum_c0 a b c d e f g k n = false)) ∧ ((true = true))) ∧ (((1 : Int) = (1 : Int)))) ∧ (lNum_c1 a b c d e f g k n = false)) ∧ ((false = false))) ∧ (True)) ∧ ((true = true))) ∧ (((0 : Int) = (0 : Int)))) ∧ (lNum_c0 a b c d e f g k n = false)) ∧ ((true = true))) ∧ (((1 : Int) = (1 : Int)))) ∧ (lNum_c2 a b c d e f g k n = true)) ∧ (((1 : Int) = (1 : Int)))) ∧ ((true = true))) ∧ (lNum_b8 a b c d e f g k n)) ∧ (lNum_c13 a b c d e f g k n = false)) ∧ (lNum_c3 a b c d e f g k n = true)) ∧ (lNum_b11 a b c d e f g k n)) ∧ (True)) ∧ (lNum_c4 a b c d e f g k n = true)) ∧ (lNum_b13 a b c d e f g k n)) ∧ (lNum_c5 a b c d e f g k n = true)) ∧ (lNum_c5 a b c d e f g k n = true)) ∧ (lNum_c5 a b c d e f g k n = true)) ∧ (lNum_c5 a b c d e f g k n = true)) ∧ (lNum_c6 a b c d e f g k n = true)) ∧ (lNum_c6 a b c d e f g k n = true)) ∧ (lNum_c6 a b c d e f g k n = true)) ∧ (lNum_c6 a b c d e f g k n = true)) ∧ (lNum_c14 a b c d e f g k n = true)) ∧ (lNum_c14 a b c d e f g k n = true)) ∧ (lNum_c14 a b c d e f g k n = true)) ∧ (lNum_c14 a b c d e f g k n = true)) ∧ (lNum_c15 a b c d e f g k n = true)) ∧ (lNum_c15 a b c d e f g k n = true)) ∧ (lNum_c15 a b c d e f g k n = true)) ∧ (lNum_c15 a b c d e f g k n = true)) ∧ (lNum_c9 a b c d e f g k n = true)) ∧ (lNum_c9 a b c d e f g k n = true)) ∧ (lNum_c9 a b c d e f g k n = true)) ∧ (lNum_c9 a b c d e f g k n = true)) ∧ (lNum_c10 a b c d e f g k n = true)) ∧ (lNum_c10 a b c d e f g k n = true)) ∧ (lNum_c10 a b c d e f g k n = true)) ∧ (lNum_c10 a b c d e f g k n = true)) ∧ (lNum_c11 a b c d e f g k n = true)) ∧ (lNum_c11 a b c d e f g k n = true)) ∧ (lNum_c11 a b c d e f g k n = true)) ∧ (True)) ∧ (lNum_c11 a b c d e f g k n = true)) ∧ (lNum_c11 a b c d e f g k n = true)) ∧ (lNum_c12 a b c d e f g k n = true)) ∧ (lNum_c12 a b c d e f g k n = true))
theorem lNum_o1 (a b c d e f g k n : Int) : obOf (lNum_e1 a b c d e f g k n) = lNum_r1 a b c d e f g k n := by kernel_rfl
theorem lNum_v1 (a b c d e f g k n : Int) : resOf (lNum_e1 a b c d e f g k n) = lNum_w1 a b c d e f g k n := by kernel_rfl
theorem lNum_k1 (a b c d e f g k n : Int) : cleanOf Tryz.prog.globals.size (lNum_e1 a b c d e f g k n) = true := by kernel_rfl
theorem lNum_q1 (a b c d e f g k n : Int) : lNum_e1 a b c d e f g k n = evFS Tryz.prog x_lNum 1000 4 #[.agg #[.int .i64 a, .int .i64 b, .int .i64 c, .int .i64 d], .agg #[.int .i64 e, .int .i64 f, .int .i64 g, .int .i64 k], .int .i64 n] awS0 ⟨[1, 0, 0, 1, 1, 0, 0, 1, 0, 0, 1, 1, 1, 1, 1, 0, 1, 1, 1, 1, 1, 1, 1, 1, 1, 1, 1, 1, 1, 1, 1, 1, 1, 1, 1, 1, 1, 1, 1, 1, 1, 1, 1, 1, 1, 1, 1, 1, 1], True⟩ := by
  delta lNum_e1
  exact Eq.refl _
theorem lNum_p1 (a b c d e f g k n : Int) (h : lNum_r1 a b c d e f g k n) (w : World) (hh : Holds Tryz.prog awS0 w) : Calls Tryz.prog 4 #[.agg #[.int .i64 a, .int .i64 b, .int .i64 c, .int .i64 d], .agg #[.int .i64 e, .int .i64 f, .int .i64 g, .int .i64 k], .int .i64 n] w fun en w' => en = .returned (lNum_w1 a b c d e f g k n) ∧ Below w.heap.size w w' := by
  have hv := lNum_v1 a b c d e f g k n
  have hc := lNum_k1 a b c d e f g k n
  have he := lNum_q1 a b c d e f g k n
  have ho := lNum_o1 a b c d e f g k n
  generalize lNum_e1 a b c d e f g k n = r at *
  exact calls_way he gfol lNum_X hv rfl (lNum_args a b c d e f g k n) hc ho h hh
def lNum_w2 (a b c d e f g k n : Int) : Value := .bool Bool.true
def lNum_r2 (a b c d e f g k n : Int) : Prop := (((((((((((((((((((((((((((((((((((((((((((((((((((((((((((((True ∧ (True)) ∧ (True)) ∧ (True)) ∧ (True)) ∧ (True)) ∧ (True)) ∧ ((true = true))) ∧ (((0 : Int) = (0 : Int)))) ∧ (lNum_c0 a b c d e f g k n = false)) ∧ ((true = true))) ∧ (((1 : Int) = (1 : Int)))) ∧ (lNum_c1 a b c d e f g k n = true)) ∧ (((1 : Int) = (1 : Int)))) ∧ (True)) ∧ ((true = true))) ∧ (((0 : Int) = (0 : Int)))) ∧ (lNum_c0 a b c d e f g k n = false)) ∧ ((true = true))) ∧ (((1 : Int) = (1 : Int)))) ∧ (lNum_c2 a b c d e f g k n = false)) ∧ ((false = false))) ∧ (lNum_c16 a b c d e f g k n = false)) ∧ ((true = true))) ∧ (lNum_b9 a b c d e f g k n)) ∧ (lNum_c3 a b c d e f g k n = true)) ∧ (lNum_b11 a b c d e f g k n)) ∧ (True)) ∧ (lNum_c4 a b c d e f g k n = true)) ∧ (lNum_b13 a b c d e f g k n)) ∧ (lNum_c17 a b c d e f g k n = true)) ∧ (lNum_c17 a b c d e f g k n = true)) ∧ (lNum_c17 a b c d e f g k n = true)) ∧ (lNum_c17 a b c d e f g k n = true)) ∧ (lNum_c18 a b c d e f g k n = true)) ∧ (lNum_c18 a b c d e f g k n = true)) ∧ (lNum_c18 a b c d e f g k n = true)) ∧ (lNum_c18 a b c d e f g k n = true)) ∧ (lNum_c7 a b c d e f g k n = true)) ∧ (lNum_c7 a b c d e f g k n = true)) ∧ (lNum_c7 a b c d e f g k n = true)) ∧ (lNum_c7 a b c d e f g k n = true)) ∧ (lNum_c8 a b c d e f g k n = true)) ∧ (lNum_c8 a b c d e f g k n = true)) ∧ (lNum_c8 a b c d e f g k n = true)) ∧ (lNum_c8 a b c d e f g k n = true)) ∧ (lNum_c9 a b c d e f g k n = true)) ∧ (lNum_c9 a b c d e f g k n = true)) ∧ (lNum_c9 a b c d e f g k n = true)) ∧ (lNum_c9 a b c d e f g k n = true)) ∧ (lNum_c10 a b c d e f g k n = true)) ∧ (lNum_c10 a b c d e f g k n = true)) ∧ (lNum_c10 a b c d e f g k n = true)) ∧ (lNum_c10 a b c d e f g k n = true)) ∧ (lNum_c11 a b c d e f g k n = true)) ∧ (lNum_c11 a b c d e f g k n = true)) ∧ (lNum_c11 a b c d e f g k n = true)) ∧ (True)) ∧ (lNum_c11 a b c d e f g k n = true)) ∧ (lNum_c11 a b c d e f g k n = true)) ∧ (lNum_c12 a b c d e f g k n = true)) ∧ (lNum_c12 a b c d e f g k n = true))
theorem lNum_o2 (a b c d e f g k n : Int) : obOf (lNum_e2 a b c d e f g k n) = lNum_r2 a b c d e f g k n := by kernel_rfl
theorem lNum_v2 (a b c d e f g k n : Int) : resOf (lNum_e2 a b c d e f g k n) = lNum_w2 a b c d e f g k n := by kernel_rfl
theorem lNum_k2 (a b c d e f g k n : Int) : cleanOf Tryz.prog.globals.size (lNum_e2 a b c d e f g k n) = true := by kernel_rfl
theorem lNum_q2 (a b c d e f g k n : Int) : lNum_e2 a b c d e f g k n = evFS Tryz.prog x_lNum 1000 4 #[.agg #[.int .i64 a, .int .i64 b, .int .i64 c, .int .i64 d], .agg #[.int .i64 e, .int .i64 f, .int .i64 g, .int .i64 k], .int .i64 n] awS0 ⟨[1, 0, 0, 1, 1, 1, 1, 1, 0, 0, 1, 1, 0, 0, 0, 1, 1, 1, 1, 1, 1, 1, 1, 1, 1, 1, 1, 1, 1, 1, 1, 1, 1, 1, 1, 1, 1, 1, 1, 1, 1, 1, 1, 1, 1, 1, 1, 1, 1], True⟩ := by
  delta lNum_e2
  exact Eq.refl _
theorem lNum_p2 (a b c d e f g k n : Int) (h : lNum_r2 a b c d e f g k n) (w : World) (hh : Holds Tryz.prog awS0 w) : Calls Tryz.prog 4 #[.agg #[.int .i64 a, .int .i64 b, .int .i64 c, .int .i64 d], .agg #[.int .i64 e, .int .i64 f, .int .i64 g, .int .i64 k], .int .i64 n] w fun en w' => en = .returned (lNum_w2 a b c d e f g k n) ∧ Below w.heap.size w w' := by
  have hv := lNum_v2 a b c d e f g k n
  have hc := lNum_k2 a b c d e f g k n
  have he := lNum_q2 a b c d e f g k n
  have ho := lNum_o2 a b c d e f g k n
  generalize lNum_e2 a b c d e f g k n = r at *
  exact calls_way he gfol lNum_X hv rfl (lNum_args a b c d e f g k n) hc ho h hh
def lNum_w3 (a b c d e f g k n : Int) : Value := .bool Bool.true
def lNum_r3 (a b c d e f g k n : Int) : Prop := ((((((((((((((((((((((((((((((((((((((((((((((((((((((((((((True ∧ (True)) ∧ (True)) ∧ (True)) ∧ (True)) ∧ (True)) ∧ (True)) ∧ ((true = true))) ∧ (((0 : Int) = (0 : Int)))) ∧ (lNum_c0 a b c d e f g k n = false)) ∧ ((true = true))) ∧ (((1 : Int) = (1 : Int)))) ∧ (lNum_c1 a b c d e f g k n = true)) ∧ (((1 : Int) = (1 : Int)))) ∧ (True)) ∧ ((true = true))) ∧ (((0 : Int) = (0 : Int)))) ∧ (lNum_c0 a b c d e f g k n = false)) ∧ ((true = true))) ∧ (((1 : Int) = (1 : Int)))) ∧ (lNum_c2 a b c d e f g k n = true)) ∧ (((1 : Int) = (1 : Int)))) ∧ (lNum_c16 a b c d e f g k n = false)) ∧ (lNum_c13 a b c d e f g k n = false)) ∧ (lNum_c3 a b c d e f g k n = true)) ∧ (lNum_b11 a b c d e f g k n)) ∧ (True)) ∧ (lNum_c4 a b c d e f g k n = true)) ∧ (lNum_b13 a b c d e f g k n)) ∧ (lNum_c17 a b c d e f g k n = true)) ∧ (lNum_c17 a b c d e f g k n = true)) ∧ (lNum_c17 a b c d e f g k n = true)) ∧ (lNum_c17 a b c d e f g k n = true)) ∧ (lNum_c18 a b c d e f g k n = true)) ∧ (lNum_c18 a b c d e f g k n = true)) ∧ (lNum_c18 a b c d e f g k n = true)) ∧ (lNum_c18 a b c d e f g k n = true)) ∧ (lNum_c14 a b c d e f g k n = true)) ∧ (lNum_c14 a b c d e f g k n = true)) ∧ (lNum_c14 a b c d e f g k n = true)) ∧ (lNum_c14 a b c d e f g k n = true)) ∧ (lNum_c15 a b c d e f g k n = true)) ∧ (lNum_c15 a b c d e f g k n = true)) ∧ (lNum_c15 a b c d e f g k n = true)) ∧ (lNum_c15 a b c d e f g k n = true)) ∧ (lNum_c9 a b c d e f g k n = true)) ∧ (lNum_c9 a b c d e f g k n = true)) ∧ (lNum_c9 a b c d e f g k n = true)) ∧ (lNum_c9 a b c d e f g k n = true)) ∧ (lNum_c10 a b c d e f g k n = true)) ∧ (lNum_c10 a b c d e f g k n = true)) ∧ (lNum_c10 a b c d e f g k n = true)) ∧ (lNum_c10 a b c d e f g k n = true)) ∧ (lNum_c11 a b c d e f g k n = true)) ∧ (lNum_c11 a b c d e f g k n = true)) ∧ (lNum_c11 a b c d e f g k n = true)) ∧ (True)) ∧ (lNum_c11 a b c d e f g k n = true)) ∧ (lNum_c11 a b c d e f g k n = true)) ∧ (lNum_c12 a b c d e f g k n = true)) ∧ (lNum_c12 a b c d e f g k n = true))
theorem lNum_o3 (a b c d e f g k n : Int) : obOf (lNum_e3 a b c d e f g k n) = lNum_r3 a b c d e f g k n := by kernel_rfl
theorem lNum_v3 (a b c d e f g k n : Int) : resOf (lNum_e3 a b c d e f g k n) = lNum_w3 a b c d e f g k n := by kernel_rfl
theorem lNum_k3 (a b c d e f g k n : Int) : cleanOf Tryz.prog.globals.size (lNum_e3 a b c d e f g k n) = true := by kernel_rfl
theorem lNum_q3 (a b c d e f g k n : Int) : lNum_e3 a b c d e f g k n = evFS Tryz.prog x_lNum 1000 4 #[.agg #[.int .i64 a, .int .i64 b, .int .i64 c, .int .i64 d], .agg #[.int .i64 e, .int .i64 f, .int .i64 g, .int .i64 k], .int .i64 n] awS0 ⟨[1, 0, 0, 1, 1, 1, 1, 1, 0, 0, 1, 1, 1, 1, 0, 0, 1, 1, 1, 1, 1, 1, 1, 1, 1, 1, 1, 1, 1, 1, 1, 1, 1, 1, 1, 1, 1, 1, 1, 1, 1, 1, 1, 1, 1, 1, 1, 1, 1], True⟩ := by
  delta lNum_e3
  exact Eq.refl _
theorem lNum_p3 (a b c d e f g k n : Int) (h : lNum_r3 a b c d e f g k n) (w : World) (hh : Holds Tryz.prog awS0 w) : Calls Tryz.prog 4 #[.agg #[.int .i64 a, .int .i64 b, .int .i64 c, .int .i64 d], .agg #[.int .i64 e, .int .i64 f, .int .i64 g, .int .i64 k], .int .i64 n] w fun en w' => en = .returned (lNum_w3 a b c d e f g k n) ∧ Below w.heap.size w w' := by
  have hv := lNum_v3 a b c d e f g k n
  have hc := lNum_k3 a b c d e f g k n
  have he := lNum_q3 a b c d e f g k n
  have ho := lNum_o3 a b c d e f g k n
  generalize lNum_e3 a b c d e f g k n = r at *
  exact calls_way he gfol lNum_X hv rfl (lNum_args a b c d e f g k n) hc ho h hh
def lNum_w4 (a b c d e f g k n : Int) : Value := .bool Bool.true
def lNum_r4 (a b c d e f g k n : Int) : Prop := (((((((((((((((((((((((((((((((((((((((((((((((((((((True ∧ (True)) ∧ (True)) ∧ (True)) ∧ (True)) ∧ (True)) ∧ (True)) ∧ ((true = true))) ∧ (((0 : Int) = (0 : Int)))) ∧ (lNum_c0 a b c d e f g k n = true)) ∧ (((0 : Int) = (0 : Int)))) ∧ (True)) ∧ ((true = true))) ∧ (((0 : Int) = (0 : Int)))) ∧ (lNum_c0 a b c d e f g k n = true)) ∧ (((0 : Int) = (0 : Int)))) ∧ (lNum_c3 a b c d e f g k n = false)) ∧ (lNum_c3 a b c d e f g k n = false)) ∧ (lNum_c3 a b c d e f g k n = false)) ∧ (True)) ∧ (lNum_c4 a b c d e f g k n = true)) ∧ (lNum_b13 a b c d e f g k n)) ∧ (lNum_c17 a b c d e f g k n = true)) ∧ (lNum_c17 a b c d e f g k n = true)) ∧ (lNum_c17 a b c d e f g k n = true)) ∧ (lNum_c17 a b c d e f g k n = true)) ∧ (lNum_c19 a b c d e f g k n = true)) ∧ (lNum_c19 a b c d e f g k n = true)) ∧ (lNum_c19 a b c d e f g k n = true)) ∧ (lNum_c19 a b c d e f g k n = true)) ∧ (lNum_c14 a b c d e f g k n = true)) ∧ (lNum_c14 a b c d e f g k n = true)) ∧ (lNum_c14 a b c d e f g k n = true)) ∧ (lNum_c14 a b c d e f g k n = true)) ∧ (lNum_c20 a b c d e f g k n = true)) ∧ (lNum_c20 a b c d e f g k n = true)) ∧ (lNum_c20 a b c d e f g k n = true)) ∧ (lNum_c20 a b c d e f g k n = true)) ∧ (lNum_c21 a b c d e f g k n = true)) ∧ (lNum_c21 a b c d e f g k n = true)) ∧ (lNum_c21 a b c d e f g k n = true)) ∧ (lNum_c21 a b c d e f g k n = true)) ∧ (lNum_c10 a b c d e f g k n = true)) ∧ (lNum_c10 a b c d e f g k n = true)) ∧ (lNum_c10 a b c d e f g k n = true)) ∧ (lNum_c10 a b c d e f g k n = true)) ∧ (lNum_c11 a b c d e f g k n = true)) ∧ (lNum_c11 a b c d e f g k n = true)) ∧ (lNum_c11 a b c d e f g k n = true)) ∧ (True)) ∧ (lNum_c11 a b c d e f g k n = true)) ∧ (lNum_c11 a b c d e f g k n = true)) ∧ (lNum_c12 a b c d e f g k n = true)) ∧ (lNum_c12 a b c d e f g k n = true))
theorem lNum_o4 (a b c d e f g k n : Int) : obOf (lNum_e4 a b c d e f g k n) = lNum_r4 a b c d e f g k n := by kernel_rfl
theorem lNum_v4 (a b c d e f g k n : Int) : resOf (lNum_e4 a b c d e f g k n) = lNum_w4 a b c d e f g k n := by kernel_rfl
theorem lNum_k4 (a b c d e f g k n : Int) : cleanOf Tryz.prog.globals.size (lNum_e4 a b c d e f g k n) = true := by kernel_rfl
theorem lNum_q4 (a b c d e f g k n : Int) : lNum_e4 a b c d e f g k n = evFS Tryz.prog x_lNum 1000 4 #[.agg #[.int .i64 a, .int .i64 b, .int .i64 c, .int .i64 d], .agg #[.int .i64 e, .int .i64 f, .int .i64 g, .int .i64 k], .int .i64 n] awS0 ⟨[1, 0, 1, 0, 1, 0, 1, 0, 0, 0, 0, 1, 1, 1, 1, 1, 1, 1, 1, 1, 1, 1, 1, 1, 1, 1, 1, 1, 1, 1, 1, 1, 1, 1, 1, 1, 1, 1, 1, 1, 1, 1, 1], True⟩ := by
  delta lNum_e4
  exact Eq.refl _
theorem lNum_p4 (a b c d e f g k n : Int) (h : lNum_r4 a b c d e f g k n) (w : World) (hh : Holds Tryz.prog awS0 w) : Calls Tryz.prog 4 #[.agg #[.int .i64 a, .int .i64 b, .int .i64 c, .int .i64 d], .agg #[.int .i64 e, .int .i64 f, .int .i64 g, .int .i64 k], .int .i64 n] w fun en w' => en = .returned (lNum_w4 a b c d e f g k n) ∧ Below w.heap.size w w' := by
  have hv := lNum_v4 a b c d e f g k n
  have hc := lNum_k4 a b c d e f g k n
  have he := lNum_q4 a b c d e f g k n
  have ho := lNum_o4 a b c d e f g k n
  generalize lNum_e4 a b c d e f g k n = r at *
  exact calls_way he gfol lNum_X hv rfl (lNum_args a b c d e f g k n) hc ho h hh
def lNum_w5 (a b c d e f g k n : Int) : Value := .bool Bool.true
def lNum_r5 (a b c d e f g k n : Int) : Prop := ((((((((((((((((((((((((((((((((((((((((((((((((((((True ∧ (True)) ∧ (True)) ∧ (True)) ∧ (True)) ∧ (True)) ∧ (True)) ∧ ((true = true))) ∧ (((0 : Int) = (0 : Int)))) ∧ (lNum_c0 a b c d e f g k n = true)) ∧ (((0 : Int) = (0 : Int)))) ∧ (True)) ∧ ((true = true))) ∧ (((0 : Int) = (0 : Int)))) ∧ (lNum_c0 a b c d e f g k n = true)) ∧ (((0 : Int) = (0 : Int)))) ∧ (lNum_c3 a b c d e f g k n = false)) ∧ (lNum_c3 a b c d e f g k n = false)) ∧ (lNum_c3 a b c d e f g k n = false)) ∧ (True)) ∧ (lNum_c4 a b c d e f g k n = false)) ∧ (lNum_c17 a b c d e f g k n = true)) ∧ (lNum_c17 a b c d e f g k n = true)) ∧ (lNum_c17 a b c d e f g k n = true)) ∧ (lNum_c17 a b c d e f g k n = true)) ∧ (lNum_c19 a b c d e f g k n = true)) ∧ (lNum_c19 a b c d e f g k n = true)) ∧ (lNum_c19 a b c d e f g k n = true)) ∧ (lNum_c19 a b c d e f g k n = true)) ∧ (lNum_c14 a b c d e f g k n = true)) ∧ (lNum_c14 a b c d e f g k n = true)) ∧ (lNum_c14 a b c d e f g k n = true)) ∧ (lNum_c14 a b c d e f g k n = true)) ∧ (lNum_c20 a b c d e f g k n = true)) ∧ (lNum_c20 a b c d e f g k n = true)) ∧ (lNum_c20 a b c d e f g k n = true)) ∧ (lNum_c20 a b c d e f g k n = true)) ∧ (lNum_c21 a b c d e f g k n = true)) ∧ (lNum_c21 a b c d e f g k n = true)) ∧ (lNum_c21 a b c d e f g k n = true)) ∧ (lNum_c21 a b c d e f g k n = true)) ∧ (lNum_c10 a b c d e f g k n = true)) ∧ (lNum_c10 a b c d e f g k n = true)) ∧ (lNum_c10 a b c d e f g k n = true)) ∧ (lNum_c10 a b c d e f g k n = true)) ∧ (lNum_c22 a b c d e f g k n = true)) ∧ (lNum_c22 a b c d e f g k n = true)) ∧ (lNum_c22 a b c d e f g k n = true)) ∧ (True)) ∧ (lNum_c22 a b c d e f g k n = true)) ∧ (lNum_c22 a b c d e f g k n = true)) ∧ (lNum_c12 a b c d e f g k n = true)) ∧ (lNum_c12 a b c d e f g k n = true))
theorem lNum_o5 (a b c d e f g k n : Int) : obOf (lNum_e5 a b c d e f g k n) = lNum_r5 a b c d e f g k n := by kernel_rfl
theorem lNum_v5 (a b c d e f g k n : Int) : resOf (lNum_e5 a b c d e f g k n) = lNum_w5 a b c d e f g k n := by kernel_rfl
theorem lNum_k5 (a b c d e f g k n : Int) : cleanOf Tryz.prog.globals.size (lNum_e5 a b c d e f g k n) = true := by kernel_rfl
theorem lNum_q5 (a b c d e f g k n : Int) : lNum_e5 a b c d e f g k n = evFS Tryz.prog x_lNum 1000 4 #[.agg #[.int .i64 a, .int .i64 b, .int .i64 c, .int .i64 d], .agg #[.int .i64 e, .int .i64 f, .int .i64 g, .int .i64 k], .int .i64 n] awS0 ⟨[1, 0, 1, 0, 1, 0, 1, 0, 0, 0, 0, 0, 1, 1, 1, 1, 1, 1, 1, 1, 1, 1, 1, 1, 1, 1, 1, 1, 1, 1, 1, 1, 1, 1, 1, 1, 1, 1, 1, 1, 1, 1, 1], True⟩ := by
  delta lNum_e5
  exact Eq.refl _
theorem lNum_p5 (a b c d e f g k n : Int) (h : lNum_r5 a b c d e f g k n) (w : World) (hh : Holds Tryz.prog awS0 w) : Calls Tryz.prog 4 #[.agg #[.int .i64 a, .int .i64 b, .int .i64 c, .int .i64 d], .agg #[.int .i64 e, .int .i64 f, .int .i64 g, .int .i64 k], .int .i64 n] w fun en w' => en = .returned (lNum_w5 a b c d e f g k n) ∧ Below w.heap.size w w' := by
  have hv := lNum_v5 a b c d e f g k n
  have hc := lNum_k5 a b c d e f g k n
  have he := lNum_q5 a b c d e f g k n
  have ho := lNum_o5 a b c d e f g k n
  generalize lNum_e5 a b c d e f g k n = r at *
  exact calls_way he gfol lNum_X hv rfl (lNum_args a b c d e f g k n) hc ho h hh
theorem lNum_any (a b c d e f g k n : Int) (hpre : True) (w : World) (hh : Holds Tryz.prog awS0 w) : Calls Tryz.prog 4 #[.agg #[.int .i64 a, .int .i64 b, .int .i64 c, .int .i64 d], .agg #[.int .i64 e, .int .i64 f, .int .i64 g, .int .i64 k], .int .i64 n] w fun en w' => en = .returned (.bool true) ∧ Below w.heap.size w w' := by
  rcases Bool.eq_false_or_eq_true (lNum_c0 a b c d e f g k n) with h0 | h0
  ·
    unfold lNum_c0 at h0
    have h1 : (lNum_c3 a b c d e f g k n = false) := by
      unfold lNum_c3
      first | rfl | trivial | assumption | ((try simp only [bne_eq_false_iff_eq, bne_iff_ne, ne_eq, beq_iff_eq, beq_eq_false_iff_ne] at *) <;> first | assumption | exact ⟨b16of (by assumption), b4of (by assumption)⟩ | exact ⟨b4of (by assumption), cr0.1 (by assumption)⟩ | exact b4of (by assumption) | exact root0 (by assumption) | exact root00 (by assumption) | (simp [cz, two, *]; done))
    unfold lNum_c3 at h1
    rcases Bool.eq_false_or_eq_true (lNum_c4 a b c d e f g k n) with h2 | h2
    ·
      unfold lNum_c4 at h2
      have h3 : (lNum_b13 a b c d e f g k n) := by
        unfold lNum_b13
        first | rfl | trivial | assumption | ((try simp only [bne_eq_false_iff_eq, bne_iff_ne, ne_eq, beq_iff_eq, beq_eq_false_iff_ne] at *) <;> first | assumption | exact ⟨b16of (by assumption), b4of (by assumption)⟩ | exact ⟨b4of (by assumption), cr0.1 (by assumption)⟩ | exact b4of (by assumption) | exact root0 (by assumption) | exact root00 (by assumption) | (simp [cz, two, *]; done))
      unfold lNum_b13 at h3
      have h4 : (lNum_c17 a b c d e f g k n = true) := by
        unfold lNum_c17
        first | rfl | trivial | assumption | ((try simp only [bne_eq_false_iff_eq, bne_iff_ne, ne_eq, beq_iff_eq, beq_eq_false_iff_ne] at *) <;> first | assumption | exact ⟨b16of (by assumption), b4of (by assumption)⟩ | exact ⟨b4of (by assumption), cr0.1 (by assumption)⟩ | exact b4of (by assumption) | exact root0 (by assumption) | exact root00 (by assumption) | (simp [cz, two, *]; done))
      unfold lNum_c17 at h4
      have h5 : (lNum_c19 a b c d e f g k n = true) := by
        unfold lNum_c19
        first | rfl | trivial | assumption | ((try simp only [bne_eq_false_iff_eq, bne_iff_ne, ne_eq, beq_iff_eq, beq_eq_false_iff_ne] at *) <;> first | assumption | exact ⟨b16of (by assumption), b4of (by assumption)⟩ | exact ⟨b4of (by assumption), cr0.1 (by assumption)⟩ | exact b4of (by assumption) | exact root0 (by assumption) | exact root00 (by assumption) | (simp [cz, two, *]; done))
      unfold lNum_c19 at h5
      have h6 : (lNum_c14 a b c d e f g k n = true) := by
        unfold lNum_c14
        first | rfl | trivial | assumption | ((try simp only [bne_eq_false_iff_eq, bne_iff_ne, ne_eq, beq_iff_eq, beq_eq_false_iff_ne] at *) <;> first | assumption | exact ⟨b16of (by assumption), b4of (by assumption)⟩ | exact ⟨b4of (by assumption), cr0.1 (by assumption)⟩ | exact b4of (by assumption) | exact root0 (by assumption) | exact root00 (by assumption) | (simp [cz, two, *]; done))
      unfold lNum_c14 at h6
      have h7 : (lNum_c20 a b c d e f g k n = true) := by
        unfold lNum_c20
        first | rfl | trivial | assumption | ((try simp only [bne_eq_false_iff_eq, bne_iff_ne, ne_eq, beq_iff_eq, beq_eq_false_iff_ne] at *) <;> first | assumption | exact ⟨b16of (by assumption), b4of (by assumption)⟩ | exact ⟨b4of (by assumption), cr0.1 (by assumption)⟩ | exact b4of (by assumption) | exact root0 (by assumption) | exact root00 (by assumption) | (simp [cz, two, *]; done))
      unfold lNum_c20 at h7
      have h8 : (lNum_c21 a b c d e f g k n = true) := by
        unfold lNum_c21
        first | rfl | trivial | assumption | ((try simp only [bne_eq_false_iff_eq, bne_iff_ne, ne_eq, beq_iff_eq, beq_eq_false_iff_ne] at *) <;> first | assumption | exact ⟨b16of (by assumption), b4of (by assumption)⟩ | exact ⟨b4of (by assumption), cr0.1 (by assumption)⟩ | exact b4of (by assumption) | exact root0 (by assumption) | exact root00 (by assumption) | (simp [cz, two, *]; done))
      unfold lNum_c21 at h8
      have h9 : (lNum_c10 a b c d e f g k n = true) := by
        unfold lNum_c10
        first | rfl | trivial | assumption | ((try simp only [bne_eq_false_iff_eq, bne_iff_ne, ne_eq, beq_iff_eq, beq_eq_false_iff_ne] at *) <;> first | assumption | exact ⟨b16of (by assumption), b4of (by assumption)⟩ | exact ⟨b4of (by assumption), cr0.1 (by assumption)⟩ | exact b4of (by assumption) | exact root0 (by assumption) | exact root00 (by assumption) | (simp [cz, two, *]; done))
      unfold lNum_c10 at h9
      have h10 : (lNum_c11 a b c d e f g k n = true) := by
        unfold lNum_c11
        first | rfl | trivial | assumption | ((try simp only [bne_eq_false_iff_eq, bne_iff_ne, ne_eq, beq_iff_eq, beq_eq_false_iff_ne] at *) <;> first | assumption | exact ⟨b16of (by assumption), b4of (by assumption)⟩ | exact ⟨b4of (by assumption), cr0.1 (by assumption)⟩ | exact b4of (by assumption) | exact root0 (by assumption) | exact root00 (by assumption) | (simp [cz, two, *]; done))
      unfold lNum_c11 at h10
      have h11 : (lNum_c12 a b c d e f g k n = true) := by
        unfold lNum_c12
        first | rfl | trivial | assumption | ((try simp only [bne_eq_false_iff_eq, bne_iff_ne, ne_eq, beq_iff_eq, beq_eq_false_iff_ne] at *) <;> first | assumption | exact ⟨b16of (by assumption), b4of (by assumption)⟩ | exact ⟨b4of (by assumption), cr0.1 (by assumption)⟩ | exact b4of (by assumption) | exact root0 (by assumption) | exact root00 (by assumption) | (simp [cz, two, *]; done))
      unfold lNum_c12 at h11
      have hp := lNum_p4 a b c d e f g k n ⟨⟨⟨⟨⟨⟨⟨⟨⟨⟨⟨⟨⟨⟨⟨⟨⟨⟨⟨⟨⟨⟨⟨⟨⟨⟨⟨⟨⟨⟨⟨⟨⟨⟨⟨⟨⟨⟨⟨⟨⟨⟨⟨⟨⟨⟨⟨⟨⟨⟨⟨⟨⟨trivial, lNum_g0⟩, lNum_g0⟩, lNum_g0⟩, lNum_g0⟩, lNum_g0⟩, lNum_g0⟩, lNum_g1⟩, lNum_g2⟩, h0⟩, lNum_g2⟩, lNum_g0⟩, lNum_g1⟩, lNum_g2⟩, h0⟩, lNum_g2⟩, h1⟩, h1⟩, h1⟩, lNum_g0⟩, h2⟩, h3⟩, h4⟩, h4⟩, h4⟩, h4⟩, h5⟩, h5⟩, h5⟩, h5⟩, h6⟩, h6⟩, h6⟩, h6⟩, h7⟩, h7⟩, h7⟩, h7⟩, h8⟩, h8⟩, h8⟩, h8⟩, h9⟩, h9⟩, h9⟩, h9⟩, h10⟩, h10⟩, h10⟩, lNum_g0⟩, h10⟩, h10⟩, h11⟩, h11⟩ w hh
      have hv : lNum_w4 a b c d e f g k n = (.bool true) := by
        clear hp hh
        unfold lNum_w4
        rfl
      exact hv ▸ hp
    ·
      unfold lNum_c4 at h2
      have h12 : (lNum_c17 a b c d e f g k n = true) := by
        unfold lNum_c17
        first | rfl | trivial | assumption | ((try simp only [bne_eq_false_iff_eq, bne_iff_ne, ne_eq, beq_iff_eq, beq_eq_false_iff_ne] at *) <;> first | assumption | exact ⟨b16of (by assumption), b4of (by assumption)⟩ | exact ⟨b4of (by assumption), cr0.1 (by assumption)⟩ | exact b4of (by assumption) | exact root0 (by assumption) | exact root00 (by assumption) | (simp [cz, two, *]; done))
      unfold lNum_c17 at h12
      have h13 : (lNum_c19 a b c d e f g k n = true) := by
        unfold lNum_c19
        first | rfl | trivial | assumption | ((try simp only [bne_eq_false_iff_eq, bne_iff_ne, ne_eq, beq_iff_eq, beq_eq_false_iff_ne] at *) <;> first | assumption | exact ⟨b16of (by assumption), b4of (by assumption)⟩ | exact ⟨b4of (by assumption), cr0.1 (by assumption)⟩ | exact b4of (by assumption) | exact root0 (by assumption) | exact root00 (by assumption) | (simp [cz, two, *]; done))
      unfold lNum_c19 at h13
      have h14 : (lNum_c14 a b c d e f g k n = true) := by
        unfold lNum_c14
        first | rfl | trivial | assumption | ((try simp only [bne_eq_false_iff_eq, bne_iff_ne, ne_eq, beq_iff_eq, beq_eq_false_iff_ne] at *) <;> first | assumption | exact ⟨b16of (by assumption), b4of (by assumption)⟩ | exact ⟨b4of (by assumption), cr0.1 (by assumption)⟩ | exact b4of (by assumption) | exact root0 (by assumption) | exact root00 (by assumption) | (simp [cz, two, *]; done))
      unfold lNum_c14 at h14
      have h15 : (lNum_c20 a b c d e f g k n = true) := by
        unfold lNum_c20
        first | rfl | trivial | assumption | ((try simp only [bne_eq_false_iff_eq, bne_iff_ne, ne_eq, beq_iff_eq, beq_eq_false_iff_ne] at *) <;> first | assumption | exact ⟨b16of (by assumption), b4of (by assumption)⟩ | exact ⟨b4of (by assumption), cr0.1 (by assumption)⟩ | exact b4of (by assumption) | exact root0 (by assumption) | exact root00 (by assumption) | (simp [cz, two, *]; done))
      unfold lNum_c20 at h15
      have h16 : (lNum_c21 a b c d e f g k n = true) := by
        unfold lNum_c21
        first | rfl | trivial | assumption | ((try simp only [bne_eq_false_iff_eq, bne_iff_ne, ne_eq, beq_iff_eq, beq_eq_false_iff_ne] at *) <;> first | assumption | exact ⟨b16of (by assumption), b4of (by assumption)⟩ | exact ⟨b4of (by assumption), cr0.1 (by assumption)⟩ | exact b4of (by assumption) | exact root0 (by assumption) | exact root00 (by assumption) | (simp [cz, two, *]; done))
      unfold lNum_c21 at h16
      have h17 : (lNum_c10 a b c d e f g k n = true) := by
        unfold lNum_c10
        first | rfl | trivial | assumption | ((try simp only [bne_eq_false_iff_eq, bne_iff_ne, ne_eq, beq_iff_eq, beq_eq_false_iff_ne] at *) <;> first | assumption | exact ⟨b16of (by assumption), b4of (by assumption)⟩ | exact ⟨b4of (by assumption), cr0.1 (by assumption)⟩ | exact b4of (by assumption) | exact root0 (by assumption) | exact root00 (by assumption) | (simp [cz, two, *]; done))
      unfold lNum_c10 at h17
      have h18 : (lNum_c22 a b c d e f g k n = true) := by
        unfold lNum_c22
        first | rfl | trivial | assumption | ((try simp only [bne_eq_false_iff_eq, bne_iff_ne, ne_eq, beq_iff_eq, beq_eq_false_iff_ne] at *) <;> first | assumption | exact ⟨b16of (by assumption), b4of (by assumption)⟩ | exact ⟨b4of (by assumption), cr0.1 (by assumption)⟩ | exact b4of (by assumption) | exact root0 (by assumption) | exact root00 (by assumption) | (simp [cz, two, *]; done))
      unfold lNum_c22 at h18
      have h19 : (lNum_c12 a b c d e f g k n = true) := by
        unfold lNum_c12
        first | rfl | trivial | assumption | ((try simp only [bne_eq_false_iff_eq, bne_iff_ne, ne_eq, beq_iff_eq, beq_eq_false_iff_ne] at *) <;> first | assumption | exact ⟨b16of (by assumption), b4of (by assumption)⟩ | exact ⟨b4of (by assumption), cr0.1 (by assumption)⟩ | exact b4of (by assumption) | exact root0 (by assumption) | exact root00 (by assumption) | (simp [cz, two, *]; done))
      unfold lNum_c12 at h19
      have hp := lNum_p5 a b c d e f g k n ⟨⟨⟨⟨⟨⟨⟨⟨⟨⟨⟨⟨⟨⟨⟨⟨⟨⟨⟨⟨⟨⟨⟨⟨⟨⟨⟨⟨⟨⟨⟨⟨⟨⟨⟨⟨⟨⟨⟨⟨⟨⟨⟨⟨⟨⟨⟨⟨⟨⟨⟨⟨trivial, lNum_g0⟩, lNum_g0⟩, lNum_g0⟩, lNum_g0⟩, lNum_g0⟩, lNum_g0⟩, lNum_g1⟩, lNum_g2⟩, h0⟩, lNum_g2⟩, lNum_g0⟩, lNum_g1⟩, lNum_g2⟩, h0⟩, lNum_g2⟩, h1⟩, h1⟩, h1⟩, lNum_g0⟩, h2⟩, h12⟩, h12⟩, h12⟩, h12⟩, h13⟩, h13⟩, h13⟩, h13⟩, h14⟩, h14⟩, h14⟩, h14⟩, h15⟩, h15⟩, h15⟩, h15⟩, h16⟩, h16⟩, h16⟩, h16⟩, h17⟩, h17⟩, h17⟩, h17⟩, h18⟩, h18⟩, h18⟩, lNum_g0⟩, h18⟩, h18⟩, h19⟩, h19⟩ w hh
      have hv : lNum_w5 a b c d e f g k n = (.bool true) := by
        clear hp hh
        unfold lNum_w5
        rfl
      exact hv ▸ hp
  ·
    unfold lNum_c0 at h0
    rcases Bool.eq_false_or_eq_true (lNum_c1 a b c d e f g k n) with h20 | h20
    ·
      unfold lNum_c1 at h20
      rcases Bool.eq_false_or_eq_true (lNum_c2 a b c d e f g k n) with h21 | h21
      ·
        unfold lNum_c2 at h21
        have h22 : (lNum_c16 a b c d e f g k n = false) := by
          unfold lNum_c16
          first | rfl | trivial | assumption | ((try simp only [bne_eq_false_iff_eq, bne_iff_ne, ne_eq, beq_iff_eq, beq_eq_false_iff_ne] at *) <;> first | assumption | exact ⟨b16of (by assumption), b4of (by assumption)⟩ | exact ⟨b4of (by assumption), cr0.1 (by assumption)⟩ | exact b4of (by assumption) | exact root0 (by assumption) | exact root00 (by assumption) | (simp [cz, two, *]; done))
        unfold lNum_c16 at h22
        have h23 : (lNum_c13 a b c d e f g k n = false) := by
          unfold lNum_c13
          first | rfl | trivial | assumption | ((try simp only [bne_eq_false_iff_eq, bne_iff_ne, ne_eq, beq_iff_eq, beq_eq_false_iff_ne] at *) <;> first | assumption | exact ⟨b16of (by assumption), b4of (by assumption)⟩ | exact ⟨b4of (by assumption), cr0.1 (by assumption)⟩ | exact b4of (by assumption) | exact root0 (by assumption) | exact root00 (by assumption) | (simp [cz, two, *]; done))
        unfold lNum_c13 at h23
        have h24 : (lNum_c3 a b c d e f g k n = true) := by
          unfold lNum_c3
          first | rfl | trivial | assumption | ((try simp only [bne_eq_false_iff_eq, bne_iff_ne, ne_eq, beq_iff_eq, beq_eq_false_iff_ne] at *) <;> first | assumption | exact ⟨b16of (by assumption), b4of (by assumption)⟩ | exact ⟨b4of (by assumption), cr0.1 (by assumption)⟩ | exact b4of (by assumption) | exact root0 (by assumption) | exact root00 (by assumption) | (simp [cz, two, *]; done))
        unfold lNum_c3 at h24
        have h25 : (lNum_b11 a b c d e f g k n) := by
          unfold lNum_b11
          first | rfl | trivial | assumption | ((try simp only [bne_eq_false_iff_eq, bne_iff_ne, ne_eq, beq_iff_eq, beq_eq_false_iff_ne] at *) <;> first | assumption | exact ⟨b16of (by assumption), b4of (by assumption)⟩ | exact ⟨b4of (by assumption), cr0.1 (by assumption)⟩ | exact b4of (by assumption) | exact root0 (by assumption) | exact root00 (by assumption) | (simp [cz, two, *]; done))
        unfold lNum_b11 at h25
        have h26 : (lNum_c4 a b c d e f g k n = true) := by
          unfold lNum_c4
          first | rfl | trivial | assumption | ((try simp only [bne_eq_false_iff_eq, bne_iff_ne, ne_eq, beq_iff_eq, beq_eq_false_iff_ne] at *) <;> first | assumption | exact ⟨b16of (by assumption), b4of (by assumption)⟩ | exact ⟨b4of (by assumption), cr0.1 (by assumption)⟩ | exact b4of (by assumption) | exact root0 (by assumption) | exact root00 (by assumption) | (simp [cz, two, *]; done))
        unfold lNum_c4 at h26
        have h27 : (lNum_b13 a b c d e f g k n) := by
          unfold lNum_b13
          first | rfl | trivial | assumption | ((try simp only [bne_eq_false_iff_eq, bne_iff_ne, ne_eq, beq_iff_eq, beq_eq_false_iff_ne] at *) <;> first | assumption | exact ⟨b16of (by assumption), b4of (by assumption)⟩ | exact ⟨b4of (by assumption), cr0.1 (by assumption)⟩ | exact b4of (by assumption) | exact root0 (by assumption) | exact root00 (by assumption) | (simp [cz, two, *]; done))
        unfold lNum_b13 at h27
        have h28 : (lNum_c17 a b c d e f g k n = true) := by
          unfold lNum_c17
          first | rfl | trivial | assumption | ((try simp only [bne_eq_false_iff_eq, bne_iff_ne, ne_eq, beq_iff_eq, beq_eq_false_iff_ne] at *) <;> first | assumption | exact ⟨b16of (by assumption), b4of (by assumption)⟩ | exact ⟨b4of (by assumption), cr0.1 (by assumption)⟩ | exact b4of (by assumption) | exact root0 (by assumption) | exact root00 (by assumption) | (simp [cz, two, *]; done))
        unfold lNum_c17 at h28
        have h29 : (lNum_c18 a b c d e f g k n = true) := by
          unfold lNum_c18
          first | rfl | trivial | assumption | ((try simp only [bne_eq_false_iff_eq, bne_iff_ne, ne_eq, beq_iff_eq, beq_eq_false_iff_ne] at *) <;> first | assumption | exact ⟨b16of (by assumption), b4of (by assumption)⟩ | exact ⟨b4of (by assumption), cr0.1 (by assumption)⟩ | exact b4of (by assumption) | exact root0 (by assumption) | exact root00 (by assumption) | (simp [cz, two, *]; done))
        unfold lNum_c18 at h29
        have h30 : (lNum_c14 a b c d e f g k n = true) := by
          unfold lNum_c14
          first | rfl | trivial | assumption | ((try simp only [bne_eq_false_iff_eq, bne_iff_ne, ne_eq, beq_iff_eq, beq_eq_false_iff_ne] at *) <;> first | assumption | exact ⟨b16of (by assumption), b4of (by assumption)⟩ | exact ⟨b4of (by assumption), cr0.1 (by assumption)⟩ | exact b4of (by assumption) | exact root0 (by assumption) | exact root00 (by assumption) | (simp [cz, two, *]; done))
        unfold lNum_c14 at h30
        have h31 : (lNum_c15 a b c d e f g k n = true) := by
          unfold lNum_c15
          first | rfl | trivial | assumption | ((try simp only [bne_eq_false_iff_eq, bne_iff_ne, ne_eq, beq_iff_eq, beq_eq_false_iff_ne] at *) <;> first | assumption | exact ⟨b16of (by assumption), b4of (by assumption)⟩ | exact ⟨b4of (by assumption), cr0.1 (by assumption)⟩ | exact b4of (by assumption) | exact root0 (by assumption) | exact root00 (by assumption) | (simp [cz, two, *]; done))
        unfold lNum_c15 at h31
        have h32 : (lNum_c9 a b c d e f g k n = true) := by
          unfold lNum_c9
          first | rfl | trivial | assumption | ((try simp only [bne_eq_false_iff_eq, bne_iff_ne, ne_eq, beq_iff_eq, beq_eq_false_iff_ne] at *) <;> first | assumption | exact ⟨b16of (by assumption), b4of (by assumption)⟩ | exact ⟨b4of (by assumption), cr0.1 (by assumption)⟩ | exact b4of (by assumption) | exact root0 (by assumption) | exact root00 (by assumption) | (simp [cz, two, *]; done))
        unfold lNum_c9 at h32
        have h33 : (lNum_c10 a b c d e f g k n = true) := by
          unfold lNum_c10
          first | rfl | trivial | assumption | ((try simp only [bne_eq_false_iff_eq, bne_iff_ne, ne_eq, beq_iff_eq, beq_eq_false_iff_ne] at *) <;> first | assumption | exact ⟨b16of (by assumption), b4of (by assumption)⟩ | exact ⟨b4of (by assumption), cr0.1 (by assumption)⟩ | exact b4of (by assumption) | exact root0 (by assumption) | exact root00 (by assumption) | (simp [cz, two, *]; done))
        unfold lNum_c10 at h33
        have h34 : (lNum_c11 a b c d e f g k n = true) := by
          unfold lNum_c11
          first | rfl | trivial | assumption | ((try simp only [bne_eq_false_iff_eq, bne_iff_ne, ne_eq, beq_iff_eq, beq_eq_false_iff_ne] at *) <;> first | assumption | exact ⟨b16of (by assumption), b4of (by assumption)⟩ | exact ⟨b4of (by assumption), cr0.1 (by assumption)⟩ | exact b4of (by assumption) | exact root0 (by assumption) | exact root00 (by assumption) | (simp [cz, two, *]; done))
        unfold lNum_c11 at h34
        have h35 : (lNum_c12 a b c d e f g k n = true) := by
          unfold lNum_c12
          first | rfl | trivial | assumption | ((try simp only [bne_eq_false_iff_eq, bne_iff_ne, ne_eq, beq_iff_eq, beq_eq_false_iff_ne] at *) <;> first | assumption | exact ⟨b16of (by assumption), b4of (by assumption)⟩ | exact ⟨b4of (by assumption), cr0.1 (by assumption)⟩ | exact b4of (by assumption) | exact root0 (by assumption) | exact root00 (by assumption) | (simp [cz, two, *]; done))
        unfold lNum_c12 at h35
        have hp := lNum_p3 a b c d e f g k n ⟨⟨⟨⟨⟨⟨⟨⟨⟨⟨⟨⟨⟨⟨⟨⟨⟨⟨⟨⟨⟨⟨⟨⟨⟨⟨⟨⟨⟨⟨⟨⟨⟨⟨⟨⟨⟨⟨⟨⟨⟨⟨⟨⟨⟨⟨⟨⟨⟨⟨⟨⟨⟨⟨⟨⟨⟨⟨⟨⟨trivial, lNum_g0⟩, lNum_g0⟩, lNum_g0⟩, lNum_g0⟩, lNum_g0⟩, lNum_g0⟩, lNum_g1⟩, lNum_g2⟩, h0⟩, lNum_g1⟩, lNum_g4⟩, h20⟩, lNum_g4⟩, lNum_g0⟩, lNum_g1⟩, lNum_g2⟩, h0⟩, lNum_g1⟩, lNum_g4⟩, h21⟩, lNum_g4⟩, h22⟩, h23⟩, h24⟩, h25⟩, lNum_g0⟩, h26⟩, h27⟩, h28⟩, h28⟩, h28⟩, h28⟩, h29⟩, h29⟩, h29⟩, h29⟩, h30⟩, h30⟩, h30⟩, h30⟩, h31⟩, h31⟩, h31⟩, h31⟩, h32⟩, h32⟩, h32⟩, h32⟩, h33⟩, h33⟩, h33⟩, h33⟩, h34⟩, h34⟩, h34⟩, lNum_g0⟩, h34⟩, h34⟩, h35⟩, h35⟩ w hh
        have hv : lNum_w3 a b c d e f g k n = (.bool true) := by
          clear hp hh
          unfold lNum_w3
          rfl
        exact hv ▸ hp
      ·
        unfold lNum_c2 at h21
        have h36 : (lNum_c16 a b c d e f g k n = false) := by
          unfold lNum_c16
          first | rfl | trivial | assumption | ((try simp only [bne_eq_false_iff_eq, bne_iff_ne, ne_eq, beq_iff_eq, beq_eq_false_iff_ne] at *) <;> first | assumption | exact ⟨b16of (by assumption), b4of (by assumption)⟩ | exact ⟨b4of (by assumption), cr0.1 (by assumption)⟩ | exact b4of (by assumption) | exact root0 (by assumption) | exact root00 (by assumption) | (simp [cz, two, *]; done))
        unfold lNum_c16 at h36
        have h37 : (lNum_b9 a b c d e f g k n) := by
          unfold lNum_b9
          first | rfl | trivial | assumption | ((try simp only [bne_eq_false_iff_eq, bne_iff_ne, ne_eq, beq_iff_eq, beq_eq_false_iff_ne] at *) <;> first | assumption | exact ⟨b16of (by assumption), b4of (by assumption)⟩ | exact ⟨b4of (by assumption), cr0.1 (by assumption)⟩ | exact b4of (by assumption) | exact root0 (by assumption) | exact root00 (by assumption) | (simp [cz, two, *]; done))
        unfold lNum_b9 at h37
        have h38 : (lNum_c3 a b c d e f g k n = true) := by
          unfold lNum_c3
          first | rfl | trivial | assumption | ((try simp only [bne_eq_false_iff_eq, bne_iff_ne, ne_eq, beq_iff_eq, beq_eq_false_iff_ne] at *) <;> first | assumption | exact ⟨b16of (by assumption), b4of (by assumption)⟩ | exact ⟨b4of (by assumption), cr0.1 (by assumption)⟩ | exact b4of (by assumption) | exact root0 (by assumption) | exact root00 (by assumption) | (simp [cz, two, *]; done))
        unfold lNum_c3 at h38
        have h39 : (lNum_b11 a b c d e f g k n) := by
          unfold lNum_b11
          first | rfl | trivial | assumption | ((try simp only [bne_eq_false_iff_eq, bne_iff_ne, ne_eq, beq_iff_eq, beq_eq_false_iff_ne] at *) <;> first | assumption | exact ⟨b16of (by assumption), b4of (by assumption)⟩ | exact ⟨b4of (by assumption), cr0.1 (by assumption)⟩ | exact b4of (by assumption) | exact root0 (by assumption) | exact root00 (by assumption) | (simp [cz, two, *]; done))
        unfold lNum_b11 at h39
        have h40 : (lNum_c4 a b c d e f g k n = true) := by
          unfold lNum_c4
          first | rfl | trivial | assumption | ((try simp only [bne_eq_false_iff_eq, bne_iff_ne, ne_eq, beq_iff_eq, beq_eq_false_iff_ne] at *) <;> first | assumption | exact ⟨b16of (by assumption), b4of (by assumption)⟩ | exact ⟨b4of (by assumption), cr0.1 (by assumption)⟩ | exact b4of (by assumption) | exact root0 (by assumption) | exact root00 (by assumption) | (simp [cz, two, *]; done))
        unfold lNum_c4 at h40
        have h41 : (lNum_b13 a b c d e f g k n) := by
          unfold lNum_b13
          first | rfl | trivial | assumption | ((try simp only [bne_eq_false_iff_eq, bne_iff_ne, ne_eq, beq_iff_eq, beq_eq_false_iff_ne] at *) <;> first | assumption | exact ⟨b16of (by assumption), b4of (by assumption)⟩ | exact ⟨b4of (by assumption), cr0.1 (by assumption)⟩ | exact b4of (by assumption) | exact root0 (by assumption) | exact root00 (by assumption) | (simp [cz, two, *]; done))
        unfold lNum_b13 at h41
        have h42 : (lNum_c17 a b c d e f g k n = true) := by
          unfold lNum_c17
          first | rfl | trivial | assumption | ((try simp only [bne_eq_false_iff_eq, bne_iff_ne, ne_eq, beq_iff_eq, beq_eq_false_iff_ne] at *) <;> first | assumption | exact ⟨b16of (by assumption), b4of (by assumption)⟩ | exact ⟨b4of (by assumption), cr0.1 (by assumption)⟩ | exact b4of (by assumption) | exact root0 (by assumption) | exact root00 (by assumption) | (simp [cz, two, *]; done))
        unfold lNum_c17 at h42
        have h43 : (lNum_c18 a b c d e f g k n = true) := by
          unfold lNum_c18
          first | rfl | trivial | assumption | ((try simp only [bne_eq_false_iff_eq, bne_iff_ne, ne_eq, beq_iff_eq, beq_eq_false_iff_ne] at *) <;> first | assumption | exact ⟨b16of (by assumption), b4of (by assumption)⟩ | exact ⟨b4of (by assumption), cr0.1 (by assumption)⟩ | exact b4of (by assumption) | exact root0 (by assumption) | exact root00 (by assumption) | (simp [cz, two, *]; done))
        unfold lNum_c18 at h43
        have h44 : (lNum_c7 a b c d e f g k n = true) := by
          unfold lNum_c7
          first | rfl | trivial | assumption | ((try simp only [bne_eq_false_iff_eq, bne_iff_ne, ne_eq, beq_iff_eq, beq_eq_false_iff_ne] at *) <;> first | assumption | exact ⟨b16of (by assumption), b4of (by assumption)⟩ | exact ⟨b4of (by assumption), cr0.1 (by assumption)⟩ | exact b4of (by assumption) | exact root0 (by assumption) | exact root00 (by assumption) | (simp [cz, two, *]; done))
        unfold lNum_c7 at h44
        have h45 : (lNum_c8 a b c d e f g k n = true) := by
          unfold lNum_c8
          first | rfl | trivial | assumption | ((try simp only [bne_eq_false_iff_eq, bne_iff_ne, ne_eq, beq_iff_eq, beq_eq_false_iff_ne] at *) <;> first | assumption | exact ⟨b16of (by assumption), b4of (by assumption)⟩ | exact ⟨b4of (by assumption), cr0.1 (by assumption)⟩ | exact b4of (by assumption) | exact root0 (by assumption) | exact root00 (by assumption) | (simp [cz, two, *]; done))
        unfold lNum_c8 at h45
        have h46 : (lNum_c9 a b c d e f g k n = true) := by
          unfold lNum_c9
          first | rfl | trivial | assumption | ((try simp only [bne_eq_false_iff_eq, bne_iff_ne, ne_eq, beq_iff_eq, beq_eq_false_iff_ne] at *) <;> first | assumption | exact ⟨b16of (by assumption), b4of (by assumption)⟩ | exact ⟨b4of (by assumption), cr0.1 (by assumption)⟩ | exact b4of (by assumption) | exact root0 (by assumption) | exact root00 (by assumption) | (simp [cz, two, *]; done))
        unfold lNum_c9 at h46
        have h47 : (lNum_c10 a b c d e f g k n = true) := by
          unfold lNum_c10
          first | rfl | trivial | assumption | ((try simp only [bne_eq_false_iff_eq, bne_iff_ne, ne_eq, beq_iff_eq, beq_eq_false_iff_ne] at *) <;> first | assumption | exact ⟨b16of (by assumption), b4of (by assumption)⟩ | exact ⟨b4of (by assumption), cr0.1 (by assumption)⟩ | exact b4of (by assumption) | exact root0 (by assumption) | exact root00 (by assumption) | (simp [cz, two, *]; done))
        unfold lNum_c10 at h47
        have h48 : (lNum_c11 a b c d e f g k n = true) := by
          unfold lNum_c11
          first | rfl | trivial | assumption | ((try simp only [bne_eq_false_iff_eq, bne_iff_ne, ne_eq, beq_iff_eq, beq_eq_false_iff_ne] at *) <;> first | assumption | exact ⟨b16of (by assumption), b4of (by assumption)⟩ | exact ⟨b4of (by assumption), cr0.1 (by assumption)⟩ | exact b4of (by assumption) | exact root0 (by assumption) | exact root00 (by assumption) | (simp [cz, two, *]; done))
        unfold lNum_c11 at h48
        have h49 : (lNum_c12 a b c d e f g k n = true) := by
          unfold lNum_c12
          first | rfl | trivial | assumption | ((try simp only [bne_eq_false_iff_eq, bne_iff_ne, ne_eq, beq_iff_eq, beq_eq_false_iff_ne] at *) <;> first | assumption | exact ⟨b16of (by assumption), b4of (by assumption)⟩ | exact ⟨b4of (by assumption), cr0.1 (by assumption)⟩ | exact b4of (by assumption) | exact root0 (by assumption) | exact root00 (by assumption) | (simp [cz, two, *]; done))
        unfold lNum_c12 at h49
        have hp := lNum_p2 a b c d e f g k n ⟨⟨⟨⟨⟨⟨⟨⟨⟨⟨⟨⟨⟨⟨⟨⟨⟨⟨⟨⟨⟨⟨⟨⟨⟨⟨⟨⟨⟨⟨⟨⟨⟨⟨⟨⟨⟨⟨⟨⟨⟨⟨⟨⟨⟨⟨⟨⟨⟨⟨⟨⟨⟨⟨⟨⟨⟨⟨⟨⟨⟨trivial, lNum_g0⟩, lNum_g0⟩, lNum_g0⟩, lNum_g0⟩, lNum_g0⟩, lNum_g0⟩, lNum_g1⟩, lNum_g2⟩, h0⟩, lNum_g1⟩, lNum_g4⟩, h20⟩, lNum_g4⟩, lNum_g0⟩, lNum_g1⟩, lNum_g2⟩, h0⟩, lNum_g1⟩, lNum_g4⟩, h21⟩, lNum_g6⟩, h36⟩, lNum_g1⟩, h37⟩, h38⟩, h39⟩, lNum_g0⟩, h40⟩, h41⟩, h42⟩, h42⟩, h42⟩, h42⟩, h43⟩, h43⟩, h43⟩, h43⟩, h44⟩, h44⟩, h44⟩, h44⟩, h45⟩, h45⟩, h45⟩, h45⟩, h46⟩, h46⟩, h46⟩, h46⟩, h47⟩, h47⟩, h47⟩, h47⟩, h48⟩, h48⟩, h48⟩, lNum_g0⟩, h48⟩, h48⟩, h49⟩, h49⟩ w hh
        have hv : lNum_w2 a b c d e f g k n = (.bool true) := by
          clear hp hh
          unfold lNum_w2
          rfl
        exact hv ▸ hp
    ·
      unfold lNum_c1 at h20
      rcases Bool.eq_false_or_eq_true (lNum_c2 a b c d e f g k n) with h50 | h50
      ·
        unfold lNum_c2 at h50
        have h51 : (lNum_b8 a b c d e f g k n) := by
          unfold lNum_b8
          first | rfl | trivial | assumption | ((try simp only [bne_eq_false_iff_eq, bne_iff_ne, ne_eq, beq_iff_eq, beq_eq_false_iff_ne] at *) <;> first | assumption | exact ⟨b16of (by assumption), b4of (by assumption)⟩ | exact ⟨b4of (by assumption), cr0.1 (by assumption)⟩ | exact b4of (by assumption) | exact root0 (by assumption) | exact root00 (by assumption) | (simp [cz, two, *]; done))
        unfold lNum_b8 at h51
        have h52 : (lNum_c13 a b c d e f g k n = false) := by
          unfold lNum_c13
          first | rfl | trivial | assumption | ((try simp only [bne_eq_false_iff_eq, bne_iff_ne, ne_eq, beq_iff_eq, beq_eq_false_iff_ne] at *) <;> first | assumption | exact ⟨b16of (by assumption), b4of (by assumption)⟩ | exact ⟨b4of (by assumption), cr0.1 (by assumption)⟩ | exact b4of (by assumption) | exact root0 (by assumption) | exact root00 (by assumption) | (simp [cz, two, *]; done))
        unfold lNum_c13 at h52
        have h53 : (lNum_c3 a b c d e f g k n = true) := by
          unfold lNum_c3
          first | rfl | trivial | assumption | ((try simp only [bne_eq_false_iff_eq, bne_iff_ne, ne_eq, beq_iff_eq, beq_eq_false_iff_ne] at *) <;> first | assumption | exact ⟨b16of (by assumption), b4of (by assumption)⟩ | exact ⟨b4of (by assumption), cr0.1 (by assumption)⟩ | exact b4of (by assumption) | exact root0 (by assumption) | exact root00 (by assumption) | (simp [cz, two, *]; done))
        unfold lNum_c3 at h53
        have h54 : (lNum_b11 a b c d e f g k n) := by
          unfold lNum_b11
          first | rfl | trivial | assumption | ((try simp only [bne_eq_false_iff_eq, bne_iff_ne, ne_eq, beq_iff_eq, beq_eq_false_iff_ne] at *) <;> first | assumption | exact ⟨b16of (by assumption), b4of (by assumption)⟩ | exact ⟨b4of (by assumption), cr0.1 (by assumption)⟩ | exact b4of (by assumption) | exact root0 (by assumption) | exact root00 (by assumption) | (simp [cz, two, *]; done))
        unfold lNum_b11 at h54
        have h55 : (lNum_c4 a b c d e f g k n = true) := by
          unfold lNum_c4
          first | rfl | trivial | assumption | ((try simp only [bne_eq_false_iff_eq, bne_iff_ne, ne_eq, beq_iff_eq, beq_eq_false_iff_ne] at *) <;> first | assumption | exact ⟨b16of (by assumption), b4of (by assumption)⟩ | exact ⟨b4of (by assumption), cr0.1 (by assumption)⟩ | exact b4of (by assumption) | exact root0 (by assumption) | exact root00 (by assumption) | (simp [cz, two, *]; done))
        unfold lNum_c4 at h55
        have h56 : (lNum_b13 a b c d e f g k n) := by
          unfold lNum_b13
          first | rfl | trivial | assumption | ((try simp only [bne_eq_false_iff_eq, bne_iff_ne, ne_eq, beq_iff_eq, beq_eq_false_iff_ne] at *) <;> first | assumption | exact ⟨b16of (by assumption), b4of (by assumption)⟩ | exact ⟨b4of (by assumption), cr0.1 (by assumption)⟩ | exact b4of (by assumption) | exact root0 (by assumption) | exact root00 (by assumption) | (simp [cz, two, *]; done))
        unfold lNum_b13 at h56
        have h57 : (lNum_c5 a b c d e f g k n = true) := by
          unfold lNum_c5
          first | rfl | trivial | assumption | ((try simp only [bne_eq_false_iff_eq, bne_iff_ne, ne_eq, beq_iff_eq, beq_eq_false_iff_ne] at *) <;> first | assumption | exact ⟨b16of (by assumption), b4of (by assumption)⟩ | exact ⟨b4of (by assumption), cr0.1 (by assumption)⟩ | exact b4of (by assumption) | exact root0 (by assumption) | exact root00 (by assumption) | (simp [cz, two, *]; done))
        unfold lNum_c5 at h57
        have h58 : (lNum_c6 a b c d e f g k n = true) := by
          unfold lNum_c6
          first | rfl | trivial | assumption | ((try simp only [bne_eq_false_iff_eq, bne_iff_ne, ne_eq, beq_iff_eq, beq_eq_false_iff_ne] at *) <;> first | assumption | exact ⟨b16of (by assumption), b4of (by assumption)⟩ | exact ⟨b4of (by assumption), cr0.1 (by assumption)⟩ | exact b4of (by assumption) | exact root0 (by assumption) | exact root00 (by assumption) | (simp [cz, two, *]; done))
        unfold lNum_c6 at h58
        have h59 : (lNum_c14 a b c d e f g k n = true) := by
          unfold lNum_c14
          first | rfl | trivial | assumption | ((try simp only [bne_eq_false_iff_eq, bne_iff_ne, ne_eq, beq_iff_eq, beq_eq_false_iff_ne] at *) <;> first | assumption | exact ⟨b16of (by assumption), b4of (by assumption)⟩ | exact ⟨b4of (by assumption), cr0.1 (by assumption)⟩ | exact b4of (by assumption) | exact root0 (by assumption) | exact root00 (by assumption) | (simp [cz, two, *]; done))
        unfold lNum_c14 at h59
        have h60 : (lNum_c15 a b c d e f g k n = true) := by
          unfold lNum_c15
          first | rfl | trivial | assumption | ((try simp only [bne_eq_false_iff_eq, bne_iff_ne, ne_eq, beq_iff_eq, beq_eq_false_iff_ne] at *) <;> first | assumption | exact ⟨b16of (by assumption), b4of (by assumption)⟩ | exact ⟨b4of (by assumption), cr0.1 (by assumption)⟩ | exact b4of (by assumption) | exact root0 (by assumption) | exact root00 (by assumption) | (simp [cz, two, *]; done))
        unfold lNum_c15 at h60
        have h61 : (lNum_c9 a b c d e f g k n = true) := by
          unfold lNum_c9
          first | rfl | trivial | assumption | ((try simp only [bne_eq_false_iff_eq, bne_iff_ne, ne_eq, beq_iff_eq, beq_eq_false_iff_ne] at *) <;> first | assumption | exact ⟨b16of (by assumption), b4of (by assumption)⟩ | exact ⟨b4of (by assumption), cr0.1 (by assumption)⟩ | exact b4of (by assumption) | exact root0 (by assumption) | exact root00 (by assumption) | (simp [cz, two, *]; done))
        unfold lNum_c9 at h61
        have h62 : (lNum_c10 a b c d e f g k n = true) := by
          unfold lNum_c10
          first | rfl | trivial | assumption | ((try simp only [bne_eq_false_iff_eq, bne_iff_ne, ne_eq, beq_iff_eq, beq_eq_false_iff_ne] at *) <;> first | assumption | exact ⟨b16of (by assumption), b4of (by assumption)⟩ | exact ⟨b4of (by assumption), cr0.1 (by assumption)⟩ | exact b4of (by assumption) | exact root0 (by assumption) | exact root00 (by assumption) | (simp [cz, two, *]; done))
        unfold lNum_c10 at h62
        have h63 : (lNum_c11 a b c d e f g k n = true) := by
          unfold lNum_c11
          first | rfl | trivial | assumption | ((try simp only [bne_eq_false_iff_eq, bne_iff_ne, ne_eq, beq_iff_eq, beq_eq_false_iff_ne] at *) <;> first | assumption | exact ⟨b16of (by assumption), b4of (by assumption)⟩ | exact ⟨b4of (by assumption), cr0.1 (by assumption)⟩ | exact b4of (by assumption) | exact root0 (by assumption) | exact root00 (by assumption) | (simp [cz, two, *]; done))
        unfold lNum_c11 at h63
        have h64 : (lNum_c12 a b c d e f g k n = true) := by
          unfold lNum_c12
          first | rfl | trivial | assumption | ((try simp only [bne_eq_false_iff_eq, bne_iff_ne, ne_eq, beq_iff_eq, beq_eq_false_iff_ne] at *) <;> first | assumption | exact ⟨b16of (by assumption), b4of (by assumption)⟩ | exact ⟨b4of (by assumption), cr0.1 (by assumption)⟩ | exact b4of (by assumption) | exact root0 (by assumption) | exact root00 (by assumption) | (simp [cz, two, *]; done))
        unfold lNum_c12 at h64
        have hp := lNum_p1 a b c d e f g k n ⟨⟨⟨⟨⟨⟨⟨⟨⟨⟨⟨⟨⟨⟨⟨⟨⟨⟨⟨⟨⟨⟨⟨⟨⟨⟨⟨⟨⟨⟨⟨⟨⟨⟨⟨⟨⟨⟨⟨⟨⟨⟨⟨⟨⟨⟨⟨⟨⟨⟨⟨⟨⟨⟨⟨⟨⟨⟨⟨⟨⟨trivial, lNum_g0⟩, lNum_g0⟩, lNum_g0⟩, lNum_g0⟩, lNum_g0⟩, lNum_g0⟩, lNum_g1⟩, lNum_g2⟩, h0⟩, lNum_g1⟩, lNum_g4⟩, h20⟩, lNum_g6⟩, lNum_g0⟩, lNum_g1⟩, lNum_g2⟩, h0⟩, lNum_g1⟩, lNum_g4⟩, h50⟩, lNum_g4⟩, lNum_g1⟩, h51⟩, h52⟩, h53⟩, h54⟩, lNum_g0⟩, h55⟩, h56⟩, h57⟩, h57⟩, h57⟩, h57⟩, h58⟩, h58⟩, h58⟩, h58⟩, h59⟩, h59⟩, h59⟩, h59⟩, h60⟩, h60⟩, h60⟩, h60⟩, h61⟩, h61⟩, h61⟩, h61⟩, h62⟩, h62⟩, h62⟩, h62⟩, h63⟩, h63⟩, h63⟩, lNum_g0⟩, h63⟩, h63⟩, h64⟩, h64⟩ w hh
        have hv : lNum_w1 a b c d e f g k n = (.bool true) := by
          clear hp hh
          unfold lNum_w1
          rfl
        exact hv ▸ hp
      ·
        unfold lNum_c2 at h50
        have h65 : (lNum_b8 a b c d e f g k n) := by
          unfold lNum_b8
          first | rfl | trivial | assumption | ((try simp only [bne_eq_false_iff_eq, bne_iff_ne, ne_eq, beq_iff_eq, beq_eq_false_iff_ne] at *) <;> first | assumption | exact ⟨b16of (by assumption), b4of (by assumption)⟩ | exact ⟨b4of (by assumption), cr0.1 (by assumption)⟩ | exact b4of (by assumption) | exact root0 (by assumption) | exact root00 (by assumption) | (simp [cz, two, *]; done))
        unfold lNum_b8 at h65
        have h66 : (lNum_b9 a b c d e f g k n) := by
          unfold lNum_b9
          first | rfl | trivial | assumption | ((try simp only [bne_eq_false_iff_eq, bne_iff_ne, ne_eq, beq_iff_eq, beq_eq_false_iff_ne] at *) <;> first | assumption | exact ⟨b16of (by assumption), b4of (by assumption)⟩ | exact ⟨b4of (by assumption), cr0.1 (by assumption)⟩ | exact b4of (by assumption) | exact root0 (by assumption) | exact root00 (by assumption) | (simp [cz, two, *]; done))
        unfold lNum_b9 at h66
        have h67 : (lNum_c3 a b c d e f g k n = true) := by
          unfold lNum_c3
          first | rfl | trivial | assumption | ((try simp only [bne_eq_false_iff_eq, bne_iff_ne, ne_eq, beq_iff_eq, beq_eq_false_iff_ne] at *) <;> first | assumption | exact ⟨b16of (by assumption), b4of (by assumption)⟩ | exact ⟨b4of (by assumption), cr0.1 (by assumption)⟩ | exact b4of (by assumption) | exact root0 (by assumption) | exact root00 (by assumption) | (simp [cz, two, *]; done))
        unfold lNum_c3 at h67
        have h68 : (lNum_b11 a b c d e f g k n) := by
          unfold lNum_b11
          first | rfl | trivial | assumption | ((try simp only [bne_eq_false_iff_eq, bne_iff_ne, ne_eq, beq_iff_eq, beq_eq_false_iff_ne] at *) <;> first | assumption | exact ⟨b16of (by assumption), b4of (by assumption)⟩ | exact ⟨b4of (by assumption), cr0.1 (by assumption)⟩ | exact b4of (by assumption) | exact root0 (by assumption) | exact root00 (by assumption) | (simp [cz, two, *]; done))
        unfold lNum_b11 at h68
        have h69 : (lNum_c4 a b c d e f g k n = true) := by
          unfold lNum_c4
          first | rfl | trivial | assumption | ((try simp only [bne_eq_false_iff_eq, bne_iff_ne, ne_eq, beq_iff_eq, beq_eq_false_iff_ne] at *) <;> first | assumption | exact ⟨b16of (by assumption), b4of (by assumption)⟩ | exact ⟨b4of (by assumption), cr0.1 (by assumption)⟩ | exact b4of (by assumption) | exact root0 (by assumption) | exact root00 (by assumption) | (simp [cz, two, *]; done))
        unfold lNum_c4 at h69
        have h70 : (lNum_b13 a b c d e f g k n) := by
          unfold lNum_b13
          first | rfl | trivial | assumption | ((try simp only [bne_eq_false_iff_eq, bne_iff_ne, ne_eq, beq_iff_eq, beq_eq_false_iff_ne] at *) <;> first | assumption | exact ⟨b16of (by assumption), b4of (by assumption)⟩ | exact ⟨b4of (by assumption), cr0.1 (by assumption)⟩ | exact b4of (by assumption) | exact root0 (by assumption) | exact root00 (by assumption) | (simp [cz, two, *]; done))
        unfold lNum_b13 at h70
        have h71 : (lNum_c5 a b c d e f g k n = true) := by
          unfold lNum_c5
          first | rfl | trivial | assumption | ((try simp only [bne_eq_false_iff_eq, bne_iff_ne, ne_eq, beq_iff_eq, beq_eq_false_iff_ne] at *) <;> first | assumption | exact ⟨b16of (by assumption), b4of (by assumption)⟩ | exact ⟨b4of (by assumption), cr0.1 (by assumption)⟩ | exact b4of (by assumption) | exact root0 (by assumption) | exact root00 (by assumption) | (simp [cz, two, *]; done))
        unfold lNum_c5 at h71
        have h72 : (lNum_c6 a b c d e f g k n = true) := by
          unfold lNum_c6
          first | rfl | trivial | assumption | ((try simp only [bne_eq_false_iff_eq, bne_iff_ne, ne_eq, beq_iff_eq, beq_eq_false_iff_ne] at *) <;> first | assumption | exact ⟨b16of (by assumption), b4of (by assumption)⟩ | exact ⟨b4of (by assumption), cr0.1 (by assumption)⟩ | exact b4of (by assumption) | exact root0 (by assumption) | exact root00 (by assumption) | (simp [cz, two, *]; done))
        unfold lNum_c6 at h72
        have h73 : (lNum_c7 a b c d e f g k n = true) := by
          unfold lNum_c7
          first | rfl | trivial | assumption | ((try simp only [bne_eq_false_iff_eq, bne_iff_ne, ne_eq, beq_iff_eq, beq_eq_false_iff_ne] at *) <;> first | assumption | exact ⟨b16of (by assumption), b4of (by assumption)⟩ | exact ⟨b4of (by assumption), cr0.1 (by assumption)⟩ | exact b4of (by assumption) | exact root0 (by assumption) | exact root00 (by assumption) | (simp [cz, two, *]; done))
        unfold lNum_c7 at h73
        have h74 : (lNum_c8 a b c d e f g k n = true) := by
          unfold lNum_c8
          first | rfl | trivial | assumption | ((try simp only [bne_eq_false_iff_eq, bne_iff_ne, ne_eq, beq_iff_eq, beq_eq_false_iff_ne] at *) <;> first | assumption | exact ⟨b16of (by assumption), b4of (by assumption)⟩ | exact ⟨b4of (by assumption), cr0.1 (by assumption)⟩ | exact b4of (by assumption) | exact root0 (by assumption) | exact root00 (by assumption) | (simp [cz, two, *]; done))
        unfold lNum_c8 at h74
        have h75 : (lNum_c9 a b c d e f g k n = true) := by
          unfold lNum_c9
          first | rfl | trivial | assumption | ((try simp only [bne_eq_false_iff_eq, bne_iff_ne, ne_eq, beq_iff_eq, beq_eq_false_iff_ne] at *) <;> first | assumption | exact ⟨b16of (by assumption), b4of (by assumption)⟩ | exact ⟨b4of (by assumption), cr0.1 (by assumption)⟩ | exact b4of (by assumption) | exact root0 (by assumption) | exact root00 (by assumption) | (simp [cz, two, *]; done))
        unfold lNum_c9 at h75
        have h76 : (lNum_c10 a b c d e f g k n = true) := by
          unfold lNum_c10
          first | rfl | trivial | assumption | ((try simp only [bne_eq_false_iff_eq, bne_iff_ne, ne_eq, beq_iff_eq, beq_eq_false_iff_ne] at *) <;> first | assumption | exact ⟨b16of (by assumption), b4of (by assumption)⟩ | exact ⟨b4of (by assumption), cr0.1 (by assumption)⟩ | exact b4of (by assumption) | exact root0 (by assumption) | exact root00 (by assumption) | (simp [cz, two, *]; done))
        unfold lNum_c10 at h76
        have h77 : (lNum_c11 a b c d e f g k n = true) := by
          unfold lNum_c11
          first | rfl | trivial | assumption | ((try simp only [bne_eq_false_iff_eq, bne_iff_ne, ne_eq, beq_iff_eq, beq_eq_false_iff_ne] at *) <;> first | assumption | exact ⟨b16of (by assumption), b4of (by assumption)⟩ | exact ⟨b4of (by assumption), cr0.1 (by assumption)⟩ | exact b4of (by assumption) | exact root0 (by assumption) | exact root00 (by assumption) | (simp [cz, two, *]; done))
        unfold lNum_c11 at h77
        have h78 : (lNum_c12 a b c d e f g k n = true) := by
          unfold lNum_c12
          first | rfl | trivial | assumption | ((try simp only [bne_eq_false_iff_eq, bne_iff_ne, ne_eq, beq_iff_eq, beq_eq_false_iff_ne] at *) <;> first | assumption | exact ⟨b16of (by assumption), b4of (by assumption)⟩ | exact ⟨b4of (by assumption), cr0.1 (by assumption)⟩ | exact b4of (by assumption) | exact root0 (by assumption) | exact root00 (by assumption) | (simp [cz, two, *]; done))
        unfold lNum_c12 at h78
        have hp := lNum_p0 a b c d e f g k n ⟨⟨⟨⟨⟨⟨⟨⟨⟨⟨⟨⟨⟨⟨⟨⟨⟨⟨⟨⟨⟨⟨⟨⟨⟨⟨⟨⟨⟨⟨⟨⟨⟨⟨⟨⟨⟨⟨⟨⟨⟨⟨⟨⟨⟨⟨⟨⟨⟨⟨⟨⟨⟨⟨⟨⟨⟨⟨⟨⟨⟨⟨trivial, lNum_g0⟩, lNum_g0⟩, lNum_g0⟩, lNum_g0⟩, lNum_g0⟩, lNum_g0⟩, lNum_g1⟩, lNum_g2⟩, h0⟩, lNum_g1⟩, lNum_g4⟩, h20⟩, lNum_g6⟩, lNum_g0⟩, lNum_g1⟩, lNum_g2⟩, h0⟩, lNum_g1⟩, lNum_g4⟩, h50⟩, lNum_g6⟩, lNum_g1⟩, h65⟩, lNum_g1⟩, h66⟩, h67⟩, h68⟩, lNum_g0⟩, h69⟩, h70⟩, h71⟩, h71⟩, h71⟩, h71⟩, h72⟩, h72⟩, h72⟩, h72⟩, h73⟩, h73⟩, h73⟩, h73⟩, h74⟩, h74⟩, h74⟩, h74⟩, h75⟩, h75⟩, h75⟩, h75⟩, h76⟩, h76⟩, h76⟩, h76⟩, h77⟩, h77⟩, h77⟩, lNum_g0⟩, h77⟩, h77⟩, h78⟩, h78⟩ w hh
        have hv : lNum_w0 a b c d e f g k n = (.bool true) := by
          clear hp hh
          unfold lNum_w0
          rfl
        exact hv ▸ hp
end Go.Proofs.YtgnmhapgciejfaaGreatDoor
end
section
namespace Go.Proofs.YtgnmhapgciejfaaGreatDoor
set_option linter.all false
open Go.ChangeShapes Go.WideShapes Go.RowKit
namespace Mini

def pairsK (g : TypeId → Option (List IntKind)) (P : Program) : Nat → List (Nat × TypeId) → Option (List IntKind)
  | _, [] => some []
  | off, x :: l => match g x.2 with
    | some ks => match (x.1 == off) && (P.cellsOf x.2 == ks.length) with
      | true => match pairsK g P (off + ks.length) l with
        | some r => some (ks ++ r)
        | none => none
      | false => none
    | none => none
def kindsT (P : Program) : Nat → TypeId → Option (List IntKind)
  | 0, _ => none
  | n + 1, t => match P.underlying t with
    | some (.int k) => some [k]
    | some (.array m e) => match pairsK (kindsT P n) P 0 ((List.range m).map fun i => (i * P.cellsOf e, e)) with
      | some ks => match P.cellsOf t == ks.length with
        | true => some ks
        | false => none
      | none => none
    | some (.struct fs) => match pairsK (kindsT P n) P 0 (fs.toList.map fun f => (f.offset, f.type)) with
      | some ks => match P.cellsOf t == ks.length with
        | true => some ks
        | false => none
      | none => none
    | _ => none
def wfs : List IntKind → List Int → Bool
  | k :: ks, n :: ns => (Lit.int k n).wf && wfs ks ns
  | _, _ => true
theorem backI_length : ∀ (ks : List IntKind) (ns : List Int), ns.length = ks.length → (backI ks ns).length = ks.length
  | [], [], _ => rfl
  | k :: ks, n :: ns, h => by simp only [backI, List.length_cons, backI_length ks ns (by simpa using h)]
  | [], n :: ns, h => by cases h
  | k :: ks, [], h => by cases h
theorem backI_append : ∀ (ks ks' : List IntKind) (ns ns' : List Int), ns.length = ks.length → backI (ks ++ ks') (ns ++ ns') = backI ks ns ++ backI ks' ns'
  | [], ks', [], ns', _ => rfl
  | k :: ks, ks', n :: ns, ns', h => by
    show Value.int k n :: backI (ks ++ ks') (ns ++ ns') = _
    rw [backI_append ks ks' ns ns' (by simpa using h)]
    rfl
  | [], ks', n :: ns, ns', h => by cases h
  | k :: ks, ks', [], ns', h => by cases h
theorem wfs_append : ∀ (ks ks' : List IntKind) (ns ns' : List Int), ns.length = ks.length → wfs ks ns = true → wfs ks' ns' = true → wfs (ks ++ ks') (ns ++ ns') = true
  | [], ks', [], ns', _, _, h => h
  | k :: ks, ks', n :: ns, ns', h, h1, h2 => by
    simp only [wfs, Bool.and_eq_true] at h1
    show ((Lit.int k n).wf && wfs (ks ++ ks') (ns ++ ns')) = true
    rw [h1.1, wfs_append ks ks' ns ns' (by simpa using h) h1.2 h2]
    rfl
  | [], ks', n :: ns, ns', h, _, _ => by cases h
  | k :: ks, ks', [], ns', h, _, _ => by cases h
theorem mapM_map' {α β γ : Type} (f : α → β) (g : β → Option γ) : ∀ l : List α, (l.map f).mapM g = l.mapM fun a => g (f a)
  | [] => rfl
  | a :: l => by simp [List.mapM_cons, mapM_map' f g l]

section
variable {H : Type} {enc : TypeId × Value → H} {P : Program}

/-- What opening a value of such a type says. -/
def Flat (enc : TypeId × Value → H) (P : Program) (fuel : Nat) (t : TypeId) (cs : List Value) (d : DataW H) (ks : List IntKind) : Prop :=
  ∃ ns, ns.length = ks.length ∧ cs = backI ks ns ∧ wfs ks ns = true ∧ ∀ w b sp held, DataW.trod enc P w b sp held fuel t cs = some (d, [])
theorem flat_pairs {n fuel : Nat} (IH : ∀ (t : TypeId) (ks : List IntKind), kindsT P n t = some ks → ∀ (cs : List Value) (d : DataW H) (p : List MemPlace) w b sp held, DataW.trod enc P w b sp held fuel t cs = some (d, p) → p = [] ∧ Flat enc P fuel t cs d ks) :
    ∀ (L : List (Nat × TypeId)) (off : Nat) (ks : List IntKind) (cs : List Value) (xs : List (DataW H × List MemPlace)) (w : World) (b : Nat) (sp : Nat → Bool) (held : Bool), pairsK (kindsT P n) P off L = some ks → off + ks.length ≤ cs.length →
      L.mapM (fun x => DataW.trod enc P w b sp held fuel x.2 ((cs.drop x.1).take (P.cellsOf x.2))) = some xs →
      xs.flatMap (·.2) = [] ∧ ∃ ns, ns.length = ks.length ∧ (cs.drop off).take ks.length = backI ks ns ∧ wfs ks ns = true ∧ ∀ w b sp held, L.mapM (fun x => DataW.trod enc P w b sp held fuel x.2 ((cs.drop x.1).take (P.cellsOf x.2))) = some xs
  | [], off, ks, cs, xs, w, b, sp, held, hk, hl, hm => by
    cases hk
    simp at hm
    subst hm
    exact ⟨rfl, [], rfl, by simp [backI], rfl, fun _ _ _ _ => rfl⟩
  | x :: L, off, ks, cs, xs, w, b, sp, held, hk, hl, hm => by
    simp only [pairsK] at hk
    split at hk
    · rename_i ks1 hk1
      split at hk
      · rename_i hc
        simp only [Bool.and_eq_true, beq_iff_eq] at hc
        obtain ⟨hx, hcell⟩ := hc
        split at hk
        · rename_i r hr
          cases hk
          simp only [List.length_append] at hl
          simp only [List.mapM_cons, Option.bind_eq_bind, Option.bind_eq_some_iff, Option.pure_def, Option.some.injEq] at hm
          obtain ⟨y, hy, ys, hys, rfl⟩ := hm
          obtain ⟨d, p⟩ := y
          obtain ⟨rfl, ns1, l1, c1, f1, t1⟩ := IH x.2 ks1 hk1 _ d p w b sp held hy
          obtain ⟨e2, ns2, l2, c2, f2, t2⟩ := flat_pairs IH L (off + ks1.length) r cs ys w b sp held hr (by omega) hys
          refine ⟨by simpa using e2, ns1 ++ ns2, by simp [l1, l2], ?_, wfs_append _ _ _ _ l1 f1 f2, fun w' b' sp' held' => ?_⟩
          · rw [backI_append _ _ _ _ l1, ← c2, List.length_append, List.take_add, List.drop_drop]
            rw [hx, hcell] at c1
            rw [c1]
          · simp only [List.mapM_cons, Option.bind_eq_bind, Option.pure_def]
            rw [t1 w' b' sp' held', t2 w' b' sp' held']
            rfl
        · cases hk
      · cases hk
    · cases hk
theorem open_kinds : ∀ (n : Nat) (t : TypeId) (ks : List IntKind), kindsT P n t = some ks → ∀ (fuel : Nat) (cs : List Value) (d : DataW H) (p : List MemPlace) w b sp held, DataW.trod enc P w b sp held fuel t cs = some (d, p) → p = [] ∧ Flat enc P fuel t cs d ks
  | 0, t, ks, hk, fuel, cs, d, p, w, b, sp, held, h => by cases hk
  | n + 1, t, ks, hk, fuel, cs, d, p, w, b, sp, held, h => by
    cases fuel with
    | zero => simp [DataW.trod] at h
    | succ fuel =>
      simp only [kindsT] at hk
      split at hk
      · rename_i k ht
        cases hk
        obtain ⟨z, rfl, hx, hw⟩ := DataW.trod_int ht h
        cases hx
        refine ⟨rfl, [z], rfl, rfl, by simp [wfs, hw], fun w' b' sp' held' => ?_⟩
        simp [DataW.trod, ht, hw]
      · rename_i m e ht
        split at hk
        · rename_i ks' hk'
          split at hk
          · rename_i hc
            cases hk
            have hc := beq_iff_eq.1 hc
            simp only [DataW.trod, ht] at h
            split at h
            · rename_i hl
              obtain ⟨xs, hm, hx⟩ := Option.map_eq_some_iff.1 h
              have hm2 : ((List.range m).map fun i => (i * P.cellsOf e, e)).mapM (fun x => DataW.trod enc P w b sp held fuel x.2 ((cs.drop x.1).take (P.cellsOf x.2))) = some xs := by rw [mapM_map']; exact hm
              obtain ⟨e1, ns, l1, c1, f1, t1⟩ := flat_pairs (fun t ks hk cs d p w b sp held h => open_kinds n t ks hk fuel cs d p w b sp held h) _ 0 ks cs xs w b sp held hk' (by omega) hm2
              simp only [Prod.mk.injEq] at hx
              obtain ⟨rfl, rfl⟩ := hx
              refine ⟨e1, ns, l1, ?_, f1, fun w' b' sp' held' => ?_⟩
              · rw [← c1, List.drop_zero, List.take_of_length_le (by omega)]
              · have := t1 w' b' sp' held'
                rw [mapM_map'] at this
                simp only [DataW.trod, ht, if_pos hl]
                rw [this]
                simp [e1]
            · cases h
          · cases hk
        · cases hk
      · rename_i fs ht
        split at hk
        · rename_i ks' hk'
          split at hk
          · rename_i hc
            cases hk
            have hc := beq_iff_eq.1 hc
            simp only [DataW.trod, ht] at h
            split at h
            · rename_i hl
              obtain ⟨xs, hm, hx⟩ := Option.map_eq_some_iff.1 h
              have hm2 : (fs.toList.map fun f => (f.offset, f.type)).mapM (fun x => DataW.trod enc P w b sp held fuel x.2 ((cs.drop x.1).take (P.cellsOf x.2))) = some xs := by rw [mapM_map']; exact hm
              obtain ⟨e1, ns, l1, c1, f1, t1⟩ := flat_pairs (fun t ks hk cs d p w b sp held h => open_kinds n t ks hk fuel cs d p w b sp held h) _ 0 ks cs xs w b sp held hk' (by omega) hm2
              simp only [Prod.mk.injEq] at hx
              obtain ⟨rfl, rfl⟩ := hx
              refine ⟨e1, ns, l1, ?_, f1, fun w' b' sp' held' => ?_⟩
              · rw [← c1, List.drop_zero, List.take_of_length_le (by omega)]
              · have := t1 w' b' sp' held'
                rw [mapM_map'] at this
                simp only [DataW.trod, ht, if_pos hl]
                rw [this]
                simp [e1]
            · cases h
          · cases hk
        · cases hk
      · cases hk
/-- An array or a struct of integers. -/
def isRow (P : Program) (t : TypeId) : Bool := match P.underlying t with
  | some (.struct _) | some (.array _ _) => true
  | _ => false
theorem open_agg {w : World} {base b0 n : Nat} {spare : Nat → Bool} {held : Bool} {r : Reach} {t : TypeId} {v : Value} {d : DataW H} {ps : List MemPlace} {ks : List IntKind} (hr : isRow P t = true) (hk : kindsT P n t = some ks) (hval : Value.okWide P w r b0 t v) (hd : DataW.Trod enc P w base spare held t v d ps) :
    ∃ ns, ns.length = ks.length ∧ v = .agg (backI ks ns).toArray ∧ ps = [] ∧ wfs ks ns = true ∧ ∀ w b sp held, DataW.Trod enc P w b sp held t v d [] := by
  obtain ⟨cs, rfl⟩ : ∃ cs, v = .agg cs := by
    unfold isRow at hr
    unfold Value.okWide at hval
    split at hr
    · rename_i h; rw [h] at hval; obtain ⟨cs, h1, _⟩ := hval; exact ⟨cs, h1⟩
    · rename_i h; rw [h] at hval; obtain ⟨cs, h1, _⟩ := hval; exact ⟨cs, h1⟩
    · cases hr
  obtain ⟨fuel, hf⟩ := hd
  obtain ⟨rfl, ns, l1, c1, f1, t1⟩ := open_kinds n t ks hk fuel _ d ps w base spare held hf
  refine ⟨ns, l1, ?_, rfl, f1, fun w b sp held => ⟨fuel, t1 w b sp held⟩⟩
  congr 1
  apply Array.ext'
  simpa [Value.cells] using c1
theorem open_num {w : World} {base b0 : Nat} {spare : Nat → Bool} {held : Bool} {r : Reach} {t : TypeId} {k : IntKind} {v : Value} {d : DataW H} {ps : List MemPlace} (ht : P.underlying t = some (.int k)) (hval : Value.okWide P w r b0 t v) (hd : DataW.Trod enc P w base spare held t v d ps) :
    ∃ n, v = .int k n ∧ ps = [] ∧ (Lit.int k n).wf = true ∧ ∀ w b sp held, DataW.Trod enc P w b sp held t v d [] := by
  obtain ⟨n, rfl, rfl, rfl, hw⟩ := open_int ht hval hd
  exact ⟨n, rfl, rfl, hw, fun w b sp held => shut_int ht hw⟩
end
theorem bounds_i64 {n : Int} (h : (Lit.int .i64 n).wf = true) : -9223372036854775808 ≤ n ∧ n ≤ 9223372036854775807 := by
  simp [Lit.wf, IntKind.min, IntKind.max, IntKind.signed, IntKind.bits] at h
  omega
end Mini
end Go.Proofs.YtgnmhapgciejfaaGreatDoor
end
section
namespace Go.Proofs.YtgnmhapgciejfaaGreatDoor
set_option linter.all false
open Go.ChangeShapes Go.WideShapes Go.ChangeAt Go.RowKit

section
variable {H : Type} {enc : TypeId × Value → H} {P : Program}
/-- What a law's row asks behind a call that changed nothing that was there. -/
theorem post_below {f : Func} {s : ChangeSpec} {W W' : World} {args : Array Value} {v : Value} {ds gs : List (DataW H)} {ps pa pv : List MemPlace} {apart fresh handsOn again : Bool} (hw : DataW.Whole enc P f.params.toList s.vars apart W args.toList ds gs ps)
    (ok : ∀ (j : Nat) (t : TypeId) (r : Value), f.resultTypes[j]? = some t → (v.resultList f.resultTypes.size)[j]? = some r → Value.okWide P W' .any 0 t r)
    (res : ∀ (b : Nat) (sp : Nat → Bool) (hd : Bool), DataW.TrodAll enc P W' b sp hd f.resultTypes.toList (v.resultList f.resultTypes.size) (s.fn H (ds ++ gs)).results [])
    (arg : ∀ sp : Nat → Bool, (∀ p ∈ ps, sp p.block = true) → DataW.TrodAll enc P W' 0 sp true f.params.toList args.toList (s.fn H (ds ++ gs)).args pa)
    (vrs : ∀ sp : Nat → Bool, (∀ p ∈ ps, sp p.block = true) → DataW.TrodVars enc P W' sp s.vars (s.fn H (ds ++ gs)).vars pv)
    (hps : ps = pa ++ pv) (hb : Below W.heap.size W W') : s.post enc P f apart fresh handsOn again W args v W' := by
  have hb' := hb
  have lt : ∀ p ∈ ps, p.block < W.heap.size := fun p hp => hw.lt p hp
  have old : ∀ p ∈ ps, (fun b => decide (b < W.heap.size)) p.block = true := fun p hp => by simpa using lt p hp
  have whole := hw
  obtain ⟨_, _, _, _, _, hz, hn⟩ := hw
  subst hps
  refine ⟨ds, gs, pa ++ pv, [], pa, pv, whole, res _ _ _, arg _ old, vrs _ old, World.keptBut_mono (fun p hp => ⟨hp, Or.inr (List.mem_append.1 hp)⟩) (hb'.frame (· ∈ pa ++ pv)), fun _ => ⟨ok, _, _, ([] ++ pa) ++ pv, ⟨[] ++ pa, pv, trodAll_append (arg _ (fun _ _ => rfl)) (res _ _ _), vrs _ (fun _ _ => rfl), rfl, fun b off hp => ?_, fun ha => ?_⟩, fun p hp _ => ?_⟩⟩
  · have hin : MemPlace.cell b off ∈ pa ++ pv := by simpa using hp
    exact (hb'.frozen (lt _ hin)).trans (hz b off hin)
  · simpa using hn ha
  · simpa using hp
end

section
open Go.Lib

theorem trod_lit {H : Type} {enc : TypeId × Value → H} {P : Program} {w : World} {base : Nat} {sp : Nat → Bool} {held : Bool} {fuel : Nat} {t : TypeId} {k : IntKind} {z : Int} {cs : List Value} {p : List MemPlace}
    (ht : P.underlying t = some (.int k)) (h : DataW.trod enc P w base sp held fuel t cs = some (.lit (.int k z), p)) : cs = [.int k z] := by
  obtain ⟨z', hc, hd, _⟩ := DataW.trod_int ht h
  cases hd
  exact hc
theorem cells_of_pairs {H : Type} {enc : TypeId × Value → H} {P : Program} {w : World} {base : Nat} {sp : Nat → Bool} {held : Bool} {fuel : Nat} {t e : TypeId} {n : Nat} {k : IntKind} {cs : List Value} {zs : List (Int × Int)} {p : List MemPlace} {fs : Array Field} {f0 f1 : Field}
    (ht : P.underlying t = some (.array n e)) (he : P.underlying e = some (.struct fs)) (hfs : fs.toList = [f0, f1]) (h0 : f0.offset = 0) (h1 : f1.offset = 1) (k0 : P.underlying f0.type = some (.int k)) (k1 : P.underlying f1.type = some (.int k))
    (c0 : P.cellsOf f0.type = 1) (c1 : P.cellsOf f1.type = 1) (hce : P.cellsOf e = 2)
    (h : DataW.trod enc P w base sp held fuel t cs = some (.agg (zs.map fun z => .agg [.lit (.int k z.1), .lit (.int k z.2)]), p)) :
    ∀ (i : Nat) (z : Int × Int), zs[i]? = some z → cs[i * 2]? = some (.int k z.1) ∧ cs[i * 2 + 1]? = some (.int k z.2) := by
  cases fuel with
  | zero => simp [DataW.trod] at h
  | succ fuel =>
    simp only [DataW.trod, ht, hce] at h
    split at h
    · rename_i hl
      obtain ⟨xs, hm, hx⟩ := Option.map_eq_some_iff.1 h
      have hxs : xs.map (·.1) = zs.map fun z => (DataW.agg [.lit (.int k z.1), .lit (.int k z.2)] : DataW H) := by
        have := congrArg Prod.fst hx
        simpa using this
      have hxl : xs.length = n := by simpa using mapM_length hm
      have hzl : zs.length = n := by
        have := congrArg List.length hxs
        simp at this
        omega
      intro i z hz
      have hi : i < n := by
        have := (List.getElem?_eq_some_iff.1 hz).1
        omega
      obtain ⟨b, hb, hf⟩ := mapM_at hm i i (by simp [hi])
      have h2 : (xs.map (·.1))[i]? = some b.1 := by simp [hb]
      rw [hxs] at h2
      simp only [List.getElem?_map, hz, Option.map_some, Option.some.injEq] at h2
      cases fuel with
      | zero => simp [DataW.trod] at hf
      | succ fuel =>
        simp only [DataW.trod, he] at hf
        split at hf
        · obtain ⟨ys, hy, hyb⟩ := Option.map_eq_some_iff.1 hf
          rw [hfs] at hy
          simp only [List.mapM_cons, List.mapM_nil, Option.bind_eq_bind, Option.bind_eq_some_iff, Option.pure_def, Option.some.injEq] at hy
          obtain ⟨y0, e0, l1, ⟨y1, e1, l2, rfl, rfl⟩, rfl⟩ := hy
          have hb1 := congrArg Prod.fst hyb
          simp only [List.map_cons, List.map_nil] at hb1
          rw [← h2] at hb1
          simp only [DataW.agg.injEq, List.cons.injEq, and_true] at hb1
          obtain ⟨q0, q1⟩ := hb1
          obtain ⟨d0, p0⟩ := y0
          obtain ⟨d1, p1⟩ := y1
          simp only at q0 q1
          subst q0 q1
          have g0 := trod_lit k0 e0
          have g1 := trod_lit k1 e1
          rw [h0, c0] at g0
          rw [h1, c1] at g1
          have a0 := congrArg (·[0]?) g0
          have a1 := congrArg (·[0]?) g1
          simp [List.getElem?_take, List.getElem?_drop] at a0 a1
          exact ⟨by simpa using a0, by simpa using a1⟩
        · cases hf
    · cases h
end
/-- A table of pairs on a row's list. -/
theorem pairs_of_laid {P : Program} {W : World} {name : String} {k : IntKind} {zs : List (Int × Int)} {g : Nat} {t e : TypeId} {n : Nat} {fs : Array Field} {f0 f1 : Field}
    (hg : P.globalNamed name = some g) (hty : (P.globals[g]?).map (·.type) = some t) (ht : P.underlying t = some (.array n e)) (he : P.underlying e = some (.struct fs)) (hfs : fs.toList = [f0, f1]) (h0 : f0.offset = 0) (h1 : f1.offset = 1) (k0 : P.underlying f0.type = some (.int k)) (k1 : P.underlying f1.type = some (.int k))
    (c0 : P.cellsOf f0.type = 1) (c1 : P.cellsOf f1.type = 1) (hce : P.cellsOf e = 2)
    (h : laidMet P [(name, .agg (zs.map fun z => .agg [.lit (.int k z.1), .lit (.int k z.2)]))] W) (i : Nat) (z : Int × Int) (hz : zs[i]? = some z) :
    W.cell? ⟨g, i * 2, none⟩ = some (.int k z.1) ∧ W.cell? ⟨g, i * 2 + 1, none⟩ = some (.int k z.2) := by
  obtain ⟨ps, ⟨g', t', cs, fuel, p, q, hg', ht', hvar, hd, _, _⟩, _⟩ := h
  obtain rfl := Option.some.inj (hg.symm.trans hg')
  obtain rfl := Option.some.inj (hty.symm.trans ht')
  obtain ⟨a, b⟩ := cells_of_pairs ht he hfs h0 h1 k0 k1 c0 c1 hce hd i z hz
  have r0 := World.var?_cell hg hvar (i * 2)
  have r1 := World.var?_cell hg hvar (i * 2 + 1)
  constructor
  · rw [r0]; simpa using a
  · rw [r1]; simpa using b
end Go.Proofs.YtgnmhapgciejfaaGreatDoor
end
section
namespace Go.Proofs.YtgnmhapgciejfaaGreatDoor
set_option linter.all false
open Go.ChangeShapes Go.WideShapes Go.ChangeAt Go.RowKit Go.Lib
theorem trod_pair {H : Type} {enc : TypeId × Value → H} {P : Program} {w : World} {base : Nat} {sp : Nat → Bool} {held : Bool} {fuel : Nat} {e : TypeId} {k : IntKind} {cs : List Value} {x y : Int} {p : List MemPlace} {fs : Array Field} {f0 f1 : Field}
    (he : P.underlying e = some (.struct fs)) (hfs : fs.toList = [f0, f1]) (h0 : f0.offset = 0) (h1 : f1.offset = 1) (k0 : P.underlying f0.type = some (.int k)) (k1 : P.underlying f1.type = some (.int k))
    (c0 : P.cellsOf f0.type = 1) (c1 : P.cellsOf f1.type = 1) (h : DataW.trod enc P w base sp held fuel e cs = some (.agg [.lit (.int k x), .lit (.int k y)], p)) : cs[0]? = some (.int k x) ∧ cs[1]? = some (.int k y) := by
  cases fuel with
  | zero => simp [DataW.trod] at h
  | succ fuel =>
    simp only [DataW.trod, he] at h
    split at h
    · obtain ⟨ys, hy, hyb⟩ := Option.map_eq_some_iff.1 h
      rw [hfs] at hy
      simp only [List.mapM_cons, List.mapM_nil, Option.bind_eq_bind, Option.bind_eq_some_iff, Option.pure_def, Option.some.injEq] at hy
      obtain ⟨y0, e0, l1, ⟨y1, e1, l2, rfl, rfl⟩, rfl⟩ := hy
      have hb1 := congrArg Prod.fst hyb
      simp only [List.map_cons, List.map_nil] at hb1
      simp only [DataW.agg.injEq, List.cons.injEq, and_true] at hb1
      obtain ⟨q0, q1⟩ := hb1
      obtain ⟨d0, p0⟩ := y0
      obtain ⟨d1, p1⟩ := y1
      simp only at q0 q1
      subst q0 q1
      have g0 := trod_lit k0 e0
      have g1 := trod_lit k1 e1
      rw [h0, c0] at g0
      rw [h1, c1] at g1
      have a0 := congrArg (·[0]?) g0
      have a1 := congrArg (·[0]?) g1
      simp [List.getElem?_take, List.getElem?_drop] at a0 a1
      exact ⟨by simpa using a0, by simpa using a1⟩
    · cases h
def quadD {H : Type} (k : IntKind) (z : Int × Int × Int × Int) : DataW H := .agg [.agg [.lit (.int k z.1), .lit (.int k z.2.1)], .agg [.lit (.int k z.2.2.1), .lit (.int k z.2.2.2)]]
theorem trod_quad {H : Type} {enc : TypeId × Value → H} {P : Program} {w : World} {base : Nat} {sp : Nat → Bool} {held : Bool} {fuel : Nat} {t e : TypeId} {k : IntKind} {cs : List Value} {z : Int × Int × Int × Int} {p : List MemPlace} {gs : Array Field} {g0 g1 : Field} {fs : Array Field} {f0 f1 : Field}
    (ht : P.underlying t = some (.struct gs)) (hgs : gs.toList = [g0, g1]) (o0 : g0.offset = 0) (o1 : g1.offset = 2) (t0 : g0.type = e) (t1 : g1.type = e) (ce : P.cellsOf e = 2)
    (he : P.underlying e = some (.struct fs)) (hfs : fs.toList = [f0, f1]) (h0 : f0.offset = 0) (h1 : f1.offset = 1) (k0 : P.underlying f0.type = some (.int k)) (k1 : P.underlying f1.type = some (.int k))
    (c0 : P.cellsOf f0.type = 1) (c1 : P.cellsOf f1.type = 1) (h : DataW.trod enc P w base sp held fuel t cs = some (quadD k z, p)) :
    cs[0]? = some (.int k z.1) ∧ cs[1]? = some (.int k z.2.1) ∧ cs[2]? = some (.int k z.2.2.1) ∧ cs[3]? = some (.int k z.2.2.2) := by
  unfold quadD at h
  cases fuel with
  | zero => simp [DataW.trod] at h
  | succ fuel =>
    simp only [DataW.trod, ht] at h
    split at h
    · obtain ⟨ys, hy, hyb⟩ := Option.map_eq_some_iff.1 h
      rw [hgs] at hy
      simp only [List.mapM_cons, List.mapM_nil, Option.bind_eq_bind, Option.bind_eq_some_iff, Option.pure_def, Option.some.injEq] at hy
      obtain ⟨y0, e0, l1, ⟨y1, e1, l2, rfl, rfl⟩, rfl⟩ := hy
      have hb1 := congrArg Prod.fst hyb
      simp only [List.map_cons, List.map_nil] at hb1
      simp only [DataW.agg.injEq, List.cons.injEq, and_true] at hb1
      obtain ⟨q0, q1⟩ := hb1
      obtain ⟨d0, p0⟩ := y0
      obtain ⟨d1, p1⟩ := y1
      simp only at q0 q1
      subst q0 q1
      rw [t0] at e0
      rw [t1] at e1
      have a := trod_pair he hfs h0 h1 k0 k1 c0 c1 e0
      have b := trod_pair he hfs h0 h1 k0 k1 c0 c1 e1
      rw [o0, ce] at a
      rw [o1, ce] at b
      simp [List.getElem?_take, List.getElem?_drop] at a b
      exact ⟨by simpa using a.1, by simpa using a.2, by simpa using b.1, by simpa using b.2⟩
    · cases h
theorem cells_of_quads {H : Type} {enc : TypeId × Value → H} {P : Program} {w : World} {base : Nat} {sp : Nat → Bool} {held : Bool} {fuel : Nat} {u t e : TypeId} {n : Nat} {k : IntKind} {cs : List Value} {zs : List (Int × Int × Int × Int)} {p : List MemPlace} {gs : Array Field} {g0 g1 : Field} {fs : Array Field} {f0 f1 : Field}
    (hu : P.underlying u = some (.array n t)) (ht : P.underlying t = some (.struct gs)) (hgs : gs.toList = [g0, g1]) (o0 : g0.offset = 0) (o1 : g1.offset = 2) (t0 : g0.type = e) (t1 : g1.type = e) (ce : P.cellsOf e = 2) (ct : P.cellsOf t = 4)
    (he : P.underlying e = some (.struct fs)) (hfs : fs.toList = [f0, f1]) (h0 : f0.offset = 0) (h1 : f1.offset = 1) (k0 : P.underlying f0.type = some (.int k)) (k1 : P.underlying f1.type = some (.int k))
    (c0 : P.cellsOf f0.type = 1) (c1 : P.cellsOf f1.type = 1)
    (h : DataW.trod enc P w base sp held fuel u cs = some (.agg (zs.map (quadD k)), p)) :
    ∀ (i : Nat) (z : Int × Int × Int × Int), zs[i]? = some z → cs[i * 4]? = some (.int k z.1) ∧ cs[i * 4 + 1]? = some (.int k z.2.1) ∧ cs[i * 4 + 2]? = some (.int k z.2.2.1) ∧ cs[i * 4 + 3]? = some (.int k z.2.2.2) := by
  cases fuel with
  | zero => simp [DataW.trod] at h
  | succ fuel =>
    simp only [DataW.trod, hu, ct] at h
    split at h
    · rename_i hl
      obtain ⟨xs, hm, hx⟩ := Option.map_eq_some_iff.1 h
      have hxs : xs.map (·.1) = zs.map (quadD (H := H) k) := by
        have := congrArg Prod.fst hx
        simpa using this
      have hxl : xs.length = n := by simpa using mapM_length hm
      have hzl : zs.length = n := by
        have := congrArg List.length hxs
        simp at this
        omega
      intro i z hz
      have hi : i < n := by
        have := (List.getElem?_eq_some_iff.1 hz).1
        omega
      obtain ⟨b, hb, hf⟩ := mapM_at hm i i (by simp [hi])
      have h2 : (xs.map (·.1))[i]? = some b.1 := by simp [hb]
      rw [hxs] at h2
      simp only [List.getElem?_map, hz, Option.map_some, Option.some.injEq] at h2
      obtain ⟨bd, bp⟩ := b
      simp only at h2
      subst h2
      have a := trod_quad ht hgs o0 o1 t0 t1 ce he hfs h0 h1 k0 k1 c0 c1 hf
      simp [List.getElem?_take, List.getElem?_drop] at a
      exact ⟨by simpa using a.1, by simpa using a.2.1, by simpa using a.2.2.1, by simpa using a.2.2.2⟩
    · cases h
theorem quads_of_laid {P : Program} {W : World} {name : String} {k : IntKind} {zs : List (Int × Int × Int × Int)} {g : Nat} {u t e : TypeId} {n : Nat} {gs : Array Field} {g0 g1 : Field} {fs : Array Field} {f0 f1 : Field}
    (hg : P.globalNamed name = some g) (hty : (P.globals[g]?).map (·.type) = some u)
    (hu : P.underlying u = some (.array n t)) (ht : P.underlying t = some (.struct gs)) (hgs : gs.toList = [g0, g1]) (o0 : g0.offset = 0) (o1 : g1.offset = 2) (t0 : g0.type = e) (t1 : g1.type = e) (ce : P.cellsOf e = 2) (ct : P.cellsOf t = 4)
    (he : P.underlying e = some (.struct fs)) (hfs : fs.toList = [f0, f1]) (h0 : f0.offset = 0) (h1 : f1.offset = 1) (k0 : P.underlying f0.type = some (.int k)) (k1 : P.underlying f1.type = some (.int k))
    (c0 : P.cellsOf f0.type = 1) (c1 : P.cellsOf f1.type = 1)
    (h : laidMet P [(name, .agg (zs.map (quadD k)))] W) (i : Nat) (z : Int × Int × Int × Int) (hz : zs[i]? = some z) :
    W.cell? ⟨g, i * 4, none⟩ = some (.int k z.1) ∧ W.cell? ⟨g, i * 4 + 1, none⟩ = some (.int k z.2.1) ∧ W.cell? ⟨g, i * 4 + 2, none⟩ = some (.int k z.2.2.1) ∧ W.cell? ⟨g, i * 4 + 3, none⟩ = some (.int k z.2.2.2) := by
  obtain ⟨ps, ⟨g', t', cs, fuel, p, q, hg', ht', hvar, hd, _, _⟩, _⟩ := h
  obtain rfl := Option.some.inj (hg.symm.trans hg')
  obtain rfl := Option.some.inj (hty.symm.trans ht')
  obtain ⟨a, b, c, d⟩ := cells_of_quads hu ht hgs o0 o1 t0 t1 ce ct he hfs h0 h1 k0 k1 c0 c1 hd i z hz
  have r0 := World.var?_cell hg hvar (i * 4)
  have r1 := World.var?_cell hg hvar (i * 4 + 1)
  have r2 := World.var?_cell hg hvar (i * 4 + 2)
  have r3 := World.var?_cell hg hvar (i * 4 + 3)
  exact ⟨by rw [r0]; simpa using a, by rw [r1]; simpa using b, by rw [r2]; simpa using c, by rw [r3]; simpa using d⟩
end Go.Proofs.YtgnmhapgciejfaaGreatDoor
end
section
set_option linter.all false
namespace Go.Proofs.YtgnmhapgciejfaaGreatDoor.harmonicNumbers
open Go.ChangeShapes Go.WideShapes Go.ChangeAt Go.RowKit Mini

theorem own : ownKnob Tryz.prog.godebug = none := by kernel_rfl
theorem gt2N : Tryz.prog.globalNamed "bipole/harmonic.powers" = some 2 := by kernel_rfl
theorem gt2T : (Tryz.prog.globals[2]?).map (·.type) = some 70 := by kernel_rfl
def t2 : List (Int × Int × Int × Int) := [(1, 0, 0, 0), (0, 0, 0, -1), (1, 1, 0, 0), (0, 0, 1, 0), (0, 1, 0, 0), (0, 0, 1, 1), (-1, 0, 0, 0), (0, 0, 0, 1), (-1, -1, 0, 0), (0, 0, -1, 0), (0, -1, 0, 0), (0, 0, -1, -1)]
theorem onet2 : (Rows.harmonicNumbersRow.laid.filter fun x => x.1 == "bipole/harmonic.powers") = [("bipole/harmonic.powers", .agg (t2.map (quadD .i64)))] := by kernel_rfl
theorem cellst2 {W : World} (h : laidMetH Tryz.prog Rows.harmonicNumbersRow.laid W) (i : Nat) (z : Int × Int × Int × Int) (hz : t2[i]? = some z) : W.cell? ⟨2, i * 4, none⟩ = some (.int .i64 z.1) ∧ W.cell? ⟨2, i * 4 + 1, none⟩ = some (.int .i64 z.2.1) ∧ W.cell? ⟨2, i * 4 + 2, none⟩ = some (.int .i64 z.2.2.1) ∧ W.cell? ⟨2, i * 4 + 3, none⟩ = some (.int .i64 z.2.2.2) := by
  have h1 := laidMetH.filter (P := Tryz.prog) (fun x => x.1 == "bipole/harmonic.powers") h
  rw [onet2] at h1
  exact quads_of_laid gt2N gt2T Tryz.underlying70 Tryz.underlying51 rfl rfl rfl rfl rfl (by kernel_rfl) (by kernel_rfl) Tryz.underlying48 rfl rfl rfl Tryz.underlying3 Tryz.underlying3 (by kernel_rfl) (by kernel_rfl) h1 i z hz
theorem s0t2 : awS0.get 2 = .cells ((t2.flatMap fun z => [z.1, z.2.1, z.2.2.1, z.2.2.2]).map fun n => Value.int .i64 n) 70 true 0 true := by kernel_rfl
theorem gt3N : Tryz.prog.globalNamed "internal/strconv.uint64pow10" = some 3 := by kernel_rfl
theorem gt3T : (Tryz.prog.globals[3]?).map (·.type) = some 328 := by kernel_rfl
def t3 : List Int := (List.range 20).map fun i => ((10 ^ i : Nat) : Int)
theorem onet3 : (Rows.harmonicNumbersRow.laid.filter fun x => x.1 == "internal/strconv.uint64pow10") = [("internal/strconv.uint64pow10", Lib.tabData .u64 t3)] := by kernel_rfl
theorem cellst3 {W : World} (h : laidMetH Tryz.prog Rows.harmonicNumbersRow.laid W) (i : Nat) (hi : i < 20) : W.cell? ⟨3, i, none⟩ = some (.int .u64 (t3.getD i 0)) := by
  have h1 := laidMetH.filter (P := Tryz.prog) (fun x => x.1 == "internal/strconv.uint64pow10") h
  rw [onet3] at h1
  exact (Lib.tabIs_of_head (rest := []) gt3N gt3T Tryz.underlying328 Tryz.underlying305 (by kernel_rfl) (by kernel_rfl) h1).cell gt3N i (by simpa [t3] using hi)
theorem s0t3 : awS0.get 3 = .cells (t3.map fun n => Value.int .u64 n) 328 true 0 true := by kernel_rfl
theorem holds0 {W : World} (h : laidMetH Tryz.prog Rows.harmonicNumbersRow.laid W) : Holds Tryz.prog awS0 W := by
  refine ⟨by kernel_rfl, fun b hb => ?_⟩
  rw [show Tryz.prog.globals.size = 7 by kernel_rfl] at hb
  match b, hb with
  | 0, _ => exact .inl (by kernel_rfl)
  | 1, _ => exact .inl (by kernel_rfl)
  | 2, _ =>
    refine .inr ⟨_, _, s0t2, by simp [t2], by kernel_rfl, fun i v hi => ?_⟩
    have p0 := cellst2 h 0 (1, 0, 0, 0) rfl
    have p1 := cellst2 h 1 (0, 0, 0, -1) rfl
    have p2 := cellst2 h 2 (1, 1, 0, 0) rfl
    have p3 := cellst2 h 3 (0, 0, 1, 0) rfl
    have p4 := cellst2 h 4 (0, 1, 0, 0) rfl
    have p5 := cellst2 h 5 (0, 0, 1, 1) rfl
    have p6 := cellst2 h 6 (-1, 0, 0, 0) rfl
    have p7 := cellst2 h 7 (0, 0, 0, 1) rfl
    have p8 := cellst2 h 8 (-1, -1, 0, 0) rfl
    have p9 := cellst2 h 9 (0, 0, -1, 0) rfl
    have p10 := cellst2 h 10 (0, -1, 0, 0) rfl
    have p11 := cellst2 h 11 (0, 0, -1, -1) rfl
    match i, hi with
    | 0, hi => simp [t2] at hi; subst hi; exact p0.1
    | 1, hi => simp [t2] at hi; subst hi; exact p0.2.1
    | 2, hi => simp [t2] at hi; subst hi; exact p0.2.2.1
    | 3, hi => simp [t2] at hi; subst hi; exact p0.2.2.2
    | 4, hi => simp [t2] at hi; subst hi; exact p1.1
    | 5, hi => simp [t2] at hi; subst hi; exact p1.2.1
    | 6, hi => simp [t2] at hi; subst hi; exact p1.2.2.1
    | 7, hi => simp [t2] at hi; subst hi; exact p1.2.2.2
    | 8, hi => simp [t2] at hi; subst hi; exact p2.1
    | 9, hi => simp [t2] at hi; subst hi; exact p2.2.1
    | 10, hi => simp [t2] at hi; subst hi; exact p2.2.2.1
    | 11, hi => simp [t2] at hi; subst hi; exact p2.2.2.2
    | 12, hi => simp [t2] at hi; subst hi; exact p3.1
    | 13, hi => simp [t2] at hi; subst hi; exact p3.2.1
    | 14, hi => simp [t2] at hi; subst hi; exact p3.2.2.1
    | 15, hi => simp [t2] at hi; subst hi; exact p3.2.2.2
    | 16, hi => simp [t2] at hi; subst hi; exact p4.1
    | 17, hi => simp [t2] at hi; subst hi; exact p4.2.1
    | 18, hi => simp [t2] at hi; subst hi; exact p4.2.2.1
    | 19, hi => simp [t2] at hi; subst hi; exact p4.2.2.2
    | 20, hi => simp [t2] at hi; subst hi; exact p5.1
    | 21, hi => simp [t2] at hi; subst hi; exact p5.2.1
    | 22, hi => simp [t2] at hi; subst hi; exact p5.2.2.1
    | 23, hi => simp [t2] at hi; subst hi; exact p5.2.2.2
    | 24, hi => simp [t2] at hi; subst hi; exact p6.1
    | 25, hi => simp [t2] at hi; subst hi; exact p6.2.1
    | 26, hi => simp [t2] at hi; subst hi; exact p6.2.2.1
    | 27, hi => simp [t2] at hi; subst hi; exact p6.2.2.2
    | 28, hi => simp [t2] at hi; subst hi; exact p7.1
    | 29, hi => simp [t2] at hi; subst hi; exact p7.2.1
    | 30, hi => simp [t2] at hi; subst hi; exact p7.2.2.1
    | 31, hi => simp [t2] at hi; subst hi; exact p7.2.2.2
    | 32, hi => simp [t2] at hi; subst hi; exact p8.1
    | 33, hi => simp [t2] at hi; subst hi; exact p8.2.1
    | 34, hi => simp [t2] at hi; subst hi; exact p8.2.2.1
    | 35, hi => simp [t2] at hi; subst hi; exact p8.2.2.2
    | 36, hi => simp [t2] at hi; subst hi; exact p9.1
    | 37, hi => simp [t2] at hi; subst hi; exact p9.2.1
    | 38, hi => simp [t2] at hi; subst hi; exact p9.2.2.1
    | 39, hi => simp [t2] at hi; subst hi; exact p9.2.2.2
    | 40, hi => simp [t2] at hi; subst hi; exact p10.1
    | 41, hi => simp [t2] at hi; subst hi; exact p10.2.1
    | 42, hi => simp [t2] at hi; subst hi; exact p10.2.2.1
    | 43, hi => simp [t2] at hi; subst hi; exact p10.2.2.2
    | 44, hi => simp [t2] at hi; subst hi; exact p11.1
    | 45, hi => simp [t2] at hi; subst hi; exact p11.2.1
    | 46, hi => simp [t2] at hi; subst hi; exact p11.2.2.1
    | 47, hi => simp [t2] at hi; subst hi; exact p11.2.2.2
    | i + 48, hi => simp [t2] at hi
  | 3, _ =>
    refine .inr ⟨_, _, s0t3, by simp [t3], by kernel_rfl, fun i v hi => ?_⟩
    have hlt : i < 20 := by
      have := (List.getElem?_eq_some_iff.1 hi).1
      simpa [t3] using this
    rw [cellst3 h i hlt]
    simp only [List.getElem?_map, Option.map_eq_some_iff] at hi
    obtain ⟨a, h1, rfl⟩ := hi
    simp [List.getD, h1]
  | 4, _ => exact .inl (by kernel_rfl)
  | 5, _ => exact .inl (by kernel_rfl)
  | 6, _ => exact .inl (by kernel_rfl)
  | b + 7, hb => omega

set_option maxRecDepth 100000 in
theorem contract (H : Type) (enc : TypeId × Value → H) (W : World) (base : Nat) (args : Array Value) (ds gs : List (DataW H)) (before : List MemPlace)
    (hval : ∀ (j : Nat) t v, Tryz.f4.params[j]? = some t → args[j]? = some v → Value.okWide Tryz.prog W .any base t v)
    (hW : DataW.Whole enc Tryz.prog Tryz.f4.params.toList Rows.harmonicNumbersSpec.vars false W args.toList ds gs before) (hL : laidMetH Tryz.prog Rows.harmonicNumbersRow.laid W) :
    Calls Tryz.prog 4 args W fun e W' => ∃ v, e = .returned v ∧ Rows.harmonicNumbersSpec.post enc Tryz.prog Tryz.f4 false true false false W args v W' := by
  have hW' := hW
  obtain ⟨p, q, hA0, hV, rfl, hfz, hnd⟩ := hW
  have hA : DataW.TrodAll enc Tryz.prog W 0 (fun _ => true) true Tryz.f4.params.toList args.toList ds p := hA0
  rw [Tryz.params4] at hA hval
  obtain ⟨v0, vs0, d0, ds0, p0, q0, hargs, rfl, rfl, h0, r0⟩ := trodAll_cons hA
  obtain ⟨v1, vs1, d1, ds1, p1, q1, rfl, rfl, rfl, h1, r1⟩ := trodAll_cons r0
  obtain ⟨v2, vs2, d2, ds2, p2, q2, rfl, rfl, rfl, h2, r2⟩ := trodAll_cons r1
  obtain ⟨rfl, rfl, rfl⟩ := trodAll_nil r2
  obtain rfl : args = #[v0, v1, v2] := by apply Array.ext'; simpa using hargs
  obtain ⟨rfl, rfl⟩ := trodVars_none hV
  obtain ⟨ns0, l0, rfl, rfl, f0, t0⟩ := open_agg (n := 6) (ks := [.i64, .i64, .i64, .i64]) (by kernel_rfl) (by kernel_rfl) (hval 0 50 v0 rfl rfl) h0
  have l0_0 : ns0.length = 4 := l0
  clear l0
  obtain ⟨x0_0, ns0_0, rfl, l0_1⟩ := len_cons l0_0
  obtain ⟨x0_1, ns0_1, rfl, l0_2⟩ := len_cons l0_1
  obtain ⟨x0_2, ns0_2, rfl, l0_3⟩ := len_cons l0_2
  obtain ⟨x0_3, ns0_3, rfl, l0_4⟩ := len_cons l0_3
  obtain rfl := len_nil l0_4
  obtain ⟨ns1, l1, rfl, rfl, f1, t1⟩ := open_agg (n := 6) (ks := [.i64, .i64, .i64, .i64]) (by kernel_rfl) (by kernel_rfl) (hval 1 50 v1 rfl rfl) h1
  have l1_0 : ns1.length = 4 := l1
  clear l1
  obtain ⟨x1_0, ns1_0, rfl, l1_1⟩ := len_cons l1_0
  obtain ⟨x1_1, ns1_1, rfl, l1_2⟩ := len_cons l1_1
  obtain ⟨x1_2, ns1_2, rfl, l1_3⟩ := len_cons l1_2
  obtain ⟨x1_3, ns1_3, rfl, l1_4⟩ := len_cons l1_3
  obtain rfl := len_nil l1_4
  obtain ⟨x2, rfl, rfl, f2, t2⟩ := open_num Tryz.underlying3 (hval 2 3 v2 rfl rfl) h2
  clear hA0
  simp only [List.append_nil] at hW'
  refine (lNum_any x0_0 x0_1 x0_2 x0_3 x1_0 x1_1 x1_2 x1_3 x2 (trivial) W (holds0 hL)).mono fun e W' ⟨he, hb⟩ => ?_
  subst he
  exact ⟨_, rfl, post_below (pa := []) (pv := []) hW' (ok_one (by kernel_rfl) rfl (okWide_bool_mk Tryz.underlying4 _)) (fun _ _ _ => trodAll_cons_mk (shut_bool Tryz.underlying4 _) trodAll_mk0)
    (fun sp _ => trodAll_cons_mk (t0 _ _ _ _) (trodAll_cons_mk (t1 _ _ _ _) (trodAll_cons_mk (t2 _ _ _ _) (trodAll_mk0))))
    (fun _ _ => rfl) rfl hb⟩

def setTab (b : Nat) (cs : Array Value) (h : Array Obj) : Array Obj := h.modify b fun
  | .cells _ t frozen => .cells cs t frozen
  | o => o
noncomputable def laidWorld (os : Os) : World :=
  { World.holding Tryz.prog os ⟨#[], #[], []⟩ with heap := setTab 6 #[.int .u8 (0), .int .u8 (1), .int .u8 (56), .int .u8 (2), .int .u8 (57), .int .u8 (49), .int .u8 (28), .int .u8 (3), .int .u8 (61), .int .u8 (58), .int .u8 (42), .int .u8 (50), .int .u8 (38), .int .u8 (29), .int .u8 (17), .int .u8 (4), .int .u8 (62), .int .u8 (47), .int .u8 (59), .int .u8 (36), .int .u8 (45), .int .u8 (43), .int .u8 (51), .int .u8 (22), .int .u8 (53), .int .u8 (39), .int .u8 (33), .int .u8 (30), .int .u8 (24), .int .u8 (18), .int .u8 (12), .int .u8 (5), .int .u8 (63), .int .u8 (55), .int .u8 (48), .int .u8 (27), .int .u8 (60), .int .u8 (41), .int .u8 (37), .int .u8 (16), .int .u8 (46), .int .u8 (35), .int .u8 (44), .int .u8 (21), .int .u8 (52), .int .u8 (32), .int .u8 (23), .int .u8 (11), .int .u8 (54), .int .u8 (26), .int .u8 (40), .int .u8 (15), .int .u8 (34), .int .u8 (20), .int .u8 (31), .int .u8 (10), .int .u8 (25), .int .u8 (14), .int .u8 (19), .int .u8 (9), .int .u8 (13), .int .u8 (8), .int .u8 (7), .int .u8 (6)] (setTab 5 #[.int .u8 (0), .int .u8 (1), .int .u8 (28), .int .u8 (2), .int .u8 (29), .int .u8 (14), .int .u8 (24), .int .u8 (3), .int .u8 (30), .int .u8 (22), .int .u8 (20), .int .u8 (15), .int .u8 (25), .int .u8 (17), .int .u8 (4), .int .u8 (8), .int .u8 (31), .int .u8 (27), .int .u8 (13), .int .u8 (23), .int .u8 (21), .int .u8 (19), .int .u8 (16), .int .u8 (7), .int .u8 (26), .int .u8 (12), .int .u8 (18), .int .u8 (6), .int .u8 (11), .int .u8 (5), .int .u8 (10), .int .u8 (9)] (setTab 3 #[.int .u64 (1), .int .u64 (10), .int .u64 (100), .int .u64 (1000), .int .u64 (10000), .int .u64 (100000), .int .u64 (1000000), .int .u64 (10000000), .int .u64 (100000000), .int .u64 (1000000000), .int .u64 (10000000000), .int .u64 (100000000000), .int .u64 (1000000000000), .int .u64 (10000000000000), .int .u64 (100000000000000), .int .u64 (1000000000000000), .int .u64 (10000000000000000), .int .u64 (100000000000000000), .int .u64 (1000000000000000000), .int .u64 (10000000000000000000)] (setTab 2 #[.int .i64 (1), .int .i64 (0), .int .i64 (0), .int .i64 (0), .int .i64 (0), .int .i64 (0), .int .i64 (0), .int .i64 (-1), .int .i64 (1), .int .i64 (1), .int .i64 (0), .int .i64 (0), .int .i64 (0), .int .i64 (0), .int .i64 (1), .int .i64 (0), .int .i64 (0), .int .i64 (1), .int .i64 (0), .int .i64 (0), .int .i64 (0), .int .i64 (0), .int .i64 (1), .int .i64 (1), .int .i64 (-1), .int .i64 (0), .int .i64 (0), .int .i64 (0), .int .i64 (0), .int .i64 (0), .int .i64 (0), .int .i64 (1), .int .i64 (-1), .int .i64 (-1), .int .i64 (0), .int .i64 (0), .int .i64 (0), .int .i64 (0), .int .i64 (-1), .int .i64 (0), .int .i64 (0), .int .i64 (-1), .int .i64 (0), .int .i64 (0), .int .i64 (0), .int .i64 (0), .int .i64 (-1), .int .i64 (-1)] ((World.holding Tryz.prog os ⟨#[], #[], []⟩).heap)))) }
def wArgs : Array Value := #[.agg #[.int .i64 0, .int .i64 0, .int .i64 0, .int .i64 0], .agg #[.int .i64 0, .int .i64 0, .int .i64 0, .int .i64 0], .int .i64 0]
theorem laid_met (os : Os) : laidMet Tryz.prog Rows.harmonicNumbersRow.laid ((laidWorld os).forCall (fun _ _ => 0) ⟨#[], wArgs, []⟩).memory :=
  laidMet_of_run' 8 (by kernel_rfl) (by kernel_rfl)
theorem reads (os : Os) {H : Type} (enc : TypeId × Value → H) : ∃ places, DataW.whole enc Tryz.prog ((laidWorld os).forCall (fun _ _ => 0) ⟨#[], wArgs, []⟩).memory Tryz.f4.params.toList Rows.harmonicNumbersSpec.vars false wArgs.toList 8 = some ([.agg [.agg [.lit (.int .i64 0), .lit (.int .i64 0)], .agg [.lit (.int .i64 0), .lit (.int .i64 0)]], .agg [.agg [.lit (.int .i64 0), .lit (.int .i64 0)], .agg [.lit (.int .i64 0), .lit (.int .i64 0)]], .lit (.int .i64 0)], [], places) :=
  ⟨[], by kernel_rfl⟩
set_option maxRecDepth 100000 in
theorem lifted (os : Os) (started : os.Started) (H : Type) (enc : TypeId × Value → H) (F : Stop.Interp) :
    ReturnsInHanded {} Tryz.checked os 4 .any ((OpenSpec.ofChange Rows.harmonicNumbersSpec).preRow enc Tryz.prog Tryz.f4 Rows.harmonicNumbersRow.domain false Rows.harmonicNumbersRow.laid) (((OpenSpec.ofChange Rows.harmonicNumbersSpec).at F).post enc Tryz.prog Tryz.f4 false true false false) := by
  obtain ⟨places, hx⟩ := reads os enc
  refine returnsInHanded_of_row (C := Tryz.checked) (s := OpenSpec.ofChange Rows.harmonicNumbersSpec) own started (by kernel_rfl) Tryz.func4
    (witness_row_at (enc := enc) (C := Tryz.checked) false (laidWorld os) wArgs rfl (by kernel_rfl) (by kernel_rfl) (by kernel_rfl)
      (OpenSpec.preRow_of_cond 8 hx (by kernel_rfl) (fun k hk => by cases hk) (by kernel_rfl) (laid_met os))) ?_
  intro W base args ds gs before hval hW _ _ _ hL _ _
  exact contract H enc W base args ds gs before hval hW hL
theorem said : Rows.HarmonicNumbersSaid :=
  OpenClaim.holds_of_cond 4 Tryz.f4 rfl rfl rfl rfl rfl rfl rfl ⟨rfl, rfl, rfl, rfl, rfl⟩ rfl rfl rfl rfl rfl (by kernel_rfl) Tryz.func4 (by kernel_rfl)
    (of_decide_eq_true (by kernel_rfl)) (by unfold Func.isWrapper; first | (rw [if_pos (by decide +kernel)]; kernel_rfl) | (rw [if_neg (by decide +kernel)]; exact ⟨rfl, rfl⟩))
    (fun os started H enc _ F => by rw [OpenClaim.pre_eq_preRow]; exact lifted os started H enc F)
theorem plain (f : FuncId) (fn : Func) (hf : Tryz.pinned.checked.prog.funcNamed "bipole/bipolelaw04.HarmonicNumbers" = some f) (hfn : Tryz.pinned.checked.prog.funcs[f]? = some fn) :
    false = Tryz.pinned.checked.prog.looks [] ∧ ∀ (j : Nat) t, fn.params[j]? = some t → Tryz.pinned.checked.prog.wantsStandIn t = false := by
  obtain rfl : f = 4 := Option.some.inj ((show Tryz.prog.funcNamed "bipole/bipolelaw04.HarmonicNumbers" = some 4 by kernel_rfl).symm.trans hf) |>.symm
  obtain rfl : fn = Tryz.f4 := (Option.some.inj (Tryz.func4.symm.trans hfn)).symm
  refine ⟨by kernel_rfl, fun j t ht => ?_⟩
  rw [Tryz.params4] at ht
  have hm : t = 50 ∨ t = 50 ∨ t = 3 := by simpa using Array.mem_of_getElem? ht
  rcases hm with rfl | rfl | rfl
  · exact (show Tryz.prog.wantsStandIn 50 = false by kernel_rfl)
  · exact (show Tryz.prog.wantsStandIn 50 = false by kernel_rfl)
  · exact (show Tryz.prog.wantsStandIn 3 = false by kernel_rfl)
theorem card : Rows.HarmonicNumbersCardSaid :=
  Claim7.holds_tied_plain_at .later [] _ _ _ _ said (fun _ h => by cases h) (by kernel_rfl) (fun _ h => by cases h) harmonicNumbers_row_tie rfl ⟨rfl, rfl⟩ (by kernel_rfl) rfl plain (by kernel_rfl)
end Go.Proofs.YtgnmhapgciejfaaGreatDoor.harmonicNumbers
end
