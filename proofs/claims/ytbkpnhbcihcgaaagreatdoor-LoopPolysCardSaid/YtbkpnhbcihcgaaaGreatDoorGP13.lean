/-
  LoopPolys: its ways.
  The whole.
-/
import Derived.Test.YtbkpnhbcihcgaaaGreatDoorGP5
import Derived.Test.YtbkpnhbcihcgaaaGreatDoorGP6
import Derived.Test.YtbkpnhbcihcgaaaGreatDoorGP7
import Derived.Test.YtbkpnhbcihcgaaaGreatDoorGP8
import Derived.Test.YtbkpnhbcihcgaaaGreatDoorGP9
import Derived.Test.YtbkpnhbcihcgaaaGreatDoorGP10
import Derived.Test.YtbkpnhbcihcgaaaGreatDoorGP11
import Derived.Test.YtbkpnhbcihcgaaaGreatDoorGP12
import Derived.Test.YtbkpnhbcihcgaaaGreatDoorGP3
import Derived.Test.YtbkpnhbcihcgaaaGreatDoorGP4
section
set_option linter.all false
set_option maxRecDepth 1000000
open Go.RowKit
namespace Go.Proofs.YtbkpnhbcihcgaaaGreatDoor
open Mini
theorem aw3X0 : FOk Tryz.prog (joinX 142) := joinX_ok fun bk o c xs sep w h1 h2 h3 h4 h5 => Tryz.strings_Join bk o c xs sep w h1 h2 h3 h4 h5
theorem aw3X : FOk Tryz.prog (joinX 142) := aw3X0
theorem aw3m : Tryz.prog.follows .mixedOrders = true := by kernel_rfl
theorem aw3g24 : SndC Tryz.prog none (dropS 24 aw3B) aw3A24.act aw3S24 .ret aw3A25.act aw3S25 aw3R24 aw3W24 := chain_last aw3m aw3X aw3c24
theorem aw3g23 : SndC Tryz.prog none (dropS 23 aw3B) aw3A23.act aw3S23 .ret aw3A25.act aw3S25 aw3RR23 aw3WW23 := by
  have h := chain_step aw3m aw3X (by kernel_rfl) aw3c23 aw3g24
  rwa [show aw3R23 ||| aw3R24 = aw3RR23 from by decide +kernel, show aw3W23 ||| aw3W24 = aw3WW23 from by decide +kernel] at h
theorem aw3g22 : SndC Tryz.prog none (dropS 22 aw3B) aw3A22.act aw3S22 .ret aw3A25.act aw3S25 aw3RR22 aw3WW22 := by
  have h := chain_step aw3m aw3X (by kernel_rfl) aw3c22 aw3g23
  rwa [show aw3R22 ||| aw3RR23 = aw3RR22 from by decide +kernel, show aw3W22 ||| aw3WW23 = aw3WW22 from by decide +kernel] at h
theorem aw3g21 : SndC Tryz.prog none (dropS 21 aw3B) aw3A21.act aw3S21 .ret aw3A25.act aw3S25 aw3RR21 aw3WW21 := by
  have h := chain_step aw3m aw3X (by kernel_rfl) aw3c21 aw3g22
  rwa [show aw3R21 ||| aw3RR22 = aw3RR21 from by decide +kernel, show aw3W21 ||| aw3WW22 = aw3WW21 from by decide +kernel] at h
theorem aw3g20 : SndC Tryz.prog none (dropS 20 aw3B) aw3A20.act aw3S20 .ret aw3A25.act aw3S25 aw3RR20 aw3WW20 := by
  have h := chain_step aw3m aw3X (by kernel_rfl) aw3c20 aw3g21
  rwa [show aw3R20 ||| aw3RR21 = aw3RR20 from by decide +kernel, show aw3W20 ||| aw3WW21 = aw3WW20 from by decide +kernel] at h
theorem aw3g19 : SndC Tryz.prog none (dropS 19 aw3B) aw3A19.act aw3S19 .ret aw3A25.act aw3S25 aw3RR19 aw3WW19 := by
  have h := chain_step aw3m aw3X (by kernel_rfl) aw3c19 aw3g20
  rwa [show aw3R19 ||| aw3RR20 = aw3RR19 from by decide +kernel, show aw3W19 ||| aw3WW20 = aw3WW19 from by decide +kernel] at h
theorem aw3g18 : SndC Tryz.prog none (dropS 18 aw3B) aw3A18.act aw3S18 .ret aw3A25.act aw3S25 aw3RR18 aw3WW18 := by
  have h := chain_step aw3m aw3X (by kernel_rfl) aw3c18 aw3g19
  rwa [show aw3R18 ||| aw3RR19 = aw3RR18 from by decide +kernel, show aw3W18 ||| aw3WW19 = aw3WW18 from by decide +kernel] at h
theorem aw3g17 : SndC Tryz.prog none (dropS 17 aw3B) aw3A17.act aw3S17 .ret aw3A25.act aw3S25 aw3RR17 aw3WW17 := by
  have h := chain_step aw3m aw3X (by kernel_rfl) aw3c17 aw3g18
  rwa [show aw3R17 ||| aw3RR18 = aw3RR17 from by decide +kernel, show aw3W17 ||| aw3WW18 = aw3WW17 from by decide +kernel] at h
theorem aw3g16 : SndC Tryz.prog none (dropS 16 aw3B) aw3A16.act aw3S16 .ret aw3A25.act aw3S25 aw3RR16 aw3WW16 := by
  have h := chain_step aw3m aw3X (by kernel_rfl) aw3c16 aw3g17
  rwa [show aw3R16 ||| aw3RR17 = aw3RR16 from by decide +kernel, show aw3W16 ||| aw3WW17 = aw3WW16 from by decide +kernel] at h
theorem aw3g15 : SndC Tryz.prog none (dropS 15 aw3B) aw3A15.act aw3S15 .ret aw3A25.act aw3S25 aw3RR15 aw3WW15 := by
  have h := chain_step aw3m aw3X (by kernel_rfl) aw3c15 aw3g16
  rwa [show aw3R15 ||| aw3RR16 = aw3RR15 from by decide +kernel, show aw3W15 ||| aw3WW16 = aw3WW15 from by decide +kernel] at h
theorem aw3g14 : SndC Tryz.prog none (dropS 14 aw3B) aw3A14.act aw3S14 .ret aw3A25.act aw3S25 aw3RR14 aw3WW14 := by
  have h := chain_step aw3m aw3X (by kernel_rfl) aw3c14 aw3g15
  rwa [show aw3R14 ||| aw3RR15 = aw3RR14 from by decide +kernel, show aw3W14 ||| aw3WW15 = aw3WW14 from by decide +kernel] at h
theorem aw3g13 : SndC Tryz.prog none (dropS 13 aw3B) aw3A13.act aw3S13 .ret aw3A25.act aw3S25 aw3RR13 aw3WW13 := by
  have h := chain_step aw3m aw3X (by kernel_rfl) aw3c13 aw3g14
  rwa [show aw3R13 ||| aw3RR14 = aw3RR13 from by decide +kernel, show aw3W13 ||| aw3WW14 = aw3WW13 from by decide +kernel] at h
theorem aw3g12 : SndC Tryz.prog none (dropS 12 aw3B) aw3A12.act aw3S12 .ret aw3A25.act aw3S25 aw3RR12 aw3WW12 := by
  have h := chain_step aw3m aw3X (by kernel_rfl) aw3c12 aw3g13
  rwa [show aw3R12 ||| aw3RR13 = aw3RR12 from by decide +kernel, show aw3W12 ||| aw3WW13 = aw3WW12 from by decide +kernel] at h
theorem aw3g11 : SndC Tryz.prog none (dropS 11 aw3B) aw3A11.act aw3S11 .ret aw3A25.act aw3S25 aw3RR11 aw3WW11 := by
  have h := chain_step aw3m aw3X (by kernel_rfl) aw3c11 aw3g12
  rwa [show aw3R11 ||| aw3RR12 = aw3RR11 from by decide +kernel, show aw3W11 ||| aw3WW12 = aw3WW11 from by decide +kernel] at h
theorem aw3g10 : SndC Tryz.prog none (dropS 10 aw3B) aw3A10.act aw3S10 .ret aw3A25.act aw3S25 aw3RR10 aw3WW10 := by
  have h := chain_step aw3m aw3X (by kernel_rfl) aw3c10 aw3g11
  rwa [show aw3R10 ||| aw3RR11 = aw3RR10 from by decide +kernel, show aw3W10 ||| aw3WW11 = aw3WW10 from by decide +kernel] at h
theorem aw3g9 : SndC Tryz.prog none (dropS 9 aw3B) aw3A9.act aw3S9 .ret aw3A25.act aw3S25 aw3RR9 aw3WW9 := by
  have h := chain_step aw3m aw3X (by kernel_rfl) aw3c9 aw3g10
  rwa [show aw3R9 ||| aw3RR10 = aw3RR9 from by decide +kernel, show aw3W9 ||| aw3WW10 = aw3WW9 from by decide +kernel] at h
theorem aw3g8 : SndC Tryz.prog none (dropS 8 aw3B) aw3A8.act aw3S8 .ret aw3A25.act aw3S25 aw3RR8 aw3WW8 := by
  have h := chain_step aw3m aw3X (by kernel_rfl) aw3c8 aw3g9
  rwa [show aw3R8 ||| aw3RR9 = aw3RR8 from by decide +kernel, show aw3W8 ||| aw3WW9 = aw3WW8 from by decide +kernel] at h
theorem aw3g7 : SndC Tryz.prog none (dropS 7 aw3B) aw3A7.act aw3S7 .ret aw3A25.act aw3S25 aw3RR7 aw3WW7 := by
  have h := chain_step aw3m aw3X (by kernel_rfl) aw3c7 aw3g8
  rwa [show aw3R7 ||| aw3RR8 = aw3RR7 from by decide +kernel, show aw3W7 ||| aw3WW8 = aw3WW7 from by decide +kernel] at h
theorem aw3g6 : SndC Tryz.prog none (dropS 6 aw3B) aw3A6.act aw3S6 .ret aw3A25.act aw3S25 aw3RR6 aw3WW6 := by
  have h := chain_step aw3m aw3X (by kernel_rfl) aw3c6 aw3g7
  rwa [show aw3R6 ||| aw3RR7 = aw3RR6 from by decide +kernel, show aw3W6 ||| aw3WW7 = aw3WW6 from by decide +kernel] at h
theorem aw3g5 : SndC Tryz.prog none (dropS 5 aw3B) aw3A5.act aw3S5 .ret aw3A25.act aw3S25 aw3RR5 aw3WW5 := by
  have h := chain_step aw3m aw3X (by kernel_rfl) aw3c5 aw3g6
  rwa [show aw3R5 ||| aw3RR6 = aw3RR5 from by decide +kernel, show aw3W5 ||| aw3WW6 = aw3WW5 from by decide +kernel] at h
theorem aw3g4 : SndC Tryz.prog none (dropS 4 aw3B) aw3A4.act aw3S4 .ret aw3A25.act aw3S25 aw3RR4 aw3WW4 := by
  have h := chain_step aw3m aw3X (by kernel_rfl) aw3c4 aw3g5
  rwa [show aw3R4 ||| aw3RR5 = aw3RR4 from by decide +kernel, show aw3W4 ||| aw3WW5 = aw3WW4 from by decide +kernel] at h
theorem aw3g3 : SndC Tryz.prog none (dropS 3 aw3B) aw3A3.act aw3S3 .ret aw3A25.act aw3S25 aw3RR3 aw3WW3 := by
  have h := chain_step aw3m aw3X (by kernel_rfl) aw3c3 aw3g4
  rwa [show aw3R3 ||| aw3RR4 = aw3RR3 from by decide +kernel, show aw3W3 ||| aw3WW4 = aw3WW3 from by decide +kernel] at h
theorem aw3g2 : SndC Tryz.prog none (dropS 2 aw3B) aw3A2.act aw3S2 .ret aw3A25.act aw3S25 aw3RR2 aw3WW2 := by
  have h := chain_step aw3m aw3X (by kernel_rfl) aw3c2 aw3g3
  rwa [show aw3R2 ||| aw3RR3 = aw3RR2 from by decide +kernel, show aw3W2 ||| aw3WW3 = aw3WW2 from by decide +kernel] at h
theorem aw3g1 : SndC Tryz.prog none (dropS 1 aw3B) aw3A1.act aw3S1 .ret aw3A25.act aw3S25 aw3RR1 aw3WW1 := by
  have h := chain_step aw3m aw3X (by kernel_rfl) aw3c1 aw3g2
  rwa [show aw3R1 ||| aw3RR2 = aw3RR1 from by decide +kernel, show aw3W1 ||| aw3WW2 = aw3WW1 from by decide +kernel] at h
theorem aw3g0 : SndC Tryz.prog none (dropS 0 aw3B) aw3A0.act aw3S0 .ret aw3A25.act aw3S25 aw3RR0 aw3WW0 := by
  have h := chain_step aw3m aw3X (by kernel_rfl) aw3c0 aw3g1
  rwa [show aw3R0 ||| aw3RR1 = aw3RR0 from by decide +kernel, show aw3W0 ||| aw3WW1 = aw3WW0 from by decide +kernel] at h
theorem aw3f : SndF Tryz.prog 12 #[] aw3S0 (.bool true) aw3S25 (aw3RR0 ||| 0) aw3WW0 :=
  sndF_of (vs := [.bool true]) Tryz.func12 (show _ = some aw3B by kernel_rfl) (.inr rfl) (by kernel_rfl) (show SndC Tryz.prog none aw3B (startA Tryz.f12 #[]) aw3S0 .ret aw3A25.act aw3S25 aw3RR0 aw3WW0 from ((startM_act _ _).symm.trans (congrArg MA.act (show startM Tryz.f12 #[] = aw3A0 by kernel_rfl))) ▸ aw3g0) (by kernel_rfl)
theorem aw3_calls (w : World) (h : Holds Tryz.prog aw3S0 w) : Calls Tryz.prog 12 #[] w fun e w' => e = .returned (.bool true) ∧ Below w.heap.size w w' :=
  calls_of aw3f (by kernel_rfl) (by kernel_rfl) (fun b hb => by
    have hb : b < Tryz.prog.globals.size := hb
    rw [show Tryz.prog.globals.size = 6 by kernel_rfl] at hb
    revert b; decide +kernel) h
end Go.Proofs.YtbkpnhbcihcgaaaGreatDoor
end
section
set_option linter.all false
set_option maxRecDepth 1000000
open Go.RowKit
namespace Go.Proofs.YtbkpnhbcihcgaaaGreatDoor
open Mini
noncomputable section
variable (n : Nat) (c : Nat) (g : GI) (x : Int) (y : Int)
noncomputable def kRgP : CallS := kAll [c_range, c_rrange, c_point]
noncomputable def lpK : CallS := bothX kRgP (bothX kSameI (bothX kCP (bothX kRCP (bothX kSu (bothX kPu (bothX kPr (bothX kRp (bothX kEC (bothX kNN (bothX kVa (bothX kRv (tabT aw3S0 12))))))))))))
def lpT0 : List Tok := [1, 1, 1, 0]
def lpT1 : List Tok := lpT0 ++ [0]
def lpT2 : List Tok := lpT1 ++ [1, 1, 0, 1, 1]
def lpT3 : List Tok := lpT2 ++ [1, 0, 1, 1, 1, 0, 1, 1, 1, 1, 0, 1, 0, 0, 0, 1, 1, 1, 0, 1, 0, 1, 1, 1, 1, 0, 1, 0, 1, 1, 1, 1, 1, 1, 1, 1, 1, 1, 1, 1, 1, 1, 1, 1, 1, 1, 1, 1, 0, 0, 1, 1, 1, 1, 1, 1, 1, 1, 0, 0, 1, 1, 1, 1, 1, 1, 1]
def lpT4 : List Tok := lpT2 ++ [.row 0 0, 1, 0, 1, 1, .row 0 0, 1, 0, 1, 1, 1, 1, 0, 1, 0, 0, 0, 1, 1, 0, 1, 0, 1, 1, 1, 0, 1, 0, 1, 1, 1, 1, 1, 1, 1, 1, 1, 1, 1, 1, 1, 1, 1, 1, 1, 1, 1, 1, 0, 0, 1, 1, 1, 1, 1, 1, 1, 1, 0, 0, 1, 1, 1, 1, 1, 1, 1]
def lpT5 : List Tok := lpT1 ++ [.row 0 0]
def lpT6 : List Tok := lpT5 ++ [0, .row 0 0, 1, 0, 0, 1, 1]
def lpT7 : List Tok := lpT6 ++ [0, 0, 0, .row 0 0]
def lpT8 : List Tok := lpT7 ++ [1, 0, 0, 1, 1, 1, 1, .row 0 0, 1, 0, 0, 1, 1, 1, 1, 1, 0, 0, 1, 1, 0, 1, 2, 0, 0, 1, 1, 1, 1, 0, 0, 1, 1, 1, 1, 1, 1, 1, 0, 0, 1, 1, 1, 1, 1, .row 0 0, 1, 1, 1, 1, 1, 1, 1, 1, 1, 1, 1, 1, 1, 1, 1, 1, 1, 1, 1, 0, 0, 1, 1, 1, 1, 1, 1, 1, 1, 0, 0, 1, 1, 1, 1, 1, 1, 1]
def lpT9 : List Tok := lpT7 ++ [.row 0 0, 1, 0, 0, 1, 1]
def lpT10 : List Tok := lpT9 ++ [0, 0, 0]
def lpT11 : List Tok := lpT10 ++ [1, .row 0 0, .row 0 0, 1, 0, 0, 1, 1, 0, 0, 0]
def lpT12 : List Tok := lpT11 ++ [1, 1, 0, 0, 1, 1, 0, 1, 2, 0, 0, 1, 1, 1, 0, 0, 1, 1, 0, 0, 0, 1, 1, 0, 0, 1, 1, 0, 0, 0, 1, .row 0 0, 1, 1, 1, 1, 1, 1, 1, 1, 1, 1, 1, 1, 1, 1, 1, 1, 1, 1, 1, 0, 0, 1, 1, 1, 1, 1, 1, 1, 1, 0, 0, 1, 1, 1, 1, 1, 1, 1]
def lpT13 : List Tok := lpT11 ++ [0]
def lpT14 : List Tok := lpT13 ++ [0, 1, 0, 0, 1, 1, 0, 1, 2, 0, 0, 1, 1, 1, 0, 0, 1, 1, 0, 0, 0, 1, 1, 0, 0, 1, 1, 0, 0, 0, 0, 0, 0, .row 0 0, 1, 1, 1, 1, 1, 1, 1, 1, 1, 1, 1, 1, 1, 1, 1, 1, 1, 1, 1, 0, 0, 1, 1, 1, 1, 1, 1, 1, 1, 1, 1, 1, 1, 1, 1, 1]
def lpT15 : List Tok := lpT13 ++ [1, 1, 0, 0, 1, 1, 0, 1, 2, 0, 0, 1, 1, 1, 0, 0, 1, 1, 0, 0, 0, 1, 1, 0, 0, 1, 1, 0, 0, 0, 0, 1, 1, .row 0 0, 1, 1, 1, 1, 1, 1, 1, 1, 1, 1, 1, 1, 1, 1, 1, 1, 1, 1, 1, 0, 0, 1, 1, 1, 1, 1, 1, 1, 1, 0, 0, 1, 1, 1, 1, 1, 1, 1]
def lpT16 : List Tok := lpT10 ++ [0]
def lpT17 : List Tok := lpT16 ++ [0, .row 0 0, .row 0 0, 1, 0, 0, 1, 1, 0, 0, 0]
def lpT18 : List Tok := lpT17 ++ [1, 1, 0, 0, 1, 1, 0, 1, 2, 0, 0, 1, 1, 1, 0, 0, 1, 1, 0, 0, 0, 0, 0, 0, 1, 0, 0, 1, 1, 0, 0, 0, 1, .row 0 0, 1, 1, 1, 1, 1, 1, 1, 1, 1, 1, 1, 1, 1, 1, 1, 1, 1, 1, 1, 1, 1, 1, 1, 1, 1, 1, 1, 0, 0, 1, 1, 1, 1, 1, 1, 1]
def lpT19 : List Tok := lpT17 ++ [0]
def lpT20 : List Tok := lpT19 ++ [0, 1, 0, 0, 1, 1, 0, 1, 2, 0, 0, 1, 1, 1, 0, 0, 1, 1, 0, 0, 0, 0, 0, 0, 1, 0, 0, 1, 1, 0, 0, 0, 0, 0, 0, .row 0 0, 1, 1, 1, 1, 1, 1, 1, 1, 1, 1, 1, 1, 1, 1, 1, 1, 1, 1, 1, 1, 1, 1, 1, 1, 1, 1, 1, 1, 1, 1, 1, 1, 1, 1]
def lpT21 : List Tok := lpT19 ++ [1, 1, 0, 0, 1, 1, 0, 1, 2, 0, 0, 1, 1, 1, 0, 0, 1, 1, 0, 0, 0, 0, 0, 0, 1, 0, 0, 1, 1, 0, 0, 0, 0, 1, 1, .row 0 0, 1, 1, 1, 1, 1, 1, 1, 1, 1, 1, 1, 1, 1, 1, 1, 1, 1, 1, 1, 1, 1, 1, 1, 1, 1, 1, 1, 0, 0, 1, 1, 1, 1, 1, 1, 1]
def lpT22 : List Tok := lpT16 ++ [1, .row 0 0, .row 0 0, 1, 0, 0, 1, 1, 0, 0, 0]
def lpT23 : List Tok := lpT22 ++ [1, 1, 0, 0, 1, 1, 0, 1, 2, 0, 0, 1, 1, 1, 0, 0, 1, 1, 0, 0, 0, 0, 1, 1, 1, 0, 0, 1, 1, 0, 0, 0, 1, .row 0 0, 1, 1, 1, 1, 1, 1, 1, 1, 1, 1, 1, 1, 1, 1, 1, 1, 1, 1, 1, 0, 0, 1, 1, 1, 1, 1, 1, 1, 1, 0, 0, 1, 1, 1, 1, 1, 1, 1]
def lpT24 : List Tok := lpT22 ++ [0]
def lpT25 : List Tok := lpT24 ++ [0, 1, 0, 0, 1, 1, 0, 1, 2, 0, 0, 1, 1, 1, 0, 0, 1, 1, 0, 0, 0, 0, 1, 1, 1, 0, 0, 1, 1, 0, 0, 0, 0, 0, 0, .row 0 0, 1, 1, 1, 1, 1, 1, 1, 1, 1, 1, 1, 1, 1, 1, 1, 1, 1, 1, 1, 0, 0, 1, 1, 1, 1, 1, 1, 1, 1, 1, 1, 1, 1, 1, 1, 1]
def lpT26 : List Tok := lpT24 ++ [1, 1, 0, 0, 1, 1, 0, 1, 2, 0, 0, 1, 1, 1, 0, 0, 1, 1, 0, 0, 0, 0, 1, 1, 1, 0, 0, 1, 1, 0, 0, 0, 0, 1, 1, .row 0 0, 1, 1, 1, 1, 1, 1, 1, 1, 1, 1, 1, 1, 1, 1, 1, 1, 1, 1, 1, 0, 0, 1, 1, 1, 1, 1, 1, 1, 1, 0, 0, 1, 1, 1, 1, 1, 1, 1]
def lpT27 : List Tok := lpT9 ++ [1, 1, .row 0 0, .row 0 0, 1, 0, 0, 1, 1, 1, 1, 1, 0, 0, 1, 1, 0, 1, 2, 0, 0, 1, 1, 1, 0, 0, 1, 1, 1, 1, 1, 1, 0, 0, 1, 1, 1, 1, 1, .row 0 0, 1, 1, 1, 1, 1, 1, 1, 1, 1, 1, 1, 1, 1, 1, 1, 1, 1, 1, 1, 0, 0, 1, 1, 1, 1, 1, 1, 1, 1, 0, 0, 1, 1, 1, 1, 1, 1, 1]
def lpT28 : List Tok := lpT6 ++ [1, 1, .row 0 0]
def lpT29 : List Tok := lpT28 ++ [1, 0, 0, 1, 1, 1, 1, .row 0 0, 1, 0, 0, 1, 1, 1, 1, 1, 0, 0, 1, 1]
def lpT30 : List Tok := lpT29 ++ [0, 1, 2, 1, 2, 1, 0, 1, 1, 0, 0, 1, 1, 1, 1, 1, 1, 1, 0, 0, 1, 1, 1, 1, 1, .row 0 0, 1, 1, 1, 1, 1, 1, 1, 1, 1, 1, 1, 1, 1, 1, 1, 1, 1, 1, 1, 0, 0, 1, 1, 1, 1, 1, 1, 1, 1, 0, 0, 1, 1, 1, 1, 1, 1, 1]
def lpT31 : List Tok := lpT29 ++ [1, 1, 1, 0, 1, 1, 0, 0, 1, 1, 1, 1, 1, 1, 1, 0, 0, 1, 1, 1, 1, 1, .row 0 0, 1, 1, 1, 1, 1, 1, 1, 1, 1, 1, 1, 1, 1, 1, 1, 1, 1, 1, 1, 0, 0, 1, 1, 1, 1, 1, 1, 1, 1, 0, 0, 1, 1, 1, 1, 1, 1, 1]
def lpT32 : List Tok := lpT28 ++ [.row 0 0, 1, 0, 0, 1, 1]
def lpT33 : List Tok := lpT32 ++ [0, 0, 0]
def lpT34 : List Tok := lpT33 ++ [1, .row 0 0, .row 0 0, 1, 0, 0, 1, 1, 0, 0, 0]
def lpT35 : List Tok := lpT34 ++ [1, 1, 0, 0, 1, 1]
def lpT36 : List Tok := lpT35 ++ [0, 1, 2, 1, 2, 1, 0, 1, 0, 0, 1, 1, 0, 0, 0, 1, 1, 0, 0, 1, 1, 0, 0, 0, 1, .row 0 0, 1, 1, 1, 1, 1, 1, 1, 1, 1, 1, 1, 1, 1, 1, 1, 1, 1, 1, 1, 0, 0, 1, 1, 1, 1, 1, 1, 1, 1, 0, 0, 1, 1, 1, 1, 1, 1, 1]
def lpT37 : List Tok := lpT35 ++ [1, 1, 1, 0, 1, 0, 0, 1, 1, 0, 0, 0, 1, 1, 0, 0, 1, 1, 0, 0, 0, 1, .row 0 0, 1, 1, 1, 1, 1, 1, 1, 1, 1, 1, 1, 1, 1, 1, 1, 1, 1, 1, 1, 0, 0, 1, 1, 1, 1, 1, 1, 1, 1, 0, 0, 1, 1, 1, 1, 1, 1, 1]
def lpT38 : List Tok := lpT34 ++ [0]
def lpT39 : List Tok := lpT38 ++ [0, 1, 0, 0, 1, 1]
def lpT40 : List Tok := lpT39 ++ [0, 1, 2, 1, 2, 1, 0, 1, 0, 0, 1, 1, 0, 0, 0, 1, 1, 0, 0, 1, 1, 0, 0, 0, 0, 0, 0, .row 0 0, 1, 1, 1, 1, 1, 1, 1, 1, 1, 1, 1, 1, 1, 1, 1, 1, 1, 1, 1, 0, 0, 1, 1, 1, 1, 1, 1, 1, 1, 1, 1, 1, 1, 1, 1, 1]
def lpT41 : List Tok := lpT39 ++ [1, 1, 1, 0, 1, 0, 0, 1, 1, 0, 0, 0, 1, 1, 0, 0, 1, 1, 0, 0, 0, 0, 0, 0, .row 0 0, 1, 1, 1, 1, 1, 1, 1, 1, 1, 1, 1, 1, 1, 1, 1, 1, 1, 1, 1, 0, 0, 1, 1, 1, 1, 1, 1, 1, 1, 1, 1, 1, 1, 1, 1, 1]
def lpT42 : List Tok := lpT38 ++ [1, 1, 0, 0, 1, 1]
def lpT43 : List Tok := lpT42 ++ [0, 1, 2, 1, 2, 1, 0, 1, 0, 0, 1, 1, 0, 0, 0, 1, 1, 0, 0, 1, 1, 0, 0, 0, 0, 1, 1, .row 0 0, 1, 1, 1, 1, 1, 1, 1, 1, 1, 1, 1, 1, 1, 1, 1, 1, 1, 1, 1, 0, 0, 1, 1, 1, 1, 1, 1, 1, 1, 0, 0, 1, 1, 1, 1, 1, 1, 1]
def lpT44 : List Tok := lpT42 ++ [1, 1, 1, 0, 1, 0, 0, 1, 1, 0, 0, 0, 1, 1, 0, 0, 1, 1, 0, 0, 0, 0, 1, 1, .row 0 0, 1, 1, 1, 1, 1, 1, 1, 1, 1, 1, 1, 1, 1, 1, 1, 1, 1, 1, 1, 0, 0, 1, 1, 1, 1, 1, 1, 1, 1, 0, 0, 1, 1, 1, 1, 1, 1, 1]
def lpT45 : List Tok := lpT33 ++ [0]
def lpT46 : List Tok := lpT45 ++ [0, .row 0 0, .row 0 0, 1, 0, 0, 1, 1, 0, 0, 0]
def lpT47 : List Tok := lpT46 ++ [1, 1, 0, 0, 1, 1]
def lpT48 : List Tok := lpT47 ++ [0, 1, 2, 1, 2, 1, 0, 1, 0, 0, 1, 1, 0, 0, 0, 0, 0, 0, 1, 0, 0, 1, 1, 0, 0, 0, 1, .row 0 0, 1, 1, 1, 1, 1, 1, 1, 1, 1, 1, 1, 1, 1, 1, 1, 1, 1, 1, 1, 1, 1, 1, 1, 1, 1, 1, 1, 0, 0, 1, 1, 1, 1, 1, 1, 1]
def lpT49 : List Tok := lpT47 ++ [1, 1, 1, 0, 1, 0, 0, 1, 1, 0, 0, 0, 0, 0, 0, 1, 0, 0, 1, 1, 0, 0, 0, 1, .row 0 0, 1, 1, 1, 1, 1, 1, 1, 1, 1, 1, 1, 1, 1, 1, 1, 1, 1, 1, 1, 1, 1, 1, 1, 1, 1, 1, 1, 0, 0, 1, 1, 1, 1, 1, 1, 1]
def lpT50 : List Tok := lpT46 ++ [0]
def lpT51 : List Tok := lpT50 ++ [0, 1, 0, 0, 1, 1]
def lpT52 : List Tok := lpT51 ++ [0, 1, 2, 1, 2, 1, 0, 1, 0, 0, 1, 1, 0, 0, 0, 0, 0, 0, 1, 0, 0, 1, 1, 0, 0, 0, 0, 0, 0, .row 0 0, 1, 1, 1, 1, 1, 1, 1, 1, 1, 1, 1, 1, 1, 1, 1, 1, 1, 1, 1, 1, 1, 1, 1, 1, 1, 1, 1, 1, 1, 1, 1, 1, 1, 1]
def lpT53 : List Tok := lpT51 ++ [1, 1, 1, 0, 1, 0, 0, 1, 1, 0, 0, 0, 0, 0, 0, 1, 0, 0, 1, 1, 0, 0, 0, 0, 0, 0, .row 0 0, 1, 1, 1, 1, 1, 1, 1, 1, 1, 1, 1, 1, 1, 1, 1, 1, 1, 1, 1, 1, 1, 1, 1, 1, 1, 1, 1, 1, 1, 1, 1, 1, 1, 1]
def lpT54 : List Tok := lpT50 ++ [1, 1, 0, 0, 1, 1]
def lpT55 : List Tok := lpT54 ++ [0, 1, 2, 1, 2, 1, 0, 1, 0, 0, 1, 1, 0, 0, 0, 0, 0, 0, 1, 0, 0, 1, 1, 0, 0, 0, 0, 1, 1, .row 0 0, 1, 1, 1, 1, 1, 1, 1, 1, 1, 1, 1, 1, 1, 1, 1, 1, 1, 1, 1, 1, 1, 1, 1, 1, 1, 1, 1, 0, 0, 1, 1, 1, 1, 1, 1, 1]
def lpT56 : List Tok := lpT54 ++ [1, 1, 1, 0, 1, 0, 0, 1, 1, 0, 0, 0, 0, 0, 0, 1, 0, 0, 1, 1, 0, 0, 0, 0, 1, 1, .row 0 0, 1, 1, 1, 1, 1, 1, 1, 1, 1, 1, 1, 1, 1, 1, 1, 1, 1, 1, 1, 1, 1, 1, 1, 1, 1, 1, 1, 0, 0, 1, 1, 1, 1, 1, 1, 1]
def lpT57 : List Tok := lpT45 ++ [1, .row 0 0, .row 0 0, 1, 0, 0, 1, 1, 0, 0, 0]
def lpT58 : List Tok := lpT57 ++ [1, 1, 0, 0, 1, 1]
def lpT59 : List Tok := lpT58 ++ [0, 1, 2, 1, 2, 1, 0, 1, 0, 0, 1, 1, 0, 0, 0, 0, 1, 1, 1, 0, 0, 1, 1, 0, 0, 0, 1, .row 0 0, 1, 1, 1, 1, 1, 1, 1, 1, 1, 1, 1, 1, 1, 1, 1, 1, 1, 1, 1, 0, 0, 1, 1, 1, 1, 1, 1, 1, 1, 0, 0, 1, 1, 1, 1, 1, 1, 1]
def lpT60 : List Tok := lpT58 ++ [1, 1, 1, 0, 1, 0, 0, 1, 1, 0, 0, 0, 0, 1, 1, 1, 0, 0, 1, 1, 0, 0, 0, 1, .row 0 0, 1, 1, 1, 1, 1, 1, 1, 1, 1, 1, 1, 1, 1, 1, 1, 1, 1, 1, 1, 0, 0, 1, 1, 1, 1, 1, 1, 1, 1, 0, 0, 1, 1, 1, 1, 1, 1, 1]
def lpT61 : List Tok := lpT57 ++ [0]
def lpT62 : List Tok := lpT61 ++ [0, 1, 0, 0, 1, 1]
def lpT63 : List Tok := lpT62 ++ [0, 1, 2, 1, 2, 1, 0, 1, 0, 0, 1, 1, 0, 0, 0, 0, 1, 1, 1, 0, 0, 1, 1, 0, 0, 0, 0, 0, 0, .row 0 0, 1, 1, 1, 1, 1, 1, 1, 1, 1, 1, 1, 1, 1, 1, 1, 1, 1, 1, 1, 0, 0, 1, 1, 1, 1, 1, 1, 1, 1, 1, 1, 1, 1, 1, 1, 1]
def lpT64 : List Tok := lpT62 ++ [1, 1, 1, 0, 1, 0, 0, 1, 1, 0, 0, 0, 0, 1, 1, 1, 0, 0, 1, 1, 0, 0, 0, 0, 0, 0, .row 0 0, 1, 1, 1, 1, 1, 1, 1, 1, 1, 1, 1, 1, 1, 1, 1, 1, 1, 1, 1, 0, 0, 1, 1, 1, 1, 1, 1, 1, 1, 1, 1, 1, 1, 1, 1, 1]
def lpT65 : List Tok := lpT61 ++ [1, 1, 0, 0, 1, 1]
def lpT66 : List Tok := lpT65 ++ [0, 1, 2, 1, 2, 1, 0, 1, 0, 0, 1, 1, 0, 0, 0, 0, 1, 1, 1, 0, 0, 1, 1, 0, 0, 0, 0, 1, 1, .row 0 0, 1, 1, 1, 1, 1, 1, 1, 1, 1, 1, 1, 1, 1, 1, 1, 1, 1, 1, 1, 0, 0, 1, 1, 1, 1, 1, 1, 1, 1, 0, 0, 1, 1, 1, 1, 1, 1, 1]
def lpT67 : List Tok := lpT65 ++ [1, 1, 1, 0, 1, 0, 0, 1, 1, 0, 0, 0, 0, 1, 1, 1, 0, 0, 1, 1, 0, 0, 0, 0, 1, 1, .row 0 0, 1, 1, 1, 1, 1, 1, 1, 1, 1, 1, 1, 1, 1, 1, 1, 1, 1, 1, 1, 0, 0, 1, 1, 1, 1, 1, 1, 1, 1, 0, 0, 1, 1, 1, 1, 1, 1, 1]
def lpT68 : List Tok := lpT32 ++ [1, 1, .row 0 0, .row 0 0, 1, 0, 0, 1, 1, 1, 1, 1, 0, 0, 1, 1]
def lpT69 : List Tok := lpT68 ++ [0, 1, 2, 1, 2, 1, 0, 1, 0, 0, 1, 1, 1, 1, 1, 1, 0, 0, 1, 1, 1, 1, 1, .row 0 0, 1, 1, 1, 1, 1, 1, 1, 1, 1, 1, 1, 1, 1, 1, 1, 1, 1, 1, 1, 0, 0, 1, 1, 1, 1, 1, 1, 1, 1, 0, 0, 1, 1, 1, 1, 1, 1, 1]
def lpT70 : List Tok := lpT68 ++ [1, 1, 1, 0, 1, 0, 0, 1, 1, 1, 1, 1, 1, 0, 0, 1, 1, 1, 1, 1, .row 0 0, 1, 1, 1, 1, 1, 1, 1, 1, 1, 1, 1, 1, 1, 1, 1, 1, 1, 1, 1, 0, 0, 1, 1, 1, 1, 1, 1, 1, 1, 0, 0, 1, 1, 1, 1, 1, 1, 1]
def lpT71 : List Tok := lpT5 ++ [1, .row 0 0, 1, 0, 1, 1, .row 0 0]
def lpT72 : List Tok := lpT71 ++ [1, 0, 1, 1, .row 0 0, 1, 0, 1, 1, 1, 0, 1, 0, 0, 0, 1, 1, 0, 1, 0, 1, 1, 1, 0, 1, 0, 1, .row 0 0, 1, 1, 1, 1, 1, 1, 1, 1, 1, 1, 1, 1, 1, 1, 1, 1, 1, 1, 1, 0, 0, 1, 1, 1, 1, 1, 1, 1, 1, 0, 0, 1, 1, 1, 1, 1, 1, 1]
def lpT73 : List Tok := lpT71 ++ [.row 0 0, 1, 0, 1, 1, .row 0 0, .row 0 0, 1, 0, 1, 1, 1, 0, 1, 0, 0, 0, 1, 0, 1, 0, 1, 1, 0, 1, 0, 1, .row 0 0, 1, 1, 1, 1, 1, 1, 1, 1, 1, 1, 1, 1, 1, 1, 1, 1, 1, 1, 1, 0, 0, 1, 1, 1, 1, 1, 1, 1, 1, 0, 0, 1, 1, 1, 1, 1, 1, 1]
def lpT74 : List Tok := lpT0 ++ [1]
def lpT75 : List Tok := [0, 0, 0, 1, 1]
abbrev sG0 := (aw3S0.push (.hole)).push (.hole)
noncomputable def lp0 : Option OutS := evFS Tryz.prog lpK 1000 3 #[.slice none 0 0, .slice none 0 0, .agg #[.int .i64 x, .int .i64 y]] sG0 ⟨lpT3, True⟩
noncomputable def lp1 (c2 : Nat) (x : Int) (y : Int) : Option OutS := evFS Tryz.prog lpK 1000 3 #[.slice none 0 0, .slice (some ⟨7, 0, none⟩) 0 c2, .agg #[.int .i64 x, .int .i64 y]] sG0 ⟨lpT3, True⟩
abbrev sG1 (h : GI) (m : Nat) := (aw3S0.push (.hole)).push (.rows m 1 (fun i j => .int .i64 (h i j)) 0 true 0 true)
noncomputable def lp2 (m : Nat) (c2 : Nat) (h : GI) (x : Int) (y : Int) : Option OutS := evFS Tryz.prog lpK 1000 3 #[.slice none 0 0, .slice (some ⟨7, 0, none⟩) m c2, .agg #[.int .i64 x, .int .i64 y]] (sG1 h m) ⟨lpT74, True⟩
noncomputable def lp3 (m : Nat) (c2 : Nat) (h : GI) (x : Int) (y : Int) : Option OutS := evFS Tryz.prog lpK 1000 3 #[.slice none 0 0, .slice (some ⟨7, 0, none⟩) m c2, .agg #[.int .i64 x, .int .i64 y]] (sG1 h m) ⟨lpT4, True⟩
noncomputable def lp4 : Option OutS := evFS Tryz.prog lpK 1000 3 #[.slice (some ⟨6, 0, none⟩) 0 c, .slice none 0 0, .agg #[.int .i64 x, .int .i64 y]] sG0 ⟨lpT3, True⟩
noncomputable def lp5 (c2 : Nat) (x : Int) (y : Int) : Option OutS := evFS Tryz.prog lpK 1000 3 #[.slice (some ⟨6, 0, none⟩) 0 c, .slice (some ⟨7, 0, none⟩) 0 c2, .agg #[.int .i64 x, .int .i64 y]] sG0 ⟨lpT3, True⟩
noncomputable def lp6 (m : Nat) (c2 : Nat) (h : GI) (x : Int) (y : Int) : Option OutS := evFS Tryz.prog lpK 1000 3 #[.slice (some ⟨6, 0, none⟩) 0 c, .slice (some ⟨7, 0, none⟩) m c2, .agg #[.int .i64 x, .int .i64 y]] (sG1 h m) ⟨lpT74, True⟩
noncomputable def lp7 (m : Nat) (c2 : Nat) (h : GI) (x : Int) (y : Int) : Option OutS := evFS Tryz.prog lpK 1000 3 #[.slice (some ⟨6, 0, none⟩) 0 c, .slice (some ⟨7, 0, none⟩) m c2, .agg #[.int .i64 x, .int .i64 y]] (sG1 h m) ⟨lpT4, True⟩
abbrev sG2 := aw3S0.push (.rows n 1 (fun i j => .int .i64 (g i j)) 0 true 0 true)
abbrev sG3 := (sG2 n g).push (.hole)
noncomputable def lp8 : Option OutS := evFS Tryz.prog lpK 1000 3 #[.slice (some ⟨6, 0, none⟩) n c, .slice none 0 0, .agg #[.int .i64 x, .int .i64 y]] (sG3 n g) ⟨lpT75, True⟩
noncomputable def lp9 : Option OutS := evFS Tryz.prog lpK 1000 3 #[.slice (some ⟨6, 0, none⟩) n c, .slice none 0 0, .agg #[.int .i64 x, .int .i64 y]] (sG3 n g) ⟨lpT8, True⟩
noncomputable def lp10 : Option OutS := evFS Tryz.prog lpK 1000 3 #[.slice (some ⟨6, 0, none⟩) n c, .slice none 0 0, .agg #[.int .i64 x, .int .i64 y]] (sG3 n g) ⟨lpT30, True⟩
noncomputable def lp11 : Option OutS := evFS Tryz.prog lpK 1000 3 #[.slice (some ⟨6, 0, none⟩) n c, .slice none 0 0, .agg #[.int .i64 x, .int .i64 y]] (sG3 n g) ⟨lpT31, True⟩
noncomputable def lp12 : Option OutS := evFS Tryz.prog lpK 1000 3 #[.slice (some ⟨6, 0, none⟩) n c, .slice none 0 0, .agg #[.int .i64 x, .int .i64 y]] (sG3 n g) ⟨lpT72, True⟩
noncomputable def lp13 (c2 : Nat) (x : Int) (y : Int) : Option OutS := evFS Tryz.prog lpK 1000 3 #[.slice (some ⟨6, 0, none⟩) n c, .slice (some ⟨7, 0, none⟩) 0 c2, .agg #[.int .i64 x, .int .i64 y]] (sG3 n g) ⟨lpT75, True⟩
noncomputable def lp14 (c2 : Nat) (x : Int) (y : Int) : Option OutS := evFS Tryz.prog lpK 1000 3 #[.slice (some ⟨6, 0, none⟩) n c, .slice (some ⟨7, 0, none⟩) 0 c2, .agg #[.int .i64 x, .int .i64 y]] (sG3 n g) ⟨lpT8, True⟩
noncomputable def lp15 (c2 : Nat) (x : Int) (y : Int) : Option OutS := evFS Tryz.prog lpK 1000 3 #[.slice (some ⟨6, 0, none⟩) n c, .slice (some ⟨7, 0, none⟩) 0 c2, .agg #[.int .i64 x, .int .i64 y]] (sG3 n g) ⟨lpT30, True⟩
noncomputable def lp16 (c2 : Nat) (x : Int) (y : Int) : Option OutS := evFS Tryz.prog lpK 1000 3 #[.slice (some ⟨6, 0, none⟩) n c, .slice (some ⟨7, 0, none⟩) 0 c2, .agg #[.int .i64 x, .int .i64 y]] (sG3 n g) ⟨lpT31, True⟩
noncomputable def lp17 (c2 : Nat) (x : Int) (y : Int) : Option OutS := evFS Tryz.prog lpK 1000 3 #[.slice (some ⟨6, 0, none⟩) n c, .slice (some ⟨7, 0, none⟩) 0 c2, .agg #[.int .i64 x, .int .i64 y]] (sG3 n g) ⟨lpT72, True⟩
abbrev sG4 (h : GI) (m : Nat) := (sG2 n g).push (.rows m 1 (fun i j => .int .i64 (h i j)) 0 true 0 true)
noncomputable def lp18 (m : Nat) (c2 : Nat) (h : GI) (x : Int) (y : Int) : Option OutS := evFS Tryz.prog lpK 1000 3 #[.slice (some ⟨6, 0, none⟩) n c, .slice (some ⟨7, 0, none⟩) m c2, .agg #[.int .i64 x, .int .i64 y]] (sG4 n g h m) ⟨lpT75, True⟩
noncomputable def lp19 (m : Nat) (c2 : Nat) (h : GI) (x : Int) (y : Int) : Option OutS := evFS Tryz.prog lpK 1000 3 #[.slice (some ⟨6, 0, none⟩) n c, .slice (some ⟨7, 0, none⟩) m c2, .agg #[.int .i64 x, .int .i64 y]] (sG4 n g h m) ⟨lpT74, True⟩
noncomputable def lp20 (m : Nat) (c2 : Nat) (h : GI) (x : Int) (y : Int) : Option OutS := evFS Tryz.prog lpK 1000 3 #[.slice (some ⟨6, 0, none⟩) n c, .slice (some ⟨7, 0, none⟩) m c2, .agg #[.int .i64 x, .int .i64 y]] (sG4 n g h m) ⟨lpT12, True⟩
noncomputable def lp21 (m : Nat) (c2 : Nat) (h : GI) (x : Int) (y : Int) : Option OutS := evFS Tryz.prog lpK 1000 3 #[.slice (some ⟨6, 0, none⟩) n c, .slice (some ⟨7, 0, none⟩) m c2, .agg #[.int .i64 x, .int .i64 y]] (sG4 n g h m) ⟨lpT14, True⟩
noncomputable def lp22 (m : Nat) (c2 : Nat) (h : GI) (x : Int) (y : Int) : Option OutS := evFS Tryz.prog lpK 1000 3 #[.slice (some ⟨6, 0, none⟩) n c, .slice (some ⟨7, 0, none⟩) m c2, .agg #[.int .i64 x, .int .i64 y]] (sG4 n g h m) ⟨lpT15, True⟩
noncomputable def lp23 (m : Nat) (c2 : Nat) (h : GI) (x : Int) (y : Int) : Option OutS := evFS Tryz.prog lpK 1000 3 #[.slice (some ⟨6, 0, none⟩) n c, .slice (some ⟨7, 0, none⟩) m c2, .agg #[.int .i64 x, .int .i64 y]] (sG4 n g h m) ⟨lpT18, True⟩
noncomputable def lp24 (m : Nat) (c2 : Nat) (h : GI) (x : Int) (y : Int) : Option OutS := evFS Tryz.prog lpK 1000 3 #[.slice (some ⟨6, 0, none⟩) n c, .slice (some ⟨7, 0, none⟩) m c2, .agg #[.int .i64 x, .int .i64 y]] (sG4 n g h m) ⟨lpT20, True⟩
noncomputable def lp25 (m : Nat) (c2 : Nat) (h : GI) (x : Int) (y : Int) : Option OutS := evFS Tryz.prog lpK 1000 3 #[.slice (some ⟨6, 0, none⟩) n c, .slice (some ⟨7, 0, none⟩) m c2, .agg #[.int .i64 x, .int .i64 y]] (sG4 n g h m) ⟨lpT21, True⟩
noncomputable def lp26 (m : Nat) (c2 : Nat) (h : GI) (x : Int) (y : Int) : Option OutS := evFS Tryz.prog lpK 1000 3 #[.slice (some ⟨6, 0, none⟩) n c, .slice (some ⟨7, 0, none⟩) m c2, .agg #[.int .i64 x, .int .i64 y]] (sG4 n g h m) ⟨lpT23, True⟩
noncomputable def lp27 (m : Nat) (c2 : Nat) (h : GI) (x : Int) (y : Int) : Option OutS := evFS Tryz.prog lpK 1000 3 #[.slice (some ⟨6, 0, none⟩) n c, .slice (some ⟨7, 0, none⟩) m c2, .agg #[.int .i64 x, .int .i64 y]] (sG4 n g h m) ⟨lpT25, True⟩
noncomputable def lp28 (m : Nat) (c2 : Nat) (h : GI) (x : Int) (y : Int) : Option OutS := evFS Tryz.prog lpK 1000 3 #[.slice (some ⟨6, 0, none⟩) n c, .slice (some ⟨7, 0, none⟩) m c2, .agg #[.int .i64 x, .int .i64 y]] (sG4 n g h m) ⟨lpT26, True⟩
noncomputable def lp29 (m : Nat) (c2 : Nat) (h : GI) (x : Int) (y : Int) : Option OutS := evFS Tryz.prog lpK 1000 3 #[.slice (some ⟨6, 0, none⟩) n c, .slice (some ⟨7, 0, none⟩) m c2, .agg #[.int .i64 x, .int .i64 y]] (sG4 n g h m) ⟨lpT27, True⟩
noncomputable def lp30 (m : Nat) (c2 : Nat) (h : GI) (x : Int) (y : Int) : Option OutS := evFS Tryz.prog lpK 1000 3 #[.slice (some ⟨6, 0, none⟩) n c, .slice (some ⟨7, 0, none⟩) m c2, .agg #[.int .i64 x, .int .i64 y]] (sG4 n g h m) ⟨lpT36, True⟩
noncomputable def lp31 (m : Nat) (c2 : Nat) (h : GI) (x : Int) (y : Int) : Option OutS := evFS Tryz.prog lpK 1000 3 #[.slice (some ⟨6, 0, none⟩) n c, .slice (some ⟨7, 0, none⟩) m c2, .agg #[.int .i64 x, .int .i64 y]] (sG4 n g h m) ⟨lpT37, True⟩
noncomputable def lp32 (m : Nat) (c2 : Nat) (h : GI) (x : Int) (y : Int) : Option OutS := evFS Tryz.prog lpK 1000 3 #[.slice (some ⟨6, 0, none⟩) n c, .slice (some ⟨7, 0, none⟩) m c2, .agg #[.int .i64 x, .int .i64 y]] (sG4 n g h m) ⟨lpT40, True⟩
noncomputable def lp33 (m : Nat) (c2 : Nat) (h : GI) (x : Int) (y : Int) : Option OutS := evFS Tryz.prog lpK 1000 3 #[.slice (some ⟨6, 0, none⟩) n c, .slice (some ⟨7, 0, none⟩) m c2, .agg #[.int .i64 x, .int .i64 y]] (sG4 n g h m) ⟨lpT41, True⟩
noncomputable def lp34 (m : Nat) (c2 : Nat) (h : GI) (x : Int) (y : Int) : Option OutS := evFS Tryz.prog lpK 1000 3 #[.slice (some ⟨6, 0, none⟩) n c, .slice (some ⟨7, 0, none⟩) m c2, .agg #[.int .i64 x, .int .i64 y]] (sG4 n g h m) ⟨lpT43, True⟩
noncomputable def lp35 (m : Nat) (c2 : Nat) (h : GI) (x : Int) (y : Int) : Option OutS := evFS Tryz.prog lpK 1000 3 #[.slice (some ⟨6, 0, none⟩) n c, .slice (some ⟨7, 0, none⟩) m c2, .agg #[.int .i64 x, .int .i64 y]] (sG4 n g h m) ⟨lpT44, True⟩
noncomputable def lp36 (m : Nat) (c2 : Nat) (h : GI) (x : Int) (y : Int) : Option OutS := evFS Tryz.prog lpK 1000 3 #[.slice (some ⟨6, 0, none⟩) n c, .slice (some ⟨7, 0, none⟩) m c2, .agg #[.int .i64 x, .int .i64 y]] (sG4 n g h m) ⟨lpT48, True⟩
noncomputable def lp37 (m : Nat) (c2 : Nat) (h : GI) (x : Int) (y : Int) : Option OutS := evFS Tryz.prog lpK 1000 3 #[.slice (some ⟨6, 0, none⟩) n c, .slice (some ⟨7, 0, none⟩) m c2, .agg #[.int .i64 x, .int .i64 y]] (sG4 n g h m) ⟨lpT49, True⟩
noncomputable def lp38 (m : Nat) (c2 : Nat) (h : GI) (x : Int) (y : Int) : Option OutS := evFS Tryz.prog lpK 1000 3 #[.slice (some ⟨6, 0, none⟩) n c, .slice (some ⟨7, 0, none⟩) m c2, .agg #[.int .i64 x, .int .i64 y]] (sG4 n g h m) ⟨lpT52, True⟩
noncomputable def lp39 (m : Nat) (c2 : Nat) (h : GI) (x : Int) (y : Int) : Option OutS := evFS Tryz.prog lpK 1000 3 #[.slice (some ⟨6, 0, none⟩) n c, .slice (some ⟨7, 0, none⟩) m c2, .agg #[.int .i64 x, .int .i64 y]] (sG4 n g h m) ⟨lpT53, True⟩
noncomputable def lp40 (m : Nat) (c2 : Nat) (h : GI) (x : Int) (y : Int) : Option OutS := evFS Tryz.prog lpK 1000 3 #[.slice (some ⟨6, 0, none⟩) n c, .slice (some ⟨7, 0, none⟩) m c2, .agg #[.int .i64 x, .int .i64 y]] (sG4 n g h m) ⟨lpT55, True⟩
noncomputable def lp41 (m : Nat) (c2 : Nat) (h : GI) (x : Int) (y : Int) : Option OutS := evFS Tryz.prog lpK 1000 3 #[.slice (some ⟨6, 0, none⟩) n c, .slice (some ⟨7, 0, none⟩) m c2, .agg #[.int .i64 x, .int .i64 y]] (sG4 n g h m) ⟨lpT56, True⟩
noncomputable def lp42 (m : Nat) (c2 : Nat) (h : GI) (x : Int) (y : Int) : Option OutS := evFS Tryz.prog lpK 1000 3 #[.slice (some ⟨6, 0, none⟩) n c, .slice (some ⟨7, 0, none⟩) m c2, .agg #[.int .i64 x, .int .i64 y]] (sG4 n g h m) ⟨lpT59, True⟩
noncomputable def lp43 (m : Nat) (c2 : Nat) (h : GI) (x : Int) (y : Int) : Option OutS := evFS Tryz.prog lpK 1000 3 #[.slice (some ⟨6, 0, none⟩) n c, .slice (some ⟨7, 0, none⟩) m c2, .agg #[.int .i64 x, .int .i64 y]] (sG4 n g h m) ⟨lpT60, True⟩
noncomputable def lp44 (m : Nat) (c2 : Nat) (h : GI) (x : Int) (y : Int) : Option OutS := evFS Tryz.prog lpK 1000 3 #[.slice (some ⟨6, 0, none⟩) n c, .slice (some ⟨7, 0, none⟩) m c2, .agg #[.int .i64 x, .int .i64 y]] (sG4 n g h m) ⟨lpT63, True⟩
noncomputable def lp45 (m : Nat) (c2 : Nat) (h : GI) (x : Int) (y : Int) : Option OutS := evFS Tryz.prog lpK 1000 3 #[.slice (some ⟨6, 0, none⟩) n c, .slice (some ⟨7, 0, none⟩) m c2, .agg #[.int .i64 x, .int .i64 y]] (sG4 n g h m) ⟨lpT64, True⟩
noncomputable def lp46 (m : Nat) (c2 : Nat) (h : GI) (x : Int) (y : Int) : Option OutS := evFS Tryz.prog lpK 1000 3 #[.slice (some ⟨6, 0, none⟩) n c, .slice (some ⟨7, 0, none⟩) m c2, .agg #[.int .i64 x, .int .i64 y]] (sG4 n g h m) ⟨lpT66, True⟩
noncomputable def lp47 (m : Nat) (c2 : Nat) (h : GI) (x : Int) (y : Int) : Option OutS := evFS Tryz.prog lpK 1000 3 #[.slice (some ⟨6, 0, none⟩) n c, .slice (some ⟨7, 0, none⟩) m c2, .agg #[.int .i64 x, .int .i64 y]] (sG4 n g h m) ⟨lpT67, True⟩
noncomputable def lp48 (m : Nat) (c2 : Nat) (h : GI) (x : Int) (y : Int) : Option OutS := evFS Tryz.prog lpK 1000 3 #[.slice (some ⟨6, 0, none⟩) n c, .slice (some ⟨7, 0, none⟩) m c2, .agg #[.int .i64 x, .int .i64 y]] (sG4 n g h m) ⟨lpT69, True⟩
noncomputable def lp49 (m : Nat) (c2 : Nat) (h : GI) (x : Int) (y : Int) : Option OutS := evFS Tryz.prog lpK 1000 3 #[.slice (some ⟨6, 0, none⟩) n c, .slice (some ⟨7, 0, none⟩) m c2, .agg #[.int .i64 x, .int .i64 y]] (sG4 n g h m) ⟨lpT70, True⟩
noncomputable def lp50 (m : Nat) (c2 : Nat) (h : GI) (x : Int) (y : Int) : Option OutS := evFS Tryz.prog lpK 1000 3 #[.slice (some ⟨6, 0, none⟩) n c, .slice (some ⟨7, 0, none⟩) m c2, .agg #[.int .i64 x, .int .i64 y]] (sG4 n g h m) ⟨lpT73, True⟩
abbrev lpo0  : Prop := ((decide ((((0 : Nat)) : Int) > (7 : Int))) = false)
abbrev lpo1  : Prop := ((0 = 0) ∧ ((((0 : Nat)) : Int) ≤ (9223372036854775807 : Int)))
abbrev sG5 := cpV (0 : Nat) (fun (i : Nat) => (fun (j : Nat) => (List.getD [] ((i * 1) + j) (0 : Int))))
abbrev lpo2  : Prop := ((sG5 != (0 : Int)) = true)
abbrev lpo3  : Prop := True
abbrev lpo4  : Prop := ((decide ((0 : Int) < (((2 : Nat)) : Int))) = true)
abbrev lpo5  : Prop := ((0 : Int) = (Int.ofNat 0))
abbrev lpo6  : Prop := (((((0 : Nat)) : Int) == (0 : Int)) = true)
abbrev lpo7  : Prop := ((decide ((0 : Int) < (((3 : Nat)) : Int))) = true)
abbrev lpo8  : Prop := (((12 : Int) != (0 : Int)) = true)
abbrev lpo9  : Prop := (((12 : Int) == (0 : Int)) = false)
abbrev lpo10  : Prop := ((sG5 == (12 : Int)) = true)
abbrev lpo11  : Prop := (((0 : Int) == (0 : Int)) = true)
abbrev lpo12  : Prop := ((Bool.and ((0 : Int) == (0 : Int)) (Bool.and ((0 : Int) == (0 : Int)) true)) = true)
abbrev lpo13  : Prop := (((((0 : Nat)) : Int) != (((0 : Nat)) : Int)) = false)
abbrev lpo14  : Prop := ((decide ((0 : Int) < (((0 : Nat)) : Int))) = false)
abbrev lpo15  : Prop := (true = true)
abbrev lpo16 (m : Nat) : Prop := ((decide ((((m : Nat)) : Int) > (7 : Int))) = true)
abbrev lpo17 (m : Nat) : Prop := ((decide ((((m : Nat)) : Int) > (7 : Int))) = false)
abbrev lpo18 (m : Nat) : Prop := ((m = m) ∧ ((m ≠ (0 : Nat)) ∧ ((m * 8) ≤ (140737488355328 : Nat))))
abbrev sG6 (h : GI) (m : Nat) := (m = m) ∧ (∀ (i : Nat), ((i < m) → (∀ (j : Nat), ((j < (1 : Nat)) → ((Value.int .i64 (h i j)) = (Value.int .i64 (gI (Value.int .i64 (h i j)))))))))
abbrev lpo19 (m : Nat) (h : GI) : Prop := ((sG6 h m) ∧ ((((m : Nat)) : Int) ≤ (9223372036854775807 : Int)))
abbrev sG7 := decide ((((n : Nat)) : Int) > (7 : Int))
abbrev lpo20 : Prop := ((sG7 n) = true)
abbrev lpo21 : Prop := ((sG7 n) = false)
abbrev lpo22 : Prop := ((n = n) ∧ ((n ≠ (0 : Nat)) ∧ ((n * 8) ≤ (140737488355328 : Nat))))
abbrev sG8 := (n = n) ∧ (∀ (i : Nat), ((i < n) → (∀ (j : Nat), ((j < (1 : Nat)) → ((Value.int .i64 (g i j)) = (Value.int .i64 (gI (Value.int .i64 (g i j)))))))))
abbrev lpo23 : Prop := ((sG8 n g) ∧ ((((n : Nat)) : Int) ≤ (9223372036854775807 : Int)))
abbrev sG9 := fun (i : Nat) => (fun (j : Nat) => (gI (Value.int .i64 (g i j))))
abbrev sG10 := cpV n (sG9 g)
abbrev sG11 := (sG10 n g) != (0 : Int)
abbrev lpo24 : Prop := ((sG11 n g) = false)
abbrev lpo25  : Prop := ((decide ((IntKind.i64.wrap ((0 : Int) + (1 : Int))) < (((2 : Nat)) : Int))) = true)
abbrev lpo26  : Prop := ((IntKind.i64.wrap ((0 : Int) + (1 : Int))) = (Int.ofNat 1))
abbrev lpo27 : Prop := (((ptE x y) != (0 : Int)) = false)
abbrev sG12 := IntKind.i64.wrap ((IntKind.i64.wrap ((0 : Int) + (1 : Int))) + (1 : Int))
abbrev lpo28  : Prop := ((decide (sG12 < (((2 : Nat)) : Int))) = false)
abbrev lpo29  : Prop := (((0 : Int) != (0 : Int)) = false)
abbrev lpo30 : Prop := ((sG8 n g) ∧ (((0 : Nat) < n) ∧ (n ≤ (5 : Nat))))
abbrev lpo31  : Prop := ((decide ((IntKind.i64.wrap ((0 : Int) + (1 : Int))) < (((3 : Nat)) : Int))) = true)
abbrev sG13 := Pl.cr x (- (8 : Int)) (8 : Int)
abbrev sG14 := (sG13 x) != (0 : Int)
abbrev lpo32 : Prop := ((sG14 x) = false)
abbrev lpo33  : Prop := ((decide (sG12 < (((3 : Nat)) : Int))) = true)
abbrev lpo34  : Prop := (sG12 = (Int.ofNat 2))
abbrev sG15 := Pl.cr y (- (8 : Int)) (8 : Int)
abbrev sG16 := (sG15 y) != (0 : Int)
abbrev lpo35 : Prop := ((sG16 y) = false)
abbrev lpo36  : Prop := ((decide ((IntKind.i64.wrap (sG12 + (1 : Int))) < (((3 : Nat)) : Int))) = false)
abbrev sG17 := (sG10 n g) == (0 : Int)
abbrev lpo37 : Prop := ((sG17 n g) = true)
abbrev lpo38 : Prop := (((sG10 n g) == (sG10 n g)) = true)
abbrev lpo39 : Prop := (((IntKind.i64.wrap ((((n : Nat)) : Int) - (1 : Int))) == (IntKind.i64.wrap ((((n : Nat)) : Int) - (1 : Int)))) = true)
abbrev lpo40 : Prop := (((0 : Int) == (sG10 n g)) = true)
abbrev lpo41 : Prop := ((Bool.and ((vaR n (sG9 g) x y) == (rvR n (sG9 g) x y)) (Bool.and ((vaI n (sG9 g) x y) == (rvI n (sG9 g) x y)) true)) = true)
abbrev lpo42 : Prop := (((ptE x y) != (0 : Int)) = true)
abbrev lpo43 : Prop := ((sG16 y) = true)
abbrev lpo44 : Prop := (((sG15 y) == (0 : Int)) = false)
abbrev lpo45 : Prop := (((ptE x y) == (sG15 y)) = true)
abbrev lpo46 : Prop := ((sG14 x) = true)
abbrev lpo47 : Prop := (((sG13 x) == (0 : Int)) = false)
abbrev lpo48 : Prop := (((ptE x y) == (sG13 x)) = true)
abbrev lpo49 : Prop := ((sG11 n g) = true)
abbrev lpo50 : Prop := ((sG17 n g) = false)
abbrev sG18 (h : GI) := fun (i : Nat) => (fun (j : Nat) => (gI (Value.int .i64 (h i j))))
abbrev sG19 (h : GI) (m : Nat) := cpV m (sG18 h)
abbrev sG20 (h : GI) (m : Nat) := (sG19 h m) != (0 : Int)
abbrev lpo51 (m : Nat) (h : GI) : Prop := ((sG20 h m) = false)
abbrev lpo52 (m : Nat) (g : GI) (h : GI) : Prop := ((sG8 n g) ∧ ((sG6 h m) ∧ (((0 : Nat) < n) ∧ ((n ≤ (1000 : Nat)) ∧ (((0 : Nat) < m) ∧ (m ≤ (1000 : Nat)))))))
abbrev sG21 (h : GI) (m : Nat) := suN n m (sG9 g) (sG18 h)
abbrev sG22 (h : GI) (m : Nat) := ((sG21 n g h m) : Nat)
abbrev sG23 (h : GI) (m : Nat) := ((sG22 n g h m) : Int) == (0 : Int)
abbrev lpo53 (m : Nat) (g : GI) (h : GI) : Prop := ((sG23 n g h m) = true)
abbrev sG24 (m : Nat) := decide ((((((n + m) - 1) : Nat)) : Int) > (5 : Int))
abbrev lpo54 (m : Nat) : Prop := ((sG24 n m) = true)
abbrev sG25 (h : GI) (m : Nat) := puN n m (sG9 g) (sG18 h)
abbrev sG26 (h : GI) (m : Nat) := ((sG25 n g h m) : Nat)
abbrev sG27 (h : GI) (m : Nat) := ((sG26 n g h m) : Int) == (0 : Int)
abbrev lpo55 (m : Nat) (g : GI) (h : GI) : Prop := ((sG27 n g h m) = true)
abbrev lpo56  : Prop := (((6 : Int) == (6 : Int)) = true)
abbrev lpo57  : Prop := (((5 : Int) == (5 : Int)) = true)
abbrev lpo58 (m : Nat) : Prop := ((sG24 n m) = false)
abbrev sG28 (h : GI) (m : Nat) := (((n + m) - 1) = ((n + m) - 1)) ∧ (∀ (i : Nat), ((i < ((n + m) - 1)) → (∀ (j : Nat), ((j < (1 : Nat)) → ((Value.int .i64 (mulO (sG9 g) (sG18 h) m n i j)) = (Value.int .i64 (gI (Value.int .i64 (mulO (sG9 g) (sG18 h) m n i j)))))))))
abbrev sG29 (h : GI) (m : Nat) := (sG28 n g h m) ∧ ((((((n + m) - 1) : Nat)) : Int) ≤ (9223372036854775807 : Int))
abbrev lpo59 (m : Nat) (g : GI) (h : GI) : Prop := (sG29 n g h m)
abbrev sG30 (h : GI) (m : Nat) := (feN (fun (i : Nat) => (Pl.cr (gI (Value.int .i64 (mulO (sG9 g) (sG18 h) m n i (0 : Nat)))) (- (100 : Int)) (100 : Int))) ((n + m) - 1) (0 : Nat)) != (0 : Int)
abbrev lpo60 (m : Nat) (g : GI) (h : GI) : Prop := ((sG30 n g h m) = false)
abbrev lpo61 (m : Nat) (g : GI) (h : GI) : Prop := ((sG28 n g h m) ∧ (sG29 n g h m))
abbrev sG31 (h : GI) (m : Nat) := fun (i : Nat) => (fun (j : Nat) => (gI (Value.int .i64 (mulO (sG9 g) (sG18 h) m n i j))))
abbrev lpo62 (m : Nat) (g : GI) (h : GI) : Prop := ((decide ((((n + m) - 1) = ((n + m) - 1)) ∧ (sameI (sG31 n g h m) (sG31 n g h m) ((n + m) - 1)))) = true)
abbrev lpo63 (m : Nat) (g : GI) (h : GI) : Prop := ((sG30 n g h m) = true)
abbrev lpo64  : Prop := (((4 : Int) != (0 : Int)) = true)
abbrev lpo65  : Prop := (((4 : Int) == (4 : Int)) = true)
abbrev lpo66 (m : Nat) (g : GI) (h : GI) : Prop := ((sG23 n g h m) = false)
abbrev sG32 (h : GI) (m : Nat) := ((sG21 n g h m) = (sG21 n g h m)) ∧ (∀ (i : Nat), ((i < (sG21 n g h m)) → (∀ (j : Nat), ((j < (1 : Nat)) → ((Value.int .i64 (suG n m (sG9 g) (sG18 h) i j)) = (Value.int .i64 (gI (Value.int .i64 (suG n m (sG9 g) (sG18 h) i j)))))))))
abbrev sG33 (h : GI) (m : Nat) := ((sG22 n g h m) : Int) ≤ (9223372036854775807 : Int)
abbrev lpo67 (m : Nat) (g : GI) (h : GI) : Prop := ((sG32 n g h m) ∧ (sG33 n g h m))
abbrev sG34 (h : GI) (m : Nat) := (feN (fun (i : Nat) => (Pl.cr (gI (Value.int .i64 (suG n m (sG9 g) (sG18 h) i (0 : Nat)))) (- (100 : Int)) (100 : Int))) (sG21 n g h m) (0 : Nat)) != (0 : Int)
abbrev lpo68 (m : Nat) (g : GI) (h : GI) : Prop := ((sG34 n g h m) = false)
abbrev lpo69 (m : Nat) (g : GI) (h : GI) : Prop := ((sG27 n g h m) = false)
abbrev sG35 (h : GI) (m : Nat) := ((sG25 n g h m) = (sG25 n g h m)) ∧ (∀ (i : Nat), ((i < (sG25 n g h m)) → (∀ (j : Nat), ((j < (1 : Nat)) → ((Value.int .i64 (puG n m (sG9 g) (sG18 h) i j)) = (Value.int .i64 (gI (Value.int .i64 (puG n m (sG9 g) (sG18 h) i j)))))))))
abbrev lpo70 (m : Nat) (g : GI) (h : GI) : Prop := ((sG35 n g h m) ∧ (((sG26 n g h m) : Int) ≤ (9223372036854775807 : Int)))
abbrev sG36 (h : GI) (m : Nat) := (feN (fun (i : Nat) => (Pl.cr (gI (Value.int .i64 (puG n m (sG9 g) (sG18 h) i (0 : Nat)))) (- (100 : Int)) (100 : Int))) (sG25 n g h m) (0 : Nat)) != (0 : Int)
abbrev lpo71 (m : Nat) (g : GI) (h : GI) : Prop := ((sG36 n g h m) = false)
abbrev lpo72 (m : Nat) (g : GI) (h : GI) : Prop := ((sG32 n g h m) ∧ ((sG35 n g h m) ∧ (sG33 n g h m)))
abbrev lpo73 (m : Nat) (g : GI) (h : GI) : Prop := ((decide (((sG21 n g h m) = (sG25 n g h m)) ∧ (sameI (fun (i : Nat) => (fun (j : Nat) => (gI (Value.int .i64 (suG n m (sG9 g) (sG18 h) i j))))) (fun (i : Nat) => (fun (j : Nat) => (gI (Value.int .i64 (puG n m (sG9 g) (sG18 h) i j))))) (sG21 n g h m)))) = true)
abbrev lpo74 (m : Nat) (g : GI) (h : GI) : Prop := ((sG34 n g h m) = true)
abbrev lpo75 (m : Nat) (g : GI) (h : GI) : Prop := ((sG36 n g h m) = true)
abbrev lpo76 (m : Nat) (h : GI) : Prop := ((sG20 h m) = true)
abbrev lpo77 (m : Nat) (h : GI) : Prop := (((sG19 h m) == (sG19 h m)) = true)
theorem kRgP_ok : FOkS Tryz.prog kRgP := kAll_ok _ ⟨k_range, k_rrange, k_point, trivial⟩
theorem lpK_ok : FOkS Tryz.prog lpK := bothX_ok kRgP_ok (bothX_ok kSameI_ok (bothX_ok kCP_ok (bothX_ok kRCP_ok (bothX_ok kSu_ok (bothX_ok kPu_ok (bothX_ok kPr_ok (bothX_ok kRp_ok (bothX_ok kEC_ok (bothX_ok kNN_ok (bothX_ok kVa_ok (bothX_ok kRv_ok (tabT_ok (by kernel_rfl) aw3_calls))))))))))))
abbrev lpA0 : Prop := ((((True ∧ lpo0) ∧ lpo0) ∧ lpo0) ∧ lpo0)
abbrev lpA1 : Prop := (((((((((((((((((((((((((((((((((((((((((((((((((((((((((((((((((((((((((((((((((((lpA0 ∧ lpo0) ∧ lpo1) ∧ lpo2) ∧ lpo1) ∧ lpo3) ∧ lpo4) ∧ lpo5) ∧ lpo2) ∧ lpo2) ∧ lpo1) ∧ lpo1) ∧ lpo4) ∧ lpo5) ∧ lpo2) ∧ lpo2) ∧ lpo1) ∧ lpo1) ∧ lpo4) ∧ lpo5) ∧ lpo2) ∧ lpo2) ∧ lpo6) ∧ lpo3) ∧ lpo3) ∧ lpo7) ∧ lpo5) ∧ lpo8) ∧ lpo5) ∧ lpo9) ∧ lpo9) ∧ lpo6) ∧ lpo6) ∧ lpo4) ∧ lpo5) ∧ lpo8) ∧ lpo5) ∧ lpo8) ∧ lpo6) ∧ lpo6) ∧ lpo4) ∧ lpo5) ∧ lpo8) ∧ lpo5) ∧ lpo8) ∧ lpo1) ∧ lpo10) ∧ lpo10) ∧ lpo10) ∧ lpo10) ∧ lpo11) ∧ lpo11) ∧ lpo11) ∧ lpo11) ∧ lpo10) ∧ lpo10) ∧ lpo10) ∧ lpo10) ∧ lpo12) ∧ lpo12) ∧ lpo12) ∧ lpo12) ∧ lpo10) ∧ lpo10) ∧ lpo10) ∧ lpo13) ∧ lpo14) ∧ lpo10) ∧ lpo15) ∧ lpo15) ∧ lpo15) ∧ lpo15) ∧ lpo10) ∧ lpo10) ∧ lpo10) ∧ lpo13) ∧ lpo14) ∧ lpo10) ∧ lpo15) ∧ lpo15) ∧ lpo15) ∧ lpo15) ∧ lpo10) ∧ lpo10)
abbrev lpA2 (m : Nat) : Prop := (lpA0 ∧ (lpo16 m))
abbrev lpA3 (m : Nat) (h : GI) : Prop := (((((((((((((((((((((((((((((((((((((((((((((((((((((((((((((((((((((((((((((((((((((lpA0 ∧ (lpo17 m)) ∧ lpo1) ∧ lpo2) ∧ lpo1) ∧ lpo3) ∧ lpo4) ∧ lpo5) ∧ lpo2) ∧ lpo2) ∧ (lpo18 m)) ∧ lpo1) ∧ (lpo19 m h)) ∧ lpo4) ∧ lpo5) ∧ lpo2) ∧ lpo2) ∧ (lpo18 m)) ∧ lpo1) ∧ (lpo19 m h)) ∧ lpo4) ∧ lpo5) ∧ lpo2) ∧ lpo2) ∧ lpo6) ∧ lpo3) ∧ lpo3) ∧ lpo7) ∧ lpo5) ∧ lpo8) ∧ lpo5) ∧ lpo9) ∧ lpo9) ∧ lpo6) ∧ (lpo19 m h)) ∧ lpo4) ∧ lpo5) ∧ lpo8) ∧ lpo5) ∧ lpo8) ∧ lpo6) ∧ (lpo19 m h)) ∧ lpo4) ∧ lpo5) ∧ lpo8) ∧ lpo5) ∧ lpo8) ∧ lpo1) ∧ lpo10) ∧ lpo10) ∧ lpo10) ∧ lpo10) ∧ lpo11) ∧ lpo11) ∧ lpo11) ∧ lpo11) ∧ lpo10) ∧ lpo10) ∧ lpo10) ∧ lpo10) ∧ lpo12) ∧ lpo12) ∧ lpo12) ∧ lpo12) ∧ lpo10) ∧ lpo10) ∧ lpo10) ∧ lpo13) ∧ lpo14) ∧ lpo10) ∧ lpo15) ∧ lpo15) ∧ lpo15) ∧ lpo15) ∧ lpo10) ∧ lpo10) ∧ lpo10) ∧ lpo13) ∧ lpo14) ∧ lpo10) ∧ lpo15) ∧ lpo15) ∧ lpo15) ∧ lpo15) ∧ lpo10) ∧ lpo10)
abbrev lpA4 : Prop := (((((True ∧ (lpo20 n)) ∧ (lpo20 n)) ∧ (lpo20 n)) ∧ (lpo20 n)) ∧ lpo15)
abbrev lpA5 : Prop := ((((True ∧ (lpo21 n)) ∧ (lpo21 n)) ∧ (lpo21 n)) ∧ (lpo21 n))
abbrev lpA6 : Prop := ((((lpA5 n) ∧ lpo0) ∧ (lpo22 n)) ∧ (lpo23 n g))
abbrev lpA7 : Prop := ((((((((((lpA6 n g) ∧ (lpo24 n g)) ∧ (lpo22 n)) ∧ (lpo23 n g)) ∧ lpo3) ∧ lpo4) ∧ lpo5) ∧ (lpo24 n g)) ∧ lpo25) ∧ lpo26)
abbrev lpA8 : Prop := (((((((((((((((((((((((((((((((((((((((((((((((((((((((((((((((((((((((((((((((((((((((((((((((((((((lpA7 n g) ∧ (lpo27 x y)) ∧ lpo28) ∧ lpo29) ∧ (lpo30 n g)) ∧ (lpo22 n)) ∧ (lpo23 n g)) ∧ lpo1) ∧ lpo4) ∧ lpo5) ∧ (lpo24 n g)) ∧ lpo25) ∧ lpo26) ∧ lpo2) ∧ lpo2) ∧ (lpo22 n)) ∧ (lpo23 n g)) ∧ lpo1) ∧ lpo4) ∧ lpo5) ∧ (lpo24 n g)) ∧ lpo25) ∧ lpo26) ∧ lpo2) ∧ lpo2) ∧ (lpo23 n g)) ∧ lpo3) ∧ lpo3) ∧ lpo7) ∧ lpo5) ∧ (lpo24 n g)) ∧ lpo31) ∧ lpo26) ∧ (lpo32 x)) ∧ lpo33) ∧ lpo34) ∧ (lpo35 y)) ∧ lpo36) ∧ (lpo37 n g)) ∧ lpo11) ∧ (lpo30 n g)) ∧ (lpo23 n g)) ∧ lpo6) ∧ lpo4) ∧ lpo5) ∧ (lpo24 n g)) ∧ lpo25) ∧ lpo26) ∧ lpo8) ∧ lpo26) ∧ lpo8) ∧ (lpo23 n g)) ∧ lpo6) ∧ lpo4) ∧ lpo5) ∧ (lpo24 n g)) ∧ lpo25) ∧ lpo26) ∧ lpo8) ∧ lpo26) ∧ lpo8) ∧ (lpo22 n)) ∧ (lpo23 n g)) ∧ (lpo38 n g)) ∧ (lpo38 n g)) ∧ (lpo38 n g)) ∧ (lpo38 n g)) ∧ (lpo39 n)) ∧ (lpo39 n)) ∧ (lpo39 n)) ∧ (lpo39 n)) ∧ (lpo40 n g)) ∧ (lpo40 n g)) ∧ (lpo40 n g)) ∧ (lpo40 n g)) ∧ (lpo41 n g x y)) ∧ (lpo41 n g x y)) ∧ (lpo41 n g x y)) ∧ (lpo41 n g x y)) ∧ lpo11) ∧ lpo11) ∧ lpo11) ∧ lpo13) ∧ lpo14) ∧ lpo11) ∧ lpo15) ∧ lpo15) ∧ lpo15) ∧ lpo15) ∧ lpo10) ∧ lpo10) ∧ lpo10) ∧ lpo13) ∧ lpo14) ∧ lpo10) ∧ lpo15) ∧ lpo15) ∧ lpo15) ∧ lpo15) ∧ lpo10) ∧ lpo10)
abbrev lpA9 : Prop := (((((((((((((((((((((((((((((((lpA7 n g) ∧ (lpo42 x y)) ∧ (lpo42 x y)) ∧ (lpo22 n)) ∧ (lpo23 n g)) ∧ lpo1) ∧ lpo4) ∧ lpo5) ∧ (lpo24 n g)) ∧ lpo25) ∧ lpo26) ∧ lpo2) ∧ lpo2) ∧ (lpo22 n)) ∧ (lpo23 n g)) ∧ lpo1) ∧ lpo4) ∧ lpo5) ∧ (lpo24 n g)) ∧ lpo25) ∧ lpo26) ∧ lpo2) ∧ lpo2) ∧ (lpo23 n g)) ∧ lpo3) ∧ lpo3) ∧ lpo7) ∧ lpo5) ∧ (lpo24 n g)) ∧ lpo31) ∧ lpo26)
abbrev lpA10 : Prop := ((((((((((((((((((((((((((((((((((((((((((((((((((((((((((((((((((((lpA9 n g x y) ∧ (lpo32 x)) ∧ lpo33) ∧ lpo34) ∧ (lpo43 y)) ∧ lpo34) ∧ (lpo37 n g)) ∧ (lpo44 y)) ∧ (lpo23 n g)) ∧ lpo6) ∧ lpo4) ∧ lpo5) ∧ (lpo24 n g)) ∧ lpo25) ∧ lpo26) ∧ lpo8) ∧ lpo26) ∧ lpo8) ∧ (lpo23 n g)) ∧ lpo6) ∧ lpo4) ∧ lpo5) ∧ (lpo24 n g)) ∧ lpo25) ∧ lpo26) ∧ lpo8) ∧ lpo26) ∧ lpo8) ∧ (lpo22 n)) ∧ (lpo23 n g)) ∧ (lpo38 n g)) ∧ (lpo38 n g)) ∧ (lpo38 n g)) ∧ (lpo38 n g)) ∧ (lpo39 n)) ∧ (lpo39 n)) ∧ (lpo39 n)) ∧ (lpo39 n)) ∧ (lpo40 n g)) ∧ (lpo40 n g)) ∧ (lpo40 n g)) ∧ (lpo40 n g)) ∧ lpo12) ∧ lpo12) ∧ lpo12) ∧ lpo12) ∧ (lpo45 x y)) ∧ (lpo45 x y)) ∧ (lpo45 x y)) ∧ lpo13) ∧ lpo14) ∧ (lpo45 x y)) ∧ lpo15) ∧ lpo15) ∧ lpo15) ∧ lpo15) ∧ lpo10) ∧ lpo10) ∧ lpo10) ∧ lpo13) ∧ lpo14) ∧ lpo10) ∧ lpo15) ∧ lpo15) ∧ lpo15) ∧ lpo15) ∧ lpo10) ∧ lpo10)
abbrev lpA11 : Prop := (((((((((((((((((((((((((((((((((((((((((((((((((((((((((((((((((lpA9 n g x y) ∧ (lpo46 x)) ∧ lpo26) ∧ (lpo37 n g)) ∧ (lpo47 x)) ∧ (lpo23 n g)) ∧ lpo6) ∧ lpo4) ∧ lpo5) ∧ (lpo24 n g)) ∧ lpo25) ∧ lpo26) ∧ lpo8) ∧ lpo26) ∧ lpo8) ∧ (lpo23 n g)) ∧ lpo6) ∧ lpo4) ∧ lpo5) ∧ (lpo24 n g)) ∧ lpo25) ∧ lpo26) ∧ lpo8) ∧ lpo26) ∧ lpo8) ∧ (lpo22 n)) ∧ (lpo23 n g)) ∧ (lpo38 n g)) ∧ (lpo38 n g)) ∧ (lpo38 n g)) ∧ (lpo38 n g)) ∧ (lpo39 n)) ∧ (lpo39 n)) ∧ (lpo39 n)) ∧ (lpo39 n)) ∧ (lpo40 n g)) ∧ (lpo40 n g)) ∧ (lpo40 n g)) ∧ (lpo40 n g)) ∧ lpo12) ∧ lpo12) ∧ lpo12) ∧ lpo12) ∧ (lpo48 x y)) ∧ (lpo48 x y)) ∧ (lpo48 x y)) ∧ lpo13) ∧ lpo14) ∧ (lpo48 x y)) ∧ lpo15) ∧ lpo15) ∧ lpo15) ∧ lpo15) ∧ lpo10) ∧ lpo10) ∧ lpo10) ∧ lpo13) ∧ lpo14) ∧ lpo10) ∧ lpo15) ∧ lpo15) ∧ lpo15) ∧ lpo15) ∧ lpo10) ∧ lpo10)
abbrev lpA12 : Prop := ((((((((((((((((((((((((((((((((((((((((((((((((((((((((((((((((((((((((((((((((((((((lpA6 n g) ∧ (lpo49 n g)) ∧ (lpo22 n)) ∧ (lpo23 n g)) ∧ lpo3) ∧ lpo4) ∧ lpo5) ∧ (lpo49 n g)) ∧ (lpo49 n g)) ∧ (lpo22 n)) ∧ (lpo23 n g)) ∧ lpo1) ∧ lpo4) ∧ lpo5) ∧ (lpo49 n g)) ∧ (lpo49 n g)) ∧ (lpo22 n)) ∧ (lpo23 n g)) ∧ lpo1) ∧ lpo4) ∧ lpo5) ∧ (lpo49 n g)) ∧ (lpo49 n g)) ∧ (lpo23 n g)) ∧ lpo3) ∧ lpo3) ∧ lpo7) ∧ lpo5) ∧ (lpo49 n g)) ∧ lpo5) ∧ (lpo50 n g)) ∧ (lpo50 n g)) ∧ (lpo23 n g)) ∧ lpo6) ∧ lpo4) ∧ lpo5) ∧ (lpo49 n g)) ∧ lpo5) ∧ (lpo49 n g)) ∧ (lpo23 n g)) ∧ lpo6) ∧ lpo4) ∧ lpo5) ∧ (lpo49 n g)) ∧ lpo5) ∧ (lpo49 n g)) ∧ (lpo22 n)) ∧ (lpo23 n g)) ∧ (lpo38 n g)) ∧ (lpo38 n g)) ∧ (lpo38 n g)) ∧ (lpo38 n g)) ∧ lpo11) ∧ lpo11) ∧ lpo11) ∧ lpo11) ∧ (lpo38 n g)) ∧ (lpo38 n g)) ∧ (lpo38 n g)) ∧ (lpo38 n g)) ∧ lpo12) ∧ lpo12) ∧ lpo12) ∧ lpo12) ∧ (lpo38 n g)) ∧ (lpo38 n g)) ∧ (lpo38 n g)) ∧ lpo13) ∧ lpo14) ∧ (lpo38 n g)) ∧ lpo15) ∧ lpo15) ∧ lpo15) ∧ lpo15) ∧ (lpo38 n g)) ∧ (lpo38 n g)) ∧ (lpo38 n g)) ∧ lpo13) ∧ lpo14) ∧ (lpo38 n g)) ∧ lpo15) ∧ lpo15) ∧ lpo15) ∧ lpo15) ∧ (lpo38 n g)) ∧ (lpo38 n g))
abbrev lpA13 (m : Nat) : Prop := ((lpA5 n) ∧ (lpo16 m))
abbrev lpA14 (m : Nat) : Prop := ((((lpA5 n) ∧ (lpo17 m)) ∧ (lpo22 n)) ∧ (lpo23 n g))
abbrev lpA15 (m : Nat) : Prop := ((((((((((lpA14 n g m) ∧ (lpo24 n g)) ∧ (lpo22 n)) ∧ (lpo23 n g)) ∧ lpo3) ∧ lpo4) ∧ lpo5) ∧ (lpo24 n g)) ∧ lpo25) ∧ lpo26)
abbrev lpA16 (m : Nat) (h : GI) (x : Int) (y : Int) : Prop := ((((((((((((((lpA15 n g m) ∧ (lpo27 x y)) ∧ lpo28) ∧ lpo29) ∧ (lpo30 n g)) ∧ (lpo22 n)) ∧ (lpo18 m)) ∧ (lpo23 n g)) ∧ (lpo19 m h)) ∧ lpo4) ∧ lpo5) ∧ (lpo24 n g)) ∧ lpo25) ∧ lpo26)
abbrev lpA17 (m : Nat) (h : GI) (x : Int) (y : Int) : Prop := (((((lpA16 n g m h x y) ∧ (lpo51 m h)) ∧ lpo28) ∧ lpo29) ∧ (lpo52 n m g h))
abbrev lpA18 (m : Nat) (h : GI) (x : Int) (y : Int) : Prop := (((((((((((((((lpA17 n g m h x y) ∧ (lpo53 n m g h)) ∧ (lpo22 n)) ∧ (lpo18 m)) ∧ (lpo23 n g)) ∧ (lpo19 m h)) ∧ lpo4) ∧ lpo5) ∧ (lpo24 n g)) ∧ lpo25) ∧ lpo26) ∧ (lpo51 m h)) ∧ lpo28) ∧ lpo29) ∧ (lpo52 n m g h))
abbrev lpA19 (m : Nat) (h : GI) (x : Int) (y : Int) : Prop := ((((((((((((((((((((((((((((((((((((((((((((((((((((((((((((((((((((((((((((((((((lpA18 n g m h x y) ∧ (lpo54 n m)) ∧ (lpo23 n g)) ∧ lpo3) ∧ lpo3) ∧ lpo7) ∧ lpo5) ∧ (lpo24 n g)) ∧ lpo31) ∧ lpo26) ∧ (lpo32 x)) ∧ lpo33) ∧ lpo34) ∧ (lpo35 y)) ∧ lpo36) ∧ (lpo37 n g)) ∧ lpo11) ∧ (lpo30 n g)) ∧ (lpo23 n g)) ∧ (lpo19 m h)) ∧ lpo4) ∧ lpo5) ∧ (lpo24 n g)) ∧ lpo25) ∧ lpo26) ∧ (lpo51 m h)) ∧ lpo28) ∧ lpo29) ∧ (lpo52 n m g h)) ∧ (lpo55 n m g h)) ∧ (lpo23 n g)) ∧ (lpo19 m h)) ∧ lpo4) ∧ lpo5) ∧ (lpo24 n g)) ∧ lpo25) ∧ lpo26) ∧ (lpo51 m h)) ∧ lpo28) ∧ lpo29) ∧ (lpo52 n m g h)) ∧ (lpo54 n m)) ∧ (lpo22 n)) ∧ (lpo23 n g)) ∧ (lpo38 n g)) ∧ (lpo38 n g)) ∧ (lpo38 n g)) ∧ (lpo38 n g)) ∧ (lpo39 n)) ∧ (lpo39 n)) ∧ (lpo39 n)) ∧ (lpo39 n)) ∧ (lpo40 n g)) ∧ (lpo40 n g)) ∧ (lpo40 n g)) ∧ (lpo40 n g)) ∧ (lpo41 n g x y)) ∧ (lpo41 n g x y)) ∧ (lpo41 n g x y)) ∧ (lpo41 n g x y)) ∧ lpo11) ∧ lpo11) ∧ lpo11) ∧ lpo13) ∧ lpo14) ∧ lpo11) ∧ lpo15) ∧ lpo15) ∧ lpo15) ∧ lpo15) ∧ lpo56) ∧ lpo56) ∧ lpo56) ∧ lpo13) ∧ lpo14) ∧ lpo56) ∧ lpo15) ∧ lpo15) ∧ lpo15) ∧ lpo15) ∧ lpo57) ∧ lpo57)
abbrev lpA20 (m : Nat) (h : GI) (x : Int) (y : Int) : Prop := (((lpA18 n g m h x y) ∧ (lpo58 n m)) ∧ (lpo59 n m g h))
abbrev lpA21 (m : Nat) (h : GI) (x : Int) (y : Int) : Prop := ((((((((((((((((((((((((((((((((((((((((((((((((((((((((((((((((((((((((((((((((((((lpA20 n g m h x y) ∧ (lpo60 n m g h)) ∧ (lpo23 n g)) ∧ lpo3) ∧ lpo3) ∧ lpo7) ∧ lpo5) ∧ (lpo24 n g)) ∧ lpo31) ∧ lpo26) ∧ (lpo32 x)) ∧ lpo33) ∧ lpo34) ∧ (lpo35 y)) ∧ lpo36) ∧ (lpo37 n g)) ∧ lpo11) ∧ (lpo30 n g)) ∧ (lpo23 n g)) ∧ (lpo19 m h)) ∧ lpo4) ∧ lpo5) ∧ (lpo24 n g)) ∧ lpo25) ∧ lpo26) ∧ (lpo51 m h)) ∧ lpo28) ∧ lpo29) ∧ (lpo52 n m g h)) ∧ (lpo55 n m g h)) ∧ (lpo23 n g)) ∧ (lpo19 m h)) ∧ lpo4) ∧ lpo5) ∧ (lpo24 n g)) ∧ lpo25) ∧ lpo26) ∧ (lpo51 m h)) ∧ lpo28) ∧ lpo29) ∧ (lpo52 n m g h)) ∧ (lpo58 n m)) ∧ (lpo59 n m g h)) ∧ (lpo60 n m g h)) ∧ lpo29) ∧ (lpo22 n)) ∧ (lpo23 n g)) ∧ (lpo38 n g)) ∧ (lpo38 n g)) ∧ (lpo38 n g)) ∧ (lpo38 n g)) ∧ (lpo39 n)) ∧ (lpo39 n)) ∧ (lpo39 n)) ∧ (lpo39 n)) ∧ (lpo40 n g)) ∧ (lpo40 n g)) ∧ (lpo40 n g)) ∧ (lpo40 n g)) ∧ (lpo41 n g x y)) ∧ (lpo41 n g x y)) ∧ (lpo41 n g x y)) ∧ (lpo41 n g x y)) ∧ lpo11) ∧ lpo11) ∧ lpo11) ∧ lpo13) ∧ lpo14) ∧ lpo11) ∧ lpo15) ∧ lpo15) ∧ lpo15) ∧ lpo15) ∧ lpo56) ∧ lpo56) ∧ lpo56) ∧ (lpo61 n m g h)) ∧ lpo56) ∧ (lpo62 n m g h)) ∧ (lpo62 n m g h)) ∧ (lpo62 n m g h)) ∧ (lpo62 n m g h)) ∧ lpo11) ∧ lpo11)
abbrev lpA22 (m : Nat) (h : GI) (x : Int) (y : Int) : Prop := (((((((((((((((((((((((((((((((((((((((((((((((((((((((((((((((((((((((((((((((((((((lpA20 n g m h x y) ∧ (lpo63 n m g h)) ∧ (lpo23 n g)) ∧ lpo3) ∧ lpo3) ∧ lpo7) ∧ lpo5) ∧ (lpo24 n g)) ∧ lpo31) ∧ lpo26) ∧ (lpo32 x)) ∧ lpo33) ∧ lpo34) ∧ (lpo35 y)) ∧ lpo36) ∧ (lpo37 n g)) ∧ lpo11) ∧ (lpo30 n g)) ∧ (lpo23 n g)) ∧ (lpo19 m h)) ∧ lpo4) ∧ lpo5) ∧ (lpo24 n g)) ∧ lpo25) ∧ lpo26) ∧ (lpo51 m h)) ∧ lpo28) ∧ lpo29) ∧ (lpo52 n m g h)) ∧ (lpo55 n m g h)) ∧ (lpo23 n g)) ∧ (lpo19 m h)) ∧ lpo4) ∧ lpo5) ∧ (lpo24 n g)) ∧ lpo25) ∧ lpo26) ∧ (lpo51 m h)) ∧ lpo28) ∧ lpo29) ∧ (lpo52 n m g h)) ∧ (lpo58 n m)) ∧ (lpo59 n m g h)) ∧ (lpo63 n m g h)) ∧ lpo64) ∧ (lpo22 n)) ∧ (lpo23 n g)) ∧ (lpo38 n g)) ∧ (lpo38 n g)) ∧ (lpo38 n g)) ∧ (lpo38 n g)) ∧ (lpo39 n)) ∧ (lpo39 n)) ∧ (lpo39 n)) ∧ (lpo39 n)) ∧ (lpo40 n g)) ∧ (lpo40 n g)) ∧ (lpo40 n g)) ∧ (lpo40 n g)) ∧ (lpo41 n g x y)) ∧ (lpo41 n g x y)) ∧ (lpo41 n g x y)) ∧ (lpo41 n g x y)) ∧ lpo11) ∧ lpo11) ∧ lpo11) ∧ lpo13) ∧ lpo14) ∧ lpo11) ∧ lpo15) ∧ lpo15) ∧ lpo15) ∧ lpo15) ∧ lpo56) ∧ lpo56) ∧ lpo56) ∧ lpo13) ∧ lpo14) ∧ lpo56) ∧ lpo15) ∧ lpo15) ∧ lpo15) ∧ lpo15) ∧ lpo65) ∧ lpo65)
abbrev lpA23 (m : Nat) (h : GI) (x : Int) (y : Int) : Prop := (((lpA17 n g m h x y) ∧ (lpo66 n m g h)) ∧ (lpo67 n m g h))
abbrev lpA24 (m : Nat) (h : GI) (x : Int) (y : Int) : Prop := (((((((((((((((lpA23 n g m h x y) ∧ (lpo68 n m g h)) ∧ (lpo22 n)) ∧ (lpo18 m)) ∧ (lpo23 n g)) ∧ (lpo19 m h)) ∧ lpo4) ∧ lpo5) ∧ (lpo24 n g)) ∧ lpo25) ∧ lpo26) ∧ (lpo51 m h)) ∧ lpo28) ∧ lpo29) ∧ (lpo52 n m g h))
abbrev lpA25 (m : Nat) (h : GI) (x : Int) (y : Int) : Prop := ((((((((((((((((((((((((((((((((((((((((((((((((((((((((((((((((((((((((((((((((((((lpA24 n g m h x y) ∧ (lpo54 n m)) ∧ (lpo23 n g)) ∧ lpo3) ∧ lpo3) ∧ lpo7) ∧ lpo5) ∧ (lpo24 n g)) ∧ lpo31) ∧ lpo26) ∧ (lpo32 x)) ∧ lpo33) ∧ lpo34) ∧ (lpo35 y)) ∧ lpo36) ∧ (lpo37 n g)) ∧ lpo11) ∧ (lpo30 n g)) ∧ (lpo23 n g)) ∧ (lpo19 m h)) ∧ lpo4) ∧ lpo5) ∧ (lpo24 n g)) ∧ lpo25) ∧ lpo26) ∧ (lpo51 m h)) ∧ lpo28) ∧ lpo29) ∧ (lpo52 n m g h)) ∧ (lpo69 n m g h)) ∧ (lpo70 n m g h)) ∧ (lpo71 n m g h)) ∧ lpo29) ∧ (lpo23 n g)) ∧ (lpo19 m h)) ∧ lpo4) ∧ lpo5) ∧ (lpo24 n g)) ∧ lpo25) ∧ lpo26) ∧ (lpo51 m h)) ∧ lpo28) ∧ lpo29) ∧ (lpo52 n m g h)) ∧ (lpo54 n m)) ∧ (lpo22 n)) ∧ (lpo23 n g)) ∧ (lpo38 n g)) ∧ (lpo38 n g)) ∧ (lpo38 n g)) ∧ (lpo38 n g)) ∧ (lpo39 n)) ∧ (lpo39 n)) ∧ (lpo39 n)) ∧ (lpo39 n)) ∧ (lpo40 n g)) ∧ (lpo40 n g)) ∧ (lpo40 n g)) ∧ (lpo40 n g)) ∧ (lpo41 n g x y)) ∧ (lpo41 n g x y)) ∧ (lpo41 n g x y)) ∧ (lpo41 n g x y)) ∧ lpo11) ∧ lpo11) ∧ lpo11) ∧ (lpo72 n m g h)) ∧ lpo11) ∧ (lpo73 n m g h)) ∧ (lpo73 n m g h)) ∧ (lpo73 n m g h)) ∧ (lpo73 n m g h)) ∧ lpo11) ∧ lpo11) ∧ lpo11) ∧ lpo13) ∧ lpo14) ∧ lpo11) ∧ lpo15) ∧ lpo15) ∧ lpo15) ∧ lpo15) ∧ lpo57) ∧ lpo57)
abbrev lpA26 (m : Nat) (h : GI) (x : Int) (y : Int) : Prop := (((lpA24 n g m h x y) ∧ (lpo58 n m)) ∧ (lpo59 n m g h))
abbrev lpA27 (m : Nat) (h : GI) (x : Int) (y : Int) : Prop := ((((((((((((((((((((((((((((((((((((((((((((((((((((((((((((((((((((((((((((((((((((((lpA26 n g m h x y) ∧ (lpo60 n m g h)) ∧ (lpo23 n g)) ∧ lpo3) ∧ lpo3) ∧ lpo7) ∧ lpo5) ∧ (lpo24 n g)) ∧ lpo31) ∧ lpo26) ∧ (lpo32 x)) ∧ lpo33) ∧ lpo34) ∧ (lpo35 y)) ∧ lpo36) ∧ (lpo37 n g)) ∧ lpo11) ∧ (lpo30 n g)) ∧ (lpo23 n g)) ∧ (lpo19 m h)) ∧ lpo4) ∧ lpo5) ∧ (lpo24 n g)) ∧ lpo25) ∧ lpo26) ∧ (lpo51 m h)) ∧ lpo28) ∧ lpo29) ∧ (lpo52 n m g h)) ∧ (lpo69 n m g h)) ∧ (lpo70 n m g h)) ∧ (lpo71 n m g h)) ∧ lpo29) ∧ (lpo23 n g)) ∧ (lpo19 m h)) ∧ lpo4) ∧ lpo5) ∧ (lpo24 n g)) ∧ lpo25) ∧ lpo26) ∧ (lpo51 m h)) ∧ lpo28) ∧ lpo29) ∧ (lpo52 n m g h)) ∧ (lpo58 n m)) ∧ (lpo59 n m g h)) ∧ (lpo60 n m g h)) ∧ lpo29) ∧ (lpo22 n)) ∧ (lpo23 n g)) ∧ (lpo38 n g)) ∧ (lpo38 n g)) ∧ (lpo38 n g)) ∧ (lpo38 n g)) ∧ (lpo39 n)) ∧ (lpo39 n)) ∧ (lpo39 n)) ∧ (lpo39 n)) ∧ (lpo40 n g)) ∧ (lpo40 n g)) ∧ (lpo40 n g)) ∧ (lpo40 n g)) ∧ (lpo41 n g x y)) ∧ (lpo41 n g x y)) ∧ (lpo41 n g x y)) ∧ (lpo41 n g x y)) ∧ lpo11) ∧ lpo11) ∧ lpo11) ∧ (lpo72 n m g h)) ∧ lpo11) ∧ (lpo73 n m g h)) ∧ (lpo73 n m g h)) ∧ (lpo73 n m g h)) ∧ (lpo73 n m g h)) ∧ lpo11) ∧ lpo11) ∧ lpo11) ∧ (lpo61 n m g h)) ∧ lpo11) ∧ (lpo62 n m g h)) ∧ (lpo62 n m g h)) ∧ (lpo62 n m g h)) ∧ (lpo62 n m g h)) ∧ lpo11) ∧ lpo11)
abbrev lpA28 (m : Nat) (h : GI) (x : Int) (y : Int) : Prop := (((((((((((((((((((((((((((((((((((((((((((((((((((((((((((((((((((((((((((((((((((((((lpA26 n g m h x y) ∧ (lpo63 n m g h)) ∧ (lpo23 n g)) ∧ lpo3) ∧ lpo3) ∧ lpo7) ∧ lpo5) ∧ (lpo24 n g)) ∧ lpo31) ∧ lpo26) ∧ (lpo32 x)) ∧ lpo33) ∧ lpo34) ∧ (lpo35 y)) ∧ lpo36) ∧ (lpo37 n g)) ∧ lpo11) ∧ (lpo30 n g)) ∧ (lpo23 n g)) ∧ (lpo19 m h)) ∧ lpo4) ∧ lpo5) ∧ (lpo24 n g)) ∧ lpo25) ∧ lpo26) ∧ (lpo51 m h)) ∧ lpo28) ∧ lpo29) ∧ (lpo52 n m g h)) ∧ (lpo69 n m g h)) ∧ (lpo70 n m g h)) ∧ (lpo71 n m g h)) ∧ lpo29) ∧ (lpo23 n g)) ∧ (lpo19 m h)) ∧ lpo4) ∧ lpo5) ∧ (lpo24 n g)) ∧ lpo25) ∧ lpo26) ∧ (lpo51 m h)) ∧ lpo28) ∧ lpo29) ∧ (lpo52 n m g h)) ∧ (lpo58 n m)) ∧ (lpo59 n m g h)) ∧ (lpo63 n m g h)) ∧ lpo64) ∧ (lpo22 n)) ∧ (lpo23 n g)) ∧ (lpo38 n g)) ∧ (lpo38 n g)) ∧ (lpo38 n g)) ∧ (lpo38 n g)) ∧ (lpo39 n)) ∧ (lpo39 n)) ∧ (lpo39 n)) ∧ (lpo39 n)) ∧ (lpo40 n g)) ∧ (lpo40 n g)) ∧ (lpo40 n g)) ∧ (lpo40 n g)) ∧ (lpo41 n g x y)) ∧ (lpo41 n g x y)) ∧ (lpo41 n g x y)) ∧ (lpo41 n g x y)) ∧ lpo11) ∧ lpo11) ∧ lpo11) ∧ (lpo72 n m g h)) ∧ lpo11) ∧ (lpo73 n m g h)) ∧ (lpo73 n m g h)) ∧ (lpo73 n m g h)) ∧ (lpo73 n m g h)) ∧ lpo11) ∧ lpo11) ∧ lpo11) ∧ lpo13) ∧ lpo14) ∧ lpo11) ∧ lpo15) ∧ lpo15) ∧ lpo15) ∧ lpo15) ∧ lpo65) ∧ lpo65)
abbrev lpA29 (m : Nat) (h : GI) (x : Int) (y : Int) : Prop := (((((((((((((((lpA23 n g m h x y) ∧ (lpo74 n m g h)) ∧ (lpo22 n)) ∧ (lpo18 m)) ∧ (lpo23 n g)) ∧ (lpo19 m h)) ∧ lpo4) ∧ lpo5) ∧ (lpo24 n g)) ∧ lpo25) ∧ lpo26) ∧ (lpo51 m h)) ∧ lpo28) ∧ lpo29) ∧ (lpo52 n m g h))
abbrev lpA30 (m : Nat) (h : GI) (x : Int) (y : Int) : Prop := (((((((((((((((((((((((((((((((((((((((((((((((((((((((((((((((((((((((((((((((((((((lpA29 n g m h x y) ∧ (lpo54 n m)) ∧ (lpo23 n g)) ∧ lpo3) ∧ lpo3) ∧ lpo7) ∧ lpo5) ∧ (lpo24 n g)) ∧ lpo31) ∧ lpo26) ∧ (lpo32 x)) ∧ lpo33) ∧ lpo34) ∧ (lpo35 y)) ∧ lpo36) ∧ (lpo37 n g)) ∧ lpo11) ∧ (lpo30 n g)) ∧ (lpo23 n g)) ∧ (lpo19 m h)) ∧ lpo4) ∧ lpo5) ∧ (lpo24 n g)) ∧ lpo25) ∧ lpo26) ∧ (lpo51 m h)) ∧ lpo28) ∧ lpo29) ∧ (lpo52 n m g h)) ∧ (lpo69 n m g h)) ∧ (lpo70 n m g h)) ∧ (lpo75 n m g h)) ∧ lpo64) ∧ (lpo23 n g)) ∧ (lpo19 m h)) ∧ lpo4) ∧ lpo5) ∧ (lpo24 n g)) ∧ lpo25) ∧ lpo26) ∧ (lpo51 m h)) ∧ lpo28) ∧ lpo29) ∧ (lpo52 n m g h)) ∧ (lpo54 n m)) ∧ (lpo22 n)) ∧ (lpo23 n g)) ∧ (lpo38 n g)) ∧ (lpo38 n g)) ∧ (lpo38 n g)) ∧ (lpo38 n g)) ∧ (lpo39 n)) ∧ (lpo39 n)) ∧ (lpo39 n)) ∧ (lpo39 n)) ∧ (lpo40 n g)) ∧ (lpo40 n g)) ∧ (lpo40 n g)) ∧ (lpo40 n g)) ∧ (lpo41 n g x y)) ∧ (lpo41 n g x y)) ∧ (lpo41 n g x y)) ∧ (lpo41 n g x y)) ∧ lpo11) ∧ lpo11) ∧ lpo11) ∧ lpo13) ∧ lpo14) ∧ lpo11) ∧ lpo15) ∧ lpo15) ∧ lpo15) ∧ lpo15) ∧ lpo65) ∧ lpo65) ∧ lpo65) ∧ lpo13) ∧ lpo14) ∧ lpo65) ∧ lpo15) ∧ lpo15) ∧ lpo15) ∧ lpo15) ∧ lpo57) ∧ lpo57)
abbrev lpA31 (m : Nat) (h : GI) (x : Int) (y : Int) : Prop := (((lpA29 n g m h x y) ∧ (lpo58 n m)) ∧ (lpo59 n m g h))
abbrev lpA32 (m : Nat) (h : GI) (x : Int) (y : Int) : Prop := (((((((((((((((((((((((((((((((((((((((((((((((((((((((((((((((((((((((((((((((((((((((lpA31 n g m h x y) ∧ (lpo60 n m g h)) ∧ (lpo23 n g)) ∧ lpo3) ∧ lpo3) ∧ lpo7) ∧ lpo5) ∧ (lpo24 n g)) ∧ lpo31) ∧ lpo26) ∧ (lpo32 x)) ∧ lpo33) ∧ lpo34) ∧ (lpo35 y)) ∧ lpo36) ∧ (lpo37 n g)) ∧ lpo11) ∧ (lpo30 n g)) ∧ (lpo23 n g)) ∧ (lpo19 m h)) ∧ lpo4) ∧ lpo5) ∧ (lpo24 n g)) ∧ lpo25) ∧ lpo26) ∧ (lpo51 m h)) ∧ lpo28) ∧ lpo29) ∧ (lpo52 n m g h)) ∧ (lpo69 n m g h)) ∧ (lpo70 n m g h)) ∧ (lpo75 n m g h)) ∧ lpo64) ∧ (lpo23 n g)) ∧ (lpo19 m h)) ∧ lpo4) ∧ lpo5) ∧ (lpo24 n g)) ∧ lpo25) ∧ lpo26) ∧ (lpo51 m h)) ∧ lpo28) ∧ lpo29) ∧ (lpo52 n m g h)) ∧ (lpo58 n m)) ∧ (lpo59 n m g h)) ∧ (lpo60 n m g h)) ∧ lpo29) ∧ (lpo22 n)) ∧ (lpo23 n g)) ∧ (lpo38 n g)) ∧ (lpo38 n g)) ∧ (lpo38 n g)) ∧ (lpo38 n g)) ∧ (lpo39 n)) ∧ (lpo39 n)) ∧ (lpo39 n)) ∧ (lpo39 n)) ∧ (lpo40 n g)) ∧ (lpo40 n g)) ∧ (lpo40 n g)) ∧ (lpo40 n g)) ∧ (lpo41 n g x y)) ∧ (lpo41 n g x y)) ∧ (lpo41 n g x y)) ∧ (lpo41 n g x y)) ∧ lpo11) ∧ lpo11) ∧ lpo11) ∧ lpo13) ∧ lpo14) ∧ lpo11) ∧ lpo15) ∧ lpo15) ∧ lpo15) ∧ lpo15) ∧ lpo65) ∧ lpo65) ∧ lpo65) ∧ (lpo61 n m g h)) ∧ lpo65) ∧ (lpo62 n m g h)) ∧ (lpo62 n m g h)) ∧ (lpo62 n m g h)) ∧ (lpo62 n m g h)) ∧ lpo11) ∧ lpo11)
abbrev lpA33 (m : Nat) (h : GI) (x : Int) (y : Int) : Prop := ((((((((((((((((((((((((((((((((((((((((((((((((((((((((((((((((((((((((((((((((((((((((lpA31 n g m h x y) ∧ (lpo63 n m g h)) ∧ (lpo23 n g)) ∧ lpo3) ∧ lpo3) ∧ lpo7) ∧ lpo5) ∧ (lpo24 n g)) ∧ lpo31) ∧ lpo26) ∧ (lpo32 x)) ∧ lpo33) ∧ lpo34) ∧ (lpo35 y)) ∧ lpo36) ∧ (lpo37 n g)) ∧ lpo11) ∧ (lpo30 n g)) ∧ (lpo23 n g)) ∧ (lpo19 m h)) ∧ lpo4) ∧ lpo5) ∧ (lpo24 n g)) ∧ lpo25) ∧ lpo26) ∧ (lpo51 m h)) ∧ lpo28) ∧ lpo29) ∧ (lpo52 n m g h)) ∧ (lpo69 n m g h)) ∧ (lpo70 n m g h)) ∧ (lpo75 n m g h)) ∧ lpo64) ∧ (lpo23 n g)) ∧ (lpo19 m h)) ∧ lpo4) ∧ lpo5) ∧ (lpo24 n g)) ∧ lpo25) ∧ lpo26) ∧ (lpo51 m h)) ∧ lpo28) ∧ lpo29) ∧ (lpo52 n m g h)) ∧ (lpo58 n m)) ∧ (lpo59 n m g h)) ∧ (lpo63 n m g h)) ∧ lpo64) ∧ (lpo22 n)) ∧ (lpo23 n g)) ∧ (lpo38 n g)) ∧ (lpo38 n g)) ∧ (lpo38 n g)) ∧ (lpo38 n g)) ∧ (lpo39 n)) ∧ (lpo39 n)) ∧ (lpo39 n)) ∧ (lpo39 n)) ∧ (lpo40 n g)) ∧ (lpo40 n g)) ∧ (lpo40 n g)) ∧ (lpo40 n g)) ∧ (lpo41 n g x y)) ∧ (lpo41 n g x y)) ∧ (lpo41 n g x y)) ∧ (lpo41 n g x y)) ∧ lpo11) ∧ lpo11) ∧ lpo11) ∧ lpo13) ∧ lpo14) ∧ lpo11) ∧ lpo15) ∧ lpo15) ∧ lpo15) ∧ lpo15) ∧ lpo65) ∧ lpo65) ∧ lpo65) ∧ lpo13) ∧ lpo14) ∧ lpo65) ∧ lpo15) ∧ lpo15) ∧ lpo15) ∧ lpo15) ∧ lpo65) ∧ lpo65)
abbrev lpA34 (m : Nat) (h : GI) (x : Int) (y : Int) : Prop := ((((((((((((((((((((((((((((((((((((((((((((((((((((((((((((((((((((((((((((((((((((((((((lpA16 n g m h x y) ∧ (lpo76 m h)) ∧ (lpo76 m h)) ∧ (lpo22 n)) ∧ (lpo18 m)) ∧ (lpo23 n g)) ∧ (lpo19 m h)) ∧ lpo4) ∧ lpo5) ∧ (lpo24 n g)) ∧ lpo25) ∧ lpo26) ∧ (lpo76 m h)) ∧ (lpo76 m h)) ∧ (lpo23 n g)) ∧ lpo3) ∧ lpo3) ∧ lpo7) ∧ lpo5) ∧ (lpo24 n g)) ∧ lpo31) ∧ lpo26) ∧ (lpo32 x)) ∧ lpo33) ∧ lpo34) ∧ (lpo35 y)) ∧ lpo36) ∧ (lpo37 n g)) ∧ lpo11) ∧ (lpo30 n g)) ∧ (lpo23 n g)) ∧ (lpo19 m h)) ∧ lpo4) ∧ lpo5) ∧ (lpo24 n g)) ∧ lpo25) ∧ lpo26) ∧ (lpo76 m h)) ∧ lpo26) ∧ (lpo76 m h)) ∧ (lpo23 n g)) ∧ (lpo19 m h)) ∧ lpo4) ∧ lpo5) ∧ (lpo24 n g)) ∧ lpo25) ∧ lpo26) ∧ (lpo76 m h)) ∧ lpo26) ∧ (lpo76 m h)) ∧ (lpo22 n)) ∧ (lpo23 n g)) ∧ (lpo38 n g)) ∧ (lpo38 n g)) ∧ (lpo38 n g)) ∧ (lpo38 n g)) ∧ (lpo39 n)) ∧ (lpo39 n)) ∧ (lpo39 n)) ∧ (lpo39 n)) ∧ (lpo40 n g)) ∧ (lpo40 n g)) ∧ (lpo40 n g)) ∧ (lpo40 n g)) ∧ (lpo41 n g x y)) ∧ (lpo41 n g x y)) ∧ (lpo41 n g x y)) ∧ (lpo41 n g x y)) ∧ lpo11) ∧ lpo11) ∧ lpo11) ∧ lpo13) ∧ lpo14) ∧ lpo11) ∧ lpo15) ∧ lpo15) ∧ lpo15) ∧ lpo15) ∧ (lpo77 m h)) ∧ (lpo77 m h)) ∧ (lpo77 m h)) ∧ lpo13) ∧ lpo14) ∧ (lpo77 m h)) ∧ lpo15) ∧ lpo15) ∧ lpo15) ∧ lpo15) ∧ (lpo77 m h)) ∧ (lpo77 m h))
abbrev lpA35 (m : Nat) (h : GI) (x : Int) (y : Int) : Prop := ((((((((((((lpA15 n g m) ∧ (lpo42 x y)) ∧ (lpo42 x y)) ∧ (lpo22 n)) ∧ (lpo18 m)) ∧ (lpo23 n g)) ∧ (lpo19 m h)) ∧ lpo4) ∧ lpo5) ∧ (lpo24 n g)) ∧ lpo25) ∧ lpo26)
abbrev lpA36 (m : Nat) (h : GI) (x : Int) (y : Int) : Prop := (((((lpA35 n g m h x y) ∧ (lpo51 m h)) ∧ lpo28) ∧ lpo29) ∧ (lpo52 n m g h))
abbrev lpA37 (m : Nat) (h : GI) (x : Int) (y : Int) : Prop := (((((((((((((((lpA36 n g m h x y) ∧ (lpo53 n m g h)) ∧ (lpo22 n)) ∧ (lpo18 m)) ∧ (lpo23 n g)) ∧ (lpo19 m h)) ∧ lpo4) ∧ lpo5) ∧ (lpo24 n g)) ∧ lpo25) ∧ lpo26) ∧ (lpo51 m h)) ∧ lpo28) ∧ lpo29) ∧ (lpo52 n m g h))
abbrev lpA38 (m : Nat) (h : GI) (x : Int) (y : Int) : Prop := ((((((((((lpA37 n g m h x y) ∧ (lpo54 n m)) ∧ (lpo23 n g)) ∧ lpo3) ∧ lpo3) ∧ lpo7) ∧ lpo5) ∧ (lpo24 n g)) ∧ lpo31) ∧ lpo26)
abbrev lpA39 (m : Nat) (h : GI) (x : Int) (y : Int) : Prop := ((((((((((((((((((((((((((((((((((((((((((((((((((((((((((((((((((((((((lpA38 n g m h x y) ∧ (lpo32 x)) ∧ lpo33) ∧ lpo34) ∧ (lpo43 y)) ∧ lpo34) ∧ (lpo37 n g)) ∧ (lpo44 y)) ∧ (lpo23 n g)) ∧ (lpo19 m h)) ∧ lpo4) ∧ lpo5) ∧ (lpo24 n g)) ∧ lpo25) ∧ lpo26) ∧ (lpo51 m h)) ∧ lpo28) ∧ lpo29) ∧ (lpo52 n m g h)) ∧ (lpo55 n m g h)) ∧ (lpo23 n g)) ∧ (lpo19 m h)) ∧ lpo4) ∧ lpo5) ∧ (lpo24 n g)) ∧ lpo25) ∧ lpo26) ∧ (lpo51 m h)) ∧ lpo28) ∧ lpo29) ∧ (lpo52 n m g h)) ∧ (lpo54 n m)) ∧ (lpo22 n)) ∧ (lpo23 n g)) ∧ (lpo38 n g)) ∧ (lpo38 n g)) ∧ (lpo38 n g)) ∧ (lpo38 n g)) ∧ (lpo39 n)) ∧ (lpo39 n)) ∧ (lpo39 n)) ∧ (lpo39 n)) ∧ (lpo40 n g)) ∧ (lpo40 n g)) ∧ (lpo40 n g)) ∧ (lpo40 n g)) ∧ lpo12) ∧ lpo12) ∧ lpo12) ∧ lpo12) ∧ (lpo45 x y)) ∧ (lpo45 x y)) ∧ (lpo45 x y)) ∧ lpo13) ∧ lpo14) ∧ (lpo45 x y)) ∧ lpo15) ∧ lpo15) ∧ lpo15) ∧ lpo15) ∧ lpo56) ∧ lpo56) ∧ lpo56) ∧ lpo13) ∧ lpo14) ∧ lpo56) ∧ lpo15) ∧ lpo15) ∧ lpo15) ∧ lpo15) ∧ lpo57) ∧ lpo57)
abbrev lpA40 (m : Nat) (h : GI) (x : Int) (y : Int) : Prop := (((((((((((((((((((((((((((((((((((((((((((((((((((((((((((((((((((((lpA38 n g m h x y) ∧ (lpo46 x)) ∧ lpo26) ∧ (lpo37 n g)) ∧ (lpo47 x)) ∧ (lpo23 n g)) ∧ (lpo19 m h)) ∧ lpo4) ∧ lpo5) ∧ (lpo24 n g)) ∧ lpo25) ∧ lpo26) ∧ (lpo51 m h)) ∧ lpo28) ∧ lpo29) ∧ (lpo52 n m g h)) ∧ (lpo55 n m g h)) ∧ (lpo23 n g)) ∧ (lpo19 m h)) ∧ lpo4) ∧ lpo5) ∧ (lpo24 n g)) ∧ lpo25) ∧ lpo26) ∧ (lpo51 m h)) ∧ lpo28) ∧ lpo29) ∧ (lpo52 n m g h)) ∧ (lpo54 n m)) ∧ (lpo22 n)) ∧ (lpo23 n g)) ∧ (lpo38 n g)) ∧ (lpo38 n g)) ∧ (lpo38 n g)) ∧ (lpo38 n g)) ∧ (lpo39 n)) ∧ (lpo39 n)) ∧ (lpo39 n)) ∧ (lpo39 n)) ∧ (lpo40 n g)) ∧ (lpo40 n g)) ∧ (lpo40 n g)) ∧ (lpo40 n g)) ∧ lpo12) ∧ lpo12) ∧ lpo12) ∧ lpo12) ∧ (lpo48 x y)) ∧ (lpo48 x y)) ∧ (lpo48 x y)) ∧ lpo13) ∧ lpo14) ∧ (lpo48 x y)) ∧ lpo15) ∧ lpo15) ∧ lpo15) ∧ lpo15) ∧ lpo56) ∧ lpo56) ∧ lpo56) ∧ lpo13) ∧ lpo14) ∧ lpo56) ∧ lpo15) ∧ lpo15) ∧ lpo15) ∧ lpo15) ∧ lpo57) ∧ lpo57)
abbrev lpA41 (m : Nat) (h : GI) (x : Int) (y : Int) : Prop := (((lpA37 n g m h x y) ∧ (lpo58 n m)) ∧ (lpo59 n m g h))
abbrev lpA42 (m : Nat) (h : GI) (x : Int) (y : Int) : Prop := ((((((((((lpA41 n g m h x y) ∧ (lpo60 n m g h)) ∧ (lpo23 n g)) ∧ lpo3) ∧ lpo3) ∧ lpo7) ∧ lpo5) ∧ (lpo24 n g)) ∧ lpo31) ∧ lpo26)
abbrev lpA43 (m : Nat) (h : GI) (x : Int) (y : Int) : Prop := ((((((((((((((((((((((((((((((((((((((((((((((((((((((((((((((((((((((((((lpA42 n g m h x y) ∧ (lpo32 x)) ∧ lpo33) ∧ lpo34) ∧ (lpo43 y)) ∧ lpo34) ∧ (lpo37 n g)) ∧ (lpo44 y)) ∧ (lpo23 n g)) ∧ (lpo19 m h)) ∧ lpo4) ∧ lpo5) ∧ (lpo24 n g)) ∧ lpo25) ∧ lpo26) ∧ (lpo51 m h)) ∧ lpo28) ∧ lpo29) ∧ (lpo52 n m g h)) ∧ (lpo55 n m g h)) ∧ (lpo23 n g)) ∧ (lpo19 m h)) ∧ lpo4) ∧ lpo5) ∧ (lpo24 n g)) ∧ lpo25) ∧ lpo26) ∧ (lpo51 m h)) ∧ lpo28) ∧ lpo29) ∧ (lpo52 n m g h)) ∧ (lpo58 n m)) ∧ (lpo59 n m g h)) ∧ (lpo60 n m g h)) ∧ lpo29) ∧ (lpo22 n)) ∧ (lpo23 n g)) ∧ (lpo38 n g)) ∧ (lpo38 n g)) ∧ (lpo38 n g)) ∧ (lpo38 n g)) ∧ (lpo39 n)) ∧ (lpo39 n)) ∧ (lpo39 n)) ∧ (lpo39 n)) ∧ (lpo40 n g)) ∧ (lpo40 n g)) ∧ (lpo40 n g)) ∧ (lpo40 n g)) ∧ lpo12) ∧ lpo12) ∧ lpo12) ∧ lpo12) ∧ (lpo45 x y)) ∧ (lpo45 x y)) ∧ (lpo45 x y)) ∧ lpo13) ∧ lpo14) ∧ (lpo45 x y)) ∧ lpo15) ∧ lpo15) ∧ lpo15) ∧ lpo15) ∧ lpo56) ∧ lpo56) ∧ lpo56) ∧ (lpo61 n m g h)) ∧ lpo56) ∧ (lpo62 n m g h)) ∧ (lpo62 n m g h)) ∧ (lpo62 n m g h)) ∧ (lpo62 n m g h)) ∧ lpo11) ∧ lpo11)
abbrev lpA44 (m : Nat) (h : GI) (x : Int) (y : Int) : Prop := (((((((((((((((((((((((((((((((((((((((((((((((((((((((((((((((((((((((lpA42 n g m h x y) ∧ (lpo46 x)) ∧ lpo26) ∧ (lpo37 n g)) ∧ (lpo47 x)) ∧ (lpo23 n g)) ∧ (lpo19 m h)) ∧ lpo4) ∧ lpo5) ∧ (lpo24 n g)) ∧ lpo25) ∧ lpo26) ∧ (lpo51 m h)) ∧ lpo28) ∧ lpo29) ∧ (lpo52 n m g h)) ∧ (lpo55 n m g h)) ∧ (lpo23 n g)) ∧ (lpo19 m h)) ∧ lpo4) ∧ lpo5) ∧ (lpo24 n g)) ∧ lpo25) ∧ lpo26) ∧ (lpo51 m h)) ∧ lpo28) ∧ lpo29) ∧ (lpo52 n m g h)) ∧ (lpo58 n m)) ∧ (lpo59 n m g h)) ∧ (lpo60 n m g h)) ∧ lpo29) ∧ (lpo22 n)) ∧ (lpo23 n g)) ∧ (lpo38 n g)) ∧ (lpo38 n g)) ∧ (lpo38 n g)) ∧ (lpo38 n g)) ∧ (lpo39 n)) ∧ (lpo39 n)) ∧ (lpo39 n)) ∧ (lpo39 n)) ∧ (lpo40 n g)) ∧ (lpo40 n g)) ∧ (lpo40 n g)) ∧ (lpo40 n g)) ∧ lpo12) ∧ lpo12) ∧ lpo12) ∧ lpo12) ∧ (lpo48 x y)) ∧ (lpo48 x y)) ∧ (lpo48 x y)) ∧ lpo13) ∧ lpo14) ∧ (lpo48 x y)) ∧ lpo15) ∧ lpo15) ∧ lpo15) ∧ lpo15) ∧ lpo56) ∧ lpo56) ∧ lpo56) ∧ (lpo61 n m g h)) ∧ lpo56) ∧ (lpo62 n m g h)) ∧ (lpo62 n m g h)) ∧ (lpo62 n m g h)) ∧ (lpo62 n m g h)) ∧ lpo11) ∧ lpo11)
abbrev lpA45 (m : Nat) (h : GI) (x : Int) (y : Int) : Prop := ((((((((((lpA41 n g m h x y) ∧ (lpo63 n m g h)) ∧ (lpo23 n g)) ∧ lpo3) ∧ lpo3) ∧ lpo7) ∧ lpo5) ∧ (lpo24 n g)) ∧ lpo31) ∧ lpo26)
abbrev lpA46 (m : Nat) (h : GI) (x : Int) (y : Int) : Prop := (((((((((((((((((((((((((((((((((((((((((((((((((((((((((((((((((((((((((((lpA45 n g m h x y) ∧ (lpo32 x)) ∧ lpo33) ∧ lpo34) ∧ (lpo43 y)) ∧ lpo34) ∧ (lpo37 n g)) ∧ (lpo44 y)) ∧ (lpo23 n g)) ∧ (lpo19 m h)) ∧ lpo4) ∧ lpo5) ∧ (lpo24 n g)) ∧ lpo25) ∧ lpo26) ∧ (lpo51 m h)) ∧ lpo28) ∧ lpo29) ∧ (lpo52 n m g h)) ∧ (lpo55 n m g h)) ∧ (lpo23 n g)) ∧ (lpo19 m h)) ∧ lpo4) ∧ lpo5) ∧ (lpo24 n g)) ∧ lpo25) ∧ lpo26) ∧ (lpo51 m h)) ∧ lpo28) ∧ lpo29) ∧ (lpo52 n m g h)) ∧ (lpo58 n m)) ∧ (lpo59 n m g h)) ∧ (lpo63 n m g h)) ∧ lpo64) ∧ (lpo22 n)) ∧ (lpo23 n g)) ∧ (lpo38 n g)) ∧ (lpo38 n g)) ∧ (lpo38 n g)) ∧ (lpo38 n g)) ∧ (lpo39 n)) ∧ (lpo39 n)) ∧ (lpo39 n)) ∧ (lpo39 n)) ∧ (lpo40 n g)) ∧ (lpo40 n g)) ∧ (lpo40 n g)) ∧ (lpo40 n g)) ∧ lpo12) ∧ lpo12) ∧ lpo12) ∧ lpo12) ∧ (lpo45 x y)) ∧ (lpo45 x y)) ∧ (lpo45 x y)) ∧ lpo13) ∧ lpo14) ∧ (lpo45 x y)) ∧ lpo15) ∧ lpo15) ∧ lpo15) ∧ lpo15) ∧ lpo56) ∧ lpo56) ∧ lpo56) ∧ lpo13) ∧ lpo14) ∧ lpo56) ∧ lpo15) ∧ lpo15) ∧ lpo15) ∧ lpo15) ∧ lpo65) ∧ lpo65)
abbrev lpA47 (m : Nat) (h : GI) (x : Int) (y : Int) : Prop := ((((((((((((((((((((((((((((((((((((((((((((((((((((((((((((((((((((((((lpA45 n g m h x y) ∧ (lpo46 x)) ∧ lpo26) ∧ (lpo37 n g)) ∧ (lpo47 x)) ∧ (lpo23 n g)) ∧ (lpo19 m h)) ∧ lpo4) ∧ lpo5) ∧ (lpo24 n g)) ∧ lpo25) ∧ lpo26) ∧ (lpo51 m h)) ∧ lpo28) ∧ lpo29) ∧ (lpo52 n m g h)) ∧ (lpo55 n m g h)) ∧ (lpo23 n g)) ∧ (lpo19 m h)) ∧ lpo4) ∧ lpo5) ∧ (lpo24 n g)) ∧ lpo25) ∧ lpo26) ∧ (lpo51 m h)) ∧ lpo28) ∧ lpo29) ∧ (lpo52 n m g h)) ∧ (lpo58 n m)) ∧ (lpo59 n m g h)) ∧ (lpo63 n m g h)) ∧ lpo64) ∧ (lpo22 n)) ∧ (lpo23 n g)) ∧ (lpo38 n g)) ∧ (lpo38 n g)) ∧ (lpo38 n g)) ∧ (lpo38 n g)) ∧ (lpo39 n)) ∧ (lpo39 n)) ∧ (lpo39 n)) ∧ (lpo39 n)) ∧ (lpo40 n g)) ∧ (lpo40 n g)) ∧ (lpo40 n g)) ∧ (lpo40 n g)) ∧ lpo12) ∧ lpo12) ∧ lpo12) ∧ lpo12) ∧ (lpo48 x y)) ∧ (lpo48 x y)) ∧ (lpo48 x y)) ∧ lpo13) ∧ lpo14) ∧ (lpo48 x y)) ∧ lpo15) ∧ lpo15) ∧ lpo15) ∧ lpo15) ∧ lpo56) ∧ lpo56) ∧ lpo56) ∧ lpo13) ∧ lpo14) ∧ lpo56) ∧ lpo15) ∧ lpo15) ∧ lpo15) ∧ lpo15) ∧ lpo65) ∧ lpo65)
abbrev lpA48 (m : Nat) (h : GI) (x : Int) (y : Int) : Prop := (((lpA36 n g m h x y) ∧ (lpo66 n m g h)) ∧ (lpo67 n m g h))
abbrev lpA49 (m : Nat) (h : GI) (x : Int) (y : Int) : Prop := (((((((((((((((lpA48 n g m h x y) ∧ (lpo68 n m g h)) ∧ (lpo22 n)) ∧ (lpo18 m)) ∧ (lpo23 n g)) ∧ (lpo19 m h)) ∧ lpo4) ∧ lpo5) ∧ (lpo24 n g)) ∧ lpo25) ∧ lpo26) ∧ (lpo51 m h)) ∧ lpo28) ∧ lpo29) ∧ (lpo52 n m g h))
abbrev lpA50 (m : Nat) (h : GI) (x : Int) (y : Int) : Prop := ((((((((((lpA49 n g m h x y) ∧ (lpo54 n m)) ∧ (lpo23 n g)) ∧ lpo3) ∧ lpo3) ∧ lpo7) ∧ lpo5) ∧ (lpo24 n g)) ∧ lpo31) ∧ lpo26)
abbrev lpA51 (m : Nat) (h : GI) (x : Int) (y : Int) : Prop := ((((((((((((((((((((((((((((((((((((((((((((((((((((((((((((((((((((((((((lpA50 n g m h x y) ∧ (lpo32 x)) ∧ lpo33) ∧ lpo34) ∧ (lpo43 y)) ∧ lpo34) ∧ (lpo37 n g)) ∧ (lpo44 y)) ∧ (lpo23 n g)) ∧ (lpo19 m h)) ∧ lpo4) ∧ lpo5) ∧ (lpo24 n g)) ∧ lpo25) ∧ lpo26) ∧ (lpo51 m h)) ∧ lpo28) ∧ lpo29) ∧ (lpo52 n m g h)) ∧ (lpo69 n m g h)) ∧ (lpo70 n m g h)) ∧ (lpo71 n m g h)) ∧ lpo29) ∧ (lpo23 n g)) ∧ (lpo19 m h)) ∧ lpo4) ∧ lpo5) ∧ (lpo24 n g)) ∧ lpo25) ∧ lpo26) ∧ (lpo51 m h)) ∧ lpo28) ∧ lpo29) ∧ (lpo52 n m g h)) ∧ (lpo54 n m)) ∧ (lpo22 n)) ∧ (lpo23 n g)) ∧ (lpo38 n g)) ∧ (lpo38 n g)) ∧ (lpo38 n g)) ∧ (lpo38 n g)) ∧ (lpo39 n)) ∧ (lpo39 n)) ∧ (lpo39 n)) ∧ (lpo39 n)) ∧ (lpo40 n g)) ∧ (lpo40 n g)) ∧ (lpo40 n g)) ∧ (lpo40 n g)) ∧ lpo12) ∧ lpo12) ∧ lpo12) ∧ lpo12) ∧ (lpo45 x y)) ∧ (lpo45 x y)) ∧ (lpo45 x y)) ∧ (lpo72 n m g h)) ∧ (lpo45 x y)) ∧ (lpo73 n m g h)) ∧ (lpo73 n m g h)) ∧ (lpo73 n m g h)) ∧ (lpo73 n m g h)) ∧ lpo11) ∧ lpo11) ∧ lpo11) ∧ lpo13) ∧ lpo14) ∧ lpo11) ∧ lpo15) ∧ lpo15) ∧ lpo15) ∧ lpo15) ∧ lpo57) ∧ lpo57)
abbrev lpA52 (m : Nat) (h : GI) (x : Int) (y : Int) : Prop := (((((((((((((((((((((((((((((((((((((((((((((((((((((((((((((((((((((((lpA50 n g m h x y) ∧ (lpo46 x)) ∧ lpo26) ∧ (lpo37 n g)) ∧ (lpo47 x)) ∧ (lpo23 n g)) ∧ (lpo19 m h)) ∧ lpo4) ∧ lpo5) ∧ (lpo24 n g)) ∧ lpo25) ∧ lpo26) ∧ (lpo51 m h)) ∧ lpo28) ∧ lpo29) ∧ (lpo52 n m g h)) ∧ (lpo69 n m g h)) ∧ (lpo70 n m g h)) ∧ (lpo71 n m g h)) ∧ lpo29) ∧ (lpo23 n g)) ∧ (lpo19 m h)) ∧ lpo4) ∧ lpo5) ∧ (lpo24 n g)) ∧ lpo25) ∧ lpo26) ∧ (lpo51 m h)) ∧ lpo28) ∧ lpo29) ∧ (lpo52 n m g h)) ∧ (lpo54 n m)) ∧ (lpo22 n)) ∧ (lpo23 n g)) ∧ (lpo38 n g)) ∧ (lpo38 n g)) ∧ (lpo38 n g)) ∧ (lpo38 n g)) ∧ (lpo39 n)) ∧ (lpo39 n)) ∧ (lpo39 n)) ∧ (lpo39 n)) ∧ (lpo40 n g)) ∧ (lpo40 n g)) ∧ (lpo40 n g)) ∧ (lpo40 n g)) ∧ lpo12) ∧ lpo12) ∧ lpo12) ∧ lpo12) ∧ (lpo48 x y)) ∧ (lpo48 x y)) ∧ (lpo48 x y)) ∧ (lpo72 n m g h)) ∧ (lpo48 x y)) ∧ (lpo73 n m g h)) ∧ (lpo73 n m g h)) ∧ (lpo73 n m g h)) ∧ (lpo73 n m g h)) ∧ lpo11) ∧ lpo11) ∧ lpo11) ∧ lpo13) ∧ lpo14) ∧ lpo11) ∧ lpo15) ∧ lpo15) ∧ lpo15) ∧ lpo15) ∧ lpo57) ∧ lpo57)
abbrev lpA53 (m : Nat) (h : GI) (x : Int) (y : Int) : Prop := (((lpA49 n g m h x y) ∧ (lpo58 n m)) ∧ (lpo59 n m g h))
abbrev lpA54 (m : Nat) (h : GI) (x : Int) (y : Int) : Prop := ((((((((((lpA53 n g m h x y) ∧ (lpo60 n m g h)) ∧ (lpo23 n g)) ∧ lpo3) ∧ lpo3) ∧ lpo7) ∧ lpo5) ∧ (lpo24 n g)) ∧ lpo31) ∧ lpo26)
abbrev lpA55 (m : Nat) (h : GI) (x : Int) (y : Int) : Prop := ((((((((((((((((((((((((((((((((((((((((((((((((((((((((((((((((((((((((((((lpA54 n g m h x y) ∧ (lpo32 x)) ∧ lpo33) ∧ lpo34) ∧ (lpo43 y)) ∧ lpo34) ∧ (lpo37 n g)) ∧ (lpo44 y)) ∧ (lpo23 n g)) ∧ (lpo19 m h)) ∧ lpo4) ∧ lpo5) ∧ (lpo24 n g)) ∧ lpo25) ∧ lpo26) ∧ (lpo51 m h)) ∧ lpo28) ∧ lpo29) ∧ (lpo52 n m g h)) ∧ (lpo69 n m g h)) ∧ (lpo70 n m g h)) ∧ (lpo71 n m g h)) ∧ lpo29) ∧ (lpo23 n g)) ∧ (lpo19 m h)) ∧ lpo4) ∧ lpo5) ∧ (lpo24 n g)) ∧ lpo25) ∧ lpo26) ∧ (lpo51 m h)) ∧ lpo28) ∧ lpo29) ∧ (lpo52 n m g h)) ∧ (lpo58 n m)) ∧ (lpo59 n m g h)) ∧ (lpo60 n m g h)) ∧ lpo29) ∧ (lpo22 n)) ∧ (lpo23 n g)) ∧ (lpo38 n g)) ∧ (lpo38 n g)) ∧ (lpo38 n g)) ∧ (lpo38 n g)) ∧ (lpo39 n)) ∧ (lpo39 n)) ∧ (lpo39 n)) ∧ (lpo39 n)) ∧ (lpo40 n g)) ∧ (lpo40 n g)) ∧ (lpo40 n g)) ∧ (lpo40 n g)) ∧ lpo12) ∧ lpo12) ∧ lpo12) ∧ lpo12) ∧ (lpo45 x y)) ∧ (lpo45 x y)) ∧ (lpo45 x y)) ∧ (lpo72 n m g h)) ∧ (lpo45 x y)) ∧ (lpo73 n m g h)) ∧ (lpo73 n m g h)) ∧ (lpo73 n m g h)) ∧ (lpo73 n m g h)) ∧ lpo11) ∧ lpo11) ∧ lpo11) ∧ (lpo61 n m g h)) ∧ lpo11) ∧ (lpo62 n m g h)) ∧ (lpo62 n m g h)) ∧ (lpo62 n m g h)) ∧ (lpo62 n m g h)) ∧ lpo11) ∧ lpo11)
abbrev lpA56 (m : Nat) (h : GI) (x : Int) (y : Int) : Prop := (((((((((((((((((((((((((((((((((((((((((((((((((((((((((((((((((((((((((lpA54 n g m h x y) ∧ (lpo46 x)) ∧ lpo26) ∧ (lpo37 n g)) ∧ (lpo47 x)) ∧ (lpo23 n g)) ∧ (lpo19 m h)) ∧ lpo4) ∧ lpo5) ∧ (lpo24 n g)) ∧ lpo25) ∧ lpo26) ∧ (lpo51 m h)) ∧ lpo28) ∧ lpo29) ∧ (lpo52 n m g h)) ∧ (lpo69 n m g h)) ∧ (lpo70 n m g h)) ∧ (lpo71 n m g h)) ∧ lpo29) ∧ (lpo23 n g)) ∧ (lpo19 m h)) ∧ lpo4) ∧ lpo5) ∧ (lpo24 n g)) ∧ lpo25) ∧ lpo26) ∧ (lpo51 m h)) ∧ lpo28) ∧ lpo29) ∧ (lpo52 n m g h)) ∧ (lpo58 n m)) ∧ (lpo59 n m g h)) ∧ (lpo60 n m g h)) ∧ lpo29) ∧ (lpo22 n)) ∧ (lpo23 n g)) ∧ (lpo38 n g)) ∧ (lpo38 n g)) ∧ (lpo38 n g)) ∧ (lpo38 n g)) ∧ (lpo39 n)) ∧ (lpo39 n)) ∧ (lpo39 n)) ∧ (lpo39 n)) ∧ (lpo40 n g)) ∧ (lpo40 n g)) ∧ (lpo40 n g)) ∧ (lpo40 n g)) ∧ lpo12) ∧ lpo12) ∧ lpo12) ∧ lpo12) ∧ (lpo48 x y)) ∧ (lpo48 x y)) ∧ (lpo48 x y)) ∧ (lpo72 n m g h)) ∧ (lpo48 x y)) ∧ (lpo73 n m g h)) ∧ (lpo73 n m g h)) ∧ (lpo73 n m g h)) ∧ (lpo73 n m g h)) ∧ lpo11) ∧ lpo11) ∧ lpo11) ∧ (lpo61 n m g h)) ∧ lpo11) ∧ (lpo62 n m g h)) ∧ (lpo62 n m g h)) ∧ (lpo62 n m g h)) ∧ (lpo62 n m g h)) ∧ lpo11) ∧ lpo11)
abbrev lpA57 (m : Nat) (h : GI) (x : Int) (y : Int) : Prop := ((((((((((lpA53 n g m h x y) ∧ (lpo63 n m g h)) ∧ (lpo23 n g)) ∧ lpo3) ∧ lpo3) ∧ lpo7) ∧ lpo5) ∧ (lpo24 n g)) ∧ lpo31) ∧ lpo26)
abbrev lpA58 (m : Nat) (h : GI) (x : Int) (y : Int) : Prop := (((((((((((((((((((((((((((((((((((((((((((((((((((((((((((((((((((((((((((((lpA57 n g m h x y) ∧ (lpo32 x)) ∧ lpo33) ∧ lpo34) ∧ (lpo43 y)) ∧ lpo34) ∧ (lpo37 n g)) ∧ (lpo44 y)) ∧ (lpo23 n g)) ∧ (lpo19 m h)) ∧ lpo4) ∧ lpo5) ∧ (lpo24 n g)) ∧ lpo25) ∧ lpo26) ∧ (lpo51 m h)) ∧ lpo28) ∧ lpo29) ∧ (lpo52 n m g h)) ∧ (lpo69 n m g h)) ∧ (lpo70 n m g h)) ∧ (lpo71 n m g h)) ∧ lpo29) ∧ (lpo23 n g)) ∧ (lpo19 m h)) ∧ lpo4) ∧ lpo5) ∧ (lpo24 n g)) ∧ lpo25) ∧ lpo26) ∧ (lpo51 m h)) ∧ lpo28) ∧ lpo29) ∧ (lpo52 n m g h)) ∧ (lpo58 n m)) ∧ (lpo59 n m g h)) ∧ (lpo63 n m g h)) ∧ lpo64) ∧ (lpo22 n)) ∧ (lpo23 n g)) ∧ (lpo38 n g)) ∧ (lpo38 n g)) ∧ (lpo38 n g)) ∧ (lpo38 n g)) ∧ (lpo39 n)) ∧ (lpo39 n)) ∧ (lpo39 n)) ∧ (lpo39 n)) ∧ (lpo40 n g)) ∧ (lpo40 n g)) ∧ (lpo40 n g)) ∧ (lpo40 n g)) ∧ lpo12) ∧ lpo12) ∧ lpo12) ∧ lpo12) ∧ (lpo45 x y)) ∧ (lpo45 x y)) ∧ (lpo45 x y)) ∧ (lpo72 n m g h)) ∧ (lpo45 x y)) ∧ (lpo73 n m g h)) ∧ (lpo73 n m g h)) ∧ (lpo73 n m g h)) ∧ (lpo73 n m g h)) ∧ lpo11) ∧ lpo11) ∧ lpo11) ∧ lpo13) ∧ lpo14) ∧ lpo11) ∧ lpo15) ∧ lpo15) ∧ lpo15) ∧ lpo15) ∧ lpo65) ∧ lpo65)
abbrev lpA59 (m : Nat) (h : GI) (x : Int) (y : Int) : Prop := ((((((((((((((((((((((((((((((((((((((((((((((((((((((((((((((((((((((((((lpA57 n g m h x y) ∧ (lpo46 x)) ∧ lpo26) ∧ (lpo37 n g)) ∧ (lpo47 x)) ∧ (lpo23 n g)) ∧ (lpo19 m h)) ∧ lpo4) ∧ lpo5) ∧ (lpo24 n g)) ∧ lpo25) ∧ lpo26) ∧ (lpo51 m h)) ∧ lpo28) ∧ lpo29) ∧ (lpo52 n m g h)) ∧ (lpo69 n m g h)) ∧ (lpo70 n m g h)) ∧ (lpo71 n m g h)) ∧ lpo29) ∧ (lpo23 n g)) ∧ (lpo19 m h)) ∧ lpo4) ∧ lpo5) ∧ (lpo24 n g)) ∧ lpo25) ∧ lpo26) ∧ (lpo51 m h)) ∧ lpo28) ∧ lpo29) ∧ (lpo52 n m g h)) ∧ (lpo58 n m)) ∧ (lpo59 n m g h)) ∧ (lpo63 n m g h)) ∧ lpo64) ∧ (lpo22 n)) ∧ (lpo23 n g)) ∧ (lpo38 n g)) ∧ (lpo38 n g)) ∧ (lpo38 n g)) ∧ (lpo38 n g)) ∧ (lpo39 n)) ∧ (lpo39 n)) ∧ (lpo39 n)) ∧ (lpo39 n)) ∧ (lpo40 n g)) ∧ (lpo40 n g)) ∧ (lpo40 n g)) ∧ (lpo40 n g)) ∧ lpo12) ∧ lpo12) ∧ lpo12) ∧ lpo12) ∧ (lpo48 x y)) ∧ (lpo48 x y)) ∧ (lpo48 x y)) ∧ (lpo72 n m g h)) ∧ (lpo48 x y)) ∧ (lpo73 n m g h)) ∧ (lpo73 n m g h)) ∧ (lpo73 n m g h)) ∧ (lpo73 n m g h)) ∧ lpo11) ∧ lpo11) ∧ lpo11) ∧ lpo13) ∧ lpo14) ∧ lpo11) ∧ lpo15) ∧ lpo15) ∧ lpo15) ∧ lpo15) ∧ lpo65) ∧ lpo65)
abbrev lpA60 (m : Nat) (h : GI) (x : Int) (y : Int) : Prop := (((((((((((((((lpA48 n g m h x y) ∧ (lpo74 n m g h)) ∧ (lpo22 n)) ∧ (lpo18 m)) ∧ (lpo23 n g)) ∧ (lpo19 m h)) ∧ lpo4) ∧ lpo5) ∧ (lpo24 n g)) ∧ lpo25) ∧ lpo26) ∧ (lpo51 m h)) ∧ lpo28) ∧ lpo29) ∧ (lpo52 n m g h))
abbrev lpA61 (m : Nat) (h : GI) (x : Int) (y : Int) : Prop := ((((((((((lpA60 n g m h x y) ∧ (lpo54 n m)) ∧ (lpo23 n g)) ∧ lpo3) ∧ lpo3) ∧ lpo7) ∧ lpo5) ∧ (lpo24 n g)) ∧ lpo31) ∧ lpo26)
abbrev lpA62 (m : Nat) (h : GI) (x : Int) (y : Int) : Prop := (((((((((((((((((((((((((((((((((((((((((((((((((((((((((((((((((((((((((((lpA61 n g m h x y) ∧ (lpo32 x)) ∧ lpo33) ∧ lpo34) ∧ (lpo43 y)) ∧ lpo34) ∧ (lpo37 n g)) ∧ (lpo44 y)) ∧ (lpo23 n g)) ∧ (lpo19 m h)) ∧ lpo4) ∧ lpo5) ∧ (lpo24 n g)) ∧ lpo25) ∧ lpo26) ∧ (lpo51 m h)) ∧ lpo28) ∧ lpo29) ∧ (lpo52 n m g h)) ∧ (lpo69 n m g h)) ∧ (lpo70 n m g h)) ∧ (lpo75 n m g h)) ∧ lpo64) ∧ (lpo23 n g)) ∧ (lpo19 m h)) ∧ lpo4) ∧ lpo5) ∧ (lpo24 n g)) ∧ lpo25) ∧ lpo26) ∧ (lpo51 m h)) ∧ lpo28) ∧ lpo29) ∧ (lpo52 n m g h)) ∧ (lpo54 n m)) ∧ (lpo22 n)) ∧ (lpo23 n g)) ∧ (lpo38 n g)) ∧ (lpo38 n g)) ∧ (lpo38 n g)) ∧ (lpo38 n g)) ∧ (lpo39 n)) ∧ (lpo39 n)) ∧ (lpo39 n)) ∧ (lpo39 n)) ∧ (lpo40 n g)) ∧ (lpo40 n g)) ∧ (lpo40 n g)) ∧ (lpo40 n g)) ∧ lpo12) ∧ lpo12) ∧ lpo12) ∧ lpo12) ∧ (lpo45 x y)) ∧ (lpo45 x y)) ∧ (lpo45 x y)) ∧ lpo13) ∧ lpo14) ∧ (lpo45 x y)) ∧ lpo15) ∧ lpo15) ∧ lpo15) ∧ lpo15) ∧ lpo65) ∧ lpo65) ∧ lpo65) ∧ lpo13) ∧ lpo14) ∧ lpo65) ∧ lpo15) ∧ lpo15) ∧ lpo15) ∧ lpo15) ∧ lpo57) ∧ lpo57)
abbrev lpA63 (m : Nat) (h : GI) (x : Int) (y : Int) : Prop := ((((((((((((((((((((((((((((((((((((((((((((((((((((((((((((((((((((((((lpA61 n g m h x y) ∧ (lpo46 x)) ∧ lpo26) ∧ (lpo37 n g)) ∧ (lpo47 x)) ∧ (lpo23 n g)) ∧ (lpo19 m h)) ∧ lpo4) ∧ lpo5) ∧ (lpo24 n g)) ∧ lpo25) ∧ lpo26) ∧ (lpo51 m h)) ∧ lpo28) ∧ lpo29) ∧ (lpo52 n m g h)) ∧ (lpo69 n m g h)) ∧ (lpo70 n m g h)) ∧ (lpo75 n m g h)) ∧ lpo64) ∧ (lpo23 n g)) ∧ (lpo19 m h)) ∧ lpo4) ∧ lpo5) ∧ (lpo24 n g)) ∧ lpo25) ∧ lpo26) ∧ (lpo51 m h)) ∧ lpo28) ∧ lpo29) ∧ (lpo52 n m g h)) ∧ (lpo54 n m)) ∧ (lpo22 n)) ∧ (lpo23 n g)) ∧ (lpo38 n g)) ∧ (lpo38 n g)) ∧ (lpo38 n g)) ∧ (lpo38 n g)) ∧ (lpo39 n)) ∧ (lpo39 n)) ∧ (lpo39 n)) ∧ (lpo39 n)) ∧ (lpo40 n g)) ∧ (lpo40 n g)) ∧ (lpo40 n g)) ∧ (lpo40 n g)) ∧ lpo12) ∧ lpo12) ∧ lpo12) ∧ lpo12) ∧ (lpo48 x y)) ∧ (lpo48 x y)) ∧ (lpo48 x y)) ∧ lpo13) ∧ lpo14) ∧ (lpo48 x y)) ∧ lpo15) ∧ lpo15) ∧ lpo15) ∧ lpo15) ∧ lpo65) ∧ lpo65) ∧ lpo65) ∧ lpo13) ∧ lpo14) ∧ lpo65) ∧ lpo15) ∧ lpo15) ∧ lpo15) ∧ lpo15) ∧ lpo57) ∧ lpo57)
abbrev lpA64 (m : Nat) (h : GI) (x : Int) (y : Int) : Prop := (((lpA60 n g m h x y) ∧ (lpo58 n m)) ∧ (lpo59 n m g h))
abbrev lpA65 (m : Nat) (h : GI) (x : Int) (y : Int) : Prop := ((((((((((lpA64 n g m h x y) ∧ (lpo60 n m g h)) ∧ (lpo23 n g)) ∧ lpo3) ∧ lpo3) ∧ lpo7) ∧ lpo5) ∧ (lpo24 n g)) ∧ lpo31) ∧ lpo26)
abbrev lpA66 (m : Nat) (h : GI) (x : Int) (y : Int) : Prop := (((((((((((((((((((((((((((((((((((((((((((((((((((((((((((((((((((((((((((((lpA65 n g m h x y) ∧ (lpo32 x)) ∧ lpo33) ∧ lpo34) ∧ (lpo43 y)) ∧ lpo34) ∧ (lpo37 n g)) ∧ (lpo44 y)) ∧ (lpo23 n g)) ∧ (lpo19 m h)) ∧ lpo4) ∧ lpo5) ∧ (lpo24 n g)) ∧ lpo25) ∧ lpo26) ∧ (lpo51 m h)) ∧ lpo28) ∧ lpo29) ∧ (lpo52 n m g h)) ∧ (lpo69 n m g h)) ∧ (lpo70 n m g h)) ∧ (lpo75 n m g h)) ∧ lpo64) ∧ (lpo23 n g)) ∧ (lpo19 m h)) ∧ lpo4) ∧ lpo5) ∧ (lpo24 n g)) ∧ lpo25) ∧ lpo26) ∧ (lpo51 m h)) ∧ lpo28) ∧ lpo29) ∧ (lpo52 n m g h)) ∧ (lpo58 n m)) ∧ (lpo59 n m g h)) ∧ (lpo60 n m g h)) ∧ lpo29) ∧ (lpo22 n)) ∧ (lpo23 n g)) ∧ (lpo38 n g)) ∧ (lpo38 n g)) ∧ (lpo38 n g)) ∧ (lpo38 n g)) ∧ (lpo39 n)) ∧ (lpo39 n)) ∧ (lpo39 n)) ∧ (lpo39 n)) ∧ (lpo40 n g)) ∧ (lpo40 n g)) ∧ (lpo40 n g)) ∧ (lpo40 n g)) ∧ lpo12) ∧ lpo12) ∧ lpo12) ∧ lpo12) ∧ (lpo45 x y)) ∧ (lpo45 x y)) ∧ (lpo45 x y)) ∧ lpo13) ∧ lpo14) ∧ (lpo45 x y)) ∧ lpo15) ∧ lpo15) ∧ lpo15) ∧ lpo15) ∧ lpo65) ∧ lpo65) ∧ lpo65) ∧ (lpo61 n m g h)) ∧ lpo65) ∧ (lpo62 n m g h)) ∧ (lpo62 n m g h)) ∧ (lpo62 n m g h)) ∧ (lpo62 n m g h)) ∧ lpo11) ∧ lpo11)
abbrev lpA67 (m : Nat) (h : GI) (x : Int) (y : Int) : Prop := ((((((((((((((((((((((((((((((((((((((((((((((((((((((((((((((((((((((((((lpA65 n g m h x y) ∧ (lpo46 x)) ∧ lpo26) ∧ (lpo37 n g)) ∧ (lpo47 x)) ∧ (lpo23 n g)) ∧ (lpo19 m h)) ∧ lpo4) ∧ lpo5) ∧ (lpo24 n g)) ∧ lpo25) ∧ lpo26) ∧ (lpo51 m h)) ∧ lpo28) ∧ lpo29) ∧ (lpo52 n m g h)) ∧ (lpo69 n m g h)) ∧ (lpo70 n m g h)) ∧ (lpo75 n m g h)) ∧ lpo64) ∧ (lpo23 n g)) ∧ (lpo19 m h)) ∧ lpo4) ∧ lpo5) ∧ (lpo24 n g)) ∧ lpo25) ∧ lpo26) ∧ (lpo51 m h)) ∧ lpo28) ∧ lpo29) ∧ (lpo52 n m g h)) ∧ (lpo58 n m)) ∧ (lpo59 n m g h)) ∧ (lpo60 n m g h)) ∧ lpo29) ∧ (lpo22 n)) ∧ (lpo23 n g)) ∧ (lpo38 n g)) ∧ (lpo38 n g)) ∧ (lpo38 n g)) ∧ (lpo38 n g)) ∧ (lpo39 n)) ∧ (lpo39 n)) ∧ (lpo39 n)) ∧ (lpo39 n)) ∧ (lpo40 n g)) ∧ (lpo40 n g)) ∧ (lpo40 n g)) ∧ (lpo40 n g)) ∧ lpo12) ∧ lpo12) ∧ lpo12) ∧ lpo12) ∧ (lpo48 x y)) ∧ (lpo48 x y)) ∧ (lpo48 x y)) ∧ lpo13) ∧ lpo14) ∧ (lpo48 x y)) ∧ lpo15) ∧ lpo15) ∧ lpo15) ∧ lpo15) ∧ lpo65) ∧ lpo65) ∧ lpo65) ∧ (lpo61 n m g h)) ∧ lpo65) ∧ (lpo62 n m g h)) ∧ (lpo62 n m g h)) ∧ (lpo62 n m g h)) ∧ (lpo62 n m g h)) ∧ lpo11) ∧ lpo11)
abbrev lpA68 (m : Nat) (h : GI) (x : Int) (y : Int) : Prop := ((((((((((lpA64 n g m h x y) ∧ (lpo63 n m g h)) ∧ (lpo23 n g)) ∧ lpo3) ∧ lpo3) ∧ lpo7) ∧ lpo5) ∧ (lpo24 n g)) ∧ lpo31) ∧ lpo26)
abbrev lpA69 (m : Nat) (h : GI) (x : Int) (y : Int) : Prop := ((((((((((((((((((((((((((((((((((((((((((((((((((((((((((((((((((((((((((((((lpA68 n g m h x y) ∧ (lpo32 x)) ∧ lpo33) ∧ lpo34) ∧ (lpo43 y)) ∧ lpo34) ∧ (lpo37 n g)) ∧ (lpo44 y)) ∧ (lpo23 n g)) ∧ (lpo19 m h)) ∧ lpo4) ∧ lpo5) ∧ (lpo24 n g)) ∧ lpo25) ∧ lpo26) ∧ (lpo51 m h)) ∧ lpo28) ∧ lpo29) ∧ (lpo52 n m g h)) ∧ (lpo69 n m g h)) ∧ (lpo70 n m g h)) ∧ (lpo75 n m g h)) ∧ lpo64) ∧ (lpo23 n g)) ∧ (lpo19 m h)) ∧ lpo4) ∧ lpo5) ∧ (lpo24 n g)) ∧ lpo25) ∧ lpo26) ∧ (lpo51 m h)) ∧ lpo28) ∧ lpo29) ∧ (lpo52 n m g h)) ∧ (lpo58 n m)) ∧ (lpo59 n m g h)) ∧ (lpo63 n m g h)) ∧ lpo64) ∧ (lpo22 n)) ∧ (lpo23 n g)) ∧ (lpo38 n g)) ∧ (lpo38 n g)) ∧ (lpo38 n g)) ∧ (lpo38 n g)) ∧ (lpo39 n)) ∧ (lpo39 n)) ∧ (lpo39 n)) ∧ (lpo39 n)) ∧ (lpo40 n g)) ∧ (lpo40 n g)) ∧ (lpo40 n g)) ∧ (lpo40 n g)) ∧ lpo12) ∧ lpo12) ∧ lpo12) ∧ lpo12) ∧ (lpo45 x y)) ∧ (lpo45 x y)) ∧ (lpo45 x y)) ∧ lpo13) ∧ lpo14) ∧ (lpo45 x y)) ∧ lpo15) ∧ lpo15) ∧ lpo15) ∧ lpo15) ∧ lpo65) ∧ lpo65) ∧ lpo65) ∧ lpo13) ∧ lpo14) ∧ lpo65) ∧ lpo15) ∧ lpo15) ∧ lpo15) ∧ lpo15) ∧ lpo65) ∧ lpo65)
abbrev lpA70 (m : Nat) (h : GI) (x : Int) (y : Int) : Prop := (((((((((((((((((((((((((((((((((((((((((((((((((((((((((((((((((((((((((((lpA68 n g m h x y) ∧ (lpo46 x)) ∧ lpo26) ∧ (lpo37 n g)) ∧ (lpo47 x)) ∧ (lpo23 n g)) ∧ (lpo19 m h)) ∧ lpo4) ∧ lpo5) ∧ (lpo24 n g)) ∧ lpo25) ∧ lpo26) ∧ (lpo51 m h)) ∧ lpo28) ∧ lpo29) ∧ (lpo52 n m g h)) ∧ (lpo69 n m g h)) ∧ (lpo70 n m g h)) ∧ (lpo75 n m g h)) ∧ lpo64) ∧ (lpo23 n g)) ∧ (lpo19 m h)) ∧ lpo4) ∧ lpo5) ∧ (lpo24 n g)) ∧ lpo25) ∧ lpo26) ∧ (lpo51 m h)) ∧ lpo28) ∧ lpo29) ∧ (lpo52 n m g h)) ∧ (lpo58 n m)) ∧ (lpo59 n m g h)) ∧ (lpo63 n m g h)) ∧ lpo64) ∧ (lpo22 n)) ∧ (lpo23 n g)) ∧ (lpo38 n g)) ∧ (lpo38 n g)) ∧ (lpo38 n g)) ∧ (lpo38 n g)) ∧ (lpo39 n)) ∧ (lpo39 n)) ∧ (lpo39 n)) ∧ (lpo39 n)) ∧ (lpo40 n g)) ∧ (lpo40 n g)) ∧ (lpo40 n g)) ∧ (lpo40 n g)) ∧ lpo12) ∧ lpo12) ∧ lpo12) ∧ lpo12) ∧ (lpo48 x y)) ∧ (lpo48 x y)) ∧ (lpo48 x y)) ∧ lpo13) ∧ lpo14) ∧ (lpo48 x y)) ∧ lpo15) ∧ lpo15) ∧ lpo15) ∧ lpo15) ∧ lpo65) ∧ lpo65) ∧ lpo65) ∧ lpo13) ∧ lpo14) ∧ lpo65) ∧ lpo15) ∧ lpo15) ∧ lpo15) ∧ lpo15) ∧ lpo65) ∧ lpo65)
abbrev lpA71 (m : Nat) (h : GI) (x : Int) (y : Int) : Prop := ((((((((((((((((((((((lpA35 n g m h x y) ∧ (lpo76 m h)) ∧ (lpo76 m h)) ∧ (lpo22 n)) ∧ (lpo18 m)) ∧ (lpo23 n g)) ∧ (lpo19 m h)) ∧ lpo4) ∧ lpo5) ∧ (lpo24 n g)) ∧ lpo25) ∧ lpo26) ∧ (lpo76 m h)) ∧ (lpo76 m h)) ∧ (lpo23 n g)) ∧ lpo3) ∧ lpo3) ∧ lpo7) ∧ lpo5) ∧ (lpo24 n g)) ∧ lpo31) ∧ lpo26)
abbrev lpA72 (m : Nat) (h : GI) (x : Int) (y : Int) : Prop := ((((((((((((((((((((((((((((((((((((((((((((((((((((((((((((((((((((lpA71 n g m h x y) ∧ (lpo32 x)) ∧ lpo33) ∧ lpo34) ∧ (lpo43 y)) ∧ lpo34) ∧ (lpo37 n g)) ∧ (lpo44 y)) ∧ (lpo23 n g)) ∧ (lpo19 m h)) ∧ lpo4) ∧ lpo5) ∧ (lpo24 n g)) ∧ lpo25) ∧ lpo26) ∧ (lpo76 m h)) ∧ lpo26) ∧ (lpo76 m h)) ∧ (lpo23 n g)) ∧ (lpo19 m h)) ∧ lpo4) ∧ lpo5) ∧ (lpo24 n g)) ∧ lpo25) ∧ lpo26) ∧ (lpo76 m h)) ∧ lpo26) ∧ (lpo76 m h)) ∧ (lpo22 n)) ∧ (lpo23 n g)) ∧ (lpo38 n g)) ∧ (lpo38 n g)) ∧ (lpo38 n g)) ∧ (lpo38 n g)) ∧ (lpo39 n)) ∧ (lpo39 n)) ∧ (lpo39 n)) ∧ (lpo39 n)) ∧ (lpo40 n g)) ∧ (lpo40 n g)) ∧ (lpo40 n g)) ∧ (lpo40 n g)) ∧ lpo12) ∧ lpo12) ∧ lpo12) ∧ lpo12) ∧ (lpo45 x y)) ∧ (lpo45 x y)) ∧ (lpo45 x y)) ∧ lpo13) ∧ lpo14) ∧ (lpo45 x y)) ∧ lpo15) ∧ lpo15) ∧ lpo15) ∧ lpo15) ∧ (lpo77 m h)) ∧ (lpo77 m h)) ∧ (lpo77 m h)) ∧ lpo13) ∧ lpo14) ∧ (lpo77 m h)) ∧ lpo15) ∧ lpo15) ∧ lpo15) ∧ lpo15) ∧ (lpo77 m h)) ∧ (lpo77 m h))
abbrev lpA73 (m : Nat) (h : GI) (x : Int) (y : Int) : Prop := (((((((((((((((((((((((((((((((((((((((((((((((((((((((((((((((((lpA71 n g m h x y) ∧ (lpo46 x)) ∧ lpo26) ∧ (lpo37 n g)) ∧ (lpo47 x)) ∧ (lpo23 n g)) ∧ (lpo19 m h)) ∧ lpo4) ∧ lpo5) ∧ (lpo24 n g)) ∧ lpo25) ∧ lpo26) ∧ (lpo76 m h)) ∧ lpo26) ∧ (lpo76 m h)) ∧ (lpo23 n g)) ∧ (lpo19 m h)) ∧ lpo4) ∧ lpo5) ∧ (lpo24 n g)) ∧ lpo25) ∧ lpo26) ∧ (lpo76 m h)) ∧ lpo26) ∧ (lpo76 m h)) ∧ (lpo22 n)) ∧ (lpo23 n g)) ∧ (lpo38 n g)) ∧ (lpo38 n g)) ∧ (lpo38 n g)) ∧ (lpo38 n g)) ∧ (lpo39 n)) ∧ (lpo39 n)) ∧ (lpo39 n)) ∧ (lpo39 n)) ∧ (lpo40 n g)) ∧ (lpo40 n g)) ∧ (lpo40 n g)) ∧ (lpo40 n g)) ∧ lpo12) ∧ lpo12) ∧ lpo12) ∧ lpo12) ∧ (lpo48 x y)) ∧ (lpo48 x y)) ∧ (lpo48 x y)) ∧ lpo13) ∧ lpo14) ∧ (lpo48 x y)) ∧ lpo15) ∧ lpo15) ∧ lpo15) ∧ lpo15) ∧ (lpo77 m h)) ∧ (lpo77 m h)) ∧ (lpo77 m h)) ∧ lpo13) ∧ lpo14) ∧ (lpo77 m h)) ∧ lpo15) ∧ lpo15) ∧ lpo15) ∧ lpo15) ∧ (lpo77 m h)) ∧ (lpo77 m h))
abbrev lpA74 (m : Nat) (h : GI) : Prop := ((((((((((((((((((((((((((((((((((((((((((((((((((((((((((((((((((((((((((((((((((((((((lpA14 n g m) ∧ (lpo49 n g)) ∧ (lpo22 n)) ∧ (lpo23 n g)) ∧ lpo3) ∧ lpo4) ∧ lpo5) ∧ (lpo49 n g)) ∧ (lpo49 n g)) ∧ (lpo22 n)) ∧ (lpo18 m)) ∧ (lpo23 n g)) ∧ (lpo19 m h)) ∧ lpo4) ∧ lpo5) ∧ (lpo49 n g)) ∧ (lpo49 n g)) ∧ (lpo22 n)) ∧ (lpo18 m)) ∧ (lpo23 n g)) ∧ (lpo19 m h)) ∧ lpo4) ∧ lpo5) ∧ (lpo49 n g)) ∧ (lpo49 n g)) ∧ (lpo23 n g)) ∧ lpo3) ∧ lpo3) ∧ lpo7) ∧ lpo5) ∧ (lpo49 n g)) ∧ lpo5) ∧ (lpo50 n g)) ∧ (lpo50 n g)) ∧ (lpo23 n g)) ∧ (lpo19 m h)) ∧ lpo4) ∧ lpo5) ∧ (lpo49 n g)) ∧ lpo5) ∧ (lpo49 n g)) ∧ (lpo23 n g)) ∧ (lpo19 m h)) ∧ lpo4) ∧ lpo5) ∧ (lpo49 n g)) ∧ lpo5) ∧ (lpo49 n g)) ∧ (lpo22 n)) ∧ (lpo23 n g)) ∧ (lpo38 n g)) ∧ (lpo38 n g)) ∧ (lpo38 n g)) ∧ (lpo38 n g)) ∧ lpo11) ∧ lpo11) ∧ lpo11) ∧ lpo11) ∧ (lpo38 n g)) ∧ (lpo38 n g)) ∧ (lpo38 n g)) ∧ (lpo38 n g)) ∧ lpo12) ∧ lpo12) ∧ lpo12) ∧ lpo12) ∧ (lpo38 n g)) ∧ (lpo38 n g)) ∧ (lpo38 n g)) ∧ lpo13) ∧ lpo14) ∧ (lpo38 n g)) ∧ lpo15) ∧ lpo15) ∧ lpo15) ∧ lpo15) ∧ (lpo38 n g)) ∧ (lpo38 n g)) ∧ (lpo38 n g)) ∧ lpo13) ∧ lpo14) ∧ (lpo38 n g)) ∧ lpo15) ∧ lpo15) ∧ lpo15) ∧ lpo15) ∧ (lpo38 n g)) ∧ (lpo38 n g))
theorem lp0_o : obY (lp0 x y) = lpA1 := by kernel_rfl
theorem lp0_g : goodY (lp0 x y) = true := by kernel_rfl
theorem lp1_o (c2 : Nat) (x : Int) (y : Int) : obY (lp1 c2 x y) = lpA1 := by kernel_rfl
theorem lp1_g (c2 : Nat) (x : Int) (y : Int) : goodY (lp1 c2 x y) = true := by kernel_rfl
theorem lp2_o (m : Nat) (c2 : Nat) (h : GI) (x : Int) (y : Int) : obY (lp2 m c2 h x y) = lpA2 m := by kernel_rfl
theorem lp2_g (m : Nat) (c2 : Nat) (h : GI) (x : Int) (y : Int) : goodY (lp2 m c2 h x y) = true := by kernel_rfl
theorem lp3_o (m : Nat) (c2 : Nat) (h : GI) (x : Int) (y : Int) : obY (lp3 m c2 h x y) = lpA3 m h := by kernel_rfl
theorem lp3_g (m : Nat) (c2 : Nat) (h : GI) (x : Int) (y : Int) : goodY (lp3 m c2 h x y) = true := by kernel_rfl
theorem lp4_o : obY (lp4 c x y) = lpA1 := by kernel_rfl
theorem lp4_g : goodY (lp4 c x y) = true := by kernel_rfl
theorem lp5_o (c2 : Nat) (x : Int) (y : Int) : obY (lp5 c c2 x y) = lpA1 := by kernel_rfl
theorem lp5_g (c2 : Nat) (x : Int) (y : Int) : goodY (lp5 c c2 x y) = true := by kernel_rfl
theorem lp6_o (m : Nat) (c2 : Nat) (h : GI) (x : Int) (y : Int) : obY (lp6 c m c2 h x y) = lpA2 m := by kernel_rfl
theorem lp6_g (m : Nat) (c2 : Nat) (h : GI) (x : Int) (y : Int) : goodY (lp6 c m c2 h x y) = true := by kernel_rfl
theorem lp7_o (m : Nat) (c2 : Nat) (h : GI) (x : Int) (y : Int) : obY (lp7 c m c2 h x y) = lpA3 m h := by kernel_rfl
theorem lp7_g (m : Nat) (c2 : Nat) (h : GI) (x : Int) (y : Int) : goodY (lp7 c m c2 h x y) = true := by kernel_rfl
theorem lp8_o : obY (lp8 n c g x y) = lpA4 n := by kernel_rfl
theorem lp8_g : goodY (lp8 n c g x y) = true := by kernel_rfl
theorem lp9_o : obY (lp9 n c g x y) = lpA8 n g x y := by kernel_rfl
theorem lp9_g : goodY (lp9 n c g x y) = true := by kernel_rfl
theorem lp10_o : obY (lp10 n c g x y) = lpA10 n g x y := by kernel_rfl
theorem lp10_g : goodY (lp10 n c g x y) = true := by kernel_rfl
theorem lp11_o : obY (lp11 n c g x y) = lpA11 n g x y := by kernel_rfl
theorem lp11_g : goodY (lp11 n c g x y) = true := by kernel_rfl
theorem lp12_o : obY (lp12 n c g x y) = lpA12 n g := by kernel_rfl
theorem lp12_g : goodY (lp12 n c g x y) = true := by kernel_rfl
theorem lp13_o (c2 : Nat) (x : Int) (y : Int) : obY (lp13 n c g c2 x y) = lpA4 n := by kernel_rfl
theorem lp13_g (c2 : Nat) (x : Int) (y : Int) : goodY (lp13 n c g c2 x y) = true := by kernel_rfl
theorem lp14_o (c2 : Nat) (x : Int) (y : Int) : obY (lp14 n c g c2 x y) = lpA8 n g x y := by kernel_rfl
theorem lp14_g (c2 : Nat) (x : Int) (y : Int) : goodY (lp14 n c g c2 x y) = true := by kernel_rfl
theorem lp15_o (c2 : Nat) (x : Int) (y : Int) : obY (lp15 n c g c2 x y) = lpA10 n g x y := by kernel_rfl
theorem lp15_g (c2 : Nat) (x : Int) (y : Int) : goodY (lp15 n c g c2 x y) = true := by kernel_rfl
theorem lp16_o (c2 : Nat) (x : Int) (y : Int) : obY (lp16 n c g c2 x y) = lpA11 n g x y := by kernel_rfl
theorem lp16_g (c2 : Nat) (x : Int) (y : Int) : goodY (lp16 n c g c2 x y) = true := by kernel_rfl
theorem lp17_o (c2 : Nat) (x : Int) (y : Int) : obY (lp17 n c g c2 x y) = lpA12 n g := by kernel_rfl
theorem lp17_g (c2 : Nat) (x : Int) (y : Int) : goodY (lp17 n c g c2 x y) = true := by kernel_rfl
theorem lp18_o (m : Nat) (c2 : Nat) (h : GI) (x : Int) (y : Int) : obY (lp18 n c g m c2 h x y) = lpA4 n := by kernel_rfl
theorem lp18_g (m : Nat) (c2 : Nat) (h : GI) (x : Int) (y : Int) : goodY (lp18 n c g m c2 h x y) = true := by kernel_rfl
theorem lp19_o (m : Nat) (c2 : Nat) (h : GI) (x : Int) (y : Int) : obY (lp19 n c g m c2 h x y) = lpA13 n m := by kernel_rfl
theorem lp19_g (m : Nat) (c2 : Nat) (h : GI) (x : Int) (y : Int) : goodY (lp19 n c g m c2 h x y) = true := by kernel_rfl
theorem lp20_o (m : Nat) (c2 : Nat) (h : GI) (x : Int) (y : Int) : obY (lp20 n c g m c2 h x y) = lpA19 n g m h x y := by kernel_rfl
theorem lp20_g (m : Nat) (c2 : Nat) (h : GI) (x : Int) (y : Int) : goodY (lp20 n c g m c2 h x y) = true := by kernel_rfl
theorem lp21_o (m : Nat) (c2 : Nat) (h : GI) (x : Int) (y : Int) : obY (lp21 n c g m c2 h x y) = lpA21 n g m h x y := by kernel_rfl
theorem lp21_g (m : Nat) (c2 : Nat) (h : GI) (x : Int) (y : Int) : goodY (lp21 n c g m c2 h x y) = true := by kernel_rfl
theorem lp22_o (m : Nat) (c2 : Nat) (h : GI) (x : Int) (y : Int) : obY (lp22 n c g m c2 h x y) = lpA22 n g m h x y := by kernel_rfl
theorem lp22_g (m : Nat) (c2 : Nat) (h : GI) (x : Int) (y : Int) : goodY (lp22 n c g m c2 h x y) = true := by kernel_rfl
theorem lp23_o (m : Nat) (c2 : Nat) (h : GI) (x : Int) (y : Int) : obY (lp23 n c g m c2 h x y) = lpA25 n g m h x y := by kernel_rfl
theorem lp23_g (m : Nat) (c2 : Nat) (h : GI) (x : Int) (y : Int) : goodY (lp23 n c g m c2 h x y) = true := by kernel_rfl
theorem lp24_o (m : Nat) (c2 : Nat) (h : GI) (x : Int) (y : Int) : obY (lp24 n c g m c2 h x y) = lpA27 n g m h x y := by kernel_rfl
theorem lp24_g (m : Nat) (c2 : Nat) (h : GI) (x : Int) (y : Int) : goodY (lp24 n c g m c2 h x y) = true := by kernel_rfl
theorem lp25_o (m : Nat) (c2 : Nat) (h : GI) (x : Int) (y : Int) : obY (lp25 n c g m c2 h x y) = lpA28 n g m h x y := by kernel_rfl
theorem lp25_g (m : Nat) (c2 : Nat) (h : GI) (x : Int) (y : Int) : goodY (lp25 n c g m c2 h x y) = true := by kernel_rfl
theorem lp26_o (m : Nat) (c2 : Nat) (h : GI) (x : Int) (y : Int) : obY (lp26 n c g m c2 h x y) = lpA30 n g m h x y := by kernel_rfl
theorem lp26_g (m : Nat) (c2 : Nat) (h : GI) (x : Int) (y : Int) : goodY (lp26 n c g m c2 h x y) = true := by kernel_rfl
theorem lp27_o (m : Nat) (c2 : Nat) (h : GI) (x : Int) (y : Int) : obY (lp27 n c g m c2 h x y) = lpA32 n g m h x y := by kernel_rfl
theorem lp27_g (m : Nat) (c2 : Nat) (h : GI) (x : Int) (y : Int) : goodY (lp27 n c g m c2 h x y) = true := by kernel_rfl
theorem lp28_o (m : Nat) (c2 : Nat) (h : GI) (x : Int) (y : Int) : obY (lp28 n c g m c2 h x y) = lpA33 n g m h x y := by kernel_rfl
theorem lp28_g (m : Nat) (c2 : Nat) (h : GI) (x : Int) (y : Int) : goodY (lp28 n c g m c2 h x y) = true := by kernel_rfl
theorem lp29_o (m : Nat) (c2 : Nat) (h : GI) (x : Int) (y : Int) : obY (lp29 n c g m c2 h x y) = lpA34 n g m h x y := by kernel_rfl
theorem lp29_g (m : Nat) (c2 : Nat) (h : GI) (x : Int) (y : Int) : goodY (lp29 n c g m c2 h x y) = true := by kernel_rfl
theorem lp30_o (m : Nat) (c2 : Nat) (h : GI) (x : Int) (y : Int) : obY (lp30 n c g m c2 h x y) = lpA39 n g m h x y := by kernel_rfl
theorem lp30_g (m : Nat) (c2 : Nat) (h : GI) (x : Int) (y : Int) : goodY (lp30 n c g m c2 h x y) = true := by kernel_rfl
theorem lp31_o (m : Nat) (c2 : Nat) (h : GI) (x : Int) (y : Int) : obY (lp31 n c g m c2 h x y) = lpA40 n g m h x y := by kernel_rfl
theorem lp31_g (m : Nat) (c2 : Nat) (h : GI) (x : Int) (y : Int) : goodY (lp31 n c g m c2 h x y) = true := by kernel_rfl
theorem lp32_o (m : Nat) (c2 : Nat) (h : GI) (x : Int) (y : Int) : obY (lp32 n c g m c2 h x y) = lpA43 n g m h x y := by kernel_rfl
theorem lp32_g (m : Nat) (c2 : Nat) (h : GI) (x : Int) (y : Int) : goodY (lp32 n c g m c2 h x y) = true := by kernel_rfl
theorem lp33_o (m : Nat) (c2 : Nat) (h : GI) (x : Int) (y : Int) : obY (lp33 n c g m c2 h x y) = lpA44 n g m h x y := by kernel_rfl
theorem lp33_g (m : Nat) (c2 : Nat) (h : GI) (x : Int) (y : Int) : goodY (lp33 n c g m c2 h x y) = true := by kernel_rfl
theorem lp34_o (m : Nat) (c2 : Nat) (h : GI) (x : Int) (y : Int) : obY (lp34 n c g m c2 h x y) = lpA46 n g m h x y := by kernel_rfl
theorem lp34_g (m : Nat) (c2 : Nat) (h : GI) (x : Int) (y : Int) : goodY (lp34 n c g m c2 h x y) = true := by kernel_rfl
theorem lp35_o (m : Nat) (c2 : Nat) (h : GI) (x : Int) (y : Int) : obY (lp35 n c g m c2 h x y) = lpA47 n g m h x y := by kernel_rfl
theorem lp35_g (m : Nat) (c2 : Nat) (h : GI) (x : Int) (y : Int) : goodY (lp35 n c g m c2 h x y) = true := by kernel_rfl
theorem lp36_o (m : Nat) (c2 : Nat) (h : GI) (x : Int) (y : Int) : obY (lp36 n c g m c2 h x y) = lpA51 n g m h x y := by kernel_rfl
theorem lp36_g (m : Nat) (c2 : Nat) (h : GI) (x : Int) (y : Int) : goodY (lp36 n c g m c2 h x y) = true := by kernel_rfl
theorem lp37_o (m : Nat) (c2 : Nat) (h : GI) (x : Int) (y : Int) : obY (lp37 n c g m c2 h x y) = lpA52 n g m h x y := by kernel_rfl
theorem lp37_g (m : Nat) (c2 : Nat) (h : GI) (x : Int) (y : Int) : goodY (lp37 n c g m c2 h x y) = true := by kernel_rfl
theorem lp38_o (m : Nat) (c2 : Nat) (h : GI) (x : Int) (y : Int) : obY (lp38 n c g m c2 h x y) = lpA55 n g m h x y := by kernel_rfl
theorem lp38_g (m : Nat) (c2 : Nat) (h : GI) (x : Int) (y : Int) : goodY (lp38 n c g m c2 h x y) = true := by kernel_rfl
theorem lp39_o (m : Nat) (c2 : Nat) (h : GI) (x : Int) (y : Int) : obY (lp39 n c g m c2 h x y) = lpA56 n g m h x y := by kernel_rfl
theorem lp39_g (m : Nat) (c2 : Nat) (h : GI) (x : Int) (y : Int) : goodY (lp39 n c g m c2 h x y) = true := by kernel_rfl
theorem lp40_o (m : Nat) (c2 : Nat) (h : GI) (x : Int) (y : Int) : obY (lp40 n c g m c2 h x y) = lpA58 n g m h x y := by kernel_rfl
theorem lp40_g (m : Nat) (c2 : Nat) (h : GI) (x : Int) (y : Int) : goodY (lp40 n c g m c2 h x y) = true := by kernel_rfl
theorem lp41_o (m : Nat) (c2 : Nat) (h : GI) (x : Int) (y : Int) : obY (lp41 n c g m c2 h x y) = lpA59 n g m h x y := by kernel_rfl
theorem lp41_g (m : Nat) (c2 : Nat) (h : GI) (x : Int) (y : Int) : goodY (lp41 n c g m c2 h x y) = true := by kernel_rfl
theorem lp42_o (m : Nat) (c2 : Nat) (h : GI) (x : Int) (y : Int) : obY (lp42 n c g m c2 h x y) = lpA62 n g m h x y := by kernel_rfl
theorem lp42_g (m : Nat) (c2 : Nat) (h : GI) (x : Int) (y : Int) : goodY (lp42 n c g m c2 h x y) = true := by kernel_rfl
theorem lp43_o (m : Nat) (c2 : Nat) (h : GI) (x : Int) (y : Int) : obY (lp43 n c g m c2 h x y) = lpA63 n g m h x y := by kernel_rfl
theorem lp43_g (m : Nat) (c2 : Nat) (h : GI) (x : Int) (y : Int) : goodY (lp43 n c g m c2 h x y) = true := by kernel_rfl
theorem lp44_o (m : Nat) (c2 : Nat) (h : GI) (x : Int) (y : Int) : obY (lp44 n c g m c2 h x y) = lpA66 n g m h x y := by kernel_rfl
theorem lp44_g (m : Nat) (c2 : Nat) (h : GI) (x : Int) (y : Int) : goodY (lp44 n c g m c2 h x y) = true := by kernel_rfl
theorem lp45_o (m : Nat) (c2 : Nat) (h : GI) (x : Int) (y : Int) : obY (lp45 n c g m c2 h x y) = lpA67 n g m h x y := by kernel_rfl
theorem lp45_g (m : Nat) (c2 : Nat) (h : GI) (x : Int) (y : Int) : goodY (lp45 n c g m c2 h x y) = true := by kernel_rfl
theorem lp46_o (m : Nat) (c2 : Nat) (h : GI) (x : Int) (y : Int) : obY (lp46 n c g m c2 h x y) = lpA69 n g m h x y := by kernel_rfl
theorem lp46_g (m : Nat) (c2 : Nat) (h : GI) (x : Int) (y : Int) : goodY (lp46 n c g m c2 h x y) = true := by kernel_rfl
theorem lp47_o (m : Nat) (c2 : Nat) (h : GI) (x : Int) (y : Int) : obY (lp47 n c g m c2 h x y) = lpA70 n g m h x y := by kernel_rfl
theorem lp47_g (m : Nat) (c2 : Nat) (h : GI) (x : Int) (y : Int) : goodY (lp47 n c g m c2 h x y) = true := by kernel_rfl
theorem lp48_o (m : Nat) (c2 : Nat) (h : GI) (x : Int) (y : Int) : obY (lp48 n c g m c2 h x y) = lpA72 n g m h x y := by kernel_rfl
theorem lp48_g (m : Nat) (c2 : Nat) (h : GI) (x : Int) (y : Int) : goodY (lp48 n c g m c2 h x y) = true := by kernel_rfl
theorem lp49_o (m : Nat) (c2 : Nat) (h : GI) (x : Int) (y : Int) : obY (lp49 n c g m c2 h x y) = lpA73 n g m h x y := by kernel_rfl
theorem lp49_g (m : Nat) (c2 : Nat) (h : GI) (x : Int) (y : Int) : goodY (lp49 n c g m c2 h x y) = true := by kernel_rfl
theorem lp50_o (m : Nat) (c2 : Nat) (h : GI) (x : Int) (y : Int) : obY (lp50 n c g m c2 h x y) = lpA74 n g m h := by kernel_rfl
theorem lp50_g (m : Nat) (c2 : Nat) (h : GI) (x : Int) (y : Int) : goodY (lp50 n c g m c2 h x y) = true := by kernel_rfl
end
end Go.Proofs.YtbkpnhbcihcgaaaGreatDoor
end
