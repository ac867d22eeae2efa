/-
  The contract of bipole.bipolelaw03.LoopSums.
  The contract of bipole.bipolelaw03.LoopSums.
  The contract of bipole.bipolelaw03.LoopSums.
  The contract of bipole.bipolelaw03.LoopSums.
  The contract of bipole.bipolelaw03.LoopSums.
  The contract of bipole.bipolelaw03.LoopSums.
  The contract of bipole.bipolelaw03.LoopSums.
  The whole.
-/
import Derived.Test.YtbkpnhbcihcgaaaGreatDoorGU4
import Derived.Test.YtbkpnhbcihcgaaaGreatDoorGU5
import Derived.Test.YtbkpnhbcihcgaaaGreatDoorGU6
import Derived.Test.YtbkpnhbcihcgaaaGreatDoorGU7
import Derived.Test.YtbkpnhbcihcgaaaGreatDoorGU8
import Derived.Test.YtbkpnhbcihcgaaaGreatDoorGU9
import Derived.Test.YtbkpnhbcihcgaaaGreatDoorGU10
import Derived.Test.YtbkpnhbcihcgaaaGreatDoorGU11
import Derived.Test.YtbkpnhbcihcgaaaGreatDoorGU2
import Derived.Test.YtbkpnhbcihcgaaaGreatDoorGU3
section
set_option linter.all false
set_option maxRecDepth 1000000
open Go.RowKit
namespace Go.Proofs.YtbkpnhbcihcgaaaGreatDoor
open Mini
theorem aw3X0 : FOk Tryz.prog (joinX 142) := joinX_ok fun bk o c xs sep w h1 h2 h3 h4 h5 => Tryz.strings_Join bk o c xs sep w h1 h2 h3 h4 h5
theorem aw3X : FOk Tryz.prog (joinX 142) := aw3X0
theorem aw3m : Tryz.prog.follows .mixedOrders = true := by kernel_rfl
theorem aw3g24 : SndC Tryz.prog none (dropS 24 aw3B) aw3A24.act aw3S24 .ret aw3A25.act aw3S25 aw3R24 aw3W24 := chain_last aw3m aw3X aw3c24
theorem aw3g23 : SndC Tryz.prog none (dropS 23 aw3B) aw3A23.act aw3S23 .ret aw3A25.act aw3S25 aw3RR23 aw3WW23 := by
  have h := chain_step aw3m aw3X (by kernel_rfl) aw3c23 aw3g24
  rwa [show aw3R23 ||| aw3R24 = aw3RR23 from by decide +kernel, show aw3W23 ||| aw3W24 = aw3WW23 from by decide +kernel] at h
theorem aw3g22 : SndC Tryz.prog none (dropS 22 aw3B) aw3A22.act aw3S22 .ret aw3A25.act aw3S25 aw3RR22 aw3WW22 := by
  have h := chain_step aw3m aw3X (by kernel_rfl) aw3c22 aw3g23
  rwa [show aw3R22 ||| aw3RR23 = aw3RR22 from by decide +kernel, show aw3W22 ||| aw3WW23 = aw3WW22 from by decide +kernel] at h
theorem aw3g21 : SndC Tryz.prog none (dropS 21 aw3B) aw3A21.act aw3S21 .ret aw3A25.act aw3S25 aw3RR21 aw3WW21 := by
  have h := chain_step aw3m aw3X (by kernel_rfl) aw3c21 aw3g22
  rwa [show aw3R21 ||| aw3RR22 = aw3RR21 from by decide +kernel, show aw3W21 ||| aw3WW22 = aw3WW21 from by decide +kernel] at h
theorem aw3g20 : SndC Tryz.prog none (dropS 20 aw3B) aw3A20.act aw3S20 .ret aw3A25.act aw3S25 aw3RR20 aw3WW20 := by
  have h := chain_step aw3m aw3X (by kernel_rfl) aw3c20 aw3g21
  rwa [show aw3R20 ||| aw3RR21 = aw3RR20 from by decide +kernel, show aw3W20 ||| aw3WW21 = aw3WW20 from by decide +kernel] at h
theorem aw3g19 : SndC Tryz.prog none (dropS 19 aw3B) aw3A19.act aw3S19 .ret aw3A25.act aw3S25 aw3RR19 aw3WW19 := by
  have h := chain_step aw3m aw3X (by kernel_rfl) aw3c19 aw3g20
  rwa [show aw3R19 ||| aw3RR20 = aw3RR19 from by decide +kernel, show aw3W19 ||| aw3WW20 = aw3WW19 from by decide +kernel] at h
theorem aw3g18 : SndC Tryz.prog none (dropS 18 aw3B) aw3A18.act aw3S18 .ret aw3A25.act aw3S25 aw3RR18 aw3WW18 := by
  have h := chain_step aw3m aw3X (by kernel_rfl) aw3c18 aw3g19
  rwa [show aw3R18 ||| aw3RR19 = aw3RR18 from by decide +kernel, show aw3W18 ||| aw3WW19 = aw3WW18 from by decide +kernel] at h
theorem aw3g17 : SndC Tryz.prog none (dropS 17 aw3B) aw3A17.act aw3S17 .ret aw3A25.act aw3S25 aw3RR17 aw3WW17 := by
  have h := chain_step aw3m aw3X (by kernel_rfl) aw3c17 aw3g18
  rwa [show aw3R17 ||| aw3RR18 = aw3RR17 from by decide +kernel, show aw3W17 ||| aw3WW18 = aw3WW17 from by decide +kernel] at h
theorem aw3g16 : SndC Tryz.prog none (dropS 16 aw3B) aw3A16.act aw3S16 .ret aw3A25.act aw3S25 aw3RR16 aw3WW16 := by
  have h := chain_step aw3m aw3X (by kernel_rfl) aw3c16 aw3g17
  rwa [show aw3R16 ||| aw3RR17 = aw3RR16 from by decide +kernel, show aw3W16 ||| aw3WW17 = aw3WW16 from by decide +kernel] at h
theorem aw3g15 : SndC Tryz.prog none (dropS 15 aw3B) aw3A15.act aw3S15 .ret aw3A25.act aw3S25 aw3RR15 aw3WW15 := by
  have h := chain_step aw3m aw3X (by kernel_rfl) aw3c15 aw3g16
  rwa [show aw3R15 ||| aw3RR16 = aw3RR15 from by decide +kernel, show aw3W15 ||| aw3WW16 = aw3WW15 from by decide +kernel] at h
theorem aw3g14 : SndC Tryz.prog none (dropS 14 aw3B) aw3A14.act aw3S14 .ret aw3A25.act aw3S25 aw3RR14 aw3WW14 := by
  have h := chain_step aw3m aw3X (by kernel_rfl) aw3c14 aw3g15
  rwa [show aw3R14 ||| aw3RR15 = aw3RR14 from by decide +kernel, show aw3W14 ||| aw3WW15 = aw3WW14 from by decide +kernel] at h
theorem aw3g13 : SndC Tryz.prog none (dropS 13 aw3B) aw3A13.act aw3S13 .ret aw3A25.act aw3S25 aw3RR13 aw3WW13 := by
  have h := chain_step aw3m aw3X (by kernel_rfl) aw3c13 aw3g14
  rwa [show aw3R13 ||| aw3RR14 = aw3RR13 from by decide +kernel, show aw3W13 ||| aw3WW14 = aw3WW13 from by decide +kernel] at h
theorem aw3g12 : SndC Tryz.prog none (dropS 12 aw3B) aw3A12.act aw3S12 .ret aw3A25.act aw3S25 aw3RR12 aw3WW12 := by
  have h := chain_step aw3m aw3X (by kernel_rfl) aw3c12 aw3g13
  rwa [show aw3R12 ||| aw3RR13 = aw3RR12 from by decide +kernel, show aw3W12 ||| aw3WW13 = aw3WW12 from by decide +kernel] at h
theorem aw3g11 : SndC Tryz.prog none (dropS 11 aw3B) aw3A11.act aw3S11 .ret aw3A25.act aw3S25 aw3RR11 aw3WW11 := by
  have h := chain_step aw3m aw3X (by kernel_rfl) aw3c11 aw3g12
  rwa [show aw3R11 ||| aw3RR12 = aw3RR11 from by decide +kernel, show aw3W11 ||| aw3WW12 = aw3WW11 from by decide +kernel] at h
theorem aw3g10 : SndC Tryz.prog none (dropS 10 aw3B) aw3A10.act aw3S10 .ret aw3A25.act aw3S25 aw3RR10 aw3WW10 := by
  have h := chain_step aw3m aw3X (by kernel_rfl) aw3c10 aw3g11
  rwa [show aw3R10 ||| aw3RR11 = aw3RR10 from by decide +kernel, show aw3W10 ||| aw3WW11 = aw3WW10 from by decide +kernel] at h
theorem aw3g9 : SndC Tryz.prog none (dropS 9 aw3B) aw3A9.act aw3S9 .ret aw3A25.act aw3S25 aw3RR9 aw3WW9 := by
  have h := chain_step aw3m aw3X (by kernel_rfl) aw3c9 aw3g10
  rwa [show aw3R9 ||| aw3RR10 = aw3RR9 from by decide +kernel, show aw3W9 ||| aw3WW10 = aw3WW9 from by decide +kernel] at h
theorem aw3g8 : SndC Tryz.prog none (dropS 8 aw3B) aw3A8.act aw3S8 .ret aw3A25.act aw3S25 aw3RR8 aw3WW8 := by
  have h := chain_step aw3m aw3X (by kernel_rfl) aw3c8 aw3g9
  rwa [show aw3R8 ||| aw3RR9 = aw3RR8 from by decide +kernel, show aw3W8 ||| aw3WW9 = aw3WW8 from by decide +kernel] at h
theorem aw3g7 : SndC Tryz.prog none (dropS 7 aw3B) aw3A7.act aw3S7 .ret aw3A25.act aw3S25 aw3RR7 aw3WW7 := by
  have h := chain_step aw3m aw3X (by kernel_rfl) aw3c7 aw3g8
  rwa [show aw3R7 ||| aw3RR8 = aw3RR7 from by decide +kernel, show aw3W7 ||| aw3WW8 = aw3WW7 from by decide +kernel] at h
theorem aw3g6 : SndC Tryz.prog none (dropS 6 aw3B) aw3A6.act aw3S6 .ret aw3A25.act aw3S25 aw3RR6 aw3WW6 := by
  have h := chain_step aw3m aw3X (by kernel_rfl) aw3c6 aw3g7
  rwa [show aw3R6 ||| aw3RR7 = aw3RR6 from by decide +kernel, show aw3W6 ||| aw3WW7 = aw3WW6 from by decide +kernel] at h
theorem aw3g5 : SndC Tryz.prog none (dropS 5 aw3B) aw3A5.act aw3S5 .ret aw3A25.act aw3S25 aw3RR5 aw3WW5 := by
  have h := chain_step aw3m aw3X (by kernel_rfl) aw3c5 aw3g6
  rwa [show aw3R5 ||| aw3RR6 = aw3RR5 from by decide +kernel, show aw3W5 ||| aw3WW6 = aw3WW5 from by decide +kernel] at h
theorem aw3g4 : SndC Tryz.prog none (dropS 4 aw3B) aw3A4.act aw3S4 .ret aw3A25.act aw3S25 aw3RR4 aw3WW4 := by
  have h := chain_step aw3m aw3X (by kernel_rfl) aw3c4 aw3g5
  rwa [show aw3R4 ||| aw3RR5 = aw3RR4 from by decide +kernel, show aw3W4 ||| aw3WW5 = aw3WW4 from by decide +kernel] at h
theorem aw3g3 : SndC Tryz.prog none (dropS 3 aw3B) aw3A3.act aw3S3 .ret aw3A25.act aw3S25 aw3RR3 aw3WW3 := by
  have h := chain_step aw3m aw3X (by kernel_rfl) aw3c3 aw3g4
  rwa [show aw3R3 ||| aw3RR4 = aw3RR3 from by decide +kernel, show aw3W3 ||| aw3WW4 = aw3WW3 from by decide +kernel] at h
theorem aw3g2 : SndC Tryz.prog none (dropS 2 aw3B) aw3A2.act aw3S2 .ret aw3A25.act aw3S25 aw3RR2 aw3WW2 := by
  have h := chain_step aw3m aw3X (by kernel_rfl) aw3c2 aw3g3
  rwa [show aw3R2 ||| aw3RR3 = aw3RR2 from by decide +kernel, show aw3W2 ||| aw3WW3 = aw3WW2 from by decide +kernel] at h
theorem aw3g1 : SndC Tryz.prog none (dropS 1 aw3B) aw3A1.act aw3S1 .ret aw3A25.act aw3S25 aw3RR1 aw3WW1 := by
  have h := chain_step aw3m aw3X (by kernel_rfl) aw3c1 aw3g2
  rwa [show aw3R1 ||| aw3RR2 = aw3RR1 from by decide +kernel, show aw3W1 ||| aw3WW2 = aw3WW1 from by decide +kernel] at h
theorem aw3g0 : SndC Tryz.prog none (dropS 0 aw3B) aw3A0.act aw3S0 .ret aw3A25.act aw3S25 aw3RR0 aw3WW0 := by
  have h := chain_step aw3m aw3X (by kernel_rfl) aw3c0 aw3g1
  rwa [show aw3R0 ||| aw3RR1 = aw3RR0 from by decide +kernel, show aw3W0 ||| aw3WW1 = aw3WW0 from by decide +kernel] at h
theorem aw3f : SndF Tryz.prog 12 #[] aw3S0 (.bool true) aw3S25 (aw3RR0 ||| 0) aw3WW0 :=
  sndF_of (vs := [.bool true]) Tryz.func12 (show _ = some aw3B by kernel_rfl) (.inr rfl) (by kernel_rfl) (show SndC Tryz.prog none aw3B (startA Tryz.f12 #[]) aw3S0 .ret aw3A25.act aw3S25 aw3RR0 aw3WW0 from ((startM_act _ _).symm.trans (congrArg MA.act (show startM Tryz.f12 #[] = aw3A0 by kernel_rfl))) ▸ aw3g0) (by kernel_rfl)
theorem aw3_calls (w : World) (h : Holds Tryz.prog aw3S0 w) : Calls Tryz.prog 12 #[] w fun e w' => e = .returned (.bool true) ∧ Below w.heap.size w w' :=
  calls_of aw3f (by kernel_rfl) (by kernel_rfl) (fun b hb => by
    have hb : b < Tryz.prog.globals.size := hb
    rw [show Tryz.prog.globals.size = 6 by kernel_rfl] at hb
    revert b; decide +kernel) h
end Go.Proofs.YtbkpnhbcihcgaaaGreatDoor
end
section
set_option linter.all false
set_option maxRecDepth 1000000
set_option maxHeartbeats 2000000
open Go.RowKit
namespace Go.Proofs.YtbkpnhbcihcgaaaGreatDoor
open Mini
def A_at0 (y : Int) : Int := (Int.tmod (IntKind.i64.wrap y) (8 : Int))
abbrev A_pre (y : LV) : Prop := (-128 ≤ y.b0 ∧ y.b0 ≤ 127) ∧ (-128 ≤ y.b1 ∧ y.b1 ≤ 127) ∧ (-128 ≤ y.z0 ∧ y.z0 ≤ 127) ∧ (-128 ≤ y.z1 ∧ y.z1 ≤ 127) ∧ ((A_at0 y.a2) = 0) ∧ ((A_at0 y.a1) = 0) ∧ ((A_at0 y.a0) = 0) ∧ ((A_at0 y.b2) = 0) ∧ ((A_at0 y.b1) = 0) ∧ ((A_at0 y.b0) = 0)
theorem A_X : FOkS Tryz.prog x_A := bothX_ok (noXS_ok) (tabT_ok (by kernel_rfl) aw3_calls)
theorem A_args (y : LV) : (#[.agg #[.int .i8 y.a0, .int .i8 y.a1, .int .i8 y.a2], .agg #[.int .i8 y.b0, .int .i8 y.b1, .int .i8 y.b2], .agg #[.int .i8 y.z0, .int .i8 y.z1]] : Array Value).toList.all (ground 8) = true := by kernel_rfl
theorem A_hr (y : LV) (hpre : A_pre y) : InR LS_B (LS_R y) := LS_hr y ⟨hpre.1, hpre.2.1, hpre.2.2.1, hpre.2.2.2.1⟩
def A_h0 : Prop := (true = true)
theorem A_g0 : (true = true) := by first | rfl | trivial | decide | omega
def A_h1 : Prop := ((0 : Int) = (0 : Int))
theorem A_g1 : ((0 : Int) = (0 : Int)) := by first | rfl | trivial | decide | omega
def A_h2 : Prop := (false = false)
theorem A_g2 : (false = false) := by first | rfl | trivial | decide | omega
def A_h3 : Prop := ((1 : Int) = (1 : Int))
theorem A_g3 : ((1 : Int) = (1 : Int)) := by first | rfl | trivial | decide | omega
def A_h4 : Prop := ((2 : Int) = (2 : Int))
theorem A_g4 : ((2 : Int) = (2 : Int)) := by first | rfl | trivial | decide | omega
def A_h5 : Prop := ((decide ((3 : Int) > (0 : Int))) = Bool.true)
theorem A_g5 : ((decide ((3 : Int) > (0 : Int))) = Bool.true) := by first | rfl | trivial | decide | omega
def A_c0 (y : LV) : Bool := BE.ev (LS_R y) (.cm .eq (.v 14) (.k (0)))
def A_h7 : Prop := ((decide ((2 : Int) > (0 : Int))) = Bool.true)
theorem A_g7 : ((decide ((2 : Int) > (0 : Int))) = Bool.true) := by first | rfl | trivial | decide | omega
def A_c1 (y : LV) : Bool := BE.ev (LS_R y) (.cm .eq (.v 13) (.k (0)))
def A_h9 : Prop := ((decide ((1 : Int) > (0 : Int))) = Bool.true)
theorem A_g9 : ((decide ((1 : Int) > (0 : Int))) = Bool.true) := by first | rfl | trivial | decide | omega
def A_c2 (y : LV) : Bool := BE.ev (LS_R y) (.cm .eq (.v 12) (.k (0)))
def A_h11 : Prop := ((decide ((0 : Int) > (0 : Int))) = Bool.false)
theorem A_g11 : ((decide ((0 : Int) > (0 : Int))) = Bool.false) := by first | rfl | trivial | decide | omega
def A_c3 (y : LV) : Bool := BE.ev (LS_R y) (.cm .eq (.v 17) (.k (0)))
def A_c4 (y : LV) : Bool := BE.ev (LS_R y) (.cm .eq (.v 16) (.k (0)))
def A_c5 (y : LV) : Bool := BE.ev (LS_R y) (.cm .eq (.v 15) (.k (0)))
def A_L : List (BE × Bool) := []
def A_E (y : LV) : List Prop := [A_h0, A_h1, A_h2, A_h3, A_h4, A_h5, A_h7, A_h9, A_h11]
def A_T (y : LV) : Nat → Prop := tabP (LS_R y) A_L 0 (A_E y)
theorem A_tT (y : LV) (hpre : A_pre y) : ∀ i, A_T y i := fun i => tabP_ok (E := A_E y) (A_hr y hpre) (by kernel_rfl) (aC A_g0 (aC A_g1 (aC A_g2 (aC A_g3 (aC A_g4 (aC A_g5 (aC A_g7 (aC A_g9 (aC A_g11 (aN)))))))))) i
def A_w0 (y : LV) : Value := .bool Bool.true
def A_r0 (y : LV) : Prop := (cjD (A_T y) 256 ((cjD (A_T y) 256 ((cjD (A_T y) 256 ((cjD (A_T y) 256 ((cjD (A_T y) 256 ((cjD (A_T y) 256 ((cjD (A_T y) 256 True 19 0x5050504050505050502020400020300020100) ∧ (A_c0 y = true)) 9 0x60606030606060606) ∧ (A_c1 y = true)) 9 0x70707010707070707) ∧ (A_c2 y = true)) 28 0x5050504050505050502020400020300020100020808080808080808) ∧ (A_c3 y = true)) 9 0x60606030606060606) ∧ (A_c4 y = true)) 9 0x70707010707070707) ∧ (A_c5 y = true)) 18 0x2030201020808080808080808)
theorem A_o0 (y : LV) : (obOf (A_e0 y.a0 y.a1 y.a2 y.b0 y.b1 y.b2 y.z0 y.z1), resOf (A_e0 y.a0 y.a1 y.a2 y.b0 y.b1 y.b2 y.z0 y.z1), cleanOf Tryz.prog.globals.size (A_e0 y.a0 y.a1 y.a2 y.b0 y.b1 y.b2 y.z0 y.z1)) = (A_r0 y, A_w0 y, true) := by kernel_rfl
theorem A_q0 (y : LV) : A_e0 y.a0 y.a1 y.a2 y.b0 y.b1 y.b2 y.z0 y.z1 = evFS Tryz.prog x_A 1000 10 #[.agg #[.int .i8 y.a0, .int .i8 y.a1, .int .i8 y.a2], .agg #[.int .i8 y.b0, .int .i8 y.b1, .int .i8 y.b2], .agg #[.int .i8 y.z0, .int .i8 y.z1]] aw3S0 ⟨A_k0, True⟩ := by
  delta A_e0
  exact Eq.refl _
theorem A_p0 (y : LV) (h : A_r0 y) (w : World) (hh : Holds Tryz.prog aw3S0 w) : Calls Tryz.prog 10 #[.agg #[.int .i8 y.a0, .int .i8 y.a1, .int .i8 y.a2], .agg #[.int .i8 y.b0, .int .i8 y.b1, .int .i8 y.b2], .agg #[.int .i8 y.z0, .int .i8 y.z1]] w fun en w' => en = .returned (A_w0 y) ∧ Below w.heap.size w w' := by
  have h3 := A_o0 y
  have hv : resOf (A_e0 y.a0 y.a1 y.a2 y.b0 y.b1 y.b2 y.z0 y.z1) = A_w0 y := congrArg (fun z => z.2.1) h3
  have hc : cleanOf Tryz.prog.globals.size (A_e0 y.a0 y.a1 y.a2 y.b0 y.b1 y.b2 y.z0 y.z1) = true := congrArg (fun z => z.2.2) h3
  have he := A_q0 y
  have ho : obOf (A_e0 y.a0 y.a1 y.a2 y.b0 y.b1 y.b2 y.z0 y.z1) = A_r0 y := congrArg (fun z => z.1) h3
  clear h3
  generalize A_e0 y.a0 y.a1 y.a2 y.b0 y.b1 y.b2 y.z0 y.z1 = r at *
  exact calls_way he gfol A_X hv rfl (A_args y) hc ho h hh
theorem A_any (y : LV) (hpre : A_pre y) (w : World) (hh : Holds Tryz.prog aw3S0 w) : Calls Tryz.prog 10 #[.agg #[.int .i8 y.a0, .int .i8 y.a1, .int .i8 y.a2], .agg #[.int .i8 y.b0, .int .i8 y.b1, .int .i8 y.b2], .agg #[.int .i8 y.z0, .int .i8 y.z1]] w fun en w' => en = .returned (.bool true) ∧ Below w.heap.size w w' := by
  have hg0 : (A_c0 y = true) := (show A_c0 y = BE.ev (LS_R y) (.cm .eq (.v 14) (.k (0))) by kernel_rfl).trans (beq_iff_eq.2 hpre.2.2.2.2.1)
  have hg1 : (A_c1 y = true) := (show A_c1 y = BE.ev (LS_R y) (.cm .eq (.v 13) (.k (0))) by kernel_rfl).trans (beq_iff_eq.2 hpre.2.2.2.2.2.1)
  have hg2 : (A_c2 y = true) := (show A_c2 y = BE.ev (LS_R y) (.cm .eq (.v 12) (.k (0))) by kernel_rfl).trans (beq_iff_eq.2 hpre.2.2.2.2.2.2.1)
  have hg3 : (A_c3 y = true) := (show A_c3 y = BE.ev (LS_R y) (.cm .eq (.v 17) (.k (0))) by kernel_rfl).trans (beq_iff_eq.2 hpre.2.2.2.2.2.2.2.1)
  have hg4 : (A_c4 y = true) := (show A_c4 y = BE.ev (LS_R y) (.cm .eq (.v 16) (.k (0))) by kernel_rfl).trans (beq_iff_eq.2 hpre.2.2.2.2.2.2.2.2.1)
  have hg5 : (A_c5 y = true) := (show A_c5 y = BE.ev (LS_R y) (.cm .eq (.v 15) (.k (0))) by kernel_rfl).trans (beq_iff_eq.2 hpre.2.2.2.2.2.2.2.2.2)
  have hp := A_p0 y (cjD_i (A_tT y hpre) (And.intro (cjD_i (A_tT y hpre) (And.intro (cjD_i (A_tT y hpre) (And.intro (cjD_i (A_tT y hpre) (And.intro (cjD_i (A_tT y hpre) (And.intro (cjD_i (A_tT y hpre) (And.intro (cjD_i (A_tT y hpre) trivial) hg0)) hg1)) hg2)) hg3)) hg4)) hg5)) w hh
  have hv : A_w0 y = (.bool true) := by
    clear hp hh
    unfold A_w0
    rfl
  exact hv ▸ hp
end Go.Proofs.YtbkpnhbcihcgaaaGreatDoor
end
section
set_option linter.all false
set_option maxRecDepth 1000000
set_option maxHeartbeats 2000000
open Go.RowKit
namespace Go.Proofs.YtbkpnhbcihcgaaaGreatDoor
open Mini
def B_at0 (y : Int) : Int := (Int.tmod (IntKind.i64.wrap y) (8 : Int))
abbrev B_pre (y : LV) : Prop := (-128 ≤ y.b0 ∧ y.b0 ≤ 127) ∧ (-128 ≤ y.b1 ∧ y.b1 ≤ 127) ∧ (-128 ≤ y.z0 ∧ y.z0 ≤ 127) ∧ (-128 ≤ y.z1 ∧ y.z1 ≤ 127) ∧ ((B_at0 y.a2) = 0) ∧ ((B_at0 y.a1) = 0) ∧ ((B_at0 y.a0) = 0) ∧ ((B_at0 y.b2) = 0) ∧ ((B_at0 y.b1) = 0) ∧ ((B_at0 y.b0) ≠ 0)
theorem B_X : FOkS Tryz.prog x_B := bothX_ok (noXS_ok) (tabT_ok (by kernel_rfl) aw3_calls)
theorem B_args (y : LV) : (#[.agg #[.int .i8 y.a0, .int .i8 y.a1, .int .i8 y.a2], .agg #[.int .i8 y.b0, .int .i8 y.b1, .int .i8 y.b2], .agg #[.int .i8 y.z0, .int .i8 y.z1]] : Array Value).toList.all (ground 8) = true := by kernel_rfl
theorem B_hr (y : LV) (hpre : B_pre y) : InR LS_B (LS_R y) := LS_hr y ⟨hpre.1, hpre.2.1, hpre.2.2.1, hpre.2.2.2.1⟩
def B_h0 : Prop := (true = true)
theorem B_g0 : (true = true) := by first | rfl | trivial | decide | omega
def B_h1 : Prop := ((0 : Int) = (0 : Int))
theorem B_g1 : ((0 : Int) = (0 : Int)) := by first | rfl | trivial | decide | omega
def B_h2 : Prop := (false = false)
theorem B_g2 : (false = false) := by first | rfl | trivial | decide | omega
def B_h3 : Prop := ((1 : Int) = (1 : Int))
theorem B_g3 : ((1 : Int) = (1 : Int)) := by first | rfl | trivial | decide | omega
def B_h4 : Prop := ((2 : Int) = (2 : Int))
theorem B_g4 : ((2 : Int) = (2 : Int)) := by first | rfl | trivial | decide | omega
def B_h5 : Prop := ((decide ((3 : Int) > (0 : Int))) = Bool.true)
theorem B_g5 : ((decide ((3 : Int) > (0 : Int))) = Bool.true) := by first | rfl | trivial | decide | omega
def B_c0 (y : LV) : Bool := BE.ev (LS_R y) (.cm .eq (.v 14) (.k (0)))
def B_h7 : Prop := ((decide ((2 : Int) > (0 : Int))) = Bool.true)
theorem B_g7 : ((decide ((2 : Int) > (0 : Int))) = Bool.true) := by first | rfl | trivial | decide | omega
def B_c1 (y : LV) : Bool := BE.ev (LS_R y) (.cm .eq (.v 13) (.k (0)))
def B_h9 : Prop := ((decide ((1 : Int) > (0 : Int))) = Bool.true)
theorem B_g9 : ((decide ((1 : Int) > (0 : Int))) = Bool.true) := by first | rfl | trivial | decide | omega
def B_c2 (y : LV) : Bool := BE.ev (LS_R y) (.cm .eq (.v 12) (.k (0)))
def B_h11 : Prop := ((decide ((0 : Int) > (0 : Int))) = Bool.false)
theorem B_g11 : ((decide ((0 : Int) > (0 : Int))) = Bool.false) := by first | rfl | trivial | decide | omega
def B_c3 (y : LV) : Bool := BE.ev (LS_R y) (.cm .eq (.v 17) (.k (0)))
def B_c4 (y : LV) : Bool := BE.ev (LS_R y) (.cm .eq (.v 16) (.k (0)))
def B_c5 (y : LV) : Bool := BE.ev (LS_R y) (.cm .eq (.v 15) (.k (0)))
def B_L : List (BE × Bool) := []
def B_E (y : LV) : List Prop := [B_h0, B_h1, B_h2, B_h3, B_h4, B_h5, B_h7, B_h9, B_h11]
def B_T (y : LV) : Nat → Prop := tabP (LS_R y) B_L 0 (B_E y)
theorem B_tT (y : LV) (hpre : B_pre y) : ∀ i, B_T y i := fun i => tabP_ok (E := B_E y) (B_hr y hpre) (by kernel_rfl) (aC B_g0 (aC B_g1 (aC B_g2 (aC B_g3 (aC B_g4 (aC B_g5 (aC B_g7 (aC B_g9 (aC B_g11 (aN)))))))))) i
def B_w0 (y : LV) : Value := .bool Bool.true
def B_r0 (y : LV) : Prop := (cjD (B_T y) 256 ((cjD (B_T y) 256 ((cjD (B_T y) 256 ((cjD (B_T y) 256 ((cjD (B_T y) 256 ((cjD (B_T y) 256 ((cjD (B_T y) 256 True 19 0x5050504050505050502020400020300020100) ∧ (B_c0 y = true)) 9 0x60606030606060606) ∧ (B_c1 y = true)) 9 0x70707010707070707) ∧ (B_c2 y = true)) 28 0x5050504050505050502020400020300020100020808080808080808) ∧ (B_c3 y = true)) 9 0x60606030606060606) ∧ (B_c4 y = true)) 9 0x70707010707070707) ∧ (B_c5 y = false)) 9 0x2030201)
theorem B_o0 (y : LV) : (obOf (B_e0 y.a0 y.a1 y.a2 y.b0 y.b1 y.b2 y.z0 y.z1), resOf (B_e0 y.a0 y.a1 y.a2 y.b0 y.b1 y.b2 y.z0 y.z1), cleanOf Tryz.prog.globals.size (B_e0 y.a0 y.a1 y.a2 y.b0 y.b1 y.b2 y.z0 y.z1)) = (B_r0 y, B_w0 y, true) := by kernel_rfl
theorem B_q0 (y : LV) : B_e0 y.a0 y.a1 y.a2 y.b0 y.b1 y.b2 y.z0 y.z1 = evFS Tryz.prog x_B 1000 10 #[.agg #[.int .i8 y.a0, .int .i8 y.a1, .int .i8 y.a2], .agg #[.int .i8 y.b0, .int .i8 y.b1, .int .i8 y.b2], .agg #[.int .i8 y.z0, .int .i8 y.z1]] aw3S0 ⟨B_k0, True⟩ := by
  delta B_e0
  exact Eq.refl _
theorem B_p0 (y : LV) (h : B_r0 y) (w : World) (hh : Holds Tryz.prog aw3S0 w) : Calls Tryz.prog 10 #[.agg #[.int .i8 y.a0, .int .i8 y.a1, .int .i8 y.a2], .agg #[.int .i8 y.b0, .int .i8 y.b1, .int .i8 y.b2], .agg #[.int .i8 y.z0, .int .i8 y.z1]] w fun en w' => en = .returned (B_w0 y) ∧ Below w.heap.size w w' := by
  have h3 := B_o0 y
  have hv : resOf (B_e0 y.a0 y.a1 y.a2 y.b0 y.b1 y.b2 y.z0 y.z1) = B_w0 y := congrArg (fun z => z.2.1) h3
  have hc : cleanOf Tryz.prog.globals.size (B_e0 y.a0 y.a1 y.a2 y.b0 y.b1 y.b2 y.z0 y.z1) = true := congrArg (fun z => z.2.2) h3
  have he := B_q0 y
  have ho : obOf (B_e0 y.a0 y.a1 y.a2 y.b0 y.b1 y.b2 y.z0 y.z1) = B_r0 y := congrArg (fun z => z.1) h3
  clear h3
  generalize B_e0 y.a0 y.a1 y.a2 y.b0 y.b1 y.b2 y.z0 y.z1 = r at *
  exact calls_way he gfol B_X hv rfl (B_args y) hc ho h hh
theorem B_any (y : LV) (hpre : B_pre y) (w : World) (hh : Holds Tryz.prog aw3S0 w) : Calls Tryz.prog 10 #[.agg #[.int .i8 y.a0, .int .i8 y.a1, .int .i8 y.a2], .agg #[.int .i8 y.b0, .int .i8 y.b1, .int .i8 y.b2], .agg #[.int .i8 y.z0, .int .i8 y.z1]] w fun en w' => en = .returned (.bool true) ∧ Below w.heap.size w w' := by
  have hg0 : (B_c0 y = true) := (show B_c0 y = BE.ev (LS_R y) (.cm .eq (.v 14) (.k (0))) by kernel_rfl).trans (beq_iff_eq.2 hpre.2.2.2.2.1)
  have hg1 : (B_c1 y = true) := (show B_c1 y = BE.ev (LS_R y) (.cm .eq (.v 13) (.k (0))) by kernel_rfl).trans (beq_iff_eq.2 hpre.2.2.2.2.2.1)
  have hg2 : (B_c2 y = true) := (show B_c2 y = BE.ev (LS_R y) (.cm .eq (.v 12) (.k (0))) by kernel_rfl).trans (beq_iff_eq.2 hpre.2.2.2.2.2.2.1)
  have hg3 : (B_c3 y = true) := (show B_c3 y = BE.ev (LS_R y) (.cm .eq (.v 17) (.k (0))) by kernel_rfl).trans (beq_iff_eq.2 hpre.2.2.2.2.2.2.2.1)
  have hg4 : (B_c4 y = true) := (show B_c4 y = BE.ev (LS_R y) (.cm .eq (.v 16) (.k (0))) by kernel_rfl).trans (beq_iff_eq.2 hpre.2.2.2.2.2.2.2.2.1)
  have hg5 : (B_c5 y = false) := (show B_c5 y = BE.ev (LS_R y) (.cm .eq (.v 15) (.k (0))) by kernel_rfl).trans (beq_eq_false_iff_ne.2 hpre.2.2.2.2.2.2.2.2.2)
  have hp := B_p0 y (cjD_i (B_tT y hpre) (And.intro (cjD_i (B_tT y hpre) (And.intro (cjD_i (B_tT y hpre) (And.intro (cjD_i (B_tT y hpre) (And.intro (cjD_i (B_tT y hpre) (And.intro (cjD_i (B_tT y hpre) (And.intro (cjD_i (B_tT y hpre) trivial) hg0)) hg1)) hg2)) hg3)) hg4)) hg5)) w hh
  have hv : B_w0 y = (.bool true) := by
    clear hp hh
    unfold B_w0
    rfl
  exact hv ▸ hp
end Go.Proofs.YtbkpnhbcihcgaaaGreatDoor
end
section
set_option linter.all false
set_option maxRecDepth 1000000
set_option maxHeartbeats 2000000
open Go.RowKit
namespace Go.Proofs.YtbkpnhbcihcgaaaGreatDoor
open Mini
def C_at0 (y : Int) : Int := (Int.tmod (IntKind.i64.wrap y) (8 : Int))
abbrev C_pre (y : LV) : Prop := (-128 ≤ y.b0 ∧ y.b0 ≤ 127) ∧ (-128 ≤ y.b1 ∧ y.b1 ≤ 127) ∧ (-128 ≤ y.z0 ∧ y.z0 ≤ 127) ∧ (-128 ≤ y.z1 ∧ y.z1 ≤ 127) ∧ ((C_at0 y.a2) = 0) ∧ ((C_at0 y.a1) = 0) ∧ ((C_at0 y.a0) = 0) ∧ ((C_at0 y.b2) = 0) ∧ ((C_at0 y.b1) ≠ 0)
theorem C_X : FOkS Tryz.prog x_C := bothX_ok (noXS_ok) (tabT_ok (by kernel_rfl) aw3_calls)
theorem C_args (y : LV) : (#[.agg #[.int .i8 y.a0, .int .i8 y.a1, .int .i8 y.a2], .agg #[.int .i8 y.b0, .int .i8 y.b1, .int .i8 y.b2], .agg #[.int .i8 y.z0, .int .i8 y.z1]] : Array Value).toList.all (ground 8) = true := by kernel_rfl
theorem C_hr (y : LV) (hpre : C_pre y) : InR LS_B (LS_R y) := LS_hr y ⟨hpre.1, hpre.2.1, hpre.2.2.1, hpre.2.2.2.1⟩
def C_h0 : Prop := (true = true)
theorem C_g0 : (true = true) := by first | rfl | trivial | decide | omega
def C_h1 : Prop := ((0 : Int) = (0 : Int))
theorem C_g1 : ((0 : Int) = (0 : Int)) := by first | rfl | trivial | decide | omega
def C_h2 : Prop := (false = false)
theorem C_g2 : (false = false) := by first | rfl | trivial | decide | omega
def C_h3 : Prop := ((1 : Int) = (1 : Int))
theorem C_g3 : ((1 : Int) = (1 : Int)) := by first | rfl | trivial | decide | omega
def C_h4 : Prop := ((2 : Int) = (2 : Int))
theorem C_g4 : ((2 : Int) = (2 : Int)) := by first | rfl | trivial | decide | omega
def C_h5 : Prop := ((decide ((3 : Int) > (0 : Int))) = Bool.true)
theorem C_g5 : ((decide ((3 : Int) > (0 : Int))) = Bool.true) := by first | rfl | trivial | decide | omega
def C_c0 (y : LV) : Bool := BE.ev (LS_R y) (.cm .eq (.v 14) (.k (0)))
def C_h7 : Prop := ((decide ((2 : Int) > (0 : Int))) = Bool.true)
theorem C_g7 : ((decide ((2 : Int) > (0 : Int))) = Bool.true) := by first | rfl | trivial | decide | omega
def C_c1 (y : LV) : Bool := BE.ev (LS_R y) (.cm .eq (.v 13) (.k (0)))
def C_h9 : Prop := ((decide ((1 : Int) > (0 : Int))) = Bool.true)
theorem C_g9 : ((decide ((1 : Int) > (0 : Int))) = Bool.true) := by first | rfl | trivial | decide | omega
def C_c2 (y : LV) : Bool := BE.ev (LS_R y) (.cm .eq (.v 12) (.k (0)))
def C_h11 : Prop := ((decide ((0 : Int) > (0 : Int))) = Bool.false)
theorem C_g11 : ((decide ((0 : Int) > (0 : Int))) = Bool.false) := by first | rfl | trivial | decide | omega
def C_c3 (y : LV) : Bool := BE.ev (LS_R y) (.cm .eq (.v 17) (.k (0)))
def C_c4 (y : LV) : Bool := BE.ev (LS_R y) (.cm .eq (.v 16) (.k (0)))
def C_L : List (BE × Bool) := []
def C_E (y : LV) : List Prop := [C_h0, C_h1, C_h2, C_h3, C_h4, C_h5, C_h7, C_h9, C_h11]
def C_T (y : LV) : Nat → Prop := tabP (LS_R y) C_L 0 (C_E y)
theorem C_tT (y : LV) (hpre : C_pre y) : ∀ i, C_T y i := fun i => tabP_ok (E := C_E y) (C_hr y hpre) (by kernel_rfl) (aC C_g0 (aC C_g1 (aC C_g2 (aC C_g3 (aC C_g4 (aC C_g5 (aC C_g7 (aC C_g9 (aC C_g11 (aN)))))))))) i
def C_w0 (y : LV) : Value := .bool Bool.true
def C_r0 (y : LV) : Prop := (cjD (C_T y) 256 ((cjD (C_T y) 256 ((cjD (C_T y) 256 ((cjD (C_T y) 256 ((cjD (C_T y) 256 ((cjD (C_T y) 256 True 19 0x5050504050505050502020400020300020100) ∧ (C_c0 y = true)) 9 0x60606030606060606) ∧ (C_c1 y = true)) 9 0x70707010707070707) ∧ (C_c2 y = true)) 28 0x5050504050505050502020400020300020100020808080808080808) ∧ (C_c3 y = true)) 9 0x60606030606060606) ∧ (C_c4 y = false)) 9 0x2030201)
theorem C_o0 (y : LV) : (obOf (C_e0 y.a0 y.a1 y.a2 y.b0 y.b1 y.b2 y.z0 y.z1), resOf (C_e0 y.a0 y.a1 y.a2 y.b0 y.b1 y.b2 y.z0 y.z1), cleanOf Tryz.prog.globals.size (C_e0 y.a0 y.a1 y.a2 y.b0 y.b1 y.b2 y.z0 y.z1)) = (C_r0 y, C_w0 y, true) := by kernel_rfl
theorem C_q0 (y : LV) : C_e0 y.a0 y.a1 y.a2 y.b0 y.b1 y.b2 y.z0 y.z1 = evFS Tryz.prog x_C 1000 10 #[.agg #[.int .i8 y.a0, .int .i8 y.a1, .int .i8 y.a2], .agg #[.int .i8 y.b0, .int .i8 y.b1, .int .i8 y.b2], .agg #[.int .i8 y.z0, .int .i8 y.z1]] aw3S0 ⟨C_k0, True⟩ := by
  delta C_e0
  exact Eq.refl _
theorem C_p0 (y : LV) (h : C_r0 y) (w : World) (hh : Holds Tryz.prog aw3S0 w) : Calls Tryz.prog 10 #[.agg #[.int .i8 y.a0, .int .i8 y.a1, .int .i8 y.a2], .agg #[.int .i8 y.b0, .int .i8 y.b1, .int .i8 y.b2], .agg #[.int .i8 y.z0, .int .i8 y.z1]] w fun en w' => en = .returned (C_w0 y) ∧ Below w.heap.size w w' := by
  have h3 := C_o0 y
  have hv : resOf (C_e0 y.a0 y.a1 y.a2 y.b0 y.b1 y.b2 y.z0 y.z1) = C_w0 y := congrArg (fun z => z.2.1) h3
  have hc : cleanOf Tryz.prog.globals.size (C_e0 y.a0 y.a1 y.a2 y.b0 y.b1 y.b2 y.z0 y.z1) = true := congrArg (fun z => z.2.2) h3
  have he := C_q0 y
  have ho : obOf (C_e0 y.a0 y.a1 y.a2 y.b0 y.b1 y.b2 y.z0 y.z1) = C_r0 y := congrArg (fun z => z.1) h3
  clear h3
  generalize C_e0 y.a0 y.a1 y.a2 y.b0 y.b1 y.b2 y.z0 y.z1 = r at *
  exact calls_way he gfol C_X hv rfl (C_args y) hc ho h hh
theorem C_any (y : LV) (hpre : C_pre y) (w : World) (hh : Holds Tryz.prog aw3S0 w) : Calls Tryz.prog 10 #[.agg #[.int .i8 y.a0, .int .i8 y.a1, .int .i8 y.a2], .agg #[.int .i8 y.b0, .int .i8 y.b1, .int .i8 y.b2], .agg #[.int .i8 y.z0, .int .i8 y.z1]] w fun en w' => en = .returned (.bool true) ∧ Below w.heap.size w w' := by
  have hg0 : (C_c0 y = true) := (show C_c0 y = BE.ev (LS_R y) (.cm .eq (.v 14) (.k (0))) by kernel_rfl).trans (beq_iff_eq.2 hpre.2.2.2.2.1)
  have hg1 : (C_c1 y = true) := (show C_c1 y = BE.ev (LS_R y) (.cm .eq (.v 13) (.k (0))) by kernel_rfl).trans (beq_iff_eq.2 hpre.2.2.2.2.2.1)
  have hg2 : (C_c2 y = true) := (show C_c2 y = BE.ev (LS_R y) (.cm .eq (.v 12) (.k (0))) by kernel_rfl).trans (beq_iff_eq.2 hpre.2.2.2.2.2.2.1)
  have hg3 : (C_c3 y = true) := (show C_c3 y = BE.ev (LS_R y) (.cm .eq (.v 17) (.k (0))) by kernel_rfl).trans (beq_iff_eq.2 hpre.2.2.2.2.2.2.2.1)
  have hg4 : (C_c4 y = false) := (show C_c4 y = BE.ev (LS_R y) (.cm .eq (.v 16) (.k (0))) by kernel_rfl).trans (beq_eq_false_iff_ne.2 hpre.2.2.2.2.2.2.2.2)
  have hp := C_p0 y (cjD_i (C_tT y hpre) (And.intro (cjD_i (C_tT y hpre) (And.intro (cjD_i (C_tT y hpre) (And.intro (cjD_i (C_tT y hpre) (And.intro (cjD_i (C_tT y hpre) (And.intro (cjD_i (C_tT y hpre) trivial) hg0)) hg1)) hg2)) hg3)) hg4)) w hh
  have hv : C_w0 y = (.bool true) := by
    clear hp hh
    unfold C_w0
    rfl
  exact hv ▸ hp
end Go.Proofs.YtbkpnhbcihcgaaaGreatDoor
end
section
set_option linter.all false
set_option maxRecDepth 1000000
set_option maxHeartbeats 2000000
open Go.RowKit
namespace Go.Proofs.YtbkpnhbcihcgaaaGreatDoor
open Mini
def D_at0 (y : Int) : Int := (Int.tmod (IntKind.i64.wrap y) (8 : Int))
abbrev D_pre (y : LV) : Prop := (-128 ≤ y.b0 ∧ y.b0 ≤ 127) ∧ (-128 ≤ y.b1 ∧ y.b1 ≤ 127) ∧ (-128 ≤ y.z0 ∧ y.z0 ≤ 127) ∧ (-128 ≤ y.z1 ∧ y.z1 ≤ 127) ∧ ((D_at0 y.a2) = 0) ∧ ((D_at0 y.a1) = 0) ∧ ((D_at0 y.a0) = 0) ∧ ((D_at0 y.b2) ≠ 0)
theorem D_X : FOkS Tryz.prog x_D := bothX_ok (noXS_ok) (tabT_ok (by kernel_rfl) aw3_calls)
theorem D_args (y : LV) : (#[.agg #[.int .i8 y.a0, .int .i8 y.a1, .int .i8 y.a2], .agg #[.int .i8 y.b0, .int .i8 y.b1, .int .i8 y.b2], .agg #[.int .i8 y.z0, .int .i8 y.z1]] : Array Value).toList.all (ground 8) = true := by kernel_rfl
theorem D_hr (y : LV) (hpre : D_pre y) : InR LS_B (LS_R y) := LS_hr y ⟨hpre.1, hpre.2.1, hpre.2.2.1, hpre.2.2.2.1⟩
def D_h0 : Prop := (true = true)
theorem D_g0 : (true = true) := by first | rfl | trivial | decide | omega
def D_h1 : Prop := ((0 : Int) = (0 : Int))
theorem D_g1 : ((0 : Int) = (0 : Int)) := by first | rfl | trivial | decide | omega
def D_h2 : Prop := (false = false)
theorem D_g2 : (false = false) := by first | rfl | trivial | decide | omega
def D_h3 : Prop := ((1 : Int) = (1 : Int))
theorem D_g3 : ((1 : Int) = (1 : Int)) := by first | rfl | trivial | decide | omega
def D_h4 : Prop := ((2 : Int) = (2 : Int))
theorem D_g4 : ((2 : Int) = (2 : Int)) := by first | rfl | trivial | decide | omega
def D_h5 : Prop := ((decide ((3 : Int) > (0 : Int))) = Bool.true)
theorem D_g5 : ((decide ((3 : Int) > (0 : Int))) = Bool.true) := by first | rfl | trivial | decide | omega
def D_c0 (y : LV) : Bool := BE.ev (LS_R y) (.cm .eq (.v 14) (.k (0)))
def D_h7 : Prop := ((decide ((2 : Int) > (0 : Int))) = Bool.true)
theorem D_g7 : ((decide ((2 : Int) > (0 : Int))) = Bool.true) := by first | rfl | trivial | decide | omega
def D_c1 (y : LV) : Bool := BE.ev (LS_R y) (.cm .eq (.v 13) (.k (0)))
def D_h9 : Prop := ((decide ((1 : Int) > (0 : Int))) = Bool.true)
theorem D_g9 : ((decide ((1 : Int) > (0 : Int))) = Bool.true) := by first | rfl | trivial | decide | omega
def D_c2 (y : LV) : Bool := BE.ev (LS_R y) (.cm .eq (.v 12) (.k (0)))
def D_h11 : Prop := ((decide ((0 : Int) > (0 : Int))) = Bool.false)
theorem D_g11 : ((decide ((0 : Int) > (0 : Int))) = Bool.false) := by first | rfl | trivial | decide | omega
def D_c3 (y : LV) : Bool := BE.ev (LS_R y) (.cm .eq (.v 17) (.k (0)))
def D_L : List (BE × Bool) := []
def D_E (y : LV) : List Prop := [D_h0, D_h1, D_h2, D_h3, D_h4, D_h5, D_h7, D_h9, D_h11]
def D_T (y : LV) : Nat → Prop := tabP (LS_R y) D_L 0 (D_E y)
theorem D_tT (y : LV) (hpre : D_pre y) : ∀ i, D_T y i := fun i => tabP_ok (E := D_E y) (D_hr y hpre) (by kernel_rfl) (aC D_g0 (aC D_g1 (aC D_g2 (aC D_g3 (aC D_g4 (aC D_g5 (aC D_g7 (aC D_g9 (aC D_g11 (aN)))))))))) i
def D_w0 (y : LV) : Value := .bool Bool.true
def D_r0 (y : LV) : Prop := (cjD (D_T y) 256 ((cjD (D_T y) 256 ((cjD (D_T y) 256 ((cjD (D_T y) 256 ((cjD (D_T y) 256 True 19 0x5050504050505050502020400020300020100) ∧ (D_c0 y = true)) 9 0x60606030606060606) ∧ (D_c1 y = true)) 9 0x70707010707070707) ∧ (D_c2 y = true)) 28 0x5050504050505050502020400020300020100020808080808080808) ∧ (D_c3 y = false)) 9 0x2030201)
theorem D_o0 (y : LV) : (obOf (D_e0 y.a0 y.a1 y.a2 y.b0 y.b1 y.b2 y.z0 y.z1), resOf (D_e0 y.a0 y.a1 y.a2 y.b0 y.b1 y.b2 y.z0 y.z1), cleanOf Tryz.prog.globals.size (D_e0 y.a0 y.a1 y.a2 y.b0 y.b1 y.b2 y.z0 y.z1)) = (D_r0 y, D_w0 y, true) := by kernel_rfl
theorem D_q0 (y : LV) : D_e0 y.a0 y.a1 y.a2 y.b0 y.b1 y.b2 y.z0 y.z1 = evFS Tryz.prog x_D 1000 10 #[.agg #[.int .i8 y.a0, .int .i8 y.a1, .int .i8 y.a2], .agg #[.int .i8 y.b0, .int .i8 y.b1, .int .i8 y.b2], .agg #[.int .i8 y.z0, .int .i8 y.z1]] aw3S0 ⟨D_k0, True⟩ := by
  delta D_e0
  exact Eq.refl _
theorem D_p0 (y : LV) (h : D_r0 y) (w : World) (hh : Holds Tryz.prog aw3S0 w) : Calls Tryz.prog 10 #[.agg #[.int .i8 y.a0, .int .i8 y.a1, .int .i8 y.a2], .agg #[.int .i8 y.b0, .int .i8 y.b1, .int .i8 y.b2], .agg #[.int .i8 y.z0, .int .i8 y.z1]] w fun en w' => en = .returned (D_w0 y) ∧ Below w.heap.size w w' := by
  have h3 := D_o0 y
  have hv : resOf (D_e0 y.a0 y.a1 y.a2 y.b0 y.b1 y.b2 y.z0 y.z1) = D_w0 y := congrArg (fun z => z.2.1) h3
  have hc : cleanOf Tryz.prog.globals.size (D_e0 y.a0 y.a1 y.a2 y.b0 y.b1 y.b2 y.z0 y.z1) = true := congrArg (fun z => z.2.2) h3
  have he := D_q0 y
  have ho : obOf (D_e0 y.a0 y.a1 y.a2 y.b0 y.b1 y.b2 y.z0 y.z1) = D_r0 y := congrArg (fun z => z.1) h3
  clear h3
  generalize D_e0 y.a0 y.a1 y.a2 y.b0 y.b1 y.b2 y.z0 y.z1 = r at *
  exact calls_way he gfol D_X hv rfl (D_args y) hc ho h hh
theorem D_any (y : LV) (hpre : D_pre y) (w : World) (hh : Holds Tryz.prog aw3S0 w) : Calls Tryz.prog 10 #[.agg #[.int .i8 y.a0, .int .i8 y.a1, .int .i8 y.a2], .agg #[.int .i8 y.b0, .int .i8 y.b1, .int .i8 y.b2], .agg #[.int .i8 y.z0, .int .i8 y.z1]] w fun en w' => en = .returned (.bool true) ∧ Below w.heap.size w w' := by
  have hg0 : (D_c0 y = true) := (show D_c0 y = BE.ev (LS_R y) (.cm .eq (.v 14) (.k (0))) by kernel_rfl).trans (beq_iff_eq.2 hpre.2.2.2.2.1)
  have hg1 : (D_c1 y = true) := (show D_c1 y = BE.ev (LS_R y) (.cm .eq (.v 13) (.k (0))) by kernel_rfl).trans (beq_iff_eq.2 hpre.2.2.2.2.2.1)
  have hg2 : (D_c2 y = true) := (show D_c2 y = BE.ev (LS_R y) (.cm .eq (.v 12) (.k (0))) by kernel_rfl).trans (beq_iff_eq.2 hpre.2.2.2.2.2.2.1)
  have hg3 : (D_c3 y = false) := (show D_c3 y = BE.ev (LS_R y) (.cm .eq (.v 17) (.k (0))) by kernel_rfl).trans (beq_eq_false_iff_ne.2 hpre.2.2.2.2.2.2.2)
  have hp := D_p0 y (cjD_i (D_tT y hpre) (And.intro (cjD_i (D_tT y hpre) (And.intro (cjD_i (D_tT y hpre) (And.intro (cjD_i (D_tT y hpre) (And.intro (cjD_i (D_tT y hpre) trivial) hg0)) hg1)) hg2)) hg3)) w hh
  have hv : D_w0 y = (.bool true) := by
    clear hp hh
    unfold D_w0
    rfl
  exact hv ▸ hp
end Go.Proofs.YtbkpnhbcihcgaaaGreatDoor
end
section
set_option linter.all false
set_option maxRecDepth 1000000
set_option maxHeartbeats 2000000
open Go.RowKit
namespace Go.Proofs.YtbkpnhbcihcgaaaGreatDoor
open Mini
def E_at0 (y : Int) : Int := (Int.tmod (IntKind.i64.wrap y) (8 : Int))
abbrev E_pre (y : LV) : Prop := (-128 ≤ y.b0 ∧ y.b0 ≤ 127) ∧ (-128 ≤ y.b1 ∧ y.b1 ≤ 127) ∧ (-128 ≤ y.z0 ∧ y.z0 ≤ 127) ∧ (-128 ≤ y.z1 ∧ y.z1 ≤ 127) ∧ ((E_at0 y.a2) = 0) ∧ ((E_at0 y.a1) = 0) ∧ ((E_at0 y.a0) ≠ 0) ∧ ((E_at0 y.b2) = 0) ∧ ((E_at0 y.b1) = 0) ∧ ((E_at0 y.b0) = 0)
theorem E_X : FOkS Tryz.prog x_E := bothX_ok (noXS_ok) (tabT_ok (by kernel_rfl) aw3_calls)
theorem E_args (y : LV) : (#[.agg #[.int .i8 y.a0, .int .i8 y.a1, .int .i8 y.a2], .agg #[.int .i8 y.b0, .int .i8 y.b1, .int .i8 y.b2], .agg #[.int .i8 y.z0, .int .i8 y.z1]] : Array Value).toList.all (ground 8) = true := by kernel_rfl
theorem E_hr (y : LV) (hpre : E_pre y) : InR LS_B (LS_R y) := LS_hr y ⟨hpre.1, hpre.2.1, hpre.2.2.1, hpre.2.2.2.1⟩
def E_h0 : Prop := (true = true)
theorem E_g0 : (true = true) := by first | rfl | trivial | decide | omega
def E_h1 : Prop := ((0 : Int) = (0 : Int))
theorem E_g1 : ((0 : Int) = (0 : Int)) := by first | rfl | trivial | decide | omega
def E_h2 : Prop := (false = false)
theorem E_g2 : (false = false) := by first | rfl | trivial | decide | omega
def E_h3 : Prop := ((1 : Int) = (1 : Int))
theorem E_g3 : ((1 : Int) = (1 : Int)) := by first | rfl | trivial | decide | omega
def E_h4 : Prop := ((2 : Int) = (2 : Int))
theorem E_g4 : ((2 : Int) = (2 : Int)) := by first | rfl | trivial | decide | omega
def E_h5 : Prop := ((decide ((3 : Int) > (0 : Int))) = Bool.true)
theorem E_g5 : ((decide ((3 : Int) > (0 : Int))) = Bool.true) := by first | rfl | trivial | decide | omega
def E_c0 (y : LV) : Bool := BE.ev (LS_R y) (.cm .eq (.v 14) (.k (0)))
def E_h7 : Prop := ((decide ((2 : Int) > (0 : Int))) = Bool.true)
theorem E_g7 : ((decide ((2 : Int) > (0 : Int))) = Bool.true) := by first | rfl | trivial | decide | omega
def E_c1 (y : LV) : Bool := BE.ev (LS_R y) (.cm .eq (.v 13) (.k (0)))
def E_h9 : Prop := ((decide ((1 : Int) > (0 : Int))) = Bool.true)
theorem E_g9 : ((decide ((1 : Int) > (0 : Int))) = Bool.true) := by first | rfl | trivial | decide | omega
def E_c2 (y : LV) : Bool := BE.ev (LS_R y) (.cm .eq (.v 12) (.k (0)))
def E_c3 (y : LV) : Bool := BE.ev (LS_R y) (.cm .eq (.v 17) (.k (0)))
def E_c4 (y : LV) : Bool := BE.ev (LS_R y) (.cm .eq (.v 16) (.k (0)))
def E_c5 (y : LV) : Bool := BE.ev (LS_R y) (.cm .eq (.v 15) (.k (0)))
def E_h14 : Prop := ((decide ((0 : Int) > (0 : Int))) = Bool.false)
theorem E_g14 : ((decide ((0 : Int) > (0 : Int))) = Bool.false) := by first | rfl | trivial | decide | omega
def E_L : List (BE × Bool) := []
def E_E (y : LV) : List Prop := [E_h0, E_h1, E_h2, E_h3, E_h4, E_h5, E_h7, E_h9, E_h14]
def E_T (y : LV) : Nat → Prop := tabP (LS_R y) E_L 0 (E_E y)
theorem E_tT (y : LV) (hpre : E_pre y) : ∀ i, E_T y i := fun i => tabP_ok (E := E_E y) (E_hr y hpre) (by kernel_rfl) (aC E_g0 (aC E_g1 (aC E_g2 (aC E_g3 (aC E_g4 (aC E_g5 (aC E_g7 (aC E_g9 (aC E_g14 (aN)))))))))) i
def E_w0 (y : LV) : Value := .bool Bool.true
def E_r0 (y : LV) : Prop := (cjD (E_T y) 256 ((cjD (E_T y) 256 ((cjD (E_T y) 256 ((cjD (E_T y) 256 ((cjD (E_T y) 256 ((cjD (E_T y) 256 ((cjD (E_T y) 256 True 19 0x5050504050505050502020400020300020100) ∧ (E_c0 y = true)) 9 0x60606030606060606) ∧ (E_c1 y = true)) 9 0x70707010707070707) ∧ (E_c2 y = false)) 19 0x5050504050505050502020400020300020100) ∧ (E_c3 y = true)) 9 0x60606030606060606) ∧ (E_c4 y = true)) 9 0x70707010707070707) ∧ (E_c5 y = true)) 18 0x202020202030201020808080808080808)
theorem E_o0 (y : LV) : (obOf (E_e0 y.a0 y.a1 y.a2 y.b0 y.b1 y.b2 y.z0 y.z1), resOf (E_e0 y.a0 y.a1 y.a2 y.b0 y.b1 y.b2 y.z0 y.z1), cleanOf Tryz.prog.globals.size (E_e0 y.a0 y.a1 y.a2 y.b0 y.b1 y.b2 y.z0 y.z1)) = (E_r0 y, E_w0 y, true) := by kernel_rfl
theorem E_q0 (y : LV) : E_e0 y.a0 y.a1 y.a2 y.b0 y.b1 y.b2 y.z0 y.z1 = evFS Tryz.prog x_E 1000 10 #[.agg #[.int .i8 y.a0, .int .i8 y.a1, .int .i8 y.a2], .agg #[.int .i8 y.b0, .int .i8 y.b1, .int .i8 y.b2], .agg #[.int .i8 y.z0, .int .i8 y.z1]] aw3S0 ⟨E_k0, True⟩ := by
  delta E_e0
  exact Eq.refl _
theorem E_p0 (y : LV) (h : E_r0 y) (w : World) (hh : Holds Tryz.prog aw3S0 w) : Calls Tryz.prog 10 #[.agg #[.int .i8 y.a0, .int .i8 y.a1, .int .i8 y.a2], .agg #[.int .i8 y.b0, .int .i8 y.b1, .int .i8 y.b2], .agg #[.int .i8 y.z0, .int .i8 y.z1]] w fun en w' => en = .returned (E_w0 y) ∧ Below w.heap.size w w' := by
  have h3 := E_o0 y
  have hv : resOf (E_e0 y.a0 y.a1 y.a2 y.b0 y.b1 y.b2 y.z0 y.z1) = E_w0 y := congrArg (fun z => z.2.1) h3
  have hc : cleanOf Tryz.prog.globals.size (E_e0 y.a0 y.a1 y.a2 y.b0 y.b1 y.b2 y.z0 y.z1) = true := congrArg (fun z => z.2.2) h3
  have he := E_q0 y
  have ho : obOf (E_e0 y.a0 y.a1 y.a2 y.b0 y.b1 y.b2 y.z0 y.z1) = E_r0 y := congrArg (fun z => z.1) h3
  clear h3
  generalize E_e0 y.a0 y.a1 y.a2 y.b0 y.b1 y.b2 y.z0 y.z1 = r at *
  exact calls_way he gfol E_X hv rfl (E_args y) hc ho h hh
theorem E_any (y : LV) (hpre : E_pre y) (w : World) (hh : Holds Tryz.prog aw3S0 w) : Calls Tryz.prog 10 #[.agg #[.int .i8 y.a0, .int .i8 y.a1, .int .i8 y.a2], .agg #[.int .i8 y.b0, .int .i8 y.b1, .int .i8 y.b2], .agg #[.int .i8 y.z0, .int .i8 y.z1]] w fun en w' => en = .returned (.bool true) ∧ Below w.heap.size w w' := by
  have hg0 : (E_c0 y = true) := (show E_c0 y = BE.ev (LS_R y) (.cm .eq (.v 14) (.k (0))) by kernel_rfl).trans (beq_iff_eq.2 hpre.2.2.2.2.1)
  have hg1 : (E_c1 y = true) := (show E_c1 y = BE.ev (LS_R y) (.cm .eq (.v 13) (.k (0))) by kernel_rfl).trans (beq_iff_eq.2 hpre.2.2.2.2.2.1)
  have hg2 : (E_c2 y = false) := (show E_c2 y = BE.ev (LS_R y) (.cm .eq (.v 12) (.k (0))) by kernel_rfl).trans (beq_eq_false_iff_ne.2 hpre.2.2.2.2.2.2.1)
  have hg3 : (E_c3 y = true) := (show E_c3 y = BE.ev (LS_R y) (.cm .eq (.v 17) (.k (0))) by kernel_rfl).trans (beq_iff_eq.2 hpre.2.2.2.2.2.2.2.1)
  have hg4 : (E_c4 y = true) := (show E_c4 y = BE.ev (LS_R y) (.cm .eq (.v 16) (.k (0))) by kernel_rfl).trans (beq_iff_eq.2 hpre.2.2.2.2.2.2.2.2.1)
  have hg5 : (E_c5 y = true) := (show E_c5 y = BE.ev (LS_R y) (.cm .eq (.v 15) (.k (0))) by kernel_rfl).trans (beq_iff_eq.2 hpre.2.2.2.2.2.2.2.2.2)
  have hp := E_p0 y (cjD_i (E_tT y hpre) (And.intro (cjD_i (E_tT y hpre) (And.intro (cjD_i (E_tT y hpre) (And.intro (cjD_i (E_tT y hpre) (And.intro (cjD_i (E_tT y hpre) (And.intro (cjD_i (E_tT y hpre) (And.intro (cjD_i (E_tT y hpre) trivial) hg0)) hg1)) hg2)) hg3)) hg4)) hg5)) w hh
  have hv : E_w0 y = (.bool true) := by
    clear hp hh
    unfold E_w0
    rfl
  exact hv ▸ hp
end Go.Proofs.YtbkpnhbcihcgaaaGreatDoor
end
section
set_option linter.all false
set_option maxRecDepth 1000000
set_option maxHeartbeats 2000000
open Go.RowKit
namespace Go.Proofs.YtbkpnhbcihcgaaaGreatDoor
open Mini
def I_at0 (y : Int) : Int := (Int.tmod (IntKind.i64.wrap y) (8 : Int))
abbrev I_pre (y : LV) : Prop := (-128 ≤ y.b0 ∧ y.b0 ≤ 127) ∧ (-128 ≤ y.b1 ∧ y.b1 ≤ 127) ∧ (-128 ≤ y.z0 ∧ y.z0 ≤ 127) ∧ (-128 ≤ y.z1 ∧ y.z1 ≤ 127) ∧ ((I_at0 y.a2) = 0) ∧ ((I_at0 y.a1) ≠ 0) ∧ ((I_at0 y.b2) = 0) ∧ ((I_at0 y.b1) = 0) ∧ ((I_at0 y.b0) = 0)
theorem I_X : FOkS Tryz.prog x_I := bothX_ok (noXS_ok) (tabT_ok (by kernel_rfl) aw3_calls)
theorem I_args (y : LV) : (#[.agg #[.int .i8 y.a0, .int .i8 y.a1, .int .i8 y.a2], .agg #[.int .i8 y.b0, .int .i8 y.b1, .int .i8 y.b2], .agg #[.int .i8 y.z0, .int .i8 y.z1]] : Array Value).toList.all (ground 8) = true := by kernel_rfl
theorem I_hr (y : LV) (hpre : I_pre y) : InR LS_B (LS_R y) := LS_hr y ⟨hpre.1, hpre.2.1, hpre.2.2.1, hpre.2.2.2.1⟩
def I_h0 : Prop := (true = true)
theorem I_g0 : (true = true) := by first | rfl | trivial | decide | omega
def I_h1 : Prop := ((0 : Int) = (0 : Int))
theorem I_g1 : ((0 : Int) = (0 : Int)) := by first | rfl | trivial | decide | omega
def I_h2 : Prop := (false = false)
theorem I_g2 : (false = false) := by first | rfl | trivial | decide | omega
def I_h3 : Prop := ((1 : Int) = (1 : Int))
theorem I_g3 : ((1 : Int) = (1 : Int)) := by first | rfl | trivial | decide | omega
def I_h4 : Prop := ((2 : Int) = (2 : Int))
theorem I_g4 : ((2 : Int) = (2 : Int)) := by first | rfl | trivial | decide | omega
def I_h5 : Prop := ((decide ((3 : Int) > (0 : Int))) = Bool.true)
theorem I_g5 : ((decide ((3 : Int) > (0 : Int))) = Bool.true) := by first | rfl | trivial | decide | omega
def I_c0 (y : LV) : Bool := BE.ev (LS_R y) (.cm .eq (.v 14) (.k (0)))
def I_h7 : Prop := ((decide ((2 : Int) > (0 : Int))) = Bool.true)
theorem I_g7 : ((decide ((2 : Int) > (0 : Int))) = Bool.true) := by first | rfl | trivial | decide | omega
def I_c1 (y : LV) : Bool := BE.ev (LS_R y) (.cm .eq (.v 13) (.k (0)))
def I_c2 (y : LV) : Bool := BE.ev (LS_R y) (.cm .eq (.v 17) (.k (0)))
def I_c3 (y : LV) : Bool := BE.ev (LS_R y) (.cm .eq (.v 16) (.k (0)))
def I_h11 : Prop := ((decide ((1 : Int) > (0 : Int))) = Bool.true)
theorem I_g11 : ((decide ((1 : Int) > (0 : Int))) = Bool.true) := by first | rfl | trivial | decide | omega
def I_c4 (y : LV) : Bool := BE.ev (LS_R y) (.cm .eq (.v 15) (.k (0)))
def I_h13 : Prop := ((decide ((0 : Int) > (0 : Int))) = Bool.false)
theorem I_g13 : ((decide ((0 : Int) > (0 : Int))) = Bool.false) := by first | rfl | trivial | decide | omega
def I_L : List (BE × Bool) := []
def I_E (y : LV) : List Prop := [I_h0, I_h1, I_h2, I_h3, I_h4, I_h5, I_h7, I_h11, I_h13]
def I_T (y : LV) : Nat → Prop := tabP (LS_R y) I_L 0 (I_E y)
theorem I_tT (y : LV) (hpre : I_pre y) : ∀ i, I_T y i := fun i => tabP_ok (E := I_E y) (I_hr y hpre) (by kernel_rfl) (aC I_g0 (aC I_g1 (aC I_g2 (aC I_g3 (aC I_g4 (aC I_g5 (aC I_g7 (aC I_g11 (aC I_g13 (aN)))))))))) i
def I_w0 (y : LV) : Value := .bool Bool.true
def I_r0 (y : LV) : Prop := (cjD (I_T y) 256 ((cjD (I_T y) 256 ((cjD (I_T y) 256 ((cjD (I_T y) 256 ((cjD (I_T y) 256 ((cjD (I_T y) 256 True 19 0x5050504050505050502020400020300020100) ∧ (I_c0 y = true)) 9 0x60606030606060606) ∧ (I_c1 y = false)) 19 0x5050504050505050502020400020300020100) ∧ (I_c2 y = true)) 9 0x60606030606060606) ∧ (I_c3 y = true)) 9 0x70707010707070707) ∧ (I_c4 y = true)) 18 0x202020202030201020808080808080808)
theorem I_o0 (y : LV) : (obOf (I_e0 y.a0 y.a1 y.a2 y.b0 y.b1 y.b2 y.z0 y.z1), resOf (I_e0 y.a0 y.a1 y.a2 y.b0 y.b1 y.b2 y.z0 y.z1), cleanOf Tryz.prog.globals.size (I_e0 y.a0 y.a1 y.a2 y.b0 y.b1 y.b2 y.z0 y.z1)) = (I_r0 y, I_w0 y, true) := by kernel_rfl
theorem I_q0 (y : LV) : I_e0 y.a0 y.a1 y.a2 y.b0 y.b1 y.b2 y.z0 y.z1 = evFS Tryz.prog x_I 1000 10 #[.agg #[.int .i8 y.a0, .int .i8 y.a1, .int .i8 y.a2], .agg #[.int .i8 y.b0, .int .i8 y.b1, .int .i8 y.b2], .agg #[.int .i8 y.z0, .int .i8 y.z1]] aw3S0 ⟨I_k0, True⟩ := by
  delta I_e0
  exact Eq.refl _
theorem I_p0 (y : LV) (h : I_r0 y) (w : World) (hh : Holds Tryz.prog aw3S0 w) : Calls Tryz.prog 10 #[.agg #[.int .i8 y.a0, .int .i8 y.a1, .int .i8 y.a2], .agg #[.int .i8 y.b0, .int .i8 y.b1, .int .i8 y.b2], .agg #[.int .i8 y.z0, .int .i8 y.z1]] w fun en w' => en = .returned (I_w0 y) ∧ Below w.heap.size w w' := by
  have h3 := I_o0 y
  have hv : resOf (I_e0 y.a0 y.a1 y.a2 y.b0 y.b1 y.b2 y.z0 y.z1) = I_w0 y := congrArg (fun z => z.2.1) h3
  have hc : cleanOf Tryz.prog.globals.size (I_e0 y.a0 y.a1 y.a2 y.b0 y.b1 y.b2 y.z0 y.z1) = true := congrArg (fun z => z.2.2) h3
  have he := I_q0 y
  have ho : obOf (I_e0 y.a0 y.a1 y.a2 y.b0 y.b1 y.b2 y.z0 y.z1) = I_r0 y := congrArg (fun z => z.1) h3
  clear h3
  generalize I_e0 y.a0 y.a1 y.a2 y.b0 y.b1 y.b2 y.z0 y.z1 = r at *
  exact calls_way he gfol I_X hv rfl (I_args y) hc ho h hh
theorem I_any (y : LV) (hpre : I_pre y) (w : World) (hh : Holds Tryz.prog aw3S0 w) : Calls Tryz.prog 10 #[.agg #[.int .i8 y.a0, .int .i8 y.a1, .int .i8 y.a2], .agg #[.int .i8 y.b0, .int .i8 y.b1, .int .i8 y.b2], .agg #[.int .i8 y.z0, .int .i8 y.z1]] w fun en w' => en = .returned (.bool true) ∧ Below w.heap.size w w' := by
  have hg0 : (I_c0 y = true) := (show I_c0 y = BE.ev (LS_R y) (.cm .eq (.v 14) (.k (0))) by kernel_rfl).trans (beq_iff_eq.2 hpre.2.2.2.2.1)
  have hg1 : (I_c1 y = false) := (show I_c1 y = BE.ev (LS_R y) (.cm .eq (.v 13) (.k (0))) by kernel_rfl).trans (beq_eq_false_iff_ne.2 hpre.2.2.2.2.2.1)
  have hg2 : (I_c2 y = true) := (show I_c2 y = BE.ev (LS_R y) (.cm .eq (.v 17) (.k (0))) by kernel_rfl).trans (beq_iff_eq.2 hpre.2.2.2.2.2.2.1)
  have hg3 : (I_c3 y = true) := (show I_c3 y = BE.ev (LS_R y) (.cm .eq (.v 16) (.k (0))) by kernel_rfl).trans (beq_iff_eq.2 hpre.2.2.2.2.2.2.2.1)
  have hg4 : (I_c4 y = true) := (show I_c4 y = BE.ev (LS_R y) (.cm .eq (.v 15) (.k (0))) by kernel_rfl).trans (beq_iff_eq.2 hpre.2.2.2.2.2.2.2.2)
  have hp := I_p0 y (cjD_i (I_tT y hpre) (And.intro (cjD_i (I_tT y hpre) (And.intro (cjD_i (I_tT y hpre) (And.intro (cjD_i (I_tT y hpre) (And.intro (cjD_i (I_tT y hpre) (And.intro (cjD_i (I_tT y hpre) trivial) hg0)) hg1)) hg2)) hg3)) hg4)) w hh
  have hv : I_w0 y = (.bool true) := by
    clear hp hh
    unfold I_w0
    rfl
  exact hv ▸ hp
end Go.Proofs.YtbkpnhbcihcgaaaGreatDoor
end
section
set_option linter.all false
set_option maxRecDepth 1000000
set_option maxHeartbeats 2000000
open Go.RowKit
namespace Go.Proofs.YtbkpnhbcihcgaaaGreatDoor
open Mini
def M_at0 (y : Int) : Int := (Int.tmod (IntKind.i64.wrap y) (8 : Int))
abbrev M_pre (y : LV) : Prop := (-128 ≤ y.b0 ∧ y.b0 ≤ 127) ∧ (-128 ≤ y.b1 ∧ y.b1 ≤ 127) ∧ (-128 ≤ y.z0 ∧ y.z0 ≤ 127) ∧ (-128 ≤ y.z1 ∧ y.z1 ≤ 127) ∧ ((M_at0 y.a2) ≠ 0) ∧ ((M_at0 y.b2) = 0) ∧ ((M_at0 y.b1) = 0) ∧ ((M_at0 y.b0) = 0)
theorem M_X : FOkS Tryz.prog x_M := bothX_ok (noXS_ok) (tabT_ok (by kernel_rfl) aw3_calls)
theorem M_args (y : LV) : (#[.agg #[.int .i8 y.a0, .int .i8 y.a1, .int .i8 y.a2], .agg #[.int .i8 y.b0, .int .i8 y.b1, .int .i8 y.b2], .agg #[.int .i8 y.z0, .int .i8 y.z1]] : Array Value).toList.all (ground 8) = true := by kernel_rfl
theorem M_hr (y : LV) (hpre : M_pre y) : InR LS_B (LS_R y) := LS_hr y ⟨hpre.1, hpre.2.1, hpre.2.2.1, hpre.2.2.2.1⟩
def M_h0 : Prop := (true = true)
theorem M_g0 : (true = true) := by first | rfl | trivial | decide | omega
def M_h1 : Prop := ((0 : Int) = (0 : Int))
theorem M_g1 : ((0 : Int) = (0 : Int)) := by first | rfl | trivial | decide | omega
def M_h2 : Prop := (false = false)
theorem M_g2 : (false = false) := by first | rfl | trivial | decide | omega
def M_h3 : Prop := ((1 : Int) = (1 : Int))
theorem M_g3 : ((1 : Int) = (1 : Int)) := by first | rfl | trivial | decide | omega
def M_h4 : Prop := ((2 : Int) = (2 : Int))
theorem M_g4 : ((2 : Int) = (2 : Int)) := by first | rfl | trivial | decide | omega
def M_h5 : Prop := ((decide ((3 : Int) > (0 : Int))) = Bool.true)
theorem M_g5 : ((decide ((3 : Int) > (0 : Int))) = Bool.true) := by first | rfl | trivial | decide | omega
def M_c0 (y : LV) : Bool := BE.ev (LS_R y) (.cm .eq (.v 14) (.k (0)))
def M_c1 (y : LV) : Bool := BE.ev (LS_R y) (.cm .eq (.v 17) (.k (0)))
def M_h8 : Prop := ((decide ((2 : Int) > (0 : Int))) = Bool.true)
theorem M_g8 : ((decide ((2 : Int) > (0 : Int))) = Bool.true) := by first | rfl | trivial | decide | omega
def M_c2 (y : LV) : Bool := BE.ev (LS_R y) (.cm .eq (.v 16) (.k (0)))
def M_h10 : Prop := ((decide ((1 : Int) > (0 : Int))) = Bool.true)
theorem M_g10 : ((decide ((1 : Int) > (0 : Int))) = Bool.true) := by first | rfl | trivial | decide | omega
def M_c3 (y : LV) : Bool := BE.ev (LS_R y) (.cm .eq (.v 15) (.k (0)))
def M_h12 : Prop := ((decide ((0 : Int) > (0 : Int))) = Bool.false)
theorem M_g12 : ((decide ((0 : Int) > (0 : Int))) = Bool.false) := by first | rfl | trivial | decide | omega
def M_L : List (BE × Bool) := []
def M_E (y : LV) : List Prop := [M_h0, M_h1, M_h2, M_h3, M_h4, M_h5, M_h8, M_h10, M_h12]
def M_T (y : LV) : Nat → Prop := tabP (LS_R y) M_L 0 (M_E y)
theorem M_tT (y : LV) (hpre : M_pre y) : ∀ i, M_T y i := fun i => tabP_ok (E := M_E y) (M_hr y hpre) (by kernel_rfl) (aC M_g0 (aC M_g1 (aC M_g2 (aC M_g3 (aC M_g4 (aC M_g5 (aC M_g8 (aC M_g10 (aC M_g12 (aN)))))))))) i
def M_w0 (y : LV) : Value := .bool Bool.true
def M_r0 (y : LV) : Prop := (cjD (M_T y) 256 ((cjD (M_T y) 256 ((cjD (M_T y) 256 ((cjD (M_T y) 256 ((cjD (M_T y) 256 True 19 0x5050504050505050502020400020300020100) ∧ (M_c0 y = false)) 19 0x5050504050505050502020400020300020100) ∧ (M_c1 y = true)) 9 0x60606030606060606) ∧ (M_c2 y = true)) 9 0x70707010707070707) ∧ (M_c3 y = true)) 18 0x202020202030201020808080808080808)
theorem M_o0 (y : LV) : (obOf (M_e0 y.a0 y.a1 y.a2 y.b0 y.b1 y.b2 y.z0 y.z1), resOf (M_e0 y.a0 y.a1 y.a2 y.b0 y.b1 y.b2 y.z0 y.z1), cleanOf Tryz.prog.globals.size (M_e0 y.a0 y.a1 y.a2 y.b0 y.b1 y.b2 y.z0 y.z1)) = (M_r0 y, M_w0 y, true) := by kernel_rfl
theorem M_q0 (y : LV) : M_e0 y.a0 y.a1 y.a2 y.b0 y.b1 y.b2 y.z0 y.z1 = evFS Tryz.prog x_M 1000 10 #[.agg #[.int .i8 y.a0, .int .i8 y.a1, .int .i8 y.a2], .agg #[.int .i8 y.b0, .int .i8 y.b1, .int .i8 y.b2], .agg #[.int .i8 y.z0, .int .i8 y.z1]] aw3S0 ⟨M_k0, True⟩ := by
  delta M_e0
  exact Eq.refl _
theorem M_p0 (y : LV) (h : M_r0 y) (w : World) (hh : Holds Tryz.prog aw3S0 w) : Calls Tryz.prog 10 #[.agg #[.int .i8 y.a0, .int .i8 y.a1, .int .i8 y.a2], .agg #[.int .i8 y.b0, .int .i8 y.b1, .int .i8 y.b2], .agg #[.int .i8 y.z0, .int .i8 y.z1]] w fun en w' => en = .returned (M_w0 y) ∧ Below w.heap.size w w' := by
  have h3 := M_o0 y
  have hv : resOf (M_e0 y.a0 y.a1 y.a2 y.b0 y.b1 y.b2 y.z0 y.z1) = M_w0 y := congrArg (fun z => z.2.1) h3
  have hc : cleanOf Tryz.prog.globals.size (M_e0 y.a0 y.a1 y.a2 y.b0 y.b1 y.b2 y.z0 y.z1) = true := congrArg (fun z => z.2.2) h3
  have he := M_q0 y
  have ho : obOf (M_e0 y.a0 y.a1 y.a2 y.b0 y.b1 y.b2 y.z0 y.z1) = M_r0 y := congrArg (fun z => z.1) h3
  clear h3
  generalize M_e0 y.a0 y.a1 y.a2 y.b0 y.b1 y.b2 y.z0 y.z1 = r at *
  exact calls_way he gfol M_X hv rfl (M_args y) hc ho h hh
theorem M_any (y : LV) (hpre : M_pre y) (w : World) (hh : Holds Tryz.prog aw3S0 w) : Calls Tryz.prog 10 #[.agg #[.int .i8 y.a0, .int .i8 y.a1, .int .i8 y.a2], .agg #[.int .i8 y.b0, .int .i8 y.b1, .int .i8 y.b2], .agg #[.int .i8 y.z0, .int .i8 y.z1]] w fun en w' => en = .returned (.bool true) ∧ Below w.heap.size w w' := by
  have hg0 : (M_c0 y = false) := (show M_c0 y = BE.ev (LS_R y) (.cm .eq (.v 14) (.k (0))) by kernel_rfl).trans (beq_eq_false_iff_ne.2 hpre.2.2.2.2.1)
  have hg1 : (M_c1 y = true) := (show M_c1 y = BE.ev (LS_R y) (.cm .eq (.v 17) (.k (0))) by kernel_rfl).trans (beq_iff_eq.2 hpre.2.2.2.2.2.1)
  have hg2 : (M_c2 y = true) := (show M_c2 y = BE.ev (LS_R y) (.cm .eq (.v 16) (.k (0))) by kernel_rfl).trans (beq_iff_eq.2 hpre.2.2.2.2.2.2.1)
  have hg3 : (M_c3 y = true) := (show M_c3 y = BE.ev (LS_R y) (.cm .eq (.v 15) (.k (0))) by kernel_rfl).trans (beq_iff_eq.2 hpre.2.2.2.2.2.2.2)
  have hp := M_p0 y (cjD_i (M_tT y hpre) (And.intro (cjD_i (M_tT y hpre) (And.intro (cjD_i (M_tT y hpre) (And.intro (cjD_i (M_tT y hpre) (And.intro (cjD_i (M_tT y hpre) trivial) hg0)) hg1)) hg2)) hg3)) w hh
  have hv : M_w0 y = (.bool true) := by
    clear hp hh
    unfold M_w0
    rfl
  exact hv ▸ hp
end Go.Proofs.YtbkpnhbcihcgaaaGreatDoor
end
