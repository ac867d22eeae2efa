/-
  The contract of bipole.bipolelaw03.LoopWhole.
  The contract of bipole.bipolelaw03.LoopWhole.
  The contract of bipole.bipolelaw03.LoopWhole.
  The contract of bipole.bipolelaw03.LoopWhole.
  The whole.
-/
import Derived.Test.YtencngffhbhifaaGreatDoorGLW3
import Derived.Test.YtencngffhbhifaaGreatDoorGLW4
import Derived.Test.YtencngffhbhifaaGreatDoorGLW5
import Derived.Test.YtencngffhbhifaaGreatDoorGLW6
import Derived.Test.YtencngffhbhifaaGreatDoorGLW7
import Derived.Test.YtencngffhbhifaaGreatDoorGLW8
import Derived.Test.YtencngffhbhifaaGreatDoorGLW9
import Derived.Test.YtencngffhbhifaaGreatDoorGLW10
import Derived.Test.YtencngffhbhifaaGreatDoorGLW2
section
set_option linter.all false
set_option maxRecDepth 1000000
open Go.RowKit
namespace Go.Proofs.YtencngffhbhifaaGreatDoor
open Mini
theorem aw3X0 : FOk Tryz.prog (joinX 88) := joinX_ok fun bk o c xs sep w h1 h2 h3 h4 h5 => Tryz.strings_Join bk o c xs sep w h1 h2 h3 h4 h5
theorem aw3X : FOk Tryz.prog (joinX 88) := aw3X0
theorem aw3m : Tryz.prog.follows .mixedOrders = true := by kernel_rfl
theorem aw3g24 : SndC Tryz.prog none (dropS 24 aw3B) aw3A24.act aw3S24 .ret aw3A25.act aw3S25 aw3R24 aw3W24 := chain_last aw3m aw3X aw3c24
theorem aw3g23 : SndC Tryz.prog none (dropS 23 aw3B) aw3A23.act aw3S23 .ret aw3A25.act aw3S25 aw3RR23 aw3WW23 := by
  have h := chain_step aw3m aw3X (by kernel_rfl) aw3c23 aw3g24
  rwa [show aw3R23 ||| aw3R24 = aw3RR23 from by decide +kernel, show aw3W23 ||| aw3W24 = aw3WW23 from by decide +kernel] at h
theorem aw3g22 : SndC Tryz.prog none (dropS 22 aw3B) aw3A22.act aw3S22 .ret aw3A25.act aw3S25 aw3RR22 aw3WW22 := by
  have h := chain_step aw3m aw3X (by kernel_rfl) aw3c22 aw3g23
  rwa [show aw3R22 ||| aw3RR23 = aw3RR22 from by decide +kernel, show aw3W22 ||| aw3WW23 = aw3WW22 from by decide +kernel] at h
theorem aw3g21 : SndC Tryz.prog none (dropS 21 aw3B) aw3A21.act aw3S21 .ret aw3A25.act aw3S25 aw3RR21 aw3WW21 := by
  have h := chain_step aw3m aw3X (by kernel_rfl) aw3c21 aw3g22
  rwa [show aw3R21 ||| aw3RR22 = aw3RR21 from by decide +kernel, show aw3W21 ||| aw3WW22 = aw3WW21 from by decide +kernel] at h
theorem aw3g20 : SndC Tryz.prog none (dropS 20 aw3B) aw3A20.act aw3S20 .ret aw3A25.act aw3S25 aw3RR20 aw3WW20 := by
  have h := chain_step aw3m aw3X (by kernel_rfl) aw3c20 aw3g21
  rwa [show aw3R20 ||| aw3RR21 = aw3RR20 from by decide +kernel, show aw3W20 ||| aw3WW21 = aw3WW20 from by decide +kernel] at h
theorem aw3g19 : SndC Tryz.prog none (dropS 19 aw3B) aw3A19.act aw3S19 .ret aw3A25.act aw3S25 aw3RR19 aw3WW19 := by
  have h := chain_step aw3m aw3X (by kernel_rfl) aw3c19 aw3g20
  rwa [show aw3R19 ||| aw3RR20 = aw3RR19 from by decide +kernel, show aw3W19 ||| aw3WW20 = aw3WW19 from by decide +kernel] at h
theorem aw3g18 : SndC Tryz.prog none (dropS 18 aw3B) aw3A18.act aw3S18 .ret aw3A25.act aw3S25 aw3RR18 aw3WW18 := by
  have h := chain_step aw3m aw3X (by kernel_rfl) aw3c18 aw3g19
  rwa [show aw3R18 ||| aw3RR19 = aw3RR18 from by decide +kernel, show aw3W18 ||| aw3WW19 = aw3WW18 from by decide +kernel] at h
theorem aw3g17 : SndC Tryz.prog none (dropS 17 aw3B) aw3A17.act aw3S17 .ret aw3A25.act aw3S25 aw3RR17 aw3WW17 := by
  have h := chain_step aw3m aw3X (by kernel_rfl) aw3c17 aw3g18
  rwa [show aw3R17 ||| aw3RR18 = aw3RR17 from by decide +kernel, show aw3W17 ||| aw3WW18 = aw3WW17 from by decide +kernel] at h
theorem aw3g16 : SndC Tryz.prog none (dropS 16 aw3B) aw3A16.act aw3S16 .ret aw3A25.act aw3S25 aw3RR16 aw3WW16 := by
  have h := chain_step aw3m aw3X (by kernel_rfl) aw3c16 aw3g17
  rwa [show aw3R16 ||| aw3RR17 = aw3RR16 from by decide +kernel, show aw3W16 ||| aw3WW17 = aw3WW16 from by decide +kernel] at h
theorem aw3g15 : SndC Tryz.prog none (dropS 15 aw3B) aw3A15.act aw3S15 .ret aw3A25.act aw3S25 aw3RR15 aw3WW15 := by
  have h := chain_step aw3m aw3X (by kernel_rfl) aw3c15 aw3g16
  rwa [show aw3R15 ||| aw3RR16 = aw3RR15 from by decide +kernel, show aw3W15 ||| aw3WW16 = aw3WW15 from by decide +kernel] at h
theorem aw3g14 : SndC Tryz.prog none (dropS 14 aw3B) aw3A14.act aw3S14 .ret aw3A25.act aw3S25 aw3RR14 aw3WW14 := by
  have h := chain_step aw3m aw3X (by kernel_rfl) aw3c14 aw3g15
  rwa [show aw3R14 ||| aw3RR15 = aw3RR14 from by decide +kernel, show aw3W14 ||| aw3WW15 = aw3WW14 from by decide +kernel] at h
theorem aw3g13 : SndC Tryz.prog none (dropS 13 aw3B) aw3A13.act aw3S13 .ret aw3A25.act aw3S25 aw3RR13 aw3WW13 := by
  have h := chain_step aw3m aw3X (by kernel_rfl) aw3c13 aw3g14
  rwa [show aw3R13 ||| aw3RR14 = aw3RR13 from by decide +kernel, show aw3W13 ||| aw3WW14 = aw3WW13 from by decide +kernel] at h
theorem aw3g12 : SndC Tryz.prog none (dropS 12 aw3B) aw3A12.act aw3S12 .ret aw3A25.act aw3S25 aw3RR12 aw3WW12 := by
  have h := chain_step aw3m aw3X (by kernel_rfl) aw3c12 aw3g13
  rwa [show aw3R12 ||| aw3RR13 = aw3RR12 from by decide +kernel, show aw3W12 ||| aw3WW13 = aw3WW12 from by decide +kernel] at h
theorem aw3g11 : SndC Tryz.prog none (dropS 11 aw3B) aw3A11.act aw3S11 .ret aw3A25.act aw3S25 aw3RR11 aw3WW11 := by
  have h := chain_step aw3m aw3X (by kernel_rfl) aw3c11 aw3g12
  rwa [show aw3R11 ||| aw3RR12 = aw3RR11 from by decide +kernel, show aw3W11 ||| aw3WW12 = aw3WW11 from by decide +kernel] at h
theorem aw3g10 : SndC Tryz.prog none (dropS 10 aw3B) aw3A10.act aw3S10 .ret aw3A25.act aw3S25 aw3RR10 aw3WW10 := by
  have h := chain_step aw3m aw3X (by kernel_rfl) aw3c10 aw3g11
  rwa [show aw3R10 ||| aw3RR11 = aw3RR10 from by decide +kernel, show aw3W10 ||| aw3WW11 = aw3WW10 from by decide +kernel] at h
theorem aw3g9 : SndC Tryz.prog none (dropS 9 aw3B) aw3A9.act aw3S9 .ret aw3A25.act aw3S25 aw3RR9 aw3WW9 := by
  have h := chain_step aw3m aw3X (by kernel_rfl) aw3c9 aw3g10
  rwa [show aw3R9 ||| aw3RR10 = aw3RR9 from by decide +kernel, show aw3W9 ||| aw3WW10 = aw3WW9 from by decide +kernel] at h
theorem aw3g8 : SndC Tryz.prog none (dropS 8 aw3B) aw3A8.act aw3S8 .ret aw3A25.act aw3S25 aw3RR8 aw3WW8 := by
  have h := chain_step aw3m aw3X (by kernel_rfl) aw3c8 aw3g9
  rwa [show aw3R8 ||| aw3RR9 = aw3RR8 from by decide +kernel, show aw3W8 ||| aw3WW9 = aw3WW8 from by decide +kernel] at h
theorem aw3g7 : SndC Tryz.prog none (dropS 7 aw3B) aw3A7.act aw3S7 .ret aw3A25.act aw3S25 aw3RR7 aw3WW7 := by
  have h := chain_step aw3m aw3X (by kernel_rfl) aw3c7 aw3g8
  rwa [show aw3R7 ||| aw3RR8 = aw3RR7 from by decide +kernel, show aw3W7 ||| aw3WW8 = aw3WW7 from by decide +kernel] at h
theorem aw3g6 : SndC Tryz.prog none (dropS 6 aw3B) aw3A6.act aw3S6 .ret aw3A25.act aw3S25 aw3RR6 aw3WW6 := by
  have h := chain_step aw3m aw3X (by kernel_rfl) aw3c6 aw3g7
  rwa [show aw3R6 ||| aw3RR7 = aw3RR6 from by decide +kernel, show aw3W6 ||| aw3WW7 = aw3WW6 from by decide +kernel] at h
theorem aw3g5 : SndC Tryz.prog none (dropS 5 aw3B) aw3A5.act aw3S5 .ret aw3A25.act aw3S25 aw3RR5 aw3WW5 := by
  have h := chain_step aw3m aw3X (by kernel_rfl) aw3c5 aw3g6
  rwa [show aw3R5 ||| aw3RR6 = aw3RR5 from by decide +kernel, show aw3W5 ||| aw3WW6 = aw3WW5 from by decide +kernel] at h
theorem aw3g4 : SndC Tryz.prog none (dropS 4 aw3B) aw3A4.act aw3S4 .ret aw3A25.act aw3S25 aw3RR4 aw3WW4 := by
  have h := chain_step aw3m aw3X (by kernel_rfl) aw3c4 aw3g5
  rwa [show aw3R4 ||| aw3RR5 = aw3RR4 from by decide +kernel, show aw3W4 ||| aw3WW5 = aw3WW4 from by decide +kernel] at h
theorem aw3g3 : SndC Tryz.prog none (dropS 3 aw3B) aw3A3.act aw3S3 .ret aw3A25.act aw3S25 aw3RR3 aw3WW3 := by
  have h := chain_step aw3m aw3X (by kernel_rfl) aw3c3 aw3g4
  rwa [show aw3R3 ||| aw3RR4 = aw3RR3 from by decide +kernel, show aw3W3 ||| aw3WW4 = aw3WW3 from by decide +kernel] at h
theorem aw3g2 : SndC Tryz.prog none (dropS 2 aw3B) aw3A2.act aw3S2 .ret aw3A25.act aw3S25 aw3RR2 aw3WW2 := by
  have h := chain_step aw3m aw3X (by kernel_rfl) aw3c2 aw3g3
  rwa [show aw3R2 ||| aw3RR3 = aw3RR2 from by decide +kernel, show aw3W2 ||| aw3WW3 = aw3WW2 from by decide +kernel] at h
theorem aw3g1 : SndC Tryz.prog none (dropS 1 aw3B) aw3A1.act aw3S1 .ret aw3A25.act aw3S25 aw3RR1 aw3WW1 := by
  have h := chain_step aw3m aw3X (by kernel_rfl) aw3c1 aw3g2
  rwa [show aw3R1 ||| aw3RR2 = aw3RR1 from by decide +kernel, show aw3W1 ||| aw3WW2 = aw3WW1 from by decide +kernel] at h
theorem aw3g0 : SndC Tryz.prog none (dropS 0 aw3B) aw3A0.act aw3S0 .ret aw3A25.act aw3S25 aw3RR0 aw3WW0 := by
  have h := chain_step aw3m aw3X (by kernel_rfl) aw3c0 aw3g1
  rwa [show aw3R0 ||| aw3RR1 = aw3RR0 from by decide +kernel, show aw3W0 ||| aw3WW1 = aw3WW0 from by decide +kernel] at h
theorem aw3f : SndF Tryz.prog 4 #[] aw3S0 (.bool true) aw3S25 (aw3RR0 ||| 0) aw3WW0 :=
  sndF_of (vs := [.bool true]) Tryz.func4 (show _ = some aw3B by kernel_rfl) (.inr rfl) (by kernel_rfl) (show SndC Tryz.prog none aw3B (startA Tryz.f4 #[]) aw3S0 .ret aw3A25.act aw3S25 aw3RR0 aw3WW0 from ((startM_act _ _).symm.trans (congrArg MA.act (show startM Tryz.f4 #[] = aw3A0 by kernel_rfl))) ▸ aw3g0) (by kernel_rfl)
theorem aw3_calls (w : World) (h : Holds Tryz.prog aw3S0 w) : Calls Tryz.prog 4 #[] w fun e w' => e = .returned (.bool true) ∧ Below w.heap.size w w' :=
  calls_of aw3f (by kernel_rfl) (by kernel_rfl) (fun b hb => by
    have hb : b < Tryz.prog.globals.size := hb
    rw [show Tryz.prog.globals.size = 6 by kernel_rfl] at hb
    revert b; decide +kernel) h
end Go.Proofs.YtencngffhbhifaaGreatDoor
end
section
set_option linter.all false
set_option maxRecDepth 1000000
set_option maxHeartbeats 2000000
open Go.RowKit
namespace Go.Proofs.YtencngffhbhifaaGreatDoor
open Mini
def lw1f_at0 (y : Int) : Int := (Int.tmod (IntKind.i64.wrap y) (101 : Int))
def lw1f_at1 (y : Int) : Int := (Int.tmod (IntKind.i64.wrap y) (1001 : Int))
def lw1f_q0 : IE := .ite .gt (.k (-1)) (.k (1)) (.k (-1)) (.k (1))
def lw1f_q1 : IE := .wr (.sub (.k (0)) (.wr (.mul (.v 5) (.k (1)))))
def lw1f_q2 : IE := .wr (.add (.k (0)) (.wr (.mul lw1f_q1 (.wr (.mul (.v 6) (.k (1)))))))
def lw1f_q3 : IE := .wr (.add (.k (0)) (.wr (.mul lw1f_q1 lw1f_q2)))
def lw1f_q4 : IE := .wr (.add (.k (0)) (.wr (.mul lw1f_q1 lw1f_q3)))
def lw1f_q5 : IE := .wr (.add (.k (0)) (.wr (.mul lw1f_q1 lw1f_q4)))
def lw1f_q6 : IE := .wr (.add (.k (0)) (.wr (.mul lw1f_q1 lw1f_q5)))
def lw1f_q7 : IE := .wr (.add (.k (0)) (.wr (.mul lw1f_q1 lw1f_q6)))
def lw1f_q8 : BE := .cm .ge (.ite .gt (.sub (.k (0)) (.v 0)) (.v 0) (.sub (.k (0)) (.v 0)) (.v 0)) (.k (1))
def lw1f_q9 : BE := .not (.beq (.not .t) (.cm .eq (.v 0) (.k (0))))
def lw1f_q10 : BE := .cm .ge (.ite .gt (.wr (.sub (.k (0)) (.v 0))) (.v 0) (.wr (.sub (.k (0)) (.v 0))) (.v 0)) lw1f_q0
def lw1f_q11 : BE := .not (.beq (.not (.cm .ge (.k (0)) (.k (0)))) (.cm .eq (.v 0) (.k (0))))
def lw1f_q12 : BE := .or (.not (.not lw1f_q10)) (.and (.cm .le (.k (0)) (.v 0)) (.cm .le (.v 0) (.k (0))))
def lw1f_q13 : IE := .wr (.sub (.k (0)) (.wr (.mul (.v 0) (.k (1)))))
def lw1f_q14 : IE := .wr (.add (.k (0)) (.wr (.mul lw1f_q13 (.wr (.mul (.v 1) (.k (1)))))))
def lw1f_q15 : IE := .wr (.add (.k (0)) (.wr (.mul lw1f_q13 lw1f_q14)))
def lw1f_q16 : IE := .wr (.add (.k (0)) (.wr (.mul lw1f_q13 lw1f_q15)))
def lw1f_q17 : IE := .wr (.add (.k (0)) (.wr (.mul lw1f_q13 lw1f_q16)))
def lw1f_q18 : IE := .wr (.add (.k (0)) (.wr (.mul lw1f_q13 lw1f_q17)))
def lw1f_q19 : IE := .wr (.add (.k (0)) (.wr (.mul lw1f_q13 lw1f_q18)))

theorem lw1f_X : FOkS Tryz.prog x_lw1f := bothX_ok (noXS_ok) (tabT_ok (by kernel_rfl) aw3_calls)
theorem lw1f_rg5 (x0 f0 f1 f2 f3 : Int) (hpre : True) : Rg.has (-100, 100) (lw1f_at0 x0) := by
  have h := IE.rng_ok (β := [(-9223372036854775808, 9223372036854775807)]) (ρ := [(IntKind.i64.wrap x0)]) ⟨wrR _, trivial⟩ (e := (.md (.v 0) 101)) (by kernel_rfl)
  rw [show IE.rng [(-9223372036854775808, 9223372036854775807)] (.md (.v 0) 101) = (-100, 100) from by kernel_rfl] at h
  exact h
theorem lw1f_rg6 (x0 f0 f1 f2 f3 : Int) (hpre : True) : Rg.has (-1000, 1000) (lw1f_at1 f0) := by
  have h := IE.rng_ok (β := [(-9223372036854775808, 9223372036854775807)]) (ρ := [(IntKind.i64.wrap f0)]) ⟨wrR _, trivial⟩ (e := (.md (.v 0) 1001)) (by kernel_rfl)
  rw [show IE.rng [(-9223372036854775808, 9223372036854775807)] (.md (.v 0) 1001) = (-1000, 1000) from by kernel_rfl] at h
  exact h
theorem lw1f_rg7 (x0 f0 f1 f2 f3 : Int) (hpre : True) : Rg.has (-1000, 1000) (lw1f_at1 f1) := by
  have h := IE.rng_ok (β := [(-9223372036854775808, 9223372036854775807)]) (ρ := [(IntKind.i64.wrap f1)]) ⟨wrR _, trivial⟩ (e := (.md (.v 0) 1001)) (by kernel_rfl)
  rw [show IE.rng [(-9223372036854775808, 9223372036854775807)] (.md (.v 0) 1001) = (-1000, 1000) from by kernel_rfl] at h
  exact h
theorem lw1f_rg8 (x0 f0 f1 f2 f3 : Int) (hpre : True) : Rg.has (-1000, 1000) (lw1f_at1 f2) := by
  have h := IE.rng_ok (β := [(-9223372036854775808, 9223372036854775807)]) (ρ := [(IntKind.i64.wrap f2)]) ⟨wrR _, trivial⟩ (e := (.md (.v 0) 1001)) (by kernel_rfl)
  rw [show IE.rng [(-9223372036854775808, 9223372036854775807)] (.md (.v 0) 1001) = (-1000, 1000) from by kernel_rfl] at h
  exact h
theorem lw1f_rg9 (x0 f0 f1 f2 f3 : Int) (hpre : True) : Rg.has (-1000, 1000) (lw1f_at1 f3) := by
  have h := IE.rng_ok (β := [(-9223372036854775808, 9223372036854775807)]) (ρ := [(IntKind.i64.wrap f3)]) ⟨wrR _, trivial⟩ (e := (.md (.v 0) 1001)) (by kernel_rfl)
  rw [show IE.rng [(-9223372036854775808, 9223372036854775807)] (.md (.v 0) 1001) = (-1000, 1000) from by kernel_rfl] at h
  exact h
def lw1f_R (x0 f0 f1 f2 f3 : Int) : List Int := [(IntKind.i64.wrap x0), (IntKind.i64.wrap f0), (IntKind.i64.wrap f1), (IntKind.i64.wrap f2), (IntKind.i64.wrap f3), (lw1f_at0 x0), (lw1f_at1 f0), (lw1f_at1 f1), (lw1f_at1 f2), (lw1f_at1 f3)]
def lw1f_B : List Rg := [(-9223372036854775808, 9223372036854775807), (-9223372036854775808, 9223372036854775807), (-9223372036854775808, 9223372036854775807), (-9223372036854775808, 9223372036854775807), (-9223372036854775808, 9223372036854775807), (-100, 100), (-1000, 1000), (-1000, 1000), (-1000, 1000), (-1000, 1000)]
theorem lw1f_hr (x0 f0 f1 f2 f3 : Int) (hpre : True) : InR lw1f_B (lw1f_R x0 f0 f1 f2 f3) := ⟨wrR _, ⟨wrR _, ⟨wrR _, ⟨wrR _, ⟨wrR _, ⟨lw1f_rg5 x0 f0 f1 f2 f3 hpre, ⟨lw1f_rg6 x0 f0 f1 f2 f3 hpre, ⟨lw1f_rg7 x0 f0 f1 f2 f3 hpre, ⟨lw1f_rg8 x0 f0 f1 f2 f3 hpre, ⟨lw1f_rg9 x0 f0 f1 f2 f3 hpre, trivial⟩⟩⟩⟩⟩⟩⟩⟩⟩⟩
def lw1f_h0 : Prop := (false = false)
theorem lw1f_g0 : (false = false) := by first | rfl | trivial | decide | omega
def lw1f_h1 : Prop := ((decide ((1 : Int) > (4 : Int))) = Bool.false)
theorem lw1f_g1 : ((decide ((1 : Int) > (4 : Int))) = Bool.false) := by first | rfl | trivial | decide | omega
def lw1f_h2 : Prop := (true = true)
theorem lw1f_g2 : (true = true) := by first | rfl | trivial | decide | omega
def lw1f_h3 : Prop := ((0 : Int) = (0 : Int))
theorem lw1f_g3 : ((0 : Int) = (0 : Int)) := by first | rfl | trivial | decide | omega
def lw1f_h4 : Prop := ((decide ((2 : Int) > (5 : Int))) = Bool.false)
theorem lw1f_g4 : ((decide ((2 : Int) > (5 : Int))) = Bool.false) := by first | rfl | trivial | decide | omega
def lw1f_c0 (x0 f0 f1 f2 f3 : Int) : Bool := BE.ev (lw1f_R x0 f0 f1 f2 f3) (.cm .lt (.v 5) (.k (-100)))
def lw1f_c1 (x0 f0 f1 f2 f3 : Int) : Bool := BE.ev (lw1f_R x0 f0 f1 f2 f3) (.cm .gt (.v 5) (.k (100)))
def lw1f_h7 : Prop := ((1 : Int) = (1 : Int))
theorem lw1f_g7 : ((1 : Int) = (1 : Int)) := by first | rfl | trivial | decide | omega
def lw1f_h8 : Prop := ((decide ((1 : Int) > (100 : Int))) = Bool.false)
theorem lw1f_g8 : ((decide ((1 : Int) > (100 : Int))) = Bool.false) := by first | rfl | trivial | decide | omega
def lw1f_h9 : Prop := ((Bool.false != Bool.false) = Bool.false)
theorem lw1f_g9 : ((Bool.false != Bool.false) = Bool.false) := by first | rfl | trivial | decide | omega
def lw1f_h10 : Prop := ((decide ((2 : Int) > (2 : Int))) = Bool.false)
theorem lw1f_g10 : ((decide ((2 : Int) > (2 : Int))) = Bool.false) := by first | rfl | trivial | decide | omega
def lw1f_c2 (x0 f0 f1 f2 f3 : Int) : Bool := BE.ev (lw1f_R x0 f0 f1 f2 f3) (.cm .ge (.ite .gt (.wr (.sub (.k (0)) (.v 5))) (.v 5) (.wr (.sub (.k (0)) (.v 5))) (.v 5)) lw1f_q0)
def lw1f_c3 (x0 f0 f1 f2 f3 : Int) : Bool := BE.ev (lw1f_R x0 f0 f1 f2 f3) (.not (.beq (.not (.cm .ge (.k (0)) (.k (0)))) (.cm .eq (.v 5) (.k (0)))))
def lw1f_c4 (x0 f0 f1 f2 f3 : Int) : Bool := BE.ev (lw1f_R x0 f0 f1 f2 f3) (.not (.cm .eq (.v 5) (.k (0))))
def lw1f_c5 (x0 f0 f1 f2 f3 : Int) : Bool := BE.ev (lw1f_R x0 f0 f1 f2 f3) (.not (.beq (.not (.cm .ge (.k (-1)) (.k (0)))) (.cm .eq (.v 5) (.k (0)))))
def lw1f_c6 (x0 f0 f1 f2 f3 : Int) : Bool := BE.ev (lw1f_R x0 f0 f1 f2 f3) (.cm .lt (.v 6) (.k (-1000)))
def lw1f_c7 (x0 f0 f1 f2 f3 : Int) : Bool := BE.ev (lw1f_R x0 f0 f1 f2 f3) (.cm .gt (.v 6) (.k (1000)))
def lw1f_h19 : Prop := ((decide ((6 : Int) > (24 : Int))) = Bool.false)
theorem lw1f_g19 : ((decide ((6 : Int) > (24 : Int))) = Bool.false) := by first | rfl | trivial | decide | omega
def lw1f_h20 : Prop := ((2 : Int) = (2 : Int))
theorem lw1f_g20 : ((2 : Int) = (2 : Int)) := by first | rfl | trivial | decide | omega
def lw1f_c8 (x0 f0 f1 f2 f3 : Int) : Bool := BE.ev (lw1f_R x0 f0 f1 f2 f3) (.cm .lt lw1f_q2 (.k (-1073741824)))
def lw1f_c9 (x0 f0 f1 f2 f3 : Int) : Bool := BE.ev (lw1f_R x0 f0 f1 f2 f3) (.cm .gt lw1f_q2 (.k (1073741824)))
def lw1f_c10 (x0 f0 f1 f2 f3 : Int) : Bool := BE.ev (lw1f_R x0 f0 f1 f2 f3) (.cm .lt lw1f_q3 (.k (-1073741824)))
def lw1f_c11 (x0 f0 f1 f2 f3 : Int) : Bool := BE.ev (lw1f_R x0 f0 f1 f2 f3) (.cm .gt lw1f_q3 (.k (1073741824)))
def lw1f_c12 (x0 f0 f1 f2 f3 : Int) : Bool := BE.ev (lw1f_R x0 f0 f1 f2 f3) (.cm .lt lw1f_q4 (.k (-1073741824)))
def lw1f_c13 (x0 f0 f1 f2 f3 : Int) : Bool := BE.ev (lw1f_R x0 f0 f1 f2 f3) (.cm .gt lw1f_q4 (.k (1073741824)))
def lw1f_h27 : Prop := ((3 : Int) = (3 : Int))
theorem lw1f_g27 : ((3 : Int) = (3 : Int)) := by first | rfl | trivial | decide | omega
def lw1f_c14 (x0 f0 f1 f2 f3 : Int) : Bool := BE.ev (lw1f_R x0 f0 f1 f2 f3) (.cm .lt lw1f_q5 (.k (-1073741824)))
def lw1f_c15 (x0 f0 f1 f2 f3 : Int) : Bool := BE.ev (lw1f_R x0 f0 f1 f2 f3) (.cm .gt lw1f_q5 (.k (1073741824)))
def lw1f_h30 : Prop := ((4 : Int) = (4 : Int))
theorem lw1f_g30 : ((4 : Int) = (4 : Int)) := by first | rfl | trivial | decide | omega
def lw1f_c16 (x0 f0 f1 f2 f3 : Int) : Bool := BE.ev (lw1f_R x0 f0 f1 f2 f3) (.cm .lt lw1f_q6 (.k (-1073741824)))
def lw1f_c17 (x0 f0 f1 f2 f3 : Int) : Bool := BE.ev (lw1f_R x0 f0 f1 f2 f3) (.cm .gt lw1f_q6 (.k (1073741824)))
def lw1f_h33 : Prop := ((5 : Int) = (5 : Int))
theorem lw1f_g33 : ((5 : Int) = (5 : Int)) := by first | rfl | trivial | decide | omega
def lw1f_c18 (x0 f0 f1 f2 f3 : Int) : Bool := BE.ev (lw1f_R x0 f0 f1 f2 f3) (.cm .lt lw1f_q7 (.k (-1073741824)))
def lw1f_c19 (x0 f0 f1 f2 f3 : Int) : Bool := BE.ev (lw1f_R x0 f0 f1 f2 f3) (.cm .gt lw1f_q7 (.k (1073741824)))
def lw1f_c20 (x0 f0 f1 f2 f3 : Int) : Bool := BE.ev (lw1f_R x0 f0 f1 f2 f3) (.cm .ne lw1f_q2 (.k (0)))
def lw1f_c21 (x0 f0 f1 f2 f3 : Int) : Bool := BE.ev (lw1f_R x0 f0 f1 f2 f3) (.cm .ne lw1f_q3 (.k (0)))
def lw1f_c22 (x0 f0 f1 f2 f3 : Int) : Bool := BE.ev (lw1f_R x0 f0 f1 f2 f3) (.cm .ne lw1f_q4 (.k (0)))
def lw1f_c23 (x0 f0 f1 f2 f3 : Int) : Bool := BE.ev (lw1f_R x0 f0 f1 f2 f3) (.cm .ne lw1f_q5 (.k (0)))
def lw1f_c24 (x0 f0 f1 f2 f3 : Int) : Bool := BE.ev (lw1f_R x0 f0 f1 f2 f3) (.cm .ne lw1f_q6 (.k (0)))
def lw1f_c25 (x0 f0 f1 f2 f3 : Int) : Bool := BE.ev (lw1f_R x0 f0 f1 f2 f3) (.cm .ne lw1f_q7 (.k (0)))
theorem lw1f_c0_ff (x0 f0 f1 f2 f3 : Int) (hpre : True) : lw1f_c0 x0 f0 f1 f2 f3 = false :=
  BE.tri_ok (lw1f_hr x0 f0 f1 f2 f3 hpre) (e := (.cm .lt (.v 5) (.k (-100)))) (by kernel_rfl) (by kernel_rfl)
theorem lw1f_c1_ff (x0 f0 f1 f2 f3 : Int) (hpre : True) : lw1f_c1 x0 f0 f1 f2 f3 = false :=
  BE.tri_ok (lw1f_hr x0 f0 f1 f2 f3 hpre) (e := (.cm .gt (.v 5) (.k (100)))) (by kernel_rfl) (by kernel_rfl)
theorem lw1f_c6_ff (x0 f0 f1 f2 f3 : Int) (hpre : True) : lw1f_c6 x0 f0 f1 f2 f3 = false :=
  BE.tri_ok (lw1f_hr x0 f0 f1 f2 f3 hpre) (e := (.cm .lt (.v 6) (.k (-1000)))) (by kernel_rfl) (by kernel_rfl)
theorem lw1f_c7_ff (x0 f0 f1 f2 f3 : Int) (hpre : True) : lw1f_c7 x0 f0 f1 f2 f3 = false :=
  BE.tri_ok (lw1f_hr x0 f0 f1 f2 f3 hpre) (e := (.cm .gt (.v 6) (.k (1000)))) (by kernel_rfl) (by kernel_rfl)
theorem lw1f_c8_ff (x0 f0 f1 f2 f3 : Int) (hpre : True) : lw1f_c8 x0 f0 f1 f2 f3 = false :=
  BE.tri_ok (lw1f_hr x0 f0 f1 f2 f3 hpre) (e := (.cm .lt lw1f_q2 (.k (-1073741824)))) (by kernel_rfl) (by kernel_rfl)
theorem lw1f_c9_ff (x0 f0 f1 f2 f3 : Int) (hpre : True) : lw1f_c9 x0 f0 f1 f2 f3 = false :=
  BE.tri_ok (lw1f_hr x0 f0 f1 f2 f3 hpre) (e := (.cm .gt lw1f_q2 (.k (1073741824)))) (by kernel_rfl) (by kernel_rfl)
theorem lw1f_c10_ff (x0 f0 f1 f2 f3 : Int) (hpre : True) : lw1f_c10 x0 f0 f1 f2 f3 = false :=
  BE.tri_ok (lw1f_hr x0 f0 f1 f2 f3 hpre) (e := (.cm .lt lw1f_q3 (.k (-1073741824)))) (by kernel_rfl) (by kernel_rfl)
theorem lw1f_c11_ff (x0 f0 f1 f2 f3 : Int) (hpre : True) : lw1f_c11 x0 f0 f1 f2 f3 = false :=
  BE.tri_ok (lw1f_hr x0 f0 f1 f2 f3 hpre) (e := (.cm .gt lw1f_q3 (.k (1073741824)))) (by kernel_rfl) (by kernel_rfl)
theorem lw1f_c12_ff (x0 f0 f1 f2 f3 : Int) (hpre : True) : lw1f_c12 x0 f0 f1 f2 f3 = false :=
  BE.tri_ok (lw1f_hr x0 f0 f1 f2 f3 hpre) (e := (.cm .lt lw1f_q4 (.k (-1073741824)))) (by kernel_rfl) (by kernel_rfl)
theorem lw1f_c13_ff (x0 f0 f1 f2 f3 : Int) (hpre : True) : lw1f_c13 x0 f0 f1 f2 f3 = false :=
  BE.tri_ok (lw1f_hr x0 f0 f1 f2 f3 hpre) (e := (.cm .gt lw1f_q4 (.k (1073741824)))) (by kernel_rfl) (by kernel_rfl)
def lw1f_z0 (P : Prop) (x0 f0 f1 f2 f3 : Int) : Prop := (((((((((((((((((((((((((((((((((((((((((((((((((((((P ∧ lw1f_h0) ∧ lw1f_h0) ∧ lw1f_h0) ∧ lw1f_h0) ∧ lw1f_h1) ∧ lw1f_h2) ∧ lw1f_h3) ∧ lw1f_h0) ∧ lw1f_h3) ∧ lw1f_h0) ∧ lw1f_h2) ∧ lw1f_h2) ∧ lw1f_h2) ∧ lw1f_h3) ∧ lw1f_h2) ∧ lw1f_h2) ∧ lw1f_h2) ∧ lw1f_h0) ∧ lw1f_h0) ∧ lw1f_h0) ∧ lw1f_h4) ∧ lw1f_h2) ∧ lw1f_h3) ∧ (lw1f_c0 x0 f0 f1 f2 f3 = false)) ∧ (lw1f_c0 x0 f0 f1 f2 f3 = false)) ∧ (lw1f_c0 x0 f0 f1 f2 f3 = false)) ∧ (lw1f_c0 x0 f0 f1 f2 f3 = false)) ∧ (lw1f_c1 x0 f0 f1 f2 f3 = false)) ∧ lw1f_h0) ∧ lw1f_h2) ∧ lw1f_h7) ∧ lw1f_h0) ∧ lw1f_h0) ∧ lw1f_h0) ∧ lw1f_h0) ∧ lw1f_h8) ∧ lw1f_h0) ∧ lw1f_h0) ∧ lw1f_h0) ∧ lw1f_h7) ∧ lw1f_h0) ∧ lw1f_h0) ∧ lw1f_h0) ∧ lw1f_h9) ∧ lw1f_h10) ∧ lw1f_h10) ∧ lw1f_h10) ∧ lw1f_h10) ∧ lw1f_h0) ∧ lw1f_h2) ∧ lw1f_h3) ∧ lw1f_h3) ∧ lw1f_h7)
theorem lw1f_z0_h {P : Prop} (h : P) (x0 f0 f1 f2 f3 : Int) (hpre : True) : lw1f_z0 P x0 f0 f1 f2 f3 := ⟨⟨⟨⟨⟨⟨⟨⟨⟨⟨⟨⟨⟨⟨⟨⟨⟨⟨⟨⟨⟨⟨⟨⟨⟨⟨⟨⟨⟨⟨⟨⟨⟨⟨⟨⟨⟨⟨⟨⟨⟨⟨⟨⟨⟨⟨⟨⟨⟨⟨⟨⟨⟨h, lw1f_g0⟩, lw1f_g0⟩, lw1f_g0⟩, lw1f_g0⟩, lw1f_g1⟩, lw1f_g2⟩, lw1f_g3⟩, lw1f_g0⟩, lw1f_g3⟩, lw1f_g0⟩, lw1f_g2⟩, lw1f_g2⟩, lw1f_g2⟩, lw1f_g3⟩, lw1f_g2⟩, lw1f_g2⟩, lw1f_g2⟩, lw1f_g0⟩, lw1f_g0⟩, lw1f_g0⟩, lw1f_g4⟩, lw1f_g2⟩, lw1f_g3⟩, (lw1f_c0_ff x0 f0 f1 f2 f3 hpre)⟩, (lw1f_c0_ff x0 f0 f1 f2 f3 hpre)⟩, (lw1f_c0_ff x0 f0 f1 f2 f3 hpre)⟩, (lw1f_c0_ff x0 f0 f1 f2 f3 hpre)⟩, (lw1f_c1_ff x0 f0 f1 f2 f3 hpre)⟩, lw1f_g0⟩, lw1f_g2⟩, lw1f_g7⟩, lw1f_g0⟩, lw1f_g0⟩, lw1f_g0⟩, lw1f_g0⟩, lw1f_g8⟩, lw1f_g0⟩, lw1f_g0⟩, lw1f_g0⟩, lw1f_g7⟩, lw1f_g0⟩, lw1f_g0⟩, lw1f_g0⟩, lw1f_g9⟩, lw1f_g10⟩, lw1f_g10⟩, lw1f_g10⟩, lw1f_g10⟩, lw1f_g0⟩, lw1f_g2⟩, lw1f_g3⟩, lw1f_g3⟩, lw1f_g7⟩
def lw1f_z1 (P : Prop) (x0 f0 f1 f2 f3 : Int) : Prop := (((((((P ∧ (lw1f_c2 x0 f0 f1 f2 f3 = true)) ∧ lw1f_h0) ∧ lw1f_h0) ∧ lw1f_h0) ∧ lw1f_h0) ∧ (lw1f_c3 x0 f0 f1 f2 f3 = false)) ∧ (lw1f_c4 x0 f0 f1 f2 f3 = true))
theorem lw1f_z1_h {P : Prop} (h : P) (x0 f0 f1 f2 f3 : Int) (hpre : True) (k0 : (lw1f_c2 x0 f0 f1 f2 f3 = true)) (k1 : (lw1f_c3 x0 f0 f1 f2 f3 = false)) (k2 : (lw1f_c4 x0 f0 f1 f2 f3 = true)) : lw1f_z1 P x0 f0 f1 f2 f3 := ⟨⟨⟨⟨⟨⟨⟨h, k0⟩, lw1f_g0⟩, lw1f_g0⟩, lw1f_g0⟩, lw1f_g0⟩, k1⟩, k2⟩
def lw1f_z2 (P : Prop) (x0 f0 f1 f2 f3 : Int) : Prop := (((((((((((((((((((((((((((((((((((((((((((((((((((((((((((((((((((((((((((((((((((((((((((((((((((((((((((((((((((((((((((((((((((((((((((((((((((((((((((((((((((((((P ∧ (lw1f_c2 x0 f0 f1 f2 f3 = false)) ∧ lw1f_h0) ∧ lw1f_h0) ∧ lw1f_h0) ∧ lw1f_h0) ∧ lw1f_h0) ∧ (lw1f_c5 x0 f0 f1 f2 f3 = false)) ∧ (lw1f_c4 x0 f0 f1 f2 f3 = false)) ∧ lw1f_h0) ∧ lw1f_h4) ∧ lw1f_h2) ∧ lw1f_h3) ∧ (lw1f_c0 x0 f0 f1 f2 f3 = false)) ∧ (lw1f_c0 x0 f0 f1 f2 f3 = false)) ∧ (lw1f_c0 x0 f0 f1 f2 f3 = false)) ∧ (lw1f_c0 x0 f0 f1 f2 f3 = false)) ∧ (lw1f_c1 x0 f0 f1 f2 f3 = false)) ∧ lw1f_h0) ∧ lw1f_h2) ∧ lw1f_h7) ∧ lw1f_h0) ∧ lw1f_h0) ∧ lw1f_h0) ∧ lw1f_h0) ∧ lw1f_h8) ∧ lw1f_h0) ∧ lw1f_h0) ∧ lw1f_h0) ∧ lw1f_h7) ∧ lw1f_h0) ∧ lw1f_h0) ∧ lw1f_h0) ∧ lw1f_h2) ∧ lw1f_h3) ∧ (lw1f_c6 x0 f0 f1 f2 f3 = false)) ∧ (lw1f_c6 x0 f0 f1 f2 f3 = false)) ∧ (lw1f_c6 x0 f0 f1 f2 f3 = false)) ∧ (lw1f_c6 x0 f0 f1 f2 f3 = false)) ∧ (lw1f_c7 x0 f0 f1 f2 f3 = false)) ∧ lw1f_h0) ∧ lw1f_h0) ∧ lw1f_h0) ∧ lw1f_h0) ∧ lw1f_h0) ∧ lw1f_h0) ∧ lw1f_h19) ∧ lw1f_h2) ∧ lw1f_h3) ∧ lw1f_h0) ∧ lw1f_h2) ∧ lw1f_h7) ∧ lw1f_h0) ∧ lw1f_h2) ∧ lw1f_h20) ∧ lw1f_h0) ∧ lw1f_h0) ∧ lw1f_h0) ∧ lw1f_h2) ∧ lw1f_h3) ∧ lw1f_h7) ∧ lw1f_h0) ∧ lw1f_h3) ∧ lw1f_h0) ∧ lw1f_h2) ∧ lw1f_h3) ∧ lw1f_h7) ∧ lw1f_h0) ∧ lw1f_h3) ∧ lw1f_h0) ∧ lw1f_h2) ∧ lw1f_h3) ∧ lw1f_h3) ∧ lw1f_h0) ∧ lw1f_h2) ∧ lw1f_h2) ∧ lw1f_h3) ∧ lw1f_h3) ∧ lw1f_h0) ∧ (lw1f_c8 x0 f0 f1 f2 f3 = false)) ∧ (lw1f_c8 x0 f0 f1 f2 f3 = false)) ∧ (lw1f_c8 x0 f0 f1 f2 f3 = false)) ∧ (lw1f_c8 x0 f0 f1 f2 f3 = false)) ∧ (lw1f_c9 x0 f0 f1 f2 f3 = false)) ∧ lw1f_h0) ∧ lw1f_h2) ∧ lw1f_h2) ∧ lw1f_h3) ∧ lw1f_h7) ∧ lw1f_h0) ∧ (lw1f_c10 x0 f0 f1 f2 f3 = false)) ∧ (lw1f_c10 x0 f0 f1 f2 f3 = false)) ∧ (lw1f_c10 x0 f0 f1 f2 f3 = false)) ∧ (lw1f_c10 x0 f0 f1 f2 f3 = false)) ∧ (lw1f_c11 x0 f0 f1 f2 f3 = false)) ∧ lw1f_h0) ∧ lw1f_h2) ∧ lw1f_h2) ∧ lw1f_h3) ∧ lw1f_h20) ∧ lw1f_h0) ∧ (lw1f_c12 x0 f0 f1 f2 f3 = false)) ∧ (lw1f_c12 x0 f0 f1 f2 f3 = false)) ∧ (lw1f_c12 x0 f0 f1 f2 f3 = false)) ∧ (lw1f_c12 x0 f0 f1 f2 f3 = false)) ∧ (lw1f_c13 x0 f0 f1 f2 f3 = false)) ∧ lw1f_h0) ∧ lw1f_h2) ∧ lw1f_h2) ∧ lw1f_h3) ∧ lw1f_h27) ∧ lw1f_h0) ∧ (lw1f_c14 x0 f0 f1 f2 f3 = false)) ∧ (lw1f_c14 x0 f0 f1 f2 f3 = false)) ∧ (lw1f_c14 x0 f0 f1 f2 f3 = false)) ∧ (lw1f_c14 x0 f0 f1 f2 f3 = false)) ∧ (lw1f_c15 x0 f0 f1 f2 f3 = false)) ∧ lw1f_h0) ∧ lw1f_h2) ∧ lw1f_h2) ∧ lw1f_h3) ∧ lw1f_h30) ∧ lw1f_h0) ∧ (lw1f_c16 x0 f0 f1 f2 f3 = false)) ∧ (lw1f_c16 x0 f0 f1 f2 f3 = false)) ∧ (lw1f_c16 x0 f0 f1 f2 f3 = false)) ∧ (lw1f_c16 x0 f0 f1 f2 f3 = false)) ∧ (lw1f_c17 x0 f0 f1 f2 f3 = false)) ∧ lw1f_h0) ∧ lw1f_h2) ∧ lw1f_h2) ∧ lw1f_h3) ∧ lw1f_h33) ∧ lw1f_h0) ∧ (lw1f_c18 x0 f0 f1 f2 f3 = false)) ∧ (lw1f_c18 x0 f0 f1 f2 f3 = false)) ∧ (lw1f_c18 x0 f0 f1 f2 f3 = false)) ∧ (lw1f_c18 x0 f0 f1 f2 f3 = false)) ∧ (lw1f_c19 x0 f0 f1 f2 f3 = false)) ∧ lw1f_h0) ∧ lw1f_h0) ∧ lw1f_h0) ∧ lw1f_h0) ∧ lw1f_h0) ∧ lw1f_h0) ∧ lw1f_h0) ∧ lw1f_h0) ∧ lw1f_h0) ∧ lw1f_h0) ∧ lw1f_h2) ∧ lw1f_h3) ∧ (lw1f_c20 x0 f0 f1 f2 f3 = false)) ∧ lw1f_h2) ∧ lw1f_h7) ∧ (lw1f_c21 x0 f0 f1 f2 f3 = false)) ∧ lw1f_h2) ∧ lw1f_h20) ∧ (lw1f_c22 x0 f0 f1 f2 f3 = false)) ∧ lw1f_h2) ∧ lw1f_h27) ∧ (lw1f_c23 x0 f0 f1 f2 f3 = false)) ∧ lw1f_h2) ∧ lw1f_h30) ∧ (lw1f_c24 x0 f0 f1 f2 f3 = false)) ∧ lw1f_h2) ∧ lw1f_h33) ∧ (lw1f_c25 x0 f0 f1 f2 f3 = false)) ∧ lw1f_h0)
theorem lw1f_z2_h {P : Prop} (h : P) (x0 f0 f1 f2 f3 : Int) (hpre : True) (k0 : (lw1f_c2 x0 f0 f1 f2 f3 = false)) (k1 : (lw1f_c5 x0 f0 f1 f2 f3 = false)) (k2 : (lw1f_c4 x0 f0 f1 f2 f3 = false)) (k3 : (lw1f_c14 x0 f0 f1 f2 f3 = false)) (k4 : (lw1f_c15 x0 f0 f1 f2 f3 = false)) (k5 : (lw1f_c16 x0 f0 f1 f2 f3 = false)) (k6 : (lw1f_c17 x0 f0 f1 f2 f3 = false)) (k7 : (lw1f_c18 x0 f0 f1 f2 f3 = false)) (k8 : (lw1f_c19 x0 f0 f1 f2 f3 = false)) (k9 : (lw1f_c20 x0 f0 f1 f2 f3 = false)) (k10 : (lw1f_c21 x0 f0 f1 f2 f3 = false)) (k11 : (lw1f_c22 x0 f0 f1 f2 f3 = false)) (k12 : (lw1f_c23 x0 f0 f1 f2 f3 = false)) (k13 : (lw1f_c24 x0 f0 f1 f2 f3 = false)) (k14 : (lw1f_c25 x0 f0 f1 f2 f3 = false)) : lw1f_z2 P x0 f0 f1 f2 f3 := ⟨⟨⟨⟨⟨⟨⟨⟨⟨⟨⟨⟨⟨⟨⟨⟨⟨⟨⟨⟨⟨⟨⟨⟨⟨⟨⟨⟨⟨⟨⟨⟨⟨⟨⟨⟨⟨⟨⟨⟨⟨⟨⟨⟨⟨⟨⟨⟨⟨⟨⟨⟨⟨⟨⟨⟨⟨⟨⟨⟨⟨⟨⟨⟨⟨⟨⟨⟨⟨⟨⟨⟨⟨⟨⟨⟨⟨⟨⟨⟨⟨⟨⟨⟨⟨⟨⟨⟨⟨⟨⟨⟨⟨⟨⟨⟨⟨⟨⟨⟨⟨⟨⟨⟨⟨⟨⟨⟨⟨⟨⟨⟨⟨⟨⟨⟨⟨⟨⟨⟨⟨⟨⟨⟨⟨⟨⟨⟨⟨⟨⟨⟨⟨⟨⟨⟨⟨⟨⟨⟨⟨⟨⟨⟨⟨⟨⟨⟨⟨⟨⟨⟨⟨⟨⟨⟨⟨⟨⟨⟨⟨⟨⟨⟨⟨⟨⟨h, k0⟩, lw1f_g0⟩, lw1f_g0⟩, lw1f_g0⟩, lw1f_g0⟩, lw1f_g0⟩, k1⟩, k2⟩, lw1f_g0⟩, lw1f_g4⟩, lw1f_g2⟩, lw1f_g3⟩, (lw1f_c0_ff x0 f0 f1 f2 f3 hpre)⟩, (lw1f_c0_ff x0 f0 f1 f2 f3 hpre)⟩, (lw1f_c0_ff x0 f0 f1 f2 f3 hpre)⟩, (lw1f_c0_ff x0 f0 f1 f2 f3 hpre)⟩, (lw1f_c1_ff x0 f0 f1 f2 f3 hpre)⟩, lw1f_g0⟩, lw1f_g2⟩, lw1f_g7⟩, lw1f_g0⟩, lw1f_g0⟩, lw1f_g0⟩, lw1f_g0⟩, lw1f_g8⟩, lw1f_g0⟩, lw1f_g0⟩, lw1f_g0⟩, lw1f_g7⟩, lw1f_g0⟩, lw1f_g0⟩, lw1f_g0⟩, lw1f_g2⟩, lw1f_g3⟩, (lw1f_c6_ff x0 f0 f1 f2 f3 hpre)⟩, (lw1f_c6_ff x0 f0 f1 f2 f3 hpre)⟩, (lw1f_c6_ff x0 f0 f1 f2 f3 hpre)⟩, (lw1f_c6_ff x0 f0 f1 f2 f3 hpre)⟩, (lw1f_c7_ff x0 f0 f1 f2 f3 hpre)⟩, lw1f_g0⟩, lw1f_g0⟩, lw1f_g0⟩, lw1f_g0⟩, lw1f_g0⟩, lw1f_g0⟩, lw1f_g19⟩, lw1f_g2⟩, lw1f_g3⟩, lw1f_g0⟩, lw1f_g2⟩, lw1f_g7⟩, lw1f_g0⟩, lw1f_g2⟩, lw1f_g20⟩, lw1f_g0⟩, lw1f_g0⟩, lw1f_g0⟩, lw1f_g2⟩, lw1f_g3⟩, lw1f_g7⟩, lw1f_g0⟩, lw1f_g3⟩, lw1f_g0⟩, lw1f_g2⟩, lw1f_g3⟩, lw1f_g7⟩, lw1f_g0⟩, lw1f_g3⟩, lw1f_g0⟩, lw1f_g2⟩, lw1f_g3⟩, lw1f_g3⟩, lw1f_g0⟩, lw1f_g2⟩, lw1f_g2⟩, lw1f_g3⟩, lw1f_g3⟩, lw1f_g0⟩, (lw1f_c8_ff x0 f0 f1 f2 f3 hpre)⟩, (lw1f_c8_ff x0 f0 f1 f2 f3 hpre)⟩, (lw1f_c8_ff x0 f0 f1 f2 f3 hpre)⟩, (lw1f_c8_ff x0 f0 f1 f2 f3 hpre)⟩, (lw1f_c9_ff x0 f0 f1 f2 f3 hpre)⟩, lw1f_g0⟩, lw1f_g2⟩, lw1f_g2⟩, lw1f_g3⟩, lw1f_g7⟩, lw1f_g0⟩, (lw1f_c10_ff x0 f0 f1 f2 f3 hpre)⟩, (lw1f_c10_ff x0 f0 f1 f2 f3 hpre)⟩, (lw1f_c10_ff x0 f0 f1 f2 f3 hpre)⟩, (lw1f_c10_ff x0 f0 f1 f2 f3 hpre)⟩, (lw1f_c11_ff x0 f0 f1 f2 f3 hpre)⟩, lw1f_g0⟩, lw1f_g2⟩, lw1f_g2⟩, lw1f_g3⟩, lw1f_g20⟩, lw1f_g0⟩, (lw1f_c12_ff x0 f0 f1 f2 f3 hpre)⟩, (lw1f_c12_ff x0 f0 f1 f2 f3 hpre)⟩, (lw1f_c12_ff x0 f0 f1 f2 f3 hpre)⟩, (lw1f_c12_ff x0 f0 f1 f2 f3 hpre)⟩, (lw1f_c13_ff x0 f0 f1 f2 f3 hpre)⟩, lw1f_g0⟩, lw1f_g2⟩, lw1f_g2⟩, lw1f_g3⟩, lw1f_g27⟩, lw1f_g0⟩, k3⟩, k3⟩, k3⟩, k3⟩, k4⟩, lw1f_g0⟩, lw1f_g2⟩, lw1f_g2⟩, lw1f_g3⟩, lw1f_g30⟩, lw1f_g0⟩, k5⟩, k5⟩, k5⟩, k5⟩, k6⟩, lw1f_g0⟩, lw1f_g2⟩, lw1f_g2⟩, lw1f_g3⟩, lw1f_g33⟩, lw1f_g0⟩, k7⟩, k7⟩, k7⟩, k7⟩, k8⟩, lw1f_g0⟩, lw1f_g0⟩, lw1f_g0⟩, lw1f_g0⟩, lw1f_g0⟩, lw1f_g0⟩, lw1f_g0⟩, lw1f_g0⟩, lw1f_g0⟩, lw1f_g0⟩, lw1f_g2⟩, lw1f_g3⟩, k9⟩, lw1f_g2⟩, lw1f_g7⟩, k10⟩, lw1f_g2⟩, lw1f_g20⟩, k11⟩, lw1f_g2⟩, lw1f_g27⟩, k12⟩, lw1f_g2⟩, lw1f_g30⟩, k13⟩, lw1f_g2⟩, lw1f_g33⟩, k14⟩, lw1f_g0⟩
def lw1f_r0 (x0 f0 f1 f2 f3 : Int) : Prop := (lw1f_z1 (lw1f_z0 True x0 f0 f1 f2 f3) x0 f0 f1 f2 f3)
theorem lw1f_o0 (x0 f0 f1 f2 f3 : Int) (c : Nat) : obY (lw1f_e0 x0 f0 f1 f2 f3 c) = lw1f_r0 x0 f0 f1 f2 f3 := by kernel_rfl
theorem lw1f_g0_ (x0 f0 f1 f2 f3 : Int) (c : Nat) : goodY (lw1f_e0 x0 f0 f1 f2 f3 c) = true := by kernel_rfl
theorem lw1f_p0 (x0 f0 f1 f2 f3 : Int) (c : Nat) (h : lw1f_r0 x0 f0 f1 f2 f3) : ∃ s1 R, SndF Tryz.prog 3 #[.slice (some ⟨6, 0, none⟩) 1 c, .bool false, .agg #[.int .i16 f0, .int .i16 f1, .int .i16 f2, .int .i16 f3]] (aw3S0.push (.cells [.int .i8 x0] 0 true 0 true)) (.bool true) s1 R 0 :=
  sndY (r := lw1f_e0 x0 f0 f1 f2 f3 c) (by delta lw1f_e0; exact Eq.refl _) gfol lw1f_X (lw1f_g0_ x0 f0 f1 f2 f3 c) ((lw1f_o0 x0 f0 f1 f2 f3 c).symm ▸ h)
def lw1f_r1 (x0 f0 f1 f2 f3 : Int) : Prop := (lw1f_z2 (lw1f_z0 True x0 f0 f1 f2 f3) x0 f0 f1 f2 f3)
theorem lw1f_o1 (x0 f0 f1 f2 f3 : Int) (c : Nat) : obY (lw1f_e1 x0 f0 f1 f2 f3 c) = lw1f_r1 x0 f0 f1 f2 f3 := by kernel_rfl
theorem lw1f_g1_ (x0 f0 f1 f2 f3 : Int) (c : Nat) : goodY (lw1f_e1 x0 f0 f1 f2 f3 c) = true := by kernel_rfl
theorem lw1f_p1 (x0 f0 f1 f2 f3 : Int) (c : Nat) (h : lw1f_r1 x0 f0 f1 f2 f3) : ∃ s1 R, SndF Tryz.prog 3 #[.slice (some ⟨6, 0, none⟩) 1 c, .bool false, .agg #[.int .i16 f0, .int .i16 f1, .int .i16 f2, .int .i16 f3]] (aw3S0.push (.cells [.int .i8 x0] 0 true 0 true)) (.bool true) s1 R 0 :=
  sndY (r := lw1f_e1 x0 f0 f1 f2 f3 c) (by delta lw1f_e1; exact Eq.refl _) gfol lw1f_X (lw1f_g1_ x0 f0 f1 f2 f3 c) ((lw1f_o1 x0 f0 f1 f2 f3 c).symm ▸ h)
theorem lw1f_any (x0 f0 f1 f2 f3 : Int) (c : Nat) (hpre : True) : ∃ s1 R, SndF Tryz.prog 3 #[.slice (some ⟨6, 0, none⟩) 1 c, .bool false, .agg #[.int .i16 f0, .int .i16 f1, .int .i16 f2, .int .i16 f3]] (aw3S0.push (.cells [.int .i8 x0] 0 true 0 true)) (.bool true) s1 R 0 := by
  have h0 : (lw1f_c0 x0 f0 f1 f2 f3 = false) := lw1f_c0_ff x0 f0 f1 f2 f3 hpre
  have h1 : (lw1f_c1 x0 f0 f1 f2 f3 = false) := lw1f_c1_ff x0 f0 f1 f2 f3 hpre
  rcases Bool.eq_false_or_eq_true (lw1f_c2 x0 f0 f1 f2 f3) with h2 | h2
  ·
    have h3 : (lw1f_c3 x0 f0 f1 f2 f3 = false) := by
      have hr : InR [(-100, 100)] [(lw1f_at0 x0)] := ⟨lw1f_rg5 x0 f0 f1 f2 f3 hpre, trivial⟩
      have hr2 : InR [(-100, 100)] [(lw1f_at0 x0)] := ⟨lw1f_rg5 x0 f0 f1 f2 f3 hpre, trivial⟩
      have ha := BE.all_ok hr2 (.or (.not lw1f_q8) (.not lw1f_q9)) (by kernel_rfl)
      have hx : BE.ev [(lw1f_at0 x0)] lw1f_q8 = true := (show BE.ev [(lw1f_at0 x0)] lw1f_q8 = BE.ev [(lw1f_at0 x0)] lw1f_q8 by kernel_rfl).trans ((BE.smp_to hr lw1f_q10 lw1f_q8 (by kernel_rfl) (by kernel_rfl)).symm.trans ((show BE.ev [(lw1f_at0 x0)] lw1f_q10 = lw1f_c2 x0 f0 f1 f2 f3 by kernel_rfl).trans h2))
      have ha := orT ha hx
      exact (show lw1f_c3 x0 f0 f1 f2 f3 = BE.ev [(lw1f_at0 x0)] lw1f_q11 by kernel_rfl).trans ((BE.smp_to hr lw1f_q11 lw1f_q9 (by kernel_rfl) (by kernel_rfl)).trans ((show BE.ev [(lw1f_at0 x0)] lw1f_q9 = BE.ev [(lw1f_at0 x0)] lw1f_q9 by kernel_rfl).trans (notT ha)))
    have h4 : (lw1f_c4 x0 f0 f1 f2 f3 = true) := by
      have hr : InR [(-100, 100)] [(lw1f_at0 x0)] := ⟨lw1f_rg5 x0 f0 f1 f2 f3 hpre, trivial⟩
      have hr2 : InR [(-100, 100)] [(lw1f_at0 x0)] := ⟨lw1f_rg5 x0 f0 f1 f2 f3 hpre, trivial⟩
      have ha := BE.all_ok hr2 (.or (.not lw1f_q8) (.not (.cm .eq (.v 0) (.k (0))))) (by kernel_rfl)
      have hx : BE.ev [(lw1f_at0 x0)] lw1f_q8 = true := (show BE.ev [(lw1f_at0 x0)] lw1f_q8 = BE.ev [(lw1f_at0 x0)] lw1f_q8 by kernel_rfl).trans ((BE.smp_to hr lw1f_q10 lw1f_q8 (by kernel_rfl) (by kernel_rfl)).symm.trans ((show BE.ev [(lw1f_at0 x0)] lw1f_q10 = lw1f_c2 x0 f0 f1 f2 f3 by kernel_rfl).trans h2))
      have ha := orT ha hx
      exact (show lw1f_c4 x0 f0 f1 f2 f3 = BE.ev [(lw1f_at0 x0)] (.not (.cm .eq (.v 0) (.k (0)))) by kernel_rfl).trans ((BE.smp_to hr (.not (.cm .eq (.v 0) (.k (0)))) (.not (.cm .eq (.v 0) (.k (0)))) (by kernel_rfl) (by kernel_rfl)).trans ((show BE.ev [(lw1f_at0 x0)] (.not (.cm .eq (.v 0) (.k (0)))) = BE.ev [(lw1f_at0 x0)] (.not (.cm .eq (.v 0) (.k (0)))) by kernel_rfl).trans (ha)))
    exact lw1f_p0 x0 f0 f1 f2 f3 c (lw1f_z1_h (lw1f_z0_h trivial x0 f0 f1 f2 f3 hpre) x0 f0 f1 f2 f3 hpre h2 h3 h4)
  ·
    have h5 : (lw1f_c5 x0 f0 f1 f2 f3 = false) := by
      have r5 : Rg.has (0, 0) (lw1f_at0 x0) := by
        have hr : InR [(-100, 100)] [(lw1f_at0 x0)] := ⟨lw1f_rg5 x0 f0 f1 f2 f3 hpre, trivial⟩
        have ha := BE.all_ok hr lw1f_q12 (by kernel_rfl)
        have hx : BE.ev [(lw1f_at0 x0)] lw1f_q10 = false := (show BE.ev [(lw1f_at0 x0)] lw1f_q10 = lw1f_c2 x0 f0 f1 f2 f3 by kernel_rfl).trans h2
        have ha := orT ha (notF hx)
        exact rgB ha
      have hr : InR [(0, 0)] [(lw1f_at0 x0)] := ⟨r5, trivial⟩
      have e1 : lw1f_c5 x0 f0 f1 f2 f3 = BE.ev [(lw1f_at0 x0)] (.not (.beq (.not (.cm .ge (.k (-1)) (.k (0)))) (.cm .eq (.v 0) (.k (0))))) := by kernel_rfl
      rw [e1]
      exact BE.tri_ok hr (by kernel_rfl) (by kernel_rfl)
    have h6 : (lw1f_c4 x0 f0 f1 f2 f3 = false) := by
      have r5 : Rg.has (0, 0) (lw1f_at0 x0) := by
        have hr : InR [(-100, 100)] [(lw1f_at0 x0)] := ⟨lw1f_rg5 x0 f0 f1 f2 f3 hpre, trivial⟩
        have ha := BE.all_ok hr lw1f_q12 (by kernel_rfl)
        have hx : BE.ev [(lw1f_at0 x0)] lw1f_q10 = false := (show BE.ev [(lw1f_at0 x0)] lw1f_q10 = lw1f_c2 x0 f0 f1 f2 f3 by kernel_rfl).trans h2
        have ha := orT ha (notF hx)
        exact rgB ha
      have hr : InR [(0, 0)] [(lw1f_at0 x0)] := ⟨r5, trivial⟩
      have e1 : lw1f_c4 x0 f0 f1 f2 f3 = BE.ev [(lw1f_at0 x0)] (.not (.cm .eq (.v 0) (.k (0)))) := by kernel_rfl
      rw [e1]
      exact BE.tri_ok hr (by kernel_rfl) (by kernel_rfl)
    have h7 : (lw1f_c6 x0 f0 f1 f2 f3 = false) := lw1f_c6_ff x0 f0 f1 f2 f3 hpre
    have h8 : (lw1f_c7 x0 f0 f1 f2 f3 = false) := lw1f_c7_ff x0 f0 f1 f2 f3 hpre
    have h9 : (lw1f_c8 x0 f0 f1 f2 f3 = false) := lw1f_c8_ff x0 f0 f1 f2 f3 hpre
    have h10 : (lw1f_c9 x0 f0 f1 f2 f3 = false) := lw1f_c9_ff x0 f0 f1 f2 f3 hpre
    have h11 : (lw1f_c10 x0 f0 f1 f2 f3 = false) := lw1f_c10_ff x0 f0 f1 f2 f3 hpre
    have h12 : (lw1f_c11 x0 f0 f1 f2 f3 = false) := lw1f_c11_ff x0 f0 f1 f2 f3 hpre
    have h13 : (lw1f_c12 x0 f0 f1 f2 f3 = false) := lw1f_c12_ff x0 f0 f1 f2 f3 hpre
    have h14 : (lw1f_c13 x0 f0 f1 f2 f3 = false) := lw1f_c13_ff x0 f0 f1 f2 f3 hpre
    have h15 : (lw1f_c14 x0 f0 f1 f2 f3 = false) := by
      have r5 : Rg.has (0, 0) (lw1f_at0 x0) := by
        have hr : InR [(-100, 100)] [(lw1f_at0 x0)] := ⟨lw1f_rg5 x0 f0 f1 f2 f3 hpre, trivial⟩
        have ha := BE.all_ok hr lw1f_q12 (by kernel_rfl)
        have hx : BE.ev [(lw1f_at0 x0)] lw1f_q10 = false := (show BE.ev [(lw1f_at0 x0)] lw1f_q10 = lw1f_c2 x0 f0 f1 f2 f3 by kernel_rfl).trans h2
        have ha := orT ha (notF hx)
        exact rgB ha
      have hr : InR [(0, 0), (-1000, 1000)] [(lw1f_at0 x0), (lw1f_at1 f0)] := ⟨r5, ⟨lw1f_rg6 x0 f0 f1 f2 f3 hpre, trivial⟩⟩
      have e1 : lw1f_c14 x0 f0 f1 f2 f3 = BE.ev [(lw1f_at0 x0), (lw1f_at1 f0)] (.cm .lt lw1f_q17 (.k (-1073741824))) := by kernel_rfl
      rw [e1]
      exact BE.tri_ok hr (by kernel_rfl) (by kernel_rfl)
    have h16 : (lw1f_c15 x0 f0 f1 f2 f3 = false) := by
      have r5 : Rg.has (0, 0) (lw1f_at0 x0) := by
        have hr : InR [(-100, 100)] [(lw1f_at0 x0)] := ⟨lw1f_rg5 x0 f0 f1 f2 f3 hpre, trivial⟩
        have ha := BE.all_ok hr lw1f_q12 (by kernel_rfl)
        have hx : BE.ev [(lw1f_at0 x0)] lw1f_q10 = false := (show BE.ev [(lw1f_at0 x0)] lw1f_q10 = lw1f_c2 x0 f0 f1 f2 f3 by kernel_rfl).trans h2
        have ha := orT ha (notF hx)
        exact rgB ha
      have hr : InR [(0, 0), (-1000, 1000)] [(lw1f_at0 x0), (lw1f_at1 f0)] := ⟨r5, ⟨lw1f_rg6 x0 f0 f1 f2 f3 hpre, trivial⟩⟩
      have e1 : lw1f_c15 x0 f0 f1 f2 f3 = BE.ev [(lw1f_at0 x0), (lw1f_at1 f0)] (.cm .gt lw1f_q17 (.k (1073741824))) := by kernel_rfl
      rw [e1]
      exact BE.tri_ok hr (by kernel_rfl) (by kernel_rfl)
    have h17 : (lw1f_c16 x0 f0 f1 f2 f3 = false) := by
      have r5 : Rg.has (0, 0) (lw1f_at0 x0) := by
        have hr : InR [(-100, 100)] [(lw1f_at0 x0)] := ⟨lw1f_rg5 x0 f0 f1 f2 f3 hpre, trivial⟩
        have ha := BE.all_ok hr lw1f_q12 (by kernel_rfl)
        have hx : BE.ev [(lw1f_at0 x0)] lw1f_q10 = false := (show BE.ev [(lw1f_at0 x0)] lw1f_q10 = lw1f_c2 x0 f0 f1 f2 f3 by kernel_rfl).trans h2
        have ha := orT ha (notF hx)
        exact rgB ha
      have hr : InR [(0, 0), (-1000, 1000)] [(lw1f_at0 x0), (lw1f_at1 f0)] := ⟨r5, ⟨lw1f_rg6 x0 f0 f1 f2 f3 hpre, trivial⟩⟩
      have e1 : lw1f_c16 x0 f0 f1 f2 f3 = BE.ev [(lw1f_at0 x0), (lw1f_at1 f0)] (.cm .lt lw1f_q18 (.k (-1073741824))) := by kernel_rfl
      rw [e1]
      exact BE.tri_ok hr (by kernel_rfl) (by kernel_rfl)
    have h18 : (lw1f_c17 x0 f0 f1 f2 f3 = false) := by
      have r5 : Rg.has (0, 0) (lw1f_at0 x0) := by
        have hr : InR [(-100, 100)] [(lw1f_at0 x0)] := ⟨lw1f_rg5 x0 f0 f1 f2 f3 hpre, trivial⟩
        have ha := BE.all_ok hr lw1f_q12 (by kernel_rfl)
        have hx : BE.ev [(lw1f_at0 x0)] lw1f_q10 = false := (show BE.ev [(lw1f_at0 x0)] lw1f_q10 = lw1f_c2 x0 f0 f1 f2 f3 by kernel_rfl).trans h2
        have ha := orT ha (notF hx)
        exact rgB ha
      have hr : InR [(0, 0), (-1000, 1000)] [(lw1f_at0 x0), (lw1f_at1 f0)] := ⟨r5, ⟨lw1f_rg6 x0 f0 f1 f2 f3 hpre, trivial⟩⟩
      have e1 : lw1f_c17 x0 f0 f1 f2 f3 = BE.ev [(lw1f_at0 x0), (lw1f_at1 f0)] (.cm .gt lw1f_q18 (.k (1073741824))) := by kernel_rfl
      rw [e1]
      exact BE.tri_ok hr (by kernel_rfl) (by kernel_rfl)
    have h19 : (lw1f_c18 x0 f0 f1 f2 f3 = false) := by
      have r5 : Rg.has (0, 0) (lw1f_at0 x0) := by
        have hr : InR [(-100, 100)] [(lw1f_at0 x0)] := ⟨lw1f_rg5 x0 f0 f1 f2 f3 hpre, trivial⟩
        have ha := BE.all_ok hr lw1f_q12 (by kernel_rfl)
        have hx : BE.ev [(lw1f_at0 x0)] lw1f_q10 = false := (show BE.ev [(lw1f_at0 x0)] lw1f_q10 = lw1f_c2 x0 f0 f1 f2 f3 by kernel_rfl).trans h2
        have ha := orT ha (notF hx)
        exact rgB ha
      have hr : InR [(0, 0), (-1000, 1000)] [(lw1f_at0 x0), (lw1f_at1 f0)] := ⟨r5, ⟨lw1f_rg6 x0 f0 f1 f2 f3 hpre, trivial⟩⟩
      have e1 : lw1f_c18 x0 f0 f1 f2 f3 = BE.ev [(lw1f_at0 x0), (lw1f_at1 f0)] (.cm .lt lw1f_q19 (.k (-1073741824))) := by kernel_rfl
      rw [e1]
      exact BE.tri_ok hr (by kernel_rfl) (by kernel_rfl)
    have h20 : (lw1f_c19 x0 f0 f1 f2 f3 = false) := by
      have r5 : Rg.has (0, 0) (lw1f_at0 x0) := by
        have hr : InR [(-100, 100)] [(lw1f_at0 x0)] := ⟨lw1f_rg5 x0 f0 f1 f2 f3 hpre, trivial⟩
        have ha := BE.all_ok hr lw1f_q12 (by kernel_rfl)
        have hx : BE.ev [(lw1f_at0 x0)] lw1f_q10 = false := (show BE.ev [(lw1f_at0 x0)] lw1f_q10 = lw1f_c2 x0 f0 f1 f2 f3 by kernel_rfl).trans h2
        have ha := orT ha (notF hx)
        exact rgB ha
      have hr : InR [(0, 0), (-1000, 1000)] [(lw1f_at0 x0), (lw1f_at1 f0)] := ⟨r5, ⟨lw1f_rg6 x0 f0 f1 f2 f3 hpre, trivial⟩⟩
      have e1 : lw1f_c19 x0 f0 f1 f2 f3 = BE.ev [(lw1f_at0 x0), (lw1f_at1 f0)] (.cm .gt lw1f_q19 (.k (1073741824))) := by kernel_rfl
      rw [e1]
      exact BE.tri_ok hr (by kernel_rfl) (by kernel_rfl)
    have h21 : (lw1f_c20 x0 f0 f1 f2 f3 = false) := by
      have r5 : Rg.has (0, 0) (lw1f_at0 x0) := by
        have hr : InR [(-100, 100)] [(lw1f_at0 x0)] := ⟨lw1f_rg5 x0 f0 f1 f2 f3 hpre, trivial⟩
        have ha := BE.all_ok hr lw1f_q12 (by kernel_rfl)
        have hx : BE.ev [(lw1f_at0 x0)] lw1f_q10 = false := (show BE.ev [(lw1f_at0 x0)] lw1f_q10 = lw1f_c2 x0 f0 f1 f2 f3 by kernel_rfl).trans h2
        have ha := orT ha (notF hx)
        exact rgB ha
      have hr : InR [(0, 0), (-1000, 1000)] [(lw1f_at0 x0), (lw1f_at1 f0)] := ⟨r5, ⟨lw1f_rg6 x0 f0 f1 f2 f3 hpre, trivial⟩⟩
      have e1 : lw1f_c20 x0 f0 f1 f2 f3 = BE.ev [(lw1f_at0 x0), (lw1f_at1 f0)] (.cm .ne lw1f_q14 (.k (0))) := by kernel_rfl
      rw [e1]
      exact BE.tri_ok hr (by kernel_rfl) (by kernel_rfl)
    have h22 : (lw1f_c21 x0 f0 f1 f2 f3 = false) := by
      have r5 : Rg.has (0, 0) (lw1f_at0 x0) := by
        have hr : InR [(-100, 100)] [(lw1f_at0 x0)] := ⟨lw1f_rg5 x0 f0 f1 f2 f3 hpre, trivial⟩
        have ha := BE.all_ok hr lw1f_q12 (by kernel_rfl)
        have hx : BE.ev [(lw1f_at0 x0)] lw1f_q10 = false := (show BE.ev [(lw1f_at0 x0)] lw1f_q10 = lw1f_c2 x0 f0 f1 f2 f3 by kernel_rfl).trans h2
        have ha := orT ha (notF hx)
        exact rgB ha
      have hr : InR [(0, 0), (-1000, 1000)] [(lw1f_at0 x0), (lw1f_at1 f0)] := ⟨r5, ⟨lw1f_rg6 x0 f0 f1 f2 f3 hpre, trivial⟩⟩
      have e1 : lw1f_c21 x0 f0 f1 f2 f3 = BE.ev [(lw1f_at0 x0), (lw1f_at1 f0)] (.cm .ne lw1f_q15 (.k (0))) := by kernel_rfl
      rw [e1]
      exact BE.tri_ok hr (by kernel_rfl) (by kernel_rfl)
    have h23 : (lw1f_c22 x0 f0 f1 f2 f3 = false) := by
      have r5 : Rg.has (0, 0) (lw1f_at0 x0) := by
        have hr : InR [(-100, 100)] [(lw1f_at0 x0)] := ⟨lw1f_rg5 x0 f0 f1 f2 f3 hpre, trivial⟩
        have ha := BE.all_ok hr lw1f_q12 (by kernel_rfl)
        have hx : BE.ev [(lw1f_at0 x0)] lw1f_q10 = false := (show BE.ev [(lw1f_at0 x0)] lw1f_q10 = lw1f_c2 x0 f0 f1 f2 f3 by kernel_rfl).trans h2
        have ha := orT ha (notF hx)
        exact rgB ha
      have hr : InR [(0, 0), (-1000, 1000)] [(lw1f_at0 x0), (lw1f_at1 f0)] := ⟨r5, ⟨lw1f_rg6 x0 f0 f1 f2 f3 hpre, trivial⟩⟩
      have e1 : lw1f_c22 x0 f0 f1 f2 f3 = BE.ev [(lw1f_at0 x0), (lw1f_at1 f0)] (.cm .ne lw1f_q16 (.k (0))) := by kernel_rfl
      rw [e1]
      exact BE.tri_ok hr (by kernel_rfl) (by kernel_rfl)
    have h24 : (lw1f_c23 x0 f0 f1 f2 f3 = false) := by
      have r5 : Rg.has (0, 0) (lw1f_at0 x0) := by
        have hr : InR [(-100, 100)] [(lw1f_at0 x0)] := ⟨lw1f_rg5 x0 f0 f1 f2 f3 hpre, trivial⟩
        have ha := BE.all_ok hr lw1f_q12 (by kernel_rfl)
        have hx : BE.ev [(lw1f_at0 x0)] lw1f_q10 = false := (show BE.ev [(lw1f_at0 x0)] lw1f_q10 = lw1f_c2 x0 f0 f1 f2 f3 by kernel_rfl).trans h2
        have ha := orT ha (notF hx)
        exact rgB ha
      have hr : InR [(0, 0), (-1000, 1000)] [(lw1f_at0 x0), (lw1f_at1 f0)] := ⟨r5, ⟨lw1f_rg6 x0 f0 f1 f2 f3 hpre, trivial⟩⟩
      have e1 : lw1f_c23 x0 f0 f1 f2 f3 = BE.ev [(lw1f_at0 x0), (lw1f_at1 f0)] (.cm .ne lw1f_q17 (.k (0))) := by kernel_rfl
      rw [e1]
      exact BE.tri_ok hr (by kernel_rfl) (by kernel_rfl)
    have h25 : (lw1f_c24 x0 f0 f1 f2 f3 = false) := by
      have r5 : Rg.has (0, 0) (lw1f_at0 x0) := by
        have hr : InR [(-100, 100)] [(lw1f_at0 x0)] := ⟨lw1f_rg5 x0 f0 f1 f2 f3 hpre, trivial⟩
        have ha := BE.all_ok hr lw1f_q12 (by kernel_rfl)
        have hx : BE.ev [(lw1f_at0 x0)] lw1f_q10 = false := (show BE.ev [(lw1f_at0 x0)] lw1f_q10 = lw1f_c2 x0 f0 f1 f2 f3 by kernel_rfl).trans h2
        have ha := orT ha (notF hx)
        exact rgB ha
      have hr : InR [(0, 0), (-1000, 1000)] [(lw1f_at0 x0), (lw1f_at1 f0)] := ⟨r5, ⟨lw1f_rg6 x0 f0 f1 f2 f3 hpre, trivial⟩⟩
      have e1 : lw1f_c24 x0 f0 f1 f2 f3 = BE.ev [(lw1f_at0 x0), (lw1f_at1 f0)] (.cm .ne lw1f_q18 (.k (0))) := by kernel_rfl
      rw [e1]
      exact BE.tri_ok hr (by kernel_rfl) (by kernel_rfl)
    have h26 : (lw1f_c25 x0 f0 f1 f2 f3 = false) := by
      have r5 : Rg.has (0, 0) (lw1f_at0 x0) := by
        have hr : InR [(-100, 100)] [(lw1f_at0 x0)] := ⟨lw1f_rg5 x0 f0 f1 f2 f3 hpre, trivial⟩
        have ha := BE.all_ok hr lw1f_q12 (by kernel_rfl)
        have hx : BE.ev [(lw1f_at0 x0)] lw1f_q10 = false := (show BE.ev [(lw1f_at0 x0)] lw1f_q10 = lw1f_c2 x0 f0 f1 f2 f3 by kernel_rfl).trans h2
        have ha := orT ha (notF hx)
        exact rgB ha
      have hr : InR [(0, 0), (-1000, 1000)] [(lw1f_at0 x0), (lw1f_at1 f0)] := ⟨r5, ⟨lw1f_rg6 x0 f0 f1 f2 f3 hpre, trivial⟩⟩
      have e1 : lw1f_c25 x0 f0 f1 f2 f3 = BE.ev [(lw1f_at0 x0), (lw1f_at1 f0)] (.cm .ne lw1f_q19 (.k (0))) := by kernel_rfl
      rw [e1]
      exact BE.tri_ok hr (by kernel_rfl) (by kernel_rfl)
    exact lw1f_p1 x0 f0 f1 f2 f3 c (lw1f_z2_h (lw1f_z0_h trivial x0 f0 f1 f2 f3 hpre) x0 f0 f1 f2 f3 hpre h2 h5 h6 h15 h16 h17 h18 h19 h20 h21 h22 h23 h24 h25 h26)
end Go.Proofs.YtencngffhbhifaaGreatDoor
end
section
set_option linter.all false
set_option maxRecDepth 1000000
set_option maxHeartbeats 2000000
open Go.RowKit
namespace Go.Proofs.YtencngffhbhifaaGreatDoor
open Mini
def lw1t_at0 (y : Int) : Int := (Int.tmod (IntKind.i64.wrap y) (101 : Int))
def lw1t_at1 (y : Int) : Int := (Int.tmod (IntKind.i64.wrap y) (1001 : Int))
def lw1t_q0 : IE := .ite .gt (.k (1)) (.k (-1)) (.k (1)) (.k (-1))
def lw1t_q1 : IE := .wr (.sub (.k (0)) (.wr (.mul (.v 5) (.k (1)))))
def lw1t_q2 : IE := .wr (.add (.k (0)) (.wr (.mul lw1t_q1 (.wr (.mul (.v 6) (.k (1)))))))
def lw1t_q3 : IE := .wr (.add (.k (0)) (.wr (.mul lw1t_q1 lw1t_q2)))
def lw1t_q4 : IE := .wr (.add (.k (0)) (.wr (.mul lw1t_q1 lw1t_q3)))
def lw1t_q5 : IE := .wr (.add (.k (0)) (.wr (.mul lw1t_q1 lw1t_q4)))
def lw1t_q6 : IE := .wr (.add (.k (0)) (.wr (.mul lw1t_q1 lw1t_q5)))
def lw1t_q7 : IE := .wr (.add (.k (0)) (.wr (.mul lw1t_q1 lw1t_q6)))
def lw1t_q8 : BE := .cm .ge (.ite .gt (.sub (.k (0)) (.v 0)) (.v 0) (.sub (.k (0)) (.v 0)) (.v 0)) (.k (1))
def lw1t_q9 : BE := .not (.beq (.not .t) (.cm .eq (.v 0) (.k (0))))
def lw1t_q10 : BE := .cm .ge (.ite .gt (.wr (.sub (.k (0)) (.v 0))) (.v 0) (.wr (.sub (.k (0)) (.v 0))) (.v 0)) lw1t_q0
def lw1t_q11 : BE := .not (.beq (.not (.cm .ge (.k (0)) (.k (0)))) (.cm .eq (.v 0) (.k (0))))
def lw1t_q12 : BE := .or (.not (.not lw1t_q10)) (.and (.cm .le (.k (0)) (.v 0)) (.cm .le (.v 0) (.k (0))))
def lw1t_q13 : IE := .wr (.sub (.k (0)) (.wr (.mul (.v 0) (.k (1)))))
def lw1t_q14 : IE := .wr (.add (.k (0)) (.wr (.mul lw1t_q13 (.wr (.mul (.v 1) (.k (1)))))))
def lw1t_q15 : IE := .wr (.add (.k (0)) (.wr (.mul lw1t_q13 lw1t_q14)))
def lw1t_q16 : IE := .wr (.add (.k (0)) (.wr (.mul lw1t_q13 lw1t_q15)))
def lw1t_q17 : IE := .wr (.add (.k (0)) (.wr (.mul lw1t_q13 lw1t_q16)))
def lw1t_q18 : IE := .wr (.add (.k (0)) (.wr (.mul lw1t_q13 lw1t_q17)))
def lw1t_q19 : IE := .wr (.add (.k (0)) (.wr (.mul lw1t_q13 lw1t_q18)))

theorem lw1t_X : FOkS Tryz.prog x_lw1t := bothX_ok (noXS_ok) (tabT_ok (by kernel_rfl) aw3_calls)
theorem lw1t_rg5 (x0 f0 f1 f2 f3 : Int) (hpre : True) : Rg.has (-100, 100) (lw1t_at0 x0) := by
  have h := IE.rng_ok (β := [(-9223372036854775808, 9223372036854775807)]) (ρ := [(IntKind.i64.wrap x0)]) ⟨wrR _, trivial⟩ (e := (.md (.v 0) 101)) (by kernel_rfl)
  rw [show IE.rng [(-9223372036854775808, 9223372036854775807)] (.md (.v 0) 101) = (-100, 100) from by kernel_rfl] at h
  exact h
theorem lw1t_rg6 (x0 f0 f1 f2 f3 : Int) (hpre : True) : Rg.has (-1000, 1000) (lw1t_at1 f0) := by
  have h := IE.rng_ok (β := [(-9223372036854775808, 9223372036854775807)]) (ρ := [(IntKind.i64.wrap f0)]) ⟨wrR _, trivial⟩ (e := (.md (.v 0) 1001)) (by kernel_rfl)
  rw [show IE.rng [(-9223372036854775808, 9223372036854775807)] (.md (.v 0) 1001) = (-1000, 1000) from by kernel_rfl] at h
  exact h
theorem lw1t_rg7 (x0 f0 f1 f2 f3 : Int) (hpre : True) : Rg.has (-1000, 1000) (lw1t_at1 f1) := by
  have h := IE.rng_ok (β := [(-9223372036854775808, 9223372036854775807)]) (ρ := [(IntKind.i64.wrap f1)]) ⟨wrR _, trivial⟩ (e := (.md (.v 0) 1001)) (by kernel_rfl)
  rw [show IE.rng [(-9223372036854775808, 9223372036854775807)] (.md (.v 0) 1001) = (-1000, 1000) from by kernel_rfl] at h
  exact h
theorem lw1t_rg8 (x0 f0 f1 f2 f3 : Int) (hpre : True) : Rg.has (-1000, 1000) (lw1t_at1 f2) := by
  have h := IE.rng_ok (β := [(-9223372036854775808, 9223372036854775807)]) (ρ := [(IntKind.i64.wrap f2)]) ⟨wrR _, trivial⟩ (e := (.md (.v 0) 1001)) (by kernel_rfl)
  rw [show IE.rng [(-9223372036854775808, 9223372036854775807)] (.md (.v 0) 1001) = (-1000, 1000) from by kernel_rfl] at h
  exact h
theorem lw1t_rg9 (x0 f0 f1 f2 f3 : Int) (hpre : True) : Rg.has (-1000, 1000) (lw1t_at1 f3) := by
  have h := IE.rng_ok (β := [(-9223372036854775808, 9223372036854775807)]) (ρ := [(IntKind.i64.wrap f3)]) ⟨wrR _, trivial⟩ (e := (.md (.v 0) 1001)) (by kernel_rfl)
  rw [show IE.rng [(-9223372036854775808, 9223372036854775807)] (.md (.v 0) 1001) = (-1000, 1000) from by kernel_rfl] at h
  exact h
def lw1t_R (x0 f0 f1 f2 f3 : Int) : List Int := [(IntKind.i64.wrap x0), (IntKind.i64.wrap f0), (IntKind.i64.wrap f1), (IntKind.i64.wrap f2), (IntKind.i64.wrap f3), (lw1t_at0 x0), (lw1t_at1 f0), (lw1t_at1 f1), (lw1t_at1 f2), (lw1t_at1 f3)]
def lw1t_B : List Rg := [(-9223372036854775808, 9223372036854775807), (-9223372036854775808, 9223372036854775807), (-9223372036854775808, 9223372036854775807), (-9223372036854775808, 9223372036854775807), (-9223372036854775808, 9223372036854775807), (-100, 100), (-1000, 1000), (-1000, 1000), (-1000, 1000), (-1000, 1000)]
theorem lw1t_hr (x0 f0 f1 f2 f3 : Int) (hpre : True) : InR lw1t_B (lw1t_R x0 f0 f1 f2 f3) := ⟨wrR _, ⟨wrR _, ⟨wrR _, ⟨wrR _, ⟨wrR _, ⟨lw1t_rg5 x0 f0 f1 f2 f3 hpre, ⟨lw1t_rg6 x0 f0 f1 f2 f3 hpre, ⟨lw1t_rg7 x0 f0 f1 f2 f3 hpre, ⟨lw1t_rg8 x0 f0 f1 f2 f3 hpre, ⟨lw1t_rg9 x0 f0 f1 f2 f3 hpre, trivial⟩⟩⟩⟩⟩⟩⟩⟩⟩⟩
def lw1t_h0 : Prop := (false = false)
theorem lw1t_g0 : (false = false) := by first | rfl | trivial | decide | omega
def lw1t_h1 : Prop := ((decide ((1 : Int) > (4 : Int))) = Bool.false)
theorem lw1t_g1 : ((decide ((1 : Int) > (4 : Int))) = Bool.false) := by first | rfl | trivial | decide | omega
def lw1t_h2 : Prop := (true = true)
theorem lw1t_g2 : (true = true) := by first | rfl | trivial | decide | omega
def lw1t_h3 : Prop := ((0 : Int) = (0 : Int))
theorem lw1t_g3 : ((0 : Int) = (0 : Int)) := by first | rfl | trivial | decide | omega
def lw1t_h4 : Prop := ((decide ((2 : Int) > (5 : Int))) = Bool.false)
theorem lw1t_g4 : ((decide ((2 : Int) > (5 : Int))) = Bool.false) := by first | rfl | trivial | decide | omega
def lw1t_c0 (x0 f0 f1 f2 f3 : Int) : Bool := BE.ev (lw1t_R x0 f0 f1 f2 f3) (.cm .lt (.v 5) (.k (-100)))
def lw1t_c1 (x0 f0 f1 f2 f3 : Int) : Bool := BE.ev (lw1t_R x0 f0 f1 f2 f3) (.cm .gt (.v 5) (.k (100)))
def lw1t_h7 : Prop := ((1 : Int) = (1 : Int))
theorem lw1t_g7 : ((1 : Int) = (1 : Int)) := by first | rfl | trivial | decide | omega
def lw1t_h8 : Prop := ((decide ((-1 : Int) > (100 : Int))) = Bool.false)
theorem lw1t_g8 : ((decide ((-1 : Int) > (100 : Int))) = Bool.false) := by first | rfl | trivial | decide | omega
def lw1t_h9 : Prop := ((Bool.false != Bool.false) = Bool.false)
theorem lw1t_g9 : ((Bool.false != Bool.false) = Bool.false) := by first | rfl | trivial | decide | omega
def lw1t_h10 : Prop := ((decide ((2 : Int) > (2 : Int))) = Bool.false)
theorem lw1t_g10 : ((decide ((2 : Int) > (2 : Int))) = Bool.false) := by first | rfl | trivial | decide | omega
def lw1t_c2 (x0 f0 f1 f2 f3 : Int) : Bool := BE.ev (lw1t_R x0 f0 f1 f2 f3) (.cm .ge (.ite .gt (.wr (.sub (.k (0)) (.v 5))) (.v 5) (.wr (.sub (.k (0)) (.v 5))) (.v 5)) lw1t_q0)
def lw1t_c3 (x0 f0 f1 f2 f3 : Int) : Bool := BE.ev (lw1t_R x0 f0 f1 f2 f3) (.not (.beq (.not (.cm .ge (.k (0)) (.k (0)))) (.cm .eq (.v 5) (.k (0)))))
def lw1t_c4 (x0 f0 f1 f2 f3 : Int) : Bool := BE.ev (lw1t_R x0 f0 f1 f2 f3) (.not (.cm .eq (.v 5) (.k (0))))
def lw1t_c5 (x0 f0 f1 f2 f3 : Int) : Bool := BE.ev (lw1t_R x0 f0 f1 f2 f3) (.not (.beq (.not (.cm .ge (.k (-1)) (.k (0)))) (.cm .eq (.v 5) (.k (0)))))
def lw1t_c6 (x0 f0 f1 f2 f3 : Int) : Bool := BE.ev (lw1t_R x0 f0 f1 f2 f3) (.cm .lt (.v 6) (.k (-1000)))
def lw1t_c7 (x0 f0 f1 f2 f3 : Int) : Bool := BE.ev (lw1t_R x0 f0 f1 f2 f3) (.cm .gt (.v 6) (.k (1000)))
def lw1t_h19 : Prop := ((decide ((6 : Int) > (24 : Int))) = Bool.false)
theorem lw1t_g19 : ((decide ((6 : Int) > (24 : Int))) = Bool.false) := by first | rfl | trivial | decide | omega
def lw1t_h20 : Prop := ((2 : Int) = (2 : Int))
theorem lw1t_g20 : ((2 : Int) = (2 : Int)) := by first | rfl | trivial | decide | omega
def lw1t_c8 (x0 f0 f1 f2 f3 : Int) : Bool := BE.ev (lw1t_R x0 f0 f1 f2 f3) (.cm .lt lw1t_q2 (.k (-1073741824)))
def lw1t_c9 (x0 f0 f1 f2 f3 : Int) : Bool := BE.ev (lw1t_R x0 f0 f1 f2 f3) (.cm .gt lw1t_q2 (.k (1073741824)))
def lw1t_c10 (x0 f0 f1 f2 f3 : Int) : Bool := BE.ev (lw1t_R x0 f0 f1 f2 f3) (.cm .lt lw1t_q3 (.k (-1073741824)))
def lw1t_c11 (x0 f0 f1 f2 f3 : Int) : Bool := BE.ev (lw1t_R x0 f0 f1 f2 f3) (.cm .gt lw1t_q3 (.k (1073741824)))
def lw1t_c12 (x0 f0 f1 f2 f3 : Int) : Bool := BE.ev (lw1t_R x0 f0 f1 f2 f3) (.cm .lt lw1t_q4 (.k (-1073741824)))
def lw1t_c13 (x0 f0 f1 f2 f3 : Int) : Bool := BE.ev (lw1t_R x0 f0 f1 f2 f3) (.cm .gt lw1t_q4 (.k (1073741824)))
def lw1t_h27 : Prop := ((3 : Int) = (3 : Int))
theorem lw1t_g27 : ((3 : Int) = (3 : Int)) := by first | rfl | trivial | decide | omega
def lw1t_c14 (x0 f0 f1 f2 f3 : Int) : Bool := BE.ev (lw1t_R x0 f0 f1 f2 f3) (.cm .lt lw1t_q5 (.k (-1073741824)))
def lw1t_c15 (x0 f0 f1 f2 f3 : Int) : Bool := BE.ev (lw1t_R x0 f0 f1 f2 f3) (.cm .gt lw1t_q5 (.k (1073741824)))
def lw1t_h30 : Prop := ((4 : Int) = (4 : Int))
theorem lw1t_g30 : ((4 : Int) = (4 : Int)) := by first | rfl | trivial | decide | omega
def lw1t_c16 (x0 f0 f1 f2 f3 : Int) : Bool := BE.ev (lw1t_R x0 f0 f1 f2 f3) (.cm .lt lw1t_q6 (.k (-1073741824)))
def lw1t_c17 (x0 f0 f1 f2 f3 : Int) : Bool := BE.ev (lw1t_R x0 f0 f1 f2 f3) (.cm .gt lw1t_q6 (.k (1073741824)))
def lw1t_h33 : Prop := ((5 : Int) = (5 : Int))
theorem lw1t_g33 : ((5 : Int) = (5 : Int)) := by first | rfl | trivial | decide | omega
def lw1t_c18 (x0 f0 f1 f2 f3 : Int) : Bool := BE.ev (lw1t_R x0 f0 f1 f2 f3) (.cm .lt lw1t_q7 (.k (-1073741824)))
def lw1t_c19 (x0 f0 f1 f2 f3 : Int) : Bool := BE.ev (lw1t_R x0 f0 f1 f2 f3) (.cm .gt lw1t_q7 (.k (1073741824)))
def lw1t_c20 (x0 f0 f1 f2 f3 : Int) : Bool := BE.ev (lw1t_R x0 f0 f1 f2 f3) (.cm .ne lw1t_q2 (.k (0)))
def lw1t_c21 (x0 f0 f1 f2 f3 : Int) : Bool := BE.ev (lw1t_R x0 f0 f1 f2 f3) (.cm .ne lw1t_q3 (.k (0)))
def lw1t_c22 (x0 f0 f1 f2 f3 : Int) : Bool := BE.ev (lw1t_R x0 f0 f1 f2 f3) (.cm .ne lw1t_q4 (.k (0)))
def lw1t_c23 (x0 f0 f1 f2 f3 : Int) : Bool := BE.ev (lw1t_R x0 f0 f1 f2 f3) (.cm .ne lw1t_q5 (.k (0)))
def lw1t_c24 (x0 f0 f1 f2 f3 : Int) : Bool := BE.ev (lw1t_R x0 f0 f1 f2 f3) (.cm .ne lw1t_q6 (.k (0)))
def lw1t_c25 (x0 f0 f1 f2 f3 : Int) : Bool := BE.ev (lw1t_R x0 f0 f1 f2 f3) (.cm .ne lw1t_q7 (.k (0)))
theorem lw1t_c0_ff (x0 f0 f1 f2 f3 : Int) (hpre : True) : lw1t_c0 x0 f0 f1 f2 f3 = false :=
  BE.tri_ok (lw1t_hr x0 f0 f1 f2 f3 hpre) (e := (.cm .lt (.v 5) (.k (-100)))) (by kernel_rfl) (by kernel_rfl)
theorem lw1t_c1_ff (x0 f0 f1 f2 f3 : Int) (hpre : True) : lw1t_c1 x0 f0 f1 f2 f3 = false :=
  BE.tri_ok (lw1t_hr x0 f0 f1 f2 f3 hpre) (e := (.cm .gt (.v 5) (.k (100)))) (by kernel_rfl) (by kernel_rfl)
theorem lw1t_c6_ff (x0 f0 f1 f2 f3 : Int) (hpre : True) : lw1t_c6 x0 f0 f1 f2 f3 = false :=
  BE.tri_ok (lw1t_hr x0 f0 f1 f2 f3 hpre) (e := (.cm .lt (.v 6) (.k (-1000)))) (by kernel_rfl) (by kernel_rfl)
theorem lw1t_c7_ff (x0 f0 f1 f2 f3 : Int) (hpre : True) : lw1t_c7 x0 f0 f1 f2 f3 = false :=
  BE.tri_ok (lw1t_hr x0 f0 f1 f2 f3 hpre) (e := (.cm .gt (.v 6) (.k (1000)))) (by kernel_rfl) (by kernel_rfl)
theorem lw1t_c8_ff (x0 f0 f1 f2 f3 : Int) (hpre : True) : lw1t_c8 x0 f0 f1 f2 f3 = false :=
  BE.tri_ok (lw1t_hr x0 f0 f1 f2 f3 hpre) (e := (.cm .lt lw1t_q2 (.k (-1073741824)))) (by kernel_rfl) (by kernel_rfl)
theorem lw1t_c9_ff (x0 f0 f1 f2 f3 : Int) (hpre : True) : lw1t_c9 x0 f0 f1 f2 f3 = false :=
  BE.tri_ok (lw1t_hr x0 f0 f1 f2 f3 hpre) (e := (.cm .gt lw1t_q2 (.k (1073741824)))) (by kernel_rfl) (by kernel_rfl)
theorem lw1t_c10_ff (x0 f0 f1 f2 f3 : Int) (hpre : True) : lw1t_c10 x0 f0 f1 f2 f3 = false :=
  BE.tri_ok (lw1t_hr x0 f0 f1 f2 f3 hpre) (e := (.cm .lt lw1t_q3 (.k (-1073741824)))) (by kernel_rfl) (by kernel_rfl)
theorem lw1t_c11_ff (x0 f0 f1 f2 f3 : Int) (hpre : True) : lw1t_c11 x0 f0 f1 f2 f3 = false :=
  BE.tri_ok (lw1t_hr x0 f0 f1 f2 f3 hpre) (e := (.cm .gt lw1t_q3 (.k (1073741824)))) (by kernel_rfl) (by kernel_rfl)
theorem lw1t_c12_ff (x0 f0 f1 f2 f3 : Int) (hpre : True) : lw1t_c12 x0 f0 f1 f2 f3 = false :=
  BE.tri_ok (lw1t_hr x0 f0 f1 f2 f3 hpre) (e := (.cm .lt lw1t_q4 (.k (-1073741824)))) (by kernel_rfl) (by kernel_rfl)
theorem lw1t_c13_ff (x0 f0 f1 f2 f3 : Int) (hpre : True) : lw1t_c13 x0 f0 f1 f2 f3 = false :=
  BE.tri_ok (lw1t_hr x0 f0 f1 f2 f3 hpre) (e := (.cm .gt lw1t_q4 (.k (1073741824)))) (by kernel_rfl) (by kernel_rfl)
def lw1t_z0 (P : Prop) (x0 f0 f1 f2 f3 : Int) : Prop := (((((((((((((((((((((((((((((((((((((((((((((((((((((P ∧ lw1t_h0) ∧ lw1t_h0) ∧ lw1t_h0) ∧ lw1t_h0) ∧ lw1t_h1) ∧ lw1t_h2) ∧ lw1t_h3) ∧ lw1t_h0) ∧ lw1t_h3) ∧ lw1t_h0) ∧ lw1t_h2) ∧ lw1t_h2) ∧ lw1t_h2) ∧ lw1t_h3) ∧ lw1t_h2) ∧ lw1t_h2) ∧ lw1t_h2) ∧ lw1t_h0) ∧ lw1t_h2) ∧ lw1t_h0) ∧ lw1t_h4) ∧ lw1t_h2) ∧ lw1t_h3) ∧ (lw1t_c0 x0 f0 f1 f2 f3 = false)) ∧ (lw1t_c0 x0 f0 f1 f2 f3 = false)) ∧ (lw1t_c0 x0 f0 f1 f2 f3 = false)) ∧ (lw1t_c0 x0 f0 f1 f2 f3 = false)) ∧ (lw1t_c1 x0 f0 f1 f2 f3 = false)) ∧ lw1t_h0) ∧ lw1t_h2) ∧ lw1t_h7) ∧ lw1t_h0) ∧ lw1t_h0) ∧ lw1t_h0) ∧ lw1t_h0) ∧ lw1t_h8) ∧ lw1t_h0) ∧ lw1t_h0) ∧ lw1t_h0) ∧ lw1t_h7) ∧ lw1t_h0) ∧ lw1t_h0) ∧ lw1t_h0) ∧ lw1t_h9) ∧ lw1t_h10) ∧ lw1t_h10) ∧ lw1t_h10) ∧ lw1t_h10) ∧ lw1t_h0) ∧ lw1t_h2) ∧ lw1t_h3) ∧ lw1t_h3) ∧ lw1t_h7)
theorem lw1t_z0_h {P : Prop} (h : P) (x0 f0 f1 f2 f3 : Int) (hpre : True) : lw1t_z0 P x0 f0 f1 f2 f3 := ⟨⟨⟨⟨⟨⟨⟨⟨⟨⟨⟨⟨⟨⟨⟨⟨⟨⟨⟨⟨⟨⟨⟨⟨⟨⟨⟨⟨⟨⟨⟨⟨⟨⟨⟨⟨⟨⟨⟨⟨⟨⟨⟨⟨⟨⟨⟨⟨⟨⟨⟨⟨⟨h, lw1t_g0⟩, lw1t_g0⟩, lw1t_g0⟩, lw1t_g0⟩, lw1t_g1⟩, lw1t_g2⟩, lw1t_g3⟩, lw1t_g0⟩, lw1t_g3⟩, lw1t_g0⟩, lw1t_g2⟩, lw1t_g2⟩, lw1t_g2⟩, lw1t_g3⟩, lw1t_g2⟩, lw1t_g2⟩, lw1t_g2⟩, lw1t_g0⟩, lw1t_g2⟩, lw1t_g0⟩, lw1t_g4⟩, lw1t_g2⟩, lw1t_g3⟩, (lw1t_c0_ff x0 f0 f1 f2 f3 hpre)⟩, (lw1t_c0_ff x0 f0 f1 f2 f3 hpre)⟩, (lw1t_c0_ff x0 f0 f1 f2 f3 hpre)⟩, (lw1t_c0_ff x0 f0 f1 f2 f3 hpre)⟩, (lw1t_c1_ff x0 f0 f1 f2 f3 hpre)⟩, lw1t_g0⟩, lw1t_g2⟩, lw1t_g7⟩, lw1t_g0⟩, lw1t_g0⟩, lw1t_g0⟩, lw1t_g0⟩, lw1t_g8⟩, lw1t_g0⟩, lw1t_g0⟩, lw1t_g0⟩, lw1t_g7⟩, lw1t_g0⟩, lw1t_g0⟩, lw1t_g0⟩, lw1t_g9⟩, lw1t_g10⟩, lw1t_g10⟩, lw1t_g10⟩, lw1t_g10⟩, lw1t_g0⟩, lw1t_g2⟩, lw1t_g3⟩, lw1t_g3⟩, lw1t_g7⟩
def lw1t_z1 (P : Prop) (x0 f0 f1 f2 f3 : Int) : Prop := (((((((P ∧ (lw1t_c2 x0 f0 f1 f2 f3 = true)) ∧ lw1t_h0) ∧ lw1t_h0) ∧ lw1t_h0) ∧ lw1t_h0) ∧ (lw1t_c3 x0 f0 f1 f2 f3 = false)) ∧ (lw1t_c4 x0 f0 f1 f2 f3 = true))
theorem lw1t_z1_h {P : Prop} (h : P) (x0 f0 f1 f2 f3 : Int) (hpre : True) (k0 : (lw1t_c2 x0 f0 f1 f2 f3 = true)) (k1 : (lw1t_c3 x0 f0 f1 f2 f3 = false)) (k2 : (lw1t_c4 x0 f0 f1 f2 f3 = true)) : lw1t_z1 P x0 f0 f1 f2 f3 := ⟨⟨⟨⟨⟨⟨⟨h, k0⟩, lw1t_g0⟩, lw1t_g0⟩, lw1t_g0⟩, lw1t_g0⟩, k1⟩, k2⟩
def lw1t_z2 (P : Prop) (x0 f0 f1 f2 f3 : Int) : Prop := (((((((((((((((((((((((((((((((((((((((((((((((((((((((((((((((((((((((((((((((((((((((((((((((((((((((((((((((((((((((((((((((((((((((((((((((((((((((((((((((((((((((P ∧ (lw1t_c2 x0 f0 f1 f2 f3 = false)) ∧ lw1t_h0) ∧ lw1t_h0) ∧ lw1t_h0) ∧ lw1t_h0) ∧ lw1t_h0) ∧ (lw1t_c5 x0 f0 f1 f2 f3 = false)) ∧ (lw1t_c4 x0 f0 f1 f2 f3 = false)) ∧ lw1t_h0) ∧ lw1t_h4) ∧ lw1t_h2) ∧ lw1t_h3) ∧ (lw1t_c0 x0 f0 f1 f2 f3 = false)) ∧ (lw1t_c0 x0 f0 f1 f2 f3 = false)) ∧ (lw1t_c0 x0 f0 f1 f2 f3 = false)) ∧ (lw1t_c0 x0 f0 f1 f2 f3 = false)) ∧ (lw1t_c1 x0 f0 f1 f2 f3 = false)) ∧ lw1t_h0) ∧ lw1t_h2) ∧ lw1t_h7) ∧ lw1t_h0) ∧ lw1t_h0) ∧ lw1t_h0) ∧ lw1t_h0) ∧ lw1t_h8) ∧ lw1t_h0) ∧ lw1t_h0) ∧ lw1t_h0) ∧ lw1t_h7) ∧ lw1t_h0) ∧ lw1t_h0) ∧ lw1t_h0) ∧ lw1t_h2) ∧ lw1t_h3) ∧ (lw1t_c6 x0 f0 f1 f2 f3 = false)) ∧ (lw1t_c6 x0 f0 f1 f2 f3 = false)) ∧ (lw1t_c6 x0 f0 f1 f2 f3 = false)) ∧ (lw1t_c6 x0 f0 f1 f2 f3 = false)) ∧ (lw1t_c7 x0 f0 f1 f2 f3 = false)) ∧ lw1t_h0) ∧ lw1t_h0) ∧ lw1t_h0) ∧ lw1t_h0) ∧ lw1t_h0) ∧ lw1t_h0) ∧ lw1t_h19) ∧ lw1t_h2) ∧ lw1t_h3) ∧ lw1t_h0) ∧ lw1t_h2) ∧ lw1t_h7) ∧ lw1t_h0) ∧ lw1t_h2) ∧ lw1t_h20) ∧ lw1t_h0) ∧ lw1t_h0) ∧ lw1t_h0) ∧ lw1t_h2) ∧ lw1t_h3) ∧ lw1t_h7) ∧ lw1t_h0) ∧ lw1t_h3) ∧ lw1t_h0) ∧ lw1t_h2) ∧ lw1t_h3) ∧ lw1t_h7) ∧ lw1t_h0) ∧ lw1t_h3) ∧ lw1t_h0) ∧ lw1t_h2) ∧ lw1t_h3) ∧ lw1t_h3) ∧ lw1t_h0) ∧ lw1t_h2) ∧ lw1t_h2) ∧ lw1t_h3) ∧ lw1t_h3) ∧ lw1t_h0) ∧ (lw1t_c8 x0 f0 f1 f2 f3 = false)) ∧ (lw1t_c8 x0 f0 f1 f2 f3 = false)) ∧ (lw1t_c8 x0 f0 f1 f2 f3 = false)) ∧ (lw1t_c8 x0 f0 f1 f2 f3 = false)) ∧ (lw1t_c9 x0 f0 f1 f2 f3 = false)) ∧ lw1t_h0) ∧ lw1t_h2) ∧ lw1t_h2) ∧ lw1t_h3) ∧ lw1t_h7) ∧ lw1t_h0) ∧ (lw1t_c10 x0 f0 f1 f2 f3 = false)) ∧ (lw1t_c10 x0 f0 f1 f2 f3 = false)) ∧ (lw1t_c10 x0 f0 f1 f2 f3 = false)) ∧ (lw1t_c10 x0 f0 f1 f2 f3 = false)) ∧ (lw1t_c11 x0 f0 f1 f2 f3 = false)) ∧ lw1t_h0) ∧ lw1t_h2) ∧ lw1t_h2) ∧ lw1t_h3) ∧ lw1t_h20) ∧ lw1t_h0) ∧ (lw1t_c12 x0 f0 f1 f2 f3 = false)) ∧ (lw1t_c12 x0 f0 f1 f2 f3 = false)) ∧ (lw1t_c12 x0 f0 f1 f2 f3 = false)) ∧ (lw1t_c12 x0 f0 f1 f2 f3 = false)) ∧ (lw1t_c13 x0 f0 f1 f2 f3 = false)) ∧ lw1t_h0) ∧ lw1t_h2) ∧ lw1t_h2) ∧ lw1t_h3) ∧ lw1t_h27) ∧ lw1t_h0) ∧ (lw1t_c14 x0 f0 f1 f2 f3 = false)) ∧ (lw1t_c14 x0 f0 f1 f2 f3 = false)) ∧ (lw1t_c14 x0 f0 f1 f2 f3 = false)) ∧ (lw1t_c14 x0 f0 f1 f2 f3 = false)) ∧ (lw1t_c15 x0 f0 f1 f2 f3 = false)) ∧ lw1t_h0) ∧ lw1t_h2) ∧ lw1t_h2) ∧ lw1t_h3) ∧ lw1t_h30) ∧ lw1t_h0) ∧ (lw1t_c16 x0 f0 f1 f2 f3 = false)) ∧ (lw1t_c16 x0 f0 f1 f2 f3 = false)) ∧ (lw1t_c16 x0 f0 f1 f2 f3 = false)) ∧ (lw1t_c16 x0 f0 f1 f2 f3 = false)) ∧ (lw1t_c17 x0 f0 f1 f2 f3 = false)) ∧ lw1t_h0) ∧ lw1t_h2) ∧ lw1t_h2) ∧ lw1t_h3) ∧ lw1t_h33) ∧ lw1t_h0) ∧ (lw1t_c18 x0 f0 f1 f2 f3 = false)) ∧ (lw1t_c18 x0 f0 f1 f2 f3 = false)) ∧ (lw1t_c18 x0 f0 f1 f2 f3 = false)) ∧ (lw1t_c18 x0 f0 f1 f2 f3 = false)) ∧ (lw1t_c19 x0 f0 f1 f2 f3 = false)) ∧ lw1t_h0) ∧ lw1t_h0) ∧ lw1t_h0) ∧ lw1t_h0) ∧ lw1t_h0) ∧ lw1t_h0) ∧ lw1t_h0) ∧ lw1t_h0) ∧ lw1t_h0) ∧ lw1t_h0) ∧ lw1t_h2) ∧ lw1t_h3) ∧ (lw1t_c20 x0 f0 f1 f2 f3 = false)) ∧ lw1t_h2) ∧ lw1t_h7) ∧ (lw1t_c21 x0 f0 f1 f2 f3 = false)) ∧ lw1t_h2) ∧ lw1t_h20) ∧ (lw1t_c22 x0 f0 f1 f2 f3 = false)) ∧ lw1t_h2) ∧ lw1t_h27) ∧ (lw1t_c23 x0 f0 f1 f2 f3 = false)) ∧ lw1t_h2) ∧ lw1t_h30) ∧ (lw1t_c24 x0 f0 f1 f2 f3 = false)) ∧ lw1t_h2) ∧ lw1t_h33) ∧ (lw1t_c25 x0 f0 f1 f2 f3 = false)) ∧ lw1t_h0)
theorem lw1t_z2_h {P : Prop} (h : P) (x0 f0 f1 f2 f3 : Int) (hpre : True) (k0 : (lw1t_c2 x0 f0 f1 f2 f3 = false)) (k1 : (lw1t_c5 x0 f0 f1 f2 f3 = false)) (k2 : (lw1t_c4 x0 f0 f1 f2 f3 = false)) (k3 : (lw1t_c14 x0 f0 f1 f2 f3 = false)) (k4 : (lw1t_c15 x0 f0 f1 f2 f3 = false)) (k5 : (lw1t_c16 x0 f0 f1 f2 f3 = false)) (k6 : (lw1t_c17 x0 f0 f1 f2 f3 = false)) (k7 : (lw1t_c18 x0 f0 f1 f2 f3 = false)) (k8 : (lw1t_c19 x0 f0 f1 f2 f3 = false)) (k9 : (lw1t_c20 x0 f0 f1 f2 f3 = false)) (k10 : (lw1t_c21 x0 f0 f1 f2 f3 = false)) (k11 : (lw1t_c22 x0 f0 f1 f2 f3 = false)) (k12 : (lw1t_c23 x0 f0 f1 f2 f3 = false)) (k13 : (lw1t_c24 x0 f0 f1 f2 f3 = false)) (k14 : (lw1t_c25 x0 f0 f1 f2 f3 = false)) : lw1t_z2 P x0 f0 f1 f2 f3 := ⟨⟨⟨⟨⟨⟨⟨⟨⟨⟨⟨⟨⟨⟨⟨⟨⟨⟨⟨⟨⟨⟨⟨⟨⟨⟨⟨⟨⟨⟨⟨⟨⟨⟨⟨⟨⟨⟨⟨⟨⟨⟨⟨⟨⟨⟨⟨⟨⟨⟨⟨⟨⟨⟨⟨⟨⟨⟨⟨⟨⟨⟨⟨⟨⟨⟨⟨⟨⟨⟨⟨⟨⟨⟨⟨⟨⟨⟨⟨⟨⟨⟨⟨⟨⟨⟨⟨⟨⟨⟨⟨⟨⟨⟨⟨⟨⟨⟨⟨⟨⟨⟨⟨⟨⟨⟨⟨⟨⟨⟨⟨⟨⟨⟨⟨⟨⟨⟨⟨⟨⟨⟨⟨⟨⟨⟨⟨⟨⟨⟨⟨⟨⟨⟨⟨⟨⟨⟨⟨⟨⟨⟨⟨⟨⟨⟨⟨⟨⟨⟨⟨⟨⟨⟨⟨⟨⟨⟨⟨⟨⟨⟨⟨⟨⟨⟨⟨h, k0⟩, lw1t_g0⟩, lw1t_g0⟩, lw1t_g0⟩, lw1t_g0⟩, lw1t_g0⟩, k1⟩, k2⟩, lw1t_g0⟩, lw1t_g4⟩, lw1t_g2⟩, lw1t_g3⟩, (lw1t_c0_ff x0 f0 f1 f2 f3 hpre)⟩, (lw1t_c0_ff x0 f0 f1 f2 f3 hpre)⟩, (lw1t_c0_ff x0 f0 f1 f2 f3 hpre)⟩, (lw1t_c0_ff x0 f0 f1 f2 f3 hpre)⟩, (lw1t_c1_ff x0 f0 f1 f2 f3 hpre)⟩, lw1t_g0⟩, lw1t_g2⟩, lw1t_g7⟩, lw1t_g0⟩, lw1t_g0⟩, lw1t_g0⟩, lw1t_g0⟩, lw1t_g8⟩, lw1t_g0⟩, lw1t_g0⟩, lw1t_g0⟩, lw1t_g7⟩, lw1t_g0⟩, lw1t_g0⟩, lw1t_g0⟩, lw1t_g2⟩, lw1t_g3⟩, (lw1t_c6_ff x0 f0 f1 f2 f3 hpre)⟩, (lw1t_c6_ff x0 f0 f1 f2 f3 hpre)⟩, (lw1t_c6_ff x0 f0 f1 f2 f3 hpre)⟩, (lw1t_c6_ff x0 f0 f1 f2 f3 hpre)⟩, (lw1t_c7_ff x0 f0 f1 f2 f3 hpre)⟩, lw1t_g0⟩, lw1t_g0⟩, lw1t_g0⟩, lw1t_g0⟩, lw1t_g0⟩, lw1t_g0⟩, lw1t_g19⟩, lw1t_g2⟩, lw1t_g3⟩, lw1t_g0⟩, lw1t_g2⟩, lw1t_g7⟩, lw1t_g0⟩, lw1t_g2⟩, lw1t_g20⟩, lw1t_g0⟩, lw1t_g0⟩, lw1t_g0⟩, lw1t_g2⟩, lw1t_g3⟩, lw1t_g7⟩, lw1t_g0⟩, lw1t_g3⟩, lw1t_g0⟩, lw1t_g2⟩, lw1t_g3⟩, lw1t_g7⟩, lw1t_g0⟩, lw1t_g3⟩, lw1t_g0⟩, lw1t_g2⟩, lw1t_g3⟩, lw1t_g3⟩, lw1t_g0⟩, lw1t_g2⟩, lw1t_g2⟩, lw1t_g3⟩, lw1t_g3⟩, lw1t_g0⟩, (lw1t_c8_ff x0 f0 f1 f2 f3 hpre)⟩, (lw1t_c8_ff x0 f0 f1 f2 f3 hpre)⟩, (lw1t_c8_ff x0 f0 f1 f2 f3 hpre)⟩, (lw1t_c8_ff x0 f0 f1 f2 f3 hpre)⟩, (lw1t_c9_ff x0 f0 f1 f2 f3 hpre)⟩, lw1t_g0⟩, lw1t_g2⟩, lw1t_g2⟩, lw1t_g3⟩, lw1t_g7⟩, lw1t_g0⟩, (lw1t_c10_ff x0 f0 f1 f2 f3 hpre)⟩, (lw1t_c10_ff x0 f0 f1 f2 f3 hpre)⟩, (lw1t_c10_ff x0 f0 f1 f2 f3 hpre)⟩, (lw1t_c10_ff x0 f0 f1 f2 f3 hpre)⟩, (lw1t_c11_ff x0 f0 f1 f2 f3 hpre)⟩, lw1t_g0⟩, lw1t_g2⟩, lw1t_g2⟩, lw1t_g3⟩, lw1t_g20⟩, lw1t_g0⟩, (lw1t_c12_ff x0 f0 f1 f2 f3 hpre)⟩, (lw1t_c12_ff x0 f0 f1 f2 f3 hpre)⟩, (lw1t_c12_ff x0 f0 f1 f2 f3 hpre)⟩, (lw1t_c12_ff x0 f0 f1 f2 f3 hpre)⟩, (lw1t_c13_ff x0 f0 f1 f2 f3 hpre)⟩, lw1t_g0⟩, lw1t_g2⟩, lw1t_g2⟩, lw1t_g3⟩, lw1t_g27⟩, lw1t_g0⟩, k3⟩, k3⟩, k3⟩, k3⟩, k4⟩, lw1t_g0⟩, lw1t_g2⟩, lw1t_g2⟩, lw1t_g3⟩, lw1t_g30⟩, lw1t_g0⟩, k5⟩, k5⟩, k5⟩, k5⟩, k6⟩, lw1t_g0⟩, lw1t_g2⟩, lw1t_g2⟩, lw1t_g3⟩, lw1t_g33⟩, lw1t_g0⟩, k7⟩, k7⟩, k7⟩, k7⟩, k8⟩, lw1t_g0⟩, lw1t_g0⟩, lw1t_g0⟩, lw1t_g0⟩, lw1t_g0⟩, lw1t_g0⟩, lw1t_g0⟩, lw1t_g0⟩, lw1t_g0⟩, lw1t_g0⟩, lw1t_g2⟩, lw1t_g3⟩, k9⟩, lw1t_g2⟩, lw1t_g7⟩, k10⟩, lw1t_g2⟩, lw1t_g20⟩, k11⟩, lw1t_g2⟩, lw1t_g27⟩, k12⟩, lw1t_g2⟩, lw1t_g30⟩, k13⟩, lw1t_g2⟩, lw1t_g33⟩, k14⟩, lw1t_g0⟩
def lw1t_r0 (x0 f0 f1 f2 f3 : Int) : Prop := (lw1t_z1 (lw1t_z0 True x0 f0 f1 f2 f3) x0 f0 f1 f2 f3)
theorem lw1t_o0 (x0 f0 f1 f2 f3 : Int) (c : Nat) : obY (lw1t_e0 x0 f0 f1 f2 f3 c) = lw1t_r0 x0 f0 f1 f2 f3 := by kernel_rfl
theorem lw1t_g0_ (x0 f0 f1 f2 f3 : Int) (c : Nat) : goodY (lw1t_e0 x0 f0 f1 f2 f3 c) = true := by kernel_rfl
theorem lw1t_p0 (x0 f0 f1 f2 f3 : Int) (c : Nat) (h : lw1t_r0 x0 f0 f1 f2 f3) : ∃ s1 R, SndF Tryz.prog 3 #[.slice (some ⟨6, 0, none⟩) 1 c, .bool true, .agg #[.int .i16 f0, .int .i16 f1, .int .i16 f2, .int .i16 f3]] (aw3S0.push (.cells [.int .i8 x0] 0 true 0 true)) (.bool true) s1 R 0 :=
  sndY (r := lw1t_e0 x0 f0 f1 f2 f3 c) (by delta lw1t_e0; exact Eq.refl _) gfol lw1t_X (lw1t_g0_ x0 f0 f1 f2 f3 c) ((lw1t_o0 x0 f0 f1 f2 f3 c).symm ▸ h)
def lw1t_r1 (x0 f0 f1 f2 f3 : Int) : Prop := (lw1t_z2 (lw1t_z0 True x0 f0 f1 f2 f3) x0 f0 f1 f2 f3)
theorem lw1t_o1 (x0 f0 f1 f2 f3 : Int) (c : Nat) : obY (lw1t_e1 x0 f0 f1 f2 f3 c) = lw1t_r1 x0 f0 f1 f2 f3 := by kernel_rfl
theorem lw1t_g1_ (x0 f0 f1 f2 f3 : Int) (c : Nat) : goodY (lw1t_e1 x0 f0 f1 f2 f3 c) = true := by kernel_rfl
theorem lw1t_p1 (x0 f0 f1 f2 f3 : Int) (c : Nat) (h : lw1t_r1 x0 f0 f1 f2 f3) : ∃ s1 R, SndF Tryz.prog 3 #[.slice (some ⟨6, 0, none⟩) 1 c, .bool true, .agg #[.int .i16 f0, .int .i16 f1, .int .i16 f2, .int .i16 f3]] (aw3S0.push (.cells [.int .i8 x0] 0 true 0 true)) (.bool true) s1 R 0 :=
  sndY (r := lw1t_e1 x0 f0 f1 f2 f3 c) (by delta lw1t_e1; exact Eq.refl _) gfol lw1t_X (lw1t_g1_ x0 f0 f1 f2 f3 c) ((lw1t_o1 x0 f0 f1 f2 f3 c).symm ▸ h)
theorem lw1t_any (x0 f0 f1 f2 f3 : Int) (c : Nat) (hpre : True) : ∃ s1 R, SndF Tryz.prog 3 #[.slice (some ⟨6, 0, none⟩) 1 c, .bool true, .agg #[.int .i16 f0, .int .i16 f1, .int .i16 f2, .int .i16 f3]] (aw3S0.push (.cells [.int .i8 x0] 0 true 0 true)) (.bool true) s1 R 0 := by
  have h0 : (lw1t_c0 x0 f0 f1 f2 f3 = false) := lw1t_c0_ff x0 f0 f1 f2 f3 hpre
  have h1 : (lw1t_c1 x0 f0 f1 f2 f3 = false) := lw1t_c1_ff x0 f0 f1 f2 f3 hpre
  rcases Bool.eq_false_or_eq_true (lw1t_c2 x0 f0 f1 f2 f3) with h2 | h2
  ·
    have h3 : (lw1t_c3 x0 f0 f1 f2 f3 = false) := by
      have hr : InR [(-100, 100)] [(lw1t_at0 x0)] := ⟨lw1t_rg5 x0 f0 f1 f2 f3 hpre, trivial⟩
      have hr2 : InR [(-100, 100)] [(lw1t_at0 x0)] := ⟨lw1t_rg5 x0 f0 f1 f2 f3 hpre, trivial⟩
      have ha := BE.all_ok hr2 (.or (.not lw1t_q8) (.not lw1t_q9)) (by kernel_rfl)
      have hx : BE.ev [(lw1t_at0 x0)] lw1t_q8 = true := (show BE.ev [(lw1t_at0 x0)] lw1t_q8 = BE.ev [(lw1t_at0 x0)] lw1t_q8 by kernel_rfl).trans ((BE.smp_to hr lw1t_q10 lw1t_q8 (by kernel_rfl) (by kernel_rfl)).symm.trans ((show BE.ev [(lw1t_at0 x0)] lw1t_q10 = lw1t_c2 x0 f0 f1 f2 f3 by kernel_rfl).trans h2))
      have ha := orT ha hx
      exact (show lw1t_c3 x0 f0 f1 f2 f3 = BE.ev [(lw1t_at0 x0)] lw1t_q11 by kernel_rfl).trans ((BE.smp_to hr lw1t_q11 lw1t_q9 (by kernel_rfl) (by kernel_rfl)).trans ((show BE.ev [(lw1t_at0 x0)] lw1t_q9 = BE.ev [(lw1t_at0 x0)] lw1t_q9 by kernel_rfl).trans (notT ha)))
    have h4 : (lw1t_c4 x0 f0 f1 f2 f3 = true) := by
      have hr : InR [(-100, 100)] [(lw1t_at0 x0)] := ⟨lw1t_rg5 x0 f0 f1 f2 f3 hpre, trivial⟩
      have hr2 : InR [(-100, 100)] [(lw1t_at0 x0)] := ⟨lw1t_rg5 x0 f0 f1 f2 f3 hpre, trivial⟩
      have ha := BE.all_ok hr2 (.or (.not lw1t_q8) (.not (.cm .eq (.v 0) (.k (0))))) (by kernel_rfl)
      have hx : BE.ev [(lw1t_at0 x0)] lw1t_q8 = true := (show BE.ev [(lw1t_at0 x0)] lw1t_q8 = BE.ev [(lw1t_at0 x0)] lw1t_q8 by kernel_rfl).trans ((BE.smp_to hr lw1t_q10 lw1t_q8 (by kernel_rfl) (by kernel_rfl)).symm.trans ((show BE.ev [(lw1t_at0 x0)] lw1t_q10 = lw1t_c2 x0 f0 f1 f2 f3 by kernel_rfl).trans h2))
      have ha := orT ha hx
      exact (show lw1t_c4 x0 f0 f1 f2 f3 = BE.ev [(lw1t_at0 x0)] (.not (.cm .eq (.v 0) (.k (0)))) by kernel_rfl).trans ((BE.smp_to hr (.not (.cm .eq (.v 0) (.k (0)))) (.not (.cm .eq (.v 0) (.k (0)))) (by kernel_rfl) (by kernel_rfl)).trans ((show BE.ev [(lw1t_at0 x0)] (.not (.cm .eq (.v 0) (.k (0)))) = BE.ev [(lw1t_at0 x0)] (.not (.cm .eq (.v 0) (.k (0)))) by kernel_rfl).trans (ha)))
    exact lw1t_p0 x0 f0 f1 f2 f3 c (lw1t_z1_h (lw1t_z0_h trivial x0 f0 f1 f2 f3 hpre) x0 f0 f1 f2 f3 hpre h2 h3 h4)
  ·
    have h5 : (lw1t_c5 x0 f0 f1 f2 f3 = false) := by
      have r5 : Rg.has (0, 0) (lw1t_at0 x0) := by
        have hr : InR [(-100, 100)] [(lw1t_at0 x0)] := ⟨lw1t_rg5 x0 f0 f1 f2 f3 hpre, trivial⟩
        have ha := BE.all_ok hr lw1t_q12 (by kernel_rfl)
        have hx : BE.ev [(lw1t_at0 x0)] lw1t_q10 = false := (show BE.ev [(lw1t_at0 x0)] lw1t_q10 = lw1t_c2 x0 f0 f1 f2 f3 by kernel_rfl).trans h2
        have ha := orT ha (notF hx)
        exact rgB ha
      have hr : InR [(0, 0)] [(lw1t_at0 x0)] := ⟨r5, trivial⟩
      have e1 : lw1t_c5 x0 f0 f1 f2 f3 = BE.ev [(lw1t_at0 x0)] (.not (.beq (.not (.cm .ge (.k (-1)) (.k (0)))) (.cm .eq (.v 0) (.k (0))))) := by kernel_rfl
      rw [e1]
      exact BE.tri_ok hr (by kernel_rfl) (by kernel_rfl)
    have h6 : (lw1t_c4 x0 f0 f1 f2 f3 = false) := by
      have r5 : Rg.has (0, 0) (lw1t_at0 x0) := by
        have hr : InR [(-100, 100)] [(lw1t_at0 x0)] := ⟨lw1t_rg5 x0 f0 f1 f2 f3 hpre, trivial⟩
        have ha := BE.all_ok hr lw1t_q12 (by kernel_rfl)
        have hx : BE.ev [(lw1t_at0 x0)] lw1t_q10 = false := (show BE.ev [(lw1t_at0 x0)] lw1t_q10 = lw1t_c2 x0 f0 f1 f2 f3 by kernel_rfl).trans h2
        have ha := orT ha (notF hx)
        exact rgB ha
      have hr : InR [(0, 0)] [(lw1t_at0 x0)] := ⟨r5, trivial⟩
      have e1 : lw1t_c4 x0 f0 f1 f2 f3 = BE.ev [(lw1t_at0 x0)] (.not (.cm .eq (.v 0) (.k (0)))) := by kernel_rfl
      rw [e1]
      exact BE.tri_ok hr (by kernel_rfl) (by kernel_rfl)
    have h7 : (lw1t_c6 x0 f0 f1 f2 f3 = false) := lw1t_c6_ff x0 f0 f1 f2 f3 hpre
    have h8 : (lw1t_c7 x0 f0 f1 f2 f3 = false) := lw1t_c7_ff x0 f0 f1 f2 f3 hpre
    have h9 : (lw1t_c8 x0 f0 f1 f2 f3 = false) := lw1t_c8_ff x0 f0 f1 f2 f3 hpre
    have h10 : (lw1t_c9 x0 f0 f1 f2 f3 = false) := lw1t_c9_ff x0 f0 f1 f2 f3 hpre
    have h11 : (lw1t_c10 x0 f0 f1 f2 f3 = false) := lw1t_c10_ff x0 f0 f1 f2 f3 hpre
    have h12 : (lw1t_c11 x0 f0 f1 f2 f3 = false) := lw1t_c11_ff x0 f0 f1 f2 f3 hpre
    have h13 : (lw1t_c12 x0 f0 f1 f2 f3 = false) := lw1t_c12_ff x0 f0 f1 f2 f3 hpre
    have h14 : (lw1t_c13 x0 f0 f1 f2 f3 = false) := lw1t_c13_ff x0 f0 f1 f2 f3 hpre
    have h15 : (lw1t_c14 x0 f0 f1 f2 f3 = false) := by
      have r5 : Rg.has (0, 0) (lw1t_at0 x0) := by
        have hr : InR [(-100, 100)] [(lw1t_at0 x0)] := ⟨lw1t_rg5 x0 f0 f1 f2 f3 hpre, trivial⟩
        have ha := BE.all_ok hr lw1t_q12 (by kernel_rfl)
        have hx : BE.ev [(lw1t_at0 x0)] lw1t_q10 = false := (show BE.ev [(lw1t_at0 x0)] lw1t_q10 = lw1t_c2 x0 f0 f1 f2 f3 by kernel_rfl).trans h2
        have ha := orT ha (notF hx)
        exact rgB ha
      have hr : InR [(0, 0), (-1000, 1000)] [(lw1t_at0 x0), (lw1t_at1 f0)] := ⟨r5, ⟨lw1t_rg6 x0 f0 f1 f2 f3 hpre, trivial⟩⟩
      have e1 : lw1t_c14 x0 f0 f1 f2 f3 = BE.ev [(lw1t_at0 x0), (lw1t_at1 f0)] (.cm .lt lw1t_q17 (.k (-1073741824))) := by kernel_rfl
      rw [e1]
      exact BE.tri_ok hr (by kernel_rfl) (by kernel_rfl)
    have h16 : (lw1t_c15 x0 f0 f1 f2 f3 = false) := by
      have r5 : Rg.has (0, 0) (lw1t_at0 x0) := by
        have hr : InR [(-100, 100)] [(lw1t_at0 x0)] := ⟨lw1t_rg5 x0 f0 f1 f2 f3 hpre, trivial⟩
        have ha := BE.all_ok hr lw1t_q12 (by kernel_rfl)
        have hx : BE.ev [(lw1t_at0 x0)] lw1t_q10 = false := (show BE.ev [(lw1t_at0 x0)] lw1t_q10 = lw1t_c2 x0 f0 f1 f2 f3 by kernel_rfl).trans h2
        have ha := orT ha (notF hx)
        exact rgB ha
      have hr : InR [(0, 0), (-1000, 1000)] [(lw1t_at0 x0), (lw1t_at1 f0)] := ⟨r5, ⟨lw1t_rg6 x0 f0 f1 f2 f3 hpre, trivial⟩⟩
      have e1 : lw1t_c15 x0 f0 f1 f2 f3 = BE.ev [(lw1t_at0 x0), (lw1t_at1 f0)] (.cm .gt lw1t_q17 (.k (1073741824))) := by kernel_rfl
      rw [e1]
      exact BE.tri_ok hr (by kernel_rfl) (by kernel_rfl)
    have h17 : (lw1t_c16 x0 f0 f1 f2 f3 = false) := by
      have r5 : Rg.has (0, 0) (lw1t_at0 x0) := by
        have hr : InR [(-100, 100)] [(lw1t_at0 x0)] := ⟨lw1t_rg5 x0 f0 f1 f2 f3 hpre, trivial⟩
        have ha := BE.all_ok hr lw1t_q12 (by kernel_rfl)
        have hx : BE.ev [(lw1t_at0 x0)] lw1t_q10 = false := (show BE.ev [(lw1t_at0 x0)] lw1t_q10 = lw1t_c2 x0 f0 f1 f2 f3 by kernel_rfl).trans h2
        have ha := orT ha (notF hx)
        exact rgB ha
      have hr : InR [(0, 0), (-1000, 1000)] [(lw1t_at0 x0), (lw1t_at1 f0)] := ⟨r5, ⟨lw1t_rg6 x0 f0 f1 f2 f3 hpre, trivial⟩⟩
      have e1 : lw1t_c16 x0 f0 f1 f2 f3 = BE.ev [(lw1t_at0 x0), (lw1t_at1 f0)] (.cm .lt lw1t_q18 (.k (-1073741824))) := by kernel_rfl
      rw [e1]
      exact BE.tri_ok hr (by kernel_rfl) (by kernel_rfl)
    have h18 : (lw1t_c17 x0 f0 f1 f2 f3 = false) := by
      have r5 : Rg.has (0, 0) (lw1t_at0 x0) := by
        have hr : InR [(-100, 100)] [(lw1t_at0 x0)] := ⟨lw1t_rg5 x0 f0 f1 f2 f3 hpre, trivial⟩
        have ha := BE.all_ok hr lw1t_q12 (by kernel_rfl)
        have hx : BE.ev [(lw1t_at0 x0)] lw1t_q10 = false := (show BE.ev [(lw1t_at0 x0)] lw1t_q10 = lw1t_c2 x0 f0 f1 f2 f3 by kernel_rfl).trans h2
        have ha := orT ha (notF hx)
        exact rgB ha
      have hr : InR [(0, 0), (-1000, 1000)] [(lw1t_at0 x0), (lw1t_at1 f0)] := ⟨r5, ⟨lw1t_rg6 x0 f0 f1 f2 f3 hpre, trivial⟩⟩
      have e1 : lw1t_c17 x0 f0 f1 f2 f3 = BE.ev [(lw1t_at0 x0), (lw1t_at1 f0)] (.cm .gt lw1t_q18 (.k (1073741824))) := by kernel_rfl
      rw [e1]
      exact BE.tri_ok hr (by kernel_rfl) (by kernel_rfl)
    have h19 : (lw1t_c18 x0 f0 f1 f2 f3 = false) := by
      have r5 : Rg.has (0, 0) (lw1t_at0 x0) := by
        have hr : InR [(-100, 100)] [(lw1t_at0 x0)] := ⟨lw1t_rg5 x0 f0 f1 f2 f3 hpre, trivial⟩
        have ha := BE.all_ok hr lw1t_q12 (by kernel_rfl)
        have hx : BE.ev [(lw1t_at0 x0)] lw1t_q10 = false := (show BE.ev [(lw1t_at0 x0)] lw1t_q10 = lw1t_c2 x0 f0 f1 f2 f3 by kernel_rfl).trans h2
        have ha := orT ha (notF hx)
        exact rgB ha
      have hr : InR [(0, 0), (-1000, 1000)] [(lw1t_at0 x0), (lw1t_at1 f0)] := ⟨r5, ⟨lw1t_rg6 x0 f0 f1 f2 f3 hpre, trivial⟩⟩
      have e1 : lw1t_c18 x0 f0 f1 f2 f3 = BE.ev [(lw1t_at0 x0), (lw1t_at1 f0)] (.cm .lt lw1t_q19 (.k (-1073741824))) := by kernel_rfl
      rw [e1]
      exact BE.tri_ok hr (by kernel_rfl) (by kernel_rfl)
    have h20 : (lw1t_c19 x0 f0 f1 f2 f3 = false) := by
      have r5 : Rg.has (0, 0) (lw1t_at0 x0) := by
        have hr : InR [(-100, 100)] [(lw1t_at0 x0)] := ⟨lw1t_rg5 x0 f0 f1 f2 f3 hpre, trivial⟩
        have ha := BE.all_ok hr lw1t_q12 (by kernel_rfl)
        have hx : BE.ev [(lw1t_at0 x0)] lw1t_q10 = false := (show BE.ev [(lw1t_at0 x0)] lw1t_q10 = lw1t_c2 x0 f0 f1 f2 f3 by kernel_rfl).trans h2
        have ha := orT ha (notF hx)
        exact rgB ha
      have hr : InR [(0, 0), (-1000, 1000)] [(lw1t_at0 x0), (lw1t_at1 f0)] := ⟨r5, ⟨lw1t_rg6 x0 f0 f1 f2 f3 hpre, trivial⟩⟩
      have e1 : lw1t_c19 x0 f0 f1 f2 f3 = BE.ev [(lw1t_at0 x0), (lw1t_at1 f0)] (.cm .gt lw1t_q19 (.k (1073741824))) := by kernel_rfl
      rw [e1]
      exact BE.tri_ok hr (by kernel_rfl) (by kernel_rfl)
    have h21 : (lw1t_c20 x0 f0 f1 f2 f3 = false) := by
      have r5 : Rg.has (0, 0) (lw1t_at0 x0) := by
        have hr : InR [(-100, 100)] [(lw1t_at0 x0)] := ⟨lw1t_rg5 x0 f0 f1 f2 f3 hpre, trivial⟩
        have ha := BE.all_ok hr lw1t_q12 (by kernel_rfl)
        have hx : BE.ev [(lw1t_at0 x0)] lw1t_q10 = false := (show BE.ev [(lw1t_at0 x0)] lw1t_q10 = lw1t_c2 x0 f0 f1 f2 f3 by kernel_rfl).trans h2
        have ha := orT ha (notF hx)
        exact rgB ha
      have hr : InR [(0, 0), (-1000, 1000)] [(lw1t_at0 x0), (lw1t_at1 f0)] := ⟨r5, ⟨lw1t_rg6 x0 f0 f1 f2 f3 hpre, trivial⟩⟩
      have e1 : lw1t_c20 x0 f0 f1 f2 f3 = BE.ev [(lw1t_at0 x0), (lw1t_at1 f0)] (.cm .ne lw1t_q14 (.k (0))) := by kernel_rfl
      rw [e1]
      exact BE.tri_ok hr (by kernel_rfl) (by kernel_rfl)
    have h22 : (lw1t_c21 x0 f0 f1 f2 f3 = false) := by
      have r5 : Rg.has (0, 0) (lw1t_at0 x0) := by
        have hr : InR [(-100, 100)] [(lw1t_at0 x0)] := ⟨lw1t_rg5 x0 f0 f1 f2 f3 hpre, trivial⟩
        have ha := BE.all_ok hr lw1t_q12 (by kernel_rfl)
        have hx : BE.ev [(lw1t_at0 x0)] lw1t_q10 = false := (show BE.ev [(lw1t_at0 x0)] lw1t_q10 = lw1t_c2 x0 f0 f1 f2 f3 by kernel_rfl).trans h2
        have ha := orT ha (notF hx)
        exact rgB ha
      have hr : InR [(0, 0), (-1000, 1000)] [(lw1t_at0 x0), (lw1t_at1 f0)] := ⟨r5, ⟨lw1t_rg6 x0 f0 f1 f2 f3 hpre, trivial⟩⟩
      have e1 : lw1t_c21 x0 f0 f1 f2 f3 = BE.ev [(lw1t_at0 x0), (lw1t_at1 f0)] (.cm .ne lw1t_q15 (.k (0))) := by kernel_rfl
      rw [e1]
      exact BE.tri_ok hr (by kernel_rfl) (by kernel_rfl)
    have h23 : (lw1t_c22 x0 f0 f1 f2 f3 = false) := by
      have r5 : Rg.has (0, 0) (lw1t_at0 x0) := by
        have hr : InR [(-100, 100)] [(lw1t_at0 x0)] := ⟨lw1t_rg5 x0 f0 f1 f2 f3 hpre, trivial⟩
        have ha := BE.all_ok hr lw1t_q12 (by kernel_rfl)
        have hx : BE.ev [(lw1t_at0 x0)] lw1t_q10 = false := (show BE.ev [(lw1t_at0 x0)] lw1t_q10 = lw1t_c2 x0 f0 f1 f2 f3 by kernel_rfl).trans h2
        have ha := orT ha (notF hx)
        exact rgB ha
      have hr : InR [(0, 0), (-1000, 1000)] [(lw1t_at0 x0), (lw1t_at1 f0)] := ⟨r5, ⟨lw1t_rg6 x0 f0 f1 f2 f3 hpre, trivial⟩⟩
      have e1 : lw1t_c22 x0 f0 f1 f2 f3 = BE.ev [(lw1t_at0 x0), (lw1t_at1 f0)] (.cm .ne lw1t_q16 (.k (0))) := by kernel_rfl
      rw [e1]
      exact BE.tri_ok hr (by kernel_rfl) (by kernel_rfl)
    have h24 : (lw1t_c23 x0 f0 f1 f2 f3 = false) := by
      have r5 : Rg.has (0, 0) (lw1t_at0 x0) := by
        have hr : InR [(-100, 100)] [(lw1t_at0 x0)] := ⟨lw1t_rg5 x0 f0 f1 f2 f3 hpre, trivial⟩
        have ha := BE.all_ok hr lw1t_q12 (by kernel_rfl)
        have hx : BE.ev [(lw1t_at0 x0)] lw1t_q10 = false := (show BE.ev [(lw1t_at0 x0)] lw1t_q10 = lw1t_c2 x0 f0 f1 f2 f3 by kernel_rfl).trans h2
        have ha := orT ha (notF hx)
        exact rgB ha
      have hr : InR [(0, 0), (-1000, 1000)] [(lw1t_at0 x0), (lw1t_at1 f0)] := ⟨r5, ⟨lw1t_rg6 x0 f0 f1 f2 f3 hpre, trivial⟩⟩
      have e1 : lw1t_c23 x0 f0 f1 f2 f3 = BE.ev [(lw1t_at0 x0), (lw1t_at1 f0)] (.cm .ne lw1t_q17 (.k (0))) := by kernel_rfl
      rw [e1]
      exact BE.tri_ok hr (by kernel_rfl) (by kernel_rfl)
    have h25 : (lw1t_c24 x0 f0 f1 f2 f3 = false) := by
      have r5 : Rg.has (0, 0) (lw1t_at0 x0) := by
        have hr : InR [(-100, 100)] [(lw1t_at0 x0)] := ⟨lw1t_rg5 x0 f0 f1 f2 f3 hpre, trivial⟩
        have ha := BE.all_ok hr lw1t_q12 (by kernel_rfl)
        have hx : BE.ev [(lw1t_at0 x0)] lw1t_q10 = false := (show BE.ev [(lw1t_at0 x0)] lw1t_q10 = lw1t_c2 x0 f0 f1 f2 f3 by kernel_rfl).trans h2
        have ha := orT ha (notF hx)
        exact rgB ha
      have hr : InR [(0, 0), (-1000, 1000)] [(lw1t_at0 x0), (lw1t_at1 f0)] := ⟨r5, ⟨lw1t_rg6 x0 f0 f1 f2 f3 hpre, trivial⟩⟩
      have e1 : lw1t_c24 x0 f0 f1 f2 f3 = BE.ev [(lw1t_at0 x0), (lw1t_at1 f0)] (.cm .ne lw1t_q18 (.k (0))) := by kernel_rfl
      rw [e1]
      exact BE.tri_ok hr (by kernel_rfl) (by kernel_rfl)
    have h26 : (lw1t_c25 x0 f0 f1 f2 f3 = false) := by
      have r5 : Rg.has (0, 0) (lw1t_at0 x0) := by
        have hr : InR [(-100, 100)] [(lw1t_at0 x0)] := ⟨lw1t_rg5 x0 f0 f1 f2 f3 hpre, trivial⟩
        have ha := BE.all_ok hr lw1t_q12 (by kernel_rfl)
        have hx : BE.ev [(lw1t_at0 x0)] lw1t_q10 = false := (show BE.ev [(lw1t_at0 x0)] lw1t_q10 = lw1t_c2 x0 f0 f1 f2 f3 by kernel_rfl).trans h2
        have ha := orT ha (notF hx)
        exact rgB ha
      have hr : InR [(0, 0), (-1000, 1000)] [(lw1t_at0 x0), (lw1t_at1 f0)] := ⟨r5, ⟨lw1t_rg6 x0 f0 f1 f2 f3 hpre, trivial⟩⟩
      have e1 : lw1t_c25 x0 f0 f1 f2 f3 = BE.ev [(lw1t_at0 x0), (lw1t_at1 f0)] (.cm .ne lw1t_q19 (.k (0))) := by kernel_rfl
      rw [e1]
      exact BE.tri_ok hr (by kernel_rfl) (by kernel_rfl)
    exact lw1t_p1 x0 f0 f1 f2 f3 c (lw1t_z2_h (lw1t_z0_h trivial x0 f0 f1 f2 f3 hpre) x0 f0 f1 f2 f3 hpre h2 h5 h6 h15 h16 h17 h18 h19 h20 h21 h22 h23 h24 h25 h26)
end Go.Proofs.YtencngffhbhifaaGreatDoor
end
section
set_option linter.all false
set_option maxRecDepth 1000000
set_option maxHeartbeats 2000000
open Go.RowKit
namespace Go.Proofs.YtencngffhbhifaaGreatDoor
open Mini
def lw2f_at0 (y : Int) : Int := (Int.tmod (IntKind.i64.wrap y) (101 : Int))
def lw2f_at1 (y : Int) : Int := (Int.tmod (IntKind.i64.wrap y) (1001 : Int))
def lw2f_q0 : IE := .ite .gt (.k (-1)) (.k (1)) (.k (-1)) (.k (1))
def lw2f_q1 : BE := .cm .ge (.ite .gt (.wr (.sub (.k (0)) (.v 6))) (.v 6) (.wr (.sub (.k (0)) (.v 6))) (.v 6)) lw2f_q0
def lw2f_q2 : IE := .wr (.sub (.wr (.mul (.k (1)) (.v 7))) (.wr (.mul (.v 6) (.v 7))))
def lw2f_q3 : IE := .wr (.sub (.k (1)) (.wr (.mul (.v 6) (.v 6))))
def lw2f_q4 : BE := .cm .ge (.ite .gt (.wr (.sub (.k (0)) lw2f_q2)) lw2f_q2 (.wr (.sub (.k (0)) lw2f_q2)) lw2f_q2) (.ite .gt (.wr (.sub (.k (0)) lw2f_q3)) lw2f_q3 (.wr (.sub (.k (0)) lw2f_q3)) lw2f_q3)
def lw2f_q5 : IE := .wr (.sub (.k (0)) (.wr (.mul (.v 6) (.k (1)))))
def lw2f_q6 : IE := .wr (.sub (.k (0)) (.wr (.mul (.v 7) (.k (1)))))
def lw2f_q7 : IE := .add (.wr (.add (.k (0)) (.wr (.mul lw2f_q5 (.wr (.mul (.v 8) (.k (1)))))))) (.wr (.mul lw2f_q6 (.wr (.mul (.v 9) (.k (1))))))
def lw2f_q8 : BE := .cm .lt (.wr lw2f_q7) (.k (-1073741824))
def lw2f_q9 : BE := .cm .gt (.wr lw2f_q7) (.k (1073741824))
def lw2f_q10 : IE := .wr (.add (.wr (.add (.k (0)) (.wr (.mul lw2f_q5 (.wr (.mul (.v 9) (.k (1)))))))) (.wr (.mul lw2f_q6 (.wr lw2f_q7))))
def lw2f_q11 : IE := .wr (.add (.wr (.add (.k (0)) (.wr (.mul lw2f_q5 (.wr lw2f_q7))))) (.wr (.mul lw2f_q6 lw2f_q10)))
def lw2f_q12 : IE := .wr (.add (.wr (.add (.k (0)) (.wr (.mul lw2f_q5 lw2f_q10)))) (.wr (.mul lw2f_q6 lw2f_q11)))
def lw2f_q13 : IE := .wr (.add (.wr (.add (.k (0)) (.wr (.mul lw2f_q5 lw2f_q11)))) (.wr (.mul lw2f_q6 lw2f_q12)))
def lw2f_q14 : IE := .wr (.add (.wr (.add (.k (0)) (.wr (.mul lw2f_q5 lw2f_q12)))) (.wr (.mul lw2f_q6 lw2f_q13)))
def lw2f_q15 : BE := .or (.not (.cm .eq (.v 0) (.k (0)))) (.and (.cm .le (.k (0)) (.v 0)) (.cm .le (.v 0) (.k (0))))
def lw2f_q16 : BE := .not (.cm .ge (.ite .gt (.wr (.sub (.k (0)) (.v 0))) (.v 0) (.wr (.sub (.k (0)) (.v 0))) (.v 0)) lw2f_q0)
def lw2f_q17 : IE := .ite .gt (.sub (.k (0)) (.mul (.k (1)) (.v 0))) (.mul (.k (1)) (.v 0)) (.sub (.k (0)) (.mul (.k (1)) (.v 0))) (.mul (.k (1)) (.v 0))
def lw2f_q18 : BE := .not (.beq (.not .t) (.cm .eq (.v 0) (.k (0))))
def lw2f_q19 : IE := .ite .gt (.sub (.k (0)) (.mul (.k (1)) (.v 1))) (.mul (.k (1)) (.v 1)) (.sub (.k (0)) (.mul (.k (1)) (.v 1))) (.mul (.k (1)) (.v 1))
def lw2f_q20 : IE := .wr (.sub (.wr (.mul (.k (1)) (.v 1))) (.wr (.mul (.v 0) (.v 1))))
def lw2f_q21 : IE := .wr (.sub (.k (1)) (.wr (.mul (.v 0) (.v 0))))
def lw2f_q22 : BE := .cm .ge (.ite .gt (.wr (.sub (.k (0)) lw2f_q20)) lw2f_q20 (.wr (.sub (.k (0)) lw2f_q20)) lw2f_q20) (.ite .gt (.wr (.sub (.k (0)) lw2f_q21)) lw2f_q21 (.wr (.sub (.k (0)) lw2f_q21)) lw2f_q21)
def lw2f_q23 : BE := .not (.beq (.not (.cm .ge (.k (1)) (.k (0)))) (.cm .eq (.v 1) (.k (0))))
def lw2f_q24 : BE := .not (.beq (.not .t) (.cm .eq (.v 1) (.k (0))))
def lw2f_q25 : BE := .or (.not (.not lw2f_q22)) (.and (.cm .le (.k (0)) (.v 1)) (.cm .le (.v 1) (.k (0))))
def lw2f_q26 : IE := .wr (.sub (.k (0)) (.wr (.mul (.v 0) (.k (1)))))
def lw2f_q27 : IE := .wr (.sub (.k (0)) (.wr (.mul (.v 1) (.k (1)))))
def lw2f_q28 : IE := .add (.wr (.add (.k (0)) (.wr (.mul lw2f_q26 (.wr (.mul (.v 2) (.k (1)))))))) (.wr (.mul lw2f_q27 (.wr (.mul (.v 3) (.k (1))))))
def lw2f_q29 : IE := .wr (.add (.wr (.add (.k (0)) (.wr (.mul lw2f_q26 (.wr (.mul (.v 3) (.k (1)))))))) (.wr (.mul lw2f_q27 (.wr lw2f_q28))))
def lw2f_q30 : IE := .wr (.add (.wr (.add (.k (0)) (.wr (.mul lw2f_q26 (.wr lw2f_q28))))) (.wr (.mul lw2f_q27 lw2f_q29)))
def lw2f_q31 : IE := .wr (.add (.wr (.add (.k (0)) (.wr (.mul lw2f_q26 lw2f_q29)))) (.wr (.mul lw2f_q27 lw2f_q30)))
def lw2f_q32 : IE := .wr (.add (.wr (.add (.k (0)) (.wr (.mul lw2f_q26 lw2f_q30)))) (.wr (.mul lw2f_q27 lw2f_q31)))
def lw2f_q33 : IE := .wr (.add (.wr (.add (.k (0)) (.wr (.mul lw2f_q26 lw2f_q31)))) (.wr (.mul lw2f_q27 lw2f_q32)))
def lw2f_q34 : BE := .not (.cm .ge (.ite .gt (.sub (.k (0)) (.v 0)) (.v 0) (.sub (.k (0)) (.v 0)) (.v 0)) (.k (1)))

theorem lw2f_X : FOkS Tryz.prog x_lw2f := bothX_ok (noXS_ok) (tabT_ok (by kernel_rfl) aw3_calls)
theorem lw2f_rg6 (x0 x1 f0 f1 f2 f3 : Int) (hpre : True) : Rg.has (-100, 100) (lw2f_at0 x0) := by
  have h := IE.rng_ok (β := [(-9223372036854775808, 9223372036854775807)]) (ρ := [(IntKind.i64.wrap x0)]) ⟨wrR _, trivial⟩ (e := (.md (.v 0) 101)) (by kernel_rfl)
  rw [show IE.rng [(-9223372036854775808, 9223372036854775807)] (.md (.v 0) 101) = (-100, 100) from by kernel_rfl] at h
  exact h
theorem lw2f_rg7 (x0 x1 f0 f1 f2 f3 : Int) (hpre : True) : Rg.has (-100, 100) (lw2f_at0 x1) := by
  have h := IE.rng_ok (β := [(-9223372036854775808, 9223372036854775807)]) (ρ := [(IntKind.i64.wrap x1)]) ⟨wrR _, trivial⟩ (e := (.md (.v 0) 101)) (by kernel_rfl)
  rw [show IE.rng [(-9223372036854775808, 9223372036854775807)] (.md (.v 0) 101) = (-100, 100) from by kernel_rfl] at h
  exact h
theorem lw2f_rg8 (x0 x1 f0 f1 f2 f3 : Int) (hpre : True) : Rg.has (-1000, 1000) (lw2f_at1 f0) := by
  have h := IE.rng_ok (β := [(-9223372036854775808, 9223372036854775807)]) (ρ := [(IntKind.i64.wrap f0)]) ⟨wrR _, trivial⟩ (e := (.md (.v 0) 1001)) (by kernel_rfl)
  rw [show IE.rng [(-9223372036854775808, 9223372036854775807)] (.md (.v 0) 1001) = (-1000, 1000) from by kernel_rfl] at h
  exact h
theorem lw2f_rg9 (x0 x1 f0 f1 f2 f3 : Int) (hpre : True) : Rg.has (-1000, 1000) (lw2f_at1 f1) := by
  have h := IE.rng_ok (β := [(-9223372036854775808, 9223372036854775807)]) (ρ := [(IntKind.i64.wrap f1)]) ⟨wrR _, trivial⟩ (e := (.md (.v 0) 1001)) (by kernel_rfl)
  rw [show IE.rng [(-9223372036854775808, 9223372036854775807)] (.md (.v 0) 1001) = (-1000, 1000) from by kernel_rfl] at h
  exact h
theorem lw2f_rg10 (x0 x1 f0 f1 f2 f3 : Int) (hpre : True) : Rg.has (-1000, 1000) (lw2f_at1 f2) := by
  have h := IE.rng_ok (β := [(-9223372036854775808, 9223372036854775807)]) (ρ := [(IntKind.i64.wrap f2)]) ⟨wrR _, trivial⟩ (e := (.md (.v 0) 1001)) (by kernel_rfl)
  rw [show IE.rng [(-9223372036854775808, 9223372036854775807)] (.md (.v 0) 1001) = (-1000, 1000) from by kernel_rfl] at h
  exact h
theorem lw2f_rg11 (x0 x1 f0 f1 f2 f3 : Int) (hpre : True) : Rg.has (-1000, 1000) (lw2f_at1 f3) := by
  have h := IE.rng_ok (β := [(-9223372036854775808, 9223372036854775807)]) (ρ := [(IntKind.i64.wrap f3)]) ⟨wrR _, trivial⟩ (e := (.md (.v 0) 1001)) (by kernel_rfl)
  rw [show IE.rng [(-9223372036854775808, 9223372036854775807)] (.md (.v 0) 1001) = (-1000, 1000) from by kernel_rfl] at h
  exact h
def lw2f_R (x0 x1 f0 f1 f2 f3 : Int) : List Int := [(IntKind.i64.wrap x0), (IntKind.i64.wrap x1), (IntKind.i64.wrap f0), (IntKind.i64.wrap f1), (IntKind.i64.wrap f2), (IntKind.i64.wrap f3), (lw2f_at0 x0), (lw2f_at0 x1), (lw2f_at1 f0), (lw2f_at1 f1), (lw2f_at1 f2), (lw2f_at1 f3)]
def lw2f_B : List Rg := [(-9223372036854775808, 9223372036854775807), (-9223372036854775808, 9223372036854775807), (-9223372036854775808, 9223372036854775807), (-9223372036854775808, 9223372036854775807), (-9223372036854775808, 9223372036854775807), (-9223372036854775808, 9223372036854775807), (-100, 100), (-100, 100), (-1000, 1000), (-1000, 1000), (-1000, 1000), (-1000, 1000)]
theorem lw2f_hr (x0 x1 f0 f1 f2 f3 : Int) (hpre : True) : InR lw2f_B (lw2f_R x0 x1 f0 f1 f2 f3) := ⟨wrR _, ⟨wrR _, ⟨wrR _, ⟨wrR _, ⟨wrR _, ⟨wrR _, ⟨lw2f_rg6 x0 x1 f0 f1 f2 f3 hpre, ⟨lw2f_rg7 x0 x1 f0 f1 f2 f3 hpre, ⟨lw2f_rg8 x0 x1 f0 f1 f2 f3 hpre, ⟨lw2f_rg9 x0 x1 f0 f1 f2 f3 hpre, ⟨lw2f_rg10 x0 x1 f0 f1 f2 f3 hpre, ⟨lw2f_rg11 x0 x1 f0 f1 f2 f3 hpre, trivial⟩⟩⟩⟩⟩⟩⟩⟩⟩⟩⟩⟩
def lw2f_h0 : Prop := (false = false)
theorem lw2f_g0 : (false = false) := by first | rfl | trivial | decide | omega
def lw2f_h1 : Prop := ((decide ((2 : Int) > (4 : Int))) = Bool.false)
theorem lw2f_g1 : ((decide ((2 : Int) > (4 : Int))) = Bool.false) := by first | rfl | trivial | decide | omega
def lw2f_h2 : Prop := (true = true)
theorem lw2f_g2 : (true = true) := by first | rfl | trivial | decide | omega
def lw2f_h3 : Prop := ((0 : Int) = (0 : Int))
theorem lw2f_g3 : ((0 : Int) = (0 : Int)) := by first | rfl | trivial | decide | omega
def lw2f_h4 : Prop := ((1 : Int) = (1 : Int))
theorem lw2f_g4 : ((1 : Int) = (1 : Int)) := by first | rfl | trivial | decide | omega
def lw2f_c0 (x0 x1 f0 f1 f2 f3 : Int) : Bool := BE.ev (lw2f_R x0 x1 f0 f1 f2 f3) (.cm .eq (.v 6) (.k (0)))
def lw2f_h6 : Prop := ((decide ((3 : Int) > (5 : Int))) = Bool.false)
theorem lw2f_g6 : ((decide ((3 : Int) > (5 : Int))) = Bool.false) := by first | rfl | trivial | decide | omega
def lw2f_c1 (x0 x1 f0 f1 f2 f3 : Int) : Bool := BE.ev (lw2f_R x0 x1 f0 f1 f2 f3) (.cm .lt (.v 6) (.k (-100)))
def lw2f_c2 (x0 x1 f0 f1 f2 f3 : Int) : Bool := BE.ev (lw2f_R x0 x1 f0 f1 f2 f3) (.cm .gt (.v 6) (.k (100)))
def lw2f_c3 (x0 x1 f0 f1 f2 f3 : Int) : Bool := BE.ev (lw2f_R x0 x1 f0 f1 f2 f3) (.cm .lt (.v 7) (.k (-100)))
def lw2f_c4 (x0 x1 f0 f1 f2 f3 : Int) : Bool := BE.ev (lw2f_R x0 x1 f0 f1 f2 f3) (.cm .gt (.v 7) (.k (100)))
def lw2f_h11 : Prop := ((2 : Int) = (2 : Int))
theorem lw2f_g11 : ((2 : Int) = (2 : Int)) := by first | rfl | trivial | decide | omega
def lw2f_h12 : Prop := ((decide ((1 : Int) > (100 : Int))) = Bool.false)
theorem lw2f_g12 : ((decide ((1 : Int) > (100 : Int))) = Bool.false) := by first | rfl | trivial | decide | omega
def lw2f_h13 : Prop := ((Bool.false != Bool.false) = Bool.false)
theorem lw2f_g13 : ((Bool.false != Bool.false) = Bool.false) := by first | rfl | trivial | decide | omega
def lw2f_h14 : Prop := ((decide ((3 : Int) > (2 : Int))) = Bool.true)
theorem lw2f_g14 : ((decide ((3 : Int) > (2 : Int))) = Bool.true) := by first | rfl | trivial | decide | omega
def lw2f_c5 (x0 x1 f0 f1 f2 f3 : Int) : Bool := BE.ev (lw2f_R x0 x1 f0 f1 f2 f3) (.not lw2f_q1)
def lw2f_c6 (x0 x1 f0 f1 f2 f3 : Int) : Bool := BE.ev (lw2f_R x0 x1 f0 f1 f2 f3) lw2f_q1
def lw2f_h17 : Prop := ((Bool.not ((Bool.not (decide ((0 : Int) ≥ (0 : Int)))) == Bool.false)) = Bool.false)
theorem lw2f_g17 : ((Bool.not ((Bool.not (decide ((0 : Int) ≥ (0 : Int)))) == Bool.false)) = Bool.false) := by first | rfl | trivial | decide | omega
def lw2f_h20 : Prop := ((decide ((2 : Int) > (2 : Int))) = Bool.false)
theorem lw2f_g20 : ((decide ((2 : Int) > (2 : Int))) = Bool.false) := by first | rfl | trivial | decide | omega
def lw2f_c7 (x0 x1 f0 f1 f2 f3 : Int) : Bool := BE.ev (lw2f_R x0 x1 f0 f1 f2 f3) lw2f_q4
def lw2f_c8 (x0 x1 f0 f1 f2 f3 : Int) : Bool := BE.ev (lw2f_R x0 x1 f0 f1 f2 f3) (.not (.beq (.not (.cm .ge (.k (1)) (.k (0)))) (.cm .eq (.v 7) (.k (0)))))
def lw2f_c9 (x0 x1 f0 f1 f2 f3 : Int) : Bool := BE.ev (lw2f_R x0 x1 f0 f1 f2 f3) (.not (.cm .eq (.v 7) (.k (0))))
def lw2f_c10 (x0 x1 f0 f1 f2 f3 : Int) : Bool := BE.ev (lw2f_R x0 x1 f0 f1 f2 f3) (.not (.beq (.not (.cm .ge (.k (-1)) (.k (0)))) (.cm .eq (.v 7) (.k (0)))))
def lw2f_c11 (x0 x1 f0 f1 f2 f3 : Int) : Bool := BE.ev (lw2f_R x0 x1 f0 f1 f2 f3) (.cm .lt (.v 8) (.k (-1000)))
def lw2f_c12 (x0 x1 f0 f1 f2 f3 : Int) : Bool := BE.ev (lw2f_R x0 x1 f0 f1 f2 f3) (.cm .gt (.v 8) (.k (1000)))
def lw2f_c13 (x0 x1 f0 f1 f2 f3 : Int) : Bool := BE.ev (lw2f_R x0 x1 f0 f1 f2 f3) (.cm .lt (.v 9) (.k (-1000)))
def lw2f_c14 (x0 x1 f0 f1 f2 f3 : Int) : Bool := BE.ev (lw2f_R x0 x1 f0 f1 f2 f3) (.cm .gt (.v 9) (.k (1000)))
def lw2f_h32 : Prop := ((decide ((6 : Int) > (24 : Int))) = Bool.false)
theorem lw2f_g32 : ((decide ((6 : Int) > (24 : Int))) = Bool.false) := by first | rfl | trivial | decide | omega
def lw2f_c15 (x0 x1 f0 f1 f2 f3 : Int) : Bool := BE.ev (lw2f_R x0 x1 f0 f1 f2 f3) lw2f_q8
def lw2f_c16 (x0 x1 f0 f1 f2 f3 : Int) : Bool := BE.ev (lw2f_R x0 x1 f0 f1 f2 f3) lw2f_q9
def lw2f_c17 (x0 x1 f0 f1 f2 f3 : Int) : Bool := BE.ev (lw2f_R x0 x1 f0 f1 f2 f3) (.cm .lt lw2f_q10 (.k (-1073741824)))
def lw2f_c18 (x0 x1 f0 f1 f2 f3 : Int) : Bool := BE.ev (lw2f_R x0 x1 f0 f1 f2 f3) (.cm .gt lw2f_q10 (.k (1073741824)))
def lw2f_h37 : Prop := ((3 : Int) = (3 : Int))
theorem lw2f_g37 : ((3 : Int) = (3 : Int)) := by first | rfl | trivial | decide | omega
def lw2f_c19 (x0 x1 f0 f1 f2 f3 : Int) : Bool := BE.ev (lw2f_R x0 x1 f0 f1 f2 f3) (.cm .lt lw2f_q11 (.k (-1073741824)))
def lw2f_c20 (x0 x1 f0 f1 f2 f3 : Int) : Bool := BE.ev (lw2f_R x0 x1 f0 f1 f2 f3) (.cm .gt lw2f_q11 (.k (1073741824)))
def lw2f_h40 : Prop := ((4 : Int) = (4 : Int))
theorem lw2f_g40 : ((4 : Int) = (4 : Int)) := by first | rfl | trivial | decide | omega
def lw2f_c21 (x0 x1 f0 f1 f2 f3 : Int) : Bool := BE.ev (lw2f_R x0 x1 f0 f1 f2 f3) (.cm .lt lw2f_q12 (.k (-1073741824)))
def lw2f_c22 (x0 x1 f0 f1 f2 f3 : Int) : Bool := BE.ev (lw2f_R x0 x1 f0 f1 f2 f3) (.cm .gt lw2f_q12 (.k (1073741824)))
def lw2f_h43 : Prop := ((5 : Int) = (5 : Int))
theorem lw2f_g43 : ((5 : Int) = (5 : Int)) := by first | rfl | trivial | decide | omega
def lw2f_c23 (x0 x1 f0 f1 f2 f3 : Int) : Bool := BE.ev (lw2f_R x0 x1 f0 f1 f2 f3) (.cm .lt lw2f_q13 (.k (-1073741824)))
def lw2f_c24 (x0 x1 f0 f1 f2 f3 : Int) : Bool := BE.ev (lw2f_R x0 x1 f0 f1 f2 f3) (.cm .gt lw2f_q13 (.k (1073741824)))
def lw2f_h46 : Prop := ((6 : Int) = (6 : Int))
theorem lw2f_g46 : ((6 : Int) = (6 : Int)) := by first | rfl | trivial | decide | omega
def lw2f_c25 (x0 x1 f0 f1 f2 f3 : Int) : Bool := BE.ev (lw2f_R x0 x1 f0 f1 f2 f3) (.cm .lt lw2f_q14 (.k (-1073741824)))
def lw2f_c26 (x0 x1 f0 f1 f2 f3 : Int) : Bool := BE.ev (lw2f_R x0 x1 f0 f1 f2 f3) (.cm .gt lw2f_q14 (.k (1073741824)))
def lw2f_c27 (x0 x1 f0 f1 f2 f3 : Int) : Bool := BE.ev (lw2f_R x0 x1 f0 f1 f2 f3) (.cm .ne (.wr lw2f_q7) (.k (0)))
def lw2f_c28 (x0 x1 f0 f1 f2 f3 : Int) : Bool := BE.ev (lw2f_R x0 x1 f0 f1 f2 f3) (.cm .ne lw2f_q10 (.k (0)))
def lw2f_c29 (x0 x1 f0 f1 f2 f3 : Int) : Bool := BE.ev (lw2f_R x0 x1 f0 f1 f2 f3) (.cm .ne lw2f_q11 (.k (0)))
def lw2f_c30 (x0 x1 f0 f1 f2 f3 : Int) : Bool := BE.ev (lw2f_R x0 x1 f0 f1 f2 f3) (.cm .ne lw2f_q12 (.k (0)))
def lw2f_c31 (x0 x1 f0 f1 f2 f3 : Int) : Bool := BE.ev (lw2f_R x0 x1 f0 f1 f2 f3) (.cm .ne lw2f_q13 (.k (0)))
def lw2f_c32 (x0 x1 f0 f1 f2 f3 : Int) : Bool := BE.ev (lw2f_R x0 x1 f0 f1 f2 f3) (.cm .ne lw2f_q14 (.k (0)))
theorem lw2f_c1_ff (x0 x1 f0 f1 f2 f3 : Int) (hpre : True) : lw2f_c1 x0 x1 f0 f1 f2 f3 = false :=
  BE.tri_ok (lw2f_hr x0 x1 f0 f1 f2 f3 hpre) (e := (.cm .lt (.v 6) (.k (-100)))) (by kernel_rfl) (by kernel_rfl)
theorem lw2f_c2_ff (x0 x1 f0 f1 f2 f3 : Int) (hpre : True) : lw2f_c2 x0 x1 f0 f1 f2 f3 = false :=
  BE.tri_ok (lw2f_hr x0 x1 f0 f1 f2 f3 hpre) (e := (.cm .gt (.v 6) (.k (100)))) (by kernel_rfl) (by kernel_rfl)
theorem lw2f_c3_ff (x0 x1 f0 f1 f2 f3 : Int) (hpre : True) : lw2f_c3 x0 x1 f0 f1 f2 f3 = false :=
  BE.tri_ok (lw2f_hr x0 x1 f0 f1 f2 f3 hpre) (e := (.cm .lt (.v 7) (.k (-100)))) (by kernel_rfl) (by kernel_rfl)
theorem lw2f_c4_ff (x0 x1 f0 f1 f2 f3 : Int) (hpre : True) : lw2f_c4 x0 x1 f0 f1 f2 f3 = false :=
  BE.tri_ok (lw2f_hr x0 x1 f0 f1 f2 f3 hpre) (e := (.cm .gt (.v 7) (.k (100)))) (by kernel_rfl) (by kernel_rfl)
theorem lw2f_c11_ff (x0 x1 f0 f1 f2 f3 : Int) (hpre : True) : lw2f_c11 x0 x1 f0 f1 f2 f3 = false :=
  BE.tri_ok (lw2f_hr x0 x1 f0 f1 f2 f3 hpre) (e := (.cm .lt (.v 8) (.k (-1000)))) (by kernel_rfl) (by kernel_rfl)
theorem lw2f_c12_ff (x0 x1 f0 f1 f2 f3 : Int) (hpre : True) : lw2f_c12 x0 x1 f0 f1 f2 f3 = false :=
  BE.tri_ok (lw2f_hr x0 x1 f0 f1 f2 f3 hpre) (e := (.cm .gt (.v 8) (.k (1000)))) (by kernel_rfl) (by kernel_rfl)
theorem lw2f_c13_ff (x0 x1 f0 f1 f2 f3 : Int) (hpre : True) : lw2f_c13 x0 x1 f0 f1 f2 f3 = false :=
  BE.tri_ok (lw2f_hr x0 x1 f0 f1 f2 f3 hpre) (e := (.cm .lt (.v 9) (.k (-1000)))) (by kernel_rfl) (by kernel_rfl)
theorem lw2f_c14_ff (x0 x1 f0 f1 f2 f3 : Int) (hpre : True) : lw2f_c14 x0 x1 f0 f1 f2 f3 = false :=
  BE.tri_ok (lw2f_hr x0 x1 f0 f1 f2 f3 hpre) (e := (.cm .gt (.v 9) (.k (1000)))) (by kernel_rfl) (by kernel_rfl)
theorem lw2f_c15_ff (x0 x1 f0 f1 f2 f3 : Int) (hpre : True) : lw2f_c15 x0 x1 f0 f1 f2 f3 = false :=
  BE.tri_ok (lw2f_hr x0 x1 f0 f1 f2 f3 hpre) (e := lw2f_q8) (by kernel_rfl) (by kernel_rfl)
theorem lw2f_c16_ff (x0 x1 f0 f1 f2 f3 : Int) (hpre : True) : lw2f_c16 x0 x1 f0 f1 f2 f3 = false :=
  BE.tri_ok (lw2f_hr x0 x1 f0 f1 f2 f3 hpre) (e := lw2f_q9) (by kernel_rfl) (by kernel_rfl)
theorem lw2f_c17_ff (x0 x1 f0 f1 f2 f3 : Int) (hpre : True) : lw2f_c17 x0 x1 f0 f1 f2 f3 = false :=
  BE.tri_ok (lw2f_hr x0 x1 f0 f1 f2 f3 hpre) (e := (.cm .lt lw2f_q10 (.k (-1073741824)))) (by kernel_rfl) (by kernel_rfl)
theorem lw2f_c18_ff (x0 x1 f0 f1 f2 f3 : Int) (hpre : True) : lw2f_c18 x0 x1 f0 f1 f2 f3 = false :=
  BE.tri_ok (lw2f_hr x0 x1 f0 f1 f2 f3 hpre) (e := (.cm .gt lw2f_q10 (.k (1073741824)))) (by kernel_rfl) (by kernel_rfl)
def lw2f_z0 (P : Prop) (x0 x1 f0 f1 f2 f3 : Int) : Prop := ((((((((((((((((((((((P ∧ lw2f_h0) ∧ lw2f_h0) ∧ lw2f_h0) ∧ lw2f_h0) ∧ lw2f_h1) ∧ lw2f_h2) ∧ lw2f_h3) ∧ lw2f_h0) ∧ lw2f_h3) ∧ lw2f_h0) ∧ lw2f_h2) ∧ lw2f_h2) ∧ lw2f_h2) ∧ lw2f_h3) ∧ lw2f_h2) ∧ lw2f_h2) ∧ lw2f_h2) ∧ lw2f_h2) ∧ lw2f_h4) ∧ lw2f_h0) ∧ lw2f_h4) ∧ lw2f_h0)
theorem lw2f_z0_h {P : Prop} (h : P) (x0 x1 f0 f1 f2 f3 : Int) (hpre : True) : lw2f_z0 P x0 x1 f0 f1 f2 f3 := ⟨⟨⟨⟨⟨⟨⟨⟨⟨⟨⟨⟨⟨⟨⟨⟨⟨⟨⟨⟨⟨⟨h, lw2f_g0⟩, lw2f_g0⟩, lw2f_g0⟩, lw2f_g0⟩, lw2f_g1⟩, lw2f_g2⟩, lw2f_g3⟩, lw2f_g0⟩, lw2f_g3⟩, lw2f_g0⟩, lw2f_g2⟩, lw2f_g2⟩, lw2f_g2⟩, lw2f_g3⟩, lw2f_g2⟩, lw2f_g2⟩, lw2f_g2⟩, lw2f_g2⟩, lw2f_g4⟩, lw2f_g0⟩, lw2f_g4⟩, lw2f_g0⟩
def lw2f_z1 (P : Prop) (x0 x1 f0 f1 f2 f3 : Int) : Prop := ((((((P ∧ (lw2f_c0 x0 x1 f0 f1 f2 f3 = false)) ∧ (lw2f_c0 x0 x1 f0 f1 f2 f3 = false)) ∧ (lw2f_c0 x0 x1 f0 f1 f2 f3 = false)) ∧ (lw2f_c0 x0 x1 f0 f1 f2 f3 = false)) ∧ (lw2f_c0 x0 x1 f0 f1 f2 f3 = false)) ∧ (lw2f_c0 x0 x1 f0 f1 f2 f3 = false))
theorem lw2f_z1_h {P : Prop} (h : P) (x0 x1 f0 f1 f2 f3 : Int) (hpre : True) (k0 : (lw2f_c0 x0 x1 f0 f1 f2 f3 = false)) : lw2f_z1 P x0 x1 f0 f1 f2 f3 := ⟨⟨⟨⟨⟨⟨h, k0⟩, k0⟩, k0⟩, k0⟩, k0⟩, k0⟩
def lw2f_z2 (P : Prop) (x0 x1 f0 f1 f2 f3 : Int) : Prop := (((((((((((((((((((((((((((((((((((((((((P ∧ lw2f_h0) ∧ lw2f_h0) ∧ lw2f_h0) ∧ lw2f_h6) ∧ lw2f_h2) ∧ lw2f_h3) ∧ (lw2f_c1 x0 x1 f0 f1 f2 f3 = false)) ∧ (lw2f_c1 x0 x1 f0 f1 f2 f3 = false)) ∧ (lw2f_c1 x0 x1 f0 f1 f2 f3 = false)) ∧ (lw2f_c1 x0 x1 f0 f1 f2 f3 = false)) ∧ (lw2f_c2 x0 x1 f0 f1 f2 f3 = false)) ∧ lw2f_h0) ∧ lw2f_h2) ∧ lw2f_h4) ∧ (lw2f_c3 x0 x1 f0 f1 f2 f3 = false)) ∧ (lw2f_c3 x0 x1 f0 f1 f2 f3 = false)) ∧ (lw2f_c3 x0 x1 f0 f1 f2 f3 = false)) ∧ (lw2f_c3 x0 x1 f0 f1 f2 f3 = false)) ∧ (lw2f_c4 x0 x1 f0 f1 f2 f3 = false)) ∧ lw2f_h0) ∧ lw2f_h2) ∧ lw2f_h11) ∧ lw2f_h0) ∧ lw2f_h0) ∧ lw2f_h0) ∧ lw2f_h0) ∧ lw2f_h12) ∧ lw2f_h0) ∧ lw2f_h0) ∧ lw2f_h0) ∧ lw2f_h11) ∧ lw2f_h0) ∧ lw2f_h0) ∧ lw2f_h0) ∧ lw2f_h13) ∧ lw2f_h14) ∧ lw2f_h14) ∧ lw2f_h3) ∧ lw2f_h11) ∧ lw2f_h14) ∧ lw2f_h14)
theorem lw2f_z2_h {P : Prop} (h : P) (x0 x1 f0 f1 f2 f3 : Int) (hpre : True) : lw2f_z2 P x0 x1 f0 f1 f2 f3 := ⟨⟨⟨⟨⟨⟨⟨⟨⟨⟨⟨⟨⟨⟨⟨⟨⟨⟨⟨⟨⟨⟨⟨⟨⟨⟨⟨⟨⟨⟨⟨⟨⟨⟨⟨⟨⟨⟨⟨⟨⟨h, lw2f_g0⟩, lw2f_g0⟩, lw2f_g0⟩, lw2f_g6⟩, lw2f_g2⟩, lw2f_g3⟩, (lw2f_c1_ff x0 x1 f0 f1 f2 f3 hpre)⟩, (lw2f_c1_ff x0 x1 f0 f1 f2 f3 hpre)⟩, (lw2f_c1_ff x0 x1 f0 f1 f2 f3 hpre)⟩, (lw2f_c1_ff x0 x1 f0 f1 f2 f3 hpre)⟩, (lw2f_c2_ff x0 x1 f0 f1 f2 f3 hpre)⟩, lw2f_g0⟩, lw2f_g2⟩, lw2f_g4⟩, (lw2f_c3_ff x0 x1 f0 f1 f2 f3 hpre)⟩, (lw2f_c3_ff x0 x1 f0 f1 f2 f3 hpre)⟩, (lw2f_c3_ff x0 x1 f0 f1 f2 f3 hpre)⟩, (lw2f_c3_ff x0 x1 f0 f1 f2 f3 hpre)⟩, (lw2f_c4_ff x0 x1 f0 f1 f2 f3 hpre)⟩, lw2f_g0⟩, lw2f_g2⟩, lw2f_g11⟩, lw2f_g0⟩, lw2f_g0⟩, lw2f_g0⟩, lw2f_g0⟩, lw2f_g12⟩, lw2f_g0⟩, lw2f_g0⟩, lw2f_g0⟩, lw2f_g11⟩, lw2f_g0⟩, lw2f_g0⟩, lw2f_g0⟩, lw2f_g13⟩, lw2f_g14⟩, lw2f_g14⟩, lw2f_g3⟩, lw2f_g11⟩, lw2f_g14⟩, lw2f_g14⟩
def lw2f_z3 (P : Prop) (x0 x1 f0 f1 f2 f3 : Int) : Prop := ((((((((((((P ∧ (lw2f_c5 x0 x1 f0 f1 f2 f3 = false)) ∧ lw2f_h2) ∧ lw2f_h3) ∧ lw2f_h3) ∧ lw2f_h11) ∧ (lw2f_c6 x0 x1 f0 f1 f2 f3 = true)) ∧ lw2f_h0) ∧ lw2f_h0) ∧ lw2f_h0) ∧ lw2f_h0) ∧ lw2f_h17) ∧ lw2f_h2)
theorem lw2f_z3_h {P : Prop} (h : P) (x0 x1 f0 f1 f2 f3 : Int) (hpre : True) (k0 : (lw2f_c5 x0 x1 f0 f1 f2 f3 = false)) (k1 : (lw2f_c6 x0 x1 f0 f1 f2 f3 = true)) : lw2f_z3 P x0 x1 f0 f1 f2 f3 := ⟨⟨⟨⟨⟨⟨⟨⟨⟨⟨⟨⟨h, k0⟩, lw2f_g2⟩, lw2f_g3⟩, lw2f_g3⟩, lw2f_g11⟩, k1⟩, lw2f_g0⟩, lw2f_g0⟩, lw2f_g0⟩, lw2f_g0⟩, lw2f_g17⟩, lw2f_g2⟩
def lw2f_z4 (P : Prop) (x0 x1 f0 f1 f2 f3 : Int) : Prop := (((((((P ∧ (lw2f_c0 x0 x1 f0 f1 f2 f3 = true)) ∧ (lw2f_c0 x0 x1 f0 f1 f2 f3 = true)) ∧ (lw2f_c0 x0 x1 f0 f1 f2 f3 = true)) ∧ lw2f_h4) ∧ (lw2f_c0 x0 x1 f0 f1 f2 f3 = true)) ∧ (lw2f_c0 x0 x1 f0 f1 f2 f3 = true)) ∧ (lw2f_c0 x0 x1 f0 f1 f2 f3 = true))
theorem lw2f_z4_h {P : Prop} (h : P) (x0 x1 f0 f1 f2 f3 : Int) (hpre : True) (k0 : (lw2f_c0 x0 x1 f0 f1 f2 f3 = true)) : lw2f_z4 P x0 x1 f0 f1 f2 f3 := ⟨⟨⟨⟨⟨⟨⟨h, k0⟩, k0⟩, k0⟩, lw2f_g4⟩, k0⟩, k0⟩, k0⟩
def lw2f_z5 (P : Prop) (x0 x1 f0 f1 f2 f3 : Int) : Prop := (((((((((((((((((((((((((((((P ∧ (lw2f_c5 x0 x1 f0 f1 f2 f3 = true)) ∧ lw2f_h13) ∧ lw2f_h2) ∧ lw2f_h11) ∧ lw2f_h3) ∧ lw2f_h3) ∧ lw2f_h4) ∧ lw2f_h3) ∧ lw2f_h2) ∧ lw2f_h11) ∧ lw2f_h4) ∧ lw2f_h3) ∧ lw2f_h3) ∧ lw2f_h4) ∧ lw2f_h0) ∧ lw2f_h20) ∧ lw2f_h20) ∧ lw2f_h20) ∧ lw2f_h20) ∧ lw2f_h0) ∧ lw2f_h2) ∧ lw2f_h3) ∧ lw2f_h3) ∧ lw2f_h11) ∧ (lw2f_c6 x0 x1 f0 f1 f2 f3 = false)) ∧ lw2f_h2) ∧ lw2f_h4) ∧ lw2f_h3) ∧ lw2f_h4)
theorem lw2f_z5_h {P : Prop} (h : P) (x0 x1 f0 f1 f2 f3 : Int) (hpre : True) (k0 : (lw2f_c5 x0 x1 f0 f1 f2 f3 = true)) (k1 : (lw2f_c6 x0 x1 f0 f1 f2 f3 = false)) : lw2f_z5 P x0 x1 f0 f1 f2 f3 := ⟨⟨⟨⟨⟨⟨⟨⟨⟨⟨⟨⟨⟨⟨⟨⟨⟨⟨⟨⟨⟨⟨⟨⟨⟨⟨⟨⟨⟨h, k0⟩, lw2f_g13⟩, lw2f_g2⟩, lw2f_g11⟩, lw2f_g3⟩, lw2f_g3⟩, lw2f_g4⟩, lw2f_g3⟩, lw2f_g2⟩, lw2f_g11⟩, lw2f_g4⟩, lw2f_g3⟩, lw2f_g3⟩, lw2f_g4⟩, lw2f_g0⟩, lw2f_g20⟩, lw2f_g20⟩, lw2f_g20⟩, lw2f_g20⟩, lw2f_g0⟩, lw2f_g2⟩, lw2f_g3⟩, lw2f_g3⟩, lw2f_g11⟩, k1⟩, lw2f_g2⟩, lw2f_g4⟩, lw2f_g3⟩, lw2f_g4⟩
def lw2f_z6 (P : Prop) (x0 x1 f0 f1 f2 f3 : Int) : Prop := (((((((P ∧ (lw2f_c7 x0 x1 f0 f1 f2 f3 = true)) ∧ lw2f_h0) ∧ lw2f_h0) ∧ lw2f_h0) ∧ lw2f_h0) ∧ (lw2f_c8 x0 x1 f0 f1 f2 f3 = false)) ∧ (lw2f_c9 x0 x1 f0 f1 f2 f3 = true))
theorem lw2f_z6_h {P : Prop} (h : P) (x0 x1 f0 f1 f2 f3 : Int) (hpre : True) (k0 : (lw2f_c7 x0 x1 f0 f1 f2 f3 = true)) (k1 : (lw2f_c8 x0 x1 f0 f1 f2 f3 = false)) (k2 : (lw2f_c9 x0 x1 f0 f1 f2 f3 = true)) : lw2f_z6 P x0 x1 f0 f1 f2 f3 := ⟨⟨⟨⟨⟨⟨⟨h, k0⟩, lw2f_g0⟩, lw2f_g0⟩, lw2f_g0⟩, lw2f_g0⟩, k1⟩, k2⟩
def lw2f_z7 (P : Prop) (x0 x1 f0 f1 f2 f3 : Int) : Prop := ((((((((((((((((((((((((((((((((((((((((((((((((((((((((((((((((((((((((((((((((((((((((((((((((((((((((((((((((((((((((((((((((((((((((((((((((((((((((((((((((((((((((((((((((((((((((((((((((((((((((((((((((((((((((P ∧ (lw2f_c7 x0 x1 f0 f1 f2 f3 = false)) ∧ lw2f_h0) ∧ lw2f_h0) ∧ lw2f_h0) ∧ lw2f_h0) ∧ lw2f_h0) ∧ (lw2f_c10 x0 x1 f0 f1 f2 f3 = false)) ∧ (lw2f_c9 x0 x1 f0 f1 f2 f3 = false)) ∧ lw2f_h0) ∧ lw2f_h6) ∧ lw2f_h2) ∧ lw2f_h3) ∧ (lw2f_c1 x0 x1 f0 f1 f2 f3 = false)) ∧ (lw2f_c1 x0 x1 f0 f1 f2 f3 = false)) ∧ (lw2f_c1 x0 x1 f0 f1 f2 f3 = false)) ∧ (lw2f_c1 x0 x1 f0 f1 f2 f3 = false)) ∧ (lw2f_c2 x0 x1 f0 f1 f2 f3 = false)) ∧ lw2f_h0) ∧ lw2f_h2) ∧ lw2f_h4) ∧ (lw2f_c3 x0 x1 f0 f1 f2 f3 = false)) ∧ (lw2f_c3 x0 x1 f0 f1 f2 f3 = false)) ∧ (lw2f_c3 x0 x1 f0 f1 f2 f3 = false)) ∧ (lw2f_c3 x0 x1 f0 f1 f2 f3 = false)) ∧ (lw2f_c4 x0 x1 f0 f1 f2 f3 = false)) ∧ lw2f_h0) ∧ lw2f_h2) ∧ lw2f_h11) ∧ lw2f_h0) ∧ lw2f_h0) ∧ lw2f_h0) ∧ lw2f_h0) ∧ lw2f_h12) ∧ lw2f_h0) ∧ lw2f_h0) ∧ lw2f_h0) ∧ lw2f_h11) ∧ lw2f_h0) ∧ lw2f_h0) ∧ lw2f_h0) ∧ lw2f_h2) ∧ lw2f_h3) ∧ (lw2f_c11 x0 x1 f0 f1 f2 f3 = false)) ∧ (lw2f_c11 x0 x1 f0 f1 f2 f3 = false)) ∧ (lw2f_c11 x0 x1 f0 f1 f2 f3 = false)) ∧ (lw2f_c11 x0 x1 f0 f1 f2 f3 = false)) ∧ (lw2f_c12 x0 x1 f0 f1 f2 f3 = false)) ∧ lw2f_h0) ∧ lw2f_h2) ∧ lw2f_h4) ∧ (lw2f_c13 x0 x1 f0 f1 f2 f3 = false)) ∧ (lw2f_c13 x0 x1 f0 f1 f2 f3 = false)) ∧ (lw2f_c13 x0 x1 f0 f1 f2 f3 = false)) ∧ (lw2f_c13 x0 x1 f0 f1 f2 f3 = false)) ∧ (lw2f_c14 x0 x1 f0 f1 f2 f3 = false)) ∧ lw2f_h0) ∧ lw2f_h0) ∧ lw2f_h0) ∧ lw2f_h0) ∧ lw2f_h0) ∧ lw2f_h0) ∧ lw2f_h32) ∧ lw2f_h2) ∧ lw2f_h3) ∧ lw2f_h0) ∧ lw2f_h2) ∧ lw2f_h4) ∧ lw2f_h0) ∧ lw2f_h2) ∧ lw2f_h11) ∧ lw2f_h0) ∧ lw2f_h0) ∧ lw2f_h0) ∧ lw2f_h2) ∧ lw2f_h3) ∧ lw2f_h11) ∧ lw2f_h0) ∧ lw2f_h3) ∧ lw2f_h2) ∧ lw2f_h4) ∧ lw2f_h11) ∧ lw2f_h2) ∧ lw2f_h0) ∧ lw2f_h4) ∧ lw2f_h0) ∧ lw2f_h2) ∧ lw2f_h3) ∧ lw2f_h11) ∧ lw2f_h2) ∧ lw2f_h0) ∧ lw2f_h3) ∧ lw2f_h2) ∧ lw2f_h4) ∧ lw2f_h11) ∧ lw2f_h0) ∧ lw2f_h4) ∧ lw2f_h0) ∧ lw2f_h2) ∧ lw2f_h3) ∧ lw2f_h3) ∧ lw2f_h2) ∧ lw2f_h4) ∧ lw2f_h4) ∧ lw2f_h0) ∧ lw2f_h2) ∧ lw2f_h2) ∧ lw2f_h3) ∧ lw2f_h3) ∧ lw2f_h2) ∧ lw2f_h4) ∧ lw2f_h4) ∧ lw2f_h0) ∧ (lw2f_c15 x0 x1 f0 f1 f2 f3 = false)) ∧ (lw2f_c15 x0 x1 f0 f1 f2 f3 = false)) ∧ (lw2f_c15 x0 x1 f0 f1 f2 f3 = false)) ∧ (lw2f_c15 x0 x1 f0 f1 f2 f3 = false)) ∧ (lw2f_c16 x0 x1 f0 f1 f2 f3 = false)) ∧ lw2f_h0) ∧ lw2f_h2) ∧ lw2f_h2) ∧ lw2f_h3) ∧ lw2f_h4) ∧ lw2f_h2) ∧ lw2f_h4) ∧ lw2f_h11) ∧ lw2f_h0) ∧ (lw2f_c17 x0 x1 f0 f1 f2 f3 = false)) ∧ (lw2f_c17 x0 x1 f0 f1 f2 f3 = false)) ∧ (lw2f_c17 x0 x1 f0 f1 f2 f3 = false)) ∧ (lw2f_c17 x0 x1 f0 f1 f2 f3 = false)) ∧ (lw2f_c18 x0 x1 f0 f1 f2 f3 = false)) ∧ lw2f_h0) ∧ lw2f_h2) ∧ lw2f_h2) ∧ lw2f_h3) ∧ lw2f_h11) ∧ lw2f_h2) ∧ lw2f_h4) ∧ lw2f_h37) ∧ lw2f_h0) ∧ (lw2f_c19 x0 x1 f0 f1 f2 f3 = false)) ∧ (lw2f_c19 x0 x1 f0 f1 f2 f3 = false)) ∧ (lw2f_c19 x0 x1 f0 f1 f2 f3 = false)) ∧ (lw2f_c19 x0 x1 f0 f1 f2 f3 = false)) ∧ (lw2f_c20 x0 x1 f0 f1 f2 f3 = false)) ∧ lw2f_h0) ∧ lw2f_h2) ∧ lw2f_h2) ∧ lw2f_h3) ∧ lw2f_h37) ∧ lw2f_h2) ∧ lw2f_h4) ∧ lw2f_h40) ∧ lw2f_h0) ∧ (lw2f_c21 x0 x1 f0 f1 f2 f3 = false)) ∧ (lw2f_c21 x0 x1 f0 f1 f2 f3 = false)) ∧ (lw2f_c21 x0 x1 f0 f1 f2 f3 = false)) ∧ (lw2f_c21 x0 x1 f0 f1 f2 f3 = false)) ∧ (lw2f_c22 x0 x1 f0 f1 f2 f3 = false)) ∧ lw2f_h0) ∧ lw2f_h2) ∧ lw2f_h2) ∧ lw2f_h3) ∧ lw2f_h40) ∧ lw2f_h2) ∧ lw2f_h4) ∧ lw2f_h43) ∧ lw2f_h0) ∧ (lw2f_c23 x0 x1 f0 f1 f2 f3 = false)) ∧ (lw2f_c23 x0 x1 f0 f1 f2 f3 = false)) ∧ (lw2f_c23 x0 x1 f0 f1 f2 f3 = false)) ∧ (lw2f_c23 x0 x1 f0 f1 f2 f3 = false)) ∧ (lw2f_c24 x0 x1 f0 f1 f2 f3 = false)) ∧ lw2f_h0) ∧ lw2f_h2) ∧ lw2f_h2) ∧ lw2f_h3) ∧ lw2f_h43) ∧ lw2f_h2) ∧ lw2f_h4) ∧ lw2f_h46) ∧ lw2f_h0) ∧ (lw2f_c25 x0 x1 f0 f1 f2 f3 = false)) ∧ (lw2f_c25 x0 x1 f0 f1 f2 f3 = false)) ∧ (lw2f_c25 x0 x1 f0 f1 f2 f3 = false)) ∧ (lw2f_c25 x0 x1 f0 f1 f2 f3 = false)) ∧ (lw2f_c26 x0 x1 f0 f1 f2 f3 = false)) ∧ lw2f_h0) ∧ lw2f_h0) ∧ lw2f_h0) ∧ lw2f_h0) ∧ lw2f_h0) ∧ lw2f_h0) ∧ lw2f_h0) ∧ lw2f_h0) ∧ lw2f_h0) ∧ lw2f_h0) ∧ lw2f_h2) ∧ lw2f_h3) ∧ (lw2f_c27 x0 x1 f0 f1 f2 f3 = false)) ∧ lw2f_h2) ∧ lw2f_h4) ∧ (lw2f_c28 x0 x1 f0 f1 f2 f3 = false)) ∧ lw2f_h2) ∧ lw2f_h11) ∧ (lw2f_c29 x0 x1 f0 f1 f2 f3 = false)) ∧ lw2f_h2) ∧ lw2f_h37) ∧ (lw2f_c30 x0 x1 f0 f1 f2 f3 = false)) ∧ lw2f_h2) ∧ lw2f_h40) ∧ (lw2f_c31 x0 x1 f0 f1 f2 f3 = false)) ∧ lw2f_h2) ∧ lw2f_h43) ∧ (lw2f_c32 x0 x1 f0 f1 f2 f3 = false)) ∧ lw2f_h0)
theorem lw2f_z7_h {P : Prop} (h : P) (x0 x1 f0 f1 f2 f3 : Int) (hpre : True) (k0 : (lw2f_c7 x0 x1 f0 f1 f2 f3 = false)) (k1 : (lw2f_c10 x0 x1 f0 f1 f2 f3 = false)) (k2 : (lw2f_c9 x0 x1 f0 f1 f2 f3 = false)) (k3 : (lw2f_c19 x0 x1 f0 f1 f2 f3 = false)) (k4 : (lw2f_c20 x0 x1 f0 f1 f2 f3 = false)) (k5 : (lw2f_c21 x0 x1 f0 f1 f2 f3 = false)) (k6 : (lw2f_c22 x0 x1 f0 f1 f2 f3 = false)) (k7 : (lw2f_c23 x0 x1 f0 f1 f2 f3 = false)) (k8 : (lw2f_c24 x0 x1 f0 f1 f2 f3 = false)) (k9 : (lw2f_c25 x0 x1 f0 f1 f2 f3 = false)) (k10 : (lw2f_c26 x0 x1 f0 f1 f2 f3 = false)) (k11 : (lw2f_c27 x0 x1 f0 f1 f2 f3 = false)) (k12 : (lw2f_c28 x0 x1 f0 f1 f2 f3 = false)) (k13 : (lw2f_c29 x0 x1 f0 f1 f2 f3 = false)) (k14 : (lw2f_c30 x0 x1 f0 f1 f2 f3 = false)) (k15 : (lw2f_c31 x0 x1 f0 f1 f2 f3 = false)) (k16 : (lw2f_c32 x0 x1 f0 f1 f2 f3 = false)) : lw2f_z7 P x0 x1 f0 f1 f2 f3 := ⟨⟨⟨⟨⟨⟨⟨⟨⟨⟨⟨⟨⟨⟨⟨⟨⟨⟨⟨⟨⟨⟨⟨⟨⟨⟨⟨⟨⟨⟨⟨⟨⟨⟨⟨⟨⟨⟨⟨⟨⟨⟨⟨⟨⟨⟨⟨⟨⟨⟨⟨⟨⟨⟨⟨⟨⟨⟨⟨⟨⟨⟨⟨⟨⟨⟨⟨⟨⟨⟨⟨⟨⟨⟨⟨⟨⟨⟨⟨⟨⟨⟨⟨⟨⟨⟨⟨⟨⟨⟨⟨⟨⟨⟨⟨⟨⟨⟨⟨⟨⟨⟨⟨⟨⟨⟨⟨⟨⟨⟨⟨⟨⟨⟨⟨⟨⟨⟨⟨⟨⟨⟨⟨⟨⟨⟨⟨⟨⟨⟨⟨⟨⟨⟨⟨⟨⟨⟨⟨⟨⟨⟨⟨⟨⟨⟨⟨⟨⟨⟨⟨⟨⟨⟨⟨⟨⟨⟨⟨⟨⟨⟨⟨⟨⟨⟨⟨⟨⟨⟨⟨⟨⟨⟨⟨⟨⟨⟨⟨⟨⟨⟨⟨⟨⟨⟨⟨⟨⟨⟨⟨⟨⟨⟨⟨⟨⟨⟨⟨⟨⟨⟨⟨⟨⟨⟨⟨⟨⟨⟨⟨⟨⟨⟨⟨⟨h, k0⟩, lw2f_g0⟩, lw2f_g0⟩, lw2f_g0⟩, lw2f_g0⟩, lw2f_g0⟩, k1⟩, k2⟩, lw2f_g0⟩, lw2f_g6⟩, lw2f_g2⟩, lw2f_g3⟩, (lw2f_c1_ff x0 x1 f0 f1 f2 f3 hpre)⟩, (lw2f_c1_ff x0 x1 f0 f1 f2 f3 hpre)⟩, (lw2f_c1_ff x0 x1 f0 f1 f2 f3 hpre)⟩, (lw2f_c1_ff x0 x1 f0 f1 f2 f3 hpre)⟩, (lw2f_c2_ff x0 x1 f0 f1 f2 f3 hpre)⟩, lw2f_g0⟩, lw2f_g2⟩, lw2f_g4⟩, (lw2f_c3_ff x0 x1 f0 f1 f2 f3 hpre)⟩, (lw2f_c3_ff x0 x1 f0 f1 f2 f3 hpre)⟩, (lw2f_c3_ff x0 x1 f0 f1 f2 f3 hpre)⟩, (lw2f_c3_ff x0 x1 f0 f1 f2 f3 hpre)⟩, (lw2f_c4_ff x0 x1 f0 f1 f2 f3 hpre)⟩, lw2f_g0⟩, lw2f_g2⟩, lw2f_g11⟩, lw2f_g0⟩, lw2f_g0⟩, lw2f_g0⟩, lw2f_g0⟩, lw2f_g12⟩, lw2f_g0⟩, lw2f_g0⟩, lw2f_g0⟩, lw2f_g11⟩, lw2f_g0⟩, lw2f_g0⟩, lw2f_g0⟩, lw2f_g2⟩, lw2f_g3⟩, (lw2f_c11_ff x0 x1 f0 f1 f2 f3 hpre)⟩, (lw2f_c11_ff x0 x1 f0 f1 f2 f3 hpre)⟩, (lw2f_c11_ff x0 x1 f0 f1 f2 f3 hpre)⟩, (lw2f_c11_ff x0 x1 f0 f1 f2 f3 hpre)⟩, (lw2f_c12_ff x0 x1 f0 f1 f2 f3 hpre)⟩, lw2f_g0⟩, lw2f_g2⟩, lw2f_g4⟩, (lw2f_c13_ff x0 x1 f0 f1 f2 f3 hpre)⟩, (lw2f_c13_ff x0 x1 f0 f1 f2 f3 hpre)⟩, (lw2f_c13_ff x0 x1 f0 f1 f2 f3 hpre)⟩, (lw2f_c13_ff x0 x1 f0 f1 f2 f3 hpre)⟩, (lw2f_c14_ff x0 x1 f0 f1 f2 f3 hpre)⟩, lw2f_g0⟩, lw2f_g0⟩, lw2f_g0⟩, lw2f_g0⟩, lw2f_g0⟩, lw2f_g0⟩, lw2f_g32⟩, lw2f_g2⟩, lw2f_g3⟩, lw2f_g0⟩, lw2f_g2⟩, lw2f_g4⟩, lw2f_g0⟩, lw2f_g2⟩, lw2f_g11⟩, lw2f_g0⟩, lw2f_g0⟩, lw2f_g0⟩, lw2f_g2⟩, lw2f_g3⟩, lw2f_g11⟩, lw2f_g0⟩, lw2f_g3⟩, lw2f_g2⟩, lw2f_g4⟩, lw2f_g11⟩, lw2f_g2⟩, lw2f_g0⟩, lw2f_g4⟩, lw2f_g0⟩, lw2f_g2⟩, lw2f_g3⟩, lw2f_g11⟩, lw2f_g2⟩, lw2f_g0⟩, lw2f_g3⟩, lw2f_g2⟩, lw2f_g4⟩, lw2f_g11⟩, lw2f_g0⟩, lw2f_g4⟩, lw2f_g0⟩, lw2f_g2⟩, lw2f_g3⟩, lw2f_g3⟩, lw2f_g2⟩, lw2f_g4⟩, lw2f_g4⟩, lw2f_g0⟩, lw2f_g2⟩, lw2f_g2⟩, lw2f_g3⟩, lw2f_g3⟩, lw2f_g2⟩, lw2f_g4⟩, lw2f_g4⟩, lw2f_g0⟩, (lw2f_c15_ff x0 x1 f0 f1 f2 f3 hpre)⟩, (lw2f_c15_ff x0 x1 f0 f1 f2 f3 hpre)⟩, (lw2f_c15_ff x0 x1 f0 f1 f2 f3 hpre)⟩, (lw2f_c15_ff x0 x1 f0 f1 f2 f3 hpre)⟩, (lw2f_c16_ff x0 x1 f0 f1 f2 f3 hpre)⟩, lw2f_g0⟩, lw2f_g2⟩, lw2f_g2⟩, lw2f_g3⟩, lw2f_g4⟩, lw2f_g2⟩, lw2f_g4⟩, lw2f_g11⟩, lw2f_g0⟩, (lw2f_c17_ff x0 x1 f0 f1 f2 f3 hpre)⟩, (lw2f_c17_ff x0 x1 f0 f1 f2 f3 hpre)⟩, (lw2f_c17_ff x0 x1 f0 f1 f2 f3 hpre)⟩, (lw2f_c17_ff x0 x1 f0 f1 f2 f3 hpre)⟩, (lw2f_c18_ff x0 x1 f0 f1 f2 f3 hpre)⟩, lw2f_g0⟩, lw2f_g2⟩, lw2f_g2⟩, lw2f_g3⟩, lw2f_g11⟩, lw2f_g2⟩, lw2f_g4⟩, lw2f_g37⟩, lw2f_g0⟩, k3⟩, k3⟩, k3⟩, k3⟩, k4⟩, lw2f_g0⟩, lw2f_g2⟩, lw2f_g2⟩, lw2f_g3⟩, lw2f_g37⟩, lw2f_g2⟩, lw2f_g4⟩, lw2f_g40⟩, lw2f_g0⟩, k5⟩, k5⟩, k5⟩, k5⟩, k6⟩, lw2f_g0⟩, lw2f_g2⟩, lw2f_g2⟩, lw2f_g3⟩, lw2f_g40⟩, lw2f_g2⟩, lw2f_g4⟩, lw2f_g43⟩, lw2f_g0⟩, k7⟩, k7⟩, k7⟩, k7⟩, k8⟩, lw2f_g0⟩, lw2f_g2⟩, lw2f_g2⟩, lw2f_g3⟩, lw2f_g43⟩, lw2f_g2⟩, lw2f_g4⟩, lw2f_g46⟩, lw2f_g0⟩, k9⟩, k9⟩, k9⟩, k9⟩, k10⟩, lw2f_g0⟩, lw2f_g0⟩, lw2f_g0⟩, lw2f_g0⟩, lw2f_g0⟩, lw2f_g0⟩, lw2f_g0⟩, lw2f_g0⟩, lw2f_g0⟩, lw2f_g0⟩, lw2f_g2⟩, lw2f_g3⟩, k11⟩, lw2f_g2⟩, lw2f_g4⟩, k12⟩, lw2f_g2⟩, lw2f_g11⟩, k13⟩, lw2f_g2⟩, lw2f_g37⟩, k14⟩, lw2f_g2⟩, lw2f_g40⟩, k15⟩, lw2f_g2⟩, lw2f_g43⟩, k16⟩, lw2f_g0⟩
def lw2f_r0 (x0 x1 f0 f1 f2 f3 : Int) : Prop := (lw2f_z3 (lw2f_z2 (lw2f_z1 (lw2f_z0 True x0 x1 f0 f1 f2 f3) x0 x1 f0 f1 f2 f3) x0 x1 f0 f1 f2 f3) x0 x1 f0 f1 f2 f3)
theorem lw2f_o0 (x0 x1 f0 f1 f2 f3 : Int) (c : Nat) : obY (lw2f_e0 x0 x1 f0 f1 f2 f3 c) = lw2f_r0 x0 x1 f0 f1 f2 f3 := by kernel_rfl
theorem lw2f_g0_ (x0 x1 f0 f1 f2 f3 : Int) (c : Nat) : goodY (lw2f_e0 x0 x1 f0 f1 f2 f3 c) = true := by kernel_rfl
theorem lw2f_p0 (x0 x1 f0 f1 f2 f3 : Int) (c : Nat) (h : lw2f_r0 x0 x1 f0 f1 f2 f3) : ∃ s1 R, SndF Tryz.prog 3 #[.slice (some ⟨6, 0, none⟩) 2 c, .bool false, .agg #[.int .i16 f0, .int .i16 f1, .int .i16 f2, .int .i16 f3]] (aw3S0.push (.cells [.int .i8 x0, .int .i8 x1] 0 true 0 true)) (.bool true) s1 R 0 :=
  sndY (r := lw2f_e0 x0 x1 f0 f1 f2 f3 c) (by delta lw2f_e0; exact Eq.refl _) gfol lw2f_X (lw2f_g0_ x0 x1 f0 f1 f2 f3 c) ((lw2f_o0 x0 x1 f0 f1 f2 f3 c).symm ▸ h)
def lw2f_r1 (x0 x1 f0 f1 f2 f3 : Int) : Prop := (lw2f_z6 (lw2f_z5 (lw2f_z2 (lw2f_z4 (lw2f_z0 True x0 x1 f0 f1 f2 f3) x0 x1 f0 f1 f2 f3) x0 x1 f0 f1 f2 f3) x0 x1 f0 f1 f2 f3) x0 x1 f0 f1 f2 f3)
theorem lw2f_o1 (x0 x1 f0 f1 f2 f3 : Int) (c : Nat) : obY (lw2f_e1 x0 x1 f0 f1 f2 f3 c) = lw2f_r1 x0 x1 f0 f1 f2 f3 := by kernel_rfl
theorem lw2f_g1_ (x0 x1 f0 f1 f2 f3 : Int) (c : Nat) : goodY (lw2f_e1 x0 x1 f0 f1 f2 f3 c) = true := by kernel_rfl
theorem lw2f_p1 (x0 x1 f0 f1 f2 f3 : Int) (c : Nat) (h : lw2f_r1 x0 x1 f0 f1 f2 f3) : ∃ s1 R, SndF Tryz.prog 3 #[.slice (some ⟨6, 0, none⟩) 2 c, .bool false, .agg #[.int .i16 f0, .int .i16 f1, .int .i16 f2, .int .i16 f3]] (aw3S0.push (.cells [.int .i8 x0, .int .i8 x1] 0 true 0 true)) (.bool true) s1 R 0 :=
  sndY (r := lw2f_e1 x0 x1 f0 f1 f2 f3 c) (by delta lw2f_e1; exact Eq.refl _) gfol lw2f_X (lw2f_g1_ x0 x1 f0 f1 f2 f3 c) ((lw2f_o1 x0 x1 f0 f1 f2 f3 c).symm ▸ h)
def lw2f_r2 (x0 x1 f0 f1 f2 f3 : Int) : Prop := (lw2f_z7 (lw2f_z5 (lw2f_z2 (lw2f_z4 (lw2f_z0 True x0 x1 f0 f1 f2 f3) x0 x1 f0 f1 f2 f3) x0 x1 f0 f1 f2 f3) x0 x1 f0 f1 f2 f3) x0 x1 f0 f1 f2 f3)
theorem lw2f_o2 (x0 x1 f0 f1 f2 f3 : Int) (c : Nat) : obY (lw2f_e2 x0 x1 f0 f1 f2 f3 c) = lw2f_r2 x0 x1 f0 f1 f2 f3 := by kernel_rfl
theorem lw2f_g2_ (x0 x1 f0 f1 f2 f3 : Int) (c : Nat) : goodY (lw2f_e2 x0 x1 f0 f1 f2 f3 c) = true := by kernel_rfl
theorem lw2f_p2 (x0 x1 f0 f1 f2 f3 : Int) (c : Nat) (h : lw2f_r2 x0 x1 f0 f1 f2 f3) : ∃ s1 R, SndF Tryz.prog 3 #[.slice (some ⟨6, 0, none⟩) 2 c, .bool false, .agg #[.int .i16 f0, .int .i16 f1, .int .i16 f2, .int .i16 f3]] (aw3S0.push (.cells [.int .i8 x0, .int .i8 x1] 0 true 0 true)) (.bool true) s1 R 0 :=
  sndY (r := lw2f_e2 x0 x1 f0 f1 f2 f3 c) (by delta lw2f_e2; exact Eq.refl _) gfol lw2f_X (lw2f_g2_ x0 x1 f0 f1 f2 f3 c) ((lw2f_o2 x0 x1 f0 f1 f2 f3 c).symm ▸ h)
theorem lw2f_any (x0 x1 f0 f1 f2 f3 : Int) (c : Nat) (hpre : True) : ∃ s1 R, SndF Tryz.prog 3 #[.slice (some ⟨6, 0, none⟩) 2 c, .bool false, .agg #[.int .i16 f0, .int .i16 f1, .int .i16 f2, .int .i16 f3]] (aw3S0.push (.cells [.int .i8 x0, .int .i8 x1] 0 true 0 true)) (.bool true) s1 R 0 := by
  rcases Bool.eq_false_or_eq_true (lw2f_c0 x0 x1 f0 f1 f2 f3) with h0 | h0
  ·
    have h1 : (lw2f_c1 x0 x1 f0 f1 f2 f3 = false) := lw2f_c1_ff x0 x1 f0 f1 f2 f3 hpre
    have h2 : (lw2f_c2 x0 x1 f0 f1 f2 f3 = false) := lw2f_c2_ff x0 x1 f0 f1 f2 f3 hpre
    have h3 : (lw2f_c3 x0 x1 f0 f1 f2 f3 = false) := lw2f_c3_ff x0 x1 f0 f1 f2 f3 hpre
    have h4 : (lw2f_c4 x0 x1 f0 f1 f2 f3 = false) := lw2f_c4_ff x0 x1 f0 f1 f2 f3 hpre
    have h5 : (lw2f_c5 x0 x1 f0 f1 f2 f3 = true) := by
      have r6 : Rg.has (0, 0) (lw2f_at0 x0) := by
        have hr : InR [(-100, 100)] [(lw2f_at0 x0)] := ⟨lw2f_rg6 x0 x1 f0 f1 f2 f3 hpre, trivial⟩
        have ha := BE.all_ok hr lw2f_q15 (by kernel_rfl)
        have hx : BE.ev [(lw2f_at0 x0)] (.cm .eq (.v 0) (.k (0))) = true := (show BE.ev [(lw2f_at0 x0)] (.cm .eq (.v 0) (.k (0))) = lw2f_c0 x0 x1 f0 f1 f2 f3 by kernel_rfl).trans h0
        have ha := orT ha hx
        exact rgB ha
      have hr : InR [(0, 0)] [(lw2f_at0 x0)] := ⟨r6, trivial⟩
      have e1 : lw2f_c5 x0 x1 f0 f1 f2 f3 = BE.ev [(lw2f_at0 x0)] lw2f_q16 := by kernel_rfl
      rw [e1]
      exact BE.tri_ok hr (by kernel_rfl) (by kernel_rfl)
    have h6 : (lw2f_c6 x0 x1 f0 f1 f2 f3 = false) := by
      have hz := (show lw2f_c5 x0 x1 f0 f1 f2 f3 = Bool.not (lw2f_c6 x0 x1 f0 f1 f2 f3) by kernel_rfl).symm.trans h5
      generalize lw2f_c6 x0 x1 f0 f1 f2 f3 = z at hz ⊢
      cases z <;> first | rfl | cases hz
    rcases Bool.eq_false_or_eq_true (lw2f_c7 x0 x1 f0 f1 f2 f3) with h7 | h7
    ·
      have h8 : (lw2f_c8 x0 x1 f0 f1 f2 f3 = false) := by
        have r6 : Rg.has (0, 0) (lw2f_at0 x0) := by
          have hr : InR [(-100, 100)] [(lw2f_at0 x0)] := ⟨lw2f_rg6 x0 x1 f0 f1 f2 f3 hpre, trivial⟩
          have ha := BE.all_ok hr lw2f_q15 (by kernel_rfl)
          have hx : BE.ev [(lw2f_at0 x0)] (.cm .eq (.v 0) (.k (0))) = true := (show BE.ev [(lw2f_at0 x0)] (.cm .eq (.v 0) (.k (0))) = lw2f_c0 x0 x1 f0 f1 f2 f3 by kernel_rfl).trans h0
          have ha := orT ha hx
          exact rgB ha
        have hr : InR [(0, 0), (-100, 100)] [(lw2f_at0 x0), (lw2f_at0 x1)] := ⟨r6, ⟨lw2f_rg7 x0 x1 f0 f1 f2 f3 hpre, trivial⟩⟩
        have hr2 : InR [(-100, 100)] [(lw2f_at0 x1)] := ⟨lw2f_rg7 x0 x1 f0 f1 f2 f3 hpre, trivial⟩
        have ha := BE.all_ok hr2 (.or (.not (.cm .ge lw2f_q17 (.k (1)))) (.not lw2f_q18)) (by kernel_rfl)
        have hx : BE.ev [(lw2f_at0 x1)] (.cm .ge lw2f_q17 (.k (1))) = true := (show BE.ev [(lw2f_at0 x1)] (.cm .ge lw2f_q17 (.k (1))) = BE.ev [(lw2f_at0 x0), (lw2f_at0 x1)] (.cm .ge lw2f_q19 (.k (1))) by kernel_rfl).trans ((BE.smp_to hr lw2f_q22 (.cm .ge lw2f_q19 (.k (1))) (by kernel_rfl) (by kernel_rfl)).symm.trans ((show BE.ev [(lw2f_at0 x0), (lw2f_at0 x1)] lw2f_q22 = lw2f_c7 x0 x1 f0 f1 f2 f3 by kernel_rfl).trans h7))
        have ha := orT ha hx
        exact (show lw2f_c8 x0 x1 f0 f1 f2 f3 = BE.ev [(lw2f_at0 x0), (lw2f_at0 x1)] lw2f_q23 by kernel_rfl).trans ((BE.smp_to hr lw2f_q23 lw2f_q24 (by kernel_rfl) (by kernel_rfl)).trans ((show BE.ev [(lw2f_at0 x0), (lw2f_at0 x1)] lw2f_q24 = BE.ev [(lw2f_at0 x1)] lw2f_q18 by kernel_rfl).trans (notT ha)))
      have h9 : (lw2f_c9 x0 x1 f0 f1 f2 f3 = true) := by
        have r6 : Rg.has (0, 0) (lw2f_at0 x0) := by
          have hr : InR [(-100, 100)] [(lw2f_at0 x0)] := ⟨lw2f_rg6 x0 x1 f0 f1 f2 f3 hpre, trivial⟩
          have ha := BE.all_ok hr lw2f_q15 (by kernel_rfl)
          have hx : BE.ev [(lw2f_at0 x0)] (.cm .eq (.v 0) (.k (0))) = true := (show BE.ev [(lw2f_at0 x0)] (.cm .eq (.v 0) (.k (0))) = lw2f_c0 x0 x1 f0 f1 f2 f3 by kernel_rfl).trans h0
          have ha := orT ha hx
          exact rgB ha
        have hr : InR [(0, 0), (-100, 100)] [(lw2f_at0 x0), (lw2f_at0 x1)] := ⟨r6, ⟨lw2f_rg7 x0 x1 f0 f1 f2 f3 hpre, trivial⟩⟩
        have hr2 : InR [(-100, 100)] [(lw2f_at0 x1)] := ⟨lw2f_rg7 x0 x1 f0 f1 f2 f3 hpre, trivial⟩
        have ha := BE.all_ok hr2 (.or (.not (.cm .ge lw2f_q17 (.k (1)))) (.not (.cm .eq (.v 0) (.k (0))))) (by kernel_rfl)
        have hx : BE.ev [(lw2f_at0 x1)] (.cm .ge lw2f_q17 (.k (1))) = true := (show BE.ev [(lw2f_at0 x1)] (.cm .ge lw2f_q17 (.k (1))) = BE.ev [(lw2f_at0 x0), (lw2f_at0 x1)] (.cm .ge lw2f_q19 (.k (1))) by kernel_rfl).trans ((BE.smp_to hr lw2f_q22 (.cm .ge lw2f_q19 (.k (1))) (by kernel_rfl) (by kernel_rfl)).symm.trans ((show BE.ev [(lw2f_at0 x0), (lw2f_at0 x1)] lw2f_q22 = lw2f_c7 x0 x1 f0 f1 f2 f3 by kernel_rfl).trans h7))
        have ha := orT ha hx
        exact (show lw2f_c9 x0 x1 f0 f1 f2 f3 = BE.ev [(lw2f_at0 x0), (lw2f_at0 x1)] (.not (.cm .eq (.v 1) (.k (0)))) by kernel_rfl).trans ((BE.smp_to hr (.not (.cm .eq (.v 1) (.k (0)))) (.not (.cm .eq (.v 1) (.k (0)))) (by kernel_rfl) (by kernel_rfl)).trans ((show BE.ev [(lw2f_at0 x0), (lw2f_at0 x1)] (.not (.cm .eq (.v 1) (.k (0)))) = BE.ev [(lw2f_at0 x1)] (.not (.cm .eq (.v 0) (.k (0)))) by kernel_rfl).trans (ha)))
      exact lw2f_p1 x0 x1 f0 f1 f2 f3 c (lw2f_z6_h (lw2f_z5_h (lw2f_z2_h (lw2f_z4_h (lw2f_z0_h trivial x0 x1 f0 f1 f2 f3 hpre) x0 x1 f0 f1 f2 f3 hpre h0) x0 x1 f0 f1 f2 f3 hpre) x0 x1 f0 f1 f2 f3 hpre h5 h6) x0 x1 f0 f1 f2 f3 hpre h7 h8 h9)
    ·
      have h10 : (lw2f_c10 x0 x1 f0 f1 f2 f3 = false) := by
        have r6 : Rg.has (0, 0) (lw2f_at0 x0) := by
          have hr : InR [(-100, 100)] [(lw2f_at0 x0)] := ⟨lw2f_rg6 x0 x1 f0 f1 f2 f3 hpre, trivial⟩
          have ha := BE.all_ok hr lw2f_q15 (by kernel_rfl)
          have hx : BE.ev [(lw2f_at0 x0)] (.cm .eq (.v 0) (.k (0))) = true := (show BE.ev [(lw2f_at0 x0)] (.cm .eq (.v 0) (.k (0))) = lw2f_c0 x0 x1 f0 f1 f2 f3 by kernel_rfl).trans h0
          have ha := orT ha hx
          exact rgB ha
        have r7 : Rg.has (0, 0) (lw2f_at0 x1) := by
          have hr : InR [(0, 0), (-100, 100)] [(lw2f_at0 x0), (lw2f_at0 x1)] := ⟨r6, ⟨lw2f_rg7 x0 x1 f0 f1 f2 f3 hpre, trivial⟩⟩
          have ha := BE.all_ok hr lw2f_q25 (by kernel_rfl)
          have hx : BE.ev [(lw2f_at0 x0), (lw2f_at0 x1)] lw2f_q22 = false := (show BE.ev [(lw2f_at0 x0), (lw2f_at0 x1)] lw2f_q22 = lw2f_c7 x0 x1 f0 f1 f2 f3 by kernel_rfl).trans h7
          have ha := orT ha (notF hx)
          exact rgB ha
        have hr : InR [(0, 0)] [(lw2f_at0 x1)] := ⟨r7, trivial⟩
        have e1 : lw2f_c10 x0 x1 f0 f1 f2 f3 = BE.ev [(lw2f_at0 x1)] (.not (.beq (.not (.cm .ge (.k (-1)) (.k (0)))) (.cm .eq (.v 0) (.k (0))))) := by kernel_rfl
        rw [e1]
        exact BE.tri_ok hr (by kernel_rfl) (by kernel_rfl)
      have h11 : (lw2f_c9 x0 x1 f0 f1 f2 f3 = false) := by
        have r6 : Rg.has (0, 0) (lw2f_at0 x0) := by
          have hr : InR [(-100, 100)] [(lw2f_at0 x0)] := ⟨lw2f_rg6 x0 x1 f0 f1 f2 f3 hpre, trivial⟩
          have ha := BE.all_ok hr lw2f_q15 (by kernel_rfl)
          have hx : BE.ev [(lw2f_at0 x0)] (.cm .eq (.v 0) (.k (0))) = true := (show BE.ev [(lw2f_at0 x0)] (.cm .eq (.v 0) (.k (0))) = lw2f_c0 x0 x1 f0 f1 f2 f3 by kernel_rfl).trans h0
          have ha := orT ha hx
          exact rgB ha
        have r7 : Rg.has (0, 0) (lw2f_at0 x1) := by
          have hr : InR [(0, 0), (-100, 100)] [(lw2f_at0 x0), (lw2f_at0 x1)] := ⟨r6, ⟨lw2f_rg7 x0 x1 f0 f1 f2 f3 hpre, trivial⟩⟩
          have ha := BE.all_ok hr lw2f_q25 (by kernel_rfl)
          have hx : BE.ev [(lw2f_at0 x0), (lw2f_at0 x1)] lw2f_q22 = false := (show BE.ev [(lw2f_at0 x0), (lw2f_at0 x1)] lw2f_q22 = lw2f_c7 x0 x1 f0 f1 f2 f3 by kernel_rfl).trans h7
          have ha := orT ha (notF hx)
          exact rgB ha
        have hr : InR [(0, 0)] [(lw2f_at0 x1)] := ⟨r7, trivial⟩
        have e1 : lw2f_c9 x0 x1 f0 f1 f2 f3 = BE.ev [(lw2f_at0 x1)] (.not (.cm .eq (.v 0) (.k (0)))) := by kernel_rfl
        rw [e1]
        exact BE.tri_ok hr (by kernel_rfl) (by kernel_rfl)
      have h12 : (lw2f_c11 x0 x1 f0 f1 f2 f3 = false) := lw2f_c11_ff x0 x1 f0 f1 f2 f3 hpre
      have h13 : (lw2f_c12 x0 x1 f0 f1 f2 f3 = false) := lw2f_c12_ff x0 x1 f0 f1 f2 f3 hpre
      have h14 : (lw2f_c13 x0 x1 f0 f1 f2 f3 = false) := lw2f_c13_ff x0 x1 f0 f1 f2 f3 hpre
      have h15 : (lw2f_c14 x0 x1 f0 f1 f2 f3 = false) := lw2f_c14_ff x0 x1 f0 f1 f2 f3 hpre
      have h16 : (lw2f_c15 x0 x1 f0 f1 f2 f3 = false) := lw2f_c15_ff x0 x1 f0 f1 f2 f3 hpre
      have h17 : (lw2f_c16 x0 x1 f0 f1 f2 f3 = false) := lw2f_c16_ff x0 x1 f0 f1 f2 f3 hpre
      have h18 : (lw2f_c17 x0 x1 f0 f1 f2 f3 = false) := lw2f_c17_ff x0 x1 f0 f1 f2 f3 hpre
      have h19 : (lw2f_c18 x0 x1 f0 f1 f2 f3 = false) := lw2f_c18_ff x0 x1 f0 f1 f2 f3 hpre
      have h20 : (lw2f_c19 x0 x1 f0 f1 f2 f3 = false) := by
        have r6 : Rg.has (0, 0) (lw2f_at0 x0) := by
          have hr : InR [(-100, 100)] [(lw2f_at0 x0)] := ⟨lw2f_rg6 x0 x1 f0 f1 f2 f3 hpre, trivial⟩
          have ha := BE.all_ok hr lw2f_q15 (by kernel_rfl)
          have hx : BE.ev [(lw2f_at0 x0)] (.cm .eq (.v 0) (.k (0))) = true := (show BE.ev [(lw2f_at0 x0)] (.cm .eq (.v 0) (.k (0))) = lw2f_c0 x0 x1 f0 f1 f2 f3 by kernel_rfl).trans h0
          have ha := orT ha hx
          exact rgB ha
        have r7 : Rg.has (0, 0) (lw2f_at0 x1) := by
          have hr : InR [(0, 0), (-100, 100)] [(lw2f_at0 x0), (lw2f_at0 x1)] := ⟨r6, ⟨lw2f_rg7 x0 x1 f0 f1 f2 f3 hpre, trivial⟩⟩
          have ha := BE.all_ok hr lw2f_q25 (by kernel_rfl)
          have hx : BE.ev [(lw2f_at0 x0), (lw2f_at0 x1)] lw2f_q22 = false := (show BE.ev [(lw2f_at0 x0), (lw2f_at0 x1)] lw2f_q22 = lw2f_c7 x0 x1 f0 f1 f2 f3 by kernel_rfl).trans h7
          have ha := orT ha (notF hx)
          exact rgB ha
        have hr : InR [(0, 0), (0, 0), (-1000, 1000), (-1000, 1000)] [(lw2f_at0 x0), (lw2f_at0 x1), (lw2f_at1 f0), (lw2f_at1 f1)] := ⟨r6, ⟨r7, ⟨lw2f_rg8 x0 x1 f0 f1 f2 f3 hpre, ⟨lw2f_rg9 x0 x1 f0 f1 f2 f3 hpre, trivial⟩⟩⟩⟩
        have e1 : lw2f_c19 x0 x1 f0 f1 f2 f3 = BE.ev [(lw2f_at0 x0), (lw2f_at0 x1), (lw2f_at1 f0), (lw2f_at1 f1)] (.cm .lt lw2f_q30 (.k (-1073741824))) := by kernel_rfl
        rw [e1]
        exact BE.tri_ok hr (by kernel_rfl) (by kernel_rfl)
      have h21 : (lw2f_c20 x0 x1 f0 f1 f2 f3 = false) := by
        have r6 : Rg.has (0, 0) (lw2f_at0 x0) := by
          have hr : InR [(-100, 100)] [(lw2f_at0 x0)] := ⟨lw2f_rg6 x0 x1 f0 f1 f2 f3 hpre, trivial⟩
          have ha := BE.all_ok hr lw2f_q15 (by kernel_rfl)
          have hx : BE.ev [(lw2f_at0 x0)] (.cm .eq (.v 0) (.k (0))) = true := (show BE.ev [(lw2f_at0 x0)] (.cm .eq (.v 0) (.k (0))) = lw2f_c0 x0 x1 f0 f1 f2 f3 by kernel_rfl).trans h0
          have ha := orT ha hx
          exact rgB ha
        have r7 : Rg.has (0, 0) (lw2f_at0 x1) := by
          have hr : InR [(0, 0), (-100, 100)] [(lw2f_at0 x0), (lw2f_at0 x1)] := ⟨r6, ⟨lw2f_rg7 x0 x1 f0 f1 f2 f3 hpre, trivial⟩⟩
          have ha := BE.all_ok hr lw2f_q25 (by kernel_rfl)
          have hx : BE.ev [(lw2f_at0 x0), (lw2f_at0 x1)] lw2f_q22 = false := (show BE.ev [(lw2f_at0 x0), (lw2f_at0 x1)] lw2f_q22 = lw2f_c7 x0 x1 f0 f1 f2 f3 by kernel_rfl).trans h7
          have ha := orT ha (notF hx)
          exact rgB ha
        have hr : InR [(0, 0), (0, 0), (-1000, 1000), (-1000, 1000)] [(lw2f_at0 x0), (lw2f_at0 x1), (lw2f_at1 f0), (lw2f_at1 f1)] := ⟨r6, ⟨r7, ⟨lw2f_rg8 x0 x1 f0 f1 f2 f3 hpre, ⟨lw2f_rg9 x0 x1 f0 f1 f2 f3 hpre, trivial⟩⟩⟩⟩
        have e1 : lw2f_c20 x0 x1 f0 f1 f2 f3 = BE.ev [(lw2f_at0 x0), (lw2f_at0 x1), (lw2f_at1 f0), (lw2f_at1 f1)] (.cm .gt lw2f_q30 (.k (1073741824))) := by kernel_rfl
        rw [e1]
        exact BE.tri_ok hr (by kernel_rfl) (by kernel_rfl)
      have h22 : (lw2f_c21 x0 x1 f0 f1 f2 f3 = false) := by
        have r6 : Rg.has (0, 0) (lw2f_at0 x0) := by
          have hr : InR [(-100, 100)] [(lw2f_at0 x0)] := ⟨lw2f_rg6 x0 x1 f0 f1 f2 f3 hpre, trivial⟩
          have ha := BE.all_ok hr lw2f_q15 (by kernel_rfl)
          have hx : BE.ev [(lw2f_at0 x0)] (.cm .eq (.v 0) (.k (0))) = true := (show BE.ev [(lw2f_at0 x0)] (.cm .eq (.v 0) (.k (0))) = lw2f_c0 x0 x1 f0 f1 f2 f3 by kernel_rfl).trans h0
          have ha := orT ha hx
          exact rgB ha
        have r7 : Rg.has (0, 0) (lw2f_at0 x1) := by
          have hr : InR [(0, 0), (-100, 100)] [(lw2f_at0 x0), (lw2f_at0 x1)] := ⟨r6, ⟨lw2f_rg7 x0 x1 f0 f1 f2 f3 hpre, trivial⟩⟩
          have ha := BE.all_ok hr lw2f_q25 (by kernel_rfl)
          have hx : BE.ev [(lw2f_at0 x0), (lw2f_at0 x1)] lw2f_q22 = false := (show BE.ev [(lw2f_at0 x0), (lw2f_at0 x1)] lw2f_q22 = lw2f_c7 x0 x1 f0 f1 f2 f3 by kernel_rfl).trans h7
          have ha := orT ha (notF hx)
          exact rgB ha
        have hr : InR [(0, 0), (0, 0), (-1000, 1000), (-1000, 1000)] [(lw2f_at0 x0), (lw2f_at0 x1), (lw2f_at1 f0), (lw2f_at1 f1)] := ⟨r6, ⟨r7, ⟨lw2f_rg8 x0 x1 f0 f1 f2 f3 hpre, ⟨lw2f_rg9 x0 x1 f0 f1 f2 f3 hpre, trivial⟩⟩⟩⟩
        have e1 : lw2f_c21 x0 x1 f0 f1 f2 f3 = BE.ev [(lw2f_at0 x0), (lw2f_at0 x1), (lw2f_at1 f0), (lw2f_at1 f1)] (.cm .lt lw2f_q31 (.k (-1073741824))) := by kernel_rfl
        rw [e1]
        exact BE.tri_ok hr (by kernel_rfl) (by kernel_rfl)
      have h23 : (lw2f_c22 x0 x1 f0 f1 f2 f3 = false) := by
        have r6 : Rg.has (0, 0) (lw2f_at0 x0) := by
          have hr : InR [(-100, 100)] [(lw2f_at0 x0)] := ⟨lw2f_rg6 x0 x1 f0 f1 f2 f3 hpre, trivial⟩
          have ha := BE.all_ok hr lw2f_q15 (by kernel_rfl)
          have hx : BE.ev [(lw2f_at0 x0)] (.cm .eq (.v 0) (.k (0))) = true := (show BE.ev [(lw2f_at0 x0)] (.cm .eq (.v 0) (.k (0))) = lw2f_c0 x0 x1 f0 f1 f2 f3 by kernel_rfl).trans h0
          have ha := orT ha hx
          exact rgB ha
        have r7 : Rg.has (0, 0) (lw2f_at0 x1) := by
          have hr : InR [(0, 0), (-100, 100)] [(lw2f_at0 x0), (lw2f_at0 x1)] := ⟨r6, ⟨lw2f_rg7 x0 x1 f0 f1 f2 f3 hpre, trivial⟩⟩
          have ha := BE.all_ok hr lw2f_q25 (by kernel_rfl)
          have hx : BE.ev [(lw2f_at0 x0), (lw2f_at0 x1)] lw2f_q22 = false := (show BE.ev [(lw2f_at0 x0), (lw2f_at0 x1)] lw2f_q22 = lw2f_c7 x0 x1 f0 f1 f2 f3 by kernel_rfl).trans h7
          have ha := orT ha (notF hx)
          exact rgB ha
        have hr : InR [(0, 0), (0, 0), (-1000, 1000), (-1000, 1000)] [(lw2f_at0 x0), (lw2f_at0 x1), (lw2f_at1 f0), (lw2f_at1 f1)] := ⟨r6, ⟨r7, ⟨lw2f_rg8 x0 x1 f0 f1 f2 f3 hpre, ⟨lw2f_rg9 x0 x1 f0 f1 f2 f3 hpre, trivial⟩⟩⟩⟩
        have e1 : lw2f_c22 x0 x1 f0 f1 f2 f3 = BE.ev [(lw2f_at0 x0), (lw2f_at0 x1), (lw2f_at1 f0), (lw2f_at1 f1)] (.cm .gt lw2f_q31 (.k (1073741824))) := by kernel_rfl
        rw [e1]
        exact BE.tri_ok hr (by kernel_rfl) (by kernel_rfl)
      have h24 : (lw2f_c23 x0 x1 f0 f1 f2 f3 = false) := by
        have r6 : Rg.has (0, 0) (lw2f_at0 x0) := by
          have hr : InR [(-100, 100)] [(lw2f_at0 x0)] := ⟨lw2f_rg6 x0 x1 f0 f1 f2 f3 hpre, trivial⟩
          have ha := BE.all_ok hr lw2f_q15 (by kernel_rfl)
          have hx : BE.ev [(lw2f_at0 x0)] (.cm .eq (.v 0) (.k (0))) = true := (show BE.ev [(lw2f_at0 x0)] (.cm .eq (.v 0) (.k (0))) = lw2f_c0 x0 x1 f0 f1 f2 f3 by kernel_rfl).trans h0
          have ha := orT ha hx
          exact rgB ha
        have r7 : Rg.has (0, 0) (lw2f_at0 x1) := by
          have hr : InR [(0, 0), (-100, 100)] [(lw2f_at0 x0), (lw2f_at0 x1)] := ⟨r6, ⟨lw2f_rg7 x0 x1 f0 f1 f2 f3 hpre, trivial⟩⟩
          have ha := BE.all_ok hr lw2f_q25 (by kernel_rfl)
          have hx : BE.ev [(lw2f_at0 x0), (lw2f_at0 x1)] lw2f_q22 = false := (show BE.ev [(lw2f_at0 x0), (lw2f_at0 x1)] lw2f_q22 = lw2f_c7 x0 x1 f0 f1 f2 f3 by kernel_rfl).trans h7
          have ha := orT ha (notF hx)
          exact rgB ha
        have hr : InR [(0, 0), (0, 0), (-1000, 1000), (-1000, 1000)] [(lw2f_at0 x0), (lw2f_at0 x1), (lw2f_at1 f0), (lw2f_at1 f1)] := ⟨r6, ⟨r7, ⟨lw2f_rg8 x0 x1 f0 f1 f2 f3 hpre, ⟨lw2f_rg9 x0 x1 f0 f1 f2 f3 hpre, trivial⟩⟩⟩⟩
        have e1 : lw2f_c23 x0 x1 f0 f1 f2 f3 = BE.ev [(lw2f_at0 x0), (lw2f_at0 x1), (lw2f_at1 f0), (lw2f_at1 f1)] (.cm .lt lw2f_q32 (.k (-1073741824))) := by kernel_rfl
        rw [e1]
        exact BE.tri_ok hr (by kernel_rfl) (by kernel_rfl)
      have h25 : (lw2f_c24 x0 x1 f0 f1 f2 f3 = false) := by
        have r6 : Rg.has (0, 0) (lw2f_at0 x0) := by
          have hr : InR [(-100, 100)] [(lw2f_at0 x0)] := ⟨lw2f_rg6 x0 x1 f0 f1 f2 f3 hpre, trivial⟩
          have ha := BE.all_ok hr lw2f_q15 (by kernel_rfl)
          have hx : BE.ev [(lw2f_at0 x0)] (.cm .eq (.v 0) (.k (0))) = true := (show BE.ev [(lw2f_at0 x0)] (.cm .eq (.v 0) (.k (0))) = lw2f_c0 x0 x1 f0 f1 f2 f3 by kernel_rfl).trans h0
          have ha := orT ha hx
          exact rgB ha
        have r7 : Rg.has (0, 0) (lw2f_at0 x1) := by
          have hr : InR [(0, 0), (-100, 100)] [(lw2f_at0 x0), (lw2f_at0 x1)] := ⟨r6, ⟨lw2f_rg7 x0 x1 f0 f1 f2 f3 hpre, trivial⟩⟩
          have ha := BE.all_ok hr lw2f_q25 (by kernel_rfl)
          have hx : BE.ev [(lw2f_at0 x0), (lw2f_at0 x1)] lw2f_q22 = false := (show BE.ev [(lw2f_at0 x0), (lw2f_at0 x1)] lw2f_q22 = lw2f_c7 x0 x1 f0 f1 f2 f3 by kernel_rfl).trans h7
          have ha := orT ha (notF hx)
          exact rgB ha
        have hr : InR [(0, 0), (0, 0), (-1000, 1000), (-1000, 1000)] [(lw2f_at0 x0), (lw2f_at0 x1), (lw2f_at1 f0), (lw2f_at1 f1)] := ⟨r6, ⟨r7, ⟨lw2f_rg8 x0 x1 f0 f1 f2 f3 hpre, ⟨lw2f_rg9 x0 x1 f0 f1 f2 f3 hpre, trivial⟩⟩⟩⟩
        have e1 : lw2f_c24 x0 x1 f0 f1 f2 f3 = BE.ev [(lw2f_at0 x0), (lw2f_at0 x1), (lw2f_at1 f0), (lw2f_at1 f1)] (.cm .gt lw2f_q32 (.k (1073741824))) := by kernel_rfl
        rw [e1]
        exact BE.tri_ok hr (by kernel_rfl) (by kernel_rfl)
      have h26 : (lw2f_c25 x0 x1 f0 f1 f2 f3 = false) := by
        have r6 : Rg.has (0, 0) (lw2f_at0 x0) := by
          have hr : InR [(-100, 100)] [(lw2f_at0 x0)] := ⟨lw2f_rg6 x0 x1 f0 f1 f2 f3 hpre, trivial⟩
          have ha := BE.all_ok hr lw2f_q15 (by kernel_rfl)
          have hx : BE.ev [(lw2f_at0 x0)] (.cm .eq (.v 0) (.k (0))) = true := (show BE.ev [(lw2f_at0 x0)] (.cm .eq (.v 0) (.k (0))) = lw2f_c0 x0 x1 f0 f1 f2 f3 by kernel_rfl).trans h0
          have ha := orT ha hx
          exact rgB ha
        have r7 : Rg.has (0, 0) (lw2f_at0 x1) := by
          have hr : InR [(0, 0), (-100, 100)] [(lw2f_at0 x0), (lw2f_at0 x1)] := ⟨r6, ⟨lw2f_rg7 x0 x1 f0 f1 f2 f3 hpre, trivial⟩⟩
          have ha := BE.all_ok hr lw2f_q25 (by kernel_rfl)
          have hx : BE.ev [(lw2f_at0 x0), (lw2f_at0 x1)] lw2f_q22 = false := (show BE.ev [(lw2f_at0 x0), (lw2f_at0 x1)] lw2f_q22 = lw2f_c7 x0 x1 f0 f1 f2 f3 by kernel_rfl).trans h7
          have ha := orT ha (notF hx)
          exact rgB ha
        have hr : InR [(0, 0), (0, 0), (-1000, 1000), (-1000, 1000)] [(lw2f_at0 x0), (lw2f_at0 x1), (lw2f_at1 f0), (lw2f_at1 f1)] := ⟨r6, ⟨r7, ⟨lw2f_rg8 x0 x1 f0 f1 f2 f3 hpre, ⟨lw2f_rg9 x0 x1 f0 f1 f2 f3 hpre, trivial⟩⟩⟩⟩
        have e1 : lw2f_c25 x0 x1 f0 f1 f2 f3 = BE.ev [(lw2f_at0 x0), (lw2f_at0 x1), (lw2f_at1 f0), (lw2f_at1 f1)] (.cm .lt lw2f_q33 (.k (-1073741824))) := by kernel_rfl
        rw [e1]
        exact BE.tri_ok hr (by kernel_rfl) (by kernel_rfl)
      have h27 : (lw2f_c26 x0 x1 f0 f1 f2 f3 = false) := by
        have r6 : Rg.has (0, 0) (lw2f_at0 x0) := by
          have hr : InR [(-100, 100)] [(lw2f_at0 x0)] := ⟨lw2f_rg6 x0 x1 f0 f1 f2 f3 hpre, trivial⟩
          have ha := BE.all_ok hr lw2f_q15 (by kernel_rfl)
          have hx : BE.ev [(lw2f_at0 x0)] (.cm .eq (.v 0) (.k (0))) = true := (show BE.ev [(lw2f_at0 x0)] (.cm .eq (.v 0) (.k (0))) = lw2f_c0 x0 x1 f0 f1 f2 f3 by kernel_rfl).trans h0
          have ha := orT ha hx
          exact rgB ha
        have r7 : Rg.has (0, 0) (lw2f_at0 x1) := by
          have hr : InR [(0, 0), (-100, 100)] [(lw2f_at0 x0), (lw2f_at0 x1)] := ⟨r6, ⟨lw2f_rg7 x0 x1 f0 f1 f2 f3 hpre, trivial⟩⟩
          have ha := BE.all_ok hr lw2f_q25 (by kernel_rfl)
          have hx : BE.ev [(lw2f_at0 x0), (lw2f_at0 x1)] lw2f_q22 = false := (show BE.ev [(lw2f_at0 x0), (lw2f_at0 x1)] lw2f_q22 = lw2f_c7 x0 x1 f0 f1 f2 f3 by kernel_rfl).trans h7
          have ha := orT ha (notF hx)
          exact rgB ha
        have hr : InR [(0, 0), (0, 0), (-1000, 1000), (-1000, 1000)] [(lw2f_at0 x0), (lw2f_at0 x1), (lw2f_at1 f0), (lw2f_at1 f1)] := ⟨r6, ⟨r7, ⟨lw2f_rg8 x0 x1 f0 f1 f2 f3 hpre, ⟨lw2f_rg9 x0 x1 f0 f1 f2 f3 hpre, trivial⟩⟩⟩⟩
        have e1 : lw2f_c26 x0 x1 f0 f1 f2 f3 = BE.ev [(lw2f_at0 x0), (lw2f_at0 x1), (lw2f_at1 f0), (lw2f_at1 f1)] (.cm .gt lw2f_q33 (.k (1073741824))) := by kernel_rfl
        rw [e1]
        exact BE.tri_ok hr (by kernel_rfl) (by kernel_rfl)
      have h28 : (lw2f_c27 x0 x1 f0 f1 f2 f3 = false) := by
        have r6 : Rg.has (0, 0) (lw2f_at0 x0) := by
          have hr : InR [(-100, 100)] [(lw2f_at0 x0)] := ⟨lw2f_rg6 x0 x1 f0 f1 f2 f3 hpre, trivial⟩
          have ha := BE.all_ok hr lw2f_q15 (by kernel_rfl)
          have hx : BE.ev [(lw2f_at0 x0)] (.cm .eq (.v 0) (.k (0))) = true := (show BE.ev [(lw2f_at0 x0)] (.cm .eq (.v 0) (.k (0))) = lw2f_c0 x0 x1 f0 f1 f2 f3 by kernel_rfl).trans h0
          have ha := orT ha hx
          exact rgB ha
        have r7 : Rg.has (0, 0) (lw2f_at0 x1) := by
          have hr : InR [(0, 0), (-100, 100)] [(lw2f_at0 x0), (lw2f_at0 x1)] := ⟨r6, ⟨lw2f_rg7 x0 x1 f0 f1 f2 f3 hpre, trivial⟩⟩
          have ha := BE.all_ok hr lw2f_q25 (by kernel_rfl)
          have hx : BE.ev [(lw2f_at0 x0), (lw2f_at0 x1)] lw2f_q22 = false := (show BE.ev [(lw2f_at0 x0), (lw2f_at0 x1)] lw2f_q22 = lw2f_c7 x0 x1 f0 f1 f2 f3 by kernel_rfl).trans h7
          have ha := orT ha (notF hx)
          exact rgB ha
        have hr : InR [(0, 0), (0, 0), (-1000, 1000), (-1000, 1000)] [(lw2f_at0 x0), (lw2f_at0 x1), (lw2f_at1 f0), (lw2f_at1 f1)] := ⟨r6, ⟨r7, ⟨lw2f_rg8 x0 x1 f0 f1 f2 f3 hpre, ⟨lw2f_rg9 x0 x1 f0 f1 f2 f3 hpre, trivial⟩⟩⟩⟩
        have e1 : lw2f_c27 x0 x1 f0 f1 f2 f3 = BE.ev [(lw2f_at0 x0), (lw2f_at0 x1), (lw2f_at1 f0), (lw2f_at1 f1)] (.cm .ne (.wr lw2f_q28) (.k (0))) := by kernel_rfl
        rw [e1]
        exact BE.tri_ok hr (by kernel_rfl) (by kernel_rfl)
      have h29 : (lw2f_c28 x0 x1 f0 f1 f2 f3 = false) := by
        have r6 : Rg.has (0, 0) (lw2f_at0 x0) := by
          have hr : InR [(-100, 100)] [(lw2f_at0 x0)] := ⟨lw2f_rg6 x0 x1 f0 f1 f2 f3 hpre, trivial⟩
          have ha := BE.all_ok hr lw2f_q15 (by kernel_rfl)
          have hx : BE.ev [(lw2f_at0 x0)] (.cm .eq (.v 0) (.k (0))) = true := (show BE.ev [(lw2f_at0 x0)] (.cm .eq (.v 0) (.k (0))) = lw2f_c0 x0 x1 f0 f1 f2 f3 by kernel_rfl).trans h0
          have ha := orT ha hx
          exact rgB ha
        have r7 : Rg.has (0, 0) (lw2f_at0 x1) := by
          have hr : InR [(0, 0), (-100, 100)] [(lw2f_at0 x0), (lw2f_at0 x1)] := ⟨r6, ⟨lw2f_rg7 x0 x1 f0 f1 f2 f3 hpre, trivial⟩⟩
          have ha := BE.all_ok hr lw2f_q25 (by kernel_rfl)
          have hx : BE.ev [(lw2f_at0 x0), (lw2f_at0 x1)] lw2f_q22 = false := (show BE.ev [(lw2f_at0 x0), (lw2f_at0 x1)] lw2f_q22 = lw2f_c7 x0 x1 f0 f1 f2 f3 by kernel_rfl).trans h7
          have ha := orT ha (notF hx)
          exact rgB ha
        have hr : InR [(0, 0), (0, 0), (-1000, 1000), (-1000, 1000)] [(lw2f_at0 x0), (lw2f_at0 x1), (lw2f_at1 f0), (lw2f_at1 f1)] := ⟨r6, ⟨r7, ⟨lw2f_rg8 x0 x1 f0 f1 f2 f3 hpre, ⟨lw2f_rg9 x0 x1 f0 f1 f2 f3 hpre, trivial⟩⟩⟩⟩
        have e1 : lw2f_c28 x0 x1 f0 f1 f2 f3 = BE.ev [(lw2f_at0 x0), (lw2f_at0 x1), (lw2f_at1 f0), (lw2f_at1 f1)] (.cm .ne lw2f_q29 (.k (0))) := by kernel_rfl
        rw [e1]
        exact BE.tri_ok hr (by kernel_rfl) (by kernel_rfl)
      have h30 : (lw2f_c29 x0 x1 f0 f1 f2 f3 = false) := by
        have r6 : Rg.has (0, 0) (lw2f_at0 x0) := by
          have hr : InR [(-100, 100)] [(lw2f_at0 x0)] := ⟨lw2f_rg6 x0 x1 f0 f1 f2 f3 hpre, trivial⟩
          have ha := BE.all_ok hr lw2f_q15 (by kernel_rfl)
          have hx : BE.ev [(lw2f_at0 x0)] (.cm .eq (.v 0) (.k (0))) = true := (show BE.ev [(lw2f_at0 x0)] (.cm .eq (.v 0) (.k (0))) = lw2f_c0 x0 x1 f0 f1 f2 f3 by kernel_rfl).trans h0
          have ha := orT ha hx
          exact rgB ha
        have r7 : Rg.has (0, 0) (lw2f_at0 x1) := by
          have hr : InR [(0, 0), (-100, 100)] [(lw2f_at0 x0), (lw2f_at0 x1)] := ⟨r6, ⟨lw2f_rg7 x0 x1 f0 f1 f2 f3 hpre, trivial⟩⟩
          have ha := BE.all_ok hr lw2f_q25 (by kernel_rfl)
          have hx : BE.ev [(lw2f_at0 x0), (lw2f_at0 x1)] lw2f_q22 = false := (show BE.ev [(lw2f_at0 x0), (lw2f_at0 x1)] lw2f_q22 = lw2f_c7 x0 x1 f0 f1 f2 f3 by kernel_rfl).trans h7
          have ha := orT ha (notF hx)
          exact rgB ha
        have hr : InR [(0, 0), (0, 0), (-1000, 1000), (-1000, 1000)] [(lw2f_at0 x0), (lw2f_at0 x1), (lw2f_at1 f0), (lw2f_at1 f1)] := ⟨r6, ⟨r7, ⟨lw2f_rg8 x0 x1 f0 f1 f2 f3 hpre, ⟨lw2f_rg9 x0 x1 f0 f1 f2 f3 hpre, trivial⟩⟩⟩⟩
        have e1 : lw2f_c29 x0 x1 f0 f1 f2 f3 = BE.ev [(lw2f_at0 x0), (lw2f_at0 x1), (lw2f_at1 f0), (lw2f_at1 f1)] (.cm .ne lw2f_q30 (.k (0))) := by kernel_rfl
        rw [e1]
        exact BE.tri_ok hr (by kernel_rfl) (by kernel_rfl)
      have h31 : (lw2f_c30 x0 x1 f0 f1 f2 f3 = false) := by
        have r6 : Rg.has (0, 0) (lw2f_at0 x0) := by
          have hr : InR [(-100, 100)] [(lw2f_at0 x0)] := ⟨lw2f_rg6 x0 x1 f0 f1 f2 f3 hpre, trivial⟩
          have ha := BE.all_ok hr lw2f_q15 (by kernel_rfl)
          have hx : BE.ev [(lw2f_at0 x0)] (.cm .eq (.v 0) (.k (0))) = true := (show BE.ev [(lw2f_at0 x0)] (.cm .eq (.v 0) (.k (0))) = lw2f_c0 x0 x1 f0 f1 f2 f3 by kernel_rfl).trans h0
          have ha := orT ha hx
          exact rgB ha
        have r7 : Rg.has (0, 0) (lw2f_at0 x1) := by
          have hr : InR [(0, 0), (-100, 100)] [(lw2f_at0 x0), (lw2f_at0 x1)] := ⟨r6, ⟨lw2f_rg7 x0 x1 f0 f1 f2 f3 hpre, trivial⟩⟩
          have ha := BE.all_ok hr lw2f_q25 (by kernel_rfl)
          have hx : BE.ev [(lw2f_at0 x0), (lw2f_at0 x1)] lw2f_q22 = false := (show BE.ev [(lw2f_at0 x0), (lw2f_at0 x1)] lw2f_q22 = lw2f_c7 x0 x1 f0 f1 f2 f3 by kernel_rfl).trans h7
          have ha := orT ha (notF hx)
          exact rgB ha
        have hr : InR [(0, 0), (0, 0), (-1000, 1000), (-1000, 1000)] [(lw2f_at0 x0), (lw2f_at0 x1), (lw2f_at1 f0), (lw2f_at1 f1)] := ⟨r6, ⟨r7, ⟨lw2f_rg8 x0 x1 f0 f1 f2 f3 hpre, ⟨lw2f_rg9 x0 x1 f0 f1 f2 f3 hpre, trivial⟩⟩⟩⟩
        have e1 : lw2f_c30 x0 x1 f0 f1 f2 f3 = BE.ev [(lw2f_at0 x0), (lw2f_at0 x1), (lw2f_at1 f0), (lw2f_at1 f1)] (.cm .ne lw2f_q31 (.k (0))) := by kernel_rfl
        rw [e1]
        exact BE.tri_ok hr (by kernel_rfl) (by kernel_rfl)
      have h32 : (lw2f_c31 x0 x1 f0 f1 f2 f3 = false) := by
        have r6 : Rg.has (0, 0) (lw2f_at0 x0) := by
          have hr : InR [(-100, 100)] [(lw2f_at0 x0)] := ⟨lw2f_rg6 x0 x1 f0 f1 f2 f3 hpre, trivial⟩
          have ha := BE.all_ok hr lw2f_q15 (by kernel_rfl)
          have hx : BE.ev [(lw2f_at0 x0)] (.cm .eq (.v 0) (.k (0))) = true := (show BE.ev [(lw2f_at0 x0)] (.cm .eq (.v 0) (.k (0))) = lw2f_c0 x0 x1 f0 f1 f2 f3 by kernel_rfl).trans h0
          have ha := orT ha hx
          exact rgB ha
        have r7 : Rg.has (0, 0) (lw2f_at0 x1) := by
          have hr : InR [(0, 0), (-100, 100)] [(lw2f_at0 x0), (lw2f_at0 x1)] := ⟨r6, ⟨lw2f_rg7 x0 x1 f0 f1 f2 f3 hpre, trivial⟩⟩
          have ha := BE.all_ok hr lw2f_q25 (by kernel_rfl)
          have hx : BE.ev [(lw2f_at0 x0), (lw2f_at0 x1)] lw2f_q22 = false := (show BE.ev [(lw2f_at0 x0), (lw2f_at0 x1)] lw2f_q22 = lw2f_c7 x0 x1 f0 f1 f2 f3 by kernel_rfl).trans h7
          have ha := orT ha (notF hx)
          exact rgB ha
        have hr : InR [(0, 0), (0, 0), (-1000, 1000), (-1000, 1000)] [(lw2f_at0 x0), (lw2f_at0 x1), (lw2f_at1 f0), (lw2f_at1 f1)] := ⟨r6, ⟨r7, ⟨lw2f_rg8 x0 x1 f0 f1 f2 f3 hpre, ⟨lw2f_rg9 x0 x1 f0 f1 f2 f3 hpre, trivial⟩⟩⟩⟩
        have e1 : lw2f_c31 x0 x1 f0 f1 f2 f3 = BE.ev [(lw2f_at0 x0), (lw2f_at0 x1), (lw2f_at1 f0), (lw2f_at1 f1)] (.cm .ne lw2f_q32 (.k (0))) := by kernel_rfl
        rw [e1]
        exact BE.tri_ok hr (by kernel_rfl) (by kernel_rfl)
      have h33 : (lw2f_c32 x0 x1 f0 f1 f2 f3 = false) := by
        have r6 : Rg.has (0, 0) (lw2f_at0 x0) := by
          have hr : InR [(-100, 100)] [(lw2f_at0 x0)] := ⟨lw2f_rg6 x0 x1 f0 f1 f2 f3 hpre, trivial⟩
          have ha := BE.all_ok hr lw2f_q15 (by kernel_rfl)
          have hx : BE.ev [(lw2f_at0 x0)] (.cm .eq (.v 0) (.k (0))) = true := (show BE.ev [(lw2f_at0 x0)] (.cm .eq (.v 0) (.k (0))) = lw2f_c0 x0 x1 f0 f1 f2 f3 by kernel_rfl).trans h0
          have ha := orT ha hx
          exact rgB ha
        have r7 : Rg.has (0, 0) (lw2f_at0 x1) := by
          have hr : InR [(0, 0), (-100, 100)] [(lw2f_at0 x0), (lw2f_at0 x1)] := ⟨r6, ⟨lw2f_rg7 x0 x1 f0 f1 f2 f3 hpre, trivial⟩⟩
          have ha := BE.all_ok hr lw2f_q25 (by kernel_rfl)
          have hx : BE.ev [(lw2f_at0 x0), (lw2f_at0 x1)] lw2f_q22 = false := (show BE.ev [(lw2f_at0 x0), (lw2f_at0 x1)] lw2f_q22 = lw2f_c7 x0 x1 f0 f1 f2 f3 by kernel_rfl).trans h7
          have ha := orT ha (notF hx)
          exact rgB ha
        have hr : InR [(0, 0), (0, 0), (-1000, 1000), (-1000, 1000)] [(lw2f_at0 x0), (lw2f_at0 x1), (lw2f_at1 f0), (lw2f_at1 f1)] := ⟨r6, ⟨r7, ⟨lw2f_rg8 x0 x1 f0 f1 f2 f3 hpre, ⟨lw2f_rg9 x0 x1 f0 f1 f2 f3 hpre, trivial⟩⟩⟩⟩
        have e1 : lw2f_c32 x0 x1 f0 f1 f2 f3 = BE.ev [(lw2f_at0 x0), (lw2f_at0 x1), (lw2f_at1 f0), (lw2f_at1 f1)] (.cm .ne lw2f_q33 (.k (0))) := by kernel_rfl
        rw [e1]
        exact BE.tri_ok hr (by kernel_rfl) (by kernel_rfl)
      exact lw2f_p2 x0 x1 f0 f1 f2 f3 c (lw2f_z7_h (lw2f_z5_h (lw2f_z2_h (lw2f_z4_h (lw2f_z0_h trivial x0 x1 f0 f1 f2 f3 hpre) x0 x1 f0 f1 f2 f3 hpre h0) x0 x1 f0 f1 f2 f3 hpre) x0 x1 f0 f1 f2 f3 hpre h5 h6) x0 x1 f0 f1 f2 f3 hpre h7 h10 h11 h20 h21 h22 h23 h24 h25 h26 h27 h28 h29 h30 h31 h32 h33)
  ·
    have h34 : (lw2f_c1 x0 x1 f0 f1 f2 f3 = false) := lw2f_c1_ff x0 x1 f0 f1 f2 f3 hpre
    have h35 : (lw2f_c2 x0 x1 f0 f1 f2 f3 = false) := lw2f_c2_ff x0 x1 f0 f1 f2 f3 hpre
    have h36 : (lw2f_c3 x0 x1 f0 f1 f2 f3 = false) := lw2f_c3_ff x0 x1 f0 f1 f2 f3 hpre
    have h37 : (lw2f_c4 x0 x1 f0 f1 f2 f3 = false) := lw2f_c4_ff x0 x1 f0 f1 f2 f3 hpre
    have h38 : (lw2f_c5 x0 x1 f0 f1 f2 f3 = false) := by
      have hr : InR [(-100, 100)] [(lw2f_at0 x0)] := ⟨lw2f_rg6 x0 x1 f0 f1 f2 f3 hpre, trivial⟩
      have hr2 : InR [(-100, 100)] [(lw2f_at0 x0)] := ⟨lw2f_rg6 x0 x1 f0 f1 f2 f3 hpre, trivial⟩
      have ha := BE.all_ok hr2 (.or (.cm .eq (.v 0) (.k (0))) (.not lw2f_q34)) (by kernel_rfl)
      have hx : BE.ev [(lw2f_at0 x0)] (.cm .eq (.v 0) (.k (0))) = false := (show BE.ev [(lw2f_at0 x0)] (.cm .eq (.v 0) (.k (0))) = BE.ev [(lw2f_at0 x0)] (.cm .eq (.v 0) (.k (0))) by kernel_rfl).trans ((BE.smp_to hr (.cm .eq (.v 0) (.k (0))) (.cm .eq (.v 0) (.k (0))) (by kernel_rfl) (by kernel_rfl)).symm.trans ((show BE.ev [(lw2f_at0 x0)] (.cm .eq (.v 0) (.k (0))) = lw2f_c0 x0 x1 f0 f1 f2 f3 by kernel_rfl).trans h0))
      have ha := orF ha hx
      exact (show lw2f_c5 x0 x1 f0 f1 f2 f3 = BE.ev [(lw2f_at0 x0)] lw2f_q16 by kernel_rfl).trans ((BE.smp_to hr lw2f_q16 lw2f_q34 (by kernel_rfl) (by kernel_rfl)).trans ((show BE.ev [(lw2f_at0 x0)] lw2f_q34 = BE.ev [(lw2f_at0 x0)] lw2f_q34 by kernel_rfl).trans (notT ha)))
    have h39 : (lw2f_c6 x0 x1 f0 f1 f2 f3 = true) := by
      have hz := (show lw2f_c5 x0 x1 f0 f1 f2 f3 = Bool.not (lw2f_c6 x0 x1 f0 f1 f2 f3) by kernel_rfl).symm.trans h38
      generalize lw2f_c6 x0 x1 f0 f1 f2 f3 = z at hz ⊢
      cases z <;> first | rfl | cases hz
    exact lw2f_p0 x0 x1 f0 f1 f2 f3 c (lw2f_z3_h (lw2f_z2_h (lw2f_z1_h (lw2f_z0_h trivial x0 x1 f0 f1 f2 f3 hpre) x0 x1 f0 f1 f2 f3 hpre h0) x0 x1 f0 f1 f2 f3 hpre) x0 x1 f0 f1 f2 f3 hpre h38 h39)
end Go.Proofs.YtencngffhbhifaaGreatDoor
end
section
set_option linter.all false
set_option maxRecDepth 1000000
set_option maxHeartbeats 2000000
open Go.RowKit
namespace Go.Proofs.YtencngffhbhifaaGreatDoor
open Mini
def lw2t_at0 (y : Int) : Int := (Int.tmod (IntKind.i64.wrap y) (101 : Int))
def lw2t_at1 (y : Int) : Int := (Int.tmod (IntKind.i64.wrap y) (1001 : Int))
def lw2t_q0 : IE := .ite .gt (.k (1)) (.k (-1)) (.k (1)) (.k (-1))
def lw2t_q1 : BE := .cm .ge (.ite .gt (.wr (.sub (.k (0)) (.v 6))) (.v 6) (.wr (.sub (.k (0)) (.v 6))) (.v 6)) lw2t_q0
def lw2t_q2 : IE := .wr (.sub (.wr (.mul (.k (-1)) (.v 7))) (.wr (.mul (.v 6) (.v 7))))
def lw2t_q3 : IE := .wr (.sub (.k (1)) (.wr (.mul (.v 6) (.v 6))))
def lw2t_q4 : BE := .cm .ge (.ite .gt (.wr (.sub (.k (0)) lw2t_q2)) lw2t_q2 (.wr (.sub (.k (0)) lw2t_q2)) lw2t_q2) (.ite .gt (.wr (.sub (.k (0)) lw2t_q3)) lw2t_q3 (.wr (.sub (.k (0)) lw2t_q3)) lw2t_q3)
def lw2t_q5 : IE := .wr (.sub (.k (0)) (.wr (.mul (.v 6) (.k (-1)))))
def lw2t_q6 : IE := .wr (.sub (.k (0)) (.wr (.mul (.v 7) (.k (1)))))
def lw2t_q7 : IE := .add (.wr (.add (.k (0)) (.wr (.mul lw2t_q5 (.wr (.mul (.v 8) (.k (1)))))))) (.wr (.mul lw2t_q6 (.wr (.mul (.v 9) (.k (-1))))))
def lw2t_q8 : BE := .cm .lt (.wr lw2t_q7) (.k (-1073741824))
def lw2t_q9 : BE := .cm .gt (.wr lw2t_q7) (.k (1073741824))
def lw2t_q10 : IE := .wr (.add (.wr (.add (.k (0)) (.wr (.mul lw2t_q5 (.wr (.mul (.v 9) (.k (-1)))))))) (.wr (.mul lw2t_q6 (.wr lw2t_q7))))
def lw2t_q11 : IE := .wr (.add (.wr (.add (.k (0)) (.wr (.mul lw2t_q5 (.wr lw2t_q7))))) (.wr (.mul lw2t_q6 lw2t_q10)))
def lw2t_q12 : IE := .wr (.add (.wr (.add (.k (0)) (.wr (.mul lw2t_q5 lw2t_q10)))) (.wr (.mul lw2t_q6 lw2t_q11)))
def lw2t_q13 : IE := .wr (.add (.wr (.add (.k (0)) (.wr (.mul lw2t_q5 lw2t_q11)))) (.wr (.mul lw2t_q6 lw2t_q12)))
def lw2t_q14 : IE := .wr (.add (.wr (.add (.k (0)) (.wr (.mul lw2t_q5 lw2t_q12)))) (.wr (.mul lw2t_q6 lw2t_q13)))
def lw2t_q15 : BE := .or (.not (.cm .eq (.v 0) (.k (0)))) (.and (.cm .le (.k (0)) (.v 0)) (.cm .le (.v 0) (.k (0))))
def lw2t_q16 : BE := .not (.cm .ge (.ite .gt (.wr (.sub (.k (0)) (.v 0))) (.v 0) (.wr (.sub (.k (0)) (.v 0))) (.v 0)) lw2t_q0)
def lw2t_q17 : IE := .ite .gt (.sub (.k (0)) (.mul (.k (-1)) (.v 0))) (.mul (.k (-1)) (.v 0)) (.sub (.k (0)) (.mul (.k (-1)) (.v 0))) (.mul (.k (-1)) (.v 0))
def lw2t_q18 : BE := .not (.beq (.not .t) (.cm .eq (.v 0) (.k (0))))
def lw2t_q19 : IE := .ite .gt (.sub (.k (0)) (.mul (.k (-1)) (.v 1))) (.mul (.k (-1)) (.v 1)) (.sub (.k (0)) (.mul (.k (-1)) (.v 1))) (.mul (.k (-1)) (.v 1))
def lw2t_q20 : IE := .wr (.sub (.wr (.mul (.k (-1)) (.v 1))) (.wr (.mul (.v 0) (.v 1))))
def lw2t_q21 : IE := .wr (.sub (.k (1)) (.wr (.mul (.v 0) (.v 0))))
def lw2t_q22 : BE := .cm .ge (.ite .gt (.wr (.sub (.k (0)) lw2t_q20)) lw2t_q20 (.wr (.sub (.k (0)) lw2t_q20)) lw2t_q20) (.ite .gt (.wr (.sub (.k (0)) lw2t_q21)) lw2t_q21 (.wr (.sub (.k (0)) lw2t_q21)) lw2t_q21)
def lw2t_q23 : BE := .not (.beq (.not (.cm .ge (.k (1)) (.k (0)))) (.cm .eq (.v 1) (.k (0))))
def lw2t_q24 : BE := .not (.beq (.not .t) (.cm .eq (.v 1) (.k (0))))
def lw2t_q25 : BE := .or (.not (.not lw2t_q22)) (.and (.cm .le (.k (0)) (.v 1)) (.cm .le (.v 1) (.k (0))))
def lw2t_q26 : IE := .wr (.sub (.k (0)) (.wr (.mul (.v 0) (.k (-1)))))
def lw2t_q27 : IE := .wr (.sub (.k (0)) (.wr (.mul (.v 1) (.k (1)))))
def lw2t_q28 : IE := .add (.wr (.add (.k (0)) (.wr (.mul lw2t_q26 (.wr (.mul (.v 2) (.k (1)))))))) (.wr (.mul lw2t_q27 (.wr (.mul (.v 3) (.k (-1))))))
def lw2t_q29 : IE := .wr (.add (.wr (.add (.k (0)) (.wr (.mul lw2t_q26 (.wr (.mul (.v 3) (.k (-1)))))))) (.wr (.mul lw2t_q27 (.wr lw2t_q28))))
def lw2t_q30 : IE := .wr (.add (.wr (.add (.k (0)) (.wr (.mul lw2t_q26 (.wr lw2t_q28))))) (.wr (.mul lw2t_q27 lw2t_q29)))
def lw2t_q31 : IE := .wr (.add (.wr (.add (.k (0)) (.wr (.mul lw2t_q26 lw2t_q29)))) (.wr (.mul lw2t_q27 lw2t_q30)))
def lw2t_q32 : IE := .wr (.add (.wr (.add (.k (0)) (.wr (.mul lw2t_q26 lw2t_q30)))) (.wr (.mul lw2t_q27 lw2t_q31)))
def lw2t_q33 : IE := .wr (.add (.wr (.add (.k (0)) (.wr (.mul lw2t_q26 lw2t_q31)))) (.wr (.mul lw2t_q27 lw2t_q32)))
def lw2t_q34 : BE := .not (.cm .ge (.ite .gt (.sub (.k (0)) (.v 0)) (.v 0) (.sub (.k (0)) (.v 0)) (.v 0)) (.k (1)))

theorem lw2t_X : FOkS Tryz.prog x_lw2t := bothX_ok (noXS_ok) (tabT_ok (by kernel_rfl) aw3_calls)
theorem lw2t_rg6 (x0 x1 f0 f1 f2 f3 : Int) (hpre : True) : Rg.has (-100, 100) (lw2t_at0 x0) := by
  have h := IE.rng_ok (β := [(-9223372036854775808, 9223372036854775807)]) (ρ := [(IntKind.i64.wrap x0)]) ⟨wrR _, trivial⟩ (e := (.md (.v 0) 101)) (by kernel_rfl)
  rw [show IE.rng [(-9223372036854775808, 9223372036854775807)] (.md (.v 0) 101) = (-100, 100) from by kernel_rfl] at h
  exact h
theorem lw2t_rg7 (x0 x1 f0 f1 f2 f3 : Int) (hpre : True) : Rg.has (-100, 100) (lw2t_at0 x1) := by
  have h := IE.rng_ok (β := [(-9223372036854775808, 9223372036854775807)]) (ρ := [(IntKind.i64.wrap x1)]) ⟨wrR _, trivial⟩ (e := (.md (.v 0) 101)) (by kernel_rfl)
  rw [show IE.rng [(-9223372036854775808, 9223372036854775807)] (.md (.v 0) 101) = (-100, 100) from by kernel_rfl] at h
  exact h
theorem lw2t_rg8 (x0 x1 f0 f1 f2 f3 : Int) (hpre : True) : Rg.has (-1000, 1000) (lw2t_at1 f0) := by
  have h := IE.rng_ok (β := [(-9223372036854775808, 9223372036854775807)]) (ρ := [(IntKind.i64.wrap f0)]) ⟨wrR _, trivial⟩ (e := (.md (.v 0) 1001)) (by kernel_rfl)
  rw [show IE.rng [(-9223372036854775808, 9223372036854775807)] (.md (.v 0) 1001) = (-1000, 1000) from by kernel_rfl] at h
  exact h
theorem lw2t_rg9 (x0 x1 f0 f1 f2 f3 : Int) (hpre : True) : Rg.has (-1000, 1000) (lw2t_at1 f1) := by
  have h := IE.rng_ok (β := [(-9223372036854775808, 9223372036854775807)]) (ρ := [(IntKind.i64.wrap f1)]) ⟨wrR _, trivial⟩ (e := (.md (.v 0) 1001)) (by kernel_rfl)
  rw [show IE.rng [(-9223372036854775808, 9223372036854775807)] (.md (.v 0) 1001) = (-1000, 1000) from by kernel_rfl] at h
  exact h
theorem lw2t_rg10 (x0 x1 f0 f1 f2 f3 : Int) (hpre : True) : Rg.has (-1000, 1000) (lw2t_at1 f2) := by
  have h := IE.rng_ok (β := [(-9223372036854775808, 9223372036854775807)]) (ρ := [(IntKind.i64.wrap f2)]) ⟨wrR _, trivial⟩ (e := (.md (.v 0) 1001)) (by kernel_rfl)
  rw [show IE.rng [(-9223372036854775808, 9223372036854775807)] (.md (.v 0) 1001) = (-1000, 1000) from by kernel_rfl] at h
  exact h
theorem lw2t_rg11 (x0 x1 f0 f1 f2 f3 : Int) (hpre : True) : Rg.has (-1000, 1000) (lw2t_at1 f3) := by
  have h := IE.rng_ok (β := [(-9223372036854775808, 9223372036854775807)]) (ρ := [(IntKind.i64.wrap f3)]) ⟨wrR _, trivial⟩ (e := (.md (.v 0) 1001)) (by kernel_rfl)
  rw [show IE.rng [(-9223372036854775808, 9223372036854775807)] (.md (.v 0) 1001) = (-1000, 1000) from by kernel_rfl] at h
  exact h
def lw2t_R (x0 x1 f0 f1 f2 f3 : Int) : List Int := [(IntKind.i64.wrap x0), (IntKind.i64.wrap x1), (IntKind.i64.wrap f0), (IntKind.i64.wrap f1), (IntKind.i64.wrap f2), (IntKind.i64.wrap f3), (lw2t_at0 x0), (lw2t_at0 x1), (lw2t_at1 f0), (lw2t_at1 f1), (lw2t_at1 f2), (lw2t_at1 f3)]
def lw2t_B : List Rg := [(-9223372036854775808, 9223372036854775807), (-9223372036854775808, 9223372036854775807), (-9223372036854775808, 9223372036854775807), (-9223372036854775808, 9223372036854775807), (-9223372036854775808, 9223372036854775807), (-9223372036854775808, 9223372036854775807), (-100, 100), (-100, 100), (-1000, 1000), (-1000, 1000), (-1000, 1000), (-1000, 1000)]
theorem lw2t_hr (x0 x1 f0 f1 f2 f3 : Int) (hpre : True) : InR lw2t_B (lw2t_R x0 x1 f0 f1 f2 f3) := ⟨wrR _, ⟨wrR _, ⟨wrR _, ⟨wrR _, ⟨wrR _, ⟨wrR _, ⟨lw2t_rg6 x0 x1 f0 f1 f2 f3 hpre, ⟨lw2t_rg7 x0 x1 f0 f1 f2 f3 hpre, ⟨lw2t_rg8 x0 x1 f0 f1 f2 f3 hpre, ⟨lw2t_rg9 x0 x1 f0 f1 f2 f3 hpre, ⟨lw2t_rg10 x0 x1 f0 f1 f2 f3 hpre, ⟨lw2t_rg11 x0 x1 f0 f1 f2 f3 hpre, trivial⟩⟩⟩⟩⟩⟩⟩⟩⟩⟩⟩⟩
def lw2t_h0 : Prop := (false = false)
theorem lw2t_g0 : (false = false) := by first | rfl | trivial | decide | omega
def lw2t_h1 : Prop := ((decide ((2 : Int) > (4 : Int))) = Bool.false)
theorem lw2t_g1 : ((decide ((2 : Int) > (4 : Int))) = Bool.false) := by first | rfl | trivial | decide | omega
def lw2t_h2 : Prop := (true = true)
theorem lw2t_g2 : (true = true) := by first | rfl | trivial | decide | omega
def lw2t_h3 : Prop := ((0 : Int) = (0 : Int))
theorem lw2t_g3 : ((0 : Int) = (0 : Int)) := by first | rfl | trivial | decide | omega
def lw2t_h4 : Prop := ((1 : Int) = (1 : Int))
theorem lw2t_g4 : ((1 : Int) = (1 : Int)) := by first | rfl | trivial | decide | omega
def lw2t_c0 (x0 x1 f0 f1 f2 f3 : Int) : Bool := BE.ev (lw2t_R x0 x1 f0 f1 f2 f3) (.cm .eq (.v 6) (.k (0)))
def lw2t_h6 : Prop := ((decide ((3 : Int) > (5 : Int))) = Bool.false)
theorem lw2t_g6 : ((decide ((3 : Int) > (5 : Int))) = Bool.false) := by first | rfl | trivial | decide | omega
def lw2t_c1 (x0 x1 f0 f1 f2 f3 : Int) : Bool := BE.ev (lw2t_R x0 x1 f0 f1 f2 f3) (.cm .lt (.v 6) (.k (-100)))
def lw2t_c2 (x0 x1 f0 f1 f2 f3 : Int) : Bool := BE.ev (lw2t_R x0 x1 f0 f1 f2 f3) (.cm .gt (.v 6) (.k (100)))
def lw2t_c3 (x0 x1 f0 f1 f2 f3 : Int) : Bool := BE.ev (lw2t_R x0 x1 f0 f1 f2 f3) (.cm .lt (.v 7) (.k (-100)))
def lw2t_c4 (x0 x1 f0 f1 f2 f3 : Int) : Bool := BE.ev (lw2t_R x0 x1 f0 f1 f2 f3) (.cm .gt (.v 7) (.k (100)))
def lw2t_h11 : Prop := ((2 : Int) = (2 : Int))
theorem lw2t_g11 : ((2 : Int) = (2 : Int)) := by first | rfl | trivial | decide | omega
def lw2t_h12 : Prop := ((decide ((-1 : Int) > (100 : Int))) = Bool.false)
theorem lw2t_g12 : ((decide ((-1 : Int) > (100 : Int))) = Bool.false) := by first | rfl | trivial | decide | omega
def lw2t_h13 : Prop := ((Bool.false != Bool.false) = Bool.false)
theorem lw2t_g13 : ((Bool.false != Bool.false) = Bool.false) := by first | rfl | trivial | decide | omega
def lw2t_h14 : Prop := ((decide ((3 : Int) > (2 : Int))) = Bool.true)
theorem lw2t_g14 : ((decide ((3 : Int) > (2 : Int))) = Bool.true) := by first | rfl | trivial | decide | omega
def lw2t_c5 (x0 x1 f0 f1 f2 f3 : Int) : Bool := BE.ev (lw2t_R x0 x1 f0 f1 f2 f3) (.not lw2t_q1)
def lw2t_c6 (x0 x1 f0 f1 f2 f3 : Int) : Bool := BE.ev (lw2t_R x0 x1 f0 f1 f2 f3) lw2t_q1
def lw2t_h17 : Prop := ((Bool.not ((Bool.not (decide ((0 : Int) ≥ (0 : Int)))) == Bool.false)) = Bool.false)
theorem lw2t_g17 : ((Bool.not ((Bool.not (decide ((0 : Int) ≥ (0 : Int)))) == Bool.false)) = Bool.false) := by first | rfl | trivial | decide | omega
def lw2t_h20 : Prop := ((decide ((2 : Int) > (2 : Int))) = Bool.false)
theorem lw2t_g20 : ((decide ((2 : Int) > (2 : Int))) = Bool.false) := by first | rfl | trivial | decide | omega
def lw2t_c7 (x0 x1 f0 f1 f2 f3 : Int) : Bool := BE.ev (lw2t_R x0 x1 f0 f1 f2 f3) lw2t_q4
def lw2t_c8 (x0 x1 f0 f1 f2 f3 : Int) : Bool := BE.ev (lw2t_R x0 x1 f0 f1 f2 f3) (.not (.beq (.not (.cm .ge (.k (1)) (.k (0)))) (.cm .eq (.v 7) (.k (0)))))
def lw2t_c9 (x0 x1 f0 f1 f2 f3 : Int) : Bool := BE.ev (lw2t_R x0 x1 f0 f1 f2 f3) (.not (.cm .eq (.v 7) (.k (0))))
def lw2t_c10 (x0 x1 f0 f1 f2 f3 : Int) : Bool := BE.ev (lw2t_R x0 x1 f0 f1 f2 f3) (.not (.beq (.not (.cm .ge (.k (-1)) (.k (0)))) (.cm .eq (.v 7) (.k (0)))))
def lw2t_c11 (x0 x1 f0 f1 f2 f3 : Int) : Bool := BE.ev (lw2t_R x0 x1 f0 f1 f2 f3) (.cm .lt (.v 8) (.k (-1000)))
def lw2t_c12 (x0 x1 f0 f1 f2 f3 : Int) : Bool := BE.ev (lw2t_R x0 x1 f0 f1 f2 f3) (.cm .gt (.v 8) (.k (1000)))
def lw2t_c13 (x0 x1 f0 f1 f2 f3 : Int) : Bool := BE.ev (lw2t_R x0 x1 f0 f1 f2 f3) (.cm .lt (.v 9) (.k (-1000)))
def lw2t_c14 (x0 x1 f0 f1 f2 f3 : Int) : Bool := BE.ev (lw2t_R x0 x1 f0 f1 f2 f3) (.cm .gt (.v 9) (.k (1000)))
def lw2t_h32 : Prop := ((decide ((6 : Int) > (24 : Int))) = Bool.false)
theorem lw2t_g32 : ((decide ((6 : Int) > (24 : Int))) = Bool.false) := by first | rfl | trivial | decide | omega
def lw2t_c15 (x0 x1 f0 f1 f2 f3 : Int) : Bool := BE.ev (lw2t_R x0 x1 f0 f1 f2 f3) lw2t_q8
def lw2t_c16 (x0 x1 f0 f1 f2 f3 : Int) : Bool := BE.ev (lw2t_R x0 x1 f0 f1 f2 f3) lw2t_q9
def lw2t_c17 (x0 x1 f0 f1 f2 f3 : Int) : Bool := BE.ev (lw2t_R x0 x1 f0 f1 f2 f3) (.cm .lt lw2t_q10 (.k (-1073741824)))
def lw2t_c18 (x0 x1 f0 f1 f2 f3 : Int) : Bool := BE.ev (lw2t_R x0 x1 f0 f1 f2 f3) (.cm .gt lw2t_q10 (.k (1073741824)))
def lw2t_h37 : Prop := ((3 : Int) = (3 : Int))
theorem lw2t_g37 : ((3 : Int) = (3 : Int)) := by first | rfl | trivial | decide | omega
def lw2t_c19 (x0 x1 f0 f1 f2 f3 : Int) : Bool := BE.ev (lw2t_R x0 x1 f0 f1 f2 f3) (.cm .lt lw2t_q11 (.k (-1073741824)))
def lw2t_c20 (x0 x1 f0 f1 f2 f3 : Int) : Bool := BE.ev (lw2t_R x0 x1 f0 f1 f2 f3) (.cm .gt lw2t_q11 (.k (1073741824)))
def lw2t_h40 : Prop := ((4 : Int) = (4 : Int))
theorem lw2t_g40 : ((4 : Int) = (4 : Int)) := by first | rfl | trivial | decide | omega
def lw2t_c21 (x0 x1 f0 f1 f2 f3 : Int) : Bool := BE.ev (lw2t_R x0 x1 f0 f1 f2 f3) (.cm .lt lw2t_q12 (.k (-1073741824)))
def lw2t_c22 (x0 x1 f0 f1 f2 f3 : Int) : Bool := BE.ev (lw2t_R x0 x1 f0 f1 f2 f3) (.cm .gt lw2t_q12 (.k (1073741824)))
def lw2t_h43 : Prop := ((5 : Int) = (5 : Int))
theorem lw2t_g43 : ((5 : Int) = (5 : Int)) := by first | rfl | trivial | decide | omega
def lw2t_c23 (x0 x1 f0 f1 f2 f3 : Int) : Bool := BE.ev (lw2t_R x0 x1 f0 f1 f2 f3) (.cm .lt lw2t_q13 (.k (-1073741824)))
def lw2t_c24 (x0 x1 f0 f1 f2 f3 : Int) : Bool := BE.ev (lw2t_R x0 x1 f0 f1 f2 f3) (.cm .gt lw2t_q13 (.k (1073741824)))
def lw2t_h46 : Prop := ((6 : Int) = (6 : Int))
theorem lw2t_g46 : ((6 : Int) = (6 : Int)) := by first | rfl | trivial | decide | omega
def lw2t_c25 (x0 x1 f0 f1 f2 f3 : Int) : Bool := BE.ev (lw2t_R x0 x1 f0 f1 f2 f3) (.cm .lt lw2t_q14 (.k (-1073741824)))
def lw2t_c26 (x0 x1 f0 f1 f2 f3 : Int) : Bool := BE.ev (lw2t_R x0 x1 f0 f1 f2 f3) (.cm .gt lw2t_q14 (.k (1073741824)))
def lw2t_c27 (x0 x1 f0 f1 f2 f3 : Int) : Bool := BE.ev (lw2t_R x0 x1 f0 f1 f2 f3) (.cm .ne (.wr lw2t_q7) (.k (0)))
def lw2t_c28 (x0 x1 f0 f1 f2 f3 : Int) : Bool := BE.ev (lw2t_R x0 x1 f0 f1 f2 f3) (.cm .ne lw2t_q10 (.k (0)))
def lw2t_c29 (x0 x1 f0 f1 f2 f3 : Int) : Bool := BE.ev (lw2t_R x0 x1 f0 f1 f2 f3) (.cm .ne lw2t_q11 (.k (0)))
def lw2t_c30 (x0 x1 f0 f1 f2 f3 : Int) : Bool := BE.ev (lw2t_R x0 x1 f0 f1 f2 f3) (.cm .ne lw2t_q12 (.k (0)))
def lw2t_c31 (x0 x1 f0 f1 f2 f3 : Int) : Bool := BE.ev (lw2t_R x0 x1 f0 f1 f2 f3) (.cm .ne lw2t_q13 (.k (0)))
def lw2t_c32 (x0 x1 f0 f1 f2 f3 : Int) : Bool := BE.ev (lw2t_R x0 x1 f0 f1 f2 f3) (.cm .ne lw2t_q14 (.k (0)))
theorem lw2t_c1_ff (x0 x1 f0 f1 f2 f3 : Int) (hpre : True) : lw2t_c1 x0 x1 f0 f1 f2 f3 = false :=
  BE.tri_ok (lw2t_hr x0 x1 f0 f1 f2 f3 hpre) (e := (.cm .lt (.v 6) (.k (-100)))) (by kernel_rfl) (by kernel_rfl)
theorem lw2t_c2_ff (x0 x1 f0 f1 f2 f3 : Int) (hpre : True) : lw2t_c2 x0 x1 f0 f1 f2 f3 = false :=
  BE.tri_ok (lw2t_hr x0 x1 f0 f1 f2 f3 hpre) (e := (.cm .gt (.v 6) (.k (100)))) (by kernel_rfl) (by kernel_rfl)
theorem lw2t_c3_ff (x0 x1 f0 f1 f2 f3 : Int) (hpre : True) : lw2t_c3 x0 x1 f0 f1 f2 f3 = false :=
  BE.tri_ok (lw2t_hr x0 x1 f0 f1 f2 f3 hpre) (e := (.cm .lt (.v 7) (.k (-100)))) (by kernel_rfl) (by kernel_rfl)
theorem lw2t_c4_ff (x0 x1 f0 f1 f2 f3 : Int) (hpre : True) : lw2t_c4 x0 x1 f0 f1 f2 f3 = false :=
  BE.tri_ok (lw2t_hr x0 x1 f0 f1 f2 f3 hpre) (e := (.cm .gt (.v 7) (.k (100)))) (by kernel_rfl) (by kernel_rfl)
theorem lw2t_c11_ff (x0 x1 f0 f1 f2 f3 : Int) (hpre : True) : lw2t_c11 x0 x1 f0 f1 f2 f3 = false :=
  BE.tri_ok (lw2t_hr x0 x1 f0 f1 f2 f3 hpre) (e := (.cm .lt (.v 8) (.k (-1000)))) (by kernel_rfl) (by kernel_rfl)
theorem lw2t_c12_ff (x0 x1 f0 f1 f2 f3 : Int) (hpre : True) : lw2t_c12 x0 x1 f0 f1 f2 f3 = false :=
  BE.tri_ok (lw2t_hr x0 x1 f0 f1 f2 f3 hpre) (e := (.cm .gt (.v 8) (.k (1000)))) (by kernel_rfl) (by kernel_rfl)
theorem lw2t_c13_ff (x0 x1 f0 f1 f2 f3 : Int) (hpre : True) : lw2t_c13 x0 x1 f0 f1 f2 f3 = false :=
  BE.tri_ok (lw2t_hr x0 x1 f0 f1 f2 f3 hpre) (e := (.cm .lt (.v 9) (.k (-1000)))) (by kernel_rfl) (by kernel_rfl)
theorem lw2t_c14_ff (x0 x1 f0 f1 f2 f3 : Int) (hpre : True) : lw2t_c14 x0 x1 f0 f1 f2 f3 = false :=
  BE.tri_ok (lw2t_hr x0 x1 f0 f1 f2 f3 hpre) (e := (.cm .gt (.v 9) (.k (1000)))) (by kernel_rfl) (by kernel_rfl)
theorem lw2t_c15_ff (x0 x1 f0 f1 f2 f3 : Int) (hpre : True) : lw2t_c15 x0 x1 f0 f1 f2 f3 = false :=
  BE.tri_ok (lw2t_hr x0 x1 f0 f1 f2 f3 hpre) (e := lw2t_q8) (by kernel_rfl) (by kernel_rfl)
theorem lw2t_c16_ff (x0 x1 f0 f1 f2 f3 : Int) (hpre : True) : lw2t_c16 x0 x1 f0 f1 f2 f3 = false :=
  BE.tri_ok (lw2t_hr x0 x1 f0 f1 f2 f3 hpre) (e := lw2t_q9) (by kernel_rfl) (by kernel_rfl)
theorem lw2t_c17_ff (x0 x1 f0 f1 f2 f3 : Int) (hpre : True) : lw2t_c17 x0 x1 f0 f1 f2 f3 = false :=
  BE.tri_ok (lw2t_hr x0 x1 f0 f1 f2 f3 hpre) (e := (.cm .lt lw2t_q10 (.k (-1073741824)))) (by kernel_rfl) (by kernel_rfl)
theorem lw2t_c18_ff (x0 x1 f0 f1 f2 f3 : Int) (hpre : True) : lw2t_c18 x0 x1 f0 f1 f2 f3 = false :=
  BE.tri_ok (lw2t_hr x0 x1 f0 f1 f2 f3 hpre) (e := (.cm .gt lw2t_q10 (.k (1073741824)))) (by kernel_rfl) (by kernel_rfl)
def lw2t_z0 (P : Prop) (x0 x1 f0 f1 f2 f3 : Int) : Prop := ((((((((((((((((((((((P ∧ lw2t_h0) ∧ lw2t_h0) ∧ lw2t_h0) ∧ lw2t_h0) ∧ lw2t_h1) ∧ lw2t_h2) ∧ lw2t_h3) ∧ lw2t_h0) ∧ lw2t_h3) ∧ lw2t_h0) ∧ lw2t_h2) ∧ lw2t_h2) ∧ lw2t_h2) ∧ lw2t_h3) ∧ lw2t_h2) ∧ lw2t_h2) ∧ lw2t_h2) ∧ lw2t_h2) ∧ lw2t_h4) ∧ lw2t_h0) ∧ lw2t_h4) ∧ lw2t_h0)
theorem lw2t_z0_h {P : Prop} (h : P) (x0 x1 f0 f1 f2 f3 : Int) (hpre : True) : lw2t_z0 P x0 x1 f0 f1 f2 f3 := ⟨⟨⟨⟨⟨⟨⟨⟨⟨⟨⟨⟨⟨⟨⟨⟨⟨⟨⟨⟨⟨⟨h, lw2t_g0⟩, lw2t_g0⟩, lw2t_g0⟩, lw2t_g0⟩, lw2t_g1⟩, lw2t_g2⟩, lw2t_g3⟩, lw2t_g0⟩, lw2t_g3⟩, lw2t_g0⟩, lw2t_g2⟩, lw2t_g2⟩, lw2t_g2⟩, lw2t_g3⟩, lw2t_g2⟩, lw2t_g2⟩, lw2t_g2⟩, lw2t_g2⟩, lw2t_g4⟩, lw2t_g0⟩, lw2t_g4⟩, lw2t_g0⟩
def lw2t_z1 (P : Prop) (x0 x1 f0 f1 f2 f3 : Int) : Prop := ((((((P ∧ (lw2t_c0 x0 x1 f0 f1 f2 f3 = false)) ∧ (lw2t_c0 x0 x1 f0 f1 f2 f3 = false)) ∧ (lw2t_c0 x0 x1 f0 f1 f2 f3 = false)) ∧ (lw2t_c0 x0 x1 f0 f1 f2 f3 = false)) ∧ (lw2t_c0 x0 x1 f0 f1 f2 f3 = false)) ∧ (lw2t_c0 x0 x1 f0 f1 f2 f3 = false))
theorem lw2t_z1_h {P : Prop} (h : P) (x0 x1 f0 f1 f2 f3 : Int) (hpre : True) (k0 : (lw2t_c0 x0 x1 f0 f1 f2 f3 = false)) : lw2t_z1 P x0 x1 f0 f1 f2 f3 := ⟨⟨⟨⟨⟨⟨h, k0⟩, k0⟩, k0⟩, k0⟩, k0⟩, k0⟩
def lw2t_z2 (P : Prop) (x0 x1 f0 f1 f2 f3 : Int) : Prop := (((((((((((((((((((((((((((((((((((((((((P ∧ lw2t_h0) ∧ lw2t_h2) ∧ lw2t_h0) ∧ lw2t_h6) ∧ lw2t_h2) ∧ lw2t_h3) ∧ (lw2t_c1 x0 x1 f0 f1 f2 f3 = false)) ∧ (lw2t_c1 x0 x1 f0 f1 f2 f3 = false)) ∧ (lw2t_c1 x0 x1 f0 f1 f2 f3 = false)) ∧ (lw2t_c1 x0 x1 f0 f1 f2 f3 = false)) ∧ (lw2t_c2 x0 x1 f0 f1 f2 f3 = false)) ∧ lw2t_h0) ∧ lw2t_h2) ∧ lw2t_h4) ∧ (lw2t_c3 x0 x1 f0 f1 f2 f3 = false)) ∧ (lw2t_c3 x0 x1 f0 f1 f2 f3 = false)) ∧ (lw2t_c3 x0 x1 f0 f1 f2 f3 = false)) ∧ (lw2t_c3 x0 x1 f0 f1 f2 f3 = false)) ∧ (lw2t_c4 x0 x1 f0 f1 f2 f3 = false)) ∧ lw2t_h0) ∧ lw2t_h2) ∧ lw2t_h11) ∧ lw2t_h0) ∧ lw2t_h0) ∧ lw2t_h0) ∧ lw2t_h0) ∧ lw2t_h12) ∧ lw2t_h0) ∧ lw2t_h0) ∧ lw2t_h0) ∧ lw2t_h11) ∧ lw2t_h0) ∧ lw2t_h0) ∧ lw2t_h0) ∧ lw2t_h13) ∧ lw2t_h14) ∧ lw2t_h14) ∧ lw2t_h3) ∧ lw2t_h11) ∧ lw2t_h14) ∧ lw2t_h14)
theorem lw2t_z2_h {P : Prop} (h : P) (x0 x1 f0 f1 f2 f3 : Int) (hpre : True) : lw2t_z2 P x0 x1 f0 f1 f2 f3 := ⟨⟨⟨⟨⟨⟨⟨⟨⟨⟨⟨⟨⟨⟨⟨⟨⟨⟨⟨⟨⟨⟨⟨⟨⟨⟨⟨⟨⟨⟨⟨⟨⟨⟨⟨⟨⟨⟨⟨⟨⟨h, lw2t_g0⟩, lw2t_g2⟩, lw2t_g0⟩, lw2t_g6⟩, lw2t_g2⟩, lw2t_g3⟩, (lw2t_c1_ff x0 x1 f0 f1 f2 f3 hpre)⟩, (lw2t_c1_ff x0 x1 f0 f1 f2 f3 hpre)⟩, (lw2t_c1_ff x0 x1 f0 f1 f2 f3 hpre)⟩, (lw2t_c1_ff x0 x1 f0 f1 f2 f3 hpre)⟩, (lw2t_c2_ff x0 x1 f0 f1 f2 f3 hpre)⟩, lw2t_g0⟩, lw2t_g2⟩, lw2t_g4⟩, (lw2t_c3_ff x0 x1 f0 f1 f2 f3 hpre)⟩, (lw2t_c3_ff x0 x1 f0 f1 f2 f3 hpre)⟩, (lw2t_c3_ff x0 x1 f0 f1 f2 f3 hpre)⟩, (lw2t_c3_ff x0 x1 f0 f1 f2 f3 hpre)⟩, (lw2t_c4_ff x0 x1 f0 f1 f2 f3 hpre)⟩, lw2t_g0⟩, lw2t_g2⟩, lw2t_g11⟩, lw2t_g0⟩, lw2t_g0⟩, lw2t_g0⟩, lw2t_g0⟩, lw2t_g12⟩, lw2t_g0⟩, lw2t_g0⟩, lw2t_g0⟩, lw2t_g11⟩, lw2t_g0⟩, lw2t_g0⟩, lw2t_g0⟩, lw2t_g13⟩, lw2t_g14⟩, lw2t_g14⟩, lw2t_g3⟩, lw2t_g11⟩, lw2t_g14⟩, lw2t_g14⟩
def lw2t_z3 (P : Prop) (x0 x1 f0 f1 f2 f3 : Int) : Prop := ((((((((((((P ∧ (lw2t_c5 x0 x1 f0 f1 f2 f3 = false)) ∧ lw2t_h2) ∧ lw2t_h3) ∧ lw2t_h3) ∧ lw2t_h11) ∧ (lw2t_c6 x0 x1 f0 f1 f2 f3 = true)) ∧ lw2t_h0) ∧ lw2t_h0) ∧ lw2t_h0) ∧ lw2t_h0) ∧ lw2t_h17) ∧ lw2t_h2)
theorem lw2t_z3_h {P : Prop} (h : P) (x0 x1 f0 f1 f2 f3 : Int) (hpre : True) (k0 : (lw2t_c5 x0 x1 f0 f1 f2 f3 = false)) (k1 : (lw2t_c6 x0 x1 f0 f1 f2 f3 = true)) : lw2t_z3 P x0 x1 f0 f1 f2 f3 := ⟨⟨⟨⟨⟨⟨⟨⟨⟨⟨⟨⟨h, k0⟩, lw2t_g2⟩, lw2t_g3⟩, lw2t_g3⟩, lw2t_g11⟩, k1⟩, lw2t_g0⟩, lw2t_g0⟩, lw2t_g0⟩, lw2t_g0⟩, lw2t_g17⟩, lw2t_g2⟩
def lw2t_z4 (P : Prop) (x0 x1 f0 f1 f2 f3 : Int) : Prop := (((((((P ∧ (lw2t_c0 x0 x1 f0 f1 f2 f3 = true)) ∧ (lw2t_c0 x0 x1 f0 f1 f2 f3 = true)) ∧ (lw2t_c0 x0 x1 f0 f1 f2 f3 = true)) ∧ lw2t_h4) ∧ (lw2t_c0 x0 x1 f0 f1 f2 f3 = true)) ∧ (lw2t_c0 x0 x1 f0 f1 f2 f3 = true)) ∧ (lw2t_c0 x0 x1 f0 f1 f2 f3 = true))
theorem lw2t_z4_h {P : Prop} (h : P) (x0 x1 f0 f1 f2 f3 : Int) (hpre : True) (k0 : (lw2t_c0 x0 x1 f0 f1 f2 f3 = true)) : lw2t_z4 P x0 x1 f0 f1 f2 f3 := ⟨⟨⟨⟨⟨⟨⟨h, k0⟩, k0⟩, k0⟩, lw2t_g4⟩, k0⟩, k0⟩, k0⟩
def lw2t_z5 (P : Prop) (x0 x1 f0 f1 f2 f3 : Int) : Prop := (((((((((((((((((((((((((((((P ∧ (lw2t_c5 x0 x1 f0 f1 f2 f3 = true)) ∧ lw2t_h13) ∧ lw2t_h2) ∧ lw2t_h11) ∧ lw2t_h3) ∧ lw2t_h3) ∧ lw2t_h4) ∧ lw2t_h3) ∧ lw2t_h2) ∧ lw2t_h11) ∧ lw2t_h4) ∧ lw2t_h3) ∧ lw2t_h3) ∧ lw2t_h4) ∧ lw2t_h0) ∧ lw2t_h20) ∧ lw2t_h20) ∧ lw2t_h20) ∧ lw2t_h20) ∧ lw2t_h0) ∧ lw2t_h2) ∧ lw2t_h3) ∧ lw2t_h3) ∧ lw2t_h11) ∧ (lw2t_c6 x0 x1 f0 f1 f2 f3 = false)) ∧ lw2t_h2) ∧ lw2t_h4) ∧ lw2t_h3) ∧ lw2t_h4)
theorem lw2t_z5_h {P : Prop} (h : P) (x0 x1 f0 f1 f2 f3 : Int) (hpre : True) (k0 : (lw2t_c5 x0 x1 f0 f1 f2 f3 = true)) (k1 : (lw2t_c6 x0 x1 f0 f1 f2 f3 = false)) : lw2t_z5 P x0 x1 f0 f1 f2 f3 := ⟨⟨⟨⟨⟨⟨⟨⟨⟨⟨⟨⟨⟨⟨⟨⟨⟨⟨⟨⟨⟨⟨⟨⟨⟨⟨⟨⟨⟨h, k0⟩, lw2t_g13⟩, lw2t_g2⟩, lw2t_g11⟩, lw2t_g3⟩, lw2t_g3⟩, lw2t_g4⟩, lw2t_g3⟩, lw2t_g2⟩, lw2t_g11⟩, lw2t_g4⟩, lw2t_g3⟩, lw2t_g3⟩, lw2t_g4⟩, lw2t_g0⟩, lw2t_g20⟩, lw2t_g20⟩, lw2t_g20⟩, lw2t_g20⟩, lw2t_g0⟩, lw2t_g2⟩, lw2t_g3⟩, lw2t_g3⟩, lw2t_g11⟩, k1⟩, lw2t_g2⟩, lw2t_g4⟩, lw2t_g3⟩, lw2t_g4⟩
def lw2t_z6 (P : Prop) (x0 x1 f0 f1 f2 f3 : Int) : Prop := (((((((P ∧ (lw2t_c7 x0 x1 f0 f1 f2 f3 = true)) ∧ lw2t_h0) ∧ lw2t_h0) ∧ lw2t_h0) ∧ lw2t_h0) ∧ (lw2t_c8 x0 x1 f0 f1 f2 f3 = false)) ∧ (lw2t_c9 x0 x1 f0 f1 f2 f3 = true))
theorem lw2t_z6_h {P : Prop} (h : P) (x0 x1 f0 f1 f2 f3 : Int) (hpre : True) (k0 : (lw2t_c7 x0 x1 f0 f1 f2 f3 = true)) (k1 : (lw2t_c8 x0 x1 f0 f1 f2 f3 = false)) (k2 : (lw2t_c9 x0 x1 f0 f1 f2 f3 = true)) : lw2t_z6 P x0 x1 f0 f1 f2 f3 := ⟨⟨⟨⟨⟨⟨⟨h, k0⟩, lw2t_g0⟩, lw2t_g0⟩, lw2t_g0⟩, lw2t_g0⟩, k1⟩, k2⟩
def lw2t_z7 (P : Prop) (x0 x1 f0 f1 f2 f3 : Int) : Prop := ((((((((((((((((((((((((((((((((((((((((((((((((((((((((((((((((((((((((((((((((((((((((((((((((((((((((((((((((((((((((((((((((((((((((((((((((((((((((((((((((((((((((((((((((((((((((((((((((((((((((((((((((((((((((P ∧ (lw2t_c7 x0 x1 f0 f1 f2 f3 = false)) ∧ lw2t_h0) ∧ lw2t_h0) ∧ lw2t_h0) ∧ lw2t_h0) ∧ lw2t_h0) ∧ (lw2t_c10 x0 x1 f0 f1 f2 f3 = false)) ∧ (lw2t_c9 x0 x1 f0 f1 f2 f3 = false)) ∧ lw2t_h0) ∧ lw2t_h6) ∧ lw2t_h2) ∧ lw2t_h3) ∧ (lw2t_c1 x0 x1 f0 f1 f2 f3 = false)) ∧ (lw2t_c1 x0 x1 f0 f1 f2 f3 = false)) ∧ (lw2t_c1 x0 x1 f0 f1 f2 f3 = false)) ∧ (lw2t_c1 x0 x1 f0 f1 f2 f3 = false)) ∧ (lw2t_c2 x0 x1 f0 f1 f2 f3 = false)) ∧ lw2t_h0) ∧ lw2t_h2) ∧ lw2t_h4) ∧ (lw2t_c3 x0 x1 f0 f1 f2 f3 = false)) ∧ (lw2t_c3 x0 x1 f0 f1 f2 f3 = false)) ∧ (lw2t_c3 x0 x1 f0 f1 f2 f3 = false)) ∧ (lw2t_c3 x0 x1 f0 f1 f2 f3 = false)) ∧ (lw2t_c4 x0 x1 f0 f1 f2 f3 = false)) ∧ lw2t_h0) ∧ lw2t_h2) ∧ lw2t_h11) ∧ lw2t_h0) ∧ lw2t_h0) ∧ lw2t_h0) ∧ lw2t_h0) ∧ lw2t_h12) ∧ lw2t_h0) ∧ lw2t_h0) ∧ lw2t_h0) ∧ lw2t_h11) ∧ lw2t_h0) ∧ lw2t_h0) ∧ lw2t_h0) ∧ lw2t_h2) ∧ lw2t_h3) ∧ (lw2t_c11 x0 x1 f0 f1 f2 f3 = false)) ∧ (lw2t_c11 x0 x1 f0 f1 f2 f3 = false)) ∧ (lw2t_c11 x0 x1 f0 f1 f2 f3 = false)) ∧ (lw2t_c11 x0 x1 f0 f1 f2 f3 = false)) ∧ (lw2t_c12 x0 x1 f0 f1 f2 f3 = false)) ∧ lw2t_h0) ∧ lw2t_h2) ∧ lw2t_h4) ∧ (lw2t_c13 x0 x1 f0 f1 f2 f3 = false)) ∧ (lw2t_c13 x0 x1 f0 f1 f2 f3 = false)) ∧ (lw2t_c13 x0 x1 f0 f1 f2 f3 = false)) ∧ (lw2t_c13 x0 x1 f0 f1 f2 f3 = false)) ∧ (lw2t_c14 x0 x1 f0 f1 f2 f3 = false)) ∧ lw2t_h0) ∧ lw2t_h0) ∧ lw2t_h0) ∧ lw2t_h0) ∧ lw2t_h0) ∧ lw2t_h0) ∧ lw2t_h32) ∧ lw2t_h2) ∧ lw2t_h3) ∧ lw2t_h0) ∧ lw2t_h2) ∧ lw2t_h4) ∧ lw2t_h0) ∧ lw2t_h2) ∧ lw2t_h11) ∧ lw2t_h0) ∧ lw2t_h0) ∧ lw2t_h0) ∧ lw2t_h2) ∧ lw2t_h3) ∧ lw2t_h11) ∧ lw2t_h0) ∧ lw2t_h3) ∧ lw2t_h2) ∧ lw2t_h4) ∧ lw2t_h11) ∧ lw2t_h2) ∧ lw2t_h0) ∧ lw2t_h4) ∧ lw2t_h0) ∧ lw2t_h2) ∧ lw2t_h3) ∧ lw2t_h11) ∧ lw2t_h2) ∧ lw2t_h0) ∧ lw2t_h3) ∧ lw2t_h2) ∧ lw2t_h4) ∧ lw2t_h11) ∧ lw2t_h0) ∧ lw2t_h4) ∧ lw2t_h0) ∧ lw2t_h2) ∧ lw2t_h3) ∧ lw2t_h3) ∧ lw2t_h2) ∧ lw2t_h4) ∧ lw2t_h4) ∧ lw2t_h0) ∧ lw2t_h2) ∧ lw2t_h2) ∧ lw2t_h3) ∧ lw2t_h3) ∧ lw2t_h2) ∧ lw2t_h4) ∧ lw2t_h4) ∧ lw2t_h0) ∧ (lw2t_c15 x0 x1 f0 f1 f2 f3 = false)) ∧ (lw2t_c15 x0 x1 f0 f1 f2 f3 = false)) ∧ (lw2t_c15 x0 x1 f0 f1 f2 f3 = false)) ∧ (lw2t_c15 x0 x1 f0 f1 f2 f3 = false)) ∧ (lw2t_c16 x0 x1 f0 f1 f2 f3 = false)) ∧ lw2t_h0) ∧ lw2t_h2) ∧ lw2t_h2) ∧ lw2t_h3) ∧ lw2t_h4) ∧ lw2t_h2) ∧ lw2t_h4) ∧ lw2t_h11) ∧ lw2t_h0) ∧ (lw2t_c17 x0 x1 f0 f1 f2 f3 = false)) ∧ (lw2t_c17 x0 x1 f0 f1 f2 f3 = false)) ∧ (lw2t_c17 x0 x1 f0 f1 f2 f3 = false)) ∧ (lw2t_c17 x0 x1 f0 f1 f2 f3 = false)) ∧ (lw2t_c18 x0 x1 f0 f1 f2 f3 = false)) ∧ lw2t_h0) ∧ lw2t_h2) ∧ lw2t_h2) ∧ lw2t_h3) ∧ lw2t_h11) ∧ lw2t_h2) ∧ lw2t_h4) ∧ lw2t_h37) ∧ lw2t_h0) ∧ (lw2t_c19 x0 x1 f0 f1 f2 f3 = false)) ∧ (lw2t_c19 x0 x1 f0 f1 f2 f3 = false)) ∧ (lw2t_c19 x0 x1 f0 f1 f2 f3 = false)) ∧ (lw2t_c19 x0 x1 f0 f1 f2 f3 = false)) ∧ (lw2t_c20 x0 x1 f0 f1 f2 f3 = false)) ∧ lw2t_h0) ∧ lw2t_h2) ∧ lw2t_h2) ∧ lw2t_h3) ∧ lw2t_h37) ∧ lw2t_h2) ∧ lw2t_h4) ∧ lw2t_h40) ∧ lw2t_h0) ∧ (lw2t_c21 x0 x1 f0 f1 f2 f3 = false)) ∧ (lw2t_c21 x0 x1 f0 f1 f2 f3 = false)) ∧ (lw2t_c21 x0 x1 f0 f1 f2 f3 = false)) ∧ (lw2t_c21 x0 x1 f0 f1 f2 f3 = false)) ∧ (lw2t_c22 x0 x1 f0 f1 f2 f3 = false)) ∧ lw2t_h0) ∧ lw2t_h2) ∧ lw2t_h2) ∧ lw2t_h3) ∧ lw2t_h40) ∧ lw2t_h2) ∧ lw2t_h4) ∧ lw2t_h43) ∧ lw2t_h0) ∧ (lw2t_c23 x0 x1 f0 f1 f2 f3 = false)) ∧ (lw2t_c23 x0 x1 f0 f1 f2 f3 = false)) ∧ (lw2t_c23 x0 x1 f0 f1 f2 f3 = false)) ∧ (lw2t_c23 x0 x1 f0 f1 f2 f3 = false)) ∧ (lw2t_c24 x0 x1 f0 f1 f2 f3 = false)) ∧ lw2t_h0) ∧ lw2t_h2) ∧ lw2t_h2) ∧ lw2t_h3) ∧ lw2t_h43) ∧ lw2t_h2) ∧ lw2t_h4) ∧ lw2t_h46) ∧ lw2t_h0) ∧ (lw2t_c25 x0 x1 f0 f1 f2 f3 = false)) ∧ (lw2t_c25 x0 x1 f0 f1 f2 f3 = false)) ∧ (lw2t_c25 x0 x1 f0 f1 f2 f3 = false)) ∧ (lw2t_c25 x0 x1 f0 f1 f2 f3 = false)) ∧ (lw2t_c26 x0 x1 f0 f1 f2 f3 = false)) ∧ lw2t_h0) ∧ lw2t_h0) ∧ lw2t_h0) ∧ lw2t_h0) ∧ lw2t_h0) ∧ lw2t_h0) ∧ lw2t_h0) ∧ lw2t_h0) ∧ lw2t_h0) ∧ lw2t_h0) ∧ lw2t_h2) ∧ lw2t_h3) ∧ (lw2t_c27 x0 x1 f0 f1 f2 f3 = false)) ∧ lw2t_h2) ∧ lw2t_h4) ∧ (lw2t_c28 x0 x1 f0 f1 f2 f3 = false)) ∧ lw2t_h2) ∧ lw2t_h11) ∧ (lw2t_c29 x0 x1 f0 f1 f2 f3 = false)) ∧ lw2t_h2) ∧ lw2t_h37) ∧ (lw2t_c30 x0 x1 f0 f1 f2 f3 = false)) ∧ lw2t_h2) ∧ lw2t_h40) ∧ (lw2t_c31 x0 x1 f0 f1 f2 f3 = false)) ∧ lw2t_h2) ∧ lw2t_h43) ∧ (lw2t_c32 x0 x1 f0 f1 f2 f3 = false)) ∧ lw2t_h0)
theorem lw2t_z7_h {P : Prop} (h : P) (x0 x1 f0 f1 f2 f3 : Int) (hpre : True) (k0 : (lw2t_c7 x0 x1 f0 f1 f2 f3 = false)) (k1 : (lw2t_c10 x0 x1 f0 f1 f2 f3 = false)) (k2 : (lw2t_c9 x0 x1 f0 f1 f2 f3 = false)) (k3 : (lw2t_c19 x0 x1 f0 f1 f2 f3 = false)) (k4 : (lw2t_c20 x0 x1 f0 f1 f2 f3 = false)) (k5 : (lw2t_c21 x0 x1 f0 f1 f2 f3 = false)) (k6 : (lw2t_c22 x0 x1 f0 f1 f2 f3 = false)) (k7 : (lw2t_c23 x0 x1 f0 f1 f2 f3 = false)) (k8 : (lw2t_c24 x0 x1 f0 f1 f2 f3 = false)) (k9 : (lw2t_c25 x0 x1 f0 f1 f2 f3 = false)) (k10 : (lw2t_c26 x0 x1 f0 f1 f2 f3 = false)) (k11 : (lw2t_c27 x0 x1 f0 f1 f2 f3 = false)) (k12 : (lw2t_c28 x0 x1 f0 f1 f2 f3 = false)) (k13 : (lw2t_c29 x0 x1 f0 f1 f2 f3 = false)) (k14 : (lw2t_c30 x0 x1 f0 f1 f2 f3 = false)) (k15 : (lw2t_c31 x0 x1 f0 f1 f2 f3 = false)) (k16 : (lw2t_c32 x0 x1 f0 f1 f2 f3 = false)) : lw2t_z7 P x0 x1 f0 f1 f2 f3 := ⟨⟨⟨⟨⟨⟨⟨⟨⟨⟨⟨⟨⟨⟨⟨⟨⟨⟨⟨⟨⟨⟨⟨⟨⟨⟨⟨⟨⟨⟨⟨⟨⟨⟨⟨⟨⟨⟨⟨⟨⟨⟨⟨⟨⟨⟨⟨⟨⟨⟨⟨⟨⟨⟨⟨⟨⟨⟨⟨⟨⟨⟨⟨⟨⟨⟨⟨⟨⟨⟨⟨⟨⟨⟨⟨⟨⟨⟨⟨⟨⟨⟨⟨⟨⟨⟨⟨⟨⟨⟨⟨⟨⟨⟨⟨⟨⟨⟨⟨⟨⟨⟨⟨⟨⟨⟨⟨⟨⟨⟨⟨⟨⟨⟨⟨⟨⟨⟨⟨⟨⟨⟨⟨⟨⟨⟨⟨⟨⟨⟨⟨⟨⟨⟨⟨⟨⟨⟨⟨⟨⟨⟨⟨⟨⟨⟨⟨⟨⟨⟨⟨⟨⟨⟨⟨⟨⟨⟨⟨⟨⟨⟨⟨⟨⟨⟨⟨⟨⟨⟨⟨⟨⟨⟨⟨⟨⟨⟨⟨⟨⟨⟨⟨⟨⟨⟨⟨⟨⟨⟨⟨⟨⟨⟨⟨⟨⟨⟨⟨⟨⟨⟨⟨⟨⟨⟨⟨⟨⟨⟨⟨⟨⟨⟨⟨⟨h, k0⟩, lw2t_g0⟩, lw2t_g0⟩, lw2t_g0⟩, lw2t_g0⟩, lw2t_g0⟩, k1⟩, k2⟩, lw2t_g0⟩, lw2t_g6⟩, lw2t_g2⟩, lw2t_g3⟩, (lw2t_c1_ff x0 x1 f0 f1 f2 f3 hpre)⟩, (lw2t_c1_ff x0 x1 f0 f1 f2 f3 hpre)⟩, (lw2t_c1_ff x0 x1 f0 f1 f2 f3 hpre)⟩, (lw2t_c1_ff x0 x1 f0 f1 f2 f3 hpre)⟩, (lw2t_c2_ff x0 x1 f0 f1 f2 f3 hpre)⟩, lw2t_g0⟩, lw2t_g2⟩, lw2t_g4⟩, (lw2t_c3_ff x0 x1 f0 f1 f2 f3 hpre)⟩, (lw2t_c3_ff x0 x1 f0 f1 f2 f3 hpre)⟩, (lw2t_c3_ff x0 x1 f0 f1 f2 f3 hpre)⟩, (lw2t_c3_ff x0 x1 f0 f1 f2 f3 hpre)⟩, (lw2t_c4_ff x0 x1 f0 f1 f2 f3 hpre)⟩, lw2t_g0⟩, lw2t_g2⟩, lw2t_g11⟩, lw2t_g0⟩, lw2t_g0⟩, lw2t_g0⟩, lw2t_g0⟩, lw2t_g12⟩, lw2t_g0⟩, lw2t_g0⟩, lw2t_g0⟩, lw2t_g11⟩, lw2t_g0⟩, lw2t_g0⟩, lw2t_g0⟩, lw2t_g2⟩, lw2t_g3⟩, (lw2t_c11_ff x0 x1 f0 f1 f2 f3 hpre)⟩, (lw2t_c11_ff x0 x1 f0 f1 f2 f3 hpre)⟩, (lw2t_c11_ff x0 x1 f0 f1 f2 f3 hpre)⟩, (lw2t_c11_ff x0 x1 f0 f1 f2 f3 hpre)⟩, (lw2t_c12_ff x0 x1 f0 f1 f2 f3 hpre)⟩, lw2t_g0⟩, lw2t_g2⟩, lw2t_g4⟩, (lw2t_c13_ff x0 x1 f0 f1 f2 f3 hpre)⟩, (lw2t_c13_ff x0 x1 f0 f1 f2 f3 hpre)⟩, (lw2t_c13_ff x0 x1 f0 f1 f2 f3 hpre)⟩, (lw2t_c13_ff x0 x1 f0 f1 f2 f3 hpre)⟩, (lw2t_c14_ff x0 x1 f0 f1 f2 f3 hpre)⟩, lw2t_g0⟩, lw2t_g0⟩, lw2t_g0⟩, lw2t_g0⟩, lw2t_g0⟩, lw2t_g0⟩, lw2t_g32⟩, lw2t_g2⟩, lw2t_g3⟩, lw2t_g0⟩, lw2t_g2⟩, lw2t_g4⟩, lw2t_g0⟩, lw2t_g2⟩, lw2t_g11⟩, lw2t_g0⟩, lw2t_g0⟩, lw2t_g0⟩, lw2t_g2⟩, lw2t_g3⟩, lw2t_g11⟩, lw2t_g0⟩, lw2t_g3⟩, lw2t_g2⟩, lw2t_g4⟩, lw2t_g11⟩, lw2t_g2⟩, lw2t_g0⟩, lw2t_g4⟩, lw2t_g0⟩, lw2t_g2⟩, lw2t_g3⟩, lw2t_g11⟩, lw2t_g2⟩, lw2t_g0⟩, lw2t_g3⟩, lw2t_g2⟩, lw2t_g4⟩, lw2t_g11⟩, lw2t_g0⟩, lw2t_g4⟩, lw2t_g0⟩, lw2t_g2⟩, lw2t_g3⟩, lw2t_g3⟩, lw2t_g2⟩, lw2t_g4⟩, lw2t_g4⟩, lw2t_g0⟩, lw2t_g2⟩, lw2t_g2⟩, lw2t_g3⟩, lw2t_g3⟩, lw2t_g2⟩, lw2t_g4⟩, lw2t_g4⟩, lw2t_g0⟩, (lw2t_c15_ff x0 x1 f0 f1 f2 f3 hpre)⟩, (lw2t_c15_ff x0 x1 f0 f1 f2 f3 hpre)⟩, (lw2t_c15_ff x0 x1 f0 f1 f2 f3 hpre)⟩, (lw2t_c15_ff x0 x1 f0 f1 f2 f3 hpre)⟩, (lw2t_c16_ff x0 x1 f0 f1 f2 f3 hpre)⟩, lw2t_g0⟩, lw2t_g2⟩, lw2t_g2⟩, lw2t_g3⟩, lw2t_g4⟩, lw2t_g2⟩, lw2t_g4⟩, lw2t_g11⟩, lw2t_g0⟩, (lw2t_c17_ff x0 x1 f0 f1 f2 f3 hpre)⟩, (lw2t_c17_ff x0 x1 f0 f1 f2 f3 hpre)⟩, (lw2t_c17_ff x0 x1 f0 f1 f2 f3 hpre)⟩, (lw2t_c17_ff x0 x1 f0 f1 f2 f3 hpre)⟩, (lw2t_c18_ff x0 x1 f0 f1 f2 f3 hpre)⟩, lw2t_g0⟩, lw2t_g2⟩, lw2t_g2⟩, lw2t_g3⟩, lw2t_g11⟩, lw2t_g2⟩, lw2t_g4⟩, lw2t_g37⟩, lw2t_g0⟩, k3⟩, k3⟩, k3⟩, k3⟩, k4⟩, lw2t_g0⟩, lw2t_g2⟩, lw2t_g2⟩, lw2t_g3⟩, lw2t_g37⟩, lw2t_g2⟩, lw2t_g4⟩, lw2t_g40⟩, lw2t_g0⟩, k5⟩, k5⟩, k5⟩, k5⟩, k6⟩, lw2t_g0⟩, lw2t_g2⟩, lw2t_g2⟩, lw2t_g3⟩, lw2t_g40⟩, lw2t_g2⟩, lw2t_g4⟩, lw2t_g43⟩, lw2t_g0⟩, k7⟩, k7⟩, k7⟩, k7⟩, k8⟩, lw2t_g0⟩, lw2t_g2⟩, lw2t_g2⟩, lw2t_g3⟩, lw2t_g43⟩, lw2t_g2⟩, lw2t_g4⟩, lw2t_g46⟩, lw2t_g0⟩, k9⟩, k9⟩, k9⟩, k9⟩, k10⟩, lw2t_g0⟩, lw2t_g0⟩, lw2t_g0⟩, lw2t_g0⟩, lw2t_g0⟩, lw2t_g0⟩, lw2t_g0⟩, lw2t_g0⟩, lw2t_g0⟩, lw2t_g0⟩, lw2t_g2⟩, lw2t_g3⟩, k11⟩, lw2t_g2⟩, lw2t_g4⟩, k12⟩, lw2t_g2⟩, lw2t_g11⟩, k13⟩, lw2t_g2⟩, lw2t_g37⟩, k14⟩, lw2t_g2⟩, lw2t_g40⟩, k15⟩, lw2t_g2⟩, lw2t_g43⟩, k16⟩, lw2t_g0⟩
def lw2t_r0 (x0 x1 f0 f1 f2 f3 : Int) : Prop := (lw2t_z3 (lw2t_z2 (lw2t_z1 (lw2t_z0 True x0 x1 f0 f1 f2 f3) x0 x1 f0 f1 f2 f3) x0 x1 f0 f1 f2 f3) x0 x1 f0 f1 f2 f3)
theorem lw2t_o0 (x0 x1 f0 f1 f2 f3 : Int) (c : Nat) : obY (lw2t_e0 x0 x1 f0 f1 f2 f3 c) = lw2t_r0 x0 x1 f0 f1 f2 f3 := by kernel_rfl
theorem lw2t_g0_ (x0 x1 f0 f1 f2 f3 : Int) (c : Nat) : goodY (lw2t_e0 x0 x1 f0 f1 f2 f3 c) = true := by kernel_rfl
theorem lw2t_p0 (x0 x1 f0 f1 f2 f3 : Int) (c : Nat) (h : lw2t_r0 x0 x1 f0 f1 f2 f3) : ∃ s1 R, SndF Tryz.prog 3 #[.slice (some ⟨6, 0, none⟩) 2 c, .bool true, .agg #[.int .i16 f0, .int .i16 f1, .int .i16 f2, .int .i16 f3]] (aw3S0.push (.cells [.int .i8 x0, .int .i8 x1] 0 true 0 true)) (.bool true) s1 R 0 :=
  sndY (r := lw2t_e0 x0 x1 f0 f1 f2 f3 c) (by delta lw2t_e0; exact Eq.refl _) gfol lw2t_X (lw2t_g0_ x0 x1 f0 f1 f2 f3 c) ((lw2t_o0 x0 x1 f0 f1 f2 f3 c).symm ▸ h)
def lw2t_r1 (x0 x1 f0 f1 f2 f3 : Int) : Prop := (lw2t_z6 (lw2t_z5 (lw2t_z2 (lw2t_z4 (lw2t_z0 True x0 x1 f0 f1 f2 f3) x0 x1 f0 f1 f2 f3) x0 x1 f0 f1 f2 f3) x0 x1 f0 f1 f2 f3) x0 x1 f0 f1 f2 f3)
theorem lw2t_o1 (x0 x1 f0 f1 f2 f3 : Int) (c : Nat) : obY (lw2t_e1 x0 x1 f0 f1 f2 f3 c) = lw2t_r1 x0 x1 f0 f1 f2 f3 := by kernel_rfl
theorem lw2t_g1_ (x0 x1 f0 f1 f2 f3 : Int) (c : Nat) : goodY (lw2t_e1 x0 x1 f0 f1 f2 f3 c) = true := by kernel_rfl
theorem lw2t_p1 (x0 x1 f0 f1 f2 f3 : Int) (c : Nat) (h : lw2t_r1 x0 x1 f0 f1 f2 f3) : ∃ s1 R, SndF Tryz.prog 3 #[.slice (some ⟨6, 0, none⟩) 2 c, .bool true, .agg #[.int .i16 f0, .int .i16 f1, .int .i16 f2, .int .i16 f3]] (aw3S0.push (.cells [.int .i8 x0, .int .i8 x1] 0 true 0 true)) (.bool true) s1 R 0 :=
  sndY (r := lw2t_e1 x0 x1 f0 f1 f2 f3 c) (by delta lw2t_e1; exact Eq.refl _) gfol lw2t_X (lw2t_g1_ x0 x1 f0 f1 f2 f3 c) ((lw2t_o1 x0 x1 f0 f1 f2 f3 c).symm ▸ h)
def lw2t_r2 (x0 x1 f0 f1 f2 f3 : Int) : Prop := (lw2t_z7 (lw2t_z5 (lw2t_z2 (lw2t_z4 (lw2t_z0 True x0 x1 f0 f1 f2 f3) x0 x1 f0 f1 f2 f3) x0 x1 f0 f1 f2 f3) x0 x1 f0 f1 f2 f3) x0 x1 f0 f1 f2 f3)
theorem lw2t_o2 (x0 x1 f0 f1 f2 f3 : Int) (c : Nat) : obY (lw2t_e2 x0 x1 f0 f1 f2 f3 c) = lw2t_r2 x0 x1 f0 f1 f2 f3 := by kernel_rfl
theorem lw2t_g2_ (x0 x1 f0 f1 f2 f3 : Int) (c : Nat) : goodY (lw2t_e2 x0 x1 f0 f1 f2 f3 c) = true := by kernel_rfl
theorem lw2t_p2 (x0 x1 f0 f1 f2 f3 : Int) (c : Nat) (h : lw2t_r2 x0 x1 f0 f1 f2 f3) : ∃ s1 R, SndF Tryz.prog 3 #[.slice (some ⟨6, 0, none⟩) 2 c, .bool true, .agg #[.int .i16 f0, .int .i16 f1, .int .i16 f2, .int .i16 f3]] (aw3S0.push (.cells [.int .i8 x0, .int .i8 x1] 0 true 0 true)) (.bool true) s1 R 0 :=
  sndY (r := lw2t_e2 x0 x1 f0 f1 f2 f3 c) (by delta lw2t_e2; exact Eq.refl _) gfol lw2t_X (lw2t_g2_ x0 x1 f0 f1 f2 f3 c) ((lw2t_o2 x0 x1 f0 f1 f2 f3 c).symm ▸ h)
theorem lw2t_any (x0 x1 f0 f1 f2 f3 : Int) (c : Nat) (hpre : True) : ∃ s1 R, SndF Tryz.prog 3 #[.slice (some ⟨6, 0, none⟩) 2 c, .bool true, .agg #[.int .i16 f0, .int .i16 f1, .int .i16 f2, .int .i16 f3]] (aw3S0.push (.cells [.int .i8 x0, .int .i8 x1] 0 true 0 true)) (.bool true) s1 R 0 := by
  rcases Bool.eq_false_or_eq_true (lw2t_c0 x0 x1 f0 f1 f2 f3) with h0 | h0
  ·
    have h1 : (lw2t_c1 x0 x1 f0 f1 f2 f3 = false) := lw2t_c1_ff x0 x1 f0 f1 f2 f3 hpre
    have h2 : (lw2t_c2 x0 x1 f0 f1 f2 f3 = false) := lw2t_c2_ff x0 x1 f0 f1 f2 f3 hpre
    have h3 : (lw2t_c3 x0 x1 f0 f1 f2 f3 = false) := lw2t_c3_ff x0 x1 f0 f1 f2 f3 hpre
    have h4 : (lw2t_c4 x0 x1 f0 f1 f2 f3 = false) := lw2t_c4_ff x0 x1 f0 f1 f2 f3 hpre
    have h5 : (lw2t_c5 x0 x1 f0 f1 f2 f3 = true) := by
      have r6 : Rg.has (0, 0) (lw2t_at0 x0) := by
        have hr : InR [(-100, 100)] [(lw2t_at0 x0)] := ⟨lw2t_rg6 x0 x1 f0 f1 f2 f3 hpre, trivial⟩
        have ha := BE.all_ok hr lw2t_q15 (by kernel_rfl)
        have hx : BE.ev [(lw2t_at0 x0)] (.cm .eq (.v 0) (.k (0))) = true := (show BE.ev [(lw2t_at0 x0)] (.cm .eq (.v 0) (.k (0))) = lw2t_c0 x0 x1 f0 f1 f2 f3 by kernel_rfl).trans h0
        have ha := orT ha hx
        exact rgB ha
      have hr : InR [(0, 0)] [(lw2t_at0 x0)] := ⟨r6, trivial⟩
      have e1 : lw2t_c5 x0 x1 f0 f1 f2 f3 = BE.ev [(lw2t_at0 x0)] lw2t_q16 := by kernel_rfl
      rw [e1]
      exact BE.tri_ok hr (by kernel_rfl) (by kernel_rfl)
    have h6 : (lw2t_c6 x0 x1 f0 f1 f2 f3 = false) := by
      have hz := (show lw2t_c5 x0 x1 f0 f1 f2 f3 = Bool.not (lw2t_c6 x0 x1 f0 f1 f2 f3) by kernel_rfl).symm.trans h5
      generalize lw2t_c6 x0 x1 f0 f1 f2 f3 = z at hz ⊢
      cases z <;> first | rfl | cases hz
    rcases Bool.eq_false_or_eq_true (lw2t_c7 x0 x1 f0 f1 f2 f3) with h7 | h7
    ·
      have h8 : (lw2t_c8 x0 x1 f0 f1 f2 f3 = false) := by
        have r6 : Rg.has (0, 0) (lw2t_at0 x0) := by
          have hr : InR [(-100, 100)] [(lw2t_at0 x0)] := ⟨lw2t_rg6 x0 x1 f0 f1 f2 f3 hpre, trivial⟩
          have ha := BE.all_ok hr lw2t_q15 (by kernel_rfl)
          have hx : BE.ev [(lw2t_at0 x0)] (.cm .eq (.v 0) (.k (0))) = true := (show BE.ev [(lw2t_at0 x0)] (.cm .eq (.v 0) (.k (0))) = lw2t_c0 x0 x1 f0 f1 f2 f3 by kernel_rfl).trans h0
          have ha := orT ha hx
          exact rgB ha
        have hr : InR [(0, 0), (-100, 100)] [(lw2t_at0 x0), (lw2t_at0 x1)] := ⟨r6, ⟨lw2t_rg7 x0 x1 f0 f1 f2 f3 hpre, trivial⟩⟩
        have hr2 : InR [(-100, 100)] [(lw2t_at0 x1)] := ⟨lw2t_rg7 x0 x1 f0 f1 f2 f3 hpre, trivial⟩
        have ha := BE.all_ok hr2 (.or (.not (.cm .ge lw2t_q17 (.k (1)))) (.not lw2t_q18)) (by kernel_rfl)
        have hx : BE.ev [(lw2t_at0 x1)] (.cm .ge lw2t_q17 (.k (1))) = true := (show BE.ev [(lw2t_at0 x1)] (.cm .ge lw2t_q17 (.k (1))) = BE.ev [(lw2t_at0 x0), (lw2t_at0 x1)] (.cm .ge lw2t_q19 (.k (1))) by kernel_rfl).trans ((BE.smp_to hr lw2t_q22 (.cm .ge lw2t_q19 (.k (1))) (by kernel_rfl) (by kernel_rfl)).symm.trans ((show BE.ev [(lw2t_at0 x0), (lw2t_at0 x1)] lw2t_q22 = lw2t_c7 x0 x1 f0 f1 f2 f3 by kernel_rfl).trans h7))
        have ha := orT ha hx
        exact (show lw2t_c8 x0 x1 f0 f1 f2 f3 = BE.ev [(lw2t_at0 x0), (lw2t_at0 x1)] lw2t_q23 by kernel_rfl).trans ((BE.smp_to hr lw2t_q23 lw2t_q24 (by kernel_rfl) (by kernel_rfl)).trans ((show BE.ev [(lw2t_at0 x0), (lw2t_at0 x1)] lw2t_q24 = BE.ev [(lw2t_at0 x1)] lw2t_q18 by kernel_rfl).trans (notT ha)))
      have h9 : (lw2t_c9 x0 x1 f0 f1 f2 f3 = true) := by
        have r6 : Rg.has (0, 0) (lw2t_at0 x0) := by
          have hr : InR [(-100, 100)] [(lw2t_at0 x0)] := ⟨lw2t_rg6 x0 x1 f0 f1 f2 f3 hpre, trivial⟩
          have ha := BE.all_ok hr lw2t_q15 (by kernel_rfl)
          have hx : BE.ev [(lw2t_at0 x0)] (.cm .eq (.v 0) (.k (0))) = true := (show BE.ev [(lw2t_at0 x0)] (.cm .eq (.v 0) (.k (0))) = lw2t_c0 x0 x1 f0 f1 f2 f3 by kernel_rfl).trans h0
          have ha := orT ha hx
          exact rgB ha
        have hr : InR [(0, 0), (-100, 100)] [(lw2t_at0 x0), (lw2t_at0 x1)] := ⟨r6, ⟨lw2t_rg7 x0 x1 f0 f1 f2 f3 hpre, trivial⟩⟩
        have hr2 : InR [(-100, 100)] [(lw2t_at0 x1)] := ⟨lw2t_rg7 x0 x1 f0 f1 f2 f3 hpre, trivial⟩
        have ha := BE.all_ok hr2 (.or (.not (.cm .ge lw2t_q17 (.k (1)))) (.not (.cm .eq (.v 0) (.k (0))))) (by kernel_rfl)
        have hx : BE.ev [(lw2t_at0 x1)] (.cm .ge lw2t_q17 (.k (1))) = true := (show BE.ev [(lw2t_at0 x1)] (.cm .ge lw2t_q17 (.k (1))) = BE.ev [(lw2t_at0 x0), (lw2t_at0 x1)] (.cm .ge lw2t_q19 (.k (1))) by kernel_rfl).trans ((BE.smp_to hr lw2t_q22 (.cm .ge lw2t_q19 (.k (1))) (by kernel_rfl) (by kernel_rfl)).symm.trans ((show BE.ev [(lw2t_at0 x0), (lw2t_at0 x1)] lw2t_q22 = lw2t_c7 x0 x1 f0 f1 f2 f3 by kernel_rfl).trans h7))
        have ha := orT ha hx
        exact (show lw2t_c9 x0 x1 f0 f1 f2 f3 = BE.ev [(lw2t_at0 x0), (lw2t_at0 x1)] (.not (.cm .eq (.v 1) (.k (0)))) by kernel_rfl).trans ((BE.smp_to hr (.not (.cm .eq (.v 1) (.k (0)))) (.not (.cm .eq (.v 1) (.k (0)))) (by kernel_rfl) (by kernel_rfl)).trans ((show BE.ev [(lw2t_at0 x0), (lw2t_at0 x1)] (.not (.cm .eq (.v 1) (.k (0)))) = BE.ev [(lw2t_at0 x1)] (.not (.cm .eq (.v 0) (.k (0)))) by kernel_rfl).trans (ha)))
      exact lw2t_p1 x0 x1 f0 f1 f2 f3 c (lw2t_z6_h (lw2t_z5_h (lw2t_z2_h (lw2t_z4_h (lw2t_z0_h trivial x0 x1 f0 f1 f2 f3 hpre) x0 x1 f0 f1 f2 f3 hpre h0) x0 x1 f0 f1 f2 f3 hpre) x0 x1 f0 f1 f2 f3 hpre h5 h6) x0 x1 f0 f1 f2 f3 hpre h7 h8 h9)
    ·
      have h10 : (lw2t_c10 x0 x1 f0 f1 f2 f3 = false) := by
        have r6 : Rg.has (0, 0) (lw2t_at0 x0) := by
          have hr : InR [(-100, 100)] [(lw2t_at0 x0)] := ⟨lw2t_rg6 x0 x1 f0 f1 f2 f3 hpre, trivial⟩
          have ha := BE.all_ok hr lw2t_q15 (by kernel_rfl)
          have hx : BE.ev [(lw2t_at0 x0)] (.cm .eq (.v 0) (.k (0))) = true := (show BE.ev [(lw2t_at0 x0)] (.cm .eq (.v 0) (.k (0))) = lw2t_c0 x0 x1 f0 f1 f2 f3 by kernel_rfl).trans h0
          have ha := orT ha hx
          exact rgB ha
        have r7 : Rg.has (0, 0) (lw2t_at0 x1) := by
          have hr : InR [(0, 0), (-100, 100)] [(lw2t_at0 x0), (lw2t_at0 x1)] := ⟨r6, ⟨lw2t_rg7 x0 x1 f0 f1 f2 f3 hpre, trivial⟩⟩
          have ha := BE.all_ok hr lw2t_q25 (by kernel_rfl)
          have hx : BE.ev [(lw2t_at0 x0), (lw2t_at0 x1)] lw2t_q22 = false := (show BE.ev [(lw2t_at0 x0), (lw2t_at0 x1)] lw2t_q22 = lw2t_c7 x0 x1 f0 f1 f2 f3 by kernel_rfl).trans h7
          have ha := orT ha (notF hx)
          exact rgB ha
        have hr : InR [(0, 0)] [(lw2t_at0 x1)] := ⟨r7, trivial⟩
        have e1 : lw2t_c10 x0 x1 f0 f1 f2 f3 = BE.ev [(lw2t_at0 x1)] (.not (.beq (.not (.cm .ge (.k (-1)) (.k (0)))) (.cm .eq (.v 0) (.k (0))))) := by kernel_rfl
        rw [e1]
        exact BE.tri_ok hr (by kernel_rfl) (by kernel_rfl)
      have h11 : (lw2t_c9 x0 x1 f0 f1 f2 f3 = false) := by
        have r6 : Rg.has (0, 0) (lw2t_at0 x0) := by
          have hr : InR [(-100, 100)] [(lw2t_at0 x0)] := ⟨lw2t_rg6 x0 x1 f0 f1 f2 f3 hpre, trivial⟩
          have ha := BE.all_ok hr lw2t_q15 (by kernel_rfl)
          have hx : BE.ev [(lw2t_at0 x0)] (.cm .eq (.v 0) (.k (0))) = true := (show BE.ev [(lw2t_at0 x0)] (.cm .eq (.v 0) (.k (0))) = lw2t_c0 x0 x1 f0 f1 f2 f3 by kernel_rfl).trans h0
          have ha := orT ha hx
          exact rgB ha
        have r7 : Rg.has (0, 0) (lw2t_at0 x1) := by
          have hr : InR [(0, 0), (-100, 100)] [(lw2t_at0 x0), (lw2t_at0 x1)] := ⟨r6, ⟨lw2t_rg7 x0 x1 f0 f1 f2 f3 hpre, trivial⟩⟩
          have ha := BE.all_ok hr lw2t_q25 (by kernel_rfl)
          have hx : BE.ev [(lw2t_at0 x0), (lw2t_at0 x1)] lw2t_q22 = false := (show BE.ev [(lw2t_at0 x0), (lw2t_at0 x1)] lw2t_q22 = lw2t_c7 x0 x1 f0 f1 f2 f3 by kernel_rfl).trans h7
          have ha := orT ha (notF hx)
          exact rgB ha
        have hr : InR [(0, 0)] [(lw2t_at0 x1)] := ⟨r7, trivial⟩
        have e1 : lw2t_c9 x0 x1 f0 f1 f2 f3 = BE.ev [(lw2t_at0 x1)] (.not (.cm .eq (.v 0) (.k (0)))) := by kernel_rfl
        rw [e1]
        exact BE.tri_ok hr (by kernel_rfl) (by kernel_rfl)
      have h12 : (lw2t_c11 x0 x1 f0 f1 f2 f3 = false) := lw2t_c11_ff x0 x1 f0 f1 f2 f3 hpre
      have h13 : (lw2t_c12 x0 x1 f0 f1 f2 f3 = false) := lw2t_c12_ff x0 x1 f0 f1 f2 f3 hpre
      have h14 : (lw2t_c13 x0 x1 f0 f1 f2 f3 = false) := lw2t_c13_ff x0 x1 f0 f1 f2 f3 hpre
      have h15 : (lw2t_c14 x0 x1 f0 f1 f2 f3 = false) := lw2t_c14_ff x0 x1 f0 f1 f2 f3 hpre
      have h16 : (lw2t_c15 x0 x1 f0 f1 f2 f3 = false) := lw2t_c15_ff x0 x1 f0 f1 f2 f3 hpre
      have h17 : (lw2t_c16 x0 x1 f0 f1 f2 f3 = false) := lw2t_c16_ff x0 x1 f0 f1 f2 f3 hpre
      have h18 : (lw2t_c17 x0 x1 f0 f1 f2 f3 = false) := lw2t_c17_ff x0 x1 f0 f1 f2 f3 hpre
      have h19 : (lw2t_c18 x0 x1 f0 f1 f2 f3 = false) := lw2t_c18_ff x0 x1 f0 f1 f2 f3 hpre
      have h20 : (lw2t_c19 x0 x1 f0 f1 f2 f3 = false) := by
        have r6 : Rg.has (0, 0) (lw2t_at0 x0) := by
          have hr : InR [(-100, 100)] [(lw2t_at0 x0)] := ⟨lw2t_rg6 x0 x1 f0 f1 f2 f3 hpre, trivial⟩
          have ha := BE.all_ok hr lw2t_q15 (by kernel_rfl)
          have hx : BE.ev [(lw2t_at0 x0)] (.cm .eq (.v 0) (.k (0))) = true := (show BE.ev [(lw2t_at0 x0)] (.cm .eq (.v 0) (.k (0))) = lw2t_c0 x0 x1 f0 f1 f2 f3 by kernel_rfl).trans h0
          have ha := orT ha hx
          exact rgB ha
        have r7 : Rg.has (0, 0) (lw2t_at0 x1) := by
          have hr : InR [(0, 0), (-100, 100)] [(lw2t_at0 x0), (lw2t_at0 x1)] := ⟨r6, ⟨lw2t_rg7 x0 x1 f0 f1 f2 f3 hpre, trivial⟩⟩
          have ha := BE.all_ok hr lw2t_q25 (by kernel_rfl)
          have hx : BE.ev [(lw2t_at0 x0), (lw2t_at0 x1)] lw2t_q22 = false := (show BE.ev [(lw2t_at0 x0), (lw2t_at0 x1)] lw2t_q22 = lw2t_c7 x0 x1 f0 f1 f2 f3 by kernel_rfl).trans h7
          have ha := orT ha (notF hx)
          exact rgB ha
        have hr : InR [(0, 0), (0, 0), (-1000, 1000), (-1000, 1000)] [(lw2t_at0 x0), (lw2t_at0 x1), (lw2t_at1 f0), (lw2t_at1 f1)] := ⟨r6, ⟨r7, ⟨lw2t_rg8 x0 x1 f0 f1 f2 f3 hpre, ⟨lw2t_rg9 x0 x1 f0 f1 f2 f3 hpre, trivial⟩⟩⟩⟩
        have e1 : lw2t_c19 x0 x1 f0 f1 f2 f3 = BE.ev [(lw2t_at0 x0), (lw2t_at0 x1), (lw2t_at1 f0), (lw2t_at1 f1)] (.cm .lt lw2t_q30 (.k (-1073741824))) := by kernel_rfl
        rw [e1]
        exact BE.tri_ok hr (by kernel_rfl) (by kernel_rfl)
      have h21 : (lw2t_c20 x0 x1 f0 f1 f2 f3 = false) := by
        have r6 : Rg.has (0, 0) (lw2t_at0 x0) := by
          have hr : InR [(-100, 100)] [(lw2t_at0 x0)] := ⟨lw2t_rg6 x0 x1 f0 f1 f2 f3 hpre, trivial⟩
          have ha := BE.all_ok hr lw2t_q15 (by kernel_rfl)
          have hx : BE.ev [(lw2t_at0 x0)] (.cm .eq (.v 0) (.k (0))) = true := (show BE.ev [(lw2t_at0 x0)] (.cm .eq (.v 0) (.k (0))) = lw2t_c0 x0 x1 f0 f1 f2 f3 by kernel_rfl).trans h0
          have ha := orT ha hx
          exact rgB ha
        have r7 : Rg.has (0, 0) (lw2t_at0 x1) := by
          have hr : InR [(0, 0), (-100, 100)] [(lw2t_at0 x0), (lw2t_at0 x1)] := ⟨r6, ⟨lw2t_rg7 x0 x1 f0 f1 f2 f3 hpre, trivial⟩⟩
          have ha := BE.all_ok hr lw2t_q25 (by kernel_rfl)
          have hx : BE.ev [(lw2t_at0 x0), (lw2t_at0 x1)] lw2t_q22 = false := (show BE.ev [(lw2t_at0 x0), (lw2t_at0 x1)] lw2t_q22 = lw2t_c7 x0 x1 f0 f1 f2 f3 by kernel_rfl).trans h7
          have ha := orT ha (notF hx)
          exact rgB ha
        have hr : InR [(0, 0), (0, 0), (-1000, 1000), (-1000, 1000)] [(lw2t_at0 x0), (lw2t_at0 x1), (lw2t_at1 f0), (lw2t_at1 f1)] := ⟨r6, ⟨r7, ⟨lw2t_rg8 x0 x1 f0 f1 f2 f3 hpre, ⟨lw2t_rg9 x0 x1 f0 f1 f2 f3 hpre, trivial⟩⟩⟩⟩
        have e1 : lw2t_c20 x0 x1 f0 f1 f2 f3 = BE.ev [(lw2t_at0 x0), (lw2t_at0 x1), (lw2t_at1 f0), (lw2t_at1 f1)] (.cm .gt lw2t_q30 (.k (1073741824))) := by kernel_rfl
        rw [e1]
        exact BE.tri_ok hr (by kernel_rfl) (by kernel_rfl)
      have h22 : (lw2t_c21 x0 x1 f0 f1 f2 f3 = false) := by
        have r6 : Rg.has (0, 0) (lw2t_at0 x0) := by
          have hr : InR [(-100, 100)] [(lw2t_at0 x0)] := ⟨lw2t_rg6 x0 x1 f0 f1 f2 f3 hpre, trivial⟩
          have ha := BE.all_ok hr lw2t_q15 (by kernel_rfl)
          have hx : BE.ev [(lw2t_at0 x0)] (.cm .eq (.v 0) (.k (0))) = true := (show BE.ev [(lw2t_at0 x0)] (.cm .eq (.v 0) (.k (0))) = lw2t_c0 x0 x1 f0 f1 f2 f3 by kernel_rfl).trans h0
          have ha := orT ha hx
          exact rgB ha
        have r7 : Rg.has (0, 0) (lw2t_at0 x1) := by
          have hr : InR [(0, 0), (-100, 100)] [(lw2t_at0 x0), (lw2t_at0 x1)] := ⟨r6, ⟨lw2t_rg7 x0 x1 f0 f1 f2 f3 hpre, trivial⟩⟩
          have ha := BE.all_ok hr lw2t_q25 (by kernel_rfl)
          have hx : BE.ev [(lw2t_at0 x0), (lw2t_at0 x1)] lw2t_q22 = false := (show BE.ev [(lw2t_at0 x0), (lw2t_at0 x1)] lw2t_q22 = lw2t_c7 x0 x1 f0 f1 f2 f3 by kernel_rfl).trans h7
          have ha := orT ha (notF hx)
          exact rgB ha
        have hr : InR [(0, 0), (0, 0), (-1000, 1000), (-1000, 1000)] [(lw2t_at0 x0), (lw2t_at0 x1), (lw2t_at1 f0), (lw2t_at1 f1)] := ⟨r6, ⟨r7, ⟨lw2t_rg8 x0 x1 f0 f1 f2 f3 hpre, ⟨lw2t_rg9 x0 x1 f0 f1 f2 f3 hpre, trivial⟩⟩⟩⟩
        have e1 : lw2t_c21 x0 x1 f0 f1 f2 f3 = BE.ev [(lw2t_at0 x0), (lw2t_at0 x1), (lw2t_at1 f0), (lw2t_at1 f1)] (.cm .lt lw2t_q31 (.k (-1073741824))) := by kernel_rfl
        rw [e1]
        exact BE.tri_ok hr (by kernel_rfl) (by kernel_rfl)
      have h23 : (lw2t_c22 x0 x1 f0 f1 f2 f3 = false) := by
        have r6 : Rg.has (0, 0) (lw2t_at0 x0) := by
          have hr : InR [(-100, 100)] [(lw2t_at0 x0)] := ⟨lw2t_rg6 x0 x1 f0 f1 f2 f3 hpre, trivial⟩
          have ha := BE.all_ok hr lw2t_q15 (by kernel_rfl)
          have hx : BE.ev [(lw2t_at0 x0)] (.cm .eq (.v 0) (.k (0))) = true := (show BE.ev [(lw2t_at0 x0)] (.cm .eq (.v 0) (.k (0))) = lw2t_c0 x0 x1 f0 f1 f2 f3 by kernel_rfl).trans h0
          have ha := orT ha hx
          exact rgB ha
        have r7 : Rg.has (0, 0) (lw2t_at0 x1) := by
          have hr : InR [(0, 0), (-100, 100)] [(lw2t_at0 x0), (lw2t_at0 x1)] := ⟨r6, ⟨lw2t_rg7 x0 x1 f0 f1 f2 f3 hpre, trivial⟩⟩
          have ha := BE.all_ok hr lw2t_q25 (by kernel_rfl)
          have hx : BE.ev [(lw2t_at0 x0), (lw2t_at0 x1)] lw2t_q22 = false := (show BE.ev [(lw2t_at0 x0), (lw2t_at0 x1)] lw2t_q22 = lw2t_c7 x0 x1 f0 f1 f2 f3 by kernel_rfl).trans h7
          have ha := orT ha (notF hx)
          exact rgB ha
        have hr : InR [(0, 0), (0, 0), (-1000, 1000), (-1000, 1000)] [(lw2t_at0 x0), (lw2t_at0 x1), (lw2t_at1 f0), (lw2t_at1 f1)] := ⟨r6, ⟨r7, ⟨lw2t_rg8 x0 x1 f0 f1 f2 f3 hpre, ⟨lw2t_rg9 x0 x1 f0 f1 f2 f3 hpre, trivial⟩⟩⟩⟩
        have e1 : lw2t_c22 x0 x1 f0 f1 f2 f3 = BE.ev [(lw2t_at0 x0), (lw2t_at0 x1), (lw2t_at1 f0), (lw2t_at1 f1)] (.cm .gt lw2t_q31 (.k (1073741824))) := by kernel_rfl
        rw [e1]
        exact BE.tri_ok hr (by kernel_rfl) (by kernel_rfl)
      have h24 : (lw2t_c23 x0 x1 f0 f1 f2 f3 = false) := by
        have r6 : Rg.has (0, 0) (lw2t_at0 x0) := by
          have hr : InR [(-100, 100)] [(lw2t_at0 x0)] := ⟨lw2t_rg6 x0 x1 f0 f1 f2 f3 hpre, trivial⟩
          have ha := BE.all_ok hr lw2t_q15 (by kernel_rfl)
          have hx : BE.ev [(lw2t_at0 x0)] (.cm .eq (.v 0) (.k (0))) = true := (show BE.ev [(lw2t_at0 x0)] (.cm .eq (.v 0) (.k (0))) = lw2t_c0 x0 x1 f0 f1 f2 f3 by kernel_rfl).trans h0
          have ha := orT ha hx
          exact rgB ha
        have r7 : Rg.has (0, 0) (lw2t_at0 x1) := by
          have hr : InR [(0, 0), (-100, 100)] [(lw2t_at0 x0), (lw2t_at0 x1)] := ⟨r6, ⟨lw2t_rg7 x0 x1 f0 f1 f2 f3 hpre, trivial⟩⟩
          have ha := BE.all_ok hr lw2t_q25 (by kernel_rfl)
          have hx : BE.ev [(lw2t_at0 x0), (lw2t_at0 x1)] lw2t_q22 = false := (show BE.ev [(lw2t_at0 x0), (lw2t_at0 x1)] lw2t_q22 = lw2t_c7 x0 x1 f0 f1 f2 f3 by kernel_rfl).trans h7
          have ha := orT ha (notF hx)
          exact rgB ha
        have hr : InR [(0, 0), (0, 0), (-1000, 1000), (-1000, 1000)] [(lw2t_at0 x0), (lw2t_at0 x1), (lw2t_at1 f0), (lw2t_at1 f1)] := ⟨r6, ⟨r7, ⟨lw2t_rg8 x0 x1 f0 f1 f2 f3 hpre, ⟨lw2t_rg9 x0 x1 f0 f1 f2 f3 hpre, trivial⟩⟩⟩⟩
        have e1 : lw2t_c23 x0 x1 f0 f1 f2 f3 = BE.ev [(lw2t_at0 x0), (lw2t_at0 x1), (lw2t_at1 f0), (lw2t_at1 f1)] (.cm .lt lw2t_q32 (.k (-1073741824))) := by kernel_rfl
        rw [e1]
        exact BE.tri_ok hr (by kernel_rfl) (by kernel_rfl)
      have h25 : (lw2t_c24 x0 x1 f0 f1 f2 f3 = false) := by
        have r6 : Rg.has (0, 0) (lw2t_at0 x0) := by
          have hr : InR [(-100, 100)] [(lw2t_at0 x0)] := ⟨lw2t_rg6 x0 x1 f0 f1 f2 f3 hpre, trivial⟩
          have ha := BE.all_ok hr lw2t_q15 (by kernel_rfl)
          have hx : BE.ev [(lw2t_at0 x0)] (.cm .eq (.v 0) (.k (0))) = true := (show BE.ev [(lw2t_at0 x0)] (.cm .eq (.v 0) (.k (0))) = lw2t_c0 x0 x1 f0 f1 f2 f3 by kernel_rfl).trans h0
          have ha := orT ha hx
          exact rgB ha
        have r7 : Rg.has (0, 0) (lw2t_at0 x1) := by
          have hr : InR [(0, 0), (-100, 100)] [(lw2t_at0 x0), (lw2t_at0 x1)] := ⟨r6, ⟨lw2t_rg7 x0 x1 f0 f1 f2 f3 hpre, trivial⟩⟩
          have ha := BE.all_ok hr lw2t_q25 (by kernel_rfl)
          have hx : BE.ev [(lw2t_at0 x0), (lw2t_at0 x1)] lw2t_q22 = false := (show BE.ev [(lw2t_at0 x0), (lw2t_at0 x1)] lw2t_q22 = lw2t_c7 x0 x1 f0 f1 f2 f3 by kernel_rfl).trans h7
          have ha := orT ha (notF hx)
          exact rgB ha
        have hr : InR [(0, 0), (0, 0), (-1000, 1000), (-1000, 1000)] [(lw2t_at0 x0), (lw2t_at0 x1), (lw2t_at1 f0), (lw2t_at1 f1)] := ⟨r6, ⟨r7, ⟨lw2t_rg8 x0 x1 f0 f1 f2 f3 hpre, ⟨lw2t_rg9 x0 x1 f0 f1 f2 f3 hpre, trivial⟩⟩⟩⟩
        have e1 : lw2t_c24 x0 x1 f0 f1 f2 f3 = BE.ev [(lw2t_at0 x0), (lw2t_at0 x1), (lw2t_at1 f0), (lw2t_at1 f1)] (.cm .gt lw2t_q32 (.k (1073741824))) := by kernel_rfl
        rw [e1]
        exact BE.tri_ok hr (by kernel_rfl) (by kernel_rfl)
      have h26 : (lw2t_c25 x0 x1 f0 f1 f2 f3 = false) := by
        have r6 : Rg.has (0, 0) (lw2t_at0 x0) := by
          have hr : InR [(-100, 100)] [(lw2t_at0 x0)] := ⟨lw2t_rg6 x0 x1 f0 f1 f2 f3 hpre, trivial⟩
          have ha := BE.all_ok hr lw2t_q15 (by kernel_rfl)
          have hx : BE.ev [(lw2t_at0 x0)] (.cm .eq (.v 0) (.k (0))) = true := (show BE.ev [(lw2t_at0 x0)] (.cm .eq (.v 0) (.k (0))) = lw2t_c0 x0 x1 f0 f1 f2 f3 by kernel_rfl).trans h0
          have ha := orT ha hx
          exact rgB ha
        have r7 : Rg.has (0, 0) (lw2t_at0 x1) := by
          have hr : InR [(0, 0), (-100, 100)] [(lw2t_at0 x0), (lw2t_at0 x1)] := ⟨r6, ⟨lw2t_rg7 x0 x1 f0 f1 f2 f3 hpre, trivial⟩⟩
          have ha := BE.all_ok hr lw2t_q25 (by kernel_rfl)
          have hx : BE.ev [(lw2t_at0 x0), (lw2t_at0 x1)] lw2t_q22 = false := (show BE.ev [(lw2t_at0 x0), (lw2t_at0 x1)] lw2t_q22 = lw2t_c7 x0 x1 f0 f1 f2 f3 by kernel_rfl).trans h7
          have ha := orT ha (notF hx)
          exact rgB ha
        have hr : InR [(0, 0), (0, 0), (-1000, 1000), (-1000, 1000)] [(lw2t_at0 x0), (lw2t_at0 x1), (lw2t_at1 f0), (lw2t_at1 f1)] := ⟨r6, ⟨r7, ⟨lw2t_rg8 x0 x1 f0 f1 f2 f3 hpre, ⟨lw2t_rg9 x0 x1 f0 f1 f2 f3 hpre, trivial⟩⟩⟩⟩
        have e1 : lw2t_c25 x0 x1 f0 f1 f2 f3 = BE.ev [(lw2t_at0 x0), (lw2t_at0 x1), (lw2t_at1 f0), (lw2t_at1 f1)] (.cm .lt lw2t_q33 (.k (-1073741824))) := by kernel_rfl
        rw [e1]
        exact BE.tri_ok hr (by kernel_rfl) (by kernel_rfl)
      have h27 : (lw2t_c26 x0 x1 f0 f1 f2 f3 = false) := by
        have r6 : Rg.has (0, 0) (lw2t_at0 x0) := by
          have hr : InR [(-100, 100)] [(lw2t_at0 x0)] := ⟨lw2t_rg6 x0 x1 f0 f1 f2 f3 hpre, trivial⟩
          have ha := BE.all_ok hr lw2t_q15 (by kernel_rfl)
          have hx : BE.ev [(lw2t_at0 x0)] (.cm .eq (.v 0) (.k (0))) = true := (show BE.ev [(lw2t_at0 x0)] (.cm .eq (.v 0) (.k (0))) = lw2t_c0 x0 x1 f0 f1 f2 f3 by kernel_rfl).trans h0
          have ha := orT ha hx
          exact rgB ha
        have r7 : Rg.has (0, 0) (lw2t_at0 x1) := by
          have hr : InR [(0, 0), (-100, 100)] [(lw2t_at0 x0), (lw2t_at0 x1)] := ⟨r6, ⟨lw2t_rg7 x0 x1 f0 f1 f2 f3 hpre, trivial⟩⟩
          have ha := BE.all_ok hr lw2t_q25 (by kernel_rfl)
          have hx : BE.ev [(lw2t_at0 x0), (lw2t_at0 x1)] lw2t_q22 = false := (show BE.ev [(lw2t_at0 x0), (lw2t_at0 x1)] lw2t_q22 = lw2t_c7 x0 x1 f0 f1 f2 f3 by kernel_rfl).trans h7
          have ha := orT ha (notF hx)
          exact rgB ha
        have hr : InR [(0, 0), (0, 0), (-1000, 1000), (-1000, 1000)] [(lw2t_at0 x0), (lw2t_at0 x1), (lw2t_at1 f0), (lw2t_at1 f1)] := ⟨r6, ⟨r7, ⟨lw2t_rg8 x0 x1 f0 f1 f2 f3 hpre, ⟨lw2t_rg9 x0 x1 f0 f1 f2 f3 hpre, trivial⟩⟩⟩⟩
        have e1 : lw2t_c26 x0 x1 f0 f1 f2 f3 = BE.ev [(lw2t_at0 x0), (lw2t_at0 x1), (lw2t_at1 f0), (lw2t_at1 f1)] (.cm .gt lw2t_q33 (.k (1073741824))) := by kernel_rfl
        rw [e1]
        exact BE.tri_ok hr (by kernel_rfl) (by kernel_rfl)
      have h28 : (lw2t_c27 x0 x1 f0 f1 f2 f3 = false) := by
        have r6 : Rg.has (0, 0) (lw2t_at0 x0) := by
          have hr : InR [(-100, 100)] [(lw2t_at0 x0)] := ⟨lw2t_rg6 x0 x1 f0 f1 f2 f3 hpre, trivial⟩
          have ha := BE.all_ok hr lw2t_q15 (by kernel_rfl)
          have hx : BE.ev [(lw2t_at0 x0)] (.cm .eq (.v 0) (.k (0))) = true := (show BE.ev [(lw2t_at0 x0)] (.cm .eq (.v 0) (.k (0))) = lw2t_c0 x0 x1 f0 f1 f2 f3 by kernel_rfl).trans h0
          have ha := orT ha hx
          exact rgB ha
        have r7 : Rg.has (0, 0) (lw2t_at0 x1) := by
          have hr : InR [(0, 0), (-100, 100)] [(lw2t_at0 x0), (lw2t_at0 x1)] := ⟨r6, ⟨lw2t_rg7 x0 x1 f0 f1 f2 f3 hpre, trivial⟩⟩
          have ha := BE.all_ok hr lw2t_q25 (by kernel_rfl)
          have hx : BE.ev [(lw2t_at0 x0), (lw2t_at0 x1)] lw2t_q22 = false := (show BE.ev [(lw2t_at0 x0), (lw2t_at0 x1)] lw2t_q22 = lw2t_c7 x0 x1 f0 f1 f2 f3 by kernel_rfl).trans h7
          have ha := orT ha (notF hx)
          exact rgB ha
        have hr : InR [(0, 0), (0, 0), (-1000, 1000), (-1000, 1000)] [(lw2t_at0 x0), (lw2t_at0 x1), (lw2t_at1 f0), (lw2t_at1 f1)] := ⟨r6, ⟨r7, ⟨lw2t_rg8 x0 x1 f0 f1 f2 f3 hpre, ⟨lw2t_rg9 x0 x1 f0 f1 f2 f3 hpre, trivial⟩⟩⟩⟩
        have e1 : lw2t_c27 x0 x1 f0 f1 f2 f3 = BE.ev [(lw2t_at0 x0), (lw2t_at0 x1), (lw2t_at1 f0), (lw2t_at1 f1)] (.cm .ne (.wr lw2t_q28) (.k (0))) := by kernel_rfl
        rw [e1]
        exact BE.tri_ok hr (by kernel_rfl) (by kernel_rfl)
      have h29 : (lw2t_c28 x0 x1 f0 f1 f2 f3 = false) := by
        have r6 : Rg.has (0, 0) (lw2t_at0 x0) := by
          have hr : InR [(-100, 100)] [(lw2t_at0 x0)] := ⟨lw2t_rg6 x0 x1 f0 f1 f2 f3 hpre, trivial⟩
          have ha := BE.all_ok hr lw2t_q15 (by kernel_rfl)
          have hx : BE.ev [(lw2t_at0 x0)] (.cm .eq (.v 0) (.k (0))) = true := (show BE.ev [(lw2t_at0 x0)] (.cm .eq (.v 0) (.k (0))) = lw2t_c0 x0 x1 f0 f1 f2 f3 by kernel_rfl).trans h0
          have ha := orT ha hx
          exact rgB ha
        have r7 : Rg.has (0, 0) (lw2t_at0 x1) := by
          have hr : InR [(0, 0), (-100, 100)] [(lw2t_at0 x0), (lw2t_at0 x1)] := ⟨r6, ⟨lw2t_rg7 x0 x1 f0 f1 f2 f3 hpre, trivial⟩⟩
          have ha := BE.all_ok hr lw2t_q25 (by kernel_rfl)
          have hx : BE.ev [(lw2t_at0 x0), (lw2t_at0 x1)] lw2t_q22 = false := (show BE.ev [(lw2t_at0 x0), (lw2t_at0 x1)] lw2t_q22 = lw2t_c7 x0 x1 f0 f1 f2 f3 by kernel_rfl).trans h7
          have ha := orT ha (notF hx)
          exact rgB ha
        have hr : InR [(0, 0), (0, 0), (-1000, 1000), (-1000, 1000)] [(lw2t_at0 x0), (lw2t_at0 x1), (lw2t_at1 f0), (lw2t_at1 f1)] := ⟨r6, ⟨r7, ⟨lw2t_rg8 x0 x1 f0 f1 f2 f3 hpre, ⟨lw2t_rg9 x0 x1 f0 f1 f2 f3 hpre, trivial⟩⟩⟩⟩
        have e1 : lw2t_c28 x0 x1 f0 f1 f2 f3 = BE.ev [(lw2t_at0 x0), (lw2t_at0 x1), (lw2t_at1 f0), (lw2t_at1 f1)] (.cm .ne lw2t_q29 (.k (0))) := by kernel_rfl
        rw [e1]
        exact BE.tri_ok hr (by kernel_rfl) (by kernel_rfl)
      have h30 : (lw2t_c29 x0 x1 f0 f1 f2 f3 = false) := by
        have r6 : Rg.has (0, 0) (lw2t_at0 x0) := by
          have hr : InR [(-100, 100)] [(lw2t_at0 x0)] := ⟨lw2t_rg6 x0 x1 f0 f1 f2 f3 hpre, trivial⟩
          have ha := BE.all_ok hr lw2t_q15 (by kernel_rfl)
          have hx : BE.ev [(lw2t_at0 x0)] (.cm .eq (.v 0) (.k (0))) = true := (show BE.ev [(lw2t_at0 x0)] (.cm .eq (.v 0) (.k (0))) = lw2t_c0 x0 x1 f0 f1 f2 f3 by kernel_rfl).trans h0
          have ha := orT ha hx
          exact rgB ha
        have r7 : Rg.has (0, 0) (lw2t_at0 x1) := by
          have hr : InR [(0, 0), (-100, 100)] [(lw2t_at0 x0), (lw2t_at0 x1)] := ⟨r6, ⟨lw2t_rg7 x0 x1 f0 f1 f2 f3 hpre, trivial⟩⟩
          have ha := BE.all_ok hr lw2t_q25 (by kernel_rfl)
          have hx : BE.ev [(lw2t_at0 x0), (lw2t_at0 x1)] lw2t_q22 = false := (show BE.ev [(lw2t_at0 x0), (lw2t_at0 x1)] lw2t_q22 = lw2t_c7 x0 x1 f0 f1 f2 f3 by kernel_rfl).trans h7
          have ha := orT ha (notF hx)
          exact rgB ha
        have hr : InR [(0, 0), (0, 0), (-1000, 1000), (-1000, 1000)] [(lw2t_at0 x0), (lw2t_at0 x1), (lw2t_at1 f0), (lw2t_at1 f1)] := ⟨r6, ⟨r7, ⟨lw2t_rg8 x0 x1 f0 f1 f2 f3 hpre, ⟨lw2t_rg9 x0 x1 f0 f1 f2 f3 hpre, trivial⟩⟩⟩⟩
        have e1 : lw2t_c29 x0 x1 f0 f1 f2 f3 = BE.ev [(lw2t_at0 x0), (lw2t_at0 x1), (lw2t_at1 f0), (lw2t_at1 f1)] (.cm .ne lw2t_q30 (.k (0))) := by kernel_rfl
        rw [e1]
        exact BE.tri_ok hr (by kernel_rfl) (by kernel_rfl)
      have h31 : (lw2t_c30 x0 x1 f0 f1 f2 f3 = false) := by
        have r6 : Rg.has (0, 0) (lw2t_at0 x0) := by
          have hr : InR [(-100, 100)] [(lw2t_at0 x0)] := ⟨lw2t_rg6 x0 x1 f0 f1 f2 f3 hpre, trivial⟩
          have ha := BE.all_ok hr lw2t_q15 (by kernel_rfl)
          have hx : BE.ev [(lw2t_at0 x0)] (.cm .eq (.v 0) (.k (0))) = true := (show BE.ev [(lw2t_at0 x0)] (.cm .eq (.v 0) (.k (0))) = lw2t_c0 x0 x1 f0 f1 f2 f3 by kernel_rfl).trans h0
          have ha := orT ha hx
          exact rgB ha
        have r7 : Rg.has (0, 0) (lw2t_at0 x1) := by
          have hr : InR [(0, 0), (-100, 100)] [(lw2t_at0 x0), (lw2t_at0 x1)] := ⟨r6, ⟨lw2t_rg7 x0 x1 f0 f1 f2 f3 hpre, trivial⟩⟩
          have ha := BE.all_ok hr lw2t_q25 (by kernel_rfl)
          have hx : BE.ev [(lw2t_at0 x0), (lw2t_at0 x1)] lw2t_q22 = false := (show BE.ev [(lw2t_at0 x0), (lw2t_at0 x1)] lw2t_q22 = lw2t_c7 x0 x1 f0 f1 f2 f3 by kernel_rfl).trans h7
          have ha := orT ha (notF hx)
          exact rgB ha
        have hr : InR [(0, 0), (0, 0), (-1000, 1000), (-1000, 1000)] [(lw2t_at0 x0), (lw2t_at0 x1), (lw2t_at1 f0), (lw2t_at1 f1)] := ⟨r6, ⟨r7, ⟨lw2t_rg8 x0 x1 f0 f1 f2 f3 hpre, ⟨lw2t_rg9 x0 x1 f0 f1 f2 f3 hpre, trivial⟩⟩⟩⟩
        have e1 : lw2t_c30 x0 x1 f0 f1 f2 f3 = BE.ev [(lw2t_at0 x0), (lw2t_at0 x1), (lw2t_at1 f0), (lw2t_at1 f1)] (.cm .ne lw2t_q31 (.k (0))) := by kernel_rfl
        rw [e1]
        exact BE.tri_ok hr (by kernel_rfl) (by kernel_rfl)
      have h32 : (lw2t_c31 x0 x1 f0 f1 f2 f3 = false) := by
        have r6 : Rg.has (0, 0) (lw2t_at0 x0) := by
          have hr : InR [(-100, 100)] [(lw2t_at0 x0)] := ⟨lw2t_rg6 x0 x1 f0 f1 f2 f3 hpre, trivial⟩
          have ha := BE.all_ok hr lw2t_q15 (by kernel_rfl)
          have hx : BE.ev [(lw2t_at0 x0)] (.cm .eq (.v 0) (.k (0))) = true := (show BE.ev [(lw2t_at0 x0)] (.cm .eq (.v 0) (.k (0))) = lw2t_c0 x0 x1 f0 f1 f2 f3 by kernel_rfl).trans h0
          have ha := orT ha hx
          exact rgB ha
        have r7 : Rg.has (0, 0) (lw2t_at0 x1) := by
          have hr : InR [(0, 0), (-100, 100)] [(lw2t_at0 x0), (lw2t_at0 x1)] := ⟨r6, ⟨lw2t_rg7 x0 x1 f0 f1 f2 f3 hpre, trivial⟩⟩
          have ha := BE.all_ok hr lw2t_q25 (by kernel_rfl)
          have hx : BE.ev [(lw2t_at0 x0), (lw2t_at0 x1)] lw2t_q22 = false := (show BE.ev [(lw2t_at0 x0), (lw2t_at0 x1)] lw2t_q22 = lw2t_c7 x0 x1 f0 f1 f2 f3 by kernel_rfl).trans h7
          have ha := orT ha (notF hx)
          exact rgB ha
        have hr : InR [(0, 0), (0, 0), (-1000, 1000), (-1000, 1000)] [(lw2t_at0 x0), (lw2t_at0 x1), (lw2t_at1 f0), (lw2t_at1 f1)] := ⟨r6, ⟨r7, ⟨lw2t_rg8 x0 x1 f0 f1 f2 f3 hpre, ⟨lw2t_rg9 x0 x1 f0 f1 f2 f3 hpre, trivial⟩⟩⟩⟩
        have e1 : lw2t_c31 x0 x1 f0 f1 f2 f3 = BE.ev [(lw2t_at0 x0), (lw2t_at0 x1), (lw2t_at1 f0), (lw2t_at1 f1)] (.cm .ne lw2t_q32 (.k (0))) := by kernel_rfl
        rw [e1]
        exact BE.tri_ok hr (by kernel_rfl) (by kernel_rfl)
      have h33 : (lw2t_c32 x0 x1 f0 f1 f2 f3 = false) := by
        have r6 : Rg.has (0, 0) (lw2t_at0 x0) := by
          have hr : InR [(-100, 100)] [(lw2t_at0 x0)] := ⟨lw2t_rg6 x0 x1 f0 f1 f2 f3 hpre, trivial⟩
          have ha := BE.all_ok hr lw2t_q15 (by kernel_rfl)
          have hx : BE.ev [(lw2t_at0 x0)] (.cm .eq (.v 0) (.k (0))) = true := (show BE.ev [(lw2t_at0 x0)] (.cm .eq (.v 0) (.k (0))) = lw2t_c0 x0 x1 f0 f1 f2 f3 by kernel_rfl).trans h0
          have ha := orT ha hx
          exact rgB ha
        have r7 : Rg.has (0, 0) (lw2t_at0 x1) := by
          have hr : InR [(0, 0), (-100, 100)] [(lw2t_at0 x0), (lw2t_at0 x1)] := ⟨r6, ⟨lw2t_rg7 x0 x1 f0 f1 f2 f3 hpre, trivial⟩⟩
          have ha := BE.all_ok hr lw2t_q25 (by kernel_rfl)
          have hx : BE.ev [(lw2t_at0 x0), (lw2t_at0 x1)] lw2t_q22 = false := (show BE.ev [(lw2t_at0 x0), (lw2t_at0 x1)] lw2t_q22 = lw2t_c7 x0 x1 f0 f1 f2 f3 by kernel_rfl).trans h7
          have ha := orT ha (notF hx)
          exact rgB ha
        have hr : InR [(0, 0), (0, 0), (-1000, 1000), (-1000, 1000)] [(lw2t_at0 x0), (lw2t_at0 x1), (lw2t_at1 f0), (lw2t_at1 f1)] := ⟨r6, ⟨r7, ⟨lw2t_rg8 x0 x1 f0 f1 f2 f3 hpre, ⟨lw2t_rg9 x0 x1 f0 f1 f2 f3 hpre, trivial⟩⟩⟩⟩
        have e1 : lw2t_c32 x0 x1 f0 f1 f2 f3 = BE.ev [(lw2t_at0 x0), (lw2t_at0 x1), (lw2t_at1 f0), (lw2t_at1 f1)] (.cm .ne lw2t_q33 (.k (0))) := by kernel_rfl
        rw [e1]
        exact BE.tri_ok hr (by kernel_rfl) (by kernel_rfl)
      exact lw2t_p2 x0 x1 f0 f1 f2 f3 c (lw2t_z7_h (lw2t_z5_h (lw2t_z2_h (lw2t_z4_h (lw2t_z0_h trivial x0 x1 f0 f1 f2 f3 hpre) x0 x1 f0 f1 f2 f3 hpre h0) x0 x1 f0 f1 f2 f3 hpre) x0 x1 f0 f1 f2 f3 hpre h5 h6) x0 x1 f0 f1 f2 f3 hpre h7 h10 h11 h20 h21 h22 h23 h24 h25 h26 h27 h28 h29 h30 h31 h32 h33)
  ·
    have h34 : (lw2t_c1 x0 x1 f0 f1 f2 f3 = false) := lw2t_c1_ff x0 x1 f0 f1 f2 f3 hpre
    have h35 : (lw2t_c2 x0 x1 f0 f1 f2 f3 = false) := lw2t_c2_ff x0 x1 f0 f1 f2 f3 hpre
    have h36 : (lw2t_c3 x0 x1 f0 f1 f2 f3 = false) := lw2t_c3_ff x0 x1 f0 f1 f2 f3 hpre
    have h37 : (lw2t_c4 x0 x1 f0 f1 f2 f3 = false) := lw2t_c4_ff x0 x1 f0 f1 f2 f3 hpre
    have h38 : (lw2t_c5 x0 x1 f0 f1 f2 f3 = false) := by
      have hr : InR [(-100, 100)] [(lw2t_at0 x0)] := ⟨lw2t_rg6 x0 x1 f0 f1 f2 f3 hpre, trivial⟩
      have hr2 : InR [(-100, 100)] [(lw2t_at0 x0)] := ⟨lw2t_rg6 x0 x1 f0 f1 f2 f3 hpre, trivial⟩
      have ha := BE.all_ok hr2 (.or (.cm .eq (.v 0) (.k (0))) (.not lw2t_q34)) (by kernel_rfl)
      have hx : BE.ev [(lw2t_at0 x0)] (.cm .eq (.v 0) (.k (0))) = false := (show BE.ev [(lw2t_at0 x0)] (.cm .eq (.v 0) (.k (0))) = BE.ev [(lw2t_at0 x0)] (.cm .eq (.v 0) (.k (0))) by kernel_rfl).trans ((BE.smp_to hr (.cm .eq (.v 0) (.k (0))) (.cm .eq (.v 0) (.k (0))) (by kernel_rfl) (by kernel_rfl)).symm.trans ((show BE.ev [(lw2t_at0 x0)] (.cm .eq (.v 0) (.k (0))) = lw2t_c0 x0 x1 f0 f1 f2 f3 by kernel_rfl).trans h0))
      have ha := orF ha hx
      exact (show lw2t_c5 x0 x1 f0 f1 f2 f3 = BE.ev [(lw2t_at0 x0)] lw2t_q16 by kernel_rfl).trans ((BE.smp_to hr lw2t_q16 lw2t_q34 (by kernel_rfl) (by kernel_rfl)).trans ((show BE.ev [(lw2t_at0 x0)] lw2t_q34 = BE.ev [(lw2t_at0 x0)] lw2t_q34 by kernel_rfl).trans (notT ha)))
    have h39 : (lw2t_c6 x0 x1 f0 f1 f2 f3 = true) := by
      have hz := (show lw2t_c5 x0 x1 f0 f1 f2 f3 = Bool.not (lw2t_c6 x0 x1 f0 f1 f2 f3) by kernel_rfl).symm.trans h38
      generalize lw2t_c6 x0 x1 f0 f1 f2 f3 = z at hz ⊢
      cases z <;> first | rfl | cases hz
    exact lw2t_p0 x0 x1 f0 f1 f2 f3 c (lw2t_z3_h (lw2t_z2_h (lw2t_z1_h (lw2t_z0_h trivial x0 x1 f0 f1 f2 f3 hpre) x0 x1 f0 f1 f2 f3 hpre h0) x0 x1 f0 f1 f2 f3 hpre) x0 x1 f0 f1 f2 f3 hpre h38 h39)
end Go.Proofs.YtencngffhbhifaaGreatDoor
end
