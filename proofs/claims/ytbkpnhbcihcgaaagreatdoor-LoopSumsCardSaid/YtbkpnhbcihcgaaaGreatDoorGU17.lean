/-
  The contract of bipole.bipolelaw03.LoopSums.
-/
import Derived.Test.YtbkpnhbcihcgaaaGreatDoorGU2
import Derived.Test.YtbkpnhbcihcgaaaGreatDoorGU3
import Derived.Test.YtbkpnhbcihcgaaaGreatDoorGU12
set_option linter.all false
set_option maxRecDepth 1000000
set_option maxHeartbeats 2000000
open Go.RowKit
namespace Go.Proofs.YtbkpnhbcihcgaaaGreatDoor
open Mini
def K_at0 (y : Int) : Int := (Int.tmod (IntKind.i64.wrap y) (8 : Int))
abbrev K_xq0 : IE := .ite .gt (.k (-8)) (.v 18) (.k (-8)) (.v 18)
abbrev K_xq1 : IE := .ite .gt (.k (-8)) (.v 19) (.k (-8)) (.v 19)
abbrev K_xq2 : BE := .and (.cm .eq (.ite .lt (.k (8)) K_xq0 (.k (8)) K_xq0) (.v 18)) (.and (.cm .eq (.ite .lt (.k (8)) K_xq1 (.k (8)) K_xq1) (.v 19)) .t)
abbrev K_xq3 : IE := .wr (.add (.k (0)) (.wr (.mul (.v 13) (.v 16))))
abbrev K_xq4 : IE := .wr (.sub (.wr (.mul (.k (0)) (.v 18))) (.wr (.mul (.k (0)) (.v 19))))
abbrev K_xq5 : IE := .wr (.add (.wr (.mul (.k (0)) (.v 19))) (.wr (.mul (.k (0)) (.v 18))))
abbrev K_xq6 : IE := .wr (.add (.wr (.add (.k (0)) (.wr (.mul (.v 12) (.v 16))))) (.wr (.mul (.v 13) (.v 15))))
abbrev K_xq7 : IE := .wr (.add (.wr (.sub (.wr (.mul (.wr (.add K_xq4 K_xq3)) (.v 18))) (.wr (.mul K_xq5 (.v 19))))) K_xq6)
abbrev K_xq8 : IE := .wr (.add (.wr (.mul (.wr (.add K_xq4 K_xq3)) (.v 19))) (.wr (.mul K_xq5 (.v 18))))
abbrev K_xq9 : IE := .wr (.add (.k (0)) (.wr (.mul (.v 12) (.v 15))))
abbrev K_xq10 : IE := .wr (.add (.wr (.sub (.wr (.mul K_xq7 (.v 18))) (.wr (.mul K_xq8 (.v 19))))) K_xq9)
abbrev K_xq11 : IE := .wr (.add (.wr (.sub (.wr (.mul (.wr (.add K_xq4 (.v 13))) (.v 18))) (.wr (.mul K_xq5 (.v 19))))) (.v 12))
abbrev K_xq12 : IE := .wr (.add (.wr (.sub (.wr (.mul (.wr (.add K_xq4 (.v 16))) (.v 18))) (.wr (.mul K_xq5 (.v 19))))) (.v 15))
abbrev K_xq13 : IE := .wr (.add (.wr (.mul (.wr (.add K_xq4 (.v 13))) (.v 19))) (.wr (.mul K_xq5 (.v 18))))
abbrev K_xq14 : IE := .wr (.add (.wr (.mul (.wr (.add K_xq4 (.v 16))) (.v 19))) (.wr (.mul K_xq5 (.v 18))))
abbrev K_xq15 : IE := .wr (.sub (.wr (.mul K_xq11 K_xq12)) (.wr (.mul K_xq13 K_xq14)))
abbrev K_xq16 : IE := .wr (.add (.wr (.mul K_xq7 (.v 19))) (.wr (.mul K_xq8 (.v 18))))
abbrev K_xq17 : IE := .wr (.add (.wr (.mul K_xq11 K_xq14)) (.wr (.mul K_xq13 K_xq12)))
abbrev K_xq18 : IE := .wr (.add K_xq4 (.wr (.add (.v 13) (.v 16))))
abbrev K_xq19 : IE := .wr (.add (.wr (.sub (.wr (.mul K_xq18 (.v 18))) (.wr (.mul K_xq5 (.v 19))))) (.wr (.add (.v 12) (.v 15))))
abbrev K_xq20 : IE := .wr (.add (.wr (.mul K_xq18 (.v 19))) (.wr (.mul K_xq5 (.v 18))))
abbrev K_xq21 : IE := .wr (.mul (.wr (.add (.v 8) (.v 10))) (.k (1)))
abbrev K_xq22 : BE := .cm .ne K_xq21 (.wr (.add (.wr (.mul (.v 8) (.k (1)))) (.wr (.mul (.v 10) (.k (1))))))
abbrev K_xq23 : IE := .wr (.sub (.k (0)) (.wr (.mul (.v 12) (.k (1)))))
abbrev K_xq24 : IE := .wr (.add (.k (0)) (.wr (.mul K_xq23 K_xq21)))
abbrev K_xq25 : IE := .wr (.add (.k (0)) (.wr (.mul K_xq23 (.wr (.mul (.v 8) (.k (1)))))))
abbrev K_xq26 : IE := .wr (.add (.k (0)) (.wr (.mul K_xq23 (.wr (.mul (.v 10) (.k (1)))))))
abbrev K_xq27 : BE := .cm .ne K_xq24 (.wr (.add K_xq25 K_xq26))
abbrev K_xq28 : IE := .wr (.add (.k (0)) (.wr (.mul K_xq23 K_xq24)))
abbrev K_xq29 : IE := .wr (.add (.k (0)) (.wr (.mul K_xq23 K_xq25)))
abbrev K_xq30 : IE := .wr (.add (.k (0)) (.wr (.mul K_xq23 K_xq26)))
abbrev K_xq31 : BE := .cm .ne K_xq28 (.wr (.add K_xq29 K_xq30))
abbrev K_xq32 : IE := .wr (.add (.k (0)) (.wr (.mul K_xq23 K_xq28)))
abbrev K_xq33 : IE := .wr (.add (.k (0)) (.wr (.mul K_xq23 K_xq29)))
abbrev K_xq34 : IE := .wr (.add (.k (0)) (.wr (.mul K_xq23 K_xq30)))
abbrev K_xq35 : BE := .cm .ne K_xq32 (.wr (.add K_xq33 K_xq34))
abbrev K_xq36 : IE := .wr (.add (.k (0)) (.wr (.mul K_xq23 K_xq32)))
abbrev K_xq37 : IE := .wr (.add (.k (0)) (.wr (.mul K_xq23 K_xq33)))
abbrev K_xq38 : IE := .wr (.add (.k (0)) (.wr (.mul K_xq23 K_xq34)))
abbrev K_xq39 : BE := .cm .ne K_xq36 (.wr (.add K_xq37 K_xq38))
abbrev K_xq40 : IE := .wr (.add (.k (0)) (.wr (.mul K_xq23 K_xq36)))
abbrev K_xq41 : IE := .wr (.add (.k (0)) (.wr (.mul K_xq23 K_xq37)))
abbrev K_xq42 : IE := .wr (.add (.k (0)) (.wr (.mul K_xq23 K_xq38)))
abbrev K_xq43 : BE := .cm .ne K_xq40 (.wr (.add K_xq41 K_xq42))
abbrev K_xq44 : BE := .cm .ne (.wr (.mul K_xq25 (.k (1)))) K_xq25
abbrev K_xq45 : IE := .wr (.add (.k (0)) (.wr (.mul K_xq23 (.wr (.mul K_xq25 (.k (1)))))))
abbrev K_xq46 : IE := .wr (.add (.k (0)) (.wr (.mul K_xq23 K_xq45)))
abbrev K_xq47 : IE := .wr (.add (.k (0)) (.wr (.mul K_xq23 K_xq46)))
abbrev K_xq48 : IE := .wr (.add (.k (0)) (.wr (.mul K_xq23 K_xq47)))
abbrev K_xq49 : IE := .wr (.add K_xq4 (.wr (.add (.v 12) (.v 15))))
abbrev K_xq50 : IE := .add (.k (0)) (.mul (.sub (.k (0)) (.mul (.v 12) (.k (1)))) (.mul (.add (.v 8) (.v 10)) (.k (1))))
abbrev K_xq51 : IE := .add (.k (0)) (.mul (.sub (.k (0)) (.mul (.v 12) (.k (1)))) (.mul (.v 8) (.k (1))))
abbrev K_xq52 : IE := .add (.k (0)) (.mul (.sub (.k (0)) (.mul (.v 12) (.k (1)))) (.mul (.v 10) (.k (1))))
abbrev K_xq53 : IE := .add (.k (0)) (.mul (.sub (.k (0)) (.mul (.v 12) (.k (1)))) K_xq50)
abbrev K_xq54 : IE := .add (.k (0)) (.mul (.sub (.k (0)) (.mul (.v 12) (.k (1)))) K_xq51)
abbrev K_xq55 : IE := .add (.k (0)) (.mul (.sub (.k (0)) (.mul (.v 12) (.k (1)))) K_xq52)
abbrev K_xq56 : IE := .add (.k (0)) (.mul (.sub (.k (0)) (.mul (.v 12) (.k (1)))) K_xq53)
abbrev K_xq57 : IE := .add (.k (0)) (.mul (.sub (.k (0)) (.mul (.v 12) (.k (1)))) K_xq54)
abbrev K_xq58 : IE := .add (.k (0)) (.mul (.sub (.k (0)) (.mul (.v 12) (.k (1)))) K_xq55)
abbrev K_xq59 : IE := .add (.k (0)) (.mul (.sub (.k (0)) (.mul (.v 12) (.k (1)))) K_xq56)
abbrev K_xq60 : IE := .add (.k (0)) (.mul (.sub (.k (0)) (.mul (.v 12) (.k (1)))) K_xq57)
abbrev K_xq61 : IE := .add (.k (0)) (.mul (.sub (.k (0)) (.mul (.v 12) (.k (1)))) K_xq58)
abbrev K_xq62 : IE := .add (.k (0)) (.mul (.sub (.k (0)) (.mul (.v 12) (.k (1)))) K_xq60)
abbrev K_xq63 : IE := .add (.k (0)) (.mul (.sub (.k (0)) (.mul (.v 12) (.k (1)))) (.mul K_xq51 (.k (1))))
abbrev K_xq64 : IE := .add (.k (0)) (.mul (.sub (.k (0)) (.mul (.v 12) (.k (1)))) K_xq63)
abbrev K_xq65 : IE := .add (.k (0)) (.mul (.sub (.k (0)) (.mul (.v 12) (.k (1)))) K_xq64)
abbrev K_xq66 : IE := .sub (.mul (.k (0)) (.v 18)) (.mul (.k (0)) (.v 19))
abbrev K_xq67 : IE := .add K_xq66 (.add (.k (0)) (.mul (.v 13) (.v 16)))
abbrev K_xq68 : IE := .add (.mul (.k (0)) (.v 19)) (.mul (.k (0)) (.v 18))
abbrev K_xq69 : IE := .add (.sub (.mul K_xq67 (.v 18)) (.mul K_xq68 (.v 19))) (.add (.add (.k (0)) (.mul (.v 12) (.v 16))) (.mul (.v 13) (.v 15)))
abbrev K_xq70 : IE := .add (.mul K_xq67 (.v 19)) (.mul K_xq68 (.v 18))
abbrev K_xq71 : IE := .add (.sub (.mul K_xq69 (.v 18)) (.mul K_xq70 (.v 19))) (.add (.k (0)) (.mul (.v 12) (.v 15)))
abbrev K_xq72 : IE := .add (.sub (.mul (.add K_xq66 (.v 13)) (.v 18)) (.mul K_xq68 (.v 19))) (.v 12)
abbrev K_xq73 : IE := .add (.sub (.mul (.add K_xq66 (.v 16)) (.v 18)) (.mul K_xq68 (.v 19))) (.v 15)
abbrev K_xq74 : IE := .add (.mul (.add K_xq66 (.v 13)) (.v 19)) (.mul K_xq68 (.v 18))
abbrev K_xq75 : IE := .add (.mul (.add K_xq66 (.v 16)) (.v 19)) (.mul K_xq68 (.v 18))
abbrev K_xq76 : IE := .sub (.mul K_xq72 K_xq73) (.mul K_xq74 K_xq75)
abbrev K_xq77 : IE := .add (.mul K_xq69 (.v 19)) (.mul K_xq70 (.v 18))
abbrev K_xq78 : IE := .add (.mul K_xq72 K_xq75) (.mul K_xq74 K_xq73)
abbrev K_xq79 : IE := .add (.sub (.mul (.add K_xq66 (.add (.v 13) (.v 16))) (.v 18)) (.mul K_xq68 (.v 19))) (.add (.v 12) (.v 15))
abbrev K_xq80 : IE := .add (.mul (.add K_xq66 (.add (.v 13) (.v 16))) (.v 19)) (.mul K_xq68 (.v 18))

abbrev K_pre (y : LV) : Prop := (-128 ≤ y.b0 ∧ y.b0 ≤ 127) ∧ (-128 ≤ y.b1 ∧ y.b1 ≤ 127) ∧ (-128 ≤ y.z0 ∧ y.z0 ≤ 127) ∧ (-128 ≤ y.z1 ∧ y.z1 ≤ 127) ∧ ((K_at0 y.a2) = 0) ∧ ((K_at0 y.a1) ≠ 0) ∧ ((K_at0 y.b2) = 0) ∧ ((K_at0 y.b1) ≠ 0)
theorem K_X : FOkS Tryz.prog x_K := bothX_ok (noXS_ok) (tabT_ok (by kernel_rfl) aw3_calls)
theorem K_args (y : LV) : (#[.agg #[.int .i8 y.a0, .int .i8 y.a1, .int .i8 y.a2], .agg #[.int .i8 y.b0, .int .i8 y.b1, .int .i8 y.b2], .agg #[.int .i8 y.z0, .int .i8 y.z1]] : Array Value).toList.all (ground 8) = true := by kernel_rfl
theorem K_hr (y : LV) (hpre : K_pre y) : InR LS_B (LS_R y) := LS_hr y ⟨hpre.1, hpre.2.1, hpre.2.2.1, hpre.2.2.2.1⟩
def K_h0 : Prop := (true = true)
theorem K_g0 : (true = true) := by first | rfl | trivial | decide | omega
def K_h1 : Prop := ((0 : Int) = (0 : Int))
theorem K_g1 : ((0 : Int) = (0 : Int)) := by first | rfl | trivial | decide | omega
def K_h2 : Prop := (false = false)
theorem K_g2 : (false = false) := by first | rfl | trivial | decide | omega
def K_h3 : Prop := ((1 : Int) = (1 : Int))
theorem K_g3 : ((1 : Int) = (1 : Int)) := by first | rfl | trivial | decide | omega
def K_h4 : Prop := ((2 : Int) = (2 : Int))
theorem K_g4 : ((2 : Int) = (2 : Int)) := by first | rfl | trivial | decide | omega
def K_h5 : Prop := ((decide ((3 : Int) > (0 : Int))) = Bool.true)
theorem K_g5 : ((decide ((3 : Int) > (0 : Int))) = Bool.true) := by first | rfl | trivial | decide | omega
def K_c0 (y : LV) : Bool := BE.ev (LS_R y) (.cm .eq (.v 14) (.k (0)))
def K_h7 : Prop := ((decide ((2 : Int) > (0 : Int))) = Bool.true)
theorem K_g7 : ((decide ((2 : Int) > (0 : Int))) = Bool.true) := by first | rfl | trivial | decide | omega
def K_c1 (y : LV) : Bool := BE.ev (LS_R y) (.cm .eq (.v 13) (.k (0)))
def K_c2 (y : LV) : Bool := BE.ev (LS_R y) (.cm .eq (.v 17) (.k (0)))
def K_c3 (y : LV) : Bool := BE.ev (LS_R y) (.cm .eq (.v 16) (.k (0)))
def K_h11 : Prop := ((decide ((2 : Int) > (5 : Int))) = Bool.false)
theorem K_g11 : ((decide ((2 : Int) > (5 : Int))) = Bool.false) := by first | rfl | trivial | decide | omega
def K_c8 (y : LV) : Bool := BE.ev (LS_R y) (.not K_xq2)
def K_h17 : Prop := ((decide ((1 : Int) ≥ (0 : Int))) = Bool.true)
theorem K_g17 : ((decide ((1 : Int) ≥ (0 : Int))) = Bool.true) := by first | rfl | trivial | decide | omega
def K_h18 : Prop := ((decide ((0 : Int) ≥ (0 : Int))) = Bool.true)
theorem K_g18 : ((decide ((0 : Int) ≥ (0 : Int))) = Bool.true) := by first | rfl | trivial | decide | omega
def K_h19 : Prop := ((decide ((-1 : Int) ≥ (0 : Int))) = Bool.false)
theorem K_g19 : ((decide ((-1 : Int) ≥ (0 : Int))) = Bool.false) := by first | rfl | trivial | decide | omega
def K_h24 : Prop := ((decide ((3 : Int) > (5 : Int))) = Bool.false)
theorem K_g24 : ((decide ((3 : Int) > (5 : Int))) = Bool.false) := by first | rfl | trivial | decide | omega
def K_c19 (y : LV) : Bool := BE.ev (LS_R y) (.cm .eq K_xq3 (.k (0)))
def K_h32 : Prop := ((decide ((2 : Int) ≥ (0 : Int))) = Bool.true)
theorem K_g32 : ((decide ((2 : Int) ≥ (0 : Int))) = Bool.true) := by first | rfl | trivial | decide | omega
def K_c20 (y : LV) : Bool := BE.ev (LS_R y) (.not (.and (.cm .eq K_xq10 K_xq15) (.and (.cm .eq K_xq16 K_xq17) .t)))
def K_h34 : Prop := ((Bool.false != Bool.false) = Bool.false)
theorem K_g34 : ((Bool.false != Bool.false) = Bool.false) := by first | rfl | trivial | decide | omega
def K_c21 (y : LV) : Bool := BE.ev (LS_R y) (.cm .eq (.wr (.add (.v 13) (.v 16))) (.k (0)))
def K_c26 (y : LV) : Bool := BE.ev (LS_R y) (.not (.and (.cm .eq K_xq19 (.wr (.add K_xq11 K_xq12))) (.and (.cm .eq K_xq20 (.wr (.add K_xq13 K_xq14))) .t)))
def K_h43 : Prop := ((decide ((5 : Int) > (24 : Int))) = Bool.false)
theorem K_g43 : ((decide ((5 : Int) > (24 : Int))) = Bool.false) := by first | rfl | trivial | decide | omega
def K_h50 : Prop := ((3 : Int) = (3 : Int))
theorem K_g50 : ((3 : Int) = (3 : Int)) := by first | rfl | trivial | decide | omega
def K_h53 : Prop := ((4 : Int) = (4 : Int))
theorem K_g53 : ((4 : Int) = (4 : Int)) := by first | rfl | trivial | decide | omega
def K_c63 (y : LV) : Bool := BE.ev (LS_R y) K_xq22
def K_c64 (y : LV) : Bool := BE.ev (LS_R y) K_xq27
def K_c65 (y : LV) : Bool := BE.ev (LS_R y) K_xq31
def K_c66 (y : LV) : Bool := BE.ev (LS_R y) K_xq35
def K_c67 (y : LV) : Bool := BE.ev (LS_R y) K_xq39
def K_h85 : Prop := ((5 : Int) = (5 : Int))
theorem K_g85 : ((5 : Int) = (5 : Int)) := by first | rfl | trivial | decide | omega
def K_c68 (y : LV) : Bool := BE.ev (LS_R y) K_xq43
def K_c69 (y : LV) : Bool := BE.ev (LS_R y) (.cm .ne (.v 13) (.k (1)))
def K_h90 : Prop := ((decide ((4 : Int) > (24 : Int))) = Bool.false)
theorem K_g90 : ((decide ((4 : Int) > (24 : Int))) = Bool.false) := by first | rfl | trivial | decide | omega
def K_c80 (y : LV) : Bool := BE.ev (LS_R y) K_xq44
def K_c81 (y : LV) : Bool := BE.ev (LS_R y) (.cm .ne K_xq45 K_xq29)
def K_c82 (y : LV) : Bool := BE.ev (LS_R y) (.cm .ne K_xq46 K_xq33)
def K_c83 (y : LV) : Bool := BE.ev (LS_R y) (.cm .ne K_xq47 K_xq37)
def K_c84 (y : LV) : Bool := BE.ev (LS_R y) (.cm .ne K_xq48 K_xq41)
def K_h106 : Prop := ((decide ((1 : Int) > (0 : Int))) = Bool.true)
theorem K_g106 : ((decide ((1 : Int) > (0 : Int))) = Bool.true) := by first | rfl | trivial | decide | omega
def K_c85 (y : LV) : Bool := BE.ev (LS_R y) (.cm .eq (.wr (.add (.v 12) (.v 15))) (.k (0)))
def K_h108 : Prop := ((decide ((1 : Int) > (5 : Int))) = Bool.false)
theorem K_g108 : ((decide ((1 : Int) > (5 : Int))) = Bool.false) := by first | rfl | trivial | decide | omega
def K_c86 (y : LV) : Bool := BE.ev (LS_R y) (.not (.and (.cm .eq K_xq49 (.wr (.add K_xq11 K_xq12))) (.and (.cm .eq K_xq5 (.wr (.add K_xq13 K_xq14))) .t)))
def K_h111 : Prop := ((decide ((0 : Int) > (0 : Int))) = Bool.false)
theorem K_g111 : ((decide ((0 : Int) > (0 : Int))) = Bool.false) := by first | rfl | trivial | decide | omega
def K_c87 (y : LV) : Bool := BE.ev (LS_R y) (.not (.and (.cm .eq (.wr (.add K_xq11 K_xq12)) (.k (0))) (.and (.cm .eq (.wr (.add K_xq13 K_xq14)) (.k (0))) .t)))
theorem K_c63_ff_p (ρ : List Int) : IE.ev ρ (.mul (.add (.v 8) (.v 10)) (.k (1))) = IE.ev ρ (.add (.mul (.v 8) (.k (1))) (.mul (.v 10) (.k (1)))) := by first | rfl | (simp only [IE.ev]; generalize List.getD ρ 8 0 = v8; generalize List.getD ρ 10 0 = v10; grind)
theorem K_c63_ff (y : LV) (hpre : K_pre y) : K_c63 y = false :=
  BE.same_ok (K_hr y hpre) K_xq22 .ne _ _ _ (by kernel_rfl) (by kernel_rfl) K_c63_ff_p (by kernel_rfl)
theorem K_c64_ff_p (ρ : List Int) : IE.ev ρ K_xq50 = IE.ev ρ (.add K_xq51 K_xq52) := by first | rfl | (simp only [IE.ev]; generalize List.getD ρ 8 0 = v8; generalize List.getD ρ 10 0 = v10; generalize List.getD ρ 12 0 = v12; grind)
theorem K_c64_ff (y : LV) (hpre : K_pre y) : K_c64 y = false :=
  BE.same_ok (K_hr y hpre) K_xq27 .ne _ _ _ (by kernel_rfl) (by kernel_rfl) K_c64_ff_p (by kernel_rfl)
theorem K_c65_ff_p (ρ : List Int) : IE.ev ρ K_xq53 = IE.ev ρ (.add K_xq54 K_xq55) := by first | rfl | (simp only [IE.ev]; generalize List.getD ρ 8 0 = v8; generalize List.getD ρ 10 0 = v10; generalize List.getD ρ 12 0 = v12; grind)
theorem K_c65_ff (y : LV) (hpre : K_pre y) : K_c65 y = false :=
  BE.same_ok (K_hr y hpre) K_xq31 .ne _ _ _ (by kernel_rfl) (by kernel_rfl) K_c65_ff_p (by kernel_rfl)
theorem K_c66_ff_p (ρ : List Int) : IE.ev ρ K_xq56 = IE.ev ρ (.add K_xq57 K_xq58) := by first | rfl | (simp only [IE.ev]; generalize List.getD ρ 8 0 = v8; generalize List.getD ρ 10 0 = v10; generalize List.getD ρ 12 0 = v12; grind)
theorem K_c66_ff (y : LV) (hpre : K_pre y) : K_c66 y = false :=
  BE.same_ok (K_hr y hpre) K_xq35 .ne _ _ _ (by kernel_rfl) (by kernel_rfl) K_c66_ff_p (by kernel_rfl)
theorem K_c67_ff_p (ρ : List Int) : IE.ev ρ K_xq59 = IE.ev ρ (.add K_xq60 K_xq61) := by first | rfl | (simp only [IE.ev]; generalize List.getD ρ 8 0 = v8; generalize List.getD ρ 10 0 = v10; generalize List.getD ρ 12 0 = v12; grind)
theorem K_c67_ff (y : LV) (hpre : K_pre y) : K_c67 y = false :=
  BE.same_ok (K_hr y hpre) K_xq39 .ne _ _ _ (by kernel_rfl) (by kernel_rfl) K_c67_ff_p (by kernel_rfl)
theorem K_c68_ff_p (ρ : List Int) : IE.ev ρ (.add (.k (0)) (.mul (.sub (.k (0)) (.mul (.v 12) (.k (1)))) K_xq59)) = IE.ev ρ (.add K_xq62 (.add (.k (0)) (.mul (.sub (.k (0)) (.mul (.v 12) (.k (1)))) K_xq61))) := by first | rfl | (simp only [IE.ev]; generalize List.getD ρ 8 0 = v8; generalize List.getD ρ 10 0 = v10; generalize List.getD ρ 12 0 = v12; grind)
theorem K_c68_ff (y : LV) (hpre : K_pre y) : K_c68 y = false :=
  BE.same_ok (K_hr y hpre) K_xq43 .ne _ _ _ (by kernel_rfl) (by kernel_rfl) K_c68_ff_p (by kernel_rfl)
theorem K_c80_ff_p (ρ : List Int) : IE.ev ρ (.mul K_xq51 (.k (1))) = IE.ev ρ K_xq51 := by first | rfl | (simp only [IE.ev]; generalize List.getD ρ 8 0 = v8; generalize List.getD ρ 12 0 = v12; grind)
theorem K_c80_ff (y : LV) (hpre : K_pre y) : K_c80 y = false :=
  BE.same_ok (K_hr y hpre) K_xq44 .ne _ _ _ (by kernel_rfl) (by kernel_rfl) K_c80_ff_p (by kernel_rfl)
theorem K_c81_ff_p (ρ : List Int) : IE.ev ρ K_xq63 = IE.ev ρ K_xq54 := by first | rfl | (simp only [IE.ev]; generalize List.getD ρ 8 0 = v8; generalize List.getD ρ 12 0 = v12; grind)
theorem K_c81_ff (y : LV) (hpre : K_pre y) : K_c81 y = false :=
  BE.same_ok (K_hr y hpre) (.cm .ne K_xq45 K_xq29) .ne _ _ _ (by kernel_rfl) (by kernel_rfl) K_c81_ff_p (by kernel_rfl)
theorem K_c82_ff_p (ρ : List Int) : IE.ev ρ K_xq64 = IE.ev ρ K_xq57 := by first | rfl | (simp only [IE.ev]; generalize List.getD ρ 8 0 = v8; generalize List.getD ρ 12 0 = v12; grind)
theorem K_c82_ff (y : LV) (hpre : K_pre y) : K_c82 y = false :=
  BE.same_ok (K_hr y hpre) (.cm .ne K_xq46 K_xq33) .ne _ _ _ (by kernel_rfl) (by kernel_rfl) K_c82_ff_p (by kernel_rfl)
theorem K_c83_ff_p (ρ : List Int) : IE.ev ρ K_xq65 = IE.ev ρ K_xq60 := by first | rfl | (simp only [IE.ev]; generalize List.getD ρ 8 0 = v8; generalize List.getD ρ 12 0 = v12; grind)
theorem K_c83_ff (y : LV) (hpre : K_pre y) : K_c83 y = false :=
  BE.same_ok (K_hr y hpre) (.cm .ne K_xq47 K_xq37) .ne _ _ _ (by kernel_rfl) (by kernel_rfl) K_c83_ff_p (by kernel_rfl)
theorem K_c84_ff_p (ρ : List Int) : IE.ev ρ (.add (.k (0)) (.mul (.sub (.k (0)) (.mul (.v 12) (.k (1)))) K_xq65)) = IE.ev ρ K_xq62 := by first | rfl | (simp only [IE.ev]; generalize List.getD ρ 8 0 = v8; generalize List.getD ρ 12 0 = v12; grind)
theorem K_c84_ff (y : LV) (hpre : K_pre y) : K_c84 y = false :=
  BE.same_ok (K_hr y hpre) (.cm .ne K_xq48 K_xq41) .ne _ _ _ (by kernel_rfl) (by kernel_rfl) K_c84_ff_p (by kernel_rfl)
def K_L : List (BE × Bool) := [((.cm .lt (.v 12) (.k (-100))), false), ((.cm .gt (.v 12) (.k (100))), false), ((.cm .lt (.v 13) (.k (-100))), false), ((.cm .gt (.v 13) (.k (100))), false), ((.cm .lt (.v 15) (.k (-100))), false), ((.cm .gt (.v 15) (.k (100))), false), ((.cm .lt (.v 16) (.k (-100))), false), ((.cm .gt (.v 16) (.k (100))), false), ((.cm .lt K_xq9 (.k (-100))), false), ((.cm .gt K_xq9 (.k (100))), false), ((.cm .lt K_xq6 (.k (-100))), false), ((.cm .gt K_xq6 (.k (100))), false), ((.cm .lt K_xq3 (.k (-100))), false), ((.cm .gt K_xq3 (.k (100))), false), ((.cm .lt (.wr (.add (.v 12) (.v 15))) (.k (-100))), false), ((.cm .gt (.wr (.add (.v 12) (.v 15))) (.k (100))), false), ((.cm .lt (.wr (.add (.v 13) (.v 16))) (.k (-100))), false), ((.cm .gt (.wr (.add (.v 13) (.v 16))) (.k (100))), false), ((.cm .lt (.v 8) (.k (-1000))), false), ((.cm .gt (.v 8) (.k (1000))), false), ((.cm .lt K_xq25 (.k (-1073741824))), false), ((.cm .gt K_xq25 (.k (1073741824))), false), ((.cm .lt K_xq29 (.k (-1073741824))), false), ((.cm .gt K_xq29 (.k (1073741824))), false), ((.cm .lt K_xq33 (.k (-1073741824))), false), ((.cm .gt K_xq33 (.k (1073741824))), false), ((.cm .lt K_xq37 (.k (-1073741824))), false), ((.cm .gt K_xq37 (.k (1073741824))), false), ((.cm .lt K_xq41 (.k (-1073741824))), false), ((.cm .gt K_xq41 (.k (1073741824))), false), ((.cm .lt (.v 10) (.k (-1000))), false), ((.cm .gt (.v 10) (.k (1000))), false), ((.cm .lt K_xq26 (.k (-1073741824))), false), ((.cm .gt K_xq26 (.k (1073741824))), false), ((.cm .lt K_xq30 (.k (-1073741824))), false), ((.cm .gt K_xq30 (.k (1073741824))), false), ((.cm .lt K_xq34 (.k (-1073741824))), false), ((.cm .gt K_xq34 (.k (1073741824))), false), ((.cm .lt K_xq38 (.k (-1073741824))), false), ((.cm .gt K_xq38 (.k (1073741824))), false), ((.cm .lt K_xq42 (.k (-1073741824))), false), ((.cm .gt K_xq42 (.k (1073741824))), false), ((.cm .lt (.wr (.add (.v 8) (.v 10))) (.k (-1000))), false), ((.cm .gt (.wr (.add (.v 8) (.v 10))) (.k (1000))), false), ((.cm .lt K_xq24 (.k (-1073741824))), false), ((.cm .gt K_xq24 (.k (1073741824))), false), ((.cm .lt K_xq28 (.k (-1073741824))), false), ((.cm .gt K_xq28 (.k (1073741824))), false), ((.cm .lt K_xq32 (.k (-1073741824))), false), ((.cm .gt K_xq32 (.k (1073741824))), false), ((.cm .lt K_xq36 (.k (-1073741824))), false), ((.cm .gt K_xq36 (.k (1073741824))), false), ((.cm .lt K_xq40 (.k (-1073741824))), false), ((.cm .gt K_xq40 (.k (1073741824))), false), ((.cm .lt K_xq25 (.k (-1000))), false), ((.cm .gt K_xq25 (.k (1000))), false), ((.cm .lt K_xq45 (.k (-1073741824))), false), ((.cm .gt K_xq45 (.k (1073741824))), false), ((.cm .lt K_xq46 (.k (-1073741824))), false), ((.cm .gt K_xq46 (.k (1073741824))), false), ((.cm .lt K_xq47 (.k (-1073741824))), false), ((.cm .gt K_xq47 (.k (1073741824))), false), ((.cm .lt K_xq48 (.k (-1073741824))), false), ((.cm .gt K_xq48 (.k (1073741824))), false)]
def K_E (y : LV) : List Prop := [K_h0, K_h1, K_h2, K_h3, K_h4, K_h5, K_h7, K_h11, K_h17, K_h18, K_h19, K_h24, K_h32, K_h34, K_h43, K_h50, K_h53, (K_c63 y = false), (K_c64 y = false), (K_c65 y = false), (K_c66 y = false), (K_c67 y = false), K_h85, (K_c68 y = false), K_h90, (K_c80 y = false), (K_c81 y = false), (K_c82 y = false), (K_c83 y = false), (K_c84 y = false), K_h106, K_h108, K_h111]
def K_T (y : LV) : Nat → Prop := tabP (LS_R y) K_L 64 (K_E y)
theorem K_tT (y : LV) (hpre : K_pre y) : ∀ i, K_T y i := fun i => tabP_ok (E := K_E y) (K_hr y hpre) (by kernel_rfl) (aC K_g0 (aC K_g1 (aC K_g2 (aC K_g3 (aC K_g4 (aC K_g5 (aC K_g7 (aC K_g11 (aC K_g17 (aC K_g18 (aC K_g19 (aC K_g24 (aC K_g32 (aC K_g34 (aC K_g43 (aC K_g50 (aC K_g53 (aC (K_c63_ff y hpre) (aC (K_c64_ff y hpre) (aC (K_c65_ff y hpre) (aC (K_c66_ff y hpre) (aC (K_c67_ff y hpre) (aC K_g85 (aC (K_c68_ff y hpre) (aC K_g90 (aC (K_c80_ff y hpre) (aC (K_c81_ff y hpre) (aC (K_c82_ff y hpre) (aC (K_c83_ff y hpre) (aC (K_c84_ff y hpre) (aC K_g106 (aC K_g108 (aC K_g111 (aN)))))))))))))))))))))))))))))))))) i
def K_w0 (y : LV) : Value := .bool Bool.true
def K_r0 (y : LV) : Prop := (cjD (K_T y) 256 ((cjD (K_T y) 256 (((cjD (K_T y) 256 (((cjD (K_T y) 256 (((cjD (K_T y) 256 ((cjD (K_T y) 256 ((cjD (K_T y) 256 ((cjD (K_T y) 256 ((cjD (K_T y) 256 (((cjD (K_T y) 256 ((cjD (K_T y) 256 ((cjD (K_T y) 256 ((cjD (K_T y) 256 ((cjD (K_T y) 256 (((cjD (K_T y) 256 ((cjD (K_T y) 256 ((cjD (K_T y) 256 (((cjD (K_T y) 256 (((cjD (K_T y) 256 ((cjD (K_T y) 256 ((cjD (K_T y) 256 ((cjD (K_T y) 256 ((cjD (K_T y) 256 True 19 0x45454544454545454542424440424340424140) ∧ (K_c0 y = true)) 9 0x464646434646464646) ∧ (K_c1 y = false)) 19 0x45454544454545454542424440424340424140) ∧ (K_c2 y = true)) 9 0x464646434646464646) ∧ (K_c3 y = false)) 30 0x434242420302020202434042010000000041404742424242424242434241) ∧ (K_c1 y = false)) ∧ (K_c8 y = false)) 36 0x4342424207060606064340420504040404414047424a4241494243484242424340424140) ∧ (K_c3 y = false)) ∧ (K_c8 y = false)) 36 0x4342424203020202024340420100000000414047424a4241494243484242424340424140) ∧ (K_c1 y = false)) 21 0x434242420706060606434042050404040441404742) ∧ (K_c3 y = false)) 97 0x444242420d0c0c0c0c4440420b0a0a0a0a434042090808080841404b42404242424242424242424242420d0c0c0c0c4440420b0a0a0a0a434042090808080841404b42424444434043434140434042434343404141414041404242424340424140) ∧ (K_c19 y = false)) ∧ (K_c8 y = false)) 24 0x4242424242424a42414942434842444c4242424340424140) ∧ (K_c20 y = false)) 21 0x434242420302020202434042010000000041404742) ∧ (K_c1 y = false)) 21 0x434242420706060606434042050404040441404742) ∧ (K_c3 y = false)) 27 0x46464643464646464243434340414141404d424242424340424140) ∧ (K_c21 y = false)) 41 0x4342424211101010104340420f0e0e0e0e414047424042424211101010104340420f0e0e0e0e414042) ∧ (K_c21 y = false)) ∧ (K_c8 y = false)) 21 0x4242424242424a4241494243484242424340424140) ∧ (K_c26 y = false)) 30 0x434242420302020202434042010000000041404742424141404341434142) ∧ (K_c1 y = false)) 120 0x43424242030202020243404201000000004140474242421d1c1c1c1c4250414040421b1a1a1a1a424f4140404219181818184244414040421716161616424341404042151414141442414140404241414042414243414042414243414042424244404243404241404e424242424242131212121241404242) ∧ (K_c1 y = false)) 120 0x434242420302020202434042010000000041404742424229282828284250414040422726262626424f4140404225242424244244414040422322222222424341404042212020202042414140404241414042414243414042414243414042424244404243404241404e4242424242421f1e1e1e1e41404242) ∧ (K_c1 y = false)) 150 0x434257565656405550505040544f4f4f4053444444405243434340514141414042424242424242424242424242424242424242424235343434344250414040423332323232424f4140404231303030304244414040422f2e2e2e2e4243414040422d2c2c2c2c42414140404241414042414243414042414243414042424244404243404241404e4242424242422b2a2a2a2a41404242) ∧ (K_c69 y = false)) ∧ (K_c69 y = false)) 1 0x43) ∧ (K_c69 y = false)) ∧ (K_c69 y = false)) 5 0x3736363636) ∧ (K_c69 y = false)) ∧ (K_c69 y = false)) 35 0x4342424203020202024340420100000000414047424242423736363636424243424242) ∧ (K_c1 y = false)) 117 0x404040425d5050405c4f4f405b4444405a43434059414140424040404042423f3e3e3e3e424f414040423d3c3c3c3c4244414040423b3a3a3a3a4243414040423938383838424141404042414140424142434140424142434140424242444042434042414058424242424242373636363641404242)
theorem K_o0 (y : LV) : (obOf (K_e0 y.a0 y.a1 y.a2 y.b0 y.b1 y.b2 y.z0 y.z1), resOf (K_e0 y.a0 y.a1 y.a2 y.b0 y.b1 y.b2 y.z0 y.z1), cleanOf Tryz.prog.globals.size (K_e0 y.a0 y.a1 y.a2 y.b0 y.b1 y.b2 y.z0 y.z1)) = (K_r0 y, K_w0 y, true) := by kernel_rfl
theorem K_q0 (y : LV) : K_e0 y.a0 y.a1 y.a2 y.b0 y.b1 y.b2 y.z0 y.z1 = evFS Tryz.prog x_K 1000 10 #[.agg #[.int .i8 y.a0, .int .i8 y.a1, .int .i8 y.a2], .agg #[.int .i8 y.b0, .int .i8 y.b1, .int .i8 y.b2], .agg #[.int .i8 y.z0, .int .i8 y.z1]] aw3S0 ⟨K_k0, True⟩ := by
  delta K_e0
  exact Eq.refl _
theorem K_p0 (y : LV) (h : K_r0 y) (w : World) (hh : Holds Tryz.prog aw3S0 w) : Calls Tryz.prog 10 #[.agg #[.int .i8 y.a0, .int .i8 y.a1, .int .i8 y.a2], .agg #[.int .i8 y.b0, .int .i8 y.b1, .int .i8 y.b2], .agg #[.int .i8 y.z0, .int .i8 y.z1]] w fun en w' => en = .returned (K_w0 y) ∧ Below w.heap.size w w' := by
  have h3 := K_o0 y
  have hv : resOf (K_e0 y.a0 y.a1 y.a2 y.b0 y.b1 y.b2 y.z0 y.z1) = K_w0 y := congrArg (fun z => z.2.1) h3
  have hc : cleanOf Tryz.prog.globals.size (K_e0 y.a0 y.a1 y.a2 y.b0 y.b1 y.b2 y.z0 y.z1) = true := congrArg (fun z => z.2.2) h3
  have he := K_q0 y
  have ho : obOf (K_e0 y.a0 y.a1 y.a2 y.b0 y.b1 y.b2 y.z0 y.z1) = K_r0 y := congrArg (fun z => z.1) h3
  clear h3
  generalize K_e0 y.a0 y.a1 y.a2 y.b0 y.b1 y.b2 y.z0 y.z1 = r at *
  exact calls_way he gfol K_X hv rfl (K_args y) hc ho h hh
def K_w1 (y : LV) : Value := .bool Bool.true
def K_r1 (y : LV) : Prop := (cjD (K_T y) 256 (((((((cjD (K_T y) 256 ((cjD (K_T y) 256 ((cjD (K_T y) 256 ((cjD (K_T y) 256 ((cjD (K_T y) 256 (((cjD (K_T y) 256 ((cjD (K_T y) 256 ((cjD (K_T y) 256 ((cjD (K_T y) 256 ((cjD (K_T y) 256 (((cjD (K_T y) 256 ((cjD (K_T y) 256 ((cjD (K_T y) 256 (((cjD (K_T y) 256 (((cjD (K_T y) 256 ((cjD (K_T y) 256 ((cjD (K_T y) 256 ((cjD (K_T y) 256 ((cjD (K_T y) 256 True 19 0x45454544454545454542424440424340424140) ∧ (K_c0 y = true)) 9 0x464646434646464646) ∧ (K_c1 y = false)) 19 0x45454544454545454542424440424340424140) ∧ (K_c2 y = true)) 9 0x464646434646464646) ∧ (K_c3 y = false)) 30 0x434242420302020202434042010000000041404742424242424242434241) ∧ (K_c1 y = false)) ∧ (K_c8 y = false)) 36 0x4342424207060606064340420504040404414047424a4241494243484242424340424140) ∧ (K_c3 y = false)) ∧ (K_c8 y = false)) 36 0x4342424203020202024340420100000000414047424a4241494243484242424340424140) ∧ (K_c1 y = false)) 21 0x434242420706060606434042050404040441404742) ∧ (K_c3 y = false)) 97 0x444242420d0c0c0c0c4440420b0a0a0a0a434042090808080841404b42404242424242424242424242420d0c0c0c0c4440420b0a0a0a0a434042090808080841404b42424444434043434140434042434343404141414041404242424340424140) ∧ (K_c19 y = false)) ∧ (K_c8 y = false)) 24 0x4242424242424a42414942434842444c4242424340424140) ∧ (K_c20 y = false)) 21 0x434242420302020202434042010000000041404742) ∧ (K_c1 y = false)) 21 0x434242420706060606434042050404040441404742) ∧ (K_c3 y = false)) 27 0x46464643464646464243434340414141404d424242424340424140) ∧ (K_c21 y = false)) 41 0x4342424211101010104340420f0e0e0e0e414047424042424211101010104340420f0e0e0e0e414042) ∧ (K_c21 y = false)) ∧ (K_c8 y = false)) 21 0x4242424242424a4241494243484242424340424140) ∧ (K_c26 y = false)) 30 0x434242420302020202434042010000000041404742424141404341434142) ∧ (K_c1 y = false)) 120 0x43424242030202020243404201000000004140474242421d1c1c1c1c4250414040421b1a1a1a1a424f4140404219181818184244414040421716161616424341404042151414141442414140404241414042414243414042414243414042424244404243404241404e424242424242131212121241404242) ∧ (K_c1 y = false)) 120 0x434242420302020202434042010000000041404742424229282828284250414040422726262626424f4140404225242424244244414040422322222222424341404042212020202042414140404241414042414243414042414243414042424244404243404241404e4242424242421f1e1e1e1e41404242) ∧ (K_c1 y = false)) 150 0x434257565656405550505040544f4f4f4053444444405243434340514141414042424242424242424242424242424242424242424235343434344250414040423332323232424f4140404231303030304244414040422f2e2e2e2e4243414040422d2c2c2c2c42414140404241414042414243414042414243414042424244404243404241404e4242424242422b2a2a2a2a41404242) ∧ (K_c69 y = true)) ∧ (K_c69 y = true)) ∧ (K_c69 y = true)) ∧ (K_c69 y = true)) ∧ (K_c69 y = true)) ∧ (K_c69 y = true)) 8 0x4040404040404040)
theorem K_o1 (y : LV) : (obOf (K_e1 y.a0 y.a1 y.a2 y.b0 y.b1 y.b2 y.z0 y.z1), resOf (K_e1 y.a0 y.a1 y.a2 y.b0 y.b1 y.b2 y.z0 y.z1), cleanOf Tryz.prog.globals.size (K_e1 y.a0 y.a1 y.a2 y.b0 y.b1 y.b2 y.z0 y.z1)) = (K_r1 y, K_w1 y, true) := by kernel_rfl
theorem K_q1 (y : LV) : K_e1 y.a0 y.a1 y.a2 y.b0 y.b1 y.b2 y.z0 y.z1 = evFS Tryz.prog x_K 1000 10 #[.agg #[.int .i8 y.a0, .int .i8 y.a1, .int .i8 y.a2], .agg #[.int .i8 y.b0, .int .i8 y.b1, .int .i8 y.b2], .agg #[.int .i8 y.z0, .int .i8 y.z1]] aw3S0 ⟨K_k1, True⟩ := by
  delta K_e1
  exact Eq.refl _
theorem K_p1 (y : LV) (h : K_r1 y) (w : World) (hh : Holds Tryz.prog aw3S0 w) : Calls Tryz.prog 10 #[.agg #[.int .i8 y.a0, .int .i8 y.a1, .int .i8 y.a2], .agg #[.int .i8 y.b0, .int .i8 y.b1, .int .i8 y.b2], .agg #[.int .i8 y.z0, .int .i8 y.z1]] w fun en w' => en = .returned (K_w1 y) ∧ Below w.heap.size w w' := by
  have h3 := K_o1 y
  have hv : resOf (K_e1 y.a0 y.a1 y.a2 y.b0 y.b1 y.b2 y.z0 y.z1) = K_w1 y := congrArg (fun z => z.2.1) h3
  have hc : cleanOf Tryz.prog.globals.size (K_e1 y.a0 y.a1 y.a2 y.b0 y.b1 y.b2 y.z0 y.z1) = true := congrArg (fun z => z.2.2) h3
  have he := K_q1 y
  have ho : obOf (K_e1 y.a0 y.a1 y.a2 y.b0 y.b1 y.b2 y.z0 y.z1) = K_r1 y := congrArg (fun z => z.1) h3
  clear h3
  generalize K_e1 y.a0 y.a1 y.a2 y.b0 y.b1 y.b2 y.z0 y.z1 = r at *
  exact calls_way he gfol K_X hv rfl (K_args y) hc ho h hh
def K_w2 (y : LV) : Value := .bool Bool.true
def K_r2 (y : LV) : Prop := (cjD (K_T y) 256 (((((((cjD (K_T y) 256 ((cjD (K_T y) 256 ((cjD (K_T y) 256 ((cjD (K_T y) 256 ((cjD (K_T y) 256 (((cjD (K_T y) 256 ((cjD (K_T y) 256 ((cjD (K_T y) 256 ((cjD (K_T y) 256 ((cjD (K_T y) 256 ((cjD (K_T y) 256 (((cjD (K_T y) 256 ((cjD (K_T y) 256 ((cjD (K_T y) 256 (((cjD (K_T y) 256 (((cjD (K_T y) 256 ((cjD (K_T y) 256 ((cjD (K_T y) 256 ((cjD (K_T y) 256 ((cjD (K_T y) 256 True 19 0x45454544454545454542424440424340424140) ∧ (K_c0 y = true)) 9 0x464646434646464646) ∧ (K_c1 y = false)) 19 0x45454544454545454542424440424340424140) ∧ (K_c2 y = true)) 9 0x464646434646464646) ∧ (K_c3 y = false)) 30 0x434242420302020202434042010000000041404742424242424242434241) ∧ (K_c1 y = false)) ∧ (K_c8 y = false)) 36 0x4342424207060606064340420504040404414047424a4241494243484242424340424140) ∧ (K_c3 y = false)) ∧ (K_c8 y = false)) 36 0x4342424203020202024340420100000000414047424a4241494243484242424340424140) ∧ (K_c1 y = false)) 21 0x434242420706060606434042050404040441404742) ∧ (K_c3 y = false)) 97 0x444242420d0c0c0c0c4440420b0a0a0a0a434042090808080841404b42404242424242424242424242420d0c0c0c0c4440420b0a0a0a0a434042090808080841404b42424444434043434140434042434343404141414041404242424340424140) ∧ (K_c19 y = false)) ∧ (K_c8 y = false)) 24 0x4242424242424a42414942434842444c4242424340424140) ∧ (K_c20 y = false)) 21 0x434242420302020202434042010000000041404742) ∧ (K_c1 y = false)) 21 0x434242420706060606434042050404040441404742) ∧ (K_c3 y = false)) 27 0x46464643464646464243434340414141404d424242424340424140) ∧ (K_c21 y = true)) 8 0x5e5e5e415e5e5e5e) ∧ (K_c85 y = false)) 25 0x414242420f0e0e0e0e41405f42404242420f0e0e0e0e414042) ∧ (K_c85 y = false)) ∧ (K_c8 y = false)) 18 0x4242424242424a4241494242424340424140) ∧ (K_c86 y = false)) 30 0x434242420302020202434042010000000041404742424141404341434142) ∧ (K_c1 y = false)) 120 0x43424242030202020243404201000000004140474242421d1c1c1c1c4250414040421b1a1a1a1a424f4140404219181818184244414040421716161616424341404042151414141442414140404241414042414243414042414243414042424244404243404241404e424242424242131212121241404242) ∧ (K_c1 y = false)) 120 0x434242420302020202434042010000000041404742424229282828284250414040422726262626424f4140404225242424244244414040422322222222424341404042212020202042414140404241414042414243414042414243414042424244404243404241404e4242424242421f1e1e1e1e41404242) ∧ (K_c1 y = false)) 150 0x434257565656405550505040544f4f4f4053444444405243434340514141414042424242424242424242424242424242424242424235343434344250414040423332323232424f4140404231303030304244414040422f2e2e2e2e4243414040422d2c2c2c2c42414140404241414042414243414042414243414042424244404243404241404e4242424242422b2a2a2a2a41404242) ∧ (K_c69 y = true)) ∧ (K_c69 y = true)) ∧ (K_c69 y = true)) ∧ (K_c69 y = true)) ∧ (K_c69 y = true)) ∧ (K_c69 y = true)) 8 0x4040404040404040)
theorem K_o2 (y : LV) : (obOf (K_e2 y.a0 y.a1 y.a2 y.b0 y.b1 y.b2 y.z0 y.z1), resOf (K_e2 y.a0 y.a1 y.a2 y.b0 y.b1 y.b2 y.z0 y.z1), cleanOf Tryz.prog.globals.size (K_e2 y.a0 y.a1 y.a2 y.b0 y.b1 y.b2 y.z0 y.z1)) = (K_r2 y, K_w2 y, true) := by kernel_rfl
theorem K_q2 (y : LV) : K_e2 y.a0 y.a1 y.a2 y.b0 y.b1 y.b2 y.z0 y.z1 = evFS Tryz.prog x_K 1000 10 #[.agg #[.int .i8 y.a0, .int .i8 y.a1, .int .i8 y.a2], .agg #[.int .i8 y.b0, .int .i8 y.b1, .int .i8 y.b2], .agg #[.int .i8 y.z0, .int .i8 y.z1]] aw3S0 ⟨K_k2, True⟩ := by
  delta K_e2
  exact Eq.refl _
theorem K_p2 (y : LV) (h : K_r2 y) (w : World) (hh : Holds Tryz.prog aw3S0 w) : Calls Tryz.prog 10 #[.agg #[.int .i8 y.a0, .int .i8 y.a1, .int .i8 y.a2], .agg #[.int .i8 y.b0, .int .i8 y.b1, .int .i8 y.b2], .agg #[.int .i8 y.z0, .int .i8 y.z1]] w fun en w' => en = .returned (K_w2 y) ∧ Below w.heap.size w w' := by
  have h3 := K_o2 y
  have hv : resOf (K_e2 y.a0 y.a1 y.a2 y.b0 y.b1 y.b2 y.z0 y.z1) = K_w2 y := congrArg (fun z => z.2.1) h3
  have hc : cleanOf Tryz.prog.globals.size (K_e2 y.a0 y.a1 y.a2 y.b0 y.b1 y.b2 y.z0 y.z1) = true := congrArg (fun z => z.2.2) h3
  have he := K_q2 y
  have ho : obOf (K_e2 y.a0 y.a1 y.a2 y.b0 y.b1 y.b2 y.z0 y.z1) = K_r2 y := congrArg (fun z => z.1) h3
  clear h3
  generalize K_e2 y.a0 y.a1 y.a2 y.b0 y.b1 y.b2 y.z0 y.z1 = r at *
  exact calls_way he gfol K_X hv rfl (K_args y) hc ho h hh
def K_w3 (y : LV) : Value := .bool Bool.true
def K_r3 (y : LV) : Prop := (cjD (K_T y) 256 (((((((cjD (K_T y) 256 ((cjD (K_T y) 256 ((cjD (K_T y) 256 ((cjD (K_T y) 256 ((cjD (K_T y) 256 ((cjD (K_T y) 256 ((cjD (K_T y) 256 ((cjD (K_T y) 256 ((cjD (K_T y) 256 ((cjD (K_T y) 256 (((cjD (K_T y) 256 ((cjD (K_T y) 256 ((cjD (K_T y) 256 (((cjD (K_T y) 256 (((cjD (K_T y) 256 ((cjD (K_T y) 256 ((cjD (K_T y) 256 ((cjD (K_T y) 256 ((cjD (K_T y) 256 True 19 0x45454544454545454542424440424340424140) ∧ (K_c0 y = true)) 9 0x464646434646464646) ∧ (K_c1 y = false)) 19 0x45454544454545454542424440424340424140) ∧ (K_c2 y = true)) 9 0x464646434646464646) ∧ (K_c3 y = false)) 30 0x434242420302020202434042010000000041404742424242424242434241) ∧ (K_c1 y = false)) ∧ (K_c8 y = false)) 36 0x4342424207060606064340420504040404414047424a4241494243484242424340424140) ∧ (K_c3 y = false)) ∧ (K_c8 y = false)) 36 0x4342424203020202024340420100000000414047424a4241494243484242424340424140) ∧ (K_c1 y = false)) 21 0x434242420706060606434042050404040441404742) ∧ (K_c3 y = false)) 97 0x444242420d0c0c0c0c4440420b0a0a0a0a434042090808080841404b42404242424242424242424242420d0c0c0c0c4440420b0a0a0a0a434042090808080841404b42424444434043434140434042434343404141414041404242424340424140) ∧ (K_c19 y = false)) ∧ (K_c8 y = false)) 24 0x4242424242424a42414942434842444c4242424340424140) ∧ (K_c20 y = false)) 21 0x434242420302020202434042010000000041404742) ∧ (K_c1 y = false)) 21 0x434242420706060606434042050404040441404742) ∧ (K_c3 y = false)) 27 0x46464643464646464243434340414141404d424242424340424140) ∧ (K_c21 y = true)) 8 0x5e5e5e415e5e5e5e) ∧ (K_c85 y = true)) 16 0x42424242424242404260606060606060) ∧ (K_c87 y = false)) 30 0x434242420302020202434042010000000041404742424141404341434142) ∧ (K_c1 y = false)) 120 0x43424242030202020243404201000000004140474242421d1c1c1c1c4250414040421b1a1a1a1a424f4140404219181818184244414040421716161616424341404042151414141442414140404241414042414243414042414243414042424244404243404241404e424242424242131212121241404242) ∧ (K_c1 y = false)) 120 0x434242420302020202434042010000000041404742424229282828284250414040422726262626424f4140404225242424244244414040422322222222424341404042212020202042414140404241414042414243414042414243414042424244404243404241404e4242424242421f1e1e1e1e41404242) ∧ (K_c1 y = false)) 150 0x434257565656405550505040544f4f4f4053444444405243434340514141414042424242424242424242424242424242424242424235343434344250414040423332323232424f4140404231303030304244414040422f2e2e2e2e4243414040422d2c2c2c2c42414140404241414042414243414042414243414042424244404243404241404e4242424242422b2a2a2a2a41404242) ∧ (K_c69 y = true)) ∧ (K_c69 y = true)) ∧ (K_c69 y = true)) ∧ (K_c69 y = true)) ∧ (K_c69 y = true)) ∧ (K_c69 y = true)) 8 0x4040404040404040)
theorem K_o3 (y : LV) : (obOf (K_e3 y.a0 y.a1 y.a2 y.b0 y.b1 y.b2 y.z0 y.z1), resOf (K_e3 y.a0 y.a1 y.a2 y.b0 y.b1 y.b2 y.z0 y.z1), cleanOf Tryz.prog.globals.size (K_e3 y.a0 y.a1 y.a2 y.b0 y.b1 y.b2 y.z0 y.z1)) = (K_r3 y, K_w3 y, true) := by kernel_rfl
theorem K_q3 (y : LV) : K_e3 y.a0 y.a1 y.a2 y.b0 y.b1 y.b2 y.z0 y.z1 = evFS Tryz.prog x_K 1000 10 #[.agg #[.int .i8 y.a0, .int .i8 y.a1, .int .i8 y.a2], .agg #[.int .i8 y.b0, .int .i8 y.b1, .int .i8 y.b2], .agg #[.int .i8 y.z0, .int .i8 y.z1]] aw3S0 ⟨K_k3, True⟩ := by
  delta K_e3
  exact Eq.refl _
theorem K_p3 (y : LV) (h : K_r3 y) (w : World) (hh : Holds Tryz.prog aw3S0 w) : Calls Tryz.prog 10 #[.agg #[.int .i8 y.a0, .int .i8 y.a1, .int .i8 y.a2], .agg #[.int .i8 y.b0, .int .i8 y.b1, .int .i8 y.b2], .agg #[.int .i8 y.z0, .int .i8 y.z1]] w fun en w' => en = .returned (K_w3 y) ∧ Below w.heap.size w w' := by
  have h3 := K_o3 y
  have hv : resOf (K_e3 y.a0 y.a1 y.a2 y.b0 y.b1 y.b2 y.z0 y.z1) = K_w3 y := congrArg (fun z => z.2.1) h3
  have hc : cleanOf Tryz.prog.globals.size (K_e3 y.a0 y.a1 y.a2 y.b0 y.b1 y.b2 y.z0 y.z1) = true := congrArg (fun z => z.2.2) h3
  have he := K_q3 y
  have ho : obOf (K_e3 y.a0 y.a1 y.a2 y.b0 y.b1 y.b2 y.z0 y.z1) = K_r3 y := congrArg (fun z => z.1) h3
  clear h3
  generalize K_e3 y.a0 y.a1 y.a2 y.b0 y.b1 y.b2 y.z0 y.z1 = r at *
  exact calls_way he gfol K_X hv rfl (K_args y) hc ho h hh
def K_w4 (y : LV) : Value := .bool Bool.true
def K_r4 (y : LV) : Prop := (cjD (K_T y) 256 ((cjD (K_T y) 256 (((cjD (K_T y) 256 (((cjD (K_T y) 256 (((cjD (K_T y) 256 ((cjD (K_T y) 256 ((cjD (K_T y) 256 ((cjD (K_T y) 256 ((cjD (K_T y) 256 (((cjD (K_T y) 256 ((cjD (K_T y) 256 ((cjD (K_T y) 256 ((cjD (K_T y) 256 ((cjD (K_T y) 256 ((cjD (K_T y) 256 (((cjD (K_T y) 256 ((cjD (K_T y) 256 ((cjD (K_T y) 256 (((cjD (K_T y) 256 (((cjD (K_T y) 256 ((cjD (K_T y) 256 ((cjD (K_T y) 256 ((cjD (K_T y) 256 ((cjD (K_T y) 256 True 19 0x45454544454545454542424440424340424140) ∧ (K_c0 y = true)) 9 0x464646434646464646) ∧ (K_c1 y = false)) 19 0x45454544454545454542424440424340424140) ∧ (K_c2 y = true)) 9 0x464646434646464646) ∧ (K_c3 y = false)) 30 0x434242420302020202434042010000000041404742424242424242434241) ∧ (K_c1 y = false)) ∧ (K_c8 y = false)) 36 0x4342424207060606064340420504040404414047424a4241494243484242424340424140) ∧ (K_c3 y = false)) ∧ (K_c8 y = false)) 36 0x4342424203020202024340420100000000414047424a4241494243484242424340424140) ∧ (K_c1 y = false)) 21 0x434242420706060606434042050404040441404742) ∧ (K_c3 y = false)) 97 0x444242420d0c0c0c0c4440420b0a0a0a0a434042090808080841404b42404242424242424242424242420d0c0c0c0c4440420b0a0a0a0a434042090808080841404b42424444434043434140434042434343404141414041404242424340424140) ∧ (K_c19 y = false)) ∧ (K_c8 y = false)) 24 0x4242424242424a42414942434842444c4242424340424140) ∧ (K_c20 y = false)) 21 0x434242420302020202434042010000000041404742) ∧ (K_c1 y = false)) 21 0x434242420706060606434042050404040441404742) ∧ (K_c3 y = false)) 27 0x46464643464646464243434340414141404d424242424340424140) ∧ (K_c21 y = true)) 8 0x5e5e5e415e5e5e5e) ∧ (K_c85 y = false)) 25 0x414242420f0e0e0e0e41405f42404242420f0e0e0e0e414042) ∧ (K_c85 y = false)) ∧ (K_c8 y = false)) 18 0x4242424242424a4241494242424340424140) ∧ (K_c86 y = false)) 30 0x434242420302020202434042010000000041404742424141404341434142) ∧ (K_c1 y = false)) 120 0x43424242030202020243404201000000004140474242421d1c1c1c1c4250414040421b1a1a1a1a424f4140404219181818184244414040421716161616424341404042151414141442414140404241414042414243414042414243414042424244404243404241404e424242424242131212121241404242) ∧ (K_c1 y = false)) 120 0x434242420302020202434042010000000041404742424229282828284250414040422726262626424f4140404225242424244244414040422322222222424341404042212020202042414140404241414042414243414042414243414042424244404243404241404e4242424242421f1e1e1e1e41404242) ∧ (K_c1 y = false)) 150 0x434257565656405550505040544f4f4f4053444444405243434340514141414042424242424242424242424242424242424242424235343434344250414040423332323232424f4140404231303030304244414040422f2e2e2e2e4243414040422d2c2c2c2c42414140404241414042414243414042414243414042424244404243404241404e4242424242422b2a2a2a2a41404242) ∧ (K_c69 y = false)) ∧ (K_c69 y = false)) 1 0x43) ∧ (K_c69 y = false)) ∧ (K_c69 y = false)) 5 0x3736363636) ∧ (K_c69 y = false)) ∧ (K_c69 y = false)) 35 0x4342424203020202024340420100000000414047424242423736363636424243424242) ∧ (K_c1 y = false)) 117 0x404040425d5050405c4f4f405b4444405a43434059414140424040404042423f3e3e3e3e424f414040423d3c3c3c3c4244414040423b3a3a3a3a4243414040423938383838424141404042414140424142434140424142434140424242444042434042414058424242424242373636363641404242)
theorem K_o4 (y : LV) : (obOf (K_e4 y.a0 y.a1 y.a2 y.b0 y.b1 y.b2 y.z0 y.z1), resOf (K_e4 y.a0 y.a1 y.a2 y.b0 y.b1 y.b2 y.z0 y.z1), cleanOf Tryz.prog.globals.size (K_e4 y.a0 y.a1 y.a2 y.b0 y.b1 y.b2 y.z0 y.z1)) = (K_r4 y, K_w4 y, true) := by kernel_rfl
theorem K_q4 (y : LV) : K_e4 y.a0 y.a1 y.a2 y.b0 y.b1 y.b2 y.z0 y.z1 = evFS Tryz.prog x_K 1000 10 #[.agg #[.int .i8 y.a0, .int .i8 y.a1, .int .i8 y.a2], .agg #[.int .i8 y.b0, .int .i8 y.b1, .int .i8 y.b2], .agg #[.int .i8 y.z0, .int .i8 y.z1]] aw3S0 ⟨K_k4, True⟩ := by
  delta K_e4
  exact Eq.refl _
theorem K_p4 (y : LV) (h : K_r4 y) (w : World) (hh : Holds Tryz.prog aw3S0 w) : Calls Tryz.prog 10 #[.agg #[.int .i8 y.a0, .int .i8 y.a1, .int .i8 y.a2], .agg #[.int .i8 y.b0, .int .i8 y.b1, .int .i8 y.b2], .agg #[.int .i8 y.z0, .int .i8 y.z1]] w fun en w' => en = .returned (K_w4 y) ∧ Below w.heap.size w w' := by
  have h3 := K_o4 y
  have hv : resOf (K_e4 y.a0 y.a1 y.a2 y.b0 y.b1 y.b2 y.z0 y.z1) = K_w4 y := congrArg (fun z => z.2.1) h3
  have hc : cleanOf Tryz.prog.globals.size (K_e4 y.a0 y.a1 y.a2 y.b0 y.b1 y.b2 y.z0 y.z1) = true := congrArg (fun z => z.2.2) h3
  have he := K_q4 y
  have ho : obOf (K_e4 y.a0 y.a1 y.a2 y.b0 y.b1 y.b2 y.z0 y.z1) = K_r4 y := congrArg (fun z => z.1) h3
  clear h3
  generalize K_e4 y.a0 y.a1 y.a2 y.b0 y.b1 y.b2 y.z0 y.z1 = r at *
  exact calls_way he gfol K_X hv rfl (K_args y) hc ho h hh
def K_w5 (y : LV) : Value := .bool Bool.true
def K_r5 (y : LV) : Prop := (cjD (K_T y) 256 ((cjD (K_T y) 256 (((cjD (K_T y) 256 (((cjD (K_T y) 256 (((cjD (K_T y) 256 ((cjD (K_T y) 256 ((cjD (K_T y) 256 ((cjD (K_T y) 256 ((cjD (K_T y) 256 ((cjD (K_T y) 256 ((cjD (K_T y) 256 ((cjD (K_T y) 256 ((cjD (K_T y) 256 ((cjD (K_T y) 256 (((cjD (K_T y) 256 ((cjD (K_T y) 256 ((cjD (K_T y) 256 (((cjD (K_T y) 256 (((cjD (K_T y) 256 ((cjD (K_T y) 256 ((cjD (K_T y) 256 ((cjD (K_T y) 256 ((cjD (K_T y) 256 True 19 0x45454544454545454542424440424340424140) ∧ (K_c0 y = true)) 9 0x464646434646464646) ∧ (K_c1 y = false)) 19 0x45454544454545454542424440424340424140) ∧ (K_c2 y = true)) 9 0x464646434646464646) ∧ (K_c3 y = false)) 30 0x434242420302020202434042010000000041404742424242424242434241) ∧ (K_c1 y = false)) ∧ (K_c8 y = false)) 36 0x4342424207060606064340420504040404414047424a4241494243484242424340424140) ∧ (K_c3 y = false)) ∧ (K_c8 y = false)) 36 0x4342424203020202024340420100000000414047424a4241494243484242424340424140) ∧ (K_c1 y = false)) 21 0x434242420706060606434042050404040441404742) ∧ (K_c3 y = false)) 97 0x444242420d0c0c0c0c4440420b0a0a0a0a434042090808080841404b42404242424242424242424242420d0c0c0c0c4440420b0a0a0a0a434042090808080841404b42424444434043434140434042434343404141414041404242424340424140) ∧ (K_c19 y = false)) ∧ (K_c8 y = false)) 24 0x4242424242424a42414942434842444c4242424340424140) ∧ (K_c20 y = false)) 21 0x434242420302020202434042010000000041404742) ∧ (K_c1 y = false)) 21 0x434242420706060606434042050404040441404742) ∧ (K_c3 y = false)) 27 0x46464643464646464243434340414141404d424242424340424140) ∧ (K_c21 y = true)) 8 0x5e5e5e415e5e5e5e) ∧ (K_c85 y = true)) 16 0x42424242424242404260606060606060) ∧ (K_c87 y = false)) 30 0x434242420302020202434042010000000041404742424141404341434142) ∧ (K_c1 y = false)) 120 0x43424242030202020243404201000000004140474242421d1c1c1c1c4250414040421b1a1a1a1a424f4140404219181818184244414040421716161616424341404042151414141442414140404241414042414243414042414243414042424244404243404241404e424242424242131212121241404242) ∧ (K_c1 y = false)) 120 0x434242420302020202434042010000000041404742424229282828284250414040422726262626424f4140404225242424244244414040422322222222424341404042212020202042414140404241414042414243414042414243414042424244404243404241404e4242424242421f1e1e1e1e41404242) ∧ (K_c1 y = false)) 150 0x434257565656405550505040544f4f4f4053444444405243434340514141414042424242424242424242424242424242424242424235343434344250414040423332323232424f4140404231303030304244414040422f2e2e2e2e4243414040422d2c2c2c2c42414140404241414042414243414042414243414042424244404243404241404e4242424242422b2a2a2a2a41404242) ∧ (K_c69 y = false)) ∧ (K_c69 y = false)) 1 0x43) ∧ (K_c69 y = false)) ∧ (K_c69 y = false)) 5 0x3736363636) ∧ (K_c69 y = false)) ∧ (K_c69 y = false)) 35 0x4342424203020202024340420100000000414047424242423736363636424243424242) ∧ (K_c1 y = false)) 117 0x404040425d5050405c4f4f405b4444405a43434059414140424040404042423f3e3e3e3e424f414040423d3c3c3c3c4244414040423b3a3a3a3a4243414040423938383838424141404042414140424142434140424142434140424242444042434042414058424242424242373636363641404242)
theorem K_o5 (y : LV) : (obOf (K_e5 y.a0 y.a1 y.a2 y.b0 y.b1 y.b2 y.z0 y.z1), resOf (K_e5 y.a0 y.a1 y.a2 y.b0 y.b1 y.b2 y.z0 y.z1), cleanOf Tryz.prog.globals.size (K_e5 y.a0 y.a1 y.a2 y.b0 y.b1 y.b2 y.z0 y.z1)) = (K_r5 y, K_w5 y, true) := by kernel_rfl
theorem K_q5 (y : LV) : K_e5 y.a0 y.a1 y.a2 y.b0 y.b1 y.b2 y.z0 y.z1 = evFS Tryz.prog x_K 1000 10 #[.agg #[.int .i8 y.a0, .int .i8 y.a1, .int .i8 y.a2], .agg #[.int .i8 y.b0, .int .i8 y.b1, .int .i8 y.b2], .agg #[.int .i8 y.z0, .int .i8 y.z1]] aw3S0 ⟨K_k5, True⟩ := by
  delta K_e5
  exact Eq.refl _
theorem K_p5 (y : LV) (h : K_r5 y) (w : World) (hh : Holds Tryz.prog aw3S0 w) : Calls Tryz.prog 10 #[.agg #[.int .i8 y.a0, .int .i8 y.a1, .int .i8 y.a2], .agg #[.int .i8 y.b0, .int .i8 y.b1, .int .i8 y.b2], .agg #[.int .i8 y.z0, .int .i8 y.z1]] w fun en w' => en = .returned (K_w5 y) ∧ Below w.heap.size w w' := by
  have h3 := K_o5 y
  have hv : resOf (K_e5 y.a0 y.a1 y.a2 y.b0 y.b1 y.b2 y.z0 y.z1) = K_w5 y := congrArg (fun z => z.2.1) h3
  have hc : cleanOf Tryz.prog.globals.size (K_e5 y.a0 y.a1 y.a2 y.b0 y.b1 y.b2 y.z0 y.z1) = true := congrArg (fun z => z.2.2) h3
  have he := K_q5 y
  have ho : obOf (K_e5 y.a0 y.a1 y.a2 y.b0 y.b1 y.b2 y.z0 y.z1) = K_r5 y := congrArg (fun z => z.1) h3
  clear h3
  generalize K_e5 y.a0 y.a1 y.a2 y.b0 y.b1 y.b2 y.z0 y.z1 = r at *
  exact calls_way he gfol K_X hv rfl (K_args y) hc ho h hh
theorem K_y0 (ρ : List Int) : IE.ev ρ (.v 18) = IE.ev ρ (.v 18) := by first | rfl | (simp only [IE.ev]; done) | (simp only [IE.ev]; generalize List.getD ρ 18 0 = v18; grind)
theorem K_y1 (ρ : List Int) : IE.ev ρ (.v 19) = IE.ev ρ (.v 19) := by first | rfl | (simp only [IE.ev]; done) | (simp only [IE.ev]; generalize List.getD ρ 19 0 = v19; grind)
theorem K_y2 (ρ : List Int) : IE.ev ρ K_xq71 = IE.ev ρ K_xq76 := by first | rfl | (simp only [IE.ev]; done) | (simp only [IE.ev]; generalize List.getD ρ 12 0 = v12; generalize List.getD ρ 13 0 = v13; generalize List.getD ρ 15 0 = v15; generalize List.getD ρ 16 0 = v16; generalize List.getD ρ 18 0 = v18; generalize List.getD ρ 19 0 = v19; grind)
theorem K_y3 (ρ : List Int) : IE.ev ρ K_xq77 = IE.ev ρ K_xq78 := by first | rfl | (simp only [IE.ev]; done) | (simp only [IE.ev]; generalize List.getD ρ 12 0 = v12; generalize List.getD ρ 13 0 = v13; generalize List.getD ρ 15 0 = v15; generalize List.getD ρ 16 0 = v16; generalize List.getD ρ 18 0 = v18; generalize List.getD ρ 19 0 = v19; grind)
theorem K_y4 (ρ : List Int) (k0 : IE.ev ρ (.add (.v 13) (.v 16)) = IE.ev ρ (.k (0))) (k1 : IE.ev ρ (.add (.v 12) (.v 15)) = IE.ev ρ (.k (0))) : IE.ev ρ (.add K_xq72 K_xq73) = IE.ev ρ (.k (0)) := by first | rfl | (simp only [IE.ev]; done) | (simp only [IE.ev] at k0 k1 ⊢; generalize List.getD ρ 12 0 = v12 at k0 k1 ⊢; generalize List.getD ρ 13 0 = v13 at k0 k1 ⊢; generalize List.getD ρ 15 0 = v15 at k0 k1 ⊢; generalize List.getD ρ 16 0 = v16 at k0 k1 ⊢; generalize List.getD ρ 18 0 = v18 at k0 k1 ⊢; generalize List.getD ρ 19 0 = v19 at k0 k1 ⊢; grind)
theorem K_y5 (ρ : List Int) (k0 : IE.ev ρ (.add (.v 13) (.v 16)) = IE.ev ρ (.k (0))) (k1 : IE.ev ρ (.add (.v 12) (.v 15)) = IE.ev ρ (.k (0))) : IE.ev ρ (.add K_xq74 K_xq75) = IE.ev ρ (.k (0)) := by first | rfl | (simp only [IE.ev]; done) | (simp only [IE.ev] at k0 k1 ⊢; generalize List.getD ρ 12 0 = v12 at k0 k1 ⊢; generalize List.getD ρ 13 0 = v13 at k0 k1 ⊢; generalize List.getD ρ 15 0 = v15 at k0 k1 ⊢; generalize List.getD ρ 16 0 = v16 at k0 k1 ⊢; generalize List.getD ρ 18 0 = v18 at k0 k1 ⊢; generalize List.getD ρ 19 0 = v19 at k0 k1 ⊢; grind)
theorem K_y6 (ρ : List Int) (k0 : IE.ev ρ (.add (.v 13) (.v 16)) = IE.ev ρ (.k (0))) : IE.ev ρ (.add K_xq66 (.add (.v 12) (.v 15))) = IE.ev ρ (.add K_xq72 K_xq73) := by first | rfl | (simp only [IE.ev]; done) | (simp only [IE.ev] at k0 ⊢; generalize List.getD ρ 12 0 = v12 at k0 ⊢; generalize List.getD ρ 13 0 = v13 at k0 ⊢; generalize List.getD ρ 15 0 = v15 at k0 ⊢; generalize List.getD ρ 16 0 = v16 at k0 ⊢; generalize List.getD ρ 18 0 = v18 at k0 ⊢; generalize List.getD ρ 19 0 = v19 at k0 ⊢; grind)
theorem K_y7 (ρ : List Int) (k0 : IE.ev ρ (.add (.v 13) (.v 16)) = IE.ev ρ (.k (0))) : IE.ev ρ K_xq68 = IE.ev ρ (.add K_xq74 K_xq75) := by first | rfl | (simp only [IE.ev]; done) | (simp only [IE.ev] at k0 ⊢; generalize List.getD ρ 13 0 = v13 at k0 ⊢; generalize List.getD ρ 16 0 = v16 at k0 ⊢; generalize List.getD ρ 18 0 = v18 at k0 ⊢; generalize List.getD ρ 19 0 = v19 at k0 ⊢; grind)
theorem K_y8 (ρ : List Int) : IE.ev ρ K_xq79 = IE.ev ρ (.add K_xq72 K_xq73) := by first | rfl | (simp only [IE.ev]; done) | (simp only [IE.ev]; generalize List.getD ρ 12 0 = v12; generalize List.getD ρ 13 0 = v13; generalize List.getD ρ 15 0 = v15; generalize List.getD ρ 16 0 = v16; generalize List.getD ρ 18 0 = v18; generalize List.getD ρ 19 0 = v19; grind)
theorem K_y9 (ρ : List Int) : IE.ev ρ K_xq80 = IE.ev ρ (.add K_xq74 K_xq75) := by first | rfl | (simp only [IE.ev]; done) | (simp only [IE.ev]; generalize List.getD ρ 13 0 = v13; generalize List.getD ρ 16 0 = v16; generalize List.getD ρ 18 0 = v18; generalize List.getD ρ 19 0 = v19; grind)
theorem K_t0 (y : LV) (hpre : K_pre y) : (K_c8 y = false) := by
  have hr := (K_hr y hpre)
  have e0 := IE.str_eq hr (.ite .lt (.k (8)) K_xq0 (.k (8)) K_xq0) (.v 18) (.v 18) (.v 18) (K_y0 (LS_R y)) (by kernel_rfl) (by kernel_rfl) (by kernel_rfl) (by kernel_rfl)
  have e1 := IE.str_eq hr (.ite .lt (.k (8)) K_xq1 (.k (8)) K_xq1) (.v 19) (.v 19) (.v 19) (K_y1 (LS_R y)) (by kernel_rfl) (by kernel_rfl) (by kernel_rfl) (by kernel_rfl)
  show (Bool.not (Bool.and (IE.ev (LS_R y) (.ite .lt (.k (8)) K_xq0 (.k (8)) K_xq0) == IE.ev (LS_R y) (.v 18)) (Bool.and (IE.ev (LS_R y) (.ite .lt (.k (8)) K_xq1 (.k (8)) K_xq1) == IE.ev (LS_R y) (.v 19)) true))) = false
  rw [e0, e1]
  first | done | rfl | simp
theorem K_t1 (y : LV) (hpre : K_pre y) (k0 : (K_c1 y = false)) (k1 : (K_c3 y = false)) : (K_c19 y = false) := notT (orF (orF (BE.au_ok (e := (.or (.cm .eq (.v 16) (.k (0))) (.or (.cm .eq (.v 13) (.k (0))) (.not (.cm .eq K_xq3 (.k (0))))))) (by kernel_rfl) (vs := [(16, 2), (13, 1)]) 200 (K_hr y hpre) (by kernel_rfl)) k1) k0)
theorem K_t2 (y : LV) (hpre : K_pre y) : (K_c20 y = false) := by
  have hr := (K_hr y hpre)
  have e0 := IE.str_eq hr K_xq10 K_xq15 K_xq71 K_xq76 (K_y2 (LS_R y)) (by kernel_rfl) (by kernel_rfl) (by kernel_rfl) (by kernel_rfl)
  have e1 := IE.str_eq hr K_xq16 K_xq17 K_xq77 K_xq78 (K_y3 (LS_R y)) (by kernel_rfl) (by kernel_rfl) (by kernel_rfl) (by kernel_rfl)
  show (Bool.not (Bool.and (IE.ev (LS_R y) K_xq10 == IE.ev (LS_R y) K_xq15) (Bool.and (IE.ev (LS_R y) K_xq16 == IE.ev (LS_R y) K_xq17) true))) = false
  rw [e0, e1]
  first | done | rfl | simp
theorem K_t3 (y : LV) (hpre : K_pre y) (k0 : (K_c85 y = true)) (k1 : (K_c21 y = true)) : (K_c87 y = false) := by
  have hr := (K_hr y hpre)
  have f0 := IE.eq_str hr (.wr (.add (.v 13) (.v 16))) (.k (0)) (.add (.v 13) (.v 16)) (.k (0)) (show (IE.ev (LS_R y) (.wr (.add (.v 13) (.v 16))) == IE.ev (LS_R y) (.k (0))) = true by first | exact k1 | exact ofNe k1 | exact ofNot k1) (by kernel_rfl) (by kernel_rfl) (by kernel_rfl) (by kernel_rfl)
  have f1 := IE.eq_str hr (.wr (.add (.v 12) (.v 15))) (.k (0)) (.add (.v 12) (.v 15)) (.k (0)) (show (IE.ev (LS_R y) (.wr (.add (.v 12) (.v 15))) == IE.ev (LS_R y) (.k (0))) = true by first | exact k0 | exact ofNe k0 | exact ofNot k0) (by kernel_rfl) (by kernel_rfl) (by kernel_rfl) (by kernel_rfl)
  have e0 := IE.str_eq hr (.wr (.add K_xq11 K_xq12)) (.k (0)) (.add K_xq72 K_xq73) (.k (0)) (K_y4 (LS_R y) f0 f1) (by kernel_rfl) (by kernel_rfl) (by kernel_rfl) (by kernel_rfl)
  have e1 := IE.str_eq hr (.wr (.add K_xq13 K_xq14)) (.k (0)) (.add K_xq74 K_xq75) (.k (0)) (K_y5 (LS_R y) f0 f1) (by kernel_rfl) (by kernel_rfl) (by kernel_rfl) (by kernel_rfl)
  show (Bool.not (Bool.and (IE.ev (LS_R y) (.wr (.add K_xq11 K_xq12)) == IE.ev (LS_R y) (.k (0))) (Bool.and (IE.ev (LS_R y) (.wr (.add K_xq13 K_xq14)) == IE.ev (LS_R y) (.k (0))) true))) = false
  rw [e0, e1]
  first | done | rfl | simp
theorem K_t4 (y : LV) (hpre : K_pre y) (k0 : (K_c21 y = true)) : (K_c86 y = false) := by
  have hr := (K_hr y hpre)
  have f0 := IE.eq_str hr (.wr (.add (.v 13) (.v 16))) (.k (0)) (.add (.v 13) (.v 16)) (.k (0)) (show (IE.ev (LS_R y) (.wr (.add (.v 13) (.v 16))) == IE.ev (LS_R y) (.k (0))) = true by first | exact k0 | exact ofNe k0 | exact ofNot k0) (by kernel_rfl) (by kernel_rfl) (by kernel_rfl) (by kernel_rfl)
  have e0 := IE.str_eq hr K_xq49 (.wr (.add K_xq11 K_xq12)) (.add K_xq66 (.add (.v 12) (.v 15))) (.add K_xq72 K_xq73) (K_y6 (LS_R y) f0) (by kernel_rfl) (by kernel_rfl) (by kernel_rfl) (by kernel_rfl)
  have e1 := IE.str_eq hr K_xq5 (.wr (.add K_xq13 K_xq14)) K_xq68 (.add K_xq74 K_xq75) (K_y7 (LS_R y) f0) (by kernel_rfl) (by kernel_rfl) (by kernel_rfl) (by kernel_rfl)
  show (Bool.not (Bool.and (IE.ev (LS_R y) K_xq49 == IE.ev (LS_R y) (.wr (.add K_xq11 K_xq12))) (Bool.and (IE.ev (LS_R y) K_xq5 == IE.ev (LS_R y) (.wr (.add K_xq13 K_xq14))) true))) = false
  rw [e0, e1]
  first | done | rfl | simp
theorem K_t5 (y : LV) (hpre : K_pre y) : (K_c26 y = false) := by
  have hr := (K_hr y hpre)
  have e0 := IE.str_eq hr K_xq19 (.wr (.add K_xq11 K_xq12)) K_xq79 (.add K_xq72 K_xq73) (K_y8 (LS_R y)) (by kernel_rfl) (by kernel_rfl) (by kernel_rfl) (by kernel_rfl)
  have e1 := IE.str_eq hr K_xq20 (.wr (.add K_xq13 K_xq14)) K_xq80 (.add K_xq74 K_xq75) (K_y9 (LS_R y)) (by kernel_rfl) (by kernel_rfl) (by kernel_rfl) (by kernel_rfl)
  show (Bool.not (Bool.and (IE.ev (LS_R y) K_xq19 == IE.ev (LS_R y) (.wr (.add K_xq11 K_xq12))) (Bool.and (IE.ev (LS_R y) K_xq20 == IE.ev (LS_R y) (.wr (.add K_xq13 K_xq14))) true))) = false
  rw [e0, e1]
  first | done | rfl | simp
theorem K_any (y : LV) (hpre : K_pre y) (w : World) (hh : Holds Tryz.prog aw3S0 w) : Calls Tryz.prog 10 #[.agg #[.int .i8 y.a0, .int .i8 y.a1, .int .i8 y.a2], .agg #[.int .i8 y.b0, .int .i8 y.b1, .int .i8 y.b2], .agg #[.int .i8 y.z0, .int .i8 y.z1]] w fun en w' => en = .returned (.bool true) ∧ Below w.heap.size w w' := by
  have hg0 : (K_c0 y = true) := (show K_c0 y = BE.ev (LS_R y) (.cm .eq (.v 14) (.k (0))) by kernel_rfl).trans (beq_iff_eq.2 hpre.2.2.2.2.1)
  have hg1 : (K_c1 y = false) := (show K_c1 y = BE.ev (LS_R y) (.cm .eq (.v 13) (.k (0))) by kernel_rfl).trans (beq_eq_false_iff_ne.2 hpre.2.2.2.2.2.1)
  have hg2 : (K_c2 y = true) := (show K_c2 y = BE.ev (LS_R y) (.cm .eq (.v 17) (.k (0))) by kernel_rfl).trans (beq_iff_eq.2 hpre.2.2.2.2.2.2.1)
  have hg3 : (K_c3 y = false) := (show K_c3 y = BE.ev (LS_R y) (.cm .eq (.v 16) (.k (0))) by kernel_rfl).trans (beq_eq_false_iff_ne.2 hpre.2.2.2.2.2.2.2)
  have h4 := K_t0 y hpre
  have h15 := K_t1 y hpre hg1 hg3
  have h16 := K_t2 y hpre
  rcases Bool.eq_false_or_eq_true (K_c21 y) with h17 | h17
  ·
    rcases Bool.eq_false_or_eq_true (K_c85 y) with h18 | h18
    ·
      have h19 := K_t3 y hpre h18 h17
      rcases Bool.eq_false_or_eq_true (K_c69 y) with h62 | h62
      ·
        have hp := K_p3 y (cjD_i (K_tT y hpre) (And.intro (And.intro (And.intro (And.intro (And.intro (And.intro (cjD_i (K_tT y hpre) (And.intro (cjD_i (K_tT y hpre) (And.intro (cjD_i (K_tT y hpre) (And.intro (cjD_i (K_tT y hpre) (And.intro (cjD_i (K_tT y hpre) (And.intro (cjD_i (K_tT y hpre) (And.intro (cjD_i (K_tT y hpre) (And.intro (cjD_i (K_tT y hpre) (And.intro (cjD_i (K_tT y hpre) (And.intro (cjD_i (K_tT y hpre) (And.intro (And.intro (cjD_i (K_tT y hpre) (And.intro (cjD_i (K_tT y hpre) (And.intro (cjD_i (K_tT y hpre) (And.intro (And.intro (cjD_i (K_tT y hpre) (And.intro (And.intro (cjD_i (K_tT y hpre) (And.intro (cjD_i (K_tT y hpre) (And.intro (cjD_i (K_tT y hpre) (And.intro (cjD_i (K_tT y hpre) (And.intro (cjD_i (K_tT y hpre) trivial) hg0)) hg1)) hg2)) hg3)) hg1) h4)) hg3) h4)) hg1)) hg3)) h15) h4)) h16)) hg1)) hg3)) h17)) h18)) h19)) hg1)) hg1)) hg1)) h62) h62) h62) h62) h62) h62)) w hh
        have hv : K_w3 y = (.bool true) := by
          clear hp hh
          unfold K_w3
          rfl
        exact hv ▸ hp
      ·
        have hp := K_p5 y (cjD_i (K_tT y hpre) (And.intro (cjD_i (K_tT y hpre) (And.intro (And.intro (cjD_i (K_tT y hpre) (And.intro (And.intro (cjD_i (K_tT y hpre) (And.intro (And.intro (cjD_i (K_tT y hpre) (And.intro (cjD_i (K_tT y hpre) (And.intro (cjD_i (K_tT y hpre) (And.intro (cjD_i (K_tT y hpre) (And.intro (cjD_i (K_tT y hpre) (And.intro (cjD_i (K_tT y hpre) (And.intro (cjD_i (K_tT y hpre) (And.intro (cjD_i (K_tT y hpre) (And.intro (cjD_i (K_tT y hpre) (And.intro (cjD_i (K_tT y hpre) (And.intro (And.intro (cjD_i (K_tT y hpre) (And.intro (cjD_i (K_tT y hpre) (And.intro (cjD_i (K_tT y hpre) (And.intro (And.intro (cjD_i (K_tT y hpre) (And.intro (And.intro (cjD_i (K_tT y hpre) (And.intro (cjD_i (K_tT y hpre) (And.intro (cjD_i (K_tT y hpre) (And.intro (cjD_i (K_tT y hpre) (And.intro (cjD_i (K_tT y hpre) trivial) hg0)) hg1)) hg2)) hg3)) hg1) h4)) hg3) h4)) hg1)) hg3)) h15) h4)) h16)) hg1)) hg3)) h17)) h18)) h19)) hg1)) hg1)) hg1)) h62) h62)) h62) h62)) h62) h62)) hg1)) w hh
        have hv : K_w5 y = (.bool true) := by
          clear hp hh
          unfold K_w5
          rfl
        exact hv ▸ hp
    ·
      have h80 := K_t4 y hpre h17
      rcases Bool.eq_false_or_eq_true (K_c69 y) with h123 | h123
      ·
        have hp := K_p2 y (cjD_i (K_tT y hpre) (And.intro (And.intro (And.intro (And.intro (And.intro (And.intro (cjD_i (K_tT y hpre) (And.intro (cjD_i (K_tT y hpre) (And.intro (cjD_i (K_tT y hpre) (And.intro (cjD_i (K_tT y hpre) (And.intro (cjD_i (K_tT y hpre) (And.intro (And.intro (cjD_i (K_tT y hpre) (And.intro (cjD_i (K_tT y hpre) (And.intro (cjD_i (K_tT y hpre) (And.intro (cjD_i (K_tT y hpre) (And.intro (cjD_i (K_tT y hpre) (And.intro (cjD_i (K_tT y hpre) (And.intro (And.intro (cjD_i (K_tT y hpre) (And.intro (cjD_i (K_tT y hpre) (And.intro (cjD_i (K_tT y hpre) (And.intro (And.intro (cjD_i (K_tT y hpre) (And.intro (And.intro (cjD_i (K_tT y hpre) (And.intro (cjD_i (K_tT y hpre) (And.intro (cjD_i (K_tT y hpre) (And.intro (cjD_i (K_tT y hpre) (And.intro (cjD_i (K_tT y hpre) trivial) hg0)) hg1)) hg2)) hg3)) hg1) h4)) hg3) h4)) hg1)) hg3)) h15) h4)) h16)) hg1)) hg3)) h17)) h18)) h18) h4)) h80)) hg1)) hg1)) hg1)) h123) h123) h123) h123) h123) h123)) w hh
        have hv : K_w2 y = (.bool true) := by
          clear hp hh
          unfold K_w2
          rfl
        exact hv ▸ hp
      ·
        have hp := K_p4 y (cjD_i (K_tT y hpre) (And.intro (cjD_i (K_tT y hpre) (And.intro (And.intro (cjD_i (K_tT y hpre) (And.intro (And.intro (cjD_i (K_tT y hpre) (And.intro (And.intro (cjD_i (K_tT y hpre) (And.intro (cjD_i (K_tT y hpre) (And.intro (cjD_i (K_tT y hpre) (And.intro (cjD_i (K_tT y hpre) (And.intro (cjD_i (K_tT y hpre) (And.intro (And.intro (cjD_i (K_tT y hpre) (And.intro (cjD_i (K_tT y hpre) (And.intro (cjD_i (K_tT y hpre) (And.intro (cjD_i (K_tT y hpre) (And.intro (cjD_i (K_tT y hpre) (And.intro (cjD_i (K_tT y hpre) (And.intro (And.intro (cjD_i (K_tT y hpre) (And.intro (cjD_i (K_tT y hpre) (And.intro (cjD_i (K_tT y hpre) (And.intro (And.intro (cjD_i (K_tT y hpre) (And.intro (And.intro (cjD_i (K_tT y hpre) (And.intro (cjD_i (K_tT y hpre) (And.intro (cjD_i (K_tT y hpre) (And.intro (cjD_i (K_tT y hpre) (And.intro (cjD_i (K_tT y hpre) trivial) hg0)) hg1)) hg2)) hg3)) hg1) h4)) hg3) h4)) hg1)) hg3)) h15) h4)) h16)) hg1)) hg3)) h17)) h18)) h18) h4)) h80)) hg1)) hg1)) hg1)) h123) h123)) h123) h123)) h123) h123)) hg1)) w hh
        have hv : K_w4 y = (.bool true) := by
          clear hp hh
          unfold K_w4
          rfl
        exact hv ▸ hp
  ·
    have h143 := K_t5 y hpre
    rcases Bool.eq_false_or_eq_true (K_c69 y) with h186 | h186
    ·
      have hp := K_p1 y (cjD_i (K_tT y hpre) (And.intro (And.intro (And.intro (And.intro (And.intro (And.intro (cjD_i (K_tT y hpre) (And.intro (cjD_i (K_tT y hpre) (And.intro (cjD_i (K_tT y hpre) (And.intro (cjD_i (K_tT y hpre) (And.intro (cjD_i (K_tT y hpre) (And.intro (And.intro (cjD_i (K_tT y hpre) (And.intro (cjD_i (K_tT y hpre) (And.intro (cjD_i (K_tT y hpre) (And.intro (cjD_i (K_tT y hpre) (And.intro (cjD_i (K_tT y hpre) (And.intro (And.intro (cjD_i (K_tT y hpre) (And.intro (cjD_i (K_tT y hpre) (And.intro (cjD_i (K_tT y hpre) (And.intro (And.intro (cjD_i (K_tT y hpre) (And.intro (And.intro (cjD_i (K_tT y hpre) (And.intro (cjD_i (K_tT y hpre) (And.intro (cjD_i (K_tT y hpre) (And.intro (cjD_i (K_tT y hpre) (And.intro (cjD_i (K_tT y hpre) trivial) hg0)) hg1)) hg2)) hg3)) hg1) h4)) hg3) h4)) hg1)) hg3)) h15) h4)) h16)) hg1)) hg3)) h17)) h17) h4)) h143)) hg1)) hg1)) hg1)) h186) h186) h186) h186) h186) h186)) w hh
      have hv : K_w1 y = (.bool true) := by
        clear hp hh
        unfold K_w1
        rfl
      exact hv ▸ hp
    ·
      have hp := K_p0 y (cjD_i (K_tT y hpre) (And.intro (cjD_i (K_tT y hpre) (And.intro (And.intro (cjD_i (K_tT y hpre) (And.intro (And.intro (cjD_i (K_tT y hpre) (And.intro (And.intro (cjD_i (K_tT y hpre) (And.intro (cjD_i (K_tT y hpre) (And.intro (cjD_i (K_tT y hpre) (And.intro (cjD_i (K_tT y hpre) (And.intro (cjD_i (K_tT y hpre) (And.intro (And.intro (cjD_i (K_tT y hpre) (And.intro (cjD_i (K_tT y hpre) (And.intro (cjD_i (K_tT y hpre) (And.intro (cjD_i (K_tT y hpre) (And.intro (cjD_i (K_tT y hpre) (And.intro (And.intro (cjD_i (K_tT y hpre) (And.intro (cjD_i (K_tT y hpre) (And.intro (cjD_i (K_tT y hpre) (And.intro (And.intro (cjD_i (K_tT y hpre) (And.intro (And.intro (cjD_i (K_tT y hpre) (And.intro (cjD_i (K_tT y hpre) (And.intro (cjD_i (K_tT y hpre) (And.intro (cjD_i (K_tT y hpre) (And.intro (cjD_i (K_tT y hpre) trivial) hg0)) hg1)) hg2)) hg3)) hg1) h4)) hg3) h4)) hg1)) hg3)) h15) h4)) h16)) hg1)) hg3)) h17)) h17) h4)) h143)) hg1)) hg1)) hg1)) h186) h186)) h186) h186)) h186) h186)) hg1)) w hh
      have hv : K_w0 y = (.bool true) := by
        clear hp hh
        unfold K_w0
        rfl
      exact hv ▸ hp
end Go.Proofs.YtbkpnhbcihcgaaaGreatDoor
