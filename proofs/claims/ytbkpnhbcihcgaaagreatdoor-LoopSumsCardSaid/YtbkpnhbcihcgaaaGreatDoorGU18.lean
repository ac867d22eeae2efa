/-
  The contract of bipole.bipolelaw03.LoopSums.
-/
import Derived.Test.YtbkpnhbcihcgaaaGreatDoorGU2
import Derived.Test.YtbkpnhbcihcgaaaGreatDoorGU3
import Derived.Test.YtbkpnhbcihcgaaaGreatDoorGU12
set_option linter.all false
set_option maxRecDepth 1000000
set_option maxHeartbeats 2000000
open Go.RowKit
namespace Go.Proofs.YtbkpnhbcihcgaaaGreatDoor
open Mini
def L_at0 (y : Int) : Int := (Int.tmod (IntKind.i64.wrap y) (8 : Int))
abbrev L_xq0 : IE := .ite .gt (.k (-8)) (.v 18) (.k (-8)) (.v 18)
abbrev L_xq1 : IE := .ite .gt (.k (-8)) (.v 19) (.k (-8)) (.v 19)
abbrev L_xq2 : BE := .and (.cm .eq (.ite .lt (.k (8)) L_xq0 (.k (8)) L_xq0) (.v 18)) (.and (.cm .eq (.ite .lt (.k (8)) L_xq1 (.k (8)) L_xq1) (.v 19)) .t)
abbrev L_xq3 : IE := .wr (.add (.k (0)) (.wr (.mul (.v 13) (.v 17))))
abbrev L_xq4 : IE := .wr (.sub (.wr (.mul (.k (0)) (.v 18))) (.wr (.mul (.k (0)) (.v 19))))
abbrev L_xq5 : IE := .wr (.add (.wr (.mul (.k (0)) (.v 19))) (.wr (.mul (.k (0)) (.v 18))))
abbrev L_xq6 : IE := .wr (.add (.wr (.add (.k (0)) (.wr (.mul (.v 12) (.v 17))))) (.wr (.mul (.v 13) (.v 16))))
abbrev L_xq7 : IE := .wr (.add (.wr (.sub (.wr (.mul (.wr (.add L_xq4 L_xq3)) (.v 18))) (.wr (.mul L_xq5 (.v 19))))) L_xq6)
abbrev L_xq8 : IE := .wr (.add (.wr (.mul (.wr (.add L_xq4 L_xq3)) (.v 19))) (.wr (.mul L_xq5 (.v 18))))
abbrev L_xq9 : IE := .wr (.add (.wr (.add (.k (0)) (.wr (.mul (.v 12) (.v 16))))) (.wr (.mul (.v 13) (.v 15))))
abbrev L_xq10 : IE := .wr (.add (.wr (.sub (.wr (.mul L_xq7 (.v 18))) (.wr (.mul L_xq8 (.v 19))))) L_xq9)
abbrev L_xq11 : IE := .wr (.add (.wr (.mul L_xq7 (.v 19))) (.wr (.mul L_xq8 (.v 18))))
abbrev L_xq12 : IE := .wr (.add (.k (0)) (.wr (.mul (.v 12) (.v 15))))
abbrev L_xq13 : IE := .wr (.add (.wr (.sub (.wr (.mul L_xq10 (.v 18))) (.wr (.mul L_xq11 (.v 19))))) L_xq12)
abbrev L_xq14 : IE := .wr (.add (.wr (.sub (.wr (.mul (.wr (.add L_xq4 (.v 13))) (.v 18))) (.wr (.mul L_xq5 (.v 19))))) (.v 12))
abbrev L_xq15 : IE := .wr (.sub (.wr (.mul (.wr (.add L_xq4 (.v 17))) (.v 18))) (.wr (.mul L_xq5 (.v 19))))
abbrev L_xq16 : IE := .wr (.add (.wr (.mul (.wr (.add L_xq4 (.v 17))) (.v 19))) (.wr (.mul L_xq5 (.v 18))))
abbrev L_xq17 : IE := .wr (.add (.wr (.sub (.wr (.mul (.wr (.add L_xq15 (.v 16))) (.v 18))) (.wr (.mul L_xq16 (.v 19))))) (.v 15))
abbrev L_xq18 : IE := .wr (.add (.wr (.mul (.wr (.add L_xq4 (.v 13))) (.v 19))) (.wr (.mul L_xq5 (.v 18))))
abbrev L_xq19 : IE := .wr (.add (.wr (.mul (.wr (.add L_xq15 (.v 16))) (.v 19))) (.wr (.mul L_xq16 (.v 18))))
abbrev L_xq20 : IE := .wr (.sub (.wr (.mul L_xq14 L_xq17)) (.wr (.mul L_xq18 L_xq19)))
abbrev L_xq21 : IE := .wr (.add (.wr (.mul L_xq10 (.v 19))) (.wr (.mul L_xq11 (.v 18))))
abbrev L_xq22 : IE := .wr (.add (.wr (.mul L_xq14 L_xq19)) (.wr (.mul L_xq18 L_xq17)))
abbrev L_xq23 : IE := .wr (.add L_xq15 (.wr (.add (.v 16) (.v 13))))
abbrev L_xq24 : IE := .wr (.add (.wr (.sub (.wr (.mul L_xq23 (.v 18))) (.wr (.mul L_xq16 (.v 19))))) (.wr (.add (.v 15) (.v 12))))
abbrev L_xq25 : IE := .wr (.add (.wr (.mul L_xq23 (.v 19))) (.wr (.mul L_xq16 (.v 18))))
abbrev L_xq26 : IE := .wr (.mul (.wr (.add (.v 8) (.v 10))) (.k (1)))
abbrev L_xq27 : BE := .cm .ne L_xq26 (.wr (.add (.wr (.mul (.v 8) (.k (1)))) (.wr (.mul (.v 10) (.k (1))))))
abbrev L_xq28 : IE := .wr (.sub (.k (0)) (.wr (.mul (.v 12) (.k (1)))))
abbrev L_xq29 : IE := .wr (.add (.k (0)) (.wr (.mul L_xq28 L_xq26)))
abbrev L_xq30 : IE := .wr (.add (.k (0)) (.wr (.mul L_xq28 (.wr (.mul (.v 8) (.k (1)))))))
abbrev L_xq31 : IE := .wr (.add (.k (0)) (.wr (.mul L_xq28 (.wr (.mul (.v 10) (.k (1)))))))
abbrev L_xq32 : BE := .cm .ne L_xq29 (.wr (.add L_xq30 L_xq31))
abbrev L_xq33 : IE := .wr (.add (.k (0)) (.wr (.mul L_xq28 L_xq29)))
abbrev L_xq34 : IE := .wr (.add (.k (0)) (.wr (.mul L_xq28 L_xq30)))
abbrev L_xq35 : IE := .wr (.add (.k (0)) (.wr (.mul L_xq28 L_xq31)))
abbrev L_xq36 : BE := .cm .ne L_xq33 (.wr (.add L_xq34 L_xq35))
abbrev L_xq37 : IE := .wr (.add (.k (0)) (.wr (.mul L_xq28 L_xq33)))
abbrev L_xq38 : IE := .wr (.add (.k (0)) (.wr (.mul L_xq28 L_xq34)))
abbrev L_xq39 : IE := .wr (.add (.k (0)) (.wr (.mul L_xq28 L_xq35)))
abbrev L_xq40 : BE := .cm .ne L_xq37 (.wr (.add L_xq38 L_xq39))
abbrev L_xq41 : IE := .wr (.add (.k (0)) (.wr (.mul L_xq28 L_xq37)))
abbrev L_xq42 : IE := .wr (.add (.k (0)) (.wr (.mul L_xq28 L_xq38)))
abbrev L_xq43 : IE := .wr (.add (.k (0)) (.wr (.mul L_xq28 L_xq39)))
abbrev L_xq44 : BE := .cm .ne L_xq41 (.wr (.add L_xq42 L_xq43))
abbrev L_xq45 : IE := .wr (.add (.k (0)) (.wr (.mul L_xq28 L_xq41)))
abbrev L_xq46 : IE := .wr (.add (.k (0)) (.wr (.mul L_xq28 L_xq42)))
abbrev L_xq47 : IE := .wr (.add (.k (0)) (.wr (.mul L_xq28 L_xq43)))
abbrev L_xq48 : BE := .cm .ne L_xq45 (.wr (.add L_xq46 L_xq47))
abbrev L_xq49 : BE := .cm .ne (.wr (.mul L_xq30 (.k (1)))) L_xq30
abbrev L_xq50 : IE := .wr (.add (.k (0)) (.wr (.mul L_xq28 (.wr (.mul L_xq30 (.k (1)))))))
abbrev L_xq51 : IE := .wr (.add (.k (0)) (.wr (.mul L_xq28 L_xq50)))
abbrev L_xq52 : IE := .wr (.add (.k (0)) (.wr (.mul L_xq28 L_xq51)))
abbrev L_xq53 : IE := .wr (.add (.k (0)) (.wr (.mul L_xq28 L_xq52)))
abbrev L_xq54 : IE := .add (.k (0)) (.mul (.sub (.k (0)) (.mul (.v 12) (.k (1)))) (.mul (.add (.v 8) (.v 10)) (.k (1))))
abbrev L_xq55 : IE := .add (.k (0)) (.mul (.sub (.k (0)) (.mul (.v 12) (.k (1)))) (.mul (.v 8) (.k (1))))
abbrev L_xq56 : IE := .add (.k (0)) (.mul (.sub (.k (0)) (.mul (.v 12) (.k (1)))) (.mul (.v 10) (.k (1))))
abbrev L_xq57 : IE := .add (.k (0)) (.mul (.sub (.k (0)) (.mul (.v 12) (.k (1)))) L_xq54)
abbrev L_xq58 : IE := .add (.k (0)) (.mul (.sub (.k (0)) (.mul (.v 12) (.k (1)))) L_xq55)
abbrev L_xq59 : IE := .add (.k (0)) (.mul (.sub (.k (0)) (.mul (.v 12) (.k (1)))) L_xq56)
abbrev L_xq60 : IE := .add (.k (0)) (.mul (.sub (.k (0)) (.mul (.v 12) (.k (1)))) L_xq57)
abbrev L_xq61 : IE := .add (.k (0)) (.mul (.sub (.k (0)) (.mul (.v 12) (.k (1)))) L_xq58)
abbrev L_xq62 : IE := .add (.k (0)) (.mul (.sub (.k (0)) (.mul (.v 12) (.k (1)))) L_xq59)
abbrev L_xq63 : IE := .add (.k (0)) (.mul (.sub (.k (0)) (.mul (.v 12) (.k (1)))) L_xq60)
abbrev L_xq64 : IE := .add (.k (0)) (.mul (.sub (.k (0)) (.mul (.v 12) (.k (1)))) L_xq61)
abbrev L_xq65 : IE := .add (.k (0)) (.mul (.sub (.k (0)) (.mul (.v 12) (.k (1)))) L_xq62)
abbrev L_xq66 : IE := .add (.k (0)) (.mul (.sub (.k (0)) (.mul (.v 12) (.k (1)))) L_xq64)
abbrev L_xq67 : IE := .add (.k (0)) (.mul (.sub (.k (0)) (.mul (.v 12) (.k (1)))) (.mul L_xq55 (.k (1))))
abbrev L_xq68 : IE := .add (.k (0)) (.mul (.sub (.k (0)) (.mul (.v 12) (.k (1)))) L_xq67)
abbrev L_xq69 : IE := .add (.k (0)) (.mul (.sub (.k (0)) (.mul (.v 12) (.k (1)))) L_xq68)
abbrev L_xq70 : IE := .sub (.mul (.k (0)) (.v 18)) (.mul (.k (0)) (.v 19))
abbrev L_xq71 : IE := .add L_xq70 (.add (.k (0)) (.mul (.v 13) (.v 17)))
abbrev L_xq72 : IE := .add (.mul (.k (0)) (.v 19)) (.mul (.k (0)) (.v 18))
abbrev L_xq73 : IE := .add (.sub (.mul L_xq71 (.v 18)) (.mul L_xq72 (.v 19))) (.add (.add (.k (0)) (.mul (.v 12) (.v 17))) (.mul (.v 13) (.v 16)))
abbrev L_xq74 : IE := .add (.mul L_xq71 (.v 19)) (.mul L_xq72 (.v 18))
abbrev L_xq75 : IE := .add (.sub (.mul L_xq73 (.v 18)) (.mul L_xq74 (.v 19))) (.add (.add (.k (0)) (.mul (.v 12) (.v 16))) (.mul (.v 13) (.v 15)))
abbrev L_xq76 : IE := .add (.mul L_xq73 (.v 19)) (.mul L_xq74 (.v 18))
abbrev L_xq77 : IE := .add (.sub (.mul L_xq75 (.v 18)) (.mul L_xq76 (.v 19))) (.add (.k (0)) (.mul (.v 12) (.v 15)))
abbrev L_xq78 : IE := .add (.sub (.mul (.add L_xq70 (.v 13)) (.v 18)) (.mul L_xq72 (.v 19))) (.v 12)
abbrev L_xq79 : IE := .sub (.mul (.add L_xq70 (.v 17)) (.v 18)) (.mul L_xq72 (.v 19))
abbrev L_xq80 : IE := .add (.mul (.add L_xq70 (.v 17)) (.v 19)) (.mul L_xq72 (.v 18))
abbrev L_xq81 : IE := .add (.sub (.mul (.add L_xq79 (.v 16)) (.v 18)) (.mul L_xq80 (.v 19))) (.v 15)
abbrev L_xq82 : IE := .add (.mul (.add L_xq70 (.v 13)) (.v 19)) (.mul L_xq72 (.v 18))
abbrev L_xq83 : IE := .add (.mul (.add L_xq79 (.v 16)) (.v 19)) (.mul L_xq80 (.v 18))
abbrev L_xq84 : IE := .sub (.mul L_xq78 L_xq81) (.mul L_xq82 L_xq83)
abbrev L_xq85 : IE := .add (.mul L_xq75 (.v 19)) (.mul L_xq76 (.v 18))
abbrev L_xq86 : IE := .add (.mul L_xq78 L_xq83) (.mul L_xq82 L_xq81)
abbrev L_xq87 : IE := .add (.sub (.mul (.add L_xq79 (.add (.v 16) (.v 13))) (.v 18)) (.mul L_xq80 (.v 19))) (.add (.v 15) (.v 12))
abbrev L_xq88 : IE := .add (.mul (.add L_xq79 (.add (.v 16) (.v 13))) (.v 19)) (.mul L_xq80 (.v 18))

abbrev L_pre (y : LV) : Prop := (-128 ≤ y.b0 ∧ y.b0 ≤ 127) ∧ (-128 ≤ y.b1 ∧ y.b1 ≤ 127) ∧ (-128 ≤ y.z0 ∧ y.z0 ≤ 127) ∧ (-128 ≤ y.z1 ∧ y.z1 ≤ 127) ∧ ((L_at0 y.a2) = 0) ∧ ((L_at0 y.a1) ≠ 0) ∧ ((L_at0 y.b2) ≠ 0)
theorem L_X : FOkS Tryz.prog x_L := bothX_ok (noXS_ok) (tabT_ok (by kernel_rfl) aw3_calls)
theorem L_args (y : LV) : (#[.agg #[.int .i8 y.a0, .int .i8 y.a1, .int .i8 y.a2], .agg #[.int .i8 y.b0, .int .i8 y.b1, .int .i8 y.b2], .agg #[.int .i8 y.z0, .int .i8 y.z1]] : Array Value).toList.all (ground 8) = true := by kernel_rfl
theorem L_hr (y : LV) (hpre : L_pre y) : InR LS_B (LS_R y) := LS_hr y ⟨hpre.1, hpre.2.1, hpre.2.2.1, hpre.2.2.2.1⟩
def L_h0 : Prop := (true = true)
theorem L_g0 : (true = true) := by first | rfl | trivial | decide | omega
def L_h1 : Prop := ((0 : Int) = (0 : Int))
theorem L_g1 : ((0 : Int) = (0 : Int)) := by first | rfl | trivial | decide | omega
def L_h2 : Prop := (false = false)
theorem L_g2 : (false = false) := by first | rfl | trivial | decide | omega
def L_h3 : Prop := ((1 : Int) = (1 : Int))
theorem L_g3 : ((1 : Int) = (1 : Int)) := by first | rfl | trivial | decide | omega
def L_h4 : Prop := ((2 : Int) = (2 : Int))
theorem L_g4 : ((2 : Int) = (2 : Int)) := by first | rfl | trivial | decide | omega
def L_h5 : Prop := ((decide ((3 : Int) > (0 : Int))) = Bool.true)
theorem L_g5 : ((decide ((3 : Int) > (0 : Int))) = Bool.true) := by first | rfl | trivial | decide | omega
def L_c0 (y : LV) : Bool := BE.ev (LS_R y) (.cm .eq (.v 14) (.k (0)))
def L_h7 : Prop := ((decide ((2 : Int) > (0 : Int))) = Bool.true)
theorem L_g7 : ((decide ((2 : Int) > (0 : Int))) = Bool.true) := by first | rfl | trivial | decide | omega
def L_c1 (y : LV) : Bool := BE.ev (LS_R y) (.cm .eq (.v 13) (.k (0)))
def L_c2 (y : LV) : Bool := BE.ev (LS_R y) (.cm .eq (.v 17) (.k (0)))
def L_h10 : Prop := ((decide ((2 : Int) > (5 : Int))) = Bool.false)
theorem L_g10 : ((decide ((2 : Int) > (5 : Int))) = Bool.false) := by first | rfl | trivial | decide | omega
def L_c7 (y : LV) : Bool := BE.ev (LS_R y) (.not L_xq2)
def L_h16 : Prop := ((decide ((1 : Int) ≥ (0 : Int))) = Bool.true)
theorem L_g16 : ((decide ((1 : Int) ≥ (0 : Int))) = Bool.true) := by first | rfl | trivial | decide | omega
def L_h17 : Prop := ((decide ((0 : Int) ≥ (0 : Int))) = Bool.true)
theorem L_g17 : ((decide ((0 : Int) ≥ (0 : Int))) = Bool.true) := by first | rfl | trivial | decide | omega
def L_h18 : Prop := ((decide ((-1 : Int) ≥ (0 : Int))) = Bool.false)
theorem L_g18 : ((decide ((-1 : Int) ≥ (0 : Int))) = Bool.false) := by first | rfl | trivial | decide | omega
def L_h19 : Prop := ((decide ((3 : Int) > (5 : Int))) = Bool.false)
theorem L_g19 : ((decide ((3 : Int) > (5 : Int))) = Bool.false) := by first | rfl | trivial | decide | omega
def L_h26 : Prop := ((decide ((2 : Int) ≥ (0 : Int))) = Bool.true)
theorem L_g26 : ((decide ((2 : Int) ≥ (0 : Int))) = Bool.true) := by first | rfl | trivial | decide | omega
def L_h27 : Prop := ((3 : Int) = (3 : Int))
theorem L_g27 : ((3 : Int) = (3 : Int)) := by first | rfl | trivial | decide | omega
def L_h28 : Prop := ((decide ((4 : Int) > (5 : Int))) = Bool.false)
theorem L_g28 : ((decide ((4 : Int) > (5 : Int))) = Bool.false) := by first | rfl | trivial | decide | omega
def L_c22 (y : LV) : Bool := BE.ev (LS_R y) (.cm .eq L_xq3 (.k (0)))
def L_h38 : Prop := ((decide ((3 : Int) ≥ (0 : Int))) = Bool.true)
theorem L_g38 : ((decide ((3 : Int) ≥ (0 : Int))) = Bool.true) := by first | rfl | trivial | decide | omega
def L_c23 (y : LV) : Bool := BE.ev (LS_R y) (.not (.and (.cm .eq L_xq13 L_xq20) (.and (.cm .eq L_xq21 L_xq22) .t)))
def L_h40 : Prop := ((Bool.false != Bool.false) = Bool.false)
theorem L_g40 : ((Bool.false != Bool.false) = Bool.false) := by first | rfl | trivial | decide | omega
def L_c28 (y : LV) : Bool := BE.ev (LS_R y) (.not (.and (.cm .eq L_xq24 (.wr (.add L_xq14 L_xq17))) (.and (.cm .eq L_xq25 (.wr (.add L_xq18 L_xq19))) .t)))
def L_h48 : Prop := ((decide ((5 : Int) > (24 : Int))) = Bool.false)
theorem L_g48 : ((decide ((5 : Int) > (24 : Int))) = Bool.false) := by first | rfl | trivial | decide | omega
def L_h57 : Prop := ((4 : Int) = (4 : Int))
theorem L_g57 : ((4 : Int) = (4 : Int)) := by first | rfl | trivial | decide | omega
def L_c65 (y : LV) : Bool := BE.ev (LS_R y) L_xq27
def L_c66 (y : LV) : Bool := BE.ev (LS_R y) L_xq32
def L_c67 (y : LV) : Bool := BE.ev (LS_R y) L_xq36
def L_c68 (y : LV) : Bool := BE.ev (LS_R y) L_xq40
def L_c69 (y : LV) : Bool := BE.ev (LS_R y) L_xq44
def L_h89 : Prop := ((5 : Int) = (5 : Int))
theorem L_g89 : ((5 : Int) = (5 : Int)) := by first | rfl | trivial | decide | omega
def L_c70 (y : LV) : Bool := BE.ev (LS_R y) L_xq48
def L_c71 (y : LV) : Bool := BE.ev (LS_R y) (.cm .ne (.v 13) (.k (1)))
def L_h95 : Prop := ((decide ((4 : Int) > (24 : Int))) = Bool.false)
theorem L_g95 : ((decide ((4 : Int) > (24 : Int))) = Bool.false) := by first | rfl | trivial | decide | omega
def L_c82 (y : LV) : Bool := BE.ev (LS_R y) L_xq49
def L_c83 (y : LV) : Bool := BE.ev (LS_R y) (.cm .ne L_xq50 L_xq34)
def L_c84 (y : LV) : Bool := BE.ev (LS_R y) (.cm .ne L_xq51 L_xq38)
def L_c85 (y : LV) : Bool := BE.ev (LS_R y) (.cm .ne L_xq52 L_xq42)
def L_c86 (y : LV) : Bool := BE.ev (LS_R y) (.cm .ne L_xq53 L_xq46)
theorem L_c65_ff_p (ρ : List Int) : IE.ev ρ (.mul (.add (.v 8) (.v 10)) (.k (1))) = IE.ev ρ (.add (.mul (.v 8) (.k (1))) (.mul (.v 10) (.k (1)))) := by first | rfl | (simp only [IE.ev]; generalize List.getD ρ 8 0 = v8; generalize List.getD ρ 10 0 = v10; grind)
theorem L_c65_ff (y : LV) (hpre : L_pre y) : L_c65 y = false :=
  BE.same_ok (L_hr y hpre) L_xq27 .ne _ _ _ (by kernel_rfl) (by kernel_rfl) L_c65_ff_p (by kernel_rfl)
theorem L_c66_ff_p (ρ : List Int) : IE.ev ρ L_xq54 = IE.ev ρ (.add L_xq55 L_xq56) := by first | rfl | (simp only [IE.ev]; generalize List.getD ρ 8 0 = v8; generalize List.getD ρ 10 0 = v10; generalize List.getD ρ 12 0 = v12; grind)
theorem L_c66_ff (y : LV) (hpre : L_pre y) : L_c66 y = false :=
  BE.same_ok (L_hr y hpre) L_xq32 .ne _ _ _ (by kernel_rfl) (by kernel_rfl) L_c66_ff_p (by kernel_rfl)
theorem L_c67_ff_p (ρ : List Int) : IE.ev ρ L_xq57 = IE.ev ρ (.add L_xq58 L_xq59) := by first | rfl | (simp only [IE.ev]; generalize List.getD ρ 8 0 = v8; generalize List.getD ρ 10 0 = v10; generalize List.getD ρ 12 0 = v12; grind)
theorem L_c67_ff (y : LV) (hpre : L_pre y) : L_c67 y = false :=
  BE.same_ok (L_hr y hpre) L_xq36 .ne _ _ _ (by kernel_rfl) (by kernel_rfl) L_c67_ff_p (by kernel_rfl)
theorem L_c68_ff_p (ρ : List Int) : IE.ev ρ L_xq60 = IE.ev ρ (.add L_xq61 L_xq62) := by first | rfl | (simp only [IE.ev]; generalize List.getD ρ 8 0 = v8; generalize List.getD ρ 10 0 = v10; generalize List.getD ρ 12 0 = v12; grind)
theorem L_c68_ff (y : LV) (hpre : L_pre y) : L_c68 y = false :=
  BE.same_ok (L_hr y hpre) L_xq40 .ne _ _ _ (by kernel_rfl) (by kernel_rfl) L_c68_ff_p (by kernel_rfl)
theorem L_c69_ff_p (ρ : List Int) : IE.ev ρ L_xq63 = IE.ev ρ (.add L_xq64 L_xq65) := by first | rfl | (simp only [IE.ev]; generalize List.getD ρ 8 0 = v8; generalize List.getD ρ 10 0 = v10; generalize List.getD ρ 12 0 = v12; grind)
theorem L_c69_ff (y : LV) (hpre : L_pre y) : L_c69 y = false :=
  BE.same_ok (L_hr y hpre) L_xq44 .ne _ _ _ (by kernel_rfl) (by kernel_rfl) L_c69_ff_p (by kernel_rfl)
theorem L_c70_ff_p (ρ : List Int) : IE.ev ρ (.add (.k (0)) (.mul (.sub (.k (0)) (.mul (.v 12) (.k (1)))) L_xq63)) = IE.ev ρ (.add L_xq66 (.add (.k (0)) (.mul (.sub (.k (0)) (.mul (.v 12) (.k (1)))) L_xq65))) := by first | rfl | (simp only [IE.ev]; generalize List.getD ρ 8 0 = v8; generalize List.getD ρ 10 0 = v10; generalize List.getD ρ 12 0 = v12; grind)
theorem L_c70_ff (y : LV) (hpre : L_pre y) : L_c70 y = false :=
  BE.same_ok (L_hr y hpre) L_xq48 .ne _ _ _ (by kernel_rfl) (by kernel_rfl) L_c70_ff_p (by kernel_rfl)
theorem L_c82_ff_p (ρ : List Int) : IE.ev ρ (.mul L_xq55 (.k (1))) = IE.ev ρ L_xq55 := by first | rfl | (simp only [IE.ev]; generalize List.getD ρ 8 0 = v8; generalize List.getD ρ 12 0 = v12; grind)
theorem L_c82_ff (y : LV) (hpre : L_pre y) : L_c82 y = false :=
  BE.same_ok (L_hr y hpre) L_xq49 .ne _ _ _ (by kernel_rfl) (by kernel_rfl) L_c82_ff_p (by kernel_rfl)
theorem L_c83_ff_p (ρ : List Int) : IE.ev ρ L_xq67 = IE.ev ρ L_xq58 := by first | rfl | (simp only [IE.ev]; generalize List.getD ρ 8 0 = v8; generalize List.getD ρ 12 0 = v12; grind)
theorem L_c83_ff (y : LV) (hpre : L_pre y) : L_c83 y = false :=
  BE.same_ok (L_hr y hpre) (.cm .ne L_xq50 L_xq34) .ne _ _ _ (by kernel_rfl) (by kernel_rfl) L_c83_ff_p (by kernel_rfl)
theorem L_c84_ff_p (ρ : List Int) : IE.ev ρ L_xq68 = IE.ev ρ L_xq61 := by first | rfl | (simp only [IE.ev]; generalize List.getD ρ 8 0 = v8; generalize List.getD ρ 12 0 = v12; grind)
theorem L_c84_ff (y : LV) (hpre : L_pre y) : L_c84 y = false :=
  BE.same_ok (L_hr y hpre) (.cm .ne L_xq51 L_xq38) .ne _ _ _ (by kernel_rfl) (by kernel_rfl) L_c84_ff_p (by kernel_rfl)
theorem L_c85_ff_p (ρ : List Int) : IE.ev ρ L_xq69 = IE.ev ρ L_xq64 := by first | rfl | (simp only [IE.ev]; generalize List.getD ρ 8 0 = v8; generalize List.getD ρ 12 0 = v12; grind)
theorem L_c85_ff (y : LV) (hpre : L_pre y) : L_c85 y = false :=
  BE.same_ok (L_hr y hpre) (.cm .ne L_xq52 L_xq42) .ne _ _ _ (by kernel_rfl) (by kernel_rfl) L_c85_ff_p (by kernel_rfl)
theorem L_c86_ff_p (ρ : List Int) : IE.ev ρ (.add (.k (0)) (.mul (.sub (.k (0)) (.mul (.v 12) (.k (1)))) L_xq69)) = IE.ev ρ L_xq66 := by first | rfl | (simp only [IE.ev]; generalize List.getD ρ 8 0 = v8; generalize List.getD ρ 12 0 = v12; grind)
theorem L_c86_ff (y : LV) (hpre : L_pre y) : L_c86 y = false :=
  BE.same_ok (L_hr y hpre) (.cm .ne L_xq53 L_xq46) .ne _ _ _ (by kernel_rfl) (by kernel_rfl) L_c86_ff_p (by kernel_rfl)
def L_L : List (BE × Bool) := [((.cm .lt (.v 12) (.k (-100))), false), ((.cm .gt (.v 12) (.k (100))), false), ((.cm .lt (.v 13) (.k (-100))), false), ((.cm .gt (.v 13) (.k (100))), false), ((.cm .lt (.v 15) (.k (-100))), false), ((.cm .gt (.v 15) (.k (100))), false), ((.cm .lt (.v 16) (.k (-100))), false), ((.cm .gt (.v 16) (.k (100))), false), ((.cm .lt (.v 17) (.k (-100))), false), ((.cm .gt (.v 17) (.k (100))), false), ((.cm .lt L_xq12 (.k (-100))), false), ((.cm .gt L_xq12 (.k (100))), false), ((.cm .lt L_xq9 (.k (-100))), false), ((.cm .gt L_xq9 (.k (100))), false), ((.cm .lt L_xq6 (.k (-100))), false), ((.cm .gt L_xq6 (.k (100))), false), ((.cm .lt L_xq3 (.k (-100))), false), ((.cm .gt L_xq3 (.k (100))), false), ((.cm .lt (.wr (.add (.v 15) (.v 12))) (.k (-100))), false), ((.cm .gt (.wr (.add (.v 15) (.v 12))) (.k (100))), false), ((.cm .lt (.wr (.add (.v 16) (.v 13))) (.k (-100))), false), ((.cm .gt (.wr (.add (.v 16) (.v 13))) (.k (100))), false), ((.cm .lt (.v 8) (.k (-1000))), false), ((.cm .gt (.v 8) (.k (1000))), false), ((.cm .lt L_xq30 (.k (-1073741824))), false), ((.cm .gt L_xq30 (.k (1073741824))), false), ((.cm .lt L_xq34 (.k (-1073741824))), false), ((.cm .gt L_xq34 (.k (1073741824))), false), ((.cm .lt L_xq38 (.k (-1073741824))), false), ((.cm .gt L_xq38 (.k (1073741824))), false), ((.cm .lt L_xq42 (.k (-1073741824))), false), ((.cm .gt L_xq42 (.k (1073741824))), false), ((.cm .lt L_xq46 (.k (-1073741824))), false), ((.cm .gt L_xq46 (.k (1073741824))), false), ((.cm .lt (.v 10) (.k (-1000))), false), ((.cm .gt (.v 10) (.k (1000))), false), ((.cm .lt L_xq31 (.k (-1073741824))), false), ((.cm .gt L_xq31 (.k (1073741824))), false), ((.cm .lt L_xq35 (.k (-1073741824))), false), ((.cm .gt L_xq35 (.k (1073741824))), false), ((.cm .lt L_xq39 (.k (-1073741824))), false), ((.cm .gt L_xq39 (.k (1073741824))), false), ((.cm .lt L_xq43 (.k (-1073741824))), false), ((.cm .gt L_xq43 (.k (1073741824))), false), ((.cm .lt L_xq47 (.k (-1073741824))), false), ((.cm .gt L_xq47 (.k (1073741824))), false), ((.cm .lt (.wr (.add (.v 8) (.v 10))) (.k (-1000))), false), ((.cm .gt (.wr (.add (.v 8) (.v 10))) (.k (1000))), false), ((.cm .lt L_xq29 (.k (-1073741824))), false), ((.cm .gt L_xq29 (.k (1073741824))), false), ((.cm .lt L_xq33 (.k (-1073741824))), false), ((.cm .gt L_xq33 (.k (1073741824))), false), ((.cm .lt L_xq37 (.k (-1073741824))), false), ((.cm .gt L_xq37 (.k (1073741824))), false), ((.cm .lt L_xq41 (.k (-1073741824))), false), ((.cm .gt L_xq41 (.k (1073741824))), false), ((.cm .lt L_xq45 (.k (-1073741824))), false), ((.cm .gt L_xq45 (.k (1073741824))), false), ((.cm .lt L_xq30 (.k (-1000))), false), ((.cm .gt L_xq30 (.k (1000))), false), ((.cm .lt L_xq50 (.k (-1073741824))), false), ((.cm .gt L_xq50 (.k (1073741824))), false), ((.cm .lt L_xq51 (.k (-1073741824))), false), ((.cm .gt L_xq51 (.k (1073741824))), false), ((.cm .lt L_xq52 (.k (-1073741824))), false), ((.cm .gt L_xq52 (.k (1073741824))), false), ((.cm .lt L_xq53 (.k (-1073741824))), false), ((.cm .gt L_xq53 (.k (1073741824))), false)]
def L_E (y : LV) : List Prop := [L_h0, L_h1, L_h2, L_h3, L_h4, L_h5, L_h7, L_h10, L_h16, L_h17, L_h18, L_h19, L_h26, L_h27, L_h28, L_h38, L_h40, L_h48, L_h57, (L_c65 y = false), (L_c66 y = false), (L_c67 y = false), (L_c68 y = false), (L_c69 y = false), L_h89, (L_c70 y = false), L_h95, (L_c82 y = false), (L_c83 y = false), (L_c84 y = false), (L_c85 y = false), (L_c86 y = false)]
def L_T (y : LV) : Nat → Prop := tabP (LS_R y) L_L 68 (L_E y)
theorem L_tT (y : LV) (hpre : L_pre y) : ∀ i, L_T y i := fun i => tabP_ok (E := L_E y) (L_hr y hpre) (by kernel_rfl) (aC L_g0 (aC L_g1 (aC L_g2 (aC L_g3 (aC L_g4 (aC L_g5 (aC L_g7 (aC L_g10 (aC L_g16 (aC L_g17 (aC L_g18 (aC L_g19 (aC L_g26 (aC L_g27 (aC L_g28 (aC L_g38 (aC L_g40 (aC L_g48 (aC L_g57 (aC (L_c65_ff y hpre) (aC (L_c66_ff y hpre) (aC (L_c67_ff y hpre) (aC (L_c68_ff y hpre) (aC (L_c69_ff y hpre) (aC L_g89 (aC (L_c70_ff y hpre) (aC L_g95 (aC (L_c82_ff y hpre) (aC (L_c83_ff y hpre) (aC (L_c84_ff y hpre) (aC (L_c85_ff y hpre) (aC (L_c86_ff y hpre) (aN))))))))))))))))))))))))))))))))) i
def L_w0 (y : LV) : Value := .bool Bool.true
def L_r0 (y : LV) : Prop := (cjD (L_T y) 256 (((((((cjD (L_T y) 256 ((cjD (L_T y) 256 ((cjD (L_T y) 256 ((cjD (L_T y) 256 ((cjD (L_T y) 256 (((cjD (L_T y) 256 ((cjD (L_T y) 256 ((cjD (L_T y) 256 ((cjD (L_T y) 256 ((cjD (L_T y) 256 (((cjD (L_T y) 256 ((cjD (L_T y) 256 ((cjD (L_T y) 256 (((cjD (L_T y) 256 (((cjD (L_T y) 256 ((cjD (L_T y) 256 ((cjD (L_T y) 256 ((cjD (L_T y) 256 True 19 0x49494948494949494946464844464744464544) ∧ (L_c0 y = true)) 9 0x4a4a4a474a4a4a4a4a) ∧ (L_c1 y = false)) 19 0x49494948494949494946464844464744464544) ∧ (L_c2 y = false)) 30 0x474646460302020202474446010000000045444b46464646464646474645) ∧ (L_c1 y = false)) ∧ (L_c7 y = false)) 44 0x4846464609080808084844460706060606474446050404040445444f464e46454d46474c4646464744464544) ∧ (L_c2 y = false)) ∧ (L_c7 y = false)) 39 0x474646460302020202474446010000000045444b464e46454d46474c4648504646464744464544) ∧ (L_c1 y = false)) 29 0x4846464609080808084844460706060606474446050404040445444f46) ∧ (L_c2 y = false)) 121 0x5146464611101010105144460f0e0e0e0e4844460d0c0c0c0c4744460b0a0a0a0a454452464446464646464646464646464611101010105144460f0e0e0e0e4844460d0c0c0c0c4744460b0a0a0a0a454452464651514844484847444747454447444648484844474747444545454445444646464744464544) ∧ (L_c22 y = false)) ∧ (L_c7 y = false)) 27 0x4646464646464e46454d46474c4648504651534646464744464544) ∧ (L_c23 y = false)) 21 0x474646460302020202474446010000000045444b46) ∧ (L_c1 y = false)) 29 0x4846464609080808084844460706060606474446050404040445444f46) ∧ (L_c2 y = false)) 27 0x494949484949494946474747444545454454444646464744464544) ∧ (L_c2 y = false)) 57 0x4846464609080808084844461514141414474446131212121245444f4644464646090808080848444615141414144744461312121212454446) ∧ (L_c2 y = false)) ∧ (L_c7 y = false)) 24 0x4646464646464e46454d46474c4648504646464744464544) ∧ (L_c28 y = false)) 30 0x474646460302020202474446010000000045444b46464545444745474546) ∧ (L_c1 y = false)) 120 0x474646460302020202474446010000000045444b46464621202020204656454444461f1e1e1e1e4651454444461d1c1c1c1c4648454444461b1a1a1a1a4647454444461918181818464545444446454544464546474544464546474544464646484446474446454455464646464646171616161645444646) ∧ (L_c1 y = false)) 120 0x474646460302020202474446010000000045444b4646462d2c2c2c2c4656454444462b2a2a2a2a465145444446292828282846484544444627262626264647454444462524242424464545444446454544464546474544464546474544464646484446474446454455464646464646232222222245444646) ∧ (L_c1 y = false)) 150 0x47465d5c5c5c445b565656445a51515144594848484458474747445745454544464646464646464646464646464646464646464646393838383846564544444637363636364651454444463534343434464845444446333232323246474544444631303030304645454444464545444645464745444645464745444646464844464744464544554646464646462f2e2e2e2e45444646) ∧ (L_c71 y = true)) ∧ (L_c71 y = true)) ∧ (L_c71 y = true)) ∧ (L_c71 y = true)) ∧ (L_c71 y = true)) ∧ (L_c71 y = true)) 8 0x4444444444444444)
theorem L_o0 (y : LV) : (obOf (L_e0 y.a0 y.a1 y.a2 y.b0 y.b1 y.b2 y.z0 y.z1), resOf (L_e0 y.a0 y.a1 y.a2 y.b0 y.b1 y.b2 y.z0 y.z1), cleanOf Tryz.prog.globals.size (L_e0 y.a0 y.a1 y.a2 y.b0 y.b1 y.b2 y.z0 y.z1)) = (L_r0 y, L_w0 y, true) := by kernel_rfl
theorem L_q0 (y : LV) : L_e0 y.a0 y.a1 y.a2 y.b0 y.b1 y.b2 y.z0 y.z1 = evFS Tryz.prog x_L 1000 10 #[.agg #[.int .i8 y.a0, .int .i8 y.a1, .int .i8 y.a2], .agg #[.int .i8 y.b0, .int .i8 y.b1, .int .i8 y.b2], .agg #[.int .i8 y.z0, .int .i8 y.z1]] aw3S0 ⟨L_k0, True⟩ := by
  delta L_e0
  exact Eq.refl _
theorem L_p0 (y : LV) (h : L_r0 y) (w : World) (hh : Holds Tryz.prog aw3S0 w) : Calls Tryz.prog 10 #[.agg #[.int .i8 y.a0, .int .i8 y.a1, .int .i8 y.a2], .agg #[.int .i8 y.b0, .int .i8 y.b1, .int .i8 y.b2], .agg #[.int .i8 y.z0, .int .i8 y.z1]] w fun en w' => en = .returned (L_w0 y) ∧ Below w.heap.size w w' := by
  have h3 := L_o0 y
  have hv : resOf (L_e0 y.a0 y.a1 y.a2 y.b0 y.b1 y.b2 y.z0 y.z1) = L_w0 y := congrArg (fun z => z.2.1) h3
  have hc : cleanOf Tryz.prog.globals.size (L_e0 y.a0 y.a1 y.a2 y.b0 y.b1 y.b2 y.z0 y.z1) = true := congrArg (fun z => z.2.2) h3
  have he := L_q0 y
  have ho : obOf (L_e0 y.a0 y.a1 y.a2 y.b0 y.b1 y.b2 y.z0 y.z1) = L_r0 y := congrArg (fun z => z.1) h3
  clear h3
  generalize L_e0 y.a0 y.a1 y.a2 y.b0 y.b1 y.b2 y.z0 y.z1 = r at *
  exact calls_way he gfol L_X hv rfl (L_args y) hc ho h hh
def L_w1 (y : LV) : Value := .bool Bool.true
def L_r1 (y : LV) : Prop := (cjD (L_T y) 256 ((cjD (L_T y) 256 (((cjD (L_T y) 256 (((cjD (L_T y) 256 (((cjD (L_T y) 256 ((cjD (L_T y) 256 ((cjD (L_T y) 256 ((cjD (L_T y) 256 ((cjD (L_T y) 256 (((cjD (L_T y) 256 ((cjD (L_T y) 256 ((cjD (L_T y) 256 ((cjD (L_T y) 256 ((cjD (L_T y) 256 (((cjD (L_T y) 256 ((cjD (L_T y) 256 ((cjD (L_T y) 256 (((cjD (L_T y) 256 (((cjD (L_T y) 256 ((cjD (L_T y) 256 ((cjD (L_T y) 256 ((cjD (L_T y) 256 True 19 0x49494948494949494946464844464744464544) ∧ (L_c0 y = true)) 9 0x4a4a4a474a4a4a4a4a) ∧ (L_c1 y = false)) 19 0x49494948494949494946464844464744464544) ∧ (L_c2 y = false)) 30 0x474646460302020202474446010000000045444b46464646464646474645) ∧ (L_c1 y = false)) ∧ (L_c7 y = false)) 44 0x4846464609080808084844460706060606474446050404040445444f464e46454d46474c4646464744464544) ∧ (L_c2 y = false)) ∧ (L_c7 y = false)) 39 0x474646460302020202474446010000000045444b464e46454d46474c4648504646464744464544) ∧ (L_c1 y = false)) 29 0x4846464609080808084844460706060606474446050404040445444f46) ∧ (L_c2 y = false)) 121 0x5146464611101010105144460f0e0e0e0e4844460d0c0c0c0c4744460b0a0a0a0a454452464446464646464646464646464611101010105144460f0e0e0e0e4844460d0c0c0c0c4744460b0a0a0a0a454452464651514844484847444747454447444648484844474747444545454445444646464744464544) ∧ (L_c22 y = false)) ∧ (L_c7 y = false)) 27 0x4646464646464e46454d46474c4648504651534646464744464544) ∧ (L_c23 y = false)) 21 0x474646460302020202474446010000000045444b46) ∧ (L_c1 y = false)) 29 0x4846464609080808084844460706060606474446050404040445444f46) ∧ (L_c2 y = false)) 27 0x494949484949494946474747444545454454444646464744464544) ∧ (L_c2 y = false)) 57 0x4846464609080808084844461514141414474446131212121245444f4644464646090808080848444615141414144744461312121212454446) ∧ (L_c2 y = false)) ∧ (L_c7 y = false)) 24 0x4646464646464e46454d46474c4648504646464744464544) ∧ (L_c28 y = false)) 30 0x474646460302020202474446010000000045444b46464545444745474546) ∧ (L_c1 y = false)) 120 0x474646460302020202474446010000000045444b46464621202020204656454444461f1e1e1e1e4651454444461d1c1c1c1c4648454444461b1a1a1a1a4647454444461918181818464545444446454544464546474544464546474544464646484446474446454455464646464646171616161645444646) ∧ (L_c1 y = false)) 120 0x474646460302020202474446010000000045444b4646462d2c2c2c2c4656454444462b2a2a2a2a465145444446292828282846484544444627262626264647454444462524242424464545444446454544464546474544464546474544464646484446474446454455464646464646232222222245444646) ∧ (L_c1 y = false)) 150 0x47465d5c5c5c445b565656445a51515144594848484458474747445745454544464646464646464646464646464646464646464646393838383846564544444637363636364651454444463534343434464845444446333232323246474544444631303030304645454444464545444645464745444645464745444646464844464744464544554646464646462f2e2e2e2e45444646) ∧ (L_c71 y = false)) ∧ (L_c71 y = false)) 1 0x47) ∧ (L_c71 y = false)) ∧ (L_c71 y = false)) 5 0x3b3a3a3a3a) ∧ (L_c71 y = false)) ∧ (L_c71 y = false)) 35 0x474646460302020202474446010000000045444b464646463b3a3a3a3a464647464646) ∧ (L_c1 y = false)) 117 0x44444446635656446251514461484844604747445f45454446444444444646434242424246514544444641404040404648454444463f3e3e3e3e4647454444463d3c3c3c3c46454544444645454446454647454446454647454446464648444647444645445e4646464646463b3a3a3a3a45444646)
theorem L_o1 (y : LV) : (obOf (L_e1 y.a0 y.a1 y.a2 y.b0 y.b1 y.b2 y.z0 y.z1), resOf (L_e1 y.a0 y.a1 y.a2 y.b0 y.b1 y.b2 y.z0 y.z1), cleanOf Tryz.prog.globals.size (L_e1 y.a0 y.a1 y.a2 y.b0 y.b1 y.b2 y.z0 y.z1)) = (L_r1 y, L_w1 y, true) := by kernel_rfl
theorem L_q1 (y : LV) : L_e1 y.a0 y.a1 y.a2 y.b0 y.b1 y.b2 y.z0 y.z1 = evFS Tryz.prog x_L 1000 10 #[.agg #[.int .i8 y.a0, .int .i8 y.a1, .int .i8 y.a2], .agg #[.int .i8 y.b0, .int .i8 y.b1, .int .i8 y.b2], .agg #[.int .i8 y.z0, .int .i8 y.z1]] aw3S0 ⟨L_k1, True⟩ := by
  delta L_e1
  exact Eq.refl _
theorem L_p1 (y : LV) (h : L_r1 y) (w : World) (hh : Holds Tryz.prog aw3S0 w) : Calls Tryz.prog 10 #[.agg #[.int .i8 y.a0, .int .i8 y.a1, .int .i8 y.a2], .agg #[.int .i8 y.b0, .int .i8 y.b1, .int .i8 y.b2], .agg #[.int .i8 y.z0, .int .i8 y.z1]] w fun en w' => en = .returned (L_w1 y) ∧ Below w.heap.size w w' := by
  have h3 := L_o1 y
  have hv : resOf (L_e1 y.a0 y.a1 y.a2 y.b0 y.b1 y.b2 y.z0 y.z1) = L_w1 y := congrArg (fun z => z.2.1) h3
  have hc : cleanOf Tryz.prog.globals.size (L_e1 y.a0 y.a1 y.a2 y.b0 y.b1 y.b2 y.z0 y.z1) = true := congrArg (fun z => z.2.2) h3
  have he := L_q1 y
  have ho : obOf (L_e1 y.a0 y.a1 y.a2 y.b0 y.b1 y.b2 y.z0 y.z1) = L_r1 y := congrArg (fun z => z.1) h3
  clear h3
  generalize L_e1 y.a0 y.a1 y.a2 y.b0 y.b1 y.b2 y.z0 y.z1 = r at *
  exact calls_way he gfol L_X hv rfl (L_args y) hc ho h hh
theorem L_y0 (ρ : List Int) : IE.ev ρ (.v 18) = IE.ev ρ (.v 18) := by first | rfl | (simp only [IE.ev]; done) | (simp only [IE.ev]; generalize List.getD ρ 18 0 = v18; grind)
theorem L_y1 (ρ : List Int) : IE.ev ρ (.v 19) = IE.ev ρ (.v 19) := by first | rfl | (simp only [IE.ev]; done) | (simp only [IE.ev]; generalize List.getD ρ 19 0 = v19; grind)
theorem L_y2 (ρ : List Int) : IE.ev ρ L_xq77 = IE.ev ρ L_xq84 := by first | rfl | (simp only [IE.ev]; done) | (simp only [IE.ev]; generalize List.getD ρ 12 0 = v12; generalize List.getD ρ 13 0 = v13; generalize List.getD ρ 15 0 = v15; generalize List.getD ρ 16 0 = v16; generalize List.getD ρ 17 0 = v17; generalize List.getD ρ 18 0 = v18; generalize List.getD ρ 19 0 = v19; grind)
theorem L_y3 (ρ : List Int) : IE.ev ρ L_xq85 = IE.ev ρ L_xq86 := by first | rfl | (simp only [IE.ev]; done) | (simp only [IE.ev]; generalize List.getD ρ 12 0 = v12; generalize List.getD ρ 13 0 = v13; generalize List.getD ρ 15 0 = v15; generalize List.getD ρ 16 0 = v16; generalize List.getD ρ 17 0 = v17; generalize List.getD ρ 18 0 = v18; generalize List.getD ρ 19 0 = v19; grind)
theorem L_y4 (ρ : List Int) : IE.ev ρ L_xq87 = IE.ev ρ (.add L_xq78 L_xq81) := by first | rfl | (simp only [IE.ev]; done) | (simp only [IE.ev]; generalize List.getD ρ 12 0 = v12; generalize List.getD ρ 13 0 = v13; generalize List.getD ρ 15 0 = v15; generalize List.getD ρ 16 0 = v16; generalize List.getD ρ 17 0 = v17; generalize List.getD ρ 18 0 = v18; generalize List.getD ρ 19 0 = v19; grind)
theorem L_y5 (ρ : List Int) : IE.ev ρ L_xq88 = IE.ev ρ (.add L_xq82 L_xq83) := by first | rfl | (simp only [IE.ev]; done) | (simp only [IE.ev]; generalize List.getD ρ 13 0 = v13; generalize List.getD ρ 16 0 = v16; generalize List.getD ρ 17 0 = v17; generalize List.getD ρ 18 0 = v18; generalize List.getD ρ 19 0 = v19; grind)
theorem L_t0 (y : LV) (hpre : L_pre y) : (L_c7 y = false) := by
  have hr := (L_hr y hpre)
  have e0 := IE.str_eq hr (.ite .lt (.k (8)) L_xq0 (.k (8)) L_xq0) (.v 18) (.v 18) (.v 18) (L_y0 (LS_R y)) (by kernel_rfl) (by kernel_rfl) (by kernel_rfl) (by kernel_rfl)
  have e1 := IE.str_eq hr (.ite .lt (.k (8)) L_xq1 (.k (8)) L_xq1) (.v 19) (.v 19) (.v 19) (L_y1 (LS_R y)) (by kernel_rfl) (by kernel_rfl) (by kernel_rfl) (by kernel_rfl)
  show (Bool.not (Bool.and (IE.ev (LS_R y) (.ite .lt (.k (8)) L_xq0 (.k (8)) L_xq0) == IE.ev (LS_R y) (.v 18)) (Bool.and (IE.ev (LS_R y) (.ite .lt (.k (8)) L_xq1 (.k (8)) L_xq1) == IE.ev (LS_R y) (.v 19)) true))) = false
  rw [e0, e1]
  first | done | rfl | simp
theorem L_t1 (y : LV) (hpre : L_pre y) (k0 : (L_c1 y = false)) (k1 : (L_c2 y = false)) : (L_c22 y = false) := notT (orF (orF (BE.au_ok (e := (.or (.cm .eq (.v 17) (.k (0))) (.or (.cm .eq (.v 13) (.k (0))) (.not (.cm .eq L_xq3 (.k (0))))))) (by kernel_rfl) (vs := [(17, 2), (13, 1)]) 200 (L_hr y hpre) (by kernel_rfl)) k1) k0)
theorem L_t2 (y : LV) (hpre : L_pre y) : (L_c23 y = false) := by
  have hr := (L_hr y hpre)
  have e0 := IE.str_eq hr L_xq13 L_xq20 L_xq77 L_xq84 (L_y2 (LS_R y)) (by kernel_rfl) (by kernel_rfl) (by kernel_rfl) (by kernel_rfl)
  have e1 := IE.str_eq hr L_xq21 L_xq22 L_xq85 L_xq86 (L_y3 (LS_R y)) (by kernel_rfl) (by kernel_rfl) (by kernel_rfl) (by kernel_rfl)
  show (Bool.not (Bool.and (IE.ev (LS_R y) L_xq13 == IE.ev (LS_R y) L_xq20) (Bool.and (IE.ev (LS_R y) L_xq21 == IE.ev (LS_R y) L_xq22) true))) = false
  rw [e0, e1]
  first | done | rfl | simp
theorem L_t3 (y : LV) (hpre : L_pre y) : (L_c28 y = false) := by
  have hr := (L_hr y hpre)
  have e0 := IE.str_eq hr L_xq24 (.wr (.add L_xq14 L_xq17)) L_xq87 (.add L_xq78 L_xq81) (L_y4 (LS_R y)) (by kernel_rfl) (by kernel_rfl) (by kernel_rfl) (by kernel_rfl)
  have e1 := IE.str_eq hr L_xq25 (.wr (.add L_xq18 L_xq19)) L_xq88 (.add L_xq82 L_xq83) (L_y5 (LS_R y)) (by kernel_rfl) (by kernel_rfl) (by kernel_rfl) (by kernel_rfl)
  show (Bool.not (Bool.and (IE.ev (LS_R y) L_xq24 == IE.ev (LS_R y) (.wr (.add L_xq14 L_xq17))) (Bool.and (IE.ev (LS_R y) L_xq25 == IE.ev (LS_R y) (.wr (.add L_xq18 L_xq19))) true))) = false
  rw [e0, e1]
  first | done | rfl | simp
theorem L_any (y : LV) (hpre : L_pre y) (w : World) (hh : Holds Tryz.prog aw3S0 w) : Calls Tryz.prog 10 #[.agg #[.int .i8 y.a0, .int .i8 y.a1, .int .i8 y.a2], .agg #[.int .i8 y.b0, .int .i8 y.b1, .int .i8 y.b2], .agg #[.int .i8 y.z0, .int .i8 y.z1]] w fun en w' => en = .returned (.bool true) ∧ Below w.heap.size w w' := by
  have hg0 : (L_c0 y = true) := (show L_c0 y = BE.ev (LS_R y) (.cm .eq (.v 14) (.k (0))) by kernel_rfl).trans (beq_iff_eq.2 hpre.2.2.2.2.1)
  have hg1 : (L_c1 y = false) := (show L_c1 y = BE.ev (LS_R y) (.cm .eq (.v 13) (.k (0))) by kernel_rfl).trans (beq_eq_false_iff_ne.2 hpre.2.2.2.2.2.1)
  have hg2 : (L_c2 y = false) := (show L_c2 y = BE.ev (LS_R y) (.cm .eq (.v 17) (.k (0))) by kernel_rfl).trans (beq_eq_false_iff_ne.2 hpre.2.2.2.2.2.2)
  have h4 := L_t0 y hpre
  have h19 := L_t1 y hpre hg1 hg2
  have h20 := L_t2 y hpre
  have h25 := L_t3 y hpre
  rcases Bool.eq_false_or_eq_true (L_c71 y) with h68 | h68
  ·
    have hp := L_p0 y (cjD_i (L_tT y hpre) (And.intro (And.intro (And.intro (And.intro (And.intro (And.intro (cjD_i (L_tT y hpre) (And.intro (cjD_i (L_tT y hpre) (And.intro (cjD_i (L_tT y hpre) (And.intro (cjD_i (L_tT y hpre) (And.intro (cjD_i (L_tT y hpre) (And.intro (And.intro (cjD_i (L_tT y hpre) (And.intro (cjD_i (L_tT y hpre) (And.intro (cjD_i (L_tT y hpre) (And.intro (cjD_i (L_tT y hpre) (And.intro (cjD_i (L_tT y hpre) (And.intro (And.intro (cjD_i (L_tT y hpre) (And.intro (cjD_i (L_tT y hpre) (And.intro (cjD_i (L_tT y hpre) (And.intro (And.intro (cjD_i (L_tT y hpre) (And.intro (And.intro (cjD_i (L_tT y hpre) (And.intro (cjD_i (L_tT y hpre) (And.intro (cjD_i (L_tT y hpre) (And.intro (cjD_i (L_tT y hpre) trivial) hg0)) hg1)) hg2)) hg1) h4)) hg2) h4)) hg1)) hg2)) h19) h4)) h20)) hg1)) hg2)) hg2)) hg2) h4)) h25)) hg1)) hg1)) hg1)) h68) h68) h68) h68) h68) h68)) w hh
    have hv : L_w0 y = (.bool true) := by
      clear hp hh
      unfold L_w0
      rfl
    exact hv ▸ hp
  ·
    have hp := L_p1 y (cjD_i (L_tT y hpre) (And.intro (cjD_i (L_tT y hpre) (And.intro (And.intro (cjD_i (L_tT y hpre) (And.intro (And.intro (cjD_i (L_tT y hpre) (And.intro (And.intro (cjD_i (L_tT y hpre) (And.intro (cjD_i (L_tT y hpre) (And.intro (cjD_i (L_tT y hpre) (And.intro (cjD_i (L_tT y hpre) (And.intro (cjD_i (L_tT y hpre) (And.intro (And.intro (cjD_i (L_tT y hpre) (And.intro (cjD_i (L_tT y hpre) (And.intro (cjD_i (L_tT y hpre) (And.intro (cjD_i (L_tT y hpre) (And.intro (cjD_i (L_tT y hpre) (And.intro (And.intro (cjD_i (L_tT y hpre) (And.intro (cjD_i (L_tT y hpre) (And.intro (cjD_i (L_tT y hpre) (And.intro (And.intro (cjD_i (L_tT y hpre) (And.intro (And.intro (cjD_i (L_tT y hpre) (And.intro (cjD_i (L_tT y hpre) (And.intro (cjD_i (L_tT y hpre) (And.intro (cjD_i (L_tT y hpre) trivial) hg0)) hg1)) hg2)) hg1) h4)) hg2) h4)) hg1)) hg2)) h19) h4)) h20)) hg1)) hg2)) hg2)) hg2) h4)) h25)) hg1)) hg1)) hg1)) h68) h68)) h68) h68)) h68) h68)) hg1)) w hh
    have hv : L_w1 y = (.bool true) := by
      clear hp hh
      unfold L_w1
      rfl
    exact hv ▸ hp
end Go.Proofs.YtbkpnhbcihcgaaaGreatDoor
