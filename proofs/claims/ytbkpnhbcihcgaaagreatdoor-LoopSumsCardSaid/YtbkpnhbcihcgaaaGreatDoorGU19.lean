/-
  The contract of bipole.bipolelaw03.LoopSums.
-/
import Derived.Test.YtbkpnhbcihcgaaaGreatDoorGU2
import Derived.Test.YtbkpnhbcihcgaaaGreatDoorGU3
import Derived.Test.YtbkpnhbcihcgaaaGreatDoorGU12
set_option linter.all false
set_option maxRecDepth 1000000
set_option maxHeartbeats 2000000
open Go.RowKit
namespace Go.Proofs.YtbkpnhbcihcgaaaGreatDoor
open Mini
def N_at0 (y : Int) : Int := (Int.tmod (IntKind.i64.wrap y) (8 : Int))
abbrev N_xq0 : IE := .ite .gt (.k (-8)) (.v 18) (.k (-8)) (.v 18)
abbrev N_xq1 : IE := .ite .gt (.k (-8)) (.v 19) (.k (-8)) (.v 19)
abbrev N_xq2 : BE := .and (.cm .eq (.ite .lt (.k (8)) N_xq0 (.k (8)) N_xq0) (.v 18)) (.and (.cm .eq (.ite .lt (.k (8)) N_xq1 (.k (8)) N_xq1) (.v 19)) .t)
abbrev N_xq3 : IE := .wr (.add (.k (0)) (.wr (.mul (.v 14) (.v 15))))
abbrev N_xq4 : IE := .wr (.sub (.wr (.mul (.k (0)) (.v 18))) (.wr (.mul (.k (0)) (.v 19))))
abbrev N_xq5 : IE := .wr (.add (.wr (.mul (.k (0)) (.v 19))) (.wr (.mul (.k (0)) (.v 18))))
abbrev N_xq6 : IE := .wr (.add (.k (0)) (.wr (.mul (.v 13) (.v 15))))
abbrev N_xq7 : IE := .wr (.add (.wr (.sub (.wr (.mul (.wr (.add N_xq4 N_xq3)) (.v 18))) (.wr (.mul N_xq5 (.v 19))))) N_xq6)
abbrev N_xq8 : IE := .wr (.add (.wr (.mul (.wr (.add N_xq4 N_xq3)) (.v 19))) (.wr (.mul N_xq5 (.v 18))))
abbrev N_xq9 : IE := .wr (.add (.k (0)) (.wr (.mul (.v 12) (.v 15))))
abbrev N_xq10 : IE := .wr (.add (.wr (.sub (.wr (.mul N_xq7 (.v 18))) (.wr (.mul N_xq8 (.v 19))))) N_xq9)
abbrev N_xq11 : IE := .wr (.add (.wr (.sub (.wr (.mul (.wr (.add N_xq4 (.v 14))) (.v 18))) (.wr (.mul N_xq5 (.v 19))))) (.v 13))
abbrev N_xq12 : IE := .wr (.add (.wr (.mul (.wr (.add N_xq4 (.v 14))) (.v 19))) (.wr (.mul N_xq5 (.v 18))))
abbrev N_xq13 : IE := .wr (.sub (.wr (.mul N_xq11 (.v 18))) (.wr (.mul N_xq12 (.v 19))))
abbrev N_xq14 : IE := .wr (.add (.wr (.mul N_xq11 (.v 19))) (.wr (.mul N_xq12 (.v 18))))
abbrev N_xq15 : IE := .wr (.sub (.wr (.mul (.wr (.add N_xq13 (.v 12))) (.wr (.add N_xq4 (.v 15))))) (.wr (.mul N_xq14 N_xq5)))
abbrev N_xq16 : IE := .wr (.add (.wr (.mul N_xq7 (.v 19))) (.wr (.mul N_xq8 (.v 18))))
abbrev N_xq17 : IE := .wr (.add (.wr (.mul (.wr (.add N_xq13 (.v 12))) N_xq5)) (.wr (.mul N_xq14 (.wr (.add N_xq4 (.v 15))))))
abbrev N_xq18 : IE := .wr (.add N_xq13 (.wr (.add (.v 12) (.v 15))))
abbrev N_xq19 : IE := .wr (.add (.wr (.add N_xq13 (.v 12))) (.wr (.add N_xq4 (.v 15))))
abbrev N_xq20 : IE := .wr (.mul (.wr (.add (.v 8) (.v 10))) (.k (1)))
abbrev N_xq21 : BE := .cm .ne N_xq20 (.wr (.add (.wr (.mul (.v 8) (.k (1)))) (.wr (.mul (.v 10) (.k (1))))))
abbrev N_xq22 : IE := .wr (.mul (.wr (.add (.v 9) (.v 11))) (.wr (.mul (.k (1)) (.v 14))))
abbrev N_xq23 : IE := .wr (.mul (.v 9) (.wr (.mul (.k (1)) (.v 14))))
abbrev N_xq24 : IE := .wr (.mul (.v 11) (.wr (.mul (.k (1)) (.v 14))))
abbrev N_xq25 : BE := .cm .ne N_xq22 (.wr (.add N_xq23 N_xq24))
abbrev N_xq26 : IE := .wr (.sub (.k (0)) (.wr (.mul (.v 12) (.wr (.mul (.k (1)) (.v 14))))))
abbrev N_xq27 : IE := .wr (.sub (.k (0)) (.wr (.mul (.v 13) (.k (1)))))
abbrev N_xq28 : IE := .wr (.add (.wr (.add (.k (0)) (.wr (.mul N_xq26 N_xq20)))) (.wr (.mul N_xq27 N_xq22)))
abbrev N_xq29 : IE := .wr (.add (.wr (.add (.k (0)) (.wr (.mul N_xq26 (.wr (.mul (.v 8) (.k (1)))))))) (.wr (.mul N_xq27 N_xq23)))
abbrev N_xq30 : IE := .wr (.add (.wr (.add (.k (0)) (.wr (.mul N_xq26 (.wr (.mul (.v 10) (.k (1)))))))) (.wr (.mul N_xq27 N_xq24)))
abbrev N_xq31 : BE := .cm .ne N_xq28 (.wr (.add N_xq29 N_xq30))
abbrev N_xq32 : IE := .wr (.add (.wr (.add (.k (0)) (.wr (.mul N_xq26 N_xq22)))) (.wr (.mul N_xq27 N_xq28)))
abbrev N_xq33 : IE := .wr (.add (.wr (.add (.k (0)) (.wr (.mul N_xq26 N_xq23)))) (.wr (.mul N_xq27 N_xq29)))
abbrev N_xq34 : IE := .wr (.add (.wr (.add (.k (0)) (.wr (.mul N_xq26 N_xq24)))) (.wr (.mul N_xq27 N_xq30)))
abbrev N_xq35 : BE := .cm .ne N_xq32 (.wr (.add N_xq33 N_xq34))
abbrev N_xq36 : IE := .wr (.add (.wr (.add (.k (0)) (.wr (.mul N_xq26 N_xq28)))) (.wr (.mul N_xq27 N_xq32)))
abbrev N_xq37 : IE := .wr (.add (.wr (.add (.k (0)) (.wr (.mul N_xq26 N_xq29)))) (.wr (.mul N_xq27 N_xq33)))
abbrev N_xq38 : IE := .wr (.add (.wr (.add (.k (0)) (.wr (.mul N_xq26 N_xq30)))) (.wr (.mul N_xq27 N_xq34)))
abbrev N_xq39 : BE := .cm .ne N_xq36 (.wr (.add N_xq37 N_xq38))
abbrev N_xq40 : IE := .wr (.add (.wr (.add (.k (0)) (.wr (.mul N_xq26 N_xq32)))) (.wr (.mul N_xq27 N_xq36)))
abbrev N_xq41 : IE := .wr (.add (.wr (.add (.k (0)) (.wr (.mul N_xq26 N_xq33)))) (.wr (.mul N_xq27 N_xq37)))
abbrev N_xq42 : IE := .wr (.add (.wr (.add (.k (0)) (.wr (.mul N_xq26 N_xq34)))) (.wr (.mul N_xq27 N_xq38)))
abbrev N_xq43 : BE := .cm .ne N_xq40 (.wr (.add N_xq41 N_xq42))
abbrev N_xq44 : IE := .wr (.add (.wr (.add (.k (0)) (.wr (.mul N_xq26 N_xq36)))) (.wr (.mul N_xq27 N_xq40)))
abbrev N_xq45 : IE := .wr (.add (.wr (.add (.k (0)) (.wr (.mul N_xq26 N_xq37)))) (.wr (.mul N_xq27 N_xq41)))
abbrev N_xq46 : IE := .wr (.add (.wr (.add (.k (0)) (.wr (.mul N_xq26 N_xq38)))) (.wr (.mul N_xq27 N_xq42)))
abbrev N_xq47 : BE := .cm .ne N_xq44 (.wr (.add N_xq45 N_xq46))
abbrev N_xq48 : IE := .wr (.mul N_xq29 (.wr (.mul (.k (1)) (.v 14))))
abbrev N_xq49 : IE := .wr (.add (.wr (.add (.k (0)) (.wr (.mul N_xq26 (.wr (.mul N_xq23 (.k (1)))))))) (.wr (.mul N_xq27 N_xq48)))
abbrev N_xq50 : IE := .wr (.add (.wr (.add (.k (0)) (.wr (.mul N_xq26 N_xq48)))) (.wr (.mul N_xq27 N_xq49)))
abbrev N_xq51 : IE := .wr (.add (.wr (.add (.k (0)) (.wr (.mul N_xq26 N_xq49)))) (.wr (.mul N_xq27 N_xq50)))
abbrev N_xq52 : IE := .wr (.add (.wr (.add (.k (0)) (.wr (.mul N_xq26 N_xq50)))) (.wr (.mul N_xq27 N_xq51)))
abbrev N_xq53 : BE := .cm .ne (.wr (.mul N_xq23 (.k (1)))) N_xq23
abbrev N_xq54 : IE := .mul (.add (.v 9) (.v 11)) (.mul (.k (1)) (.v 14))
abbrev N_xq55 : IE := .sub (.k (0)) (.mul (.v 12) (.mul (.k (1)) (.v 14)))
abbrev N_xq56 : IE := .add (.add (.k (0)) (.mul N_xq55 (.mul (.add (.v 8) (.v 10)) (.k (1))))) (.mul (.sub (.k (0)) (.mul (.v 13) (.k (1)))) N_xq54)
abbrev N_xq57 : IE := .add (.add (.k (0)) (.mul N_xq55 (.mul (.v 8) (.k (1))))) (.mul (.sub (.k (0)) (.mul (.v 13) (.k (1)))) (.mul (.v 9) (.mul (.k (1)) (.v 14))))
abbrev N_xq58 : IE := .add (.add (.k (0)) (.mul N_xq55 (.mul (.v 10) (.k (1))))) (.mul (.sub (.k (0)) (.mul (.v 13) (.k (1)))) (.mul (.v 11) (.mul (.k (1)) (.v 14))))
abbrev N_xq59 : IE := .add (.add (.k (0)) (.mul N_xq55 N_xq54)) (.mul (.sub (.k (0)) (.mul (.v 13) (.k (1)))) N_xq56)
abbrev N_xq60 : IE := .add (.add (.k (0)) (.mul N_xq55 (.mul (.v 9) (.mul (.k (1)) (.v 14))))) (.mul (.sub (.k (0)) (.mul (.v 13) (.k (1)))) N_xq57)
abbrev N_xq61 : IE := .add (.add (.k (0)) (.mul N_xq55 (.mul (.v 11) (.mul (.k (1)) (.v 14))))) (.mul (.sub (.k (0)) (.mul (.v 13) (.k (1)))) N_xq58)
abbrev N_xq62 : IE := .add (.add (.k (0)) (.mul N_xq55 N_xq56)) (.mul (.sub (.k (0)) (.mul (.v 13) (.k (1)))) N_xq59)
abbrev N_xq63 : IE := .add (.add (.k (0)) (.mul N_xq55 N_xq57)) (.mul (.sub (.k (0)) (.mul (.v 13) (.k (1)))) N_xq60)
abbrev N_xq64 : IE := .add (.add (.k (0)) (.mul N_xq55 N_xq58)) (.mul (.sub (.k (0)) (.mul (.v 13) (.k (1)))) N_xq61)
abbrev N_xq65 : IE := .add (.add (.k (0)) (.mul N_xq55 N_xq59)) (.mul (.sub (.k (0)) (.mul (.v 13) (.k (1)))) N_xq62)
abbrev N_xq66 : IE := .add (.add (.k (0)) (.mul N_xq55 N_xq60)) (.mul (.sub (.k (0)) (.mul (.v 13) (.k (1)))) N_xq63)
abbrev N_xq67 : IE := .add (.add (.k (0)) (.mul N_xq55 N_xq61)) (.mul (.sub (.k (0)) (.mul (.v 13) (.k (1)))) N_xq64)
abbrev N_xq68 : IE := .add (.add (.k (0)) (.mul N_xq55 N_xq63)) (.mul (.sub (.k (0)) (.mul (.v 13) (.k (1)))) N_xq66)
abbrev N_xq69 : IE := .mul (.mul (.v 9) (.mul (.k (1)) (.v 14))) (.k (1))
abbrev N_xq70 : IE := .sub (.mul (.k (0)) (.v 18)) (.mul (.k (0)) (.v 19))
abbrev N_xq71 : IE := .add N_xq70 (.add (.k (0)) (.mul (.v 14) (.v 15)))
abbrev N_xq72 : IE := .add (.mul (.k (0)) (.v 19)) (.mul (.k (0)) (.v 18))
abbrev N_xq73 : IE := .add (.sub (.mul N_xq71 (.v 18)) (.mul N_xq72 (.v 19))) (.add (.k (0)) (.mul (.v 13) (.v 15)))
abbrev N_xq74 : IE := .add (.mul N_xq71 (.v 19)) (.mul N_xq72 (.v 18))
abbrev N_xq75 : IE := .add (.sub (.mul N_xq73 (.v 18)) (.mul N_xq74 (.v 19))) (.add (.k (0)) (.mul (.v 12) (.v 15)))
abbrev N_xq76 : IE := .add (.sub (.mul (.add N_xq70 (.v 14)) (.v 18)) (.mul N_xq72 (.v 19))) (.v 13)
abbrev N_xq77 : IE := .add (.mul (.add N_xq70 (.v 14)) (.v 19)) (.mul N_xq72 (.v 18))
abbrev N_xq78 : IE := .sub (.mul N_xq76 (.v 18)) (.mul N_xq77 (.v 19))
abbrev N_xq79 : IE := .add (.mul N_xq76 (.v 19)) (.mul N_xq77 (.v 18))
abbrev N_xq80 : IE := .sub (.mul (.add N_xq78 (.v 12)) (.add N_xq70 (.v 15))) (.mul N_xq79 N_xq72)
abbrev N_xq81 : IE := .add (.mul N_xq73 (.v 19)) (.mul N_xq74 (.v 18))
abbrev N_xq82 : IE := .add (.mul (.add N_xq78 (.v 12)) N_xq72) (.mul N_xq79 (.add N_xq70 (.v 15)))
abbrev N_xq83 : IE := .add (.add N_xq78 (.v 12)) (.add N_xq70 (.v 15))
abbrev N_xq84 : IE := .add (.add (.k (0)) (.mul N_xq55 N_xq69)) (.mul (.sub (.k (0)) (.mul (.v 13) (.k (1)))) (.mul N_xq57 (.mul (.k (1)) (.v 14))))
abbrev N_xq85 : IE := .add (.add (.k (0)) (.mul N_xq55 (.mul N_xq57 (.mul (.k (1)) (.v 14))))) (.mul (.sub (.k (0)) (.mul (.v 13) (.k (1)))) N_xq84)
abbrev N_xq86 : IE := .add (.add (.k (0)) (.mul N_xq55 N_xq84)) (.mul (.sub (.k (0)) (.mul (.v 13) (.k (1)))) N_xq85)
abbrev N_xq87 : IE := .add (.add (.k (0)) (.mul N_xq55 N_xq85)) (.mul (.sub (.k (0)) (.mul (.v 13) (.k (1)))) N_xq86)

abbrev N_pre (y : LV) : Prop := (-128 ≤ y.b0 ∧ y.b0 ≤ 127) ∧ (-128 ≤ y.b1 ∧ y.b1 ≤ 127) ∧ (-128 ≤ y.z0 ∧ y.z0 ≤ 127) ∧ (-128 ≤ y.z1 ∧ y.z1 ≤ 127) ∧ ((N_at0 y.a2) ≠ 0) ∧ ((N_at0 y.b2) = 0) ∧ ((N_at0 y.b1) = 0) ∧ ((N_at0 y.b0) ≠ 0)
theorem N_X : FOkS Tryz.prog x_N := bothX_ok (noXS_ok) (tabT_ok (by kernel_rfl) aw3_calls)
theorem N_args (y : LV) : (#[.agg #[.int .i8 y.a0, .int .i8 y.a1, .int .i8 y.a2], .agg #[.int .i8 y.b0, .int .i8 y.b1, .int .i8 y.b2], .agg #[.int .i8 y.z0, .int .i8 y.z1]] : Array Value).toList.all (ground 8) = true := by kernel_rfl
theorem N_hr (y : LV) (hpre : N_pre y) : InR LS_B (LS_R y) := LS_hr y ⟨hpre.1, hpre.2.1, hpre.2.2.1, hpre.2.2.2.1⟩
def N_h0 : Prop := (true = true)
theorem N_g0 : (true = true) := by first | rfl | trivial | decide | omega
def N_h1 : Prop := ((0 : Int) = (0 : Int))
theorem N_g1 : ((0 : Int) = (0 : Int)) := by first | rfl | trivial | decide | omega
def N_h2 : Prop := (false = false)
theorem N_g2 : (false = false) := by first | rfl | trivial | decide | omega
def N_h3 : Prop := ((1 : Int) = (1 : Int))
theorem N_g3 : ((1 : Int) = (1 : Int)) := by first | rfl | trivial | decide | omega
def N_h4 : Prop := ((2 : Int) = (2 : Int))
theorem N_g4 : ((2 : Int) = (2 : Int)) := by first | rfl | trivial | decide | omega
def N_h5 : Prop := ((decide ((3 : Int) > (0 : Int))) = Bool.true)
theorem N_g5 : ((decide ((3 : Int) > (0 : Int))) = Bool.true) := by first | rfl | trivial | decide | omega
def N_c0 (y : LV) : Bool := BE.ev (LS_R y) (.cm .eq (.v 14) (.k (0)))
def N_c1 (y : LV) : Bool := BE.ev (LS_R y) (.cm .eq (.v 17) (.k (0)))
def N_h8 : Prop := ((decide ((2 : Int) > (0 : Int))) = Bool.true)
theorem N_g8 : ((decide ((2 : Int) > (0 : Int))) = Bool.true) := by first | rfl | trivial | decide | omega
def N_c2 (y : LV) : Bool := BE.ev (LS_R y) (.cm .eq (.v 16) (.k (0)))
def N_h10 : Prop := ((decide ((1 : Int) > (0 : Int))) = Bool.true)
theorem N_g10 : ((decide ((1 : Int) > (0 : Int))) = Bool.true) := by first | rfl | trivial | decide | omega
def N_c3 (y : LV) : Bool := BE.ev (LS_R y) (.cm .eq (.v 15) (.k (0)))
def N_h12 : Prop := ((decide ((3 : Int) > (5 : Int))) = Bool.false)
theorem N_g12 : ((decide ((3 : Int) > (5 : Int))) = Bool.false) := by first | rfl | trivial | decide | omega
def N_c10 (y : LV) : Bool := BE.ev (LS_R y) (.not N_xq2)
def N_h20 : Prop := ((decide ((2 : Int) ≥ (0 : Int))) = Bool.true)
theorem N_g20 : ((decide ((2 : Int) ≥ (0 : Int))) = Bool.true) := by first | rfl | trivial | decide | omega
def N_h21 : Prop := ((decide ((1 : Int) ≥ (0 : Int))) = Bool.true)
theorem N_g21 : ((decide ((1 : Int) ≥ (0 : Int))) = Bool.true) := by first | rfl | trivial | decide | omega
def N_h22 : Prop := ((decide ((0 : Int) ≥ (0 : Int))) = Bool.true)
theorem N_g22 : ((decide ((0 : Int) ≥ (0 : Int))) = Bool.true) := by first | rfl | trivial | decide | omega
def N_h23 : Prop := ((decide ((-1 : Int) ≥ (0 : Int))) = Bool.false)
theorem N_g23 : ((decide ((-1 : Int) ≥ (0 : Int))) = Bool.false) := by first | rfl | trivial | decide | omega
def N_h24 : Prop := ((decide ((1 : Int) > (5 : Int))) = Bool.false)
theorem N_g24 : ((decide ((1 : Int) > (5 : Int))) = Bool.false) := by first | rfl | trivial | decide | omega
def N_c19 (y : LV) : Bool := BE.ev (LS_R y) (.cm .eq N_xq3 (.k (0)))
def N_c20 (y : LV) : Bool := BE.ev (LS_R y) (.not (.and (.cm .eq N_xq10 N_xq15) (.and (.cm .eq N_xq16 N_xq17) .t)))
def N_h35 : Prop := ((Bool.false != Bool.false) = Bool.false)
theorem N_g35 : ((Bool.false != Bool.false) = Bool.false) := by first | rfl | trivial | decide | omega
def N_c23 (y : LV) : Bool := BE.ev (LS_R y) (.not (.and (.cm .eq N_xq18 N_xq19) (.and (.cm .eq N_xq14 (.wr (.add N_xq14 N_xq5))) .t)))
def N_h43 : Prop := ((decide ((5 : Int) > (24 : Int))) = Bool.false)
theorem N_g43 : ((decide ((5 : Int) > (24 : Int))) = Bool.false) := by first | rfl | trivial | decide | omega
def N_h48 : Prop := ((3 : Int) = (3 : Int))
theorem N_g48 : ((3 : Int) = (3 : Int)) := by first | rfl | trivial | decide | omega
def N_h51 : Prop := ((4 : Int) = (4 : Int))
theorem N_g51 : ((4 : Int) = (4 : Int)) := by first | rfl | trivial | decide | omega
def N_h54 : Prop := ((5 : Int) = (5 : Int))
theorem N_g54 : ((5 : Int) = (5 : Int)) := by first | rfl | trivial | decide | omega
def N_c66 (y : LV) : Bool := BE.ev (LS_R y) N_xq21
def N_c67 (y : LV) : Bool := BE.ev (LS_R y) N_xq25
def N_c68 (y : LV) : Bool := BE.ev (LS_R y) N_xq31
def N_c69 (y : LV) : Bool := BE.ev (LS_R y) N_xq35
def N_c70 (y : LV) : Bool := BE.ev (LS_R y) N_xq39
def N_c71 (y : LV) : Bool := BE.ev (LS_R y) N_xq43
def N_h91 : Prop := ((6 : Int) = (6 : Int))
theorem N_g91 : ((6 : Int) = (6 : Int)) := by first | rfl | trivial | decide | omega
def N_c72 (y : LV) : Bool := BE.ev (LS_R y) N_xq47
def N_c73 (y : LV) : Bool := BE.ev (LS_R y) (.cm .ne (.v 14) (.k (1)))
def N_c76 (y : LV) : Bool := BE.ev (LS_R y) (.cm .lt N_xq29 (.k (-1000)))
def N_c77 (y : LV) : Bool := BE.ev (LS_R y) (.cm .gt N_xq29 (.k (1000)))
def N_h98 : Prop := ((decide ((4 : Int) > (24 : Int))) = Bool.false)
theorem N_g98 : ((decide ((4 : Int) > (24 : Int))) = Bool.false) := by first | rfl | trivial | decide | omega
def N_c84 (y : LV) : Bool := BE.ev (LS_R y) (.cm .lt N_xq52 (.k (-1073741824)))
def N_c85 (y : LV) : Bool := BE.ev (LS_R y) (.cm .gt N_xq52 (.k (1073741824)))
def N_c86 (y : LV) : Bool := BE.ev (LS_R y) N_xq53
def N_c87 (y : LV) : Bool := BE.ev (LS_R y) (.cm .ne N_xq48 N_xq29)
def N_c88 (y : LV) : Bool := BE.ev (LS_R y) (.cm .ne N_xq49 N_xq33)
def N_c89 (y : LV) : Bool := BE.ev (LS_R y) (.cm .ne N_xq50 N_xq37)
def N_c90 (y : LV) : Bool := BE.ev (LS_R y) (.cm .ne N_xq51 N_xq41)
def N_c91 (y : LV) : Bool := BE.ev (LS_R y) (.cm .ne N_xq52 N_xq45)
theorem N_c66_ff_p (ρ : List Int) : IE.ev ρ (.mul (.add (.v 8) (.v 10)) (.k (1))) = IE.ev ρ (.add (.mul (.v 8) (.k (1))) (.mul (.v 10) (.k (1)))) := by first | rfl | (simp only [IE.ev]; generalize List.getD ρ 8 0 = v8; generalize List.getD ρ 10 0 = v10; grind)
theorem N_c66_ff (y : LV) (hpre : N_pre y) : N_c66 y = false :=
  BE.same_ok (N_hr y hpre) N_xq21 .ne _ _ _ (by kernel_rfl) (by kernel_rfl) N_c66_ff_p (by kernel_rfl)
theorem N_c67_ff_p (ρ : List Int) : IE.ev ρ N_xq54 = IE.ev ρ (.add (.mul (.v 9) (.mul (.k (1)) (.v 14))) (.mul (.v 11) (.mul (.k (1)) (.v 14)))) := by first | rfl | (simp only [IE.ev]; generalize List.getD ρ 9 0 = v9; generalize List.getD ρ 11 0 = v11; generalize List.getD ρ 14 0 = v14; grind)
theorem N_c67_ff (y : LV) (hpre : N_pre y) : N_c67 y = false :=
  BE.same_ok (N_hr y hpre) N_xq25 .ne _ _ _ (by kernel_rfl) (by kernel_rfl) N_c67_ff_p (by kernel_rfl)
theorem N_c68_ff_p (ρ : List Int) : IE.ev ρ N_xq56 = IE.ev ρ (.add N_xq57 N_xq58) := by first | rfl | (simp only [IE.ev]; generalize List.getD ρ 8 0 = v8; generalize List.getD ρ 9 0 = v9; generalize List.getD ρ 10 0 = v10; generalize List.getD ρ 11 0 = v11; generalize List.getD ρ 12 0 = v12; generalize List.getD ρ 13 0 = v13; generalize List.getD ρ 14 0 = v14; grind)
theorem N_c68_ff (y : LV) (hpre : N_pre y) : N_c68 y = false :=
  BE.same_ok (N_hr y hpre) N_xq31 .ne _ _ _ (by kernel_rfl) (by kernel_rfl) N_c68_ff_p (by kernel_rfl)
theorem N_c69_ff_p (ρ : List Int) : IE.ev ρ N_xq59 = IE.ev ρ (.add N_xq60 N_xq61) := by first | rfl | (simp only [IE.ev]; generalize List.getD ρ 8 0 = v8; generalize List.getD ρ 9 0 = v9; generalize List.getD ρ 10 0 = v10; generalize List.getD ρ 11 0 = v11; generalize List.getD ρ 12 0 = v12; generalize List.getD ρ 13 0 = v13; generalize List.getD ρ 14 0 = v14; grind)
theorem N_c69_ff (y : LV) (hpre : N_pre y) : N_c69 y = false :=
  BE.same_ok (N_hr y hpre) N_xq35 .ne _ _ _ (by kernel_rfl) (by kernel_rfl) N_c69_ff_p (by kernel_rfl)
theorem N_c70_ff_p (ρ : List Int) : IE.ev ρ N_xq62 = IE.ev ρ (.add N_xq63 N_xq64) := by first | rfl | (simp only [IE.ev]; generalize List.getD ρ 8 0 = v8; generalize List.getD ρ 9 0 = v9; generalize List.getD ρ 10 0 = v10; generalize List.getD ρ 11 0 = v11; generalize List.getD ρ 12 0 = v12; generalize List.getD ρ 13 0 = v13; generalize List.getD ρ 14 0 = v14; grind)
theorem N_c70_ff (y : LV) (hpre : N_pre y) : N_c70 y = false :=
  BE.same_ok (N_hr y hpre) N_xq39 .ne _ _ _ (by kernel_rfl) (by kernel_rfl) N_c70_ff_p (by kernel_rfl)
theorem N_c71_ff_p (ρ : List Int) : IE.ev ρ N_xq65 = IE.ev ρ (.add N_xq66 N_xq67) := by first | rfl | (simp only [IE.ev]; generalize List.getD ρ 8 0 = v8; generalize List.getD ρ 9 0 = v9; generalize List.getD ρ 10 0 = v10; generalize List.getD ρ 11 0 = v11; generalize List.getD ρ 12 0 = v12; generalize List.getD ρ 13 0 = v13; generalize List.getD ρ 14 0 = v14; grind)
theorem N_c71_ff (y : LV) (hpre : N_pre y) : N_c71 y = false :=
  BE.same_ok (N_hr y hpre) N_xq43 .ne _ _ _ (by kernel_rfl) (by kernel_rfl) N_c71_ff_p (by kernel_rfl)
theorem N_c72_ff_p (ρ : List Int) : IE.ev ρ (.add (.add (.k (0)) (.mul N_xq55 N_xq62)) (.mul (.sub (.k (0)) (.mul (.v 13) (.k (1)))) N_xq65)) = IE.ev ρ (.add N_xq68 (.add (.add (.k (0)) (.mul N_xq55 N_xq64)) (.mul (.sub (.k (0)) (.mul (.v 13) (.k (1)))) N_xq67))) := by first | rfl | (simp only [IE.ev]; generalize List.getD ρ 8 0 = v8; generalize List.getD ρ 9 0 = v9; generalize List.getD ρ 10 0 = v10; generalize List.getD ρ 11 0 = v11; generalize List.getD ρ 12 0 = v12; generalize List.getD ρ 13 0 = v13; generalize List.getD ρ 14 0 = v14; grind)
theorem N_c72_ff (y : LV) (hpre : N_pre y) : N_c72 y = false :=
  BE.same_ok (N_hr y hpre) N_xq47 .ne _ _ _ (by kernel_rfl) (by kernel_rfl) N_c72_ff_p (by kernel_rfl)
theorem N_c86_ff_p (ρ : List Int) : IE.ev ρ N_xq69 = IE.ev ρ (.mul (.v 9) (.mul (.k (1)) (.v 14))) := by first | rfl | (simp only [IE.ev]; generalize List.getD ρ 9 0 = v9; generalize List.getD ρ 14 0 = v14; grind)
theorem N_c86_ff (y : LV) (hpre : N_pre y) : N_c86 y = false :=
  BE.same_ok (N_hr y hpre) N_xq53 .ne _ _ _ (by kernel_rfl) (by kernel_rfl) N_c86_ff_p (by kernel_rfl)
def N_L : List (BE × Bool) := [((.cm .lt (.v 12) (.k (-100))), false), ((.cm .gt (.v 12) (.k (100))), false), ((.cm .lt (.v 13) (.k (-100))), false), ((.cm .gt (.v 13) (.k (100))), false), ((.cm .lt (.v 14) (.k (-100))), false), ((.cm .gt (.v 14) (.k (100))), false), ((.cm .lt (.v 15) (.k (-100))), false), ((.cm .gt (.v 15) (.k (100))), false), ((.cm .lt N_xq9 (.k (-100))), false), ((.cm .gt N_xq9 (.k (100))), false), ((.cm .lt N_xq6 (.k (-100))), false), ((.cm .gt N_xq6 (.k (100))), false), ((.cm .lt N_xq3 (.k (-100))), false), ((.cm .gt N_xq3 (.k (100))), false), ((.cm .lt (.wr (.add (.v 12) (.v 15))) (.k (-100))), false), ((.cm .gt (.wr (.add (.v 12) (.v 15))) (.k (100))), false), ((.cm .lt (.v 8) (.k (-1000))), false), ((.cm .gt (.v 8) (.k (1000))), false), ((.cm .lt (.v 9) (.k (-1000))), false), ((.cm .gt (.v 9) (.k (1000))), false), ((.cm .lt N_xq29 (.k (-1073741824))), false), ((.cm .gt N_xq29 (.k (1073741824))), false), ((.cm .lt N_xq33 (.k (-1073741824))), false), ((.cm .gt N_xq33 (.k (1073741824))), false), ((.cm .lt N_xq37 (.k (-1073741824))), false), ((.cm .gt N_xq37 (.k (1073741824))), false), ((.cm .lt N_xq41 (.k (-1073741824))), false), ((.cm .gt N_xq41 (.k (1073741824))), false), ((.cm .lt N_xq45 (.k (-1073741824))), false), ((.cm .gt N_xq45 (.k (1073741824))), false), ((.cm .lt (.v 10) (.k (-1000))), false), ((.cm .gt (.v 10) (.k (1000))), false), ((.cm .lt (.v 11) (.k (-1000))), false), ((.cm .gt (.v 11) (.k (1000))), false), ((.cm .lt N_xq30 (.k (-1073741824))), false), ((.cm .gt N_xq30 (.k (1073741824))), false), ((.cm .lt N_xq34 (.k (-1073741824))), false), ((.cm .gt N_xq34 (.k (1073741824))), false), ((.cm .lt N_xq38 (.k (-1073741824))), false), ((.cm .gt N_xq38 (.k (1073741824))), false), ((.cm .lt N_xq42 (.k (-1073741824))), false), ((.cm .gt N_xq42 (.k (1073741824))), false), ((.cm .lt N_xq46 (.k (-1073741824))), false), ((.cm .gt N_xq46 (.k (1073741824))), false), ((.cm .lt (.wr (.add (.v 8) (.v 10))) (.k (-1000))), false), ((.cm .gt (.wr (.add (.v 8) (.v 10))) (.k (1000))), false), ((.cm .lt (.wr (.add (.v 9) (.v 11))) (.k (-1000))), false), ((.cm .gt (.wr (.add (.v 9) (.v 11))) (.k (1000))), false), ((.cm .lt N_xq28 (.k (-1073741824))), false), ((.cm .gt N_xq28 (.k (1073741824))), false), ((.cm .lt N_xq32 (.k (-1073741824))), false), ((.cm .gt N_xq32 (.k (1073741824))), false), ((.cm .lt N_xq36 (.k (-1073741824))), false), ((.cm .gt N_xq36 (.k (1073741824))), false), ((.cm .lt N_xq40 (.k (-1073741824))), false), ((.cm .gt N_xq40 (.k (1073741824))), false), ((.cm .lt N_xq44 (.k (-1073741824))), false), ((.cm .gt N_xq44 (.k (1073741824))), false), ((.cm .lt N_xq23 (.k (-1000))), false), ((.cm .gt N_xq23 (.k (1000))), false), ((.cm .lt N_xq49 (.k (-1073741824))), false), ((.cm .gt N_xq49 (.k (1073741824))), false), ((.cm .lt N_xq50 (.k (-1073741824))), false), ((.cm .gt N_xq50 (.k (1073741824))), false), ((.cm .lt N_xq51 (.k (-1073741824))), false), ((.cm .gt N_xq51 (.k (1073741824))), false)]
def N_E (y : LV) : List Prop := [N_h0, N_h1, N_h2, N_h3, N_h4, N_h5, N_h8, N_h10, N_h12, N_h20, N_h21, N_h22, N_h23, N_h24, N_h35, N_h43, N_h48, N_h51, N_h54, (N_c66 y = false), (N_c67 y = false), (N_c68 y = false), (N_c69 y = false), (N_c70 y = false), (N_c71 y = false), N_h91, (N_c72 y = false), N_h98, (N_c86 y = false)]
def N_T (y : LV) : Nat → Prop := tabP (LS_R y) N_L 66 (N_E y)
theorem N_tT (y : LV) (hpre : N_pre y) : ∀ i, N_T y i := fun i => tabP_ok (E := N_E y) (N_hr y hpre) (by kernel_rfl) (aC N_g0 (aC N_g1 (aC N_g2 (aC N_g3 (aC N_g4 (aC N_g5 (aC N_g8 (aC N_g10 (aC N_g12 (aC N_g20 (aC N_g21 (aC N_g22 (aC N_g23 (aC N_g24 (aC N_g35 (aC N_g43 (aC N_g48 (aC N_g51 (aC N_g54 (aC (N_c66_ff y hpre) (aC (N_c67_ff y hpre) (aC (N_c68_ff y hpre) (aC (N_c69_ff y hpre) (aC (N_c70_ff y hpre) (aC (N_c71_ff y hpre) (aC N_g91 (aC (N_c72_ff y hpre) (aC N_g98 (aC (N_c86_ff y hpre) (aN)))))))))))))))))))))))))))))) i
def N_w0 (y : LV) : Value := .bool Bool.true
def N_r0 (y : LV) : Prop := (cjD (N_T y) 256 ((cjD (N_T y) 256 ((cjD (N_T y) 256 ((cjD (N_T y) 256 ((cjD (N_T y) 256 ((cjD (N_T y) 256 ((((((cjD (N_T y) 256 ((((((cjD (N_T y) 256 ((cjD (N_T y) 256 ((((((cjD (N_T y) 256 (((cjD (N_T y) 256 (((cjD (N_T y) 256 (((cjD (N_T y) 256 ((cjD (N_T y) 256 ((cjD (N_T y) 256 ((cjD (N_T y) 256 ((cjD (N_T y) 256 (((cjD (N_T y) 256 ((cjD (N_T y) 256 ((cjD (N_T y) 256 ((cjD (N_T y) 256 ((cjD (N_T y) 256 (((cjD (N_T y) 256 ((cjD (N_T y) 256 ((cjD (N_T y) 256 (((cjD (N_T y) 256 (((cjD (N_T y) 256 ((cjD (N_T y) 256 ((cjD (N_T y) 256 ((cjD (N_T y) 256 ((cjD (N_T y) 256 True 19 0x47474746474747474744444642444542444342) ∧ (N_c0 y = false)) 19 0x47474746474747474744444642444542444342) ∧ (N_c1 y = true)) 9 0x484848454848484848) ∧ (N_c2 y = true)) 9 0x494949434949494949) ∧ (N_c3 y = false)) 38 0x4644444405040404044642440302020202454244010000000043424a44444444444444454443) ∧ (N_c0 y = false)) ∧ (N_c10 y = false)) 31 0x43444444070606060643424f444e44434d44454c44464b4444444542444342) ∧ (N_c3 y = false)) ∧ (N_c10 y = false)) 41 0x4644444405040404044642440302020202454244010000000043424a444e44434d4444444542444342) ∧ (N_c0 y = false)) 13 0x43444444070606060643424f44) ∧ (N_c3 y = false)) 96 0x464444440d0c0c0c0c4642440b0a0a0a0a454244090808080843424a44424444444444444444444444440d0c0c0c0c4642440b0a0a0a0a454244090808080843424a444446464342464244454543424542444343434243424444444542444342) ∧ (N_c19 y = false)) ∧ (N_c10 y = false)) 24 0x4444444444444e44434d44454c44464b4444444542444342) ∧ (N_c20 y = false)) 29 0x4644444405040404044642440302020202454244010000000043424a44) ∧ (N_c0 y = false)) 13 0x43444444070606060643424f44) ∧ (N_c3 y = false)) 23 0x4747474647474747444343434250444444444542444342) ∧ (N_c0 y = false)) 57 0x46444444050404040446424403020202024542440f0e0e0e0e43424a4442444444050404040446424403020202024542440f0e0e0e0e434244) ∧ (N_c0 y = false)) ∧ (N_c10 y = false)) 24 0x4444444444444e44434d44454c44464b4444444542444342) ∧ (N_c23 y = false)) 41 0x4644444405040404044642440302020202454244010000000043424a44444545424343424543454344) ∧ (N_c0 y = false)) 166 0x4644444405040404044642440302020202454244010000000043424a4444441d1c1c1c1c4454454253434242441b1a1a1a1a4453454252434242441918181818445245424643424244171616161644464542454342424415141414144445454243434242444545424343424445444645424344424643424445444246454243444643424444444642444542444342514444444444441312121212454244111010101043424444) ∧ (N_c0 y = false)) 166 0x4644444405040404044642440302020202454244010000000043424a4444442b2a2a2a2a445445425343424244292828282844534542524342424427262626264452454246434242442524242424444645424543424244232222222244454542434342424445454243434244454446454243444246434244454442464542434446434244444446424445424443425144444444444421202020204542441f1e1e1e1e43424444) ∧ (N_c0 y = false)) 193 0x46445c5b5b5b425a5454544259535353425852525242574646464256454545425543434342444444444444444444444444444444444444444444393838383844544542534342424437363636364453454252434242443534343434445245424643424244333232323244464542454342424431303030304445454243434242444545424343424445444645424344424643424445444246454243444643424444444642444542444342514444444444442f2e2e2e2e4542442d2c2c2c2c43424444) ∧ (N_c73 y = false)) ∧ (N_c73 y = false)) 1 0x45) ∧ (N_c73 y = false)) ∧ (N_c73 y = false)) 5 0x3b3a3a3a3a) ∧ (N_c73 y = false)) ∧ (N_c73 y = false)) 6 0x444446444444) ∧ (N_c76 y = false)) ∧ (N_c76 y = false)) ∧ (N_c76 y = false)) ∧ (N_c76 y = false)) ∧ (N_c77 y = false)) 32 0x4644444405040404044642440302020202454244010000000043424a44444444) ∧ (N_c0 y = false)) 12 0x4542443b3a3a3a3a43424444) ∧ (N_c76 y = false)) ∧ (N_c76 y = false)) ∧ (N_c76 y = false)) ∧ (N_c76 y = false)) ∧ (N_c77 y = false)) 99 0x44534542524342424441404040404452454246434242443f3e3e3e3e4446454245434242443d3c3c3c3c44454542434342424445454243434244454446454243444246434244454442464542434446434244444446424445424443425d444444444444) ∧ (N_c84 y = false)) ∧ (N_c84 y = false)) ∧ (N_c84 y = false)) ∧ (N_c84 y = false)) ∧ (N_c85 y = false)) 14 0x4545425e43434244424242424444) ∧ (N_c87 y = false)) 3 0x464642) ∧ (N_c88 y = false)) 3 0x525242) ∧ (N_c89 y = false)) 3 0x535342) ∧ (N_c90 y = false)) 3 0x545442) ∧ (N_c91 y = false)) 4 0x42424244)
theorem N_o0 (y : LV) : (obOf (N_e0 y.a0 y.a1 y.a2 y.b0 y.b1 y.b2 y.z0 y.z1), resOf (N_e0 y.a0 y.a1 y.a2 y.b0 y.b1 y.b2 y.z0 y.z1), cleanOf Tryz.prog.globals.size (N_e0 y.a0 y.a1 y.a2 y.b0 y.b1 y.b2 y.z0 y.z1)) = (N_r0 y, N_w0 y, true) := by kernel_rfl
theorem N_q0 (y : LV) : N_e0 y.a0 y.a1 y.a2 y.b0 y.b1 y.b2 y.z0 y.z1 = evFS Tryz.prog x_N 1000 10 #[.agg #[.int .i8 y.a0, .int .i8 y.a1, .int .i8 y.a2], .agg #[.int .i8 y.b0, .int .i8 y.b1, .int .i8 y.b2], .agg #[.int .i8 y.z0, .int .i8 y.z1]] aw3S0 ⟨N_k0, True⟩ := by
  delta N_e0
  exact Eq.refl _
theorem N_p0 (y : LV) (h : N_r0 y) (w : World) (hh : Holds Tryz.prog aw3S0 w) : Calls Tryz.prog 10 #[.agg #[.int .i8 y.a0, .int .i8 y.a1, .int .i8 y.a2], .agg #[.int .i8 y.b0, .int .i8 y.b1, .int .i8 y.b2], .agg #[.int .i8 y.z0, .int .i8 y.z1]] w fun en w' => en = .returned (N_w0 y) ∧ Below w.heap.size w w' := by
  have h3 := N_o0 y
  have hv : resOf (N_e0 y.a0 y.a1 y.a2 y.b0 y.b1 y.b2 y.z0 y.z1) = N_w0 y := congrArg (fun z => z.2.1) h3
  have hc : cleanOf Tryz.prog.globals.size (N_e0 y.a0 y.a1 y.a2 y.b0 y.b1 y.b2 y.z0 y.z1) = true := congrArg (fun z => z.2.2) h3
  have he := N_q0 y
  have ho : obOf (N_e0 y.a0 y.a1 y.a2 y.b0 y.b1 y.b2 y.z0 y.z1) = N_r0 y := congrArg (fun z => z.1) h3
  clear h3
  generalize N_e0 y.a0 y.a1 y.a2 y.b0 y.b1 y.b2 y.z0 y.z1 = r at *
  exact calls_way he gfol N_X hv rfl (N_args y) hc ho h hh
def N_w1 (y : LV) : Value := .bool Bool.true
def N_r1 (y : LV) : Prop := (cjD (N_T y) 256 (((((((cjD (N_T y) 256 ((cjD (N_T y) 256 ((cjD (N_T y) 256 ((cjD (N_T y) 256 ((cjD (N_T y) 256 (((cjD (N_T y) 256 ((cjD (N_T y) 256 ((cjD (N_T y) 256 ((cjD (N_T y) 256 ((cjD (N_T y) 256 (((cjD (N_T y) 256 ((cjD (N_T y) 256 ((cjD (N_T y) 256 (((cjD (N_T y) 256 (((cjD (N_T y) 256 ((cjD (N_T y) 256 ((cjD (N_T y) 256 ((cjD (N_T y) 256 ((cjD (N_T y) 256 True 19 0x47474746474747474744444642444542444342) ∧ (N_c0 y = false)) 19 0x47474746474747474744444642444542444342) ∧ (N_c1 y = true)) 9 0x484848454848484848) ∧ (N_c2 y = true)) 9 0x494949434949494949) ∧ (N_c3 y = false)) 38 0x4644444405040404044642440302020202454244010000000043424a44444444444444454443) ∧ (N_c0 y = false)) ∧ (N_c10 y = false)) 31 0x43444444070606060643424f444e44434d44454c44464b4444444542444342) ∧ (N_c3 y = false)) ∧ (N_c10 y = false)) 41 0x4644444405040404044642440302020202454244010000000043424a444e44434d4444444542444342) ∧ (N_c0 y = false)) 13 0x43444444070606060643424f44) ∧ (N_c3 y = false)) 96 0x464444440d0c0c0c0c4642440b0a0a0a0a454244090808080843424a44424444444444444444444444440d0c0c0c0c4642440b0a0a0a0a454244090808080843424a444446464342464244454543424542444343434243424444444542444342) ∧ (N_c19 y = false)) ∧ (N_c10 y = false)) 24 0x4444444444444e44434d44454c44464b4444444542444342) ∧ (N_c20 y = false)) 29 0x4644444405040404044642440302020202454244010000000043424a44) ∧ (N_c0 y = false)) 13 0x43444444070606060643424f44) ∧ (N_c3 y = false)) 23 0x4747474647474747444343434250444444444542444342) ∧ (N_c0 y = false)) 57 0x46444444050404040446424403020202024542440f0e0e0e0e43424a4442444444050404040446424403020202024542440f0e0e0e0e434244) ∧ (N_c0 y = false)) ∧ (N_c10 y = false)) 24 0x4444444444444e44434d44454c44464b4444444542444342) ∧ (N_c23 y = false)) 41 0x4644444405040404044642440302020202454244010000000043424a44444545424343424543454344) ∧ (N_c0 y = false)) 166 0x4644444405040404044642440302020202454244010000000043424a4444441d1c1c1c1c4454454253434242441b1a1a1a1a4453454252434242441918181818445245424643424244171616161644464542454342424415141414144445454243434242444545424343424445444645424344424643424445444246454243444643424444444642444542444342514444444444441312121212454244111010101043424444) ∧ (N_c0 y = false)) 166 0x4644444405040404044642440302020202454244010000000043424a4444442b2a2a2a2a445445425343424244292828282844534542524342424427262626264452454246434242442524242424444645424543424244232222222244454542434342424445454243434244454446454243444246434244454442464542434446434244444446424445424443425144444444444421202020204542441f1e1e1e1e43424444) ∧ (N_c0 y = false)) 193 0x46445c5b5b5b425a5454544259535353425852525242574646464256454545425543434342444444444444444444444444444444444444444444393838383844544542534342424437363636364453454252434242443534343434445245424643424244333232323244464542454342424431303030304445454243434242444545424343424445444645424344424643424445444246454243444643424444444642444542444342514444444444442f2e2e2e2e4542442d2c2c2c2c43424444) ∧ (N_c73 y = true)) ∧ (N_c73 y = true)) ∧ (N_c73 y = true)) ∧ (N_c73 y = true)) ∧ (N_c73 y = true)) ∧ (N_c73 y = true)) 8 0x4242424242424242)
theorem N_o1 (y : LV) : (obOf (N_e1 y.a0 y.a1 y.a2 y.b0 y.b1 y.b2 y.z0 y.z1), resOf (N_e1 y.a0 y.a1 y.a2 y.b0 y.b1 y.b2 y.z0 y.z1), cleanOf Tryz.prog.globals.size (N_e1 y.a0 y.a1 y.a2 y.b0 y.b1 y.b2 y.z0 y.z1)) = (N_r1 y, N_w1 y, true) := by kernel_rfl
theorem N_q1 (y : LV) : N_e1 y.a0 y.a1 y.a2 y.b0 y.b1 y.b2 y.z0 y.z1 = evFS Tryz.prog x_N 1000 10 #[.agg #[.int .i8 y.a0, .int .i8 y.a1, .int .i8 y.a2], .agg #[.int .i8 y.b0, .int .i8 y.b1, .int .i8 y.b2], .agg #[.int .i8 y.z0, .int .i8 y.z1]] aw3S0 ⟨N_k1, True⟩ := by
  delta N_e1
  exact Eq.refl _
theorem N_p1 (y : LV) (h : N_r1 y) (w : World) (hh : Holds Tryz.prog aw3S0 w) : Calls Tryz.prog 10 #[.agg #[.int .i8 y.a0, .int .i8 y.a1, .int .i8 y.a2], .agg #[.int .i8 y.b0, .int .i8 y.b1, .int .i8 y.b2], .agg #[.int .i8 y.z0, .int .i8 y.z1]] w fun en w' => en = .returned (N_w1 y) ∧ Below w.heap.size w w' := by
  have h3 := N_o1 y
  have hv : resOf (N_e1 y.a0 y.a1 y.a2 y.b0 y.b1 y.b2 y.z0 y.z1) = N_w1 y := congrArg (fun z => z.2.1) h3
  have hc : cleanOf Tryz.prog.globals.size (N_e1 y.a0 y.a1 y.a2 y.b0 y.b1 y.b2 y.z0 y.z1) = true := congrArg (fun z => z.2.2) h3
  have he := N_q1 y
  have ho : obOf (N_e1 y.a0 y.a1 y.a2 y.b0 y.b1 y.b2 y.z0 y.z1) = N_r1 y := congrArg (fun z => z.1) h3
  clear h3
  generalize N_e1 y.a0 y.a1 y.a2 y.b0 y.b1 y.b2 y.z0 y.z1 = r at *
  exact calls_way he gfol N_X hv rfl (N_args y) hc ho h hh
def N_w2 (y : LV) : Value := .bool Bool.true
def N_r2 (y : LV) : Prop := (cjD (N_T y) 256 (((((cjD (N_T y) 256 (((cjD (N_T y) 256 (((cjD (N_T y) 256 (((cjD (N_T y) 256 ((cjD (N_T y) 256 ((cjD (N_T y) 256 ((cjD (N_T y) 256 ((cjD (N_T y) 256 (((cjD (N_T y) 256 ((cjD (N_T y) 256 ((cjD (N_T y) 256 ((cjD (N_T y) 256 ((cjD (N_T y) 256 (((cjD (N_T y) 256 ((cjD (N_T y) 256 ((cjD (N_T y) 256 (((cjD (N_T y) 256 (((cjD (N_T y) 256 ((cjD (N_T y) 256 ((cjD (N_T y) 256 ((cjD (N_T y) 256 ((cjD (N_T y) 256 True 19 0x47474746474747474744444642444542444342) ∧ (N_c0 y = false)) 19 0x47474746474747474744444642444542444342) ∧ (N_c1 y = true)) 9 0x484848454848484848) ∧ (N_c2 y = true)) 9 0x494949434949494949) ∧ (N_c3 y = false)) 38 0x4644444405040404044642440302020202454244010000000043424a44444444444444454443) ∧ (N_c0 y = false)) ∧ (N_c10 y = false)) 31 0x43444444070606060643424f444e44434d44454c44464b4444444542444342) ∧ (N_c3 y = false)) ∧ (N_c10 y = false)) 41 0x4644444405040404044642440302020202454244010000000043424a444e44434d4444444542444342) ∧ (N_c0 y = false)) 13 0x43444444070606060643424f44) ∧ (N_c3 y = false)) 96 0x464444440d0c0c0c0c4642440b0a0a0a0a454244090808080843424a44424444444444444444444444440d0c0c0c0c4642440b0a0a0a0a454244090808080843424a444446464342464244454543424542444343434243424444444542444342) ∧ (N_c19 y = false)) ∧ (N_c10 y = false)) 24 0x4444444444444e44434d44454c44464b4444444542444342) ∧ (N_c20 y = false)) 29 0x4644444405040404044642440302020202454244010000000043424a44) ∧ (N_c0 y = false)) 13 0x43444444070606060643424f44) ∧ (N_c3 y = false)) 23 0x4747474647474747444343434250444444444542444342) ∧ (N_c0 y = false)) 57 0x46444444050404040446424403020202024542440f0e0e0e0e43424a4442444444050404040446424403020202024542440f0e0e0e0e434244) ∧ (N_c0 y = false)) ∧ (N_c10 y = false)) 24 0x4444444444444e44434d44454c44464b4444444542444342) ∧ (N_c23 y = false)) 41 0x4644444405040404044642440302020202454244010000000043424a44444545424343424543454344) ∧ (N_c0 y = false)) 166 0x4644444405040404044642440302020202454244010000000043424a4444441d1c1c1c1c4454454253434242441b1a1a1a1a4453454252434242441918181818445245424643424244171616161644464542454342424415141414144445454243434242444545424343424445444645424344424643424445444246454243444643424444444642444542444342514444444444441312121212454244111010101043424444) ∧ (N_c0 y = false)) 166 0x4644444405040404044642440302020202454244010000000043424a4444442b2a2a2a2a445445425343424244292828282844534542524342424427262626264452454246434242442524242424444645424543424244232222222244454542434342424445454243434244454446454243444246434244454442464542434446434244444446424445424443425144444444444421202020204542441f1e1e1e1e43424444) ∧ (N_c0 y = false)) 193 0x46445c5b5b5b425a5454544259535353425852525242574646464256454545425543434342444444444444444444444444444444444444444444393838383844544542534342424437363636364453454252434242443534343434445245424643424244333232323244464542454342424431303030304445454243434242444545424343424445444645424344424643424445444246454243444643424444444642444542444342514444444444442f2e2e2e2e4542442d2c2c2c2c43424444) ∧ (N_c73 y = false)) ∧ (N_c73 y = false)) 1 0x45) ∧ (N_c73 y = false)) ∧ (N_c73 y = false)) 5 0x3b3a3a3a3a) ∧ (N_c73 y = false)) ∧ (N_c73 y = false)) 6 0x444446444444) ∧ (N_c76 y = true)) ∧ (N_c76 y = true)) ∧ (N_c76 y = true)) ∧ (N_c76 y = true)) 4 0x42444442)
theorem N_o2 (y : LV) : (obOf (N_e2 y.a0 y.a1 y.a2 y.b0 y.b1 y.b2 y.z0 y.z1), resOf (N_e2 y.a0 y.a1 y.a2 y.b0 y.b1 y.b2 y.z0 y.z1), cleanOf Tryz.prog.globals.size (N_e2 y.a0 y.a1 y.a2 y.b0 y.b1 y.b2 y.z0 y.z1)) = (N_r2 y, N_w2 y, true) := by kernel_rfl
theorem N_q2 (y : LV) : N_e2 y.a0 y.a1 y.a2 y.b0 y.b1 y.b2 y.z0 y.z1 = evFS Tryz.prog x_N 1000 10 #[.agg #[.int .i8 y.a0, .int .i8 y.a1, .int .i8 y.a2], .agg #[.int .i8 y.b0, .int .i8 y.b1, .int .i8 y.b2], .agg #[.int .i8 y.z0, .int .i8 y.z1]] aw3S0 ⟨N_k2, True⟩ := by
  delta N_e2
  exact Eq.refl _
theorem N_p2 (y : LV) (h : N_r2 y) (w : World) (hh : Holds Tryz.prog aw3S0 w) : Calls Tryz.prog 10 #[.agg #[.int .i8 y.a0, .int .i8 y.a1, .int .i8 y.a2], .agg #[.int .i8 y.b0, .int .i8 y.b1, .int .i8 y.b2], .agg #[.int .i8 y.z0, .int .i8 y.z1]] w fun en w' => en = .returned (N_w2 y) ∧ Below w.heap.size w w' := by
  have h3 := N_o2 y
  have hv : resOf (N_e2 y.a0 y.a1 y.a2 y.b0 y.b1 y.b2 y.z0 y.z1) = N_w2 y := congrArg (fun z => z.2.1) h3
  have hc : cleanOf Tryz.prog.globals.size (N_e2 y.a0 y.a1 y.a2 y.b0 y.b1 y.b2 y.z0 y.z1) = true := congrArg (fun z => z.2.2) h3
  have he := N_q2 y
  have ho : obOf (N_e2 y.a0 y.a1 y.a2 y.b0 y.b1 y.b2 y.z0 y.z1) = N_r2 y := congrArg (fun z => z.1) h3
  clear h3
  generalize N_e2 y.a0 y.a1 y.a2 y.b0 y.b1 y.b2 y.z0 y.z1 = r at *
  exact calls_way he gfol N_X hv rfl (N_args y) hc ho h hh
def N_w3 (y : LV) : Value := .bool Bool.true
def N_r3 (y : LV) : Prop := (cjD (N_T y) 256 ((((((cjD (N_T y) 256 (((cjD (N_T y) 256 (((cjD (N_T y) 256 (((cjD (N_T y) 256 ((cjD (N_T y) 256 ((cjD (N_T y) 256 ((cjD (N_T y) 256 ((cjD (N_T y) 256 (((cjD (N_T y) 256 ((cjD (N_T y) 256 ((cjD (N_T y) 256 ((cjD (N_T y) 256 ((cjD (N_T y) 256 (((cjD (N_T y) 256 ((cjD (N_T y) 256 ((cjD (N_T y) 256 (((cjD (N_T y) 256 (((cjD (N_T y) 256 ((cjD (N_T y) 256 ((cjD (N_T y) 256 ((cjD (N_T y) 256 ((cjD (N_T y) 256 True 19 0x47474746474747474744444642444542444342) ∧ (N_c0 y = false)) 19 0x47474746474747474744444642444542444342) ∧ (N_c1 y = true)) 9 0x484848454848484848) ∧ (N_c2 y = true)) 9 0x494949434949494949) ∧ (N_c3 y = false)) 38 0x4644444405040404044642440302020202454244010000000043424a44444444444444454443) ∧ (N_c0 y = false)) ∧ (N_c10 y = false)) 31 0x43444444070606060643424f444e44434d44454c44464b4444444542444342) ∧ (N_c3 y = false)) ∧ (N_c10 y = false)) 41 0x4644444405040404044642440302020202454244010000000043424a444e44434d4444444542444342) ∧ (N_c0 y = false)) 13 0x43444444070606060643424f44) ∧ (N_c3 y = false)) 96 0x464444440d0c0c0c0c4642440b0a0a0a0a454244090808080843424a44424444444444444444444444440d0c0c0c0c4642440b0a0a0a0a454244090808080843424a444446464342464244454543424542444343434243424444444542444342) ∧ (N_c19 y = false)) ∧ (N_c10 y = false)) 24 0x4444444444444e44434d44454c44464b4444444542444342) ∧ (N_c20 y = false)) 29 0x4644444405040404044642440302020202454244010000000043424a44) ∧ (N_c0 y = false)) 13 0x43444444070606060643424f44) ∧ (N_c3 y = false)) 23 0x4747474647474747444343434250444444444542444342) ∧ (N_c0 y = false)) 57 0x46444444050404040446424403020202024542440f0e0e0e0e43424a4442444444050404040446424403020202024542440f0e0e0e0e434244) ∧ (N_c0 y = false)) ∧ (N_c10 y = false)) 24 0x4444444444444e44434d44454c44464b4444444542444342) ∧ (N_c23 y = false)) 41 0x4644444405040404044642440302020202454244010000000043424a44444545424343424543454344) ∧ (N_c0 y = false)) 166 0x4644444405040404044642440302020202454244010000000043424a4444441d1c1c1c1c4454454253434242441b1a1a1a1a4453454252434242441918181818445245424643424244171616161644464542454342424415141414144445454243434242444545424343424445444645424344424643424445444246454243444643424444444642444542444342514444444444441312121212454244111010101043424444) ∧ (N_c0 y = false)) 166 0x4644444405040404044642440302020202454244010000000043424a4444442b2a2a2a2a445445425343424244292828282844534542524342424427262626264452454246434242442524242424444645424543424244232222222244454542434342424445454243434244454446454243444246434244454442464542434446434244444446424445424443425144444444444421202020204542441f1e1e1e1e43424444) ∧ (N_c0 y = false)) 193 0x46445c5b5b5b425a5454544259535353425852525242574646464256454545425543434342444444444444444444444444444444444444444444393838383844544542534342424437363636364453454252434242443534343434445245424643424244333232323244464542454342424431303030304445454243434242444545424343424445444645424344424643424445444246454243444643424444444642444542444342514444444444442f2e2e2e2e4542442d2c2c2c2c43424444) ∧ (N_c73 y = false)) ∧ (N_c73 y = false)) 1 0x45) ∧ (N_c73 y = false)) ∧ (N_c73 y = false)) 5 0x3b3a3a3a3a) ∧ (N_c73 y = false)) ∧ (N_c73 y = false)) 6 0x444446444444) ∧ (N_c76 y = false)) ∧ (N_c76 y = false)) ∧ (N_c76 y = false)) ∧ (N_c76 y = false)) ∧ (N_c77 y = true)) 3 0x424444)
theorem N_o3 (y : LV) : (obOf (N_e3 y.a0 y.a1 y.a2 y.b0 y.b1 y.b2 y.z0 y.z1), resOf (N_e3 y.a0 y.a1 y.a2 y.b0 y.b1 y.b2 y.z0 y.z1), cleanOf Tryz.prog.globals.size (N_e3 y.a0 y.a1 y.a2 y.b0 y.b1 y.b2 y.z0 y.z1)) = (N_r3 y, N_w3 y, true) := by kernel_rfl
theorem N_q3 (y : LV) : N_e3 y.a0 y.a1 y.a2 y.b0 y.b1 y.b2 y.z0 y.z1 = evFS Tryz.prog x_N 1000 10 #[.agg #[.int .i8 y.a0, .int .i8 y.a1, .int .i8 y.a2], .agg #[.int .i8 y.b0, .int .i8 y.b1, .int .i8 y.b2], .agg #[.int .i8 y.z0, .int .i8 y.z1]] aw3S0 ⟨N_k3, True⟩ := by
  delta N_e3
  exact Eq.refl _
theorem N_p3 (y : LV) (h : N_r3 y) (w : World) (hh : Holds Tryz.prog aw3S0 w) : Calls Tryz.prog 10 #[.agg #[.int .i8 y.a0, .int .i8 y.a1, .int .i8 y.a2], .agg #[.int .i8 y.b0, .int .i8 y.b1, .int .i8 y.b2], .agg #[.int .i8 y.z0, .int .i8 y.z1]] w fun en w' => en = .returned (N_w3 y) ∧ Below w.heap.size w w' := by
  have h3 := N_o3 y
  have hv : resOf (N_e3 y.a0 y.a1 y.a2 y.b0 y.b1 y.b2 y.z0 y.z1) = N_w3 y := congrArg (fun z => z.2.1) h3
  have hc : cleanOf Tryz.prog.globals.size (N_e3 y.a0 y.a1 y.a2 y.b0 y.b1 y.b2 y.z0 y.z1) = true := congrArg (fun z => z.2.2) h3
  have he := N_q3 y
  have ho : obOf (N_e3 y.a0 y.a1 y.a2 y.b0 y.b1 y.b2 y.z0 y.z1) = N_r3 y := congrArg (fun z => z.1) h3
  clear h3
  generalize N_e3 y.a0 y.a1 y.a2 y.b0 y.b1 y.b2 y.z0 y.z1 = r at *
  exact calls_way he gfol N_X hv rfl (N_args y) hc ho h hh
theorem N_y0 (ρ : List Int) : IE.ev ρ (.v 18) = IE.ev ρ (.v 18) := by first | rfl | (simp only [IE.ev]; done) | (simp only [IE.ev]; generalize List.getD ρ 18 0 = v18; grind)
theorem N_y1 (ρ : List Int) : IE.ev ρ (.v 19) = IE.ev ρ (.v 19) := by first | rfl | (simp only [IE.ev]; done) | (simp only [IE.ev]; generalize List.getD ρ 19 0 = v19; grind)
theorem N_y2 (ρ : List Int) : IE.ev ρ N_xq75 = IE.ev ρ N_xq80 := by first | rfl | (simp only [IE.ev]; done) | (simp only [IE.ev]; generalize List.getD ρ 12 0 = v12; generalize List.getD ρ 13 0 = v13; generalize List.getD ρ 14 0 = v14; generalize List.getD ρ 15 0 = v15; generalize List.getD ρ 18 0 = v18; generalize List.getD ρ 19 0 = v19; grind)
theorem N_y3 (ρ : List Int) : IE.ev ρ N_xq81 = IE.ev ρ N_xq82 := by first | rfl | (simp only [IE.ev]; done) | (simp only [IE.ev]; generalize List.getD ρ 12 0 = v12; generalize List.getD ρ 13 0 = v13; generalize List.getD ρ 14 0 = v14; generalize List.getD ρ 15 0 = v15; generalize List.getD ρ 18 0 = v18; generalize List.getD ρ 19 0 = v19; grind)
theorem N_y4 (ρ : List Int) : IE.ev ρ (.add N_xq78 (.add (.v 12) (.v 15))) = IE.ev ρ N_xq83 := by first | rfl | (simp only [IE.ev]; done) | (simp only [IE.ev]; generalize List.getD ρ 12 0 = v12; generalize List.getD ρ 13 0 = v13; generalize List.getD ρ 14 0 = v14; generalize List.getD ρ 15 0 = v15; generalize List.getD ρ 18 0 = v18; generalize List.getD ρ 19 0 = v19; grind)
theorem N_y5 (ρ : List Int) : IE.ev ρ N_xq79 = IE.ev ρ (.add N_xq79 N_xq72) := by first | rfl | (simp only [IE.ev]; done) | (simp only [IE.ev]; generalize List.getD ρ 13 0 = v13; generalize List.getD ρ 14 0 = v14; generalize List.getD ρ 18 0 = v18; generalize List.getD ρ 19 0 = v19; grind)
theorem N_y6 (ρ : List Int) (k0 : IE.ev ρ (.v 14) = IE.ev ρ (.k (1))) : IE.ev ρ (.mul N_xq57 (.mul (.k (1)) (.v 14))) = IE.ev ρ N_xq57 := by first | rfl | (simp only [IE.ev]; done) | (simp only [IE.ev] at k0 ⊢; generalize List.getD ρ 8 0 = v8 at k0 ⊢; generalize List.getD ρ 9 0 = v9 at k0 ⊢; generalize List.getD ρ 12 0 = v12 at k0 ⊢; generalize List.getD ρ 13 0 = v13 at k0 ⊢; generalize List.getD ρ 14 0 = v14 at k0 ⊢; grind)
theorem N_y7 (ρ : List Int) (k0 : IE.ev ρ (.v 14) = IE.ev ρ (.k (1))) : IE.ev ρ N_xq84 = IE.ev ρ N_xq60 := by first | rfl | (simp only [IE.ev]; done) | (simp only [IE.ev] at k0 ⊢; generalize List.getD ρ 8 0 = v8 at k0 ⊢; generalize List.getD ρ 9 0 = v9 at k0 ⊢; generalize List.getD ρ 12 0 = v12 at k0 ⊢; generalize List.getD ρ 13 0 = v13 at k0 ⊢; generalize List.getD ρ 14 0 = v14 at k0 ⊢; grind)
theorem N_y8 (ρ : List Int) (k0 : IE.ev ρ (.v 14) = IE.ev ρ (.k (1))) : IE.ev ρ N_xq85 = IE.ev ρ N_xq63 := by first | rfl | (simp only [IE.ev]; done) | (simp only [IE.ev] at k0 ⊢; generalize List.getD ρ 8 0 = v8 at k0 ⊢; generalize List.getD ρ 9 0 = v9 at k0 ⊢; generalize List.getD ρ 12 0 = v12 at k0 ⊢; generalize List.getD ρ 13 0 = v13 at k0 ⊢; generalize List.getD ρ 14 0 = v14 at k0 ⊢; grind)
theorem N_y9 (ρ : List Int) (k0 : IE.ev ρ (.v 14) = IE.ev ρ (.k (1))) : IE.ev ρ N_xq86 = IE.ev ρ N_xq66 := by first | rfl | (simp only [IE.ev]; done) | (simp only [IE.ev] at k0 ⊢; generalize List.getD ρ 8 0 = v8 at k0 ⊢; generalize List.getD ρ 9 0 = v9 at k0 ⊢; generalize List.getD ρ 12 0 = v12 at k0 ⊢; generalize List.getD ρ 13 0 = v13 at k0 ⊢; generalize List.getD ρ 14 0 = v14 at k0 ⊢; grind)
theorem N_y10 (ρ : List Int) (k0 : IE.ev ρ (.v 14) = IE.ev ρ (.k (1))) : IE.ev ρ N_xq87 = IE.ev ρ N_xq68 := by first | rfl | (simp only [IE.ev]; done) | (simp only [IE.ev] at k0 ⊢; generalize List.getD ρ 8 0 = v8 at k0 ⊢; generalize List.getD ρ 9 0 = v9 at k0 ⊢; generalize List.getD ρ 12 0 = v12 at k0 ⊢; generalize List.getD ρ 13 0 = v13 at k0 ⊢; generalize List.getD ρ 14 0 = v14 at k0 ⊢; grind)
theorem N_t0 (y : LV) (hpre : N_pre y) : (N_c10 y = false) := by
  have hr := (N_hr y hpre)
  have e0 := IE.str_eq hr (.ite .lt (.k (8)) N_xq0 (.k (8)) N_xq0) (.v 18) (.v 18) (.v 18) (N_y0 (LS_R y)) (by kernel_rfl) (by kernel_rfl) (by kernel_rfl) (by kernel_rfl)
  have e1 := IE.str_eq hr (.ite .lt (.k (8)) N_xq1 (.k (8)) N_xq1) (.v 19) (.v 19) (.v 19) (N_y1 (LS_R y)) (by kernel_rfl) (by kernel_rfl) (by kernel_rfl) (by kernel_rfl)
  show (Bool.not (Bool.and (IE.ev (LS_R y) (.ite .lt (.k (8)) N_xq0 (.k (8)) N_xq0) == IE.ev (LS_R y) (.v 18)) (Bool.and (IE.ev (LS_R y) (.ite .lt (.k (8)) N_xq1 (.k (8)) N_xq1) == IE.ev (LS_R y) (.v 19)) true))) = false
  rw [e0, e1]
  first | done | rfl | simp
theorem N_t1 (y : LV) (hpre : N_pre y) (k0 : (N_c0 y = false)) (k1 : (N_c3 y = false)) : (N_c19 y = false) := notT (orF (orF (BE.au_ok (e := (.or (.cm .eq (.v 15) (.k (0))) (.or (.cm .eq (.v 14) (.k (0))) (.not (.cm .eq N_xq3 (.k (0))))))) (by kernel_rfl) (vs := [(14, 2), (15, 1)]) 200 (N_hr y hpre) (by kernel_rfl)) k1) k0)
theorem N_t2 (y : LV) (hpre : N_pre y) : (N_c20 y = false) := by
  have hr := (N_hr y hpre)
  have e0 := IE.str_eq hr N_xq10 N_xq15 N_xq75 N_xq80 (N_y2 (LS_R y)) (by kernel_rfl) (by kernel_rfl) (by kernel_rfl) (by kernel_rfl)
  have e1 := IE.str_eq hr N_xq16 N_xq17 N_xq81 N_xq82 (N_y3 (LS_R y)) (by kernel_rfl) (by kernel_rfl) (by kernel_rfl) (by kernel_rfl)
  show (Bool.not (Bool.and (IE.ev (LS_R y) N_xq10 == IE.ev (LS_R y) N_xq15) (Bool.and (IE.ev (LS_R y) N_xq16 == IE.ev (LS_R y) N_xq17) true))) = false
  rw [e0, e1]
  first | done | rfl | simp
theorem N_t3 (y : LV) (hpre : N_pre y) : (N_c23 y = false) := by
  have hr := (N_hr y hpre)
  have e0 := IE.str_eq hr N_xq18 N_xq19 (.add N_xq78 (.add (.v 12) (.v 15))) N_xq83 (N_y4 (LS_R y)) (by kernel_rfl) (by kernel_rfl) (by kernel_rfl) (by kernel_rfl)
  have e1 := IE.str_eq hr N_xq14 (.wr (.add N_xq14 N_xq5)) N_xq79 (.add N_xq79 N_xq72) (N_y5 (LS_R y)) (by kernel_rfl) (by kernel_rfl) (by kernel_rfl) (by kernel_rfl)
  show (Bool.not (Bool.and (IE.ev (LS_R y) N_xq18 == IE.ev (LS_R y) N_xq19) (Bool.and (IE.ev (LS_R y) N_xq14 == IE.ev (LS_R y) (.wr (.add N_xq14 N_xq5))) true))) = false
  rw [e0, e1]
  first | done | rfl | simp
theorem N_t4 (y : LV) (hpre : N_pre y) (k0 : (N_c76 y = false)) : (N_c84 y = false) := notT (orF (BE.au_ok (e := (.or (.cm .lt N_xq29 (.k (-1000))) (.not (.cm .lt N_xq52 (.k (-1073741824)))))) (by kernel_rfl) (vs := [(14, 5), (13, 4), (12, 3), (9, 2), (8, 1)]) 200 (N_hr y hpre) (by kernel_rfl)) k0)
theorem N_t5 (y : LV) (hpre : N_pre y) (k0 : (N_c77 y = false)) : (N_c85 y = false) := notT (orF (BE.au_ok (e := (.or (.cm .gt N_xq29 (.k (1000))) (.not (.cm .gt N_xq52 (.k (1073741824)))))) (by kernel_rfl) (vs := [(14, 5), (13, 4), (12, 3), (9, 2), (8, 1)]) 200 (N_hr y hpre) (by kernel_rfl)) k0)
theorem N_t6 (y : LV) (hpre : N_pre y) (k0 : (N_c73 y = false)) : (N_c87 y = false) := by
  have hr := (N_hr y hpre)
  have f0 := IE.eq_str hr (.v 14) (.k (1)) (.v 14) (.k (1)) (show (IE.ev (LS_R y) (.v 14) == IE.ev (LS_R y) (.k (1))) = true by first | exact k0 | exact ofNe k0 | exact ofNot k0) (by kernel_rfl) (by kernel_rfl) (by kernel_rfl) (by kernel_rfl)
  have e0 := IE.str_eq hr N_xq48 N_xq29 (.mul N_xq57 (.mul (.k (1)) (.v 14))) N_xq57 (N_y6 (LS_R y) f0) (by kernel_rfl) (by kernel_rfl) (by kernel_rfl) (by kernel_rfl)
  show (Bool.not (IE.ev (LS_R y) N_xq48 == IE.ev (LS_R y) N_xq29)) = false
  rw [e0]
  first | done | rfl | simp
theorem N_t7 (y : LV) (hpre : N_pre y) (k0 : (N_c73 y = false)) : (N_c88 y = false) := by
  have hr := (N_hr y hpre)
  have f0 := IE.eq_str hr (.v 14) (.k (1)) (.v 14) (.k (1)) (show (IE.ev (LS_R y) (.v 14) == IE.ev (LS_R y) (.k (1))) = true by first | exact k0 | exact ofNe k0 | exact ofNot k0) (by kernel_rfl) (by kernel_rfl) (by kernel_rfl) (by kernel_rfl)
  have e0 := IE.str_eq hr N_xq49 N_xq33 N_xq84 N_xq60 (N_y7 (LS_R y) f0) (by kernel_rfl) (by kernel_rfl) (by kernel_rfl) (by kernel_rfl)
  show (Bool.not (IE.ev (LS_R y) N_xq49 == IE.ev (LS_R y) N_xq33)) = false
  rw [e0]
  first | done | rfl | simp
theorem N_t8 (y : LV) (hpre : N_pre y) (k0 : (N_c73 y = false)) : (N_c89 y = false) := by
  have hr := (N_hr y hpre)
  have f0 := IE.eq_str hr (.v 14) (.k (1)) (.v 14) (.k (1)) (show (IE.ev (LS_R y) (.v 14) == IE.ev (LS_R y) (.k (1))) = true by first | exact k0 | exact ofNe k0 | exact ofNot k0) (by kernel_rfl) (by kernel_rfl) (by kernel_rfl) (by kernel_rfl)
  have e0 := IE.str_eq hr N_xq50 N_xq37 N_xq85 N_xq63 (N_y8 (LS_R y) f0) (by kernel_rfl) (by kernel_rfl) (by kernel_rfl) (by kernel_rfl)
  show (Bool.not (IE.ev (LS_R y) N_xq50 == IE.ev (LS_R y) N_xq37)) = false
  rw [e0]
  first | done | rfl | simp
theorem N_t9 (y : LV) (hpre : N_pre y) (k0 : (N_c73 y = false)) : (N_c90 y = false) := by
  have hr := (N_hr y hpre)
  have f0 := IE.eq_str hr (.v 14) (.k (1)) (.v 14) (.k (1)) (show (IE.ev (LS_R y) (.v 14) == IE.ev (LS_R y) (.k (1))) = true by first | exact k0 | exact ofNe k0 | exact ofNot k0) (by kernel_rfl) (by kernel_rfl) (by kernel_rfl) (by kernel_rfl)
  have e0 := IE.str_eq hr N_xq51 N_xq41 N_xq86 N_xq66 (N_y9 (LS_R y) f0) (by kernel_rfl) (by kernel_rfl) (by kernel_rfl) (by kernel_rfl)
  show (Bool.not (IE.ev (LS_R y) N_xq51 == IE.ev (LS_R y) N_xq41)) = false
  rw [e0]
  first | done | rfl | simp
theorem N_t10 (y : LV) (hpre : N_pre y) (k0 : (N_c73 y = false)) : (N_c91 y = false) := by
  have hr := (N_hr y hpre)
  have f0 := IE.eq_str hr (.v 14) (.k (1)) (.v 14) (.k (1)) (show (IE.ev (LS_R y) (.v 14) == IE.ev (LS_R y) (.k (1))) = true by first | exact k0 | exact ofNe k0 | exact ofNot k0) (by kernel_rfl) (by kernel_rfl) (by kernel_rfl) (by kernel_rfl)
  have e0 := IE.str_eq hr N_xq52 N_xq45 N_xq87 N_xq68 (N_y10 (LS_R y) f0) (by kernel_rfl) (by kernel_rfl) (by kernel_rfl) (by kernel_rfl)
  show (Bool.not (IE.ev (LS_R y) N_xq52 == IE.ev (LS_R y) N_xq45)) = false
  rw [e0]
  first | done | rfl | simp
theorem N_any (y : LV) (hpre : N_pre y) (w : World) (hh : Holds Tryz.prog aw3S0 w) : Calls Tryz.prog 10 #[.agg #[.int .i8 y.a0, .int .i8 y.a1, .int .i8 y.a2], .agg #[.int .i8 y.b0, .int .i8 y.b1, .int .i8 y.b2], .agg #[.int .i8 y.z0, .int .i8 y.z1]] w fun en w' => en = .returned (.bool true) ∧ Below w.heap.size w w' := by
  have hg0 : (N_c0 y = false) := (show N_c0 y = BE.ev (LS_R y) (.cm .eq (.v 14) (.k (0))) by kernel_rfl).trans (beq_eq_false_iff_ne.2 hpre.2.2.2.2.1)
  have hg1 : (N_c1 y = true) := (show N_c1 y = BE.ev (LS_R y) (.cm .eq (.v 17) (.k (0))) by kernel_rfl).trans (beq_iff_eq.2 hpre.2.2.2.2.2.1)
  have hg2 : (N_c2 y = true) := (show N_c2 y = BE.ev (LS_R y) (.cm .eq (.v 16) (.k (0))) by kernel_rfl).trans (beq_iff_eq.2 hpre.2.2.2.2.2.2.1)
  have hg3 : (N_c3 y = false) := (show N_c3 y = BE.ev (LS_R y) (.cm .eq (.v 15) (.k (0))) by kernel_rfl).trans (beq_eq_false_iff_ne.2 hpre.2.2.2.2.2.2.2)
  have h6 := N_t0 y hpre
  have h15 := N_t1 y hpre hg0 hg3
  have h16 := N_t2 y hpre
  have h19 := N_t3 y hpre
  rcases Bool.eq_false_or_eq_true (N_c73 y) with h69 | h69
  ·
    have hp := N_p1 y (cjD_i (N_tT y hpre) (And.intro (And.intro (And.intro (And.intro (And.intro (And.intro (cjD_i (N_tT y hpre) (And.intro (cjD_i (N_tT y hpre) (And.intro (cjD_i (N_tT y hpre) (And.intro (cjD_i (N_tT y hpre) (And.intro (cjD_i (N_tT y hpre) (And.intro (And.intro (cjD_i (N_tT y hpre) (And.intro (cjD_i (N_tT y hpre) (And.intro (cjD_i (N_tT y hpre) (And.intro (cjD_i (N_tT y hpre) (And.intro (cjD_i (N_tT y hpre) (And.intro (And.intro (cjD_i (N_tT y hpre) (And.intro (cjD_i (N_tT y hpre) (And.intro (cjD_i (N_tT y hpre) (And.intro (And.intro (cjD_i (N_tT y hpre) (And.intro (And.intro (cjD_i (N_tT y hpre) (And.intro (cjD_i (N_tT y hpre) (And.intro (cjD_i (N_tT y hpre) (And.intro (cjD_i (N_tT y hpre) (And.intro (cjD_i (N_tT y hpre) trivial) hg0)) hg1)) hg2)) hg3)) hg0) h6)) hg3) h6)) hg0)) hg3)) h15) h6)) h16)) hg0)) hg3)) hg0)) hg0) h6)) h19)) hg0)) hg0)) hg0)) h69) h69) h69) h69) h69) h69)) w hh
    have hv : N_w1 y = (.bool true) := by
      clear hp hh
      unfold N_w1
      rfl
    exact hv ▸ hp
  ·
    rcases Bool.eq_false_or_eq_true (N_c76 y) with h72 | h72
    ·
      have hp := N_p2 y (cjD_i (N_tT y hpre) (And.intro (And.intro (And.intro (And.intro (cjD_i (N_tT y hpre) (And.intro (And.intro (cjD_i (N_tT y hpre) (And.intro (And.intro (cjD_i (N_tT y hpre) (And.intro (And.intro (cjD_i (N_tT y hpre) (And.intro (cjD_i (N_tT y hpre) (And.intro (cjD_i (N_tT y hpre) (And.intro (cjD_i (N_tT y hpre) (And.intro (cjD_i (N_tT y hpre) (And.intro (And.intro (cjD_i (N_tT y hpre) (And.intro (cjD_i (N_tT y hpre) (And.intro (cjD_i (N_tT y hpre) (And.intro (cjD_i (N_tT y hpre) (And.intro (cjD_i (N_tT y hpre) (And.intro (And.intro (cjD_i (N_tT y hpre) (And.intro (cjD_i (N_tT y hpre) (And.intro (cjD_i (N_tT y hpre) (And.intro (And.intro (cjD_i (N_tT y hpre) (And.intro (And.intro (cjD_i (N_tT y hpre) (And.intro (cjD_i (N_tT y hpre) (And.intro (cjD_i (N_tT y hpre) (And.intro (cjD_i (N_tT y hpre) (And.intro (cjD_i (N_tT y hpre) trivial) hg0)) hg1)) hg2)) hg3)) hg0) h6)) hg3) h6)) hg0)) hg3)) h15) h6)) h16)) hg0)) hg3)) hg0)) hg0) h6)) h19)) hg0)) hg0)) hg0)) h69) h69)) h69) h69)) h69) h69)) h72) h72) h72) h72)) w hh
      have hv : N_w2 y = (.bool true) := by
        clear hp hh
        unfold N_w2
        rfl
      exact hv ▸ hp
    ·
      rcases Bool.eq_false_or_eq_true (N_c77 y) with h73 | h73
      ·
        have hp := N_p3 y (cjD_i (N_tT y hpre) (And.intro (And.intro (And.intro (And.intro (And.intro (cjD_i (N_tT y hpre) (And.intro (And.intro (cjD_i (N_tT y hpre) (And.intro (And.intro (cjD_i (N_tT y hpre) (And.intro (And.intro (cjD_i (N_tT y hpre) (And.intro (cjD_i (N_tT y hpre) (And.intro (cjD_i (N_tT y hpre) (And.intro (cjD_i (N_tT y hpre) (And.intro (cjD_i (N_tT y hpre) (And.intro (And.intro (cjD_i (N_tT y hpre) (And.intro (cjD_i (N_tT y hpre) (And.intro (cjD_i (N_tT y hpre) (And.intro (cjD_i (N_tT y hpre) (And.intro (cjD_i (N_tT y hpre) (And.intro (And.intro (cjD_i (N_tT y hpre) (And.intro (cjD_i (N_tT y hpre) (And.intro (cjD_i (N_tT y hpre) (And.intro (And.intro (cjD_i (N_tT y hpre) (And.intro (And.intro (cjD_i (N_tT y hpre) (And.intro (cjD_i (N_tT y hpre) (And.intro (cjD_i (N_tT y hpre) (And.intro (cjD_i (N_tT y hpre) (And.intro (cjD_i (N_tT y hpre) trivial) hg0)) hg1)) hg2)) hg3)) hg0) h6)) hg3) h6)) hg0)) hg3)) h15) h6)) h16)) hg0)) hg3)) hg0)) hg0) h6)) h19)) hg0)) hg0)) hg0)) h69) h69)) h69) h69)) h69) h69)) h72) h72) h72) h72) h73)) w hh
        have hv : N_w3 y = (.bool true) := by
          clear hp hh
          unfold N_w3
          rfl
        exact hv ▸ hp
      ·
        have h80 := N_t4 y hpre h72
        have h81 := N_t5 y hpre h73
        have h83 := N_t6 y hpre h69
        have h84 := N_t7 y hpre h69
        have h85 := N_t8 y hpre h69
        have h86 := N_t9 y hpre h69
        have h87 := N_t10 y hpre h69
        have hp := N_p0 y (cjD_i (N_tT y hpre) (And.intro (cjD_i (N_tT y hpre) (And.intro (cjD_i (N_tT y hpre) (And.intro (cjD_i (N_tT y hpre) (And.intro (cjD_i (N_tT y hpre) (And.intro (cjD_i (N_tT y hpre) (And.intro (And.intro (And.intro (And.intro (And.intro (cjD_i (N_tT y hpre) (And.intro (And.intro (And.intro (And.intro (And.intro (cjD_i (N_tT y hpre) (And.intro (cjD_i (N_tT y hpre) (And.intro (And.intro (And.intro (And.intro (And.intro (cjD_i (N_tT y hpre) (And.intro (And.intro (cjD_i (N_tT y hpre) (And.intro (And.intro (cjD_i (N_tT y hpre) (And.intro (And.intro (cjD_i (N_tT y hpre) (And.intro (cjD_i (N_tT y hpre) (And.intro (cjD_i (N_tT y hpre) (And.intro (cjD_i (N_tT y hpre) (And.intro (cjD_i (N_tT y hpre) (And.intro (And.intro (cjD_i (N_tT y hpre) (And.intro (cjD_i (N_tT y hpre) (And.intro (cjD_i (N_tT y hpre) (And.intro (cjD_i (N_tT y hpre) (And.intro (cjD_i (N_tT y hpre) (And.intro (And.intro (cjD_i (N_tT y hpre) (And.intro (cjD_i (N_tT y hpre) (And.intro (cjD_i (N_tT y hpre) (And.intro (And.intro (cjD_i (N_tT y hpre) (And.intro (And.intro (cjD_i (N_tT y hpre) (And.intro (cjD_i (N_tT y hpre) (And.intro (cjD_i (N_tT y hpre) (And.intro (cjD_i (N_tT y hpre) (And.intro (cjD_i (N_tT y hpre) trivial) hg0)) hg1)) hg2)) hg3)) hg0) h6)) hg3) h6)) hg0)) hg3)) h15) h6)) h16)) hg0)) hg3)) hg0)) hg0) h6)) h19)) hg0)) hg0)) hg0)) h69) h69)) h69) h69)) h69) h69)) h72) h72) h72) h72) h73)) hg0)) h72) h72) h72) h72) h73)) h80) h80) h80) h80) h81)) h83)) h84)) h85)) h86)) h87)) w hh
        have hv : N_w0 y = (.bool true) := by
          clear hp hh
          unfold N_w0
          rfl
        exact hv ▸ hp
end Go.Proofs.YtbkpnhbcihcgaaaGreatDoor
