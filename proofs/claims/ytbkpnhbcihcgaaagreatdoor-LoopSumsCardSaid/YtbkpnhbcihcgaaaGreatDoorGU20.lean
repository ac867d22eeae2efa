/-
  The contract of bipole.bipolelaw03.LoopSums.
-/
import Derived.Test.YtbkpnhbcihcgaaaGreatDoorGU2
import Derived.Test.YtbkpnhbcihcgaaaGreatDoorGU3
import Derived.Test.YtbkpnhbcihcgaaaGreatDoorGU12
set_option linter.all false
set_option maxRecDepth 1000000
set_option maxHeartbeats 2000000
open Go.RowKit
namespace Go.Proofs.YtbkpnhbcihcgaaaGreatDoor
open Mini
def O_at0 (y : Int) : Int := (Int.tmod (IntKind.i64.wrap y) (8 : Int))
abbrev O_xq0 : IE := .ite .gt (.k (-8)) (.v 18) (.k (-8)) (.v 18)
abbrev O_xq1 : IE := .ite .gt (.k (-8)) (.v 19) (.k (-8)) (.v 19)
abbrev O_xq2 : BE := .and (.cm .eq (.ite .lt (.k (8)) O_xq0 (.k (8)) O_xq0) (.v 18)) (.and (.cm .eq (.ite .lt (.k (8)) O_xq1 (.k (8)) O_xq1) (.v 19)) .t)
abbrev O_xq3 : IE := .wr (.add (.k (0)) (.wr (.mul (.v 14) (.v 16))))
abbrev O_xq4 : IE := .wr (.sub (.wr (.mul (.k (0)) (.v 18))) (.wr (.mul (.k (0)) (.v 19))))
abbrev O_xq5 : IE := .wr (.add (.wr (.mul (.k (0)) (.v 19))) (.wr (.mul (.k (0)) (.v 18))))
abbrev O_xq6 : IE := .wr (.add (.wr (.add (.k (0)) (.wr (.mul (.v 13) (.v 16))))) (.wr (.mul (.v 14) (.v 15))))
abbrev O_xq7 : IE := .wr (.add (.wr (.sub (.wr (.mul (.wr (.add O_xq4 O_xq3)) (.v 18))) (.wr (.mul O_xq5 (.v 19))))) O_xq6)
abbrev O_xq8 : IE := .wr (.add (.wr (.mul (.wr (.add O_xq4 O_xq3)) (.v 19))) (.wr (.mul O_xq5 (.v 18))))
abbrev O_xq9 : IE := .wr (.add (.wr (.add (.k (0)) (.wr (.mul (.v 12) (.v 16))))) (.wr (.mul (.v 13) (.v 15))))
abbrev O_xq10 : IE := .wr (.add (.wr (.sub (.wr (.mul O_xq7 (.v 18))) (.wr (.mul O_xq8 (.v 19))))) O_xq9)
abbrev O_xq11 : IE := .wr (.add (.wr (.mul O_xq7 (.v 19))) (.wr (.mul O_xq8 (.v 18))))
abbrev O_xq12 : IE := .wr (.add (.k (0)) (.wr (.mul (.v 12) (.v 15))))
abbrev O_xq13 : IE := .wr (.add (.wr (.sub (.wr (.mul O_xq10 (.v 18))) (.wr (.mul O_xq11 (.v 19))))) O_xq12)
abbrev O_xq14 : IE := .wr (.sub (.wr (.mul (.wr (.add O_xq4 (.v 14))) (.v 18))) (.wr (.mul O_xq5 (.v 19))))
abbrev O_xq15 : IE := .wr (.add (.wr (.mul (.wr (.add O_xq4 (.v 14))) (.v 19))) (.wr (.mul O_xq5 (.v 18))))
abbrev O_xq16 : IE := .wr (.add (.wr (.sub (.wr (.mul (.wr (.add O_xq14 (.v 13))) (.v 18))) (.wr (.mul O_xq15 (.v 19))))) (.v 12))
abbrev O_xq17 : IE := .wr (.add (.wr (.sub (.wr (.mul (.wr (.add O_xq4 (.v 16))) (.v 18))) (.wr (.mul O_xq5 (.v 19))))) (.v 15))
abbrev O_xq18 : IE := .wr (.add (.wr (.mul (.wr (.add O_xq14 (.v 13))) (.v 19))) (.wr (.mul O_xq15 (.v 18))))
abbrev O_xq19 : IE := .wr (.add (.wr (.mul (.wr (.add O_xq4 (.v 16))) (.v 19))) (.wr (.mul O_xq5 (.v 18))))
abbrev O_xq20 : IE := .wr (.sub (.wr (.mul O_xq16 O_xq17)) (.wr (.mul O_xq18 O_xq19)))
abbrev O_xq21 : IE := .wr (.add (.wr (.mul O_xq10 (.v 19))) (.wr (.mul O_xq11 (.v 18))))
abbrev O_xq22 : IE := .wr (.add (.wr (.mul O_xq16 O_xq19)) (.wr (.mul O_xq18 O_xq17)))
abbrev O_xq23 : IE := .wr (.add O_xq14 (.wr (.add (.v 13) (.v 16))))
abbrev O_xq24 : IE := .wr (.add (.wr (.sub (.wr (.mul O_xq23 (.v 18))) (.wr (.mul O_xq15 (.v 19))))) (.wr (.add (.v 12) (.v 15))))
abbrev O_xq25 : IE := .wr (.add (.wr (.mul O_xq23 (.v 19))) (.wr (.mul O_xq15 (.v 18))))
abbrev O_xq26 : IE := .wr (.mul (.wr (.add (.v 8) (.v 10))) (.k (1)))
abbrev O_xq27 : BE := .cm .ne O_xq26 (.wr (.add (.wr (.mul (.v 8) (.k (1)))) (.wr (.mul (.v 10) (.k (1))))))
abbrev O_xq28 : IE := .wr (.mul (.wr (.add (.v 9) (.v 11))) (.wr (.mul (.k (1)) (.v 14))))
abbrev O_xq29 : IE := .wr (.mul (.v 9) (.wr (.mul (.k (1)) (.v 14))))
abbrev O_xq30 : IE := .wr (.mul (.v 11) (.wr (.mul (.k (1)) (.v 14))))
abbrev O_xq31 : BE := .cm .ne O_xq28 (.wr (.add O_xq29 O_xq30))
abbrev O_xq32 : IE := .wr (.sub (.k (0)) (.wr (.mul (.v 12) (.wr (.mul (.k (1)) (.v 14))))))
abbrev O_xq33 : IE := .wr (.sub (.k (0)) (.wr (.mul (.v 13) (.k (1)))))
abbrev O_xq34 : IE := .wr (.add (.wr (.add (.k (0)) (.wr (.mul O_xq32 O_xq26)))) (.wr (.mul O_xq33 O_xq28)))
abbrev O_xq35 : IE := .wr (.add (.wr (.add (.k (0)) (.wr (.mul O_xq32 (.wr (.mul (.v 8) (.k (1)))))))) (.wr (.mul O_xq33 O_xq29)))
abbrev O_xq36 : IE := .wr (.add (.wr (.add (.k (0)) (.wr (.mul O_xq32 (.wr (.mul (.v 10) (.k (1)))))))) (.wr (.mul O_xq33 O_xq30)))
abbrev O_xq37 : BE := .cm .ne O_xq34 (.wr (.add O_xq35 O_xq36))
abbrev O_xq38 : IE := .wr (.add (.wr (.add (.k (0)) (.wr (.mul O_xq32 O_xq28)))) (.wr (.mul O_xq33 O_xq34)))
abbrev O_xq39 : IE := .wr (.add (.wr (.add (.k (0)) (.wr (.mul O_xq32 O_xq29)))) (.wr (.mul O_xq33 O_xq35)))
abbrev O_xq40 : IE := .wr (.add (.wr (.add (.k (0)) (.wr (.mul O_xq32 O_xq30)))) (.wr (.mul O_xq33 O_xq36)))
abbrev O_xq41 : BE := .cm .ne O_xq38 (.wr (.add O_xq39 O_xq40))
abbrev O_xq42 : IE := .wr (.add (.wr (.add (.k (0)) (.wr (.mul O_xq32 O_xq34)))) (.wr (.mul O_xq33 O_xq38)))
abbrev O_xq43 : IE := .wr (.add (.wr (.add (.k (0)) (.wr (.mul O_xq32 O_xq35)))) (.wr (.mul O_xq33 O_xq39)))
abbrev O_xq44 : IE := .wr (.add (.wr (.add (.k (0)) (.wr (.mul O_xq32 O_xq36)))) (.wr (.mul O_xq33 O_xq40)))
abbrev O_xq45 : BE := .cm .ne O_xq42 (.wr (.add O_xq43 O_xq44))
abbrev O_xq46 : IE := .wr (.add (.wr (.add (.k (0)) (.wr (.mul O_xq32 O_xq38)))) (.wr (.mul O_xq33 O_xq42)))
abbrev O_xq47 : IE := .wr (.add (.wr (.add (.k (0)) (.wr (.mul O_xq32 O_xq39)))) (.wr (.mul O_xq33 O_xq43)))
abbrev O_xq48 : IE := .wr (.add (.wr (.add (.k (0)) (.wr (.mul O_xq32 O_xq40)))) (.wr (.mul O_xq33 O_xq44)))
abbrev O_xq49 : BE := .cm .ne O_xq46 (.wr (.add O_xq47 O_xq48))
abbrev O_xq50 : IE := .wr (.add (.wr (.add (.k (0)) (.wr (.mul O_xq32 O_xq42)))) (.wr (.mul O_xq33 O_xq46)))
abbrev O_xq51 : IE := .wr (.add (.wr (.add (.k (0)) (.wr (.mul O_xq32 O_xq43)))) (.wr (.mul O_xq33 O_xq47)))
abbrev O_xq52 : IE := .wr (.add (.wr (.add (.k (0)) (.wr (.mul O_xq32 O_xq44)))) (.wr (.mul O_xq33 O_xq48)))
abbrev O_xq53 : BE := .cm .ne O_xq50 (.wr (.add O_xq51 O_xq52))
abbrev O_xq54 : IE := .wr (.mul O_xq35 (.wr (.mul (.k (1)) (.v 14))))
abbrev O_xq55 : IE := .wr (.add (.wr (.add (.k (0)) (.wr (.mul O_xq32 (.wr (.mul O_xq29 (.k (1)))))))) (.wr (.mul O_xq33 O_xq54)))
abbrev O_xq56 : IE := .wr (.add (.wr (.add (.k (0)) (.wr (.mul O_xq32 O_xq54)))) (.wr (.mul O_xq33 O_xq55)))
abbrev O_xq57 : IE := .wr (.add (.wr (.add (.k (0)) (.wr (.mul O_xq32 O_xq55)))) (.wr (.mul O_xq33 O_xq56)))
abbrev O_xq58 : IE := .wr (.add (.wr (.add (.k (0)) (.wr (.mul O_xq32 O_xq56)))) (.wr (.mul O_xq33 O_xq57)))
abbrev O_xq59 : BE := .cm .ne (.wr (.mul O_xq29 (.k (1)))) O_xq29
abbrev O_xq60 : IE := .mul (.add (.v 9) (.v 11)) (.mul (.k (1)) (.v 14))
abbrev O_xq61 : IE := .sub (.k (0)) (.mul (.v 12) (.mul (.k (1)) (.v 14)))
abbrev O_xq62 : IE := .add (.add (.k (0)) (.mul O_xq61 (.mul (.add (.v 8) (.v 10)) (.k (1))))) (.mul (.sub (.k (0)) (.mul (.v 13) (.k (1)))) O_xq60)
abbrev O_xq63 : IE := .add (.add (.k (0)) (.mul O_xq61 (.mul (.v 8) (.k (1))))) (.mul (.sub (.k (0)) (.mul (.v 13) (.k (1)))) (.mul (.v 9) (.mul (.k (1)) (.v 14))))
abbrev O_xq64 : IE := .add (.add (.k (0)) (.mul O_xq61 (.mul (.v 10) (.k (1))))) (.mul (.sub (.k (0)) (.mul (.v 13) (.k (1)))) (.mul (.v 11) (.mul (.k (1)) (.v 14))))
abbrev O_xq65 : IE := .add (.add (.k (0)) (.mul O_xq61 O_xq60)) (.mul (.sub (.k (0)) (.mul (.v 13) (.k (1)))) O_xq62)
abbrev O_xq66 : IE := .add (.add (.k (0)) (.mul O_xq61 (.mul (.v 9) (.mul (.k (1)) (.v 14))))) (.mul (.sub (.k (0)) (.mul (.v 13) (.k (1)))) O_xq63)
abbrev O_xq67 : IE := .add (.add (.k (0)) (.mul O_xq61 (.mul (.v 11) (.mul (.k (1)) (.v 14))))) (.mul (.sub (.k (0)) (.mul (.v 13) (.k (1)))) O_xq64)
abbrev O_xq68 : IE := .add (.add (.k (0)) (.mul O_xq61 O_xq62)) (.mul (.sub (.k (0)) (.mul (.v 13) (.k (1)))) O_xq65)
abbrev O_xq69 : IE := .add (.add (.k (0)) (.mul O_xq61 O_xq63)) (.mul (.sub (.k (0)) (.mul (.v 13) (.k (1)))) O_xq66)
abbrev O_xq70 : IE := .add (.add (.k (0)) (.mul O_xq61 O_xq64)) (.mul (.sub (.k (0)) (.mul (.v 13) (.k (1)))) O_xq67)
abbrev O_xq71 : IE := .add (.add (.k (0)) (.mul O_xq61 O_xq65)) (.mul (.sub (.k (0)) (.mul (.v 13) (.k (1)))) O_xq68)
abbrev O_xq72 : IE := .add (.add (.k (0)) (.mul O_xq61 O_xq66)) (.mul (.sub (.k (0)) (.mul (.v 13) (.k (1)))) O_xq69)
abbrev O_xq73 : IE := .add (.add (.k (0)) (.mul O_xq61 O_xq67)) (.mul (.sub (.k (0)) (.mul (.v 13) (.k (1)))) O_xq70)
abbrev O_xq74 : IE := .add (.add (.k (0)) (.mul O_xq61 O_xq69)) (.mul (.sub (.k (0)) (.mul (.v 13) (.k (1)))) O_xq72)
abbrev O_xq75 : IE := .mul (.mul (.v 9) (.mul (.k (1)) (.v 14))) (.k (1))
abbrev O_xq76 : IE := .sub (.mul (.k (0)) (.v 18)) (.mul (.k (0)) (.v 19))
abbrev O_xq77 : IE := .add O_xq76 (.add (.k (0)) (.mul (.v 14) (.v 16)))
abbrev O_xq78 : IE := .add (.mul (.k (0)) (.v 19)) (.mul (.k (0)) (.v 18))
abbrev O_xq79 : IE := .add (.sub (.mul O_xq77 (.v 18)) (.mul O_xq78 (.v 19))) (.add (.add (.k (0)) (.mul (.v 13) (.v 16))) (.mul (.v 14) (.v 15)))
abbrev O_xq80 : IE := .add (.mul O_xq77 (.v 19)) (.mul O_xq78 (.v 18))
abbrev O_xq81 : IE := .add (.sub (.mul O_xq79 (.v 18)) (.mul O_xq80 (.v 19))) (.add (.add (.k (0)) (.mul (.v 12) (.v 16))) (.mul (.v 13) (.v 15)))
abbrev O_xq82 : IE := .add (.mul O_xq79 (.v 19)) (.mul O_xq80 (.v 18))
abbrev O_xq83 : IE := .add (.sub (.mul O_xq81 (.v 18)) (.mul O_xq82 (.v 19))) (.add (.k (0)) (.mul (.v 12) (.v 15)))
abbrev O_xq84 : IE := .sub (.mul (.add O_xq76 (.v 14)) (.v 18)) (.mul O_xq78 (.v 19))
abbrev O_xq85 : IE := .add (.mul (.add O_xq76 (.v 14)) (.v 19)) (.mul O_xq78 (.v 18))
abbrev O_xq86 : IE := .add (.sub (.mul (.add O_xq84 (.v 13)) (.v 18)) (.mul O_xq85 (.v 19))) (.v 12)
abbrev O_xq87 : IE := .add (.sub (.mul (.add O_xq76 (.v 16)) (.v 18)) (.mul O_xq78 (.v 19))) (.v 15)
abbrev O_xq88 : IE := .add (.mul (.add O_xq84 (.v 13)) (.v 19)) (.mul O_xq85 (.v 18))
abbrev O_xq89 : IE := .add (.mul (.add O_xq76 (.v 16)) (.v 19)) (.mul O_xq78 (.v 18))
abbrev O_xq90 : IE := .sub (.mul O_xq86 O_xq87) (.mul O_xq88 O_xq89)
abbrev O_xq91 : IE := .add (.mul O_xq81 (.v 19)) (.mul O_xq82 (.v 18))
abbrev O_xq92 : IE := .add (.mul O_xq86 O_xq89) (.mul O_xq88 O_xq87)
abbrev O_xq93 : IE := .add (.sub (.mul (.add O_xq84 (.add (.v 13) (.v 16))) (.v 18)) (.mul O_xq85 (.v 19))) (.add (.v 12) (.v 15))
abbrev O_xq94 : IE := .add (.mul (.add O_xq84 (.add (.v 13) (.v 16))) (.v 19)) (.mul O_xq85 (.v 18))
abbrev O_xq95 : IE := .add (.add (.k (0)) (.mul O_xq61 O_xq75)) (.mul (.sub (.k (0)) (.mul (.v 13) (.k (1)))) (.mul O_xq63 (.mul (.k (1)) (.v 14))))
abbrev O_xq96 : IE := .add (.add (.k (0)) (.mul O_xq61 (.mul O_xq63 (.mul (.k (1)) (.v 14))))) (.mul (.sub (.k (0)) (.mul (.v 13) (.k (1)))) O_xq95)
abbrev O_xq97 : IE := .add (.add (.k (0)) (.mul O_xq61 O_xq95)) (.mul (.sub (.k (0)) (.mul (.v 13) (.k (1)))) O_xq96)
abbrev O_xq98 : IE := .add (.add (.k (0)) (.mul O_xq61 O_xq96)) (.mul (.sub (.k (0)) (.mul (.v 13) (.k (1)))) O_xq97)

abbrev O_pre (y : LV) : Prop := (-128 ≤ y.b0 ∧ y.b0 ≤ 127) ∧ (-128 ≤ y.b1 ∧ y.b1 ≤ 127) ∧ (-128 ≤ y.z0 ∧ y.z0 ≤ 127) ∧ (-128 ≤ y.z1 ∧ y.z1 ≤ 127) ∧ ((O_at0 y.a2) ≠ 0) ∧ ((O_at0 y.b2) = 0) ∧ ((O_at0 y.b1) ≠ 0)
theorem O_X : FOkS Tryz.prog x_O := bothX_ok (noXS_ok) (tabT_ok (by kernel_rfl) aw3_calls)
theorem O_args (y : LV) : (#[.agg #[.int .i8 y.a0, .int .i8 y.a1, .int .i8 y.a2], .agg #[.int .i8 y.b0, .int .i8 y.b1, .int .i8 y.b2], .agg #[.int .i8 y.z0, .int .i8 y.z1]] : Array Value).toList.all (ground 8) = true := by kernel_rfl
theorem O_hr (y : LV) (hpre : O_pre y) : InR LS_B (LS_R y) := LS_hr y ⟨hpre.1, hpre.2.1, hpre.2.2.1, hpre.2.2.2.1⟩
def O_h0 : Prop := (true = true)
theorem O_g0 : (true = true) := by first | rfl | trivial | decide | omega
def O_h1 : Prop := ((0 : Int) = (0 : Int))
theorem O_g1 : ((0 : Int) = (0 : Int)) := by first | rfl | trivial | decide | omega
def O_h2 : Prop := (false = false)
theorem O_g2 : (false = false) := by first | rfl | trivial | decide | omega
def O_h3 : Prop := ((1 : Int) = (1 : Int))
theorem O_g3 : ((1 : Int) = (1 : Int)) := by first | rfl | trivial | decide | omega
def O_h4 : Prop := ((2 : Int) = (2 : Int))
theorem O_g4 : ((2 : Int) = (2 : Int)) := by first | rfl | trivial | decide | omega
def O_h5 : Prop := ((decide ((3 : Int) > (0 : Int))) = Bool.true)
theorem O_g5 : ((decide ((3 : Int) > (0 : Int))) = Bool.true) := by first | rfl | trivial | decide | omega
def O_c0 (y : LV) : Bool := BE.ev (LS_R y) (.cm .eq (.v 14) (.k (0)))
def O_c1 (y : LV) : Bool := BE.ev (LS_R y) (.cm .eq (.v 17) (.k (0)))
def O_h8 : Prop := ((decide ((2 : Int) > (0 : Int))) = Bool.true)
theorem O_g8 : ((decide ((2 : Int) > (0 : Int))) = Bool.true) := by first | rfl | trivial | decide | omega
def O_c2 (y : LV) : Bool := BE.ev (LS_R y) (.cm .eq (.v 16) (.k (0)))
def O_h10 : Prop := ((decide ((3 : Int) > (5 : Int))) = Bool.false)
theorem O_g10 : ((decide ((3 : Int) > (5 : Int))) = Bool.false) := by first | rfl | trivial | decide | omega
def O_c9 (y : LV) : Bool := BE.ev (LS_R y) (.not O_xq2)
def O_h18 : Prop := ((decide ((2 : Int) ≥ (0 : Int))) = Bool.true)
theorem O_g18 : ((decide ((2 : Int) ≥ (0 : Int))) = Bool.true) := by first | rfl | trivial | decide | omega
def O_h19 : Prop := ((decide ((1 : Int) ≥ (0 : Int))) = Bool.true)
theorem O_g19 : ((decide ((1 : Int) ≥ (0 : Int))) = Bool.true) := by first | rfl | trivial | decide | omega
def O_h20 : Prop := ((decide ((0 : Int) ≥ (0 : Int))) = Bool.true)
theorem O_g20 : ((decide ((0 : Int) ≥ (0 : Int))) = Bool.true) := by first | rfl | trivial | decide | omega
def O_h21 : Prop := ((decide ((-1 : Int) ≥ (0 : Int))) = Bool.false)
theorem O_g21 : ((decide ((-1 : Int) ≥ (0 : Int))) = Bool.false) := by first | rfl | trivial | decide | omega
def O_h22 : Prop := ((decide ((2 : Int) > (5 : Int))) = Bool.false)
theorem O_g22 : ((decide ((2 : Int) > (5 : Int))) = Bool.false) := by first | rfl | trivial | decide | omega
def O_h27 : Prop := ((3 : Int) = (3 : Int))
theorem O_g27 : ((3 : Int) = (3 : Int)) := by first | rfl | trivial | decide | omega
def O_h28 : Prop := ((decide ((4 : Int) > (5 : Int))) = Bool.false)
theorem O_g28 : ((decide ((4 : Int) > (5 : Int))) = Bool.false) := by first | rfl | trivial | decide | omega
def O_c22 (y : LV) : Bool := BE.ev (LS_R y) (.cm .eq O_xq3 (.k (0)))
def O_h38 : Prop := ((decide ((3 : Int) ≥ (0 : Int))) = Bool.true)
theorem O_g38 : ((decide ((3 : Int) ≥ (0 : Int))) = Bool.true) := by first | rfl | trivial | decide | omega
def O_c23 (y : LV) : Bool := BE.ev (LS_R y) (.not (.and (.cm .eq O_xq13 O_xq20) (.and (.cm .eq O_xq21 O_xq22) .t)))
def O_h40 : Prop := ((Bool.false != Bool.false) = Bool.false)
theorem O_g40 : ((Bool.false != Bool.false) = Bool.false) := by first | rfl | trivial | decide | omega
def O_c28 (y : LV) : Bool := BE.ev (LS_R y) (.not (.and (.cm .eq O_xq24 (.wr (.add O_xq16 O_xq17))) (.and (.cm .eq O_xq25 (.wr (.add O_xq18 O_xq19))) .t)))
def O_h50 : Prop := ((decide ((5 : Int) > (24 : Int))) = Bool.false)
theorem O_g50 : ((decide ((5 : Int) > (24 : Int))) = Bool.false) := by first | rfl | trivial | decide | omega
def O_h57 : Prop := ((4 : Int) = (4 : Int))
theorem O_g57 : ((4 : Int) = (4 : Int)) := by first | rfl | trivial | decide | omega
def O_h60 : Prop := ((5 : Int) = (5 : Int))
theorem O_g60 : ((5 : Int) = (5 : Int)) := by first | rfl | trivial | decide | omega
def O_c71 (y : LV) : Bool := BE.ev (LS_R y) O_xq27
def O_c72 (y : LV) : Bool := BE.ev (LS_R y) O_xq31
def O_c73 (y : LV) : Bool := BE.ev (LS_R y) O_xq37
def O_c74 (y : LV) : Bool := BE.ev (LS_R y) O_xq41
def O_c75 (y : LV) : Bool := BE.ev (LS_R y) O_xq45
def O_c76 (y : LV) : Bool := BE.ev (LS_R y) O_xq49
def O_h97 : Prop := ((6 : Int) = (6 : Int))
theorem O_g97 : ((6 : Int) = (6 : Int)) := by first | rfl | trivial | decide | omega
def O_c77 (y : LV) : Bool := BE.ev (LS_R y) O_xq53
def O_c78 (y : LV) : Bool := BE.ev (LS_R y) (.cm .ne (.v 14) (.k (1)))
def O_c81 (y : LV) : Bool := BE.ev (LS_R y) (.cm .lt O_xq35 (.k (-1000)))
def O_c82 (y : LV) : Bool := BE.ev (LS_R y) (.cm .gt O_xq35 (.k (1000)))
def O_h104 : Prop := ((decide ((4 : Int) > (24 : Int))) = Bool.false)
theorem O_g104 : ((decide ((4 : Int) > (24 : Int))) = Bool.false) := by first | rfl | trivial | decide | omega
def O_c89 (y : LV) : Bool := BE.ev (LS_R y) (.cm .lt O_xq58 (.k (-1073741824)))
def O_c90 (y : LV) : Bool := BE.ev (LS_R y) (.cm .gt O_xq58 (.k (1073741824)))
def O_c91 (y : LV) : Bool := BE.ev (LS_R y) O_xq59
def O_c92 (y : LV) : Bool := BE.ev (LS_R y) (.cm .ne O_xq54 O_xq35)
def O_c93 (y : LV) : Bool := BE.ev (LS_R y) (.cm .ne O_xq55 O_xq39)
def O_c94 (y : LV) : Bool := BE.ev (LS_R y) (.cm .ne O_xq56 O_xq43)
def O_c95 (y : LV) : Bool := BE.ev (LS_R y) (.cm .ne O_xq57 O_xq47)
def O_c96 (y : LV) : Bool := BE.ev (LS_R y) (.cm .ne O_xq58 O_xq51)
theorem O_c71_ff_p (ρ : List Int) : IE.ev ρ (.mul (.add (.v 8) (.v 10)) (.k (1))) = IE.ev ρ (.add (.mul (.v 8) (.k (1))) (.mul (.v 10) (.k (1)))) := by first | rfl | (simp only [IE.ev]; generalize List.getD ρ 8 0 = v8; generalize List.getD ρ 10 0 = v10; grind)
theorem O_c71_ff (y : LV) (hpre : O_pre y) : O_c71 y = false :=
  BE.same_ok (O_hr y hpre) O_xq27 .ne _ _ _ (by kernel_rfl) (by kernel_rfl) O_c71_ff_p (by kernel_rfl)
theorem O_c72_ff_p (ρ : List Int) : IE.ev ρ O_xq60 = IE.ev ρ (.add (.mul (.v 9) (.mul (.k (1)) (.v 14))) (.mul (.v 11) (.mul (.k (1)) (.v 14)))) := by first | rfl | (simp only [IE.ev]; generalize List.getD ρ 9 0 = v9; generalize List.getD ρ 11 0 = v11; generalize List.getD ρ 14 0 = v14; grind)
theorem O_c72_ff (y : LV) (hpre : O_pre y) : O_c72 y = false :=
  BE.same_ok (O_hr y hpre) O_xq31 .ne _ _ _ (by kernel_rfl) (by kernel_rfl) O_c72_ff_p (by kernel_rfl)
theorem O_c73_ff_p (ρ : List Int) : IE.ev ρ O_xq62 = IE.ev ρ (.add O_xq63 O_xq64) := by first | rfl | (simp only [IE.ev]; generalize List.getD ρ 8 0 = v8; generalize List.getD ρ 9 0 = v9; generalize List.getD ρ 10 0 = v10; generalize List.getD ρ 11 0 = v11; generalize List.getD ρ 12 0 = v12; generalize List.getD ρ 13 0 = v13; generalize List.getD ρ 14 0 = v14; grind)
theorem O_c73_ff (y : LV) (hpre : O_pre y) : O_c73 y = false :=
  BE.same_ok (O_hr y hpre) O_xq37 .ne _ _ _ (by kernel_rfl) (by kernel_rfl) O_c73_ff_p (by kernel_rfl)
theorem O_c74_ff_p (ρ : List Int) : IE.ev ρ O_xq65 = IE.ev ρ (.add O_xq66 O_xq67) := by first | rfl | (simp only [IE.ev]; generalize List.getD ρ 8 0 = v8; generalize List.getD ρ 9 0 = v9; generalize List.getD ρ 10 0 = v10; generalize List.getD ρ 11 0 = v11; generalize List.getD ρ 12 0 = v12; generalize List.getD ρ 13 0 = v13; generalize List.getD ρ 14 0 = v14; grind)
theorem O_c74_ff (y : LV) (hpre : O_pre y) : O_c74 y = false :=
  BE.same_ok (O_hr y hpre) O_xq41 .ne _ _ _ (by kernel_rfl) (by kernel_rfl) O_c74_ff_p (by kernel_rfl)
theorem O_c75_ff_p (ρ : List Int) : IE.ev ρ O_xq68 = IE.ev ρ (.add O_xq69 O_xq70) := by first | rfl | (simp only [IE.ev]; generalize List.getD ρ 8 0 = v8; generalize List.getD ρ 9 0 = v9; generalize List.getD ρ 10 0 = v10; generalize List.getD ρ 11 0 = v11; generalize List.getD ρ 12 0 = v12; generalize List.getD ρ 13 0 = v13; generalize List.getD ρ 14 0 = v14; grind)
theorem O_c75_ff (y : LV) (hpre : O_pre y) : O_c75 y = false :=
  BE.same_ok (O_hr y hpre) O_xq45 .ne _ _ _ (by kernel_rfl) (by kernel_rfl) O_c75_ff_p (by kernel_rfl)
theorem O_c76_ff_p (ρ : List Int) : IE.ev ρ O_xq71 = IE.ev ρ (.add O_xq72 O_xq73) := by first | rfl | (simp only [IE.ev]; generalize List.getD ρ 8 0 = v8; generalize List.getD ρ 9 0 = v9; generalize List.getD ρ 10 0 = v10; generalize List.getD ρ 11 0 = v11; generalize List.getD ρ 12 0 = v12; generalize List.getD ρ 13 0 = v13; generalize List.getD ρ 14 0 = v14; grind)
theorem O_c76_ff (y : LV) (hpre : O_pre y) : O_c76 y = false :=
  BE.same_ok (O_hr y hpre) O_xq49 .ne _ _ _ (by kernel_rfl) (by kernel_rfl) O_c76_ff_p (by kernel_rfl)
theorem O_c77_ff_p (ρ : List Int) : IE.ev ρ (.add (.add (.k (0)) (.mul O_xq61 O_xq68)) (.mul (.sub (.k (0)) (.mul (.v 13) (.k (1)))) O_xq71)) = IE.ev ρ (.add O_xq74 (.add (.add (.k (0)) (.mul O_xq61 O_xq70)) (.mul (.sub (.k (0)) (.mul (.v 13) (.k (1)))) O_xq73))) := by first | rfl | (simp only [IE.ev]; generalize List.getD ρ 8 0 = v8; generalize List.getD ρ 9 0 = v9; generalize List.getD ρ 10 0 = v10; generalize List.getD ρ 11 0 = v11; generalize List.getD ρ 12 0 = v12; generalize List.getD ρ 13 0 = v13; generalize List.getD ρ 14 0 = v14; grind)
theorem O_c77_ff (y : LV) (hpre : O_pre y) : O_c77 y = false :=
  BE.same_ok (O_hr y hpre) O_xq53 .ne _ _ _ (by kernel_rfl) (by kernel_rfl) O_c77_ff_p (by kernel_rfl)
theorem O_c91_ff_p (ρ : List Int) : IE.ev ρ O_xq75 = IE.ev ρ (.mul (.v 9) (.mul (.k (1)) (.v 14))) := by first | rfl | (simp only [IE.ev]; generalize List.getD ρ 9 0 = v9; generalize List.getD ρ 14 0 = v14; grind)
theorem O_c91_ff (y : LV) (hpre : O_pre y) : O_c91 y = false :=
  BE.same_ok (O_hr y hpre) O_xq59 .ne _ _ _ (by kernel_rfl) (by kernel_rfl) O_c91_ff_p (by kernel_rfl)
def O_L : List (BE × Bool) := [((.cm .lt (.v 12) (.k (-100))), false), ((.cm .gt (.v 12) (.k (100))), false), ((.cm .lt (.v 13) (.k (-100))), false), ((.cm .gt (.v 13) (.k (100))), false), ((.cm .lt (.v 14) (.k (-100))), false), ((.cm .gt (.v 14) (.k (100))), false), ((.cm .lt (.v 15) (.k (-100))), false), ((.cm .gt (.v 15) (.k (100))), false), ((.cm .lt (.v 16) (.k (-100))), false), ((.cm .gt (.v 16) (.k (100))), false), ((.cm .lt O_xq12 (.k (-100))), false), ((.cm .gt O_xq12 (.k (100))), false), ((.cm .lt O_xq9 (.k (-100))), false), ((.cm .gt O_xq9 (.k (100))), false), ((.cm .lt O_xq6 (.k (-100))), false), ((.cm .gt O_xq6 (.k (100))), false), ((.cm .lt O_xq3 (.k (-100))), false), ((.cm .gt O_xq3 (.k (100))), false), ((.cm .lt (.wr (.add (.v 12) (.v 15))) (.k (-100))), false), ((.cm .gt (.wr (.add (.v 12) (.v 15))) (.k (100))), false), ((.cm .lt (.wr (.add (.v 13) (.v 16))) (.k (-100))), false), ((.cm .gt (.wr (.add (.v 13) (.v 16))) (.k (100))), false), ((.cm .lt (.v 8) (.k (-1000))), false), ((.cm .gt (.v 8) (.k (1000))), false), ((.cm .lt (.v 9) (.k (-1000))), false), ((.cm .gt (.v 9) (.k (1000))), false), ((.cm .lt O_xq35 (.k (-1073741824))), false), ((.cm .gt O_xq35 (.k (1073741824))), false), ((.cm .lt O_xq39 (.k (-1073741824))), false), ((.cm .gt O_xq39 (.k (1073741824))), false), ((.cm .lt O_xq43 (.k (-1073741824))), false), ((.cm .gt O_xq43 (.k (1073741824))), false), ((.cm .lt O_xq47 (.k (-1073741824))), false), ((.cm .gt O_xq47 (.k (1073741824))), false), ((.cm .lt O_xq51 (.k (-1073741824))), false), ((.cm .gt O_xq51 (.k (1073741824))), false), ((.cm .lt (.v 10) (.k (-1000))), false), ((.cm .gt (.v 10) (.k (1000))), false), ((.cm .lt (.v 11) (.k (-1000))), false), ((.cm .gt (.v 11) (.k (1000))), false), ((.cm .lt O_xq36 (.k (-1073741824))), false), ((.cm .gt O_xq36 (.k (1073741824))), false), ((.cm .lt O_xq40 (.k (-1073741824))), false), ((.cm .gt O_xq40 (.k (1073741824))), false), ((.cm .lt O_xq44 (.k (-1073741824))), false), ((.cm .gt O_xq44 (.k (1073741824))), false), ((.cm .lt O_xq48 (.k (-1073741824))), false), ((.cm .gt O_xq48 (.k (1073741824))), false), ((.cm .lt O_xq52 (.k (-1073741824))), false), ((.cm .gt O_xq52 (.k (1073741824))), false), ((.cm .lt (.wr (.add (.v 8) (.v 10))) (.k (-1000))), false), ((.cm .gt (.wr (.add (.v 8) (.v 10))) (.k (1000))), false), ((.cm .lt (.wr (.add (.v 9) (.v 11))) (.k (-1000))), false), ((.cm .gt (.wr (.add (.v 9) (.v 11))) (.k (1000))), false), ((.cm .lt O_xq34 (.k (-1073741824))), false), ((.cm .gt O_xq34 (.k (1073741824))), false), ((.cm .lt O_xq38 (.k (-1073741824))), false), ((.cm .gt O_xq38 (.k (1073741824))), false), ((.cm .lt O_xq42 (.k (-1073741824))), false), ((.cm .gt O_xq42 (.k (1073741824))), false), ((.cm .lt O_xq46 (.k (-1073741824))), false), ((.cm .gt O_xq46 (.k (1073741824))), false), ((.cm .lt O_xq50 (.k (-1073741824))), false), ((.cm .gt O_xq50 (.k (1073741824))), false), ((.cm .lt O_xq29 (.k (-1000))), false), ((.cm .gt O_xq29 (.k (1000))), false), ((.cm .lt O_xq55 (.k (-1073741824))), false), ((.cm .gt O_xq55 (.k (1073741824))), false), ((.cm .lt O_xq56 (.k (-1073741824))), false), ((.cm .gt O_xq56 (.k (1073741824))), false), ((.cm .lt O_xq57 (.k (-1073741824))), false), ((.cm .gt O_xq57 (.k (1073741824))), false)]
def O_E (y : LV) : List Prop := [O_h0, O_h1, O_h2, O_h3, O_h4, O_h5, O_h8, O_h10, O_h18, O_h19, O_h20, O_h21, O_h22, O_h27, O_h28, O_h38, O_h40, O_h50, O_h57, O_h60, (O_c71 y = false), (O_c72 y = false), (O_c73 y = false), (O_c74 y = false), (O_c75 y = false), (O_c76 y = false), O_h97, (O_c77 y = false), O_h104, (O_c91 y = false)]
def O_T (y : LV) : Nat → Prop := tabP (LS_R y) O_L 72 (O_E y)
theorem O_tT (y : LV) (hpre : O_pre y) : ∀ i, O_T y i := fun i => tabP_ok (E := O_E y) (O_hr y hpre) (by kernel_rfl) (aC O_g0 (aC O_g1 (aC O_g2 (aC O_g3 (aC O_g4 (aC O_g5 (aC O_g8 (aC O_g10 (aC O_g18 (aC O_g19 (aC O_g20 (aC O_g21 (aC O_g22 (aC O_g27 (aC O_g28 (aC O_g38 (aC O_g40 (aC O_g50 (aC O_g57 (aC O_g60 (aC (O_c71_ff y hpre) (aC (O_c72_ff y hpre) (aC (O_c73_ff y hpre) (aC (O_c74_ff y hpre) (aC (O_c75_ff y hpre) (aC (O_c76_ff y hpre) (aC O_g97 (aC (O_c77_ff y hpre) (aC O_g104 (aC (O_c91_ff y hpre) (aN))))))))))))))))))))))))))))))) i
def O_w0 (y : LV) : Value := .bool Bool.true
def O_r0 (y : LV) : Prop := (cjD (O_T y) 256 ((cjD (O_T y) 256 ((cjD (O_T y) 256 ((cjD (O_T y) 256 ((cjD (O_T y) 256 ((cjD (O_T y) 256 ((((((cjD (O_T y) 256 ((((((cjD (O_T y) 256 ((cjD (O_T y) 256 ((((((cjD (O_T y) 256 (((cjD (O_T y) 256 (((cjD (O_T y) 256 (((cjD (O_T y) 256 ((cjD (O_T y) 256 ((cjD (O_T y) 256 ((cjD (O_T y) 256 ((cjD (O_T y) 256 (((cjD (O_T y) 256 ((cjD (O_T y) 256 ((cjD (O_T y) 256 ((cjD (O_T y) 256 ((cjD (O_T y) 256 (((cjD (O_T y) 256 ((cjD (O_T y) 256 ((cjD (O_T y) 256 (((cjD (O_T y) 256 (((cjD (O_T y) 256 ((cjD (O_T y) 256 ((cjD (O_T y) 256 ((cjD (O_T y) 256 True 19 0x4d4d4d4c4d4d4d4d4d4a4a4c484a4b484a4948) ∧ (O_c0 y = false)) 19 0x4d4d4d4c4d4d4d4d4d4a4a4c484a4b484a4948) ∧ (O_c1 y = true)) 9 0x4e4e4e4b4e4e4e4e4e) ∧ (O_c2 y = false)) 38 0x4c4a4a4a05040404044c484a03020202024b484a010000000049484f4a4a4a4a4a4a4a4b4a49) ∧ (O_c0 y = false)) ∧ (O_c9 y = false)) 39 0x4b4a4a4a09080808084b484a07060606064948544a534a49524a4b514a4c504a4a4a4b484a4948) ∧ (O_c2 y = false)) ∧ (O_c9 y = false)) 44 0x4c4a4a4a05040404044c484a03020202024b484a010000000049484f4a534a49524a4b514a4a4a4b484a4948) ∧ (O_c0 y = false)) 21 0x4b4a4a4a09080808084b484a07060606064948544a) ∧ (O_c2 y = false)) 124 0x554a4a4a111010101055484a0f0e0e0e0e4c484a0d0c0c0c0c4b484a0b0a0a0a0a4948564a484a4a4a4a4a4a4a4a4a4a4a4a111010101055484a0f0e0e0e0e4c484a0d0c0c0c0c4b484a0b0a0a0a0a4948564a4a55554b484c4c49484c484a4c4c4b484b4b49484b484a4b4b4b484949494849484a4a4a4b484a4948) ∧ (O_c22 y = false)) ∧ (O_c9 y = false)) 27 0x4a4a4a4a4a4a534a49524a4b514a4c504a55574a4a4a4b484a4948) ∧ (O_c23 y = false)) 29 0x4c4a4a4a05040404044c484a03020202024b484a010000000049484f4a) ∧ (O_c0 y = false)) 21 0x4b4a4a4a09080808084b484a07060606064948544a) ∧ (O_c2 y = false)) 27 0x4d4d4d4c4d4d4d4d4a4b4b4b4849494948584a4a4a4a4b484a4948) ∧ (O_c0 y = false)) 57 0x4c4a4a4a05040404044c484a15141414144b484a131212121249484f4a484a4a4a05040404044c484a15141414144b484a131212121249484a) ∧ (O_c0 y = false)) ∧ (O_c9 y = false)) 24 0x4a4a4a4a4a4a534a49524a4b514a4c504a4a4a4b484a4948) ∧ (O_c28 y = false)) 41 0x4c4a4a4a05040404044c484a03020202024b484a010000000049484f4a4a4b4b484949484b494b494a) ∧ (O_c0 y = false)) 166 0x4c4a4a4a05040404044c484a03020202024b484a010000000049484f4a4a4a23222222224a5b4b485a4948484a21202020204a5a4b48554948484a1f1e1e1e1e4a554b484c4948484a1d1c1c1c1c4a4c4b484b4948484a1b1a1a1a1a4a4b4b48494948484a4b4b484949484a4b4a4c4b48494a484c49484a4b4a484c4b48494a4c49484a4a4a4c484a4b484a4948594a4a4a4a4a4a19181818184b484a171616161649484a4a) ∧ (O_c0 y = false)) 166 0x4c4a4a4a05040404044c484a03020202024b484a010000000049484f4a4a4a31303030304a5b4b485a4948484a2f2e2e2e2e4a5a4b48554948484a2d2c2c2c2c4a554b484c4948484a2b2a2a2a2a4a4c4b484b4948484a29282828284a4b4b48494948484a4b4b484949484a4b4a4c4b48494a484c49484a4b4a484c4b48494a4c49484a4a4a4c484a4b484a4948594a4a4a4a4a4a27262626264b484a252424242449484a4a) ∧ (O_c0 y = false)) 193 0x4c4a6362626248615b5b5b48605a5a5a485f555555485e4c4c4c485d4b4b4b485c494949484a4a4a4a4a4a4a4a4a4a4a4a4a4a4a4a4a4a4a4a4a3f3e3e3e3e4a5b4b485a4948484a3d3c3c3c3c4a5a4b48554948484a3b3a3a3a3a4a554b484c4948484a39383838384a4c4b484b4948484a37363636364a4b4b48494948484a4b4b484949484a4b4a4c4b48494a484c49484a4b4a484c4b48494a4c49484a4a4a4c484a4b484a4948594a4a4a4a4a4a35343434344b484a333232323249484a4a) ∧ (O_c78 y = false)) ∧ (O_c78 y = false)) 1 0x4b) ∧ (O_c78 y = false)) ∧ (O_c78 y = false)) 5 0x4140404040) ∧ (O_c78 y = false)) ∧ (O_c78 y = false)) 6 0x4a4a4c4a4a4a) ∧ (O_c81 y = false)) ∧ (O_c81 y = false)) ∧ (O_c81 y = false)) ∧ (O_c81 y = false)) ∧ (O_c82 y = false)) 32 0x4c4a4a4a05040404044c484a03020202024b484a010000000049484f4a4a4a4a) ∧ (O_c0 y = false)) 12 0x4b484a414040404049484a4a) ∧ (O_c81 y = false)) ∧ (O_c81 y = false)) ∧ (O_c81 y = false)) ∧ (O_c81 y = false)) ∧ (O_c82 y = false)) 99 0x4a5a4b48554948484a47464646464a554b484c4948484a45444444444a4c4b484b4948484a43424242424a4b4b48494948484a4b4b484949484a4b4a4c4b48494a484c49484a4b4a484c4b48494a4c49484a4a4a4c484a4b484a4948644a4a4a4a4a4a) ∧ (O_c89 y = false)) ∧ (O_c89 y = false)) ∧ (O_c89 y = false)) ∧ (O_c89 y = false)) ∧ (O_c90 y = false)) 14 0x4b4b48654949484a484848484a4a) ∧ (O_c92 y = false)) 3 0x4c4c48) ∧ (O_c93 y = false)) 3 0x555548) ∧ (O_c94 y = false)) 3 0x5a5a48) ∧ (O_c95 y = false)) 3 0x5b5b48) ∧ (O_c96 y = false)) 4 0x4848484a)
theorem O_o0 (y : LV) : (obOf (O_e0 y.a0 y.a1 y.a2 y.b0 y.b1 y.b2 y.z0 y.z1), resOf (O_e0 y.a0 y.a1 y.a2 y.b0 y.b1 y.b2 y.z0 y.z1), cleanOf Tryz.prog.globals.size (O_e0 y.a0 y.a1 y.a2 y.b0 y.b1 y.b2 y.z0 y.z1)) = (O_r0 y, O_w0 y, true) := by kernel_rfl
theorem O_q0 (y : LV) : O_e0 y.a0 y.a1 y.a2 y.b0 y.b1 y.b2 y.z0 y.z1 = evFS Tryz.prog x_O 1000 10 #[.agg #[.int .i8 y.a0, .int .i8 y.a1, .int .i8 y.a2], .agg #[.int .i8 y.b0, .int .i8 y.b1, .int .i8 y.b2], .agg #[.int .i8 y.z0, .int .i8 y.z1]] aw3S0 ⟨O_k0, True⟩ := by
  delta O_e0
  exact Eq.refl _
theorem O_p0 (y : LV) (h : O_r0 y) (w : World) (hh : Holds Tryz.prog aw3S0 w) : Calls Tryz.prog 10 #[.agg #[.int .i8 y.a0, .int .i8 y.a1, .int .i8 y.a2], .agg #[.int .i8 y.b0, .int .i8 y.b1, .int .i8 y.b2], .agg #[.int .i8 y.z0, .int .i8 y.z1]] w fun en w' => en = .returned (O_w0 y) ∧ Below w.heap.size w w' := by
  have h3 := O_o0 y
  have hv : resOf (O_e0 y.a0 y.a1 y.a2 y.b0 y.b1 y.b2 y.z0 y.z1) = O_w0 y := congrArg (fun z => z.2.1) h3
  have hc : cleanOf Tryz.prog.globals.size (O_e0 y.a0 y.a1 y.a2 y.b0 y.b1 y.b2 y.z0 y.z1) = true := congrArg (fun z => z.2.2) h3
  have he := O_q0 y
  have ho : obOf (O_e0 y.a0 y.a1 y.a2 y.b0 y.b1 y.b2 y.z0 y.z1) = O_r0 y := congrArg (fun z => z.1) h3
  clear h3
  generalize O_e0 y.a0 y.a1 y.a2 y.b0 y.b1 y.b2 y.z0 y.z1 = r at *
  exact calls_way he gfol O_X hv rfl (O_args y) hc ho h hh
def O_w1 (y : LV) : Value := .bool Bool.true
def O_r1 (y : LV) : Prop := (cjD (O_T y) 256 (((((((cjD (O_T y) 256 ((cjD (O_T y) 256 ((cjD (O_T y) 256 ((cjD (O_T y) 256 ((cjD (O_T y) 256 (((cjD (O_T y) 256 ((cjD (O_T y) 256 ((cjD (O_T y) 256 ((cjD (O_T y) 256 ((cjD (O_T y) 256 (((cjD (O_T y) 256 ((cjD (O_T y) 256 ((cjD (O_T y) 256 (((cjD (O_T y) 256 (((cjD (O_T y) 256 ((cjD (O_T y) 256 ((cjD (O_T y) 256 ((cjD (O_T y) 256 True 19 0x4d4d4d4c4d4d4d4d4d4a4a4c484a4b484a4948) ∧ (O_c0 y = false)) 19 0x4d4d4d4c4d4d4d4d4d4a4a4c484a4b484a4948) ∧ (O_c1 y = true)) 9 0x4e4e4e4b4e4e4e4e4e) ∧ (O_c2 y = false)) 38 0x4c4a4a4a05040404044c484a03020202024b484a010000000049484f4a4a4a4a4a4a4a4b4a49) ∧ (O_c0 y = false)) ∧ (O_c9 y = false)) 39 0x4b4a4a4a09080808084b484a07060606064948544a534a49524a4b514a4c504a4a4a4b484a4948) ∧ (O_c2 y = false)) ∧ (O_c9 y = false)) 44 0x4c4a4a4a05040404044c484a03020202024b484a010000000049484f4a534a49524a4b514a4a4a4b484a4948) ∧ (O_c0 y = false)) 21 0x4b4a4a4a09080808084b484a07060606064948544a) ∧ (O_c2 y = false)) 124 0x554a4a4a111010101055484a0f0e0e0e0e4c484a0d0c0c0c0c4b484a0b0a0a0a0a4948564a484a4a4a4a4a4a4a4a4a4a4a4a111010101055484a0f0e0e0e0e4c484a0d0c0c0c0c4b484a0b0a0a0a0a4948564a4a55554b484c4c49484c484a4c4c4b484b4b49484b484a4b4b4b484949494849484a4a4a4b484a4948) ∧ (O_c22 y = false)) ∧ (O_c9 y = false)) 27 0x4a4a4a4a4a4a534a49524a4b514a4c504a55574a4a4a4b484a4948) ∧ (O_c23 y = false)) 29 0x4c4a4a4a05040404044c484a03020202024b484a010000000049484f4a) ∧ (O_c0 y = false)) 21 0x4b4a4a4a09080808084b484a07060606064948544a) ∧ (O_c2 y = false)) 27 0x4d4d4d4c4d4d4d4d4a4b4b4b4849494948584a4a4a4a4b484a4948) ∧ (O_c0 y = false)) 57 0x4c4a4a4a05040404044c484a15141414144b484a131212121249484f4a484a4a4a05040404044c484a15141414144b484a131212121249484a) ∧ (O_c0 y = false)) ∧ (O_c9 y = false)) 24 0x4a4a4a4a4a4a534a49524a4b514a4c504a4a4a4b484a4948) ∧ (O_c28 y = false)) 41 0x4c4a4a4a05040404044c484a03020202024b484a010000000049484f4a4a4b4b484949484b494b494a) ∧ (O_c0 y = false)) 166 0x4c4a4a4a05040404044c484a03020202024b484a010000000049484f4a4a4a23222222224a5b4b485a4948484a21202020204a5a4b48554948484a1f1e1e1e1e4a554b484c4948484a1d1c1c1c1c4a4c4b484b4948484a1b1a1a1a1a4a4b4b48494948484a4b4b484949484a4b4a4c4b48494a484c49484a4b4a484c4b48494a4c49484a4a4a4c484a4b484a4948594a4a4a4a4a4a19181818184b484a171616161649484a4a) ∧ (O_c0 y = false)) 166 0x4c4a4a4a05040404044c484a03020202024b484a010000000049484f4a4a4a31303030304a5b4b485a4948484a2f2e2e2e2e4a5a4b48554948484a2d2c2c2c2c4a554b484c4948484a2b2a2a2a2a4a4c4b484b4948484a29282828284a4b4b48494948484a4b4b484949484a4b4a4c4b48494a484c49484a4b4a484c4b48494a4c49484a4a4a4c484a4b484a4948594a4a4a4a4a4a27262626264b484a252424242449484a4a) ∧ (O_c0 y = false)) 193 0x4c4a6362626248615b5b5b48605a5a5a485f555555485e4c4c4c485d4b4b4b485c494949484a4a4a4a4a4a4a4a4a4a4a4a4a4a4a4a4a4a4a4a4a3f3e3e3e3e4a5b4b485a4948484a3d3c3c3c3c4a5a4b48554948484a3b3a3a3a3a4a554b484c4948484a39383838384a4c4b484b4948484a37363636364a4b4b48494948484a4b4b484949484a4b4a4c4b48494a484c49484a4b4a484c4b48494a4c49484a4a4a4c484a4b484a4948594a4a4a4a4a4a35343434344b484a333232323249484a4a) ∧ (O_c78 y = true)) ∧ (O_c78 y = true)) ∧ (O_c78 y = true)) ∧ (O_c78 y = true)) ∧ (O_c78 y = true)) ∧ (O_c78 y = true)) 8 0x4848484848484848)
theorem O_o1 (y : LV) : (obOf (O_e1 y.a0 y.a1 y.a2 y.b0 y.b1 y.b2 y.z0 y.z1), resOf (O_e1 y.a0 y.a1 y.a2 y.b0 y.b1 y.b2 y.z0 y.z1), cleanOf Tryz.prog.globals.size (O_e1 y.a0 y.a1 y.a2 y.b0 y.b1 y.b2 y.z0 y.z1)) = (O_r1 y, O_w1 y, true) := by kernel_rfl
theorem O_q1 (y : LV) : O_e1 y.a0 y.a1 y.a2 y.b0 y.b1 y.b2 y.z0 y.z1 = evFS Tryz.prog x_O 1000 10 #[.agg #[.int .i8 y.a0, .int .i8 y.a1, .int .i8 y.a2], .agg #[.int .i8 y.b0, .int .i8 y.b1, .int .i8 y.b2], .agg #[.int .i8 y.z0, .int .i8 y.z1]] aw3S0 ⟨O_k1, True⟩ := by
  delta O_e1
  exact Eq.refl _
theorem O_p1 (y : LV) (h : O_r1 y) (w : World) (hh : Holds Tryz.prog aw3S0 w) : Calls Tryz.prog 10 #[.agg #[.int .i8 y.a0, .int .i8 y.a1, .int .i8 y.a2], .agg #[.int .i8 y.b0, .int .i8 y.b1, .int .i8 y.b2], .agg #[.int .i8 y.z0, .int .i8 y.z1]] w fun en w' => en = .returned (O_w1 y) ∧ Below w.heap.size w w' := by
  have h3 := O_o1 y
  have hv : resOf (O_e1 y.a0 y.a1 y.a2 y.b0 y.b1 y.b2 y.z0 y.z1) = O_w1 y := congrArg (fun z => z.2.1) h3
  have hc : cleanOf Tryz.prog.globals.size (O_e1 y.a0 y.a1 y.a2 y.b0 y.b1 y.b2 y.z0 y.z1) = true := congrArg (fun z => z.2.2) h3
  have he := O_q1 y
  have ho : obOf (O_e1 y.a0 y.a1 y.a2 y.b0 y.b1 y.b2 y.z0 y.z1) = O_r1 y := congrArg (fun z => z.1) h3
  clear h3
  generalize O_e1 y.a0 y.a1 y.a2 y.b0 y.b1 y.b2 y.z0 y.z1 = r at *
  exact calls_way he gfol O_X hv rfl (O_args y) hc ho h hh
def O_w2 (y : LV) : Value := .bool Bool.true
def O_r2 (y : LV) : Prop := (cjD (O_T y) 256 ((((((cjD (O_T y) 256 (((cjD (O_T y) 256 (((cjD (O_T y) 256 (((cjD (O_T y) 256 ((cjD (O_T y) 256 ((cjD (O_T y) 256 ((cjD (O_T y) 256 ((cjD (O_T y) 256 (((cjD (O_T y) 256 ((cjD (O_T y) 256 ((cjD (O_T y) 256 ((cjD (O_T y) 256 ((cjD (O_T y) 256 (((cjD (O_T y) 256 ((cjD (O_T y) 256 ((cjD (O_T y) 256 (((cjD (O_T y) 256 (((cjD (O_T y) 256 ((cjD (O_T y) 256 ((cjD (O_T y) 256 ((cjD (O_T y) 256 True 19 0x4d4d4d4c4d4d4d4d4d4a4a4c484a4b484a4948) ∧ (O_c0 y = false)) 19 0x4d4d4d4c4d4d4d4d4d4a4a4c484a4b484a4948) ∧ (O_c1 y = true)) 9 0x4e4e4e4b4e4e4e4e4e) ∧ (O_c2 y = false)) 38 0x4c4a4a4a05040404044c484a03020202024b484a010000000049484f4a4a4a4a4a4a4a4b4a49) ∧ (O_c0 y = false)) ∧ (O_c9 y = false)) 39 0x4b4a4a4a09080808084b484a07060606064948544a534a49524a4b514a4c504a4a4a4b484a4948) ∧ (O_c2 y = false)) ∧ (O_c9 y = false)) 44 0x4c4a4a4a05040404044c484a03020202024b484a010000000049484f4a534a49524a4b514a4a4a4b484a4948) ∧ (O_c0 y = false)) 21 0x4b4a4a4a09080808084b484a07060606064948544a) ∧ (O_c2 y = false)) 124 0x554a4a4a111010101055484a0f0e0e0e0e4c484a0d0c0c0c0c4b484a0b0a0a0a0a4948564a484a4a4a4a4a4a4a4a4a4a4a4a111010101055484a0f0e0e0e0e4c484a0d0c0c0c0c4b484a0b0a0a0a0a4948564a4a55554b484c4c49484c484a4c4c4b484b4b49484b484a4b4b4b484949494849484a4a4a4b484a4948) ∧ (O_c22 y = false)) ∧ (O_c9 y = false)) 27 0x4a4a4a4a4a4a534a49524a4b514a4c504a55574a4a4a4b484a4948) ∧ (O_c23 y = false)) 29 0x4c4a4a4a05040404044c484a03020202024b484a010000000049484f4a) ∧ (O_c0 y = false)) 21 0x4b4a4a4a09080808084b484a07060606064948544a) ∧ (O_c2 y = false)) 27 0x4d4d4d4c4d4d4d4d4a4b4b4b4849494948584a4a4a4a4b484a4948) ∧ (O_c0 y = false)) 57 0x4c4a4a4a05040404044c484a15141414144b484a131212121249484f4a484a4a4a05040404044c484a15141414144b484a131212121249484a) ∧ (O_c0 y = false)) ∧ (O_c9 y = false)) 24 0x4a4a4a4a4a4a534a49524a4b514a4c504a4a4a4b484a4948) ∧ (O_c28 y = false)) 41 0x4c4a4a4a05040404044c484a03020202024b484a010000000049484f4a4a4b4b484949484b494b494a) ∧ (O_c0 y = false)) 166 0x4c4a4a4a05040404044c484a03020202024b484a010000000049484f4a4a4a23222222224a5b4b485a4948484a21202020204a5a4b48554948484a1f1e1e1e1e4a554b484c4948484a1d1c1c1c1c4a4c4b484b4948484a1b1a1a1a1a4a4b4b48494948484a4b4b484949484a4b4a4c4b48494a484c49484a4b4a484c4b48494a4c49484a4a4a4c484a4b484a4948594a4a4a4a4a4a19181818184b484a171616161649484a4a) ∧ (O_c0 y = false)) 166 0x4c4a4a4a05040404044c484a03020202024b484a010000000049484f4a4a4a31303030304a5b4b485a4948484a2f2e2e2e2e4a5a4b48554948484a2d2c2c2c2c4a554b484c4948484a2b2a2a2a2a4a4c4b484b4948484a29282828284a4b4b48494948484a4b4b484949484a4b4a4c4b48494a484c49484a4b4a484c4b48494a4c49484a4a4a4c484a4b484a4948594a4a4a4a4a4a27262626264b484a252424242449484a4a) ∧ (O_c0 y = false)) 193 0x4c4a6362626248615b5b5b48605a5a5a485f555555485e4c4c4c485d4b4b4b485c494949484a4a4a4a4a4a4a4a4a4a4a4a4a4a4a4a4a4a4a4a4a3f3e3e3e3e4a5b4b485a4948484a3d3c3c3c3c4a5a4b48554948484a3b3a3a3a3a4a554b484c4948484a39383838384a4c4b484b4948484a37363636364a4b4b48494948484a4b4b484949484a4b4a4c4b48494a484c49484a4b4a484c4b48494a4c49484a4a4a4c484a4b484a4948594a4a4a4a4a4a35343434344b484a333232323249484a4a) ∧ (O_c78 y = false)) ∧ (O_c78 y = false)) 1 0x4b) ∧ (O_c78 y = false)) ∧ (O_c78 y = false)) 5 0x4140404040) ∧ (O_c78 y = false)) ∧ (O_c78 y = false)) 6 0x4a4a4c4a4a4a) ∧ (O_c81 y = false)) ∧ (O_c81 y = false)) ∧ (O_c81 y = false)) ∧ (O_c81 y = false)) ∧ (O_c82 y = true)) 3 0x484a4a)
theorem O_o2 (y : LV) : (obOf (O_e2 y.a0 y.a1 y.a2 y.b0 y.b1 y.b2 y.z0 y.z1), resOf (O_e2 y.a0 y.a1 y.a2 y.b0 y.b1 y.b2 y.z0 y.z1), cleanOf Tryz.prog.globals.size (O_e2 y.a0 y.a1 y.a2 y.b0 y.b1 y.b2 y.z0 y.z1)) = (O_r2 y, O_w2 y, true) := by kernel_rfl
theorem O_q2 (y : LV) : O_e2 y.a0 y.a1 y.a2 y.b0 y.b1 y.b2 y.z0 y.z1 = evFS Tryz.prog x_O 1000 10 #[.agg #[.int .i8 y.a0, .int .i8 y.a1, .int .i8 y.a2], .agg #[.int .i8 y.b0, .int .i8 y.b1, .int .i8 y.b2], .agg #[.int .i8 y.z0, .int .i8 y.z1]] aw3S0 ⟨O_k2, True⟩ := by
  delta O_e2
  exact Eq.refl _
theorem O_p2 (y : LV) (h : O_r2 y) (w : World) (hh : Holds Tryz.prog aw3S0 w) : Calls Tryz.prog 10 #[.agg #[.int .i8 y.a0, .int .i8 y.a1, .int .i8 y.a2], .agg #[.int .i8 y.b0, .int .i8 y.b1, .int .i8 y.b2], .agg #[.int .i8 y.z0, .int .i8 y.z1]] w fun en w' => en = .returned (O_w2 y) ∧ Below w.heap.size w w' := by
  have h3 := O_o2 y
  have hv : resOf (O_e2 y.a0 y.a1 y.a2 y.b0 y.b1 y.b2 y.z0 y.z1) = O_w2 y := congrArg (fun z => z.2.1) h3
  have hc : cleanOf Tryz.prog.globals.size (O_e2 y.a0 y.a1 y.a2 y.b0 y.b1 y.b2 y.z0 y.z1) = true := congrArg (fun z => z.2.2) h3
  have he := O_q2 y
  have ho : obOf (O_e2 y.a0 y.a1 y.a2 y.b0 y.b1 y.b2 y.z0 y.z1) = O_r2 y := congrArg (fun z => z.1) h3
  clear h3
  generalize O_e2 y.a0 y.a1 y.a2 y.b0 y.b1 y.b2 y.z0 y.z1 = r at *
  exact calls_way he gfol O_X hv rfl (O_args y) hc ho h hh
def O_w3 (y : LV) : Value := .bool Bool.true
def O_r3 (y : LV) : Prop := (cjD (O_T y) 256 (((((cjD (O_T y) 256 (((cjD (O_T y) 256 (((cjD (O_T y) 256 (((cjD (O_T y) 256 ((cjD (O_T y) 256 ((cjD (O_T y) 256 ((cjD (O_T y) 256 ((cjD (O_T y) 256 (((cjD (O_T y) 256 ((cjD (O_T y) 256 ((cjD (O_T y) 256 ((cjD (O_T y) 256 ((cjD (O_T y) 256 (((cjD (O_T y) 256 ((cjD (O_T y) 256 ((cjD (O_T y) 256 (((cjD (O_T y) 256 (((cjD (O_T y) 256 ((cjD (O_T y) 256 ((cjD (O_T y) 256 ((cjD (O_T y) 256 True 19 0x4d4d4d4c4d4d4d4d4d4a4a4c484a4b484a4948) ∧ (O_c0 y = false)) 19 0x4d4d4d4c4d4d4d4d4d4a4a4c484a4b484a4948) ∧ (O_c1 y = true)) 9 0x4e4e4e4b4e4e4e4e4e) ∧ (O_c2 y = false)) 38 0x4c4a4a4a05040404044c484a03020202024b484a010000000049484f4a4a4a4a4a4a4a4b4a49) ∧ (O_c0 y = false)) ∧ (O_c9 y = false)) 39 0x4b4a4a4a09080808084b484a07060606064948544a534a49524a4b514a4c504a4a4a4b484a4948) ∧ (O_c2 y = false)) ∧ (O_c9 y = false)) 44 0x4c4a4a4a05040404044c484a03020202024b484a010000000049484f4a534a49524a4b514a4a4a4b484a4948) ∧ (O_c0 y = false)) 21 0x4b4a4a4a09080808084b484a07060606064948544a) ∧ (O_c2 y = false)) 124 0x554a4a4a111010101055484a0f0e0e0e0e4c484a0d0c0c0c0c4b484a0b0a0a0a0a4948564a484a4a4a4a4a4a4a4a4a4a4a4a111010101055484a0f0e0e0e0e4c484a0d0c0c0c0c4b484a0b0a0a0a0a4948564a4a55554b484c4c49484c484a4c4c4b484b4b49484b484a4b4b4b484949494849484a4a4a4b484a4948) ∧ (O_c22 y = false)) ∧ (O_c9 y = false)) 27 0x4a4a4a4a4a4a534a49524a4b514a4c504a55574a4a4a4b484a4948) ∧ (O_c23 y = false)) 29 0x4c4a4a4a05040404044c484a03020202024b484a010000000049484f4a) ∧ (O_c0 y = false)) 21 0x4b4a4a4a09080808084b484a07060606064948544a) ∧ (O_c2 y = false)) 27 0x4d4d4d4c4d4d4d4d4a4b4b4b4849494948584a4a4a4a4b484a4948) ∧ (O_c0 y = false)) 57 0x4c4a4a4a05040404044c484a15141414144b484a131212121249484f4a484a4a4a05040404044c484a15141414144b484a131212121249484a) ∧ (O_c0 y = false)) ∧ (O_c9 y = false)) 24 0x4a4a4a4a4a4a534a49524a4b514a4c504a4a4a4b484a4948) ∧ (O_c28 y = false)) 41 0x4c4a4a4a05040404044c484a03020202024b484a010000000049484f4a4a4b4b484949484b494b494a) ∧ (O_c0 y = false)) 166 0x4c4a4a4a05040404044c484a03020202024b484a010000000049484f4a4a4a23222222224a5b4b485a4948484a21202020204a5a4b48554948484a1f1e1e1e1e4a554b484c4948484a1d1c1c1c1c4a4c4b484b4948484a1b1a1a1a1a4a4b4b48494948484a4b4b484949484a4b4a4c4b48494a484c49484a4b4a484c4b48494a4c49484a4a4a4c484a4b484a4948594a4a4a4a4a4a19181818184b484a171616161649484a4a) ∧ (O_c0 y = false)) 166 0x4c4a4a4a05040404044c484a03020202024b484a010000000049484f4a4a4a31303030304a5b4b485a4948484a2f2e2e2e2e4a5a4b48554948484a2d2c2c2c2c4a554b484c4948484a2b2a2a2a2a4a4c4b484b4948484a29282828284a4b4b48494948484a4b4b484949484a4b4a4c4b48494a484c49484a4b4a484c4b48494a4c49484a4a4a4c484a4b484a4948594a4a4a4a4a4a27262626264b484a252424242449484a4a) ∧ (O_c0 y = false)) 193 0x4c4a6362626248615b5b5b48605a5a5a485f555555485e4c4c4c485d4b4b4b485c494949484a4a4a4a4a4a4a4a4a4a4a4a4a4a4a4a4a4a4a4a4a3f3e3e3e3e4a5b4b485a4948484a3d3c3c3c3c4a5a4b48554948484a3b3a3a3a3a4a554b484c4948484a39383838384a4c4b484b4948484a37363636364a4b4b48494948484a4b4b484949484a4b4a4c4b48494a484c49484a4b4a484c4b48494a4c49484a4a4a4c484a4b484a4948594a4a4a4a4a4a35343434344b484a333232323249484a4a) ∧ (O_c78 y = false)) ∧ (O_c78 y = false)) 1 0x4b) ∧ (O_c78 y = false)) ∧ (O_c78 y = false)) 5 0x4140404040) ∧ (O_c78 y = false)) ∧ (O_c78 y = false)) 6 0x4a4a4c4a4a4a) ∧ (O_c81 y = true)) ∧ (O_c81 y = true)) ∧ (O_c81 y = true)) ∧ (O_c81 y = true)) 4 0x484a4a48)
theorem O_o3 (y : LV) : (obOf (O_e3 y.a0 y.a1 y.a2 y.b0 y.b1 y.b2 y.z0 y.z1), resOf (O_e3 y.a0 y.a1 y.a2 y.b0 y.b1 y.b2 y.z0 y.z1), cleanOf Tryz.prog.globals.size (O_e3 y.a0 y.a1 y.a2 y.b0 y.b1 y.b2 y.z0 y.z1)) = (O_r3 y, O_w3 y, true) := by kernel_rfl
theorem O_q3 (y : LV) : O_e3 y.a0 y.a1 y.a2 y.b0 y.b1 y.b2 y.z0 y.z1 = evFS Tryz.prog x_O 1000 10 #[.agg #[.int .i8 y.a0, .int .i8 y.a1, .int .i8 y.a2], .agg #[.int .i8 y.b0, .int .i8 y.b1, .int .i8 y.b2], .agg #[.int .i8 y.z0, .int .i8 y.z1]] aw3S0 ⟨O_k3, True⟩ := by
  delta O_e3
  exact Eq.refl _
theorem O_p3 (y : LV) (h : O_r3 y) (w : World) (hh : Holds Tryz.prog aw3S0 w) : Calls Tryz.prog 10 #[.agg #[.int .i8 y.a0, .int .i8 y.a1, .int .i8 y.a2], .agg #[.int .i8 y.b0, .int .i8 y.b1, .int .i8 y.b2], .agg #[.int .i8 y.z0, .int .i8 y.z1]] w fun en w' => en = .returned (O_w3 y) ∧ Below w.heap.size w w' := by
  have h3 := O_o3 y
  have hv : resOf (O_e3 y.a0 y.a1 y.a2 y.b0 y.b1 y.b2 y.z0 y.z1) = O_w3 y := congrArg (fun z => z.2.1) h3
  have hc : cleanOf Tryz.prog.globals.size (O_e3 y.a0 y.a1 y.a2 y.b0 y.b1 y.b2 y.z0 y.z1) = true := congrArg (fun z => z.2.2) h3
  have he := O_q3 y
  have ho : obOf (O_e3 y.a0 y.a1 y.a2 y.b0 y.b1 y.b2 y.z0 y.z1) = O_r3 y := congrArg (fun z => z.1) h3
  clear h3
  generalize O_e3 y.a0 y.a1 y.a2 y.b0 y.b1 y.b2 y.z0 y.z1 = r at *
  exact calls_way he gfol O_X hv rfl (O_args y) hc ho h hh
theorem O_y0 (ρ : List Int) : IE.ev ρ (.v 18) = IE.ev ρ (.v 18) := by first | rfl | (simp only [IE.ev]; done) | (simp only [IE.ev]; generalize List.getD ρ 18 0 = v18; grind)
theorem O_y1 (ρ : List Int) : IE.ev ρ (.v 19) = IE.ev ρ (.v 19) := by first | rfl | (simp only [IE.ev]; done) | (simp only [IE.ev]; generalize List.getD ρ 19 0 = v19; grind)
theorem O_y2 (ρ : List Int) : IE.ev ρ O_xq83 = IE.ev ρ O_xq90 := by first | rfl | (simp only [IE.ev]; done) | (simp only [IE.ev]; generalize List.getD ρ 12 0 = v12; generalize List.getD ρ 13 0 = v13; generalize List.getD ρ 14 0 = v14; generalize List.getD ρ 15 0 = v15; generalize List.getD ρ 16 0 = v16; generalize List.getD ρ 18 0 = v18; generalize List.getD ρ 19 0 = v19; grind)
theorem O_y3 (ρ : List Int) : IE.ev ρ O_xq91 = IE.ev ρ O_xq92 := by first | rfl | (simp only [IE.ev]; done) | (simp only [IE.ev]; generalize List.getD ρ 12 0 = v12; generalize List.getD ρ 13 0 = v13; generalize List.getD ρ 14 0 = v14; generalize List.getD ρ 15 0 = v15; generalize List.getD ρ 16 0 = v16; generalize List.getD ρ 18 0 = v18; generalize List.getD ρ 19 0 = v19; grind)
theorem O_y4 (ρ : List Int) : IE.ev ρ O_xq93 = IE.ev ρ (.add O_xq86 O_xq87) := by first | rfl | (simp only [IE.ev]; done) | (simp only [IE.ev]; generalize List.getD ρ 12 0 = v12; generalize List.getD ρ 13 0 = v13; generalize List.getD ρ 14 0 = v14; generalize List.getD ρ 15 0 = v15; generalize List.getD ρ 16 0 = v16; generalize List.getD ρ 18 0 = v18; generalize List.getD ρ 19 0 = v19; grind)
theorem O_y5 (ρ : List Int) : IE.ev ρ O_xq94 = IE.ev ρ (.add O_xq88 O_xq89) := by first | rfl | (simp only [IE.ev]; done) | (simp only [IE.ev]; generalize List.getD ρ 13 0 = v13; generalize List.getD ρ 14 0 = v14; generalize List.getD ρ 16 0 = v16; generalize List.getD ρ 18 0 = v18; generalize List.getD ρ 19 0 = v19; grind)
theorem O_y6 (ρ : List Int) (k0 : IE.ev ρ (.v 14) = IE.ev ρ (.k (1))) : IE.ev ρ (.mul O_xq63 (.mul (.k (1)) (.v 14))) = IE.ev ρ O_xq63 := by first | rfl | (simp only [IE.ev]; done) | (simp only [IE.ev] at k0 ⊢; generalize List.getD ρ 8 0 = v8 at k0 ⊢; generalize List.getD ρ 9 0 = v9 at k0 ⊢; generalize List.getD ρ 12 0 = v12 at k0 ⊢; generalize List.getD ρ 13 0 = v13 at k0 ⊢; generalize List.getD ρ 14 0 = v14 at k0 ⊢; grind)
theorem O_y7 (ρ : List Int) (k0 : IE.ev ρ (.v 14) = IE.ev ρ (.k (1))) : IE.ev ρ O_xq95 = IE.ev ρ O_xq66 := by first | rfl | (simp only [IE.ev]; done) | (simp only [IE.ev] at k0 ⊢; generalize List.getD ρ 8 0 = v8 at k0 ⊢; generalize List.getD ρ 9 0 = v9 at k0 ⊢; generalize List.getD ρ 12 0 = v12 at k0 ⊢; generalize List.getD ρ 13 0 = v13 at k0 ⊢; generalize List.getD ρ 14 0 = v14 at k0 ⊢; grind)
theorem O_y8 (ρ : List Int) (k0 : IE.ev ρ (.v 14) = IE.ev ρ (.k (1))) : IE.ev ρ O_xq96 = IE.ev ρ O_xq69 := by first | rfl | (simp only [IE.ev]; done) | (simp only [IE.ev] at k0 ⊢; generalize List.getD ρ 8 0 = v8 at k0 ⊢; generalize List.getD ρ 9 0 = v9 at k0 ⊢; generalize List.getD ρ 12 0 = v12 at k0 ⊢; generalize List.getD ρ 13 0 = v13 at k0 ⊢; generalize List.getD ρ 14 0 = v14 at k0 ⊢; grind)
theorem O_y9 (ρ : List Int) (k0 : IE.ev ρ (.v 14) = IE.ev ρ (.k (1))) : IE.ev ρ O_xq97 = IE.ev ρ O_xq72 := by first | rfl | (simp only [IE.ev]; done) | (simp only [IE.ev] at k0 ⊢; generalize List.getD ρ 8 0 = v8 at k0 ⊢; generalize List.getD ρ 9 0 = v9 at k0 ⊢; generalize List.getD ρ 12 0 = v12 at k0 ⊢; generalize List.getD ρ 13 0 = v13 at k0 ⊢; generalize List.getD ρ 14 0 = v14 at k0 ⊢; grind)
theorem O_y10 (ρ : List Int) (k0 : IE.ev ρ (.v 14) = IE.ev ρ (.k (1))) : IE.ev ρ O_xq98 = IE.ev ρ O_xq74 := by first | rfl | (simp only [IE.ev]; done) | (simp only [IE.ev] at k0 ⊢; generalize List.getD ρ 8 0 = v8 at k0 ⊢; generalize List.getD ρ 9 0 = v9 at k0 ⊢; generalize List.getD ρ 12 0 = v12 at k0 ⊢; generalize List.getD ρ 13 0 = v13 at k0 ⊢; generalize List.getD ρ 14 0 = v14 at k0 ⊢; grind)
theorem O_t0 (y : LV) (hpre : O_pre y) : (O_c9 y = false) := by
  have hr := (O_hr y hpre)
  have e0 := IE.str_eq hr (.ite .lt (.k (8)) O_xq0 (.k (8)) O_xq0) (.v 18) (.v 18) (.v 18) (O_y0 (LS_R y)) (by kernel_rfl) (by kernel_rfl) (by kernel_rfl) (by kernel_rfl)
  have e1 := IE.str_eq hr (.ite .lt (.k (8)) O_xq1 (.k (8)) O_xq1) (.v 19) (.v 19) (.v 19) (O_y1 (LS_R y)) (by kernel_rfl) (by kernel_rfl) (by kernel_rfl) (by kernel_rfl)
  show (Bool.not (Bool.and (IE.ev (LS_R y) (.ite .lt (.k (8)) O_xq0 (.k (8)) O_xq0) == IE.ev (LS_R y) (.v 18)) (Bool.and (IE.ev (LS_R y) (.ite .lt (.k (8)) O_xq1 (.k (8)) O_xq1) == IE.ev (LS_R y) (.v 19)) true))) = false
  rw [e0, e1]
  first | done | rfl | simp
theorem O_t1 (y : LV) (hpre : O_pre y) (k0 : (O_c0 y = false)) (k1 : (O_c2 y = false)) : (O_c22 y = false) := notT (orF (orF (BE.au_ok (e := (.or (.cm .eq (.v 16) (.k (0))) (.or (.cm .eq (.v 14) (.k (0))) (.not (.cm .eq O_xq3 (.k (0))))))) (by kernel_rfl) (vs := [(16, 2), (14, 1)]) 200 (O_hr y hpre) (by kernel_rfl)) k1) k0)
theorem O_t2 (y : LV) (hpre : O_pre y) : (O_c23 y = false) := by
  have hr := (O_hr y hpre)
  have e0 := IE.str_eq hr O_xq13 O_xq20 O_xq83 O_xq90 (O_y2 (LS_R y)) (by kernel_rfl) (by kernel_rfl) (by kernel_rfl) (by kernel_rfl)
  have e1 := IE.str_eq hr O_xq21 O_xq22 O_xq91 O_xq92 (O_y3 (LS_R y)) (by kernel_rfl) (by kernel_rfl) (by kernel_rfl) (by kernel_rfl)
  show (Bool.not (Bool.and (IE.ev (LS_R y) O_xq13 == IE.ev (LS_R y) O_xq20) (Bool.and (IE.ev (LS_R y) O_xq21 == IE.ev (LS_R y) O_xq22) true))) = false
  rw [e0, e1]
  first | done | rfl | simp
theorem O_t3 (y : LV) (hpre : O_pre y) : (O_c28 y = false) := by
  have hr := (O_hr y hpre)
  have e0 := IE.str_eq hr O_xq24 (.wr (.add O_xq16 O_xq17)) O_xq93 (.add O_xq86 O_xq87) (O_y4 (LS_R y)) (by kernel_rfl) (by kernel_rfl) (by kernel_rfl) (by kernel_rfl)
  have e1 := IE.str_eq hr O_xq25 (.wr (.add O_xq18 O_xq19)) O_xq94 (.add O_xq88 O_xq89) (O_y5 (LS_R y)) (by kernel_rfl) (by kernel_rfl) (by kernel_rfl) (by kernel_rfl)
  show (Bool.not (Bool.and (IE.ev (LS_R y) O_xq24 == IE.ev (LS_R y) (.wr (.add O_xq16 O_xq17))) (Bool.and (IE.ev (LS_R y) O_xq25 == IE.ev (LS_R y) (.wr (.add O_xq18 O_xq19))) true))) = false
  rw [e0, e1]
  first | done | rfl | simp
theorem O_t4 (y : LV) (hpre : O_pre y) (k0 : (O_c81 y = false)) : (O_c89 y = false) := notT (orF (BE.au_ok (e := (.or (.cm .lt O_xq35 (.k (-1000))) (.not (.cm .lt O_xq58 (.k (-1073741824)))))) (by kernel_rfl) (vs := [(14, 5), (13, 4), (12, 3), (9, 2), (8, 1)]) 200 (O_hr y hpre) (by kernel_rfl)) k0)
theorem O_t5 (y : LV) (hpre : O_pre y) (k0 : (O_c82 y = false)) : (O_c90 y = false) := notT (orF (BE.au_ok (e := (.or (.cm .gt O_xq35 (.k (1000))) (.not (.cm .gt O_xq58 (.k (1073741824)))))) (by kernel_rfl) (vs := [(14, 5), (13, 4), (12, 3), (9, 2), (8, 1)]) 200 (O_hr y hpre) (by kernel_rfl)) k0)
theorem O_t6 (y : LV) (hpre : O_pre y) (k0 : (O_c78 y = false)) : (O_c92 y = false) := by
  have hr := (O_hr y hpre)
  have f0 := IE.eq_str hr (.v 14) (.k (1)) (.v 14) (.k (1)) (show (IE.ev (LS_R y) (.v 14) == IE.ev (LS_R y) (.k (1))) = true by first | exact k0 | exact ofNe k0 | exact ofNot k0) (by kernel_rfl) (by kernel_rfl) (by kernel_rfl) (by kernel_rfl)
  have e0 := IE.str_eq hr O_xq54 O_xq35 (.mul O_xq63 (.mul (.k (1)) (.v 14))) O_xq63 (O_y6 (LS_R y) f0) (by kernel_rfl) (by kernel_rfl) (by kernel_rfl) (by kernel_rfl)
  show (Bool.not (IE.ev (LS_R y) O_xq54 == IE.ev (LS_R y) O_xq35)) = false
  rw [e0]
  first | done | rfl | simp
theorem O_t7 (y : LV) (hpre : O_pre y) (k0 : (O_c78 y = false)) : (O_c93 y = false) := by
  have hr := (O_hr y hpre)
  have f0 := IE.eq_str hr (.v 14) (.k (1)) (.v 14) (.k (1)) (show (IE.ev (LS_R y) (.v 14) == IE.ev (LS_R y) (.k (1))) = true by first | exact k0 | exact ofNe k0 | exact ofNot k0) (by kernel_rfl) (by kernel_rfl) (by kernel_rfl) (by kernel_rfl)
  have e0 := IE.str_eq hr O_xq55 O_xq39 O_xq95 O_xq66 (O_y7 (LS_R y) f0) (by kernel_rfl) (by kernel_rfl) (by kernel_rfl) (by kernel_rfl)
  show (Bool.not (IE.ev (LS_R y) O_xq55 == IE.ev (LS_R y) O_xq39)) = false
  rw [e0]
  first | done | rfl | simp
theorem O_t8 (y : LV) (hpre : O_pre y) (k0 : (O_c78 y = false)) : (O_c94 y = false) := by
  have hr := (O_hr y hpre)
  have f0 := IE.eq_str hr (.v 14) (.k (1)) (.v 14) (.k (1)) (show (IE.ev (LS_R y) (.v 14) == IE.ev (LS_R y) (.k (1))) = true by first | exact k0 | exact ofNe k0 | exact ofNot k0) (by kernel_rfl) (by kernel_rfl) (by kernel_rfl) (by kernel_rfl)
  have e0 := IE.str_eq hr O_xq56 O_xq43 O_xq96 O_xq69 (O_y8 (LS_R y) f0) (by kernel_rfl) (by kernel_rfl) (by kernel_rfl) (by kernel_rfl)
  show (Bool.not (IE.ev (LS_R y) O_xq56 == IE.ev (LS_R y) O_xq43)) = false
  rw [e0]
  first | done | rfl | simp
theorem O_t9 (y : LV) (hpre : O_pre y) (k0 : (O_c78 y = false)) : (O_c95 y = false) := by
  have hr := (O_hr y hpre)
  have f0 := IE.eq_str hr (.v 14) (.k (1)) (.v 14) (.k (1)) (show (IE.ev (LS_R y) (.v 14) == IE.ev (LS_R y) (.k (1))) = true by first | exact k0 | exact ofNe k0 | exact ofNot k0) (by kernel_rfl) (by kernel_rfl) (by kernel_rfl) (by kernel_rfl)
  have e0 := IE.str_eq hr O_xq57 O_xq47 O_xq97 O_xq72 (O_y9 (LS_R y) f0) (by kernel_rfl) (by kernel_rfl) (by kernel_rfl) (by kernel_rfl)
  show (Bool.not (IE.ev (LS_R y) O_xq57 == IE.ev (LS_R y) O_xq47)) = false
  rw [e0]
  first | done | rfl | simp
theorem O_t10 (y : LV) (hpre : O_pre y) (k0 : (O_c78 y = false)) : (O_c96 y = false) := by
  have hr := (O_hr y hpre)
  have f0 := IE.eq_str hr (.v 14) (.k (1)) (.v 14) (.k (1)) (show (IE.ev (LS_R y) (.v 14) == IE.ev (LS_R y) (.k (1))) = true by first | exact k0 | exact ofNe k0 | exact ofNot k0) (by kernel_rfl) (by kernel_rfl) (by kernel_rfl) (by kernel_rfl)
  have e0 := IE.str_eq hr O_xq58 O_xq51 O_xq98 O_xq74 (O_y10 (LS_R y) f0) (by kernel_rfl) (by kernel_rfl) (by kernel_rfl) (by kernel_rfl)
  show (Bool.not (IE.ev (LS_R y) O_xq58 == IE.ev (LS_R y) O_xq51)) = false
  rw [e0]
  first | done | rfl | simp
theorem O_any (y : LV) (hpre : O_pre y) (w : World) (hh : Holds Tryz.prog aw3S0 w) : Calls Tryz.prog 10 #[.agg #[.int .i8 y.a0, .int .i8 y.a1, .int .i8 y.a2], .agg #[.int .i8 y.b0, .int .i8 y.b1, .int .i8 y.b2], .agg #[.int .i8 y.z0, .int .i8 y.z1]] w fun en w' => en = .returned (.bool true) ∧ Below w.heap.size w w' := by
  have hg0 : (O_c0 y = false) := (show O_c0 y = BE.ev (LS_R y) (.cm .eq (.v 14) (.k (0))) by kernel_rfl).trans (beq_eq_false_iff_ne.2 hpre.2.2.2.2.1)
  have hg1 : (O_c1 y = true) := (show O_c1 y = BE.ev (LS_R y) (.cm .eq (.v 17) (.k (0))) by kernel_rfl).trans (beq_iff_eq.2 hpre.2.2.2.2.2.1)
  have hg2 : (O_c2 y = false) := (show O_c2 y = BE.ev (LS_R y) (.cm .eq (.v 16) (.k (0))) by kernel_rfl).trans (beq_eq_false_iff_ne.2 hpre.2.2.2.2.2.2)
  have h6 := O_t0 y hpre
  have h19 := O_t1 y hpre hg0 hg2
  have h20 := O_t2 y hpre
  have h25 := O_t3 y hpre
  rcases Bool.eq_false_or_eq_true (O_c78 y) with h75 | h75
  ·
    have hp := O_p1 y (cjD_i (O_tT y hpre) (And.intro (And.intro (And.intro (And.intro (And.intro (And.intro (cjD_i (O_tT y hpre) (And.intro (cjD_i (O_tT y hpre) (And.intro (cjD_i (O_tT y hpre) (And.intro (cjD_i (O_tT y hpre) (And.intro (cjD_i (O_tT y hpre) (And.intro (And.intro (cjD_i (O_tT y hpre) (And.intro (cjD_i (O_tT y hpre) (And.intro (cjD_i (O_tT y hpre) (And.intro (cjD_i (O_tT y hpre) (And.intro (cjD_i (O_tT y hpre) (And.intro (And.intro (cjD_i (O_tT y hpre) (And.intro (cjD_i (O_tT y hpre) (And.intro (cjD_i (O_tT y hpre) (And.intro (And.intro (cjD_i (O_tT y hpre) (And.intro (And.intro (cjD_i (O_tT y hpre) (And.intro (cjD_i (O_tT y hpre) (And.intro (cjD_i (O_tT y hpre) (And.intro (cjD_i (O_tT y hpre) trivial) hg0)) hg1)) hg2)) hg0) h6)) hg2) h6)) hg0)) hg2)) h19) h6)) h20)) hg0)) hg2)) hg0)) hg0) h6)) h25)) hg0)) hg0)) hg0)) h75) h75) h75) h75) h75) h75)) w hh
    have hv : O_w1 y = (.bool true) := by
      clear hp hh
      unfold O_w1
      rfl
    exact hv ▸ hp
  ·
    rcases Bool.eq_false_or_eq_true (O_c81 y) with h78 | h78
    ·
      have hp := O_p3 y (cjD_i (O_tT y hpre) (And.intro (And.intro (And.intro (And.intro (cjD_i (O_tT y hpre) (And.intro (And.intro (cjD_i (O_tT y hpre) (And.intro (And.intro (cjD_i (O_tT y hpre) (And.intro (And.intro (cjD_i (O_tT y hpre) (And.intro (cjD_i (O_tT y hpre) (And.intro (cjD_i (O_tT y hpre) (And.intro (cjD_i (O_tT y hpre) (And.intro (cjD_i (O_tT y hpre) (And.intro (And.intro (cjD_i (O_tT y hpre) (And.intro (cjD_i (O_tT y hpre) (And.intro (cjD_i (O_tT y hpre) (And.intro (cjD_i (O_tT y hpre) (And.intro (cjD_i (O_tT y hpre) (And.intro (And.intro (cjD_i (O_tT y hpre) (And.intro (cjD_i (O_tT y hpre) (And.intro (cjD_i (O_tT y hpre) (And.intro (And.intro (cjD_i (O_tT y hpre) (And.intro (And.intro (cjD_i (O_tT y hpre) (And.intro (cjD_i (O_tT y hpre) (And.intro (cjD_i (O_tT y hpre) (And.intro (cjD_i (O_tT y hpre) trivial) hg0)) hg1)) hg2)) hg0) h6)) hg2) h6)) hg0)) hg2)) h19) h6)) h20)) hg0)) hg2)) hg0)) hg0) h6)) h25)) hg0)) hg0)) hg0)) h75) h75)) h75) h75)) h75) h75)) h78) h78) h78) h78)) w hh
      have hv : O_w3 y = (.bool true) := by
        clear hp hh
        unfold O_w3
        rfl
      exact hv ▸ hp
    ·
      rcases Bool.eq_false_or_eq_true (O_c82 y) with h79 | h79
      ·
        have hp := O_p2 y (cjD_i (O_tT y hpre) (And.intro (And.intro (And.intro (And.intro (And.intro (cjD_i (O_tT y hpre) (And.intro (And.intro (cjD_i (O_tT y hpre) (And.intro (And.intro (cjD_i (O_tT y hpre) (And.intro (And.intro (cjD_i (O_tT y hpre) (And.intro (cjD_i (O_tT y hpre) (And.intro (cjD_i (O_tT y hpre) (And.intro (cjD_i (O_tT y hpre) (And.intro (cjD_i (O_tT y hpre) (And.intro (And.intro (cjD_i (O_tT y hpre) (And.intro (cjD_i (O_tT y hpre) (And.intro (cjD_i (O_tT y hpre) (And.intro (cjD_i (O_tT y hpre) (And.intro (cjD_i (O_tT y hpre) (And.intro (And.intro (cjD_i (O_tT y hpre) (And.intro (cjD_i (O_tT y hpre) (And.intro (cjD_i (O_tT y hpre) (And.intro (And.intro (cjD_i (O_tT y hpre) (And.intro (And.intro (cjD_i (O_tT y hpre) (And.intro (cjD_i (O_tT y hpre) (And.intro (cjD_i (O_tT y hpre) (And.intro (cjD_i (O_tT y hpre) trivial) hg0)) hg1)) hg2)) hg0) h6)) hg2) h6)) hg0)) hg2)) h19) h6)) h20)) hg0)) hg2)) hg0)) hg0) h6)) h25)) hg0)) hg0)) hg0)) h75) h75)) h75) h75)) h75) h75)) h78) h78) h78) h78) h79)) w hh
        have hv : O_w2 y = (.bool true) := by
          clear hp hh
          unfold O_w2
          rfl
        exact hv ▸ hp
      ·
        have h86 := O_t4 y hpre h78
        have h87 := O_t5 y hpre h79
        have h89 := O_t6 y hpre h75
        have h90 := O_t7 y hpre h75
        have h91 := O_t8 y hpre h75
        have h92 := O_t9 y hpre h75
        have h93 := O_t10 y hpre h75
        have hp := O_p0 y (cjD_i (O_tT y hpre) (And.intro (cjD_i (O_tT y hpre) (And.intro (cjD_i (O_tT y hpre) (And.intro (cjD_i (O_tT y hpre) (And.intro (cjD_i (O_tT y hpre) (And.intro (cjD_i (O_tT y hpre) (And.intro (And.intro (And.intro (And.intro (And.intro (cjD_i (O_tT y hpre) (And.intro (And.intro (And.intro (And.intro (And.intro (cjD_i (O_tT y hpre) (And.intro (cjD_i (O_tT y hpre) (And.intro (And.intro (And.intro (And.intro (And.intro (cjD_i (O_tT y hpre) (And.intro (And.intro (cjD_i (O_tT y hpre) (And.intro (And.intro (cjD_i (O_tT y hpre) (And.intro (And.intro (cjD_i (O_tT y hpre) (And.intro (cjD_i (O_tT y hpre) (And.intro (cjD_i (O_tT y hpre) (And.intro (cjD_i (O_tT y hpre) (And.intro (cjD_i (O_tT y hpre) (And.intro (And.intro (cjD_i (O_tT y hpre) (And.intro (cjD_i (O_tT y hpre) (And.intro (cjD_i (O_tT y hpre) (And.intro (cjD_i (O_tT y hpre) (And.intro (cjD_i (O_tT y hpre) (And.intro (And.intro (cjD_i (O_tT y hpre) (And.intro (cjD_i (O_tT y hpre) (And.intro (cjD_i (O_tT y hpre) (And.intro (And.intro (cjD_i (O_tT y hpre) (And.intro (And.intro (cjD_i (O_tT y hpre) (And.intro (cjD_i (O_tT y hpre) (And.intro (cjD_i (O_tT y hpre) (And.intro (cjD_i (O_tT y hpre) trivial) hg0)) hg1)) hg2)) hg0) h6)) hg2) h6)) hg0)) hg2)) h19) h6)) h20)) hg0)) hg2)) hg0)) hg0) h6)) h25)) hg0)) hg0)) hg0)) h75) h75)) h75) h75)) h75) h75)) h78) h78) h78) h78) h79)) hg0)) h78) h78) h78) h78) h79)) h86) h86) h86) h86) h87)) h89)) h90)) h91)) h92)) h93)) w hh
        have hv : O_w0 y = (.bool true) := by
          clear hp hh
          unfold O_w0
          rfl
        exact hv ▸ hp
end Go.Proofs.YtbkpnhbcihcgaaaGreatDoor
