/-
  The contract of bipole.bipolelaw03.LoopSums.
-/
import Derived.Test.YtbkpnhbcihcgaaaGreatDoorGU2
import Derived.Test.YtbkpnhbcihcgaaaGreatDoorGU3
import Derived.Test.YtbkpnhbcihcgaaaGreatDoorGU12
set_option linter.all false
set_option maxRecDepth 1000000
set_option maxHeartbeats 2000000
open Go.RowKit
namespace Go.Proofs.YtbkpnhbcihcgaaaGreatDoor
open Mini
def J_at0 (y : Int) : Int := (Int.tmod (IntKind.i64.wrap y) (8 : Int))
abbrev J_xq0 : IE := .ite .gt (.k (-8)) (.v 18) (.k (-8)) (.v 18)
abbrev J_xq1 : IE := .ite .gt (.k (-8)) (.v 19) (.k (-8)) (.v 19)
abbrev J_xq2 : BE := .and (.cm .eq (.ite .lt (.k (8)) J_xq0 (.k (8)) J_xq0) (.v 18)) (.and (.cm .eq (.ite .lt (.k (8)) J_xq1 (.k (8)) J_xq1) (.v 19)) .t)
abbrev J_xq3 : IE := .wr (.add (.k (0)) (.wr (.mul (.v 13) (.v 15))))
abbrev J_xq4 : IE := .wr (.sub (.wr (.mul (.k (0)) (.v 18))) (.wr (.mul (.k (0)) (.v 19))))
abbrev J_xq5 : IE := .wr (.add (.wr (.mul (.k (0)) (.v 19))) (.wr (.mul (.k (0)) (.v 18))))
abbrev J_xq6 : IE := .wr (.add (.k (0)) (.wr (.mul (.v 12) (.v 15))))
abbrev J_xq7 : IE := .wr (.add (.wr (.sub (.wr (.mul (.wr (.add J_xq4 J_xq3)) (.v 18))) (.wr (.mul J_xq5 (.v 19))))) J_xq6)
abbrev J_xq8 : IE := .wr (.sub (.wr (.mul (.wr (.add J_xq4 (.v 13))) (.v 18))) (.wr (.mul J_xq5 (.v 19))))
abbrev J_xq9 : IE := .wr (.add (.wr (.mul (.wr (.add J_xq4 (.v 13))) (.v 19))) (.wr (.mul J_xq5 (.v 18))))
abbrev J_xq10 : IE := .wr (.sub (.wr (.mul (.wr (.add J_xq8 (.v 12))) (.wr (.add J_xq4 (.v 15))))) (.wr (.mul J_xq9 J_xq5)))
abbrev J_xq11 : IE := .wr (.add (.wr (.mul (.wr (.add J_xq4 J_xq3)) (.v 19))) (.wr (.mul J_xq5 (.v 18))))
abbrev J_xq12 : IE := .wr (.add (.wr (.mul (.wr (.add J_xq8 (.v 12))) J_xq5)) (.wr (.mul J_xq9 (.wr (.add J_xq4 (.v 15))))))
abbrev J_xq13 : IE := .wr (.add J_xq8 (.wr (.add (.v 12) (.v 15))))
abbrev J_xq14 : IE := .wr (.add (.wr (.add J_xq8 (.v 12))) (.wr (.add J_xq4 (.v 15))))
abbrev J_xq15 : IE := .wr (.mul (.wr (.add (.v 8) (.v 10))) (.k (1)))
abbrev J_xq16 : BE := .cm .ne J_xq15 (.wr (.add (.wr (.mul (.v 8) (.k (1)))) (.wr (.mul (.v 10) (.k (1))))))
abbrev J_xq17 : IE := .wr (.sub (.k (0)) (.wr (.mul (.v 12) (.k (1)))))
abbrev J_xq18 : IE := .wr (.add (.k (0)) (.wr (.mul J_xq17 J_xq15)))
abbrev J_xq19 : IE := .wr (.add (.k (0)) (.wr (.mul J_xq17 (.wr (.mul (.v 8) (.k (1)))))))
abbrev J_xq20 : IE := .wr (.add (.k (0)) (.wr (.mul J_xq17 (.wr (.mul (.v 10) (.k (1)))))))
abbrev J_xq21 : BE := .cm .ne J_xq18 (.wr (.add J_xq19 J_xq20))
abbrev J_xq22 : IE := .wr (.add (.k (0)) (.wr (.mul J_xq17 J_xq18)))
abbrev J_xq23 : IE := .wr (.add (.k (0)) (.wr (.mul J_xq17 J_xq19)))
abbrev J_xq24 : IE := .wr (.add (.k (0)) (.wr (.mul J_xq17 J_xq20)))
abbrev J_xq25 : BE := .cm .ne J_xq22 (.wr (.add J_xq23 J_xq24))
abbrev J_xq26 : IE := .wr (.add (.k (0)) (.wr (.mul J_xq17 J_xq22)))
abbrev J_xq27 : IE := .wr (.add (.k (0)) (.wr (.mul J_xq17 J_xq23)))
abbrev J_xq28 : IE := .wr (.add (.k (0)) (.wr (.mul J_xq17 J_xq24)))
abbrev J_xq29 : BE := .cm .ne J_xq26 (.wr (.add J_xq27 J_xq28))
abbrev J_xq30 : IE := .wr (.add (.k (0)) (.wr (.mul J_xq17 J_xq26)))
abbrev J_xq31 : IE := .wr (.add (.k (0)) (.wr (.mul J_xq17 J_xq27)))
abbrev J_xq32 : IE := .wr (.add (.k (0)) (.wr (.mul J_xq17 J_xq28)))
abbrev J_xq33 : BE := .cm .ne J_xq30 (.wr (.add J_xq31 J_xq32))
abbrev J_xq34 : IE := .wr (.add (.k (0)) (.wr (.mul J_xq17 J_xq30)))
abbrev J_xq35 : IE := .wr (.add (.k (0)) (.wr (.mul J_xq17 J_xq31)))
abbrev J_xq36 : IE := .wr (.add (.k (0)) (.wr (.mul J_xq17 J_xq32)))
abbrev J_xq37 : BE := .cm .ne J_xq34 (.wr (.add J_xq35 J_xq36))
abbrev J_xq38 : BE := .cm .ne (.wr (.mul J_xq19 (.k (1)))) J_xq19
abbrev J_xq39 : IE := .wr (.add (.k (0)) (.wr (.mul J_xq17 (.wr (.mul J_xq19 (.k (1)))))))
abbrev J_xq40 : IE := .wr (.add (.k (0)) (.wr (.mul J_xq17 J_xq39)))
abbrev J_xq41 : IE := .wr (.add (.k (0)) (.wr (.mul J_xq17 J_xq40)))
abbrev J_xq42 : IE := .wr (.add (.k (0)) (.wr (.mul J_xq17 J_xq41)))
abbrev J_xq43 : IE := .add (.k (0)) (.mul (.sub (.k (0)) (.mul (.v 12) (.k (1)))) (.mul (.add (.v 8) (.v 10)) (.k (1))))
abbrev J_xq44 : IE := .add (.k (0)) (.mul (.sub (.k (0)) (.mul (.v 12) (.k (1)))) (.mul (.v 8) (.k (1))))
abbrev J_xq45 : IE := .add (.k (0)) (.mul (.sub (.k (0)) (.mul (.v 12) (.k (1)))) (.mul (.v 10) (.k (1))))
abbrev J_xq46 : IE := .add (.k (0)) (.mul (.sub (.k (0)) (.mul (.v 12) (.k (1)))) J_xq43)
abbrev J_xq47 : IE := .add (.k (0)) (.mul (.sub (.k (0)) (.mul (.v 12) (.k (1)))) J_xq44)
abbrev J_xq48 : IE := .add (.k (0)) (.mul (.sub (.k (0)) (.mul (.v 12) (.k (1)))) J_xq45)
abbrev J_xq49 : IE := .add (.k (0)) (.mul (.sub (.k (0)) (.mul (.v 12) (.k (1)))) J_xq46)
abbrev J_xq50 : IE := .add (.k (0)) (.mul (.sub (.k (0)) (.mul (.v 12) (.k (1)))) J_xq47)
abbrev J_xq51 : IE := .add (.k (0)) (.mul (.sub (.k (0)) (.mul (.v 12) (.k (1)))) J_xq48)
abbrev J_xq52 : IE := .add (.k (0)) (.mul (.sub (.k (0)) (.mul (.v 12) (.k (1)))) J_xq49)
abbrev J_xq53 : IE := .add (.k (0)) (.mul (.sub (.k (0)) (.mul (.v 12) (.k (1)))) J_xq50)
abbrev J_xq54 : IE := .add (.k (0)) (.mul (.sub (.k (0)) (.mul (.v 12) (.k (1)))) J_xq51)
abbrev J_xq55 : IE := .add (.k (0)) (.mul (.sub (.k (0)) (.mul (.v 12) (.k (1)))) J_xq53)
abbrev J_xq56 : IE := .add (.k (0)) (.mul (.sub (.k (0)) (.mul (.v 12) (.k (1)))) (.mul J_xq44 (.k (1))))
abbrev J_xq57 : IE := .add (.k (0)) (.mul (.sub (.k (0)) (.mul (.v 12) (.k (1)))) J_xq56)
abbrev J_xq58 : IE := .add (.k (0)) (.mul (.sub (.k (0)) (.mul (.v 12) (.k (1)))) J_xq57)
abbrev J_xq59 : IE := .sub (.mul (.k (0)) (.v 18)) (.mul (.k (0)) (.v 19))
abbrev J_xq60 : IE := .add J_xq59 (.add (.k (0)) (.mul (.v 13) (.v 15)))
abbrev J_xq61 : IE := .add (.mul (.k (0)) (.v 19)) (.mul (.k (0)) (.v 18))
abbrev J_xq62 : IE := .add (.sub (.mul J_xq60 (.v 18)) (.mul J_xq61 (.v 19))) (.add (.k (0)) (.mul (.v 12) (.v 15)))
abbrev J_xq63 : IE := .sub (.mul (.add J_xq59 (.v 13)) (.v 18)) (.mul J_xq61 (.v 19))
abbrev J_xq64 : IE := .add (.mul (.add J_xq59 (.v 13)) (.v 19)) (.mul J_xq61 (.v 18))
abbrev J_xq65 : IE := .sub (.mul (.add J_xq63 (.v 12)) (.add J_xq59 (.v 15))) (.mul J_xq64 J_xq61)
abbrev J_xq66 : IE := .add (.mul J_xq60 (.v 19)) (.mul J_xq61 (.v 18))
abbrev J_xq67 : IE := .add (.mul (.add J_xq63 (.v 12)) J_xq61) (.mul J_xq64 (.add J_xq59 (.v 15)))
abbrev J_xq68 : IE := .add (.add J_xq63 (.v 12)) (.add J_xq59 (.v 15))

abbrev J_pre (y : LV) : Prop := (-128 ≤ y.b0 ∧ y.b0 ≤ 127) ∧ (-128 ≤ y.b1 ∧ y.b1 ≤ 127) ∧ (-128 ≤ y.z0 ∧ y.z0 ≤ 127) ∧ (-128 ≤ y.z1 ∧ y.z1 ≤ 127) ∧ ((J_at0 y.a2) = 0) ∧ ((J_at0 y.a1) ≠ 0) ∧ ((J_at0 y.b2) = 0) ∧ ((J_at0 y.b1) = 0) ∧ ((J_at0 y.b0) ≠ 0)
theorem J_X : FOkS Tryz.prog x_J := bothX_ok (noXS_ok) (tabT_ok (by kernel_rfl) aw3_calls)
theorem J_args (y : LV) : (#[.agg #[.int .i8 y.a0, .int .i8 y.a1, .int .i8 y.a2], .agg #[.int .i8 y.b0, .int .i8 y.b1, .int .i8 y.b2], .agg #[.int .i8 y.z0, .int .i8 y.z1]] : Array Value).toList.all (ground 8) = true := by kernel_rfl
theorem J_hr (y : LV) (hpre : J_pre y) : InR LS_B (LS_R y) := LS_hr y ⟨hpre.1, hpre.2.1, hpre.2.2.1, hpre.2.2.2.1⟩
def J_h0 : Prop := (true = true)
theorem J_g0 : (true = true) := by first | rfl | trivial | decide | omega
def J_h1 : Prop := ((0 : Int) = (0 : Int))
theorem J_g1 : ((0 : Int) = (0 : Int)) := by first | rfl | trivial | decide | omega
def J_h2 : Prop := (false = false)
theorem J_g2 : (false = false) := by first | rfl | trivial | decide | omega
def J_h3 : Prop := ((1 : Int) = (1 : Int))
theorem J_g3 : ((1 : Int) = (1 : Int)) := by first | rfl | trivial | decide | omega
def J_h4 : Prop := ((2 : Int) = (2 : Int))
theorem J_g4 : ((2 : Int) = (2 : Int)) := by first | rfl | trivial | decide | omega
def J_h5 : Prop := ((decide ((3 : Int) > (0 : Int))) = Bool.true)
theorem J_g5 : ((decide ((3 : Int) > (0 : Int))) = Bool.true) := by first | rfl | trivial | decide | omega
def J_c0 (y : LV) : Bool := BE.ev (LS_R y) (.cm .eq (.v 14) (.k (0)))
def J_h7 : Prop := ((decide ((2 : Int) > (0 : Int))) = Bool.true)
theorem J_g7 : ((decide ((2 : Int) > (0 : Int))) = Bool.true) := by first | rfl | trivial | decide | omega
def J_c1 (y : LV) : Bool := BE.ev (LS_R y) (.cm .eq (.v 13) (.k (0)))
def J_c2 (y : LV) : Bool := BE.ev (LS_R y) (.cm .eq (.v 17) (.k (0)))
def J_c3 (y : LV) : Bool := BE.ev (LS_R y) (.cm .eq (.v 16) (.k (0)))
def J_h11 : Prop := ((decide ((1 : Int) > (0 : Int))) = Bool.true)
theorem J_g11 : ((decide ((1 : Int) > (0 : Int))) = Bool.true) := by first | rfl | trivial | decide | omega
def J_c4 (y : LV) : Bool := BE.ev (LS_R y) (.cm .eq (.v 15) (.k (0)))
def J_h13 : Prop := ((decide ((2 : Int) > (5 : Int))) = Bool.false)
theorem J_g13 : ((decide ((2 : Int) > (5 : Int))) = Bool.false) := by first | rfl | trivial | decide | omega
def J_c9 (y : LV) : Bool := BE.ev (LS_R y) (.not J_xq2)
def J_h19 : Prop := ((decide ((1 : Int) ≥ (0 : Int))) = Bool.true)
theorem J_g19 : ((decide ((1 : Int) ≥ (0 : Int))) = Bool.true) := by first | rfl | trivial | decide | omega
def J_h20 : Prop := ((decide ((0 : Int) ≥ (0 : Int))) = Bool.true)
theorem J_g20 : ((decide ((0 : Int) ≥ (0 : Int))) = Bool.true) := by first | rfl | trivial | decide | omega
def J_h21 : Prop := ((decide ((-1 : Int) ≥ (0 : Int))) = Bool.false)
theorem J_g21 : ((decide ((-1 : Int) ≥ (0 : Int))) = Bool.false) := by first | rfl | trivial | decide | omega
def J_h22 : Prop := ((decide ((1 : Int) > (5 : Int))) = Bool.false)
theorem J_g22 : ((decide ((1 : Int) > (5 : Int))) = Bool.false) := by first | rfl | trivial | decide | omega
def J_c16 (y : LV) : Bool := BE.ev (LS_R y) (.cm .eq J_xq3 (.k (0)))
def J_c17 (y : LV) : Bool := BE.ev (LS_R y) (.not (.and (.cm .eq J_xq7 J_xq10) (.and (.cm .eq J_xq11 J_xq12) .t)))
def J_h31 : Prop := ((Bool.false != Bool.false) = Bool.false)
theorem J_g31 : ((Bool.false != Bool.false) = Bool.false) := by first | rfl | trivial | decide | omega
def J_c20 (y : LV) : Bool := BE.ev (LS_R y) (.not (.and (.cm .eq J_xq13 J_xq14) (.and (.cm .eq J_xq9 (.wr (.add J_xq9 J_xq5))) .t)))
def J_h37 : Prop := ((decide ((5 : Int) > (24 : Int))) = Bool.false)
theorem J_g37 : ((decide ((5 : Int) > (24 : Int))) = Bool.false) := by first | rfl | trivial | decide | omega
def J_h44 : Prop := ((3 : Int) = (3 : Int))
theorem J_g44 : ((3 : Int) = (3 : Int)) := by first | rfl | trivial | decide | omega
def J_h47 : Prop := ((4 : Int) = (4 : Int))
theorem J_g47 : ((4 : Int) = (4 : Int)) := by first | rfl | trivial | decide | omega
def J_c57 (y : LV) : Bool := BE.ev (LS_R y) J_xq16
def J_c58 (y : LV) : Bool := BE.ev (LS_R y) J_xq21
def J_c59 (y : LV) : Bool := BE.ev (LS_R y) J_xq25
def J_c60 (y : LV) : Bool := BE.ev (LS_R y) J_xq29
def J_c61 (y : LV) : Bool := BE.ev (LS_R y) J_xq33
def J_h79 : Prop := ((5 : Int) = (5 : Int))
theorem J_g79 : ((5 : Int) = (5 : Int)) := by first | rfl | trivial | decide | omega
def J_c62 (y : LV) : Bool := BE.ev (LS_R y) J_xq37
def J_c63 (y : LV) : Bool := BE.ev (LS_R y) (.cm .ne (.v 13) (.k (1)))
def J_h85 : Prop := ((decide ((4 : Int) > (24 : Int))) = Bool.false)
theorem J_g85 : ((decide ((4 : Int) > (24 : Int))) = Bool.false) := by first | rfl | trivial | decide | omega
def J_c74 (y : LV) : Bool := BE.ev (LS_R y) J_xq38
def J_c75 (y : LV) : Bool := BE.ev (LS_R y) (.cm .ne J_xq39 J_xq23)
def J_c76 (y : LV) : Bool := BE.ev (LS_R y) (.cm .ne J_xq40 J_xq27)
def J_c77 (y : LV) : Bool := BE.ev (LS_R y) (.cm .ne J_xq41 J_xq31)
def J_c78 (y : LV) : Bool := BE.ev (LS_R y) (.cm .ne J_xq42 J_xq35)
theorem J_c57_ff_p (ρ : List Int) : IE.ev ρ (.mul (.add (.v 8) (.v 10)) (.k (1))) = IE.ev ρ (.add (.mul (.v 8) (.k (1))) (.mul (.v 10) (.k (1)))) := by first | rfl | (simp only [IE.ev]; generalize List.getD ρ 8 0 = v8; generalize List.getD ρ 10 0 = v10; grind)
theorem J_c57_ff (y : LV) (hpre : J_pre y) : J_c57 y = false :=
  BE.same_ok (J_hr y hpre) J_xq16 .ne _ _ _ (by kernel_rfl) (by kernel_rfl) J_c57_ff_p (by kernel_rfl)
theorem J_c58_ff_p (ρ : List Int) : IE.ev ρ J_xq43 = IE.ev ρ (.add J_xq44 J_xq45) := by first | rfl | (simp only [IE.ev]; generalize List.getD ρ 8 0 = v8; generalize List.getD ρ 10 0 = v10; generalize List.getD ρ 12 0 = v12; grind)
theorem J_c58_ff (y : LV) (hpre : J_pre y) : J_c58 y = false :=
  BE.same_ok (J_hr y hpre) J_xq21 .ne _ _ _ (by kernel_rfl) (by kernel_rfl) J_c58_ff_p (by kernel_rfl)
theorem J_c59_ff_p (ρ : List Int) : IE.ev ρ J_xq46 = IE.ev ρ (.add J_xq47 J_xq48) := by first | rfl | (simp only [IE.ev]; generalize List.getD ρ 8 0 = v8; generalize List.getD ρ 10 0 = v10; generalize List.getD ρ 12 0 = v12; grind)
theorem J_c59_ff (y : LV) (hpre : J_pre y) : J_c59 y = false :=
  BE.same_ok (J_hr y hpre) J_xq25 .ne _ _ _ (by kernel_rfl) (by kernel_rfl) J_c59_ff_p (by kernel_rfl)
theorem J_c60_ff_p (ρ : List Int) : IE.ev ρ J_xq49 = IE.ev ρ (.add J_xq50 J_xq51) := by first | rfl | (simp only [IE.ev]; generalize List.getD ρ 8 0 = v8; generalize List.getD ρ 10 0 = v10; generalize List.getD ρ 12 0 = v12; grind)
theorem J_c60_ff (y : LV) (hpre : J_pre y) : J_c60 y = false :=
  BE.same_ok (J_hr y hpre) J_xq29 .ne _ _ _ (by kernel_rfl) (by kernel_rfl) J_c60_ff_p (by kernel_rfl)
theorem J_c61_ff_p (ρ : List Int) : IE.ev ρ J_xq52 = IE.ev ρ (.add J_xq53 J_xq54) := by first | rfl | (simp only [IE.ev]; generalize List.getD ρ 8 0 = v8; generalize List.getD ρ 10 0 = v10; generalize List.getD ρ 12 0 = v12; grind)
theorem J_c61_ff (y : LV) (hpre : J_pre y) : J_c61 y = false :=
  BE.same_ok (J_hr y hpre) J_xq33 .ne _ _ _ (by kernel_rfl) (by kernel_rfl) J_c61_ff_p (by kernel_rfl)
theorem J_c62_ff_p (ρ : List Int) : IE.ev ρ (.add (.k (0)) (.mul (.sub (.k (0)) (.mul (.v 12) (.k (1)))) J_xq52)) = IE.ev ρ (.add J_xq55 (.add (.k (0)) (.mul (.sub (.k (0)) (.mul (.v 12) (.k (1)))) J_xq54))) := by first | rfl | (simp only [IE.ev]; generalize List.getD ρ 8 0 = v8; generalize List.getD ρ 10 0 = v10; generalize List.getD ρ 12 0 = v12; grind)
theorem J_c62_ff (y : LV) (hpre : J_pre y) : J_c62 y = false :=
  BE.same_ok (J_hr y hpre) J_xq37 .ne _ _ _ (by kernel_rfl) (by kernel_rfl) J_c62_ff_p (by kernel_rfl)
theorem J_c74_ff_p (ρ : List Int) : IE.ev ρ (.mul J_xq44 (.k (1))) = IE.ev ρ J_xq44 := by first | rfl | (simp only [IE.ev]; generalize List.getD ρ 8 0 = v8; generalize List.getD ρ 12 0 = v12; grind)
theorem J_c74_ff (y : LV) (hpre : J_pre y) : J_c74 y = false :=
  BE.same_ok (J_hr y hpre) J_xq38 .ne _ _ _ (by kernel_rfl) (by kernel_rfl) J_c74_ff_p (by kernel_rfl)
theorem J_c75_ff_p (ρ : List Int) : IE.ev ρ J_xq56 = IE.ev ρ J_xq47 := by first | rfl | (simp only [IE.ev]; generalize List.getD ρ 8 0 = v8; generalize List.getD ρ 12 0 = v12; grind)
theorem J_c75_ff (y : LV) (hpre : J_pre y) : J_c75 y = false :=
  BE.same_ok (J_hr y hpre) (.cm .ne J_xq39 J_xq23) .ne _ _ _ (by kernel_rfl) (by kernel_rfl) J_c75_ff_p (by kernel_rfl)
theorem J_c76_ff_p (ρ : List Int) : IE.ev ρ J_xq57 = IE.ev ρ J_xq50 := by first | rfl | (simp only [IE.ev]; generalize List.getD ρ 8 0 = v8; generalize List.getD ρ 12 0 = v12; grind)
theorem J_c76_ff (y : LV) (hpre : J_pre y) : J_c76 y = false :=
  BE.same_ok (J_hr y hpre) (.cm .ne J_xq40 J_xq27) .ne _ _ _ (by kernel_rfl) (by kernel_rfl) J_c76_ff_p (by kernel_rfl)
theorem J_c77_ff_p (ρ : List Int) : IE.ev ρ J_xq58 = IE.ev ρ J_xq53 := by first | rfl | (simp only [IE.ev]; generalize List.getD ρ 8 0 = v8; generalize List.getD ρ 12 0 = v12; grind)
theorem J_c77_ff (y : LV) (hpre : J_pre y) : J_c77 y = false :=
  BE.same_ok (J_hr y hpre) (.cm .ne J_xq41 J_xq31) .ne _ _ _ (by kernel_rfl) (by kernel_rfl) J_c77_ff_p (by kernel_rfl)
theorem J_c78_ff_p (ρ : List Int) : IE.ev ρ (.add (.k (0)) (.mul (.sub (.k (0)) (.mul (.v 12) (.k (1)))) J_xq58)) = IE.ev ρ J_xq55 := by first | rfl | (simp only [IE.ev]; generalize List.getD ρ 8 0 = v8; generalize List.getD ρ 12 0 = v12; grind)
theorem J_c78_ff (y : LV) (hpre : J_pre y) : J_c78 y = false :=
  BE.same_ok (J_hr y hpre) (.cm .ne J_xq42 J_xq35) .ne _ _ _ (by kernel_rfl) (by kernel_rfl) J_c78_ff_p (by kernel_rfl)
def J_L : List (BE × Bool) := [((.cm .lt (.v 12) (.k (-100))), false), ((.cm .gt (.v 12) (.k (100))), false), ((.cm .lt (.v 13) (.k (-100))), false), ((.cm .gt (.v 13) (.k (100))), false), ((.cm .lt (.v 15) (.k (-100))), false), ((.cm .gt (.v 15) (.k (100))), false), ((.cm .lt J_xq6 (.k (-100))), false), ((.cm .gt J_xq6 (.k (100))), false), ((.cm .lt J_xq3 (.k (-100))), false), ((.cm .gt J_xq3 (.k (100))), false), ((.cm .lt (.wr (.add (.v 12) (.v 15))) (.k (-100))), false), ((.cm .gt (.wr (.add (.v 12) (.v 15))) (.k (100))), false), ((.cm .lt (.v 8) (.k (-1000))), false), ((.cm .gt (.v 8) (.k (1000))), false), ((.cm .lt J_xq19 (.k (-1073741824))), false), ((.cm .gt J_xq19 (.k (1073741824))), false), ((.cm .lt J_xq23 (.k (-1073741824))), false), ((.cm .gt J_xq23 (.k (1073741824))), false), ((.cm .lt J_xq27 (.k (-1073741824))), false), ((.cm .gt J_xq27 (.k (1073741824))), false), ((.cm .lt J_xq31 (.k (-1073741824))), false), ((.cm .gt J_xq31 (.k (1073741824))), false), ((.cm .lt J_xq35 (.k (-1073741824))), false), ((.cm .gt J_xq35 (.k (1073741824))), false), ((.cm .lt (.v 10) (.k (-1000))), false), ((.cm .gt (.v 10) (.k (1000))), false), ((.cm .lt J_xq20 (.k (-1073741824))), false), ((.cm .gt J_xq20 (.k (1073741824))), false), ((.cm .lt J_xq24 (.k (-1073741824))), false), ((.cm .gt J_xq24 (.k (1073741824))), false), ((.cm .lt J_xq28 (.k (-1073741824))), false), ((.cm .gt J_xq28 (.k (1073741824))), false), ((.cm .lt J_xq32 (.k (-1073741824))), false), ((.cm .gt J_xq32 (.k (1073741824))), false), ((.cm .lt J_xq36 (.k (-1073741824))), false), ((.cm .gt J_xq36 (.k (1073741824))), false), ((.cm .lt (.wr (.add (.v 8) (.v 10))) (.k (-1000))), false), ((.cm .gt (.wr (.add (.v 8) (.v 10))) (.k (1000))), false), ((.cm .lt J_xq18 (.k (-1073741824))), false), ((.cm .gt J_xq18 (.k (1073741824))), false), ((.cm .lt J_xq22 (.k (-1073741824))), false), ((.cm .gt J_xq22 (.k (1073741824))), false), ((.cm .lt J_xq26 (.k (-1073741824))), false), ((.cm .gt J_xq26 (.k (1073741824))), false), ((.cm .lt J_xq30 (.k (-1073741824))), false), ((.cm .gt J_xq30 (.k (1073741824))), false), ((.cm .lt J_xq34 (.k (-1073741824))), false), ((.cm .gt J_xq34 (.k (1073741824))), false), ((.cm .lt J_xq19 (.k (-1000))), false), ((.cm .gt J_xq19 (.k (1000))), false), ((.cm .lt J_xq39 (.k (-1073741824))), false), ((.cm .gt J_xq39 (.k (1073741824))), false), ((.cm .lt J_xq40 (.k (-1073741824))), false), ((.cm .gt J_xq40 (.k (1073741824))), false), ((.cm .lt J_xq41 (.k (-1073741824))), false), ((.cm .gt J_xq41 (.k (1073741824))), false), ((.cm .lt J_xq42 (.k (-1073741824))), false), ((.cm .gt J_xq42 (.k (1073741824))), false)]
def J_E (y : LV) : List Prop := [J_h0, J_h1, J_h2, J_h3, J_h4, J_h5, J_h7, J_h11, J_h13, J_h19, J_h20, J_h21, J_h22, J_h31, J_h37, J_h44, J_h47, (J_c57 y = false), (J_c58 y = false), (J_c59 y = false), (J_c60 y = false), (J_c61 y = false), J_h79, (J_c62 y = false), J_h85, (J_c74 y = false), (J_c75 y = false), (J_c76 y = false), (J_c77 y = false), (J_c78 y = false)]
def J_T (y : LV) : Nat → Prop := tabP (LS_R y) J_L 58 (J_E y)
theorem J_tT (y : LV) (hpre : J_pre y) : ∀ i, J_T y i := fun i => tabP_ok (E := J_E y) (J_hr y hpre) (by kernel_rfl) (aC J_g0 (aC J_g1 (aC J_g2 (aC J_g3 (aC J_g4 (aC J_g5 (aC J_g7 (aC J_g11 (aC J_g13 (aC J_g19 (aC J_g20 (aC J_g21 (aC J_g22 (aC J_g31 (aC J_g37 (aC J_g44 (aC J_g47 (aC (J_c57_ff y hpre) (aC (J_c58_ff y hpre) (aC (J_c59_ff y hpre) (aC (J_c60_ff y hpre) (aC (J_c61_ff y hpre) (aC J_g79 (aC (J_c62_ff y hpre) (aC J_g85 (aC (J_c74_ff y hpre) (aC (J_c75_ff y hpre) (aC (J_c76_ff y hpre) (aC (J_c77_ff y hpre) (aC (J_c78_ff y hpre) (aN))))))))))))))))))))))))))))))) i
def J_w0 (y : LV) : Value := .bool Bool.true
def J_r0 (y : LV) : Prop := (cjD (J_T y) 256 (((((((cjD (J_T y) 256 ((cjD (J_T y) 256 ((cjD (J_T y) 256 ((cjD (J_T y) 256 ((cjD (J_T y) 256 (((cjD (J_T y) 256 ((cjD (J_T y) 256 ((cjD (J_T y) 256 ((cjD (J_T y) 256 ((cjD (J_T y) 256 (((cjD (J_T y) 256 ((cjD (J_T y) 256 ((cjD (J_T y) 256 (((cjD (J_T y) 256 (((cjD (J_T y) 256 ((cjD (J_T y) 256 ((cjD (J_T y) 256 ((cjD (J_T y) 256 ((cjD (J_T y) 256 ((cjD (J_T y) 256 True 19 0x3f3f3f3e3f3f3f3f3f3c3c3e3a3c3d3a3c3b3a) ∧ (J_c0 y = true)) 9 0x4040403d4040404040) ∧ (J_c1 y = false)) 19 0x3f3f3f3e3f3f3f3f3f3c3c3e3a3c3d3a3c3b3a) ∧ (J_c2 y = true)) 9 0x4040403d4040404040) ∧ (J_c3 y = true)) 9 0x4141413b4141414141) ∧ (J_c4 y = false)) 30 0x3d3c3c3c03020202023d3a3c01000000003b3a423c3c3c3c3c3c3c3d3c3b) ∧ (J_c1 y = false)) ∧ (J_c9 y = false)) 28 0x3b3c3c3c05040404043b3a463c453c3b443c3d433c3c3c3d3a3c3b3a) ∧ (J_c4 y = false)) ∧ (J_c9 y = false)) 33 0x3d3c3c3c03020202023d3a3c01000000003b3a423c453c3b443c3c3c3d3a3c3b3a) ∧ (J_c1 y = false)) 13 0x3b3c3c3c05040404043b3a463c) ∧ (J_c4 y = false)) 73 0x3d3c3c3c09080808083d3a3c07060606063b3a423c3a3c3c3c3c3c3c3c3c3c3c3c3c09080808083d3a3c07060606063b3a423c3c3d3d3b3a3d3a3c3b3b3b3a3b3a3c3c3c3d3a3c3b3a) ∧ (J_c16 y = false)) ∧ (J_c9 y = false)) 21 0x3c3c3c3c3c3c453c3b443c3d433c3c3c3d3a3c3b3a) ∧ (J_c17 y = false)) 21 0x3d3c3c3c03020202023d3a3c01000000003b3a423c) ∧ (J_c1 y = false)) 13 0x3b3c3c3c05040404043b3a463c) ∧ (J_c4 y = false)) 23 0x4040403d404040403c3b3b3b3a473c3c3c3c3d3a3c3b3a) ∧ (J_c1 y = false)) 41 0x3d3c3c3c03020202023d3a3c0b0a0a0a0a3b3a423c3a3c3c3c03020202023d3a3c0b0a0a0a0a3b3a3c) ∧ (J_c1 y = false)) ∧ (J_c9 y = false)) 21 0x3c3c3c3c3c3c453c3b443c3d433c3c3c3d3a3c3b3a) ∧ (J_c20 y = false)) 30 0x3d3c3c3c03020202023d3a3c01000000003b3a423c3c3b3b3a3d3b3d3b3c) ∧ (J_c1 y = false)) 120 0x3d3c3c3c03020202023d3a3c01000000003b3a423c3c3c17161616163c4a3b3a3a3c15141414143c493b3a3a3c13121212123c3e3b3a3a3c11101010103c3d3b3a3a3c0f0e0e0e0e3c3b3b3a3a3c3b3b3a3c3b3c3d3b3a3c3b3c3d3b3a3c3c3c3e3a3c3d3a3c3b3a483c3c3c3c3c3c0d0c0c0c0c3b3a3c3c) ∧ (J_c1 y = false)) 120 0x3d3c3c3c03020202023d3a3c01000000003b3a423c3c3c23222222223c4a3b3a3a3c21202020203c493b3a3a3c1f1e1e1e1e3c3e3b3a3a3c1d1c1c1c1c3c3d3b3a3a3c1b1a1a1a1a3c3b3b3a3a3c3b3b3a3c3b3c3d3b3a3c3b3c3d3b3a3c3c3c3e3a3c3d3a3c3b3a483c3c3c3c3c3c19181818183b3a3c3c) ∧ (J_c1 y = false)) 150 0x3d3c515050503a4f4a4a4a3a4e4949493a4d3e3e3e3a4c3d3d3d3a4b3b3b3b3a3c3c3c3c3c3c3c3c3c3c3c3c3c3c3c3c3c3c3c3c3c2f2e2e2e2e3c4a3b3a3a3c2d2c2c2c2c3c493b3a3a3c2b2a2a2a2a3c3e3b3a3a3c29282828283c3d3b3a3a3c27262626263c3b3b3a3a3c3b3b3a3c3b3c3d3b3a3c3b3c3d3b3a3c3c3c3e3a3c3d3a3c3b3a483c3c3c3c3c3c25242424243b3a3c3c) ∧ (J_c63 y = true)) ∧ (J_c63 y = true)) ∧ (J_c63 y = true)) ∧ (J_c63 y = true)) ∧ (J_c63 y = true)) ∧ (J_c63 y = true)) 8 0x3a3a3a3a3a3a3a3a)
theorem J_o0 (y : LV) : (obOf (J_e0 y.a0 y.a1 y.a2 y.b0 y.b1 y.b2 y.z0 y.z1), resOf (J_e0 y.a0 y.a1 y.a2 y.b0 y.b1 y.b2 y.z0 y.z1), cleanOf Tryz.prog.globals.size (J_e0 y.a0 y.a1 y.a2 y.b0 y.b1 y.b2 y.z0 y.z1)) = (J_r0 y, J_w0 y, true) := by kernel_rfl
theorem J_q0 (y : LV) : J_e0 y.a0 y.a1 y.a2 y.b0 y.b1 y.b2 y.z0 y.z1 = evFS Tryz.prog x_J 1000 10 #[.agg #[.int .i8 y.a0, .int .i8 y.a1, .int .i8 y.a2], .agg #[.int .i8 y.b0, .int .i8 y.b1, .int .i8 y.b2], .agg #[.int .i8 y.z0, .int .i8 y.z1]] aw3S0 ⟨J_k0, True⟩ := by
  delta J_e0
  exact Eq.refl _
theorem J_p0 (y : LV) (h : J_r0 y) (w : World) (hh : Holds Tryz.prog aw3S0 w) : Calls Tryz.prog 10 #[.agg #[.int .i8 y.a0, .int .i8 y.a1, .int .i8 y.a2], .agg #[.int .i8 y.b0, .int .i8 y.b1, .int .i8 y.b2], .agg #[.int .i8 y.z0, .int .i8 y.z1]] w fun en w' => en = .returned (J_w0 y) ∧ Below w.heap.size w w' := by
  have h3 := J_o0 y
  have hv : resOf (J_e0 y.a0 y.a1 y.a2 y.b0 y.b1 y.b2 y.z0 y.z1) = J_w0 y := congrArg (fun z => z.2.1) h3
  have hc : cleanOf Tryz.prog.globals.size (J_e0 y.a0 y.a1 y.a2 y.b0 y.b1 y.b2 y.z0 y.z1) = true := congrArg (fun z => z.2.2) h3
  have he := J_q0 y
  have ho : obOf (J_e0 y.a0 y.a1 y.a2 y.b0 y.b1 y.b2 y.z0 y.z1) = J_r0 y := congrArg (fun z => z.1) h3
  clear h3
  generalize J_e0 y.a0 y.a1 y.a2 y.b0 y.b1 y.b2 y.z0 y.z1 = r at *
  exact calls_way he gfol J_X hv rfl (J_args y) hc ho h hh
def J_w1 (y : LV) : Value := .bool Bool.true
def J_r1 (y : LV) : Prop := (cjD (J_T y) 256 ((cjD (J_T y) 256 (((cjD (J_T y) 256 (((cjD (J_T y) 256 (((cjD (J_T y) 256 ((cjD (J_T y) 256 ((cjD (J_T y) 256 ((cjD (J_T y) 256 ((cjD (J_T y) 256 (((cjD (J_T y) 256 ((cjD (J_T y) 256 ((cjD (J_T y) 256 ((cjD (J_T y) 256 ((cjD (J_T y) 256 (((cjD (J_T y) 256 ((cjD (J_T y) 256 ((cjD (J_T y) 256 (((cjD (J_T y) 256 (((cjD (J_T y) 256 ((cjD (J_T y) 256 ((cjD (J_T y) 256 ((cjD (J_T y) 256 ((cjD (J_T y) 256 ((cjD (J_T y) 256 True 19 0x3f3f3f3e3f3f3f3f3f3c3c3e3a3c3d3a3c3b3a) ∧ (J_c0 y = true)) 9 0x4040403d4040404040) ∧ (J_c1 y = false)) 19 0x3f3f3f3e3f3f3f3f3f3c3c3e3a3c3d3a3c3b3a) ∧ (J_c2 y = true)) 9 0x4040403d4040404040) ∧ (J_c3 y = true)) 9 0x4141413b4141414141) ∧ (J_c4 y = false)) 30 0x3d3c3c3c03020202023d3a3c01000000003b3a423c3c3c3c3c3c3c3d3c3b) ∧ (J_c1 y = false)) ∧ (J_c9 y = false)) 28 0x3b3c3c3c05040404043b3a463c453c3b443c3d433c3c3c3d3a3c3b3a) ∧ (J_c4 y = false)) ∧ (J_c9 y = false)) 33 0x3d3c3c3c03020202023d3a3c01000000003b3a423c453c3b443c3c3c3d3a3c3b3a) ∧ (J_c1 y = false)) 13 0x3b3c3c3c05040404043b3a463c) ∧ (J_c4 y = false)) 73 0x3d3c3c3c09080808083d3a3c07060606063b3a423c3a3c3c3c3c3c3c3c3c3c3c3c3c09080808083d3a3c07060606063b3a423c3c3d3d3b3a3d3a3c3b3b3b3a3b3a3c3c3c3d3a3c3b3a) ∧ (J_c16 y = false)) ∧ (J_c9 y = false)) 21 0x3c3c3c3c3c3c453c3b443c3d433c3c3c3d3a3c3b3a) ∧ (J_c17 y = false)) 21 0x3d3c3c3c03020202023d3a3c01000000003b3a423c) ∧ (J_c1 y = false)) 13 0x3b3c3c3c05040404043b3a463c) ∧ (J_c4 y = false)) 23 0x4040403d404040403c3b3b3b3a473c3c3c3c3d3a3c3b3a) ∧ (J_c1 y = false)) 41 0x3d3c3c3c03020202023d3a3c0b0a0a0a0a3b3a423c3a3c3c3c03020202023d3a3c0b0a0a0a0a3b3a3c) ∧ (J_c1 y = false)) ∧ (J_c9 y = false)) 21 0x3c3c3c3c3c3c453c3b443c3d433c3c3c3d3a3c3b3a) ∧ (J_c20 y = false)) 30 0x3d3c3c3c03020202023d3a3c01000000003b3a423c3c3b3b3a3d3b3d3b3c) ∧ (J_c1 y = false)) 120 0x3d3c3c3c03020202023d3a3c01000000003b3a423c3c3c17161616163c4a3b3a3a3c15141414143c493b3a3a3c13121212123c3e3b3a3a3c11101010103c3d3b3a3a3c0f0e0e0e0e3c3b3b3a3a3c3b3b3a3c3b3c3d3b3a3c3b3c3d3b3a3c3c3c3e3a3c3d3a3c3b3a483c3c3c3c3c3c0d0c0c0c0c3b3a3c3c) ∧ (J_c1 y = false)) 120 0x3d3c3c3c03020202023d3a3c01000000003b3a423c3c3c23222222223c4a3b3a3a3c21202020203c493b3a3a3c1f1e1e1e1e3c3e3b3a3a3c1d1c1c1c1c3c3d3b3a3a3c1b1a1a1a1a3c3b3b3a3a3c3b3b3a3c3b3c3d3b3a3c3b3c3d3b3a3c3c3c3e3a3c3d3a3c3b3a483c3c3c3c3c3c19181818183b3a3c3c) ∧ (J_c1 y = false)) 150 0x3d3c515050503a4f4a4a4a3a4e4949493a4d3e3e3e3a4c3d3d3d3a4b3b3b3b3a3c3c3c3c3c3c3c3c3c3c3c3c3c3c3c3c3c3c3c3c3c2f2e2e2e2e3c4a3b3a3a3c2d2c2c2c2c3c493b3a3a3c2b2a2a2a2a3c3e3b3a3a3c29282828283c3d3b3a3a3c27262626263c3b3b3a3a3c3b3b3a3c3b3c3d3b3a3c3b3c3d3b3a3c3c3c3e3a3c3d3a3c3b3a483c3c3c3c3c3c25242424243b3a3c3c) ∧ (J_c63 y = false)) ∧ (J_c63 y = false)) 1 0x3d) ∧ (J_c63 y = false)) ∧ (J_c63 y = false)) 5 0x3130303030) ∧ (J_c63 y = false)) ∧ (J_c63 y = false)) 35 0x3d3c3c3c03020202023d3a3c01000000003b3a423c3c3c3c31303030303c3c3d3c3c3c) ∧ (J_c1 y = false)) 117 0x3a3a3a3c574a4a3a5649493a553e3e3a543d3d3a533b3b3a3c3a3a3a3a3c3c39383838383c493b3a3a3c37363636363c3e3b3a3a3c35343434343c3d3b3a3a3c33323232323c3b3b3a3a3c3b3b3a3c3b3c3d3b3a3c3b3c3d3b3a3c3c3c3e3a3c3d3a3c3b3a523c3c3c3c3c3c31303030303b3a3c3c)
theorem J_o1 (y : LV) : (obOf (J_e1 y.a0 y.a1 y.a2 y.b0 y.b1 y.b2 y.z0 y.z1), resOf (J_e1 y.a0 y.a1 y.a2 y.b0 y.b1 y.b2 y.z0 y.z1), cleanOf Tryz.prog.globals.size (J_e1 y.a0 y.a1 y.a2 y.b0 y.b1 y.b2 y.z0 y.z1)) = (J_r1 y, J_w1 y, true) := by kernel_rfl
theorem J_q1 (y : LV) : J_e1 y.a0 y.a1 y.a2 y.b0 y.b1 y.b2 y.z0 y.z1 = evFS Tryz.prog x_J 1000 10 #[.agg #[.int .i8 y.a0, .int .i8 y.a1, .int .i8 y.a2], .agg #[.int .i8 y.b0, .int .i8 y.b1, .int .i8 y.b2], .agg #[.int .i8 y.z0, .int .i8 y.z1]] aw3S0 ⟨J_k1, True⟩ := by
  delta J_e1
  exact Eq.refl _
theorem J_p1 (y : LV) (h : J_r1 y) (w : World) (hh : Holds Tryz.prog aw3S0 w) : Calls Tryz.prog 10 #[.agg #[.int .i8 y.a0, .int .i8 y.a1, .int .i8 y.a2], .agg #[.int .i8 y.b0, .int .i8 y.b1, .int .i8 y.b2], .agg #[.int .i8 y.z0, .int .i8 y.z1]] w fun en w' => en = .returned (J_w1 y) ∧ Below w.heap.size w w' := by
  have h3 := J_o1 y
  have hv : resOf (J_e1 y.a0 y.a1 y.a2 y.b0 y.b1 y.b2 y.z0 y.z1) = J_w1 y := congrArg (fun z => z.2.1) h3
  have hc : cleanOf Tryz.prog.globals.size (J_e1 y.a0 y.a1 y.a2 y.b0 y.b1 y.b2 y.z0 y.z1) = true := congrArg (fun z => z.2.2) h3
  have he := J_q1 y
  have ho : obOf (J_e1 y.a0 y.a1 y.a2 y.b0 y.b1 y.b2 y.z0 y.z1) = J_r1 y := congrArg (fun z => z.1) h3
  clear h3
  generalize J_e1 y.a0 y.a1 y.a2 y.b0 y.b1 y.b2 y.z0 y.z1 = r at *
  exact calls_way he gfol J_X hv rfl (J_args y) hc ho h hh
theorem J_y0 (ρ : List Int) : IE.ev ρ (.v 18) = IE.ev ρ (.v 18) := by first | rfl | (simp only [IE.ev]; done) | (simp only [IE.ev]; generalize List.getD ρ 18 0 = v18; grind)
theorem J_y1 (ρ : List Int) : IE.ev ρ (.v 19) = IE.ev ρ (.v 19) := by first | rfl | (simp only [IE.ev]; done) | (simp only [IE.ev]; generalize List.getD ρ 19 0 = v19; grind)
theorem J_y2 (ρ : List Int) : IE.ev ρ J_xq62 = IE.ev ρ J_xq65 := by first | rfl | (simp only [IE.ev]; done) | (simp only [IE.ev]; generalize List.getD ρ 12 0 = v12; generalize List.getD ρ 13 0 = v13; generalize List.getD ρ 15 0 = v15; generalize List.getD ρ 18 0 = v18; generalize List.getD ρ 19 0 = v19; grind)
theorem J_y3 (ρ : List Int) : IE.ev ρ J_xq66 = IE.ev ρ J_xq67 := by first | rfl | (simp only [IE.ev]; done) | (simp only [IE.ev]; generalize List.getD ρ 12 0 = v12; generalize List.getD ρ 13 0 = v13; generalize List.getD ρ 15 0 = v15; generalize List.getD ρ 18 0 = v18; generalize List.getD ρ 19 0 = v19; grind)
theorem J_y4 (ρ : List Int) : IE.ev ρ (.add J_xq63 (.add (.v 12) (.v 15))) = IE.ev ρ J_xq68 := by first | rfl | (simp only [IE.ev]; done) | (simp only [IE.ev]; generalize List.getD ρ 12 0 = v12; generalize List.getD ρ 13 0 = v13; generalize List.getD ρ 15 0 = v15; generalize List.getD ρ 18 0 = v18; generalize List.getD ρ 19 0 = v19; grind)
theorem J_y5 (ρ : List Int) : IE.ev ρ J_xq64 = IE.ev ρ (.add J_xq64 J_xq61) := by first | rfl | (simp only [IE.ev]; done) | (simp only [IE.ev]; generalize List.getD ρ 13 0 = v13; generalize List.getD ρ 18 0 = v18; generalize List.getD ρ 19 0 = v19; grind)
theorem J_t0 (y : LV) (hpre : J_pre y) : (J_c9 y = false) := by
  have hr := (J_hr y hpre)
  have e0 := IE.str_eq hr (.ite .lt (.k (8)) J_xq0 (.k (8)) J_xq0) (.v 18) (.v 18) (.v 18) (J_y0 (LS_R y)) (by kernel_rfl) (by kernel_rfl) (by kernel_rfl) (by kernel_rfl)
  have e1 := IE.str_eq hr (.ite .lt (.k (8)) J_xq1 (.k (8)) J_xq1) (.v 19) (.v 19) (.v 19) (J_y1 (LS_R y)) (by kernel_rfl) (by kernel_rfl) (by kernel_rfl) (by kernel_rfl)
  show (Bool.not (Bool.and (IE.ev (LS_R y) (.ite .lt (.k (8)) J_xq0 (.k (8)) J_xq0) == IE.ev (LS_R y) (.v 18)) (Bool.and (IE.ev (LS_R y) (.ite .lt (.k (8)) J_xq1 (.k (8)) J_xq1) == IE.ev (LS_R y) (.v 19)) true))) = false
  rw [e0, e1]
  first | done | rfl | simp
theorem J_t1 (y : LV) (hpre : J_pre y) (k0 : (J_c1 y = false)) (k1 : (J_c4 y = false)) : (J_c16 y = false) := notT (orF (orF (BE.au_ok (e := (.or (.cm .eq (.v 15) (.k (0))) (.or (.cm .eq (.v 13) (.k (0))) (.not (.cm .eq J_xq3 (.k (0))))))) (by kernel_rfl) (vs := [(13, 2), (15, 1)]) 200 (J_hr y hpre) (by kernel_rfl)) k1) k0)
theorem J_t2 (y : LV) (hpre : J_pre y) : (J_c17 y = false) := by
  have hr := (J_hr y hpre)
  have e0 := IE.str_eq hr J_xq7 J_xq10 J_xq62 J_xq65 (J_y2 (LS_R y)) (by kernel_rfl) (by kernel_rfl) (by kernel_rfl) (by kernel_rfl)
  have e1 := IE.str_eq hr J_xq11 J_xq12 J_xq66 J_xq67 (J_y3 (LS_R y)) (by kernel_rfl) (by kernel_rfl) (by kernel_rfl) (by kernel_rfl)
  show (Bool.not (Bool.and (IE.ev (LS_R y) J_xq7 == IE.ev (LS_R y) J_xq10) (Bool.and (IE.ev (LS_R y) J_xq11 == IE.ev (LS_R y) J_xq12) true))) = false
  rw [e0, e1]
  first | done | rfl | simp
theorem J_t3 (y : LV) (hpre : J_pre y) : (J_c20 y = false) := by
  have hr := (J_hr y hpre)
  have e0 := IE.str_eq hr J_xq13 J_xq14 (.add J_xq63 (.add (.v 12) (.v 15))) J_xq68 (J_y4 (LS_R y)) (by kernel_rfl) (by kernel_rfl) (by kernel_rfl) (by kernel_rfl)
  have e1 := IE.str_eq hr J_xq9 (.wr (.add J_xq9 J_xq5)) J_xq64 (.add J_xq64 J_xq61) (J_y5 (LS_R y)) (by kernel_rfl) (by kernel_rfl) (by kernel_rfl) (by kernel_rfl)
  show (Bool.not (Bool.and (IE.ev (LS_R y) J_xq13 == IE.ev (LS_R y) J_xq14) (Bool.and (IE.ev (LS_R y) J_xq9 == IE.ev (LS_R y) (.wr (.add J_xq9 J_xq5))) true))) = false
  rw [e0, e1]
  first | done | rfl | simp
theorem J_any (y : LV) (hpre : J_pre y) (w : World) (hh : Holds Tryz.prog aw3S0 w) : Calls Tryz.prog 10 #[.agg #[.int .i8 y.a0, .int .i8 y.a1, .int .i8 y.a2], .agg #[.int .i8 y.b0, .int .i8 y.b1, .int .i8 y.b2], .agg #[.int .i8 y.z0, .int .i8 y.z1]] w fun en w' => en = .returned (.bool true) ∧ Below w.heap.size w w' := by
  have hg0 : (J_c0 y = true) := (show J_c0 y = BE.ev (LS_R y) (.cm .eq (.v 14) (.k (0))) by kernel_rfl).trans (beq_iff_eq.2 hpre.2.2.2.2.1)
  have hg1 : (J_c1 y = false) := (show J_c1 y = BE.ev (LS_R y) (.cm .eq (.v 13) (.k (0))) by kernel_rfl).trans (beq_eq_false_iff_ne.2 hpre.2.2.2.2.2.1)
  have hg2 : (J_c2 y = true) := (show J_c2 y = BE.ev (LS_R y) (.cm .eq (.v 17) (.k (0))) by kernel_rfl).trans (beq_iff_eq.2 hpre.2.2.2.2.2.2.1)
  have hg3 : (J_c3 y = true) := (show J_c3 y = BE.ev (LS_R y) (.cm .eq (.v 16) (.k (0))) by kernel_rfl).trans (beq_iff_eq.2 hpre.2.2.2.2.2.2.2.1)
  have hg4 : (J_c4 y = false) := (show J_c4 y = BE.ev (LS_R y) (.cm .eq (.v 15) (.k (0))) by kernel_rfl).trans (beq_eq_false_iff_ne.2 hpre.2.2.2.2.2.2.2.2)
  have h4 := J_t0 y hpre
  have h11 := J_t1 y hpre hg1 hg4
  have h12 := J_t2 y hpre
  have h15 := J_t3 y hpre
  rcases Bool.eq_false_or_eq_true (J_c63 y) with h58 | h58
  ·
    have hp := J_p0 y (cjD_i (J_tT y hpre) (And.intro (And.intro (And.intro (And.intro (And.intro (And.intro (cjD_i (J_tT y hpre) (And.intro (cjD_i (J_tT y hpre) (And.intro (cjD_i (J_tT y hpre) (And.intro (cjD_i (J_tT y hpre) (And.intro (cjD_i (J_tT y hpre) (And.intro (And.intro (cjD_i (J_tT y hpre) (And.intro (cjD_i (J_tT y hpre) (And.intro (cjD_i (J_tT y hpre) (And.intro (cjD_i (J_tT y hpre) (And.intro (cjD_i (J_tT y hpre) (And.intro (And.intro (cjD_i (J_tT y hpre) (And.intro (cjD_i (J_tT y hpre) (And.intro (cjD_i (J_tT y hpre) (And.intro (And.intro (cjD_i (J_tT y hpre) (And.intro (And.intro (cjD_i (J_tT y hpre) (And.intro (cjD_i (J_tT y hpre) (And.intro (cjD_i (J_tT y hpre) (And.intro (cjD_i (J_tT y hpre) (And.intro (cjD_i (J_tT y hpre) (And.intro (cjD_i (J_tT y hpre) trivial) hg0)) hg1)) hg2)) hg3)) hg4)) hg1) h4)) hg4) h4)) hg1)) hg4)) h11) h4)) h12)) hg1)) hg4)) hg1)) hg1) h4)) h15)) hg1)) hg1)) hg1)) h58) h58) h58) h58) h58) h58)) w hh
    have hv : J_w0 y = (.bool true) := by
      clear hp hh
      unfold J_w0
      rfl
    exact hv ▸ hp
  ·
    have hp := J_p1 y (cjD_i (J_tT y hpre) (And.intro (cjD_i (J_tT y hpre) (And.intro (And.intro (cjD_i (J_tT y hpre) (And.intro (And.intro (cjD_i (J_tT y hpre) (And.intro (And.intro (cjD_i (J_tT y hpre) (And.intro (cjD_i (J_tT y hpre) (And.intro (cjD_i (J_tT y hpre) (And.intro (cjD_i (J_tT y hpre) (And.intro (cjD_i (J_tT y hpre) (And.intro (And.intro (cjD_i (J_tT y hpre) (And.intro (cjD_i (J_tT y hpre) (And.intro (cjD_i (J_tT y hpre) (And.intro (cjD_i (J_tT y hpre) (And.intro (cjD_i (J_tT y hpre) (And.intro (And.intro (cjD_i (J_tT y hpre) (And.intro (cjD_i (J_tT y hpre) (And.intro (cjD_i (J_tT y hpre) (And.intro (And.intro (cjD_i (J_tT y hpre) (And.intro (And.intro (cjD_i (J_tT y hpre) (And.intro (cjD_i (J_tT y hpre) (And.intro (cjD_i (J_tT y hpre) (And.intro (cjD_i (J_tT y hpre) (And.intro (cjD_i (J_tT y hpre) (And.intro (cjD_i (J_tT y hpre) trivial) hg0)) hg1)) hg2)) hg3)) hg4)) hg1) h4)) hg4) h4)) hg1)) hg4)) h11) h4)) h12)) hg1)) hg4)) hg1)) hg1) h4)) h15)) hg1)) hg1)) hg1)) h58) h58)) h58) h58)) h58) h58)) hg1)) w hh
    have hv : J_w1 y = (.bool true) := by
      clear hp hh
      unfold J_w1
      rfl
    exact hv ▸ hp
end Go.Proofs.YtbkpnhbcihcgaaaGreatDoor
