/-
  The contract of bipole.bipolelaw03.LoopSums.
-/
import Derived.Test.YtbkpnhbcihcgaaaGreatDoorGU2
import Derived.Test.YtbkpnhbcihcgaaaGreatDoorGU3
import Derived.Test.YtbkpnhbcihcgaaaGreatDoorGU12
set_option linter.all false
set_option maxRecDepth 1000000
set_option maxHeartbeats 2000000
open Go.RowKit
namespace Go.Proofs.YtbkpnhbcihcgaaaGreatDoor
open Mini
def H_at0 (y : Int) : Int := (Int.tmod (IntKind.i64.wrap y) (8 : Int))
abbrev H_xq0 : IE := .ite .gt (.k (-8)) (.v 18) (.k (-8)) (.v 18)
abbrev H_xq1 : IE := .ite .gt (.k (-8)) (.v 19) (.k (-8)) (.v 19)
abbrev H_xq2 : BE := .and (.cm .eq (.ite .lt (.k (8)) H_xq0 (.k (8)) H_xq0) (.v 18)) (.and (.cm .eq (.ite .lt (.k (8)) H_xq1 (.k (8)) H_xq1) (.v 19)) .t)
abbrev H_xq3 : IE := .wr (.add (.k (0)) (.wr (.mul (.v 12) (.v 17))))
abbrev H_xq4 : IE := .wr (.sub (.wr (.mul (.k (0)) (.v 18))) (.wr (.mul (.k (0)) (.v 19))))
abbrev H_xq5 : IE := .wr (.add (.wr (.mul (.k (0)) (.v 19))) (.wr (.mul (.k (0)) (.v 18))))
abbrev H_xq6 : IE := .wr (.add (.k (0)) (.wr (.mul (.v 12) (.v 16))))
abbrev H_xq7 : IE := .wr (.add (.wr (.sub (.wr (.mul (.wr (.add H_xq4 H_xq3)) (.v 18))) (.wr (.mul H_xq5 (.v 19))))) H_xq6)
abbrev H_xq8 : IE := .wr (.add (.wr (.mul (.wr (.add H_xq4 H_xq3)) (.v 19))) (.wr (.mul H_xq5 (.v 18))))
abbrev H_xq9 : IE := .wr (.add (.k (0)) (.wr (.mul (.v 12) (.v 15))))
abbrev H_xq10 : IE := .wr (.add (.wr (.sub (.wr (.mul H_xq7 (.v 18))) (.wr (.mul H_xq8 (.v 19))))) H_xq9)
abbrev H_xq11 : IE := .wr (.add (.wr (.sub (.wr (.mul (.wr (.add H_xq4 (.v 17))) (.v 18))) (.wr (.mul H_xq5 (.v 19))))) (.v 16))
abbrev H_xq12 : IE := .wr (.add (.wr (.mul (.wr (.add H_xq4 (.v 17))) (.v 19))) (.wr (.mul H_xq5 (.v 18))))
abbrev H_xq13 : IE := .wr (.sub (.wr (.mul H_xq11 (.v 18))) (.wr (.mul H_xq12 (.v 19))))
abbrev H_xq14 : IE := .wr (.add (.wr (.mul H_xq11 (.v 19))) (.wr (.mul H_xq12 (.v 18))))
abbrev H_xq15 : IE := .wr (.sub (.wr (.mul (.wr (.add H_xq4 (.v 12))) (.wr (.add H_xq13 (.v 15))))) (.wr (.mul H_xq5 H_xq14)))
abbrev H_xq16 : IE := .wr (.add (.wr (.mul H_xq7 (.v 19))) (.wr (.mul H_xq8 (.v 18))))
abbrev H_xq17 : IE := .wr (.add (.wr (.mul (.wr (.add H_xq4 (.v 12))) H_xq14)) (.wr (.mul H_xq5 (.wr (.add H_xq13 (.v 15))))))
abbrev H_xq18 : IE := .wr (.add H_xq13 (.wr (.add (.v 15) (.v 12))))
abbrev H_xq19 : IE := .wr (.add (.wr (.add H_xq4 (.v 12))) (.wr (.add H_xq13 (.v 15))))
abbrev H_xq20 : IE := .sub (.mul (.k (0)) (.v 18)) (.mul (.k (0)) (.v 19))
abbrev H_xq21 : IE := .add H_xq20 (.add (.k (0)) (.mul (.v 12) (.v 17)))
abbrev H_xq22 : IE := .add (.mul (.k (0)) (.v 19)) (.mul (.k (0)) (.v 18))
abbrev H_xq23 : IE := .add (.sub (.mul H_xq21 (.v 18)) (.mul H_xq22 (.v 19))) (.add (.k (0)) (.mul (.v 12) (.v 16)))
abbrev H_xq24 : IE := .add (.mul H_xq21 (.v 19)) (.mul H_xq22 (.v 18))
abbrev H_xq25 : IE := .add (.sub (.mul H_xq23 (.v 18)) (.mul H_xq24 (.v 19))) (.add (.k (0)) (.mul (.v 12) (.v 15)))
abbrev H_xq26 : IE := .add (.sub (.mul (.add H_xq20 (.v 17)) (.v 18)) (.mul H_xq22 (.v 19))) (.v 16)
abbrev H_xq27 : IE := .add (.mul (.add H_xq20 (.v 17)) (.v 19)) (.mul H_xq22 (.v 18))
abbrev H_xq28 : IE := .sub (.mul H_xq26 (.v 18)) (.mul H_xq27 (.v 19))
abbrev H_xq29 : IE := .add (.mul H_xq26 (.v 19)) (.mul H_xq27 (.v 18))
abbrev H_xq30 : IE := .sub (.mul (.add H_xq20 (.v 12)) (.add H_xq28 (.v 15))) (.mul H_xq22 H_xq29)
abbrev H_xq31 : IE := .add (.mul H_xq23 (.v 19)) (.mul H_xq24 (.v 18))
abbrev H_xq32 : IE := .add (.mul (.add H_xq20 (.v 12)) H_xq29) (.mul H_xq22 (.add H_xq28 (.v 15)))
abbrev H_xq33 : IE := .add (.add H_xq20 (.v 12)) (.add H_xq28 (.v 15))

abbrev H_pre (y : LV) : Prop := (-128 ≤ y.b0 ∧ y.b0 ≤ 127) ∧ (-128 ≤ y.b1 ∧ y.b1 ≤ 127) ∧ (-128 ≤ y.z0 ∧ y.z0 ≤ 127) ∧ (-128 ≤ y.z1 ∧ y.z1 ≤ 127) ∧ ((H_at0 y.a2) = 0) ∧ ((H_at0 y.a1) = 0) ∧ ((H_at0 y.a0) ≠ 0) ∧ ((H_at0 y.b2) ≠ 0)
theorem H_X : FOkS Tryz.prog x_H := bothX_ok (noXS_ok) (tabT_ok (by kernel_rfl) aw3_calls)
theorem H_args (y : LV) : (#[.agg #[.int .i8 y.a0, .int .i8 y.a1, .int .i8 y.a2], .agg #[.int .i8 y.b0, .int .i8 y.b1, .int .i8 y.b2], .agg #[.int .i8 y.z0, .int .i8 y.z1]] : Array Value).toList.all (ground 8) = true := by kernel_rfl
theorem H_hr (y : LV) (hpre : H_pre y) : InR LS_B (LS_R y) := LS_hr y ⟨hpre.1, hpre.2.1, hpre.2.2.1, hpre.2.2.2.1⟩
def H_h0 : Prop := (true = true)
theorem H_g0 : (true = true) := by first | rfl | trivial | decide | omega
def H_h1 : Prop := ((0 : Int) = (0 : Int))
theorem H_g1 : ((0 : Int) = (0 : Int)) := by first | rfl | trivial | decide | omega
def H_h2 : Prop := (false = false)
theorem H_g2 : (false = false) := by first | rfl | trivial | decide | omega
def H_h3 : Prop := ((1 : Int) = (1 : Int))
theorem H_g3 : ((1 : Int) = (1 : Int)) := by first | rfl | trivial | decide | omega
def H_h4 : Prop := ((2 : Int) = (2 : Int))
theorem H_g4 : ((2 : Int) = (2 : Int)) := by first | rfl | trivial | decide | omega
def H_h5 : Prop := ((decide ((3 : Int) > (0 : Int))) = Bool.true)
theorem H_g5 : ((decide ((3 : Int) > (0 : Int))) = Bool.true) := by first | rfl | trivial | decide | omega
def H_c0 (y : LV) : Bool := BE.ev (LS_R y) (.cm .eq (.v 14) (.k (0)))
def H_h7 : Prop := ((decide ((2 : Int) > (0 : Int))) = Bool.true)
theorem H_g7 : ((decide ((2 : Int) > (0 : Int))) = Bool.true) := by first | rfl | trivial | decide | omega
def H_c1 (y : LV) : Bool := BE.ev (LS_R y) (.cm .eq (.v 13) (.k (0)))
def H_h9 : Prop := ((decide ((1 : Int) > (0 : Int))) = Bool.true)
theorem H_g9 : ((decide ((1 : Int) > (0 : Int))) = Bool.true) := by first | rfl | trivial | decide | omega
def H_c2 (y : LV) : Bool := BE.ev (LS_R y) (.cm .eq (.v 12) (.k (0)))
def H_c3 (y : LV) : Bool := BE.ev (LS_R y) (.cm .eq (.v 17) (.k (0)))
def H_h12 : Prop := ((decide ((1 : Int) > (5 : Int))) = Bool.false)
theorem H_g12 : ((decide ((1 : Int) > (5 : Int))) = Bool.false) := by first | rfl | trivial | decide | omega
def H_c6 (y : LV) : Bool := BE.ev (LS_R y) (.not H_xq2)
def H_h16 : Prop := ((decide ((0 : Int) ≥ (0 : Int))) = Bool.true)
theorem H_g16 : ((decide ((0 : Int) ≥ (0 : Int))) = Bool.true) := by first | rfl | trivial | decide | omega
def H_h17 : Prop := ((decide ((-1 : Int) ≥ (0 : Int))) = Bool.false)
theorem H_g17 : ((decide ((-1 : Int) ≥ (0 : Int))) = Bool.false) := by first | rfl | trivial | decide | omega
def H_h18 : Prop := ((decide ((3 : Int) > (5 : Int))) = Bool.false)
theorem H_g18 : ((decide ((3 : Int) > (5 : Int))) = Bool.false) := by first | rfl | trivial | decide | omega
def H_h25 : Prop := ((decide ((2 : Int) ≥ (0 : Int))) = Bool.true)
theorem H_g25 : ((decide ((2 : Int) ≥ (0 : Int))) = Bool.true) := by first | rfl | trivial | decide | omega
def H_h26 : Prop := ((decide ((1 : Int) ≥ (0 : Int))) = Bool.true)
theorem H_g26 : ((decide ((1 : Int) ≥ (0 : Int))) = Bool.true) := by first | rfl | trivial | decide | omega
def H_c19 (y : LV) : Bool := BE.ev (LS_R y) (.cm .eq H_xq3 (.k (0)))
def H_c20 (y : LV) : Bool := BE.ev (LS_R y) (.not (.and (.cm .eq H_xq10 H_xq15) (.and (.cm .eq H_xq16 H_xq17) .t)))
def H_h35 : Prop := ((Bool.false != Bool.false) = Bool.false)
theorem H_g35 : ((Bool.false != Bool.false) = Bool.false) := by first | rfl | trivial | decide | omega
def H_c23 (y : LV) : Bool := BE.ev (LS_R y) (.not (.and (.cm .eq H_xq18 H_xq19) (.and (.cm .eq H_xq14 (.wr (.add H_xq5 H_xq14))) .t)))
def H_L : List (BE × Bool) := [((.cm .lt (.v 12) (.k (-100))), false), ((.cm .gt (.v 12) (.k (100))), false), ((.cm .lt (.v 15) (.k (-100))), false), ((.cm .gt (.v 15) (.k (100))), false), ((.cm .lt (.v 16) (.k (-100))), false), ((.cm .gt (.v 16) (.k (100))), false), ((.cm .lt (.v 17) (.k (-100))), false), ((.cm .gt (.v 17) (.k (100))), false), ((.cm .lt H_xq9 (.k (-100))), false), ((.cm .gt H_xq9 (.k (100))), false), ((.cm .lt H_xq6 (.k (-100))), false), ((.cm .gt H_xq6 (.k (100))), false), ((.cm .lt H_xq3 (.k (-100))), false), ((.cm .gt H_xq3 (.k (100))), false), ((.cm .lt (.wr (.add (.v 15) (.v 12))) (.k (-100))), false), ((.cm .gt (.wr (.add (.v 15) (.v 12))) (.k (100))), false)]
def H_E (y : LV) : List Prop := [H_h0, H_h1, H_h2, H_h3, H_h4, H_h5, H_h7, H_h9, H_h12, H_h16, H_h17, H_h18, H_h25, H_h26, H_h35]
def H_T (y : LV) : Nat → Prop := tabP (LS_R y) H_L 16 (H_E y)
theorem H_tT (y : LV) (hpre : H_pre y) : ∀ i, H_T y i := fun i => tabP_ok (E := H_E y) (H_hr y hpre) (by kernel_rfl) (aC H_g0 (aC H_g1 (aC H_g2 (aC H_g3 (aC H_g4 (aC H_g5 (aC H_g7 (aC H_g9 (aC H_g12 (aC H_g16 (aC H_g17 (aC H_g18 (aC H_g25 (aC H_g26 (aC H_g35 (aN)))))))))))))))) i
def H_w0 (y : LV) : Value := .bool Bool.true
def H_r0 (y : LV) : Prop := (cjD (H_T y) 256 ((cjD (H_T y) 256 (((cjD (H_T y) 256 ((cjD (H_T y) 256 ((cjD (H_T y) 256 ((cjD (H_T y) 256 ((cjD (H_T y) 256 (((cjD (H_T y) 256 ((cjD (H_T y) 256 ((cjD (H_T y) 256 (((cjD (H_T y) 256 (((cjD (H_T y) 256 ((cjD (H_T y) 256 ((cjD (H_T y) 256 ((cjD (H_T y) 256 ((cjD (H_T y) 256 True 19 0x15151514151515151512121410121310121110) ∧ (H_c0 y = true)) 9 0x161616131616161616) ∧ (H_c1 y = true)) 9 0x171717111717171717) ∧ (H_c2 y = false)) 19 0x15151514151515151512121410121310121110) ∧ (H_c3 y = false)) 22 0x11121212010000000011101812121212121212131211) ∧ (H_c2 y = false)) ∧ (H_c6 y = false)) 41 0x1412121207060606061410120504040404131012030202020211101b121a1211191212121310121110) ∧ (H_c3 y = false)) ∧ (H_c6 y = false)) 31 0x111212120100000000111018121a12111912131d12141c1212121310121110) ∧ (H_c2 y = false)) 29 0x1412121207060606061410120504040404131012030202020211101b12) ∧ (H_c3 y = false)) 90 0x141212120d0c0c0c0c1410120b0a0a0a0a131012090808080811101b12101212121212121212121212120d0c0c0c0c1410120b0a0a0a0a131012090808080811101b121214141410131313101111111011101212121310121110) ∧ (H_c19 y = false)) ∧ (H_c6 y = false)) 24 0x1212121212121a12111912131d12141c1212121310121110) ∧ (H_c20 y = false)) 13 0x11121212010000000011101812) ∧ (H_c2 y = false)) 29 0x1412121207060606061410120504040404131012030202020211101b12) ∧ (H_c3 y = false)) 23 0x151515141515151512111111101e101212121310121110) ∧ (H_c3 y = false)) 57 0x14121212070606060614101205040404041310120f0e0e0e0e11101b1210121212070606060614101205040404041310120f0e0e0e0e111012) ∧ (H_c3 y = false)) ∧ (H_c6 y = false)) 24 0x1212121212121a12111912131d12141c1212121310121110) ∧ (H_c23 y = false)) 1 0x10)
theorem H_o0 (y : LV) : (obOf (H_e0 y.a0 y.a1 y.a2 y.b0 y.b1 y.b2 y.z0 y.z1), resOf (H_e0 y.a0 y.a1 y.a2 y.b0 y.b1 y.b2 y.z0 y.z1), cleanOf Tryz.prog.globals.size (H_e0 y.a0 y.a1 y.a2 y.b0 y.b1 y.b2 y.z0 y.z1)) = (H_r0 y, H_w0 y, true) := by kernel_rfl
theorem H_q0 (y : LV) : H_e0 y.a0 y.a1 y.a2 y.b0 y.b1 y.b2 y.z0 y.z1 = evFS Tryz.prog x_H 1000 10 #[.agg #[.int .i8 y.a0, .int .i8 y.a1, .int .i8 y.a2], .agg #[.int .i8 y.b0, .int .i8 y.b1, .int .i8 y.b2], .agg #[.int .i8 y.z0, .int .i8 y.z1]] aw3S0 ⟨H_k0, True⟩ := by
  delta H_e0
  exact Eq.refl _
theorem H_p0 (y : LV) (h : H_r0 y) (w : World) (hh : Holds Tryz.prog aw3S0 w) : Calls Tryz.prog 10 #[.agg #[.int .i8 y.a0, .int .i8 y.a1, .int .i8 y.a2], .agg #[.int .i8 y.b0, .int .i8 y.b1, .int .i8 y.b2], .agg #[.int .i8 y.z0, .int .i8 y.z1]] w fun en w' => en = .returned (H_w0 y) ∧ Below w.heap.size w w' := by
  have h3 := H_o0 y
  have hv : resOf (H_e0 y.a0 y.a1 y.a2 y.b0 y.b1 y.b2 y.z0 y.z1) = H_w0 y := congrArg (fun z => z.2.1) h3
  have hc : cleanOf Tryz.prog.globals.size (H_e0 y.a0 y.a1 y.a2 y.b0 y.b1 y.b2 y.z0 y.z1) = true := congrArg (fun z => z.2.2) h3
  have he := H_q0 y
  have ho : obOf (H_e0 y.a0 y.a1 y.a2 y.b0 y.b1 y.b2 y.z0 y.z1) = H_r0 y := congrArg (fun z => z.1) h3
  clear h3
  generalize H_e0 y.a0 y.a1 y.a2 y.b0 y.b1 y.b2 y.z0 y.z1 = r at *
  exact calls_way he gfol H_X hv rfl (H_args y) hc ho h hh
theorem H_y0 (ρ : List Int) : IE.ev ρ (.v 18) = IE.ev ρ (.v 18) := by first | rfl | (simp only [IE.ev]; done) | (simp only [IE.ev]; generalize List.getD ρ 18 0 = v18; grind)
theorem H_y1 (ρ : List Int) : IE.ev ρ (.v 19) = IE.ev ρ (.v 19) := by first | rfl | (simp only [IE.ev]; done) | (simp only [IE.ev]; generalize List.getD ρ 19 0 = v19; grind)
theorem H_y2 (ρ : List Int) : IE.ev ρ H_xq25 = IE.ev ρ H_xq30 := by first | rfl | (simp only [IE.ev]; done) | (simp only [IE.ev]; generalize List.getD ρ 12 0 = v12; generalize List.getD ρ 15 0 = v15; generalize List.getD ρ 16 0 = v16; generalize List.getD ρ 17 0 = v17; generalize List.getD ρ 18 0 = v18; generalize List.getD ρ 19 0 = v19; grind)
theorem H_y3 (ρ : List Int) : IE.ev ρ H_xq31 = IE.ev ρ H_xq32 := by first | rfl | (simp only [IE.ev]; done) | (simp only [IE.ev]; generalize List.getD ρ 12 0 = v12; generalize List.getD ρ 15 0 = v15; generalize List.getD ρ 16 0 = v16; generalize List.getD ρ 17 0 = v17; generalize List.getD ρ 18 0 = v18; generalize List.getD ρ 19 0 = v19; grind)
theorem H_y4 (ρ : List Int) : IE.ev ρ (.add H_xq28 (.add (.v 15) (.v 12))) = IE.ev ρ H_xq33 := by first | rfl | (simp only [IE.ev]; done) | (simp only [IE.ev]; generalize List.getD ρ 12 0 = v12; generalize List.getD ρ 15 0 = v15; generalize List.getD ρ 16 0 = v16; generalize List.getD ρ 17 0 = v17; generalize List.getD ρ 18 0 = v18; generalize List.getD ρ 19 0 = v19; grind)
theorem H_y5 (ρ : List Int) : IE.ev ρ H_xq29 = IE.ev ρ (.add H_xq22 H_xq29) := by first | rfl | (simp only [IE.ev]; done) | (simp only [IE.ev]; generalize List.getD ρ 16 0 = v16; generalize List.getD ρ 17 0 = v17; generalize List.getD ρ 18 0 = v18; generalize List.getD ρ 19 0 = v19; grind)
theorem H_t0 (y : LV) (hpre : H_pre y) : (H_c6 y = false) := by
  have hr := (H_hr y hpre)
  have e0 := IE.str_eq hr (.ite .lt (.k (8)) H_xq0 (.k (8)) H_xq0) (.v 18) (.v 18) (.v 18) (H_y0 (LS_R y)) (by kernel_rfl) (by kernel_rfl) (by kernel_rfl) (by kernel_rfl)
  have e1 := IE.str_eq hr (.ite .lt (.k (8)) H_xq1 (.k (8)) H_xq1) (.v 19) (.v 19) (.v 19) (H_y1 (LS_R y)) (by kernel_rfl) (by kernel_rfl) (by kernel_rfl) (by kernel_rfl)
  show (Bool.not (Bool.and (IE.ev (LS_R y) (.ite .lt (.k (8)) H_xq0 (.k (8)) H_xq0) == IE.ev (LS_R y) (.v 18)) (Bool.and (IE.ev (LS_R y) (.ite .lt (.k (8)) H_xq1 (.k (8)) H_xq1) == IE.ev (LS_R y) (.v 19)) true))) = false
  rw [e0, e1]
  first | done | rfl | simp
theorem H_t1 (y : LV) (hpre : H_pre y) (k0 : (H_c2 y = false)) (k1 : (H_c3 y = false)) : (H_c19 y = false) := notT (orF (orF (BE.au_ok (e := (.or (.cm .eq (.v 17) (.k (0))) (.or (.cm .eq (.v 12) (.k (0))) (.not (.cm .eq H_xq3 (.k (0))))))) (by kernel_rfl) (vs := [(17, 2), (12, 1)]) 200 (H_hr y hpre) (by kernel_rfl)) k1) k0)
theorem H_t2 (y : LV) (hpre : H_pre y) : (H_c20 y = false) := by
  have hr := (H_hr y hpre)
  have e0 := IE.str_eq hr H_xq10 H_xq15 H_xq25 H_xq30 (H_y2 (LS_R y)) (by kernel_rfl) (by kernel_rfl) (by kernel_rfl) (by kernel_rfl)
  have e1 := IE.str_eq hr H_xq16 H_xq17 H_xq31 H_xq32 (H_y3 (LS_R y)) (by kernel_rfl) (by kernel_rfl) (by kernel_rfl) (by kernel_rfl)
  show (Bool.not (Bool.and (IE.ev (LS_R y) H_xq10 == IE.ev (LS_R y) H_xq15) (Bool.and (IE.ev (LS_R y) H_xq16 == IE.ev (LS_R y) H_xq17) true))) = false
  rw [e0, e1]
  first | done | rfl | simp
theorem H_t3 (y : LV) (hpre : H_pre y) : (H_c23 y = false) := by
  have hr := (H_hr y hpre)
  have e0 := IE.str_eq hr H_xq18 H_xq19 (.add H_xq28 (.add (.v 15) (.v 12))) H_xq33 (H_y4 (LS_R y)) (by kernel_rfl) (by kernel_rfl) (by kernel_rfl) (by kernel_rfl)
  have e1 := IE.str_eq hr H_xq14 (.wr (.add H_xq5 H_xq14)) H_xq29 (.add H_xq22 H_xq29) (H_y5 (LS_R y)) (by kernel_rfl) (by kernel_rfl) (by kernel_rfl) (by kernel_rfl)
  show (Bool.not (Bool.and (IE.ev (LS_R y) H_xq18 == IE.ev (LS_R y) H_xq19) (Bool.and (IE.ev (LS_R y) H_xq14 == IE.ev (LS_R y) (.wr (.add H_xq5 H_xq14))) true))) = false
  rw [e0, e1]
  first | done | rfl | simp
theorem H_any (y : LV) (hpre : H_pre y) (w : World) (hh : Holds Tryz.prog aw3S0 w) : Calls Tryz.prog 10 #[.agg #[.int .i8 y.a0, .int .i8 y.a1, .int .i8 y.a2], .agg #[.int .i8 y.b0, .int .i8 y.b1, .int .i8 y.b2], .agg #[.int .i8 y.z0, .int .i8 y.z1]] w fun en w' => en = .returned (.bool true) ∧ Below w.heap.size w w' := by
  have hg0 : (H_c0 y = true) := (show H_c0 y = BE.ev (LS_R y) (.cm .eq (.v 14) (.k (0))) by kernel_rfl).trans (beq_iff_eq.2 hpre.2.2.2.2.1)
  have hg1 : (H_c1 y = true) := (show H_c1 y = BE.ev (LS_R y) (.cm .eq (.v 13) (.k (0))) by kernel_rfl).trans (beq_iff_eq.2 hpre.2.2.2.2.2.1)
  have hg2 : (H_c2 y = false) := (show H_c2 y = BE.ev (LS_R y) (.cm .eq (.v 12) (.k (0))) by kernel_rfl).trans (beq_eq_false_iff_ne.2 hpre.2.2.2.2.2.2.1)
  have hg3 : (H_c3 y = false) := (show H_c3 y = BE.ev (LS_R y) (.cm .eq (.v 17) (.k (0))) by kernel_rfl).trans (beq_eq_false_iff_ne.2 hpre.2.2.2.2.2.2.2)
  have h2 := H_t0 y hpre
  have h15 := H_t1 y hpre hg2 hg3
  have h16 := H_t2 y hpre
  have h19 := H_t3 y hpre
  have hp := H_p0 y (cjD_i (H_tT y hpre) (And.intro (cjD_i (H_tT y hpre) (And.intro (And.intro (cjD_i (H_tT y hpre) (And.intro (cjD_i (H_tT y hpre) (And.intro (cjD_i (H_tT y hpre) (And.intro (cjD_i (H_tT y hpre) (And.intro (cjD_i (H_tT y hpre) (And.intro (And.intro (cjD_i (H_tT y hpre) (And.intro (cjD_i (H_tT y hpre) (And.intro (cjD_i (H_tT y hpre) (And.intro (And.intro (cjD_i (H_tT y hpre) (And.intro (And.intro (cjD_i (H_tT y hpre) (And.intro (cjD_i (H_tT y hpre) (And.intro (cjD_i (H_tT y hpre) (And.intro (cjD_i (H_tT y hpre) (And.intro (cjD_i (H_tT y hpre) trivial) hg0)) hg1)) hg2)) hg3)) hg2) h2)) hg3) h2)) hg2)) hg3)) h15) h2)) h16)) hg2)) hg3)) hg3)) hg3) h2)) h19)) w hh
  have hv : H_w0 y = (.bool true) := by
    clear hp hh
    unfold H_w0
    rfl
  exact hv ▸ hp
end Go.Proofs.YtbkpnhbcihcgaaaGreatDoor
