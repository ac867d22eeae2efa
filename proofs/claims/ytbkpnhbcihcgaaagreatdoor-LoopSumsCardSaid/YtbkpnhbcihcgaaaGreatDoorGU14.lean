/-
  The contract of bipole.bipolelaw03.LoopSums.
-/
import Derived.Test.YtbkpnhbcihcgaaaGreatDoorGU2
import Derived.Test.YtbkpnhbcihcgaaaGreatDoorGU3
import Derived.Test.YtbkpnhbcihcgaaaGreatDoorGU12
set_option linter.all false
set_option maxRecDepth 1000000
set_option maxHeartbeats 2000000
open Go.RowKit
namespace Go.Proofs.YtbkpnhbcihcgaaaGreatDoor
open Mini
def G_at0 (y : Int) : Int := (Int.tmod (IntKind.i64.wrap y) (8 : Int))
abbrev G_xq0 : IE := .ite .gt (.k (-8)) (.v 18) (.k (-8)) (.v 18)
abbrev G_xq1 : IE := .ite .gt (.k (-8)) (.v 19) (.k (-8)) (.v 19)
abbrev G_xq2 : BE := .and (.cm .eq (.ite .lt (.k (8)) G_xq0 (.k (8)) G_xq0) (.v 18)) (.and (.cm .eq (.ite .lt (.k (8)) G_xq1 (.k (8)) G_xq1) (.v 19)) .t)
abbrev G_xq3 : IE := .wr (.add (.k (0)) (.wr (.mul (.v 12) (.v 16))))
abbrev G_xq4 : IE := .wr (.sub (.wr (.mul (.k (0)) (.v 18))) (.wr (.mul (.k (0)) (.v 19))))
abbrev G_xq5 : IE := .wr (.add (.wr (.mul (.k (0)) (.v 19))) (.wr (.mul (.k (0)) (.v 18))))
abbrev G_xq6 : IE := .wr (.add (.k (0)) (.wr (.mul (.v 12) (.v 15))))
abbrev G_xq7 : IE := .wr (.add (.wr (.sub (.wr (.mul (.wr (.add G_xq4 G_xq3)) (.v 18))) (.wr (.mul G_xq5 (.v 19))))) G_xq6)
abbrev G_xq8 : IE := .wr (.sub (.wr (.mul (.wr (.add G_xq4 (.v 16))) (.v 18))) (.wr (.mul G_xq5 (.v 19))))
abbrev G_xq9 : IE := .wr (.add (.wr (.mul (.wr (.add G_xq4 (.v 16))) (.v 19))) (.wr (.mul G_xq5 (.v 18))))
abbrev G_xq10 : IE := .wr (.sub (.wr (.mul (.wr (.add G_xq4 (.v 12))) (.wr (.add G_xq8 (.v 15))))) (.wr (.mul G_xq5 G_xq9)))
abbrev G_xq11 : IE := .wr (.add (.wr (.mul (.wr (.add G_xq4 G_xq3)) (.v 19))) (.wr (.mul G_xq5 (.v 18))))
abbrev G_xq12 : IE := .wr (.add (.wr (.mul (.wr (.add G_xq4 (.v 12))) G_xq9)) (.wr (.mul G_xq5 (.wr (.add G_xq8 (.v 15))))))
abbrev G_xq13 : IE := .wr (.add G_xq8 (.wr (.add (.v 15) (.v 12))))
abbrev G_xq14 : IE := .wr (.add (.wr (.add G_xq4 (.v 12))) (.wr (.add G_xq8 (.v 15))))
abbrev G_xq15 : IE := .sub (.mul (.k (0)) (.v 18)) (.mul (.k (0)) (.v 19))
abbrev G_xq16 : IE := .add G_xq15 (.add (.k (0)) (.mul (.v 12) (.v 16)))
abbrev G_xq17 : IE := .add (.mul (.k (0)) (.v 19)) (.mul (.k (0)) (.v 18))
abbrev G_xq18 : IE := .add (.sub (.mul G_xq16 (.v 18)) (.mul G_xq17 (.v 19))) (.add (.k (0)) (.mul (.v 12) (.v 15)))
abbrev G_xq19 : IE := .sub (.mul (.add G_xq15 (.v 16)) (.v 18)) (.mul G_xq17 (.v 19))
abbrev G_xq20 : IE := .add (.mul (.add G_xq15 (.v 16)) (.v 19)) (.mul G_xq17 (.v 18))
abbrev G_xq21 : IE := .sub (.mul (.add G_xq15 (.v 12)) (.add G_xq19 (.v 15))) (.mul G_xq17 G_xq20)
abbrev G_xq22 : IE := .add (.mul G_xq16 (.v 19)) (.mul G_xq17 (.v 18))
abbrev G_xq23 : IE := .add (.mul (.add G_xq15 (.v 12)) G_xq20) (.mul G_xq17 (.add G_xq19 (.v 15)))
abbrev G_xq24 : IE := .add (.add G_xq15 (.v 12)) (.add G_xq19 (.v 15))

abbrev G_pre (y : LV) : Prop := (-128 ≤ y.b0 ∧ y.b0 ≤ 127) ∧ (-128 ≤ y.b1 ∧ y.b1 ≤ 127) ∧ (-128 ≤ y.z0 ∧ y.z0 ≤ 127) ∧ (-128 ≤ y.z1 ∧ y.z1 ≤ 127) ∧ ((G_at0 y.a2) = 0) ∧ ((G_at0 y.a1) = 0) ∧ ((G_at0 y.a0) ≠ 0) ∧ ((G_at0 y.b2) = 0) ∧ ((G_at0 y.b1) ≠ 0)
theorem G_X : FOkS Tryz.prog x_G := bothX_ok (noXS_ok) (tabT_ok (by kernel_rfl) aw3_calls)
theorem G_args (y : LV) : (#[.agg #[.int .i8 y.a0, .int .i8 y.a1, .int .i8 y.a2], .agg #[.int .i8 y.b0, .int .i8 y.b1, .int .i8 y.b2], .agg #[.int .i8 y.z0, .int .i8 y.z1]] : Array Value).toList.all (ground 8) = true := by kernel_rfl
theorem G_hr (y : LV) (hpre : G_pre y) : InR LS_B (LS_R y) := LS_hr y ⟨hpre.1, hpre.2.1, hpre.2.2.1, hpre.2.2.2.1⟩
def G_h0 : Prop := (true = true)
theorem G_g0 : (true = true) := by first | rfl | trivial | decide | omega
def G_h1 : Prop := ((0 : Int) = (0 : Int))
theorem G_g1 : ((0 : Int) = (0 : Int)) := by first | rfl | trivial | decide | omega
def G_h2 : Prop := (false = false)
theorem G_g2 : (false = false) := by first | rfl | trivial | decide | omega
def G_h3 : Prop := ((1 : Int) = (1 : Int))
theorem G_g3 : ((1 : Int) = (1 : Int)) := by first | rfl | trivial | decide | omega
def G_h4 : Prop := ((2 : Int) = (2 : Int))
theorem G_g4 : ((2 : Int) = (2 : Int)) := by first | rfl | trivial | decide | omega
def G_h5 : Prop := ((decide ((3 : Int) > (0 : Int))) = Bool.true)
theorem G_g5 : ((decide ((3 : Int) > (0 : Int))) = Bool.true) := by first | rfl | trivial | decide | omega
def G_c0 (y : LV) : Bool := BE.ev (LS_R y) (.cm .eq (.v 14) (.k (0)))
def G_h7 : Prop := ((decide ((2 : Int) > (0 : Int))) = Bool.true)
theorem G_g7 : ((decide ((2 : Int) > (0 : Int))) = Bool.true) := by first | rfl | trivial | decide | omega
def G_c1 (y : LV) : Bool := BE.ev (LS_R y) (.cm .eq (.v 13) (.k (0)))
def G_h9 : Prop := ((decide ((1 : Int) > (0 : Int))) = Bool.true)
theorem G_g9 : ((decide ((1 : Int) > (0 : Int))) = Bool.true) := by first | rfl | trivial | decide | omega
def G_c2 (y : LV) : Bool := BE.ev (LS_R y) (.cm .eq (.v 12) (.k (0)))
def G_c3 (y : LV) : Bool := BE.ev (LS_R y) (.cm .eq (.v 17) (.k (0)))
def G_c4 (y : LV) : Bool := BE.ev (LS_R y) (.cm .eq (.v 16) (.k (0)))
def G_h13 : Prop := ((decide ((1 : Int) > (5 : Int))) = Bool.false)
theorem G_g13 : ((decide ((1 : Int) > (5 : Int))) = Bool.false) := by first | rfl | trivial | decide | omega
def G_c7 (y : LV) : Bool := BE.ev (LS_R y) (.not G_xq2)
def G_h17 : Prop := ((decide ((0 : Int) ≥ (0 : Int))) = Bool.true)
theorem G_g17 : ((decide ((0 : Int) ≥ (0 : Int))) = Bool.true) := by first | rfl | trivial | decide | omega
def G_h18 : Prop := ((decide ((-1 : Int) ≥ (0 : Int))) = Bool.false)
theorem G_g18 : ((decide ((-1 : Int) ≥ (0 : Int))) = Bool.false) := by first | rfl | trivial | decide | omega
def G_h19 : Prop := ((decide ((2 : Int) > (5 : Int))) = Bool.false)
theorem G_g19 : ((decide ((2 : Int) > (5 : Int))) = Bool.false) := by first | rfl | trivial | decide | omega
def G_h24 : Prop := ((decide ((1 : Int) ≥ (0 : Int))) = Bool.true)
theorem G_g24 : ((decide ((1 : Int) ≥ (0 : Int))) = Bool.true) := by first | rfl | trivial | decide | omega
def G_c16 (y : LV) : Bool := BE.ev (LS_R y) (.cm .eq G_xq3 (.k (0)))
def G_c17 (y : LV) : Bool := BE.ev (LS_R y) (.not (.and (.cm .eq G_xq7 G_xq10) (.and (.cm .eq G_xq11 G_xq12) .t)))
def G_h31 : Prop := ((Bool.false != Bool.false) = Bool.false)
theorem G_g31 : ((Bool.false != Bool.false) = Bool.false) := by first | rfl | trivial | decide | omega
def G_c20 (y : LV) : Bool := BE.ev (LS_R y) (.not (.and (.cm .eq G_xq13 G_xq14) (.and (.cm .eq G_xq9 (.wr (.add G_xq5 G_xq9))) .t)))
def G_L : List (BE × Bool) := [((.cm .lt (.v 12) (.k (-100))), false), ((.cm .gt (.v 12) (.k (100))), false), ((.cm .lt (.v 15) (.k (-100))), false), ((.cm .gt (.v 15) (.k (100))), false), ((.cm .lt (.v 16) (.k (-100))), false), ((.cm .gt (.v 16) (.k (100))), false), ((.cm .lt G_xq6 (.k (-100))), false), ((.cm .gt G_xq6 (.k (100))), false), ((.cm .lt G_xq3 (.k (-100))), false), ((.cm .gt G_xq3 (.k (100))), false), ((.cm .lt (.wr (.add (.v 15) (.v 12))) (.k (-100))), false), ((.cm .gt (.wr (.add (.v 15) (.v 12))) (.k (100))), false)]
def G_E (y : LV) : List Prop := [G_h0, G_h1, G_h2, G_h3, G_h4, G_h5, G_h7, G_h9, G_h13, G_h17, G_h18, G_h19, G_h24, G_h31]
def G_T (y : LV) : Nat → Prop := tabP (LS_R y) G_L 12 (G_E y)
theorem G_tT (y : LV) (hpre : G_pre y) : ∀ i, G_T y i := fun i => tabP_ok (E := G_E y) (G_hr y hpre) (by kernel_rfl) (aC G_g0 (aC G_g1 (aC G_g2 (aC G_g3 (aC G_g4 (aC G_g5 (aC G_g7 (aC G_g9 (aC G_g13 (aC G_g17 (aC G_g18 (aC G_g19 (aC G_g24 (aC G_g31 (aN))))))))))))))) i
def G_w0 (y : LV) : Value := .bool Bool.true
def G_r0 (y : LV) : Prop := (cjD (G_T y) 256 ((cjD (G_T y) 256 (((cjD (G_T y) 256 ((cjD (G_T y) 256 ((cjD (G_T y) 256 ((cjD (G_T y) 256 ((cjD (G_T y) 256 (((cjD (G_T y) 256 ((cjD (G_T y) 256 ((cjD (G_T y) 256 (((cjD (G_T y) 256 (((cjD (G_T y) 256 ((cjD (G_T y) 256 ((cjD (G_T y) 256 ((cjD (G_T y) 256 ((cjD (G_T y) 256 ((cjD (G_T y) 256 True 19 0x1111111011111111110e0e100c0e0f0c0e0d0c) ∧ (G_c0 y = true)) 9 0x1212120f1212121212) ∧ (G_c1 y = true)) 9 0x1313130d1313131313) ∧ (G_c2 y = false)) 19 0x1111111011111111110e0e100c0e0f0c0e0d0c) ∧ (G_c3 y = true)) 9 0x1212120f1212121212) ∧ (G_c4 y = false)) 22 0xd0e0e0e01000000000d0c140e0e0e0e0e0e0e0f0e0d) ∧ (G_c2 y = false)) ∧ (G_c7 y = false)) 33 0xf0e0e0e05040404040f0c0e03020202020d0c170e160e0d150e0e0e0f0c0e0d0c) ∧ (G_c4 y = false)) ∧ (G_c7 y = false)) 28 0xd0e0e0e01000000000d0c140e160e0d150e0f180e0e0e0f0c0e0d0c) ∧ (G_c2 y = false)) 21 0xf0e0e0e05040404040f0c0e03020202020d0c170e) ∧ (G_c4 y = false)) 70 0xf0e0e0e09080808080f0c0e07060606060d0c170e0c0e0e0e0e0e0e0e0e0e0e0e0e09080808080f0c0e07060606060d0c170e0e0f0f0f0c0d0d0d0c0d0c0e0e0e0f0c0e0d0c) ∧ (G_c16 y = false)) ∧ (G_c7 y = false)) 21 0xe0e0e0e0e0e160e0d150e0f180e0e0e0f0c0e0d0c) ∧ (G_c17 y = false)) 13 0xd0e0e0e01000000000d0c140e) ∧ (G_c2 y = false)) 21 0xf0e0e0e05040404040f0c0e03020202020d0c170e) ∧ (G_c4 y = false)) 23 0x1212120f121212120e0d0d0d0c190c0e0e0e0f0c0e0d0c) ∧ (G_c4 y = false)) 41 0xf0e0e0e05040404040f0c0e0b0a0a0a0a0d0c170e0c0e0e0e05040404040f0c0e0b0a0a0a0a0d0c0e) ∧ (G_c4 y = false)) ∧ (G_c7 y = false)) 21 0xe0e0e0e0e0e160e0d150e0f180e0e0e0f0c0e0d0c) ∧ (G_c20 y = false)) 1 0xc)
theorem G_o0 (y : LV) : (obOf (G_e0 y.a0 y.a1 y.a2 y.b0 y.b1 y.b2 y.z0 y.z1), resOf (G_e0 y.a0 y.a1 y.a2 y.b0 y.b1 y.b2 y.z0 y.z1), cleanOf Tryz.prog.globals.size (G_e0 y.a0 y.a1 y.a2 y.b0 y.b1 y.b2 y.z0 y.z1)) = (G_r0 y, G_w0 y, true) := by kernel_rfl
theorem G_q0 (y : LV) : G_e0 y.a0 y.a1 y.a2 y.b0 y.b1 y.b2 y.z0 y.z1 = evFS Tryz.prog x_G 1000 10 #[.agg #[.int .i8 y.a0, .int .i8 y.a1, .int .i8 y.a2], .agg #[.int .i8 y.b0, .int .i8 y.b1, .int .i8 y.b2], .agg #[.int .i8 y.z0, .int .i8 y.z1]] aw3S0 ⟨G_k0, True⟩ := by
  delta G_e0
  exact Eq.refl _
theorem G_p0 (y : LV) (h : G_r0 y) (w : World) (hh : Holds Tryz.prog aw3S0 w) : Calls Tryz.prog 10 #[.agg #[.int .i8 y.a0, .int .i8 y.a1, .int .i8 y.a2], .agg #[.int .i8 y.b0, .int .i8 y.b1, .int .i8 y.b2], .agg #[.int .i8 y.z0, .int .i8 y.z1]] w fun en w' => en = .returned (G_w0 y) ∧ Below w.heap.size w w' := by
  have h3 := G_o0 y
  have hv : resOf (G_e0 y.a0 y.a1 y.a2 y.b0 y.b1 y.b2 y.z0 y.z1) = G_w0 y := congrArg (fun z => z.2.1) h3
  have hc : cleanOf Tryz.prog.globals.size (G_e0 y.a0 y.a1 y.a2 y.b0 y.b1 y.b2 y.z0 y.z1) = true := congrArg (fun z => z.2.2) h3
  have he := G_q0 y
  have ho : obOf (G_e0 y.a0 y.a1 y.a2 y.b0 y.b1 y.b2 y.z0 y.z1) = G_r0 y := congrArg (fun z => z.1) h3
  clear h3
  generalize G_e0 y.a0 y.a1 y.a2 y.b0 y.b1 y.b2 y.z0 y.z1 = r at *
  exact calls_way he gfol G_X hv rfl (G_args y) hc ho h hh
theorem G_y0 (ρ : List Int) : IE.ev ρ (.v 18) = IE.ev ρ (.v 18) := by first | rfl | (simp only [IE.ev]; done) | (simp only [IE.ev]; generalize List.getD ρ 18 0 = v18; grind)
theorem G_y1 (ρ : List Int) : IE.ev ρ (.v 19) = IE.ev ρ (.v 19) := by first | rfl | (simp only [IE.ev]; done) | (simp only [IE.ev]; generalize List.getD ρ 19 0 = v19; grind)
theorem G_y2 (ρ : List Int) : IE.ev ρ G_xq18 = IE.ev ρ G_xq21 := by first | rfl | (simp only [IE.ev]; done) | (simp only [IE.ev]; generalize List.getD ρ 12 0 = v12; generalize List.getD ρ 15 0 = v15; generalize List.getD ρ 16 0 = v16; generalize List.getD ρ 18 0 = v18; generalize List.getD ρ 19 0 = v19; grind)
theorem G_y3 (ρ : List Int) : IE.ev ρ G_xq22 = IE.ev ρ G_xq23 := by first | rfl | (simp only [IE.ev]; done) | (simp only [IE.ev]; generalize List.getD ρ 12 0 = v12; generalize List.getD ρ 15 0 = v15; generalize List.getD ρ 16 0 = v16; generalize List.getD ρ 18 0 = v18; generalize List.getD ρ 19 0 = v19; grind)
theorem G_y4 (ρ : List Int) : IE.ev ρ (.add G_xq19 (.add (.v 15) (.v 12))) = IE.ev ρ G_xq24 := by first | rfl | (simp only [IE.ev]; done) | (simp only [IE.ev]; generalize List.getD ρ 12 0 = v12; generalize List.getD ρ 15 0 = v15; generalize List.getD ρ 16 0 = v16; generalize List.getD ρ 18 0 = v18; generalize List.getD ρ 19 0 = v19; grind)
theorem G_y5 (ρ : List Int) : IE.ev ρ G_xq20 = IE.ev ρ (.add G_xq17 G_xq20) := by first | rfl | (simp only [IE.ev]; done) | (simp only [IE.ev]; generalize List.getD ρ 16 0 = v16; generalize List.getD ρ 18 0 = v18; generalize List.getD ρ 19 0 = v19; grind)
theorem G_t0 (y : LV) (hpre : G_pre y) : (G_c7 y = false) := by
  have hr := (G_hr y hpre)
  have e0 := IE.str_eq hr (.ite .lt (.k (8)) G_xq0 (.k (8)) G_xq0) (.v 18) (.v 18) (.v 18) (G_y0 (LS_R y)) (by kernel_rfl) (by kernel_rfl) (by kernel_rfl) (by kernel_rfl)
  have e1 := IE.str_eq hr (.ite .lt (.k (8)) G_xq1 (.k (8)) G_xq1) (.v 19) (.v 19) (.v 19) (G_y1 (LS_R y)) (by kernel_rfl) (by kernel_rfl) (by kernel_rfl) (by kernel_rfl)
  show (Bool.not (Bool.and (IE.ev (LS_R y) (.ite .lt (.k (8)) G_xq0 (.k (8)) G_xq0) == IE.ev (LS_R y) (.v 18)) (Bool.and (IE.ev (LS_R y) (.ite .lt (.k (8)) G_xq1 (.k (8)) G_xq1) == IE.ev (LS_R y) (.v 19)) true))) = false
  rw [e0, e1]
  first | done | rfl | simp
theorem G_t1 (y : LV) (hpre : G_pre y) (k0 : (G_c2 y = false)) (k1 : (G_c4 y = false)) : (G_c16 y = false) := notT (orF (orF (BE.au_ok (e := (.or (.cm .eq (.v 16) (.k (0))) (.or (.cm .eq (.v 12) (.k (0))) (.not (.cm .eq G_xq3 (.k (0))))))) (by kernel_rfl) (vs := [(16, 2), (12, 1)]) 200 (G_hr y hpre) (by kernel_rfl)) k1) k0)
theorem G_t2 (y : LV) (hpre : G_pre y) : (G_c17 y = false) := by
  have hr := (G_hr y hpre)
  have e0 := IE.str_eq hr G_xq7 G_xq10 G_xq18 G_xq21 (G_y2 (LS_R y)) (by kernel_rfl) (by kernel_rfl) (by kernel_rfl) (by kernel_rfl)
  have e1 := IE.str_eq hr G_xq11 G_xq12 G_xq22 G_xq23 (G_y3 (LS_R y)) (by kernel_rfl) (by kernel_rfl) (by kernel_rfl) (by kernel_rfl)
  show (Bool.not (Bool.and (IE.ev (LS_R y) G_xq7 == IE.ev (LS_R y) G_xq10) (Bool.and (IE.ev (LS_R y) G_xq11 == IE.ev (LS_R y) G_xq12) true))) = false
  rw [e0, e1]
  first | done | rfl | simp
theorem G_t3 (y : LV) (hpre : G_pre y) : (G_c20 y = false) := by
  have hr := (G_hr y hpre)
  have e0 := IE.str_eq hr G_xq13 G_xq14 (.add G_xq19 (.add (.v 15) (.v 12))) G_xq24 (G_y4 (LS_R y)) (by kernel_rfl) (by kernel_rfl) (by kernel_rfl) (by kernel_rfl)
  have e1 := IE.str_eq hr G_xq9 (.wr (.add G_xq5 G_xq9)) G_xq20 (.add G_xq17 G_xq20) (G_y5 (LS_R y)) (by kernel_rfl) (by kernel_rfl) (by kernel_rfl) (by kernel_rfl)
  show (Bool.not (Bool.and (IE.ev (LS_R y) G_xq13 == IE.ev (LS_R y) G_xq14) (Bool.and (IE.ev (LS_R y) G_xq9 == IE.ev (LS_R y) (.wr (.add G_xq5 G_xq9))) true))) = false
  rw [e0, e1]
  first | done | rfl | simp
theorem G_any (y : LV) (hpre : G_pre y) (w : World) (hh : Holds Tryz.prog aw3S0 w) : Calls Tryz.prog 10 #[.agg #[.int .i8 y.a0, .int .i8 y.a1, .int .i8 y.a2], .agg #[.int .i8 y.b0, .int .i8 y.b1, .int .i8 y.b2], .agg #[.int .i8 y.z0, .int .i8 y.z1]] w fun en w' => en = .returned (.bool true) ∧ Below w.heap.size w w' := by
  have hg0 : (G_c0 y = true) := (show G_c0 y = BE.ev (LS_R y) (.cm .eq (.v 14) (.k (0))) by kernel_rfl).trans (beq_iff_eq.2 hpre.2.2.2.2.1)
  have hg1 : (G_c1 y = true) := (show G_c1 y = BE.ev (LS_R y) (.cm .eq (.v 13) (.k (0))) by kernel_rfl).trans (beq_iff_eq.2 hpre.2.2.2.2.2.1)
  have hg2 : (G_c2 y = false) := (show G_c2 y = BE.ev (LS_R y) (.cm .eq (.v 12) (.k (0))) by kernel_rfl).trans (beq_eq_false_iff_ne.2 hpre.2.2.2.2.2.2.1)
  have hg3 : (G_c3 y = true) := (show G_c3 y = BE.ev (LS_R y) (.cm .eq (.v 17) (.k (0))) by kernel_rfl).trans (beq_iff_eq.2 hpre.2.2.2.2.2.2.2.1)
  have hg4 : (G_c4 y = false) := (show G_c4 y = BE.ev (LS_R y) (.cm .eq (.v 16) (.k (0))) by kernel_rfl).trans (beq_eq_false_iff_ne.2 hpre.2.2.2.2.2.2.2.2)
  have h2 := G_t0 y hpre
  have h11 := G_t1 y hpre hg2 hg4
  have h12 := G_t2 y hpre
  have h15 := G_t3 y hpre
  have hp := G_p0 y (cjD_i (G_tT y hpre) (And.intro (cjD_i (G_tT y hpre) (And.intro (And.intro (cjD_i (G_tT y hpre) (And.intro (cjD_i (G_tT y hpre) (And.intro (cjD_i (G_tT y hpre) (And.intro (cjD_i (G_tT y hpre) (And.intro (cjD_i (G_tT y hpre) (And.intro (And.intro (cjD_i (G_tT y hpre) (And.intro (cjD_i (G_tT y hpre) (And.intro (cjD_i (G_tT y hpre) (And.intro (And.intro (cjD_i (G_tT y hpre) (And.intro (And.intro (cjD_i (G_tT y hpre) (And.intro (cjD_i (G_tT y hpre) (And.intro (cjD_i (G_tT y hpre) (And.intro (cjD_i (G_tT y hpre) (And.intro (cjD_i (G_tT y hpre) (And.intro (cjD_i (G_tT y hpre) trivial) hg0)) hg1)) hg2)) hg3)) hg4)) hg2) h2)) hg4) h2)) hg2)) hg4)) h11) h2)) h12)) hg2)) hg4)) hg4)) hg4) h2)) h15)) w hh
  have hv : G_w0 y = (.bool true) := by
    clear hp hh
    unfold G_w0
    rfl
  exact hv ▸ hp
end Go.Proofs.YtbkpnhbcihcgaaaGreatDoor
