/-
  The contract of bipole.bipolelaw03.LoopSums.
-/
import Derived.Test.YtbkpnhbcihcgaaaGreatDoorGU2
import Derived.Test.YtbkpnhbcihcgaaaGreatDoorGU3
import Derived.Test.YtbkpnhbcihcgaaaGreatDoorGU12
set_option linter.all false
set_option maxRecDepth 1000000
set_option maxHeartbeats 2000000
open Go.RowKit
namespace Go.Proofs.YtbkpnhbcihcgaaaGreatDoor
open Mini
def F_at0 (y : Int) : Int := (Int.tmod (IntKind.i64.wrap y) (8 : Int))
abbrev F_xq0 : IE := .ite .gt (.k (-8)) (.v 18) (.k (-8)) (.v 18)
abbrev F_xq1 : IE := .ite .gt (.k (-8)) (.v 19) (.k (-8)) (.v 19)
abbrev F_xq2 : BE := .and (.cm .eq (.ite .lt (.k (8)) F_xq0 (.k (8)) F_xq0) (.v 18)) (.and (.cm .eq (.ite .lt (.k (8)) F_xq1 (.k (8)) F_xq1) (.v 19)) .t)
abbrev F_xq3 : IE := .wr (.add (.k (0)) (.wr (.mul (.v 12) (.v 15))))
abbrev F_xq4 : IE := .wr (.sub (.wr (.mul (.k (0)) (.v 18))) (.wr (.mul (.k (0)) (.v 19))))
abbrev F_xq5 : IE := .wr (.add (.wr (.mul (.k (0)) (.v 19))) (.wr (.mul (.k (0)) (.v 18))))
abbrev F_xq6 : IE := .wr (.sub (.wr (.mul (.wr (.add F_xq4 (.v 12))) (.wr (.add F_xq4 (.v 15))))) (.wr (.mul F_xq5 F_xq5)))
abbrev F_xq7 : IE := .wr (.add (.wr (.mul (.wr (.add F_xq4 (.v 12))) F_xq5)) (.wr (.mul F_xq5 (.wr (.add F_xq4 (.v 15))))))
abbrev F_xq8 : IE := .wr (.add F_xq4 (.wr (.add (.v 12) (.v 15))))
abbrev F_xq9 : IE := .wr (.add (.wr (.add F_xq4 (.v 12))) (.wr (.add F_xq4 (.v 15))))
abbrev F_xq10 : IE := .sub (.mul (.k (0)) (.v 18)) (.mul (.k (0)) (.v 19))
abbrev F_xq11 : IE := .add F_xq10 (.add (.k (0)) (.mul (.v 12) (.v 15)))
abbrev F_xq12 : IE := .add (.mul (.k (0)) (.v 19)) (.mul (.k (0)) (.v 18))
abbrev F_xq13 : IE := .sub (.mul (.add F_xq10 (.v 12)) (.add F_xq10 (.v 15))) (.mul F_xq12 F_xq12)
abbrev F_xq14 : IE := .add (.mul (.add F_xq10 (.v 12)) F_xq12) (.mul F_xq12 (.add F_xq10 (.v 15)))
abbrev F_xq15 : IE := .add (.add F_xq10 (.v 12)) (.add F_xq10 (.v 15))

abbrev F_pre (y : LV) : Prop := (-128 ≤ y.b0 ∧ y.b0 ≤ 127) ∧ (-128 ≤ y.b1 ∧ y.b1 ≤ 127) ∧ (-128 ≤ y.z0 ∧ y.z0 ≤ 127) ∧ (-128 ≤ y.z1 ∧ y.z1 ≤ 127) ∧ ((F_at0 y.a2) = 0) ∧ ((F_at0 y.a1) = 0) ∧ ((F_at0 y.a0) ≠ 0) ∧ ((F_at0 y.b2) = 0) ∧ ((F_at0 y.b1) = 0) ∧ ((F_at0 y.b0) ≠ 0)
theorem F_X : FOkS Tryz.prog x_F := bothX_ok (noXS_ok) (tabT_ok (by kernel_rfl) aw3_calls)
theorem F_args (y : LV) : (#[.agg #[.int .i8 y.a0, .int .i8 y.a1, .int .i8 y.a2], .agg #[.int .i8 y.b0, .int .i8 y.b1, .int .i8 y.b2], .agg #[.int .i8 y.z0, .int .i8 y.z1]] : Array Value).toList.all (ground 8) = true := by kernel_rfl
theorem F_hr (y : LV) (hpre : F_pre y) : InR LS_B (LS_R y) := LS_hr y ⟨hpre.1, hpre.2.1, hpre.2.2.1, hpre.2.2.2.1⟩
def F_h0 : Prop := (true = true)
theorem F_g0 : (true = true) := by first | rfl | trivial | decide | omega
def F_h1 : Prop := ((0 : Int) = (0 : Int))
theorem F_g1 : ((0 : Int) = (0 : Int)) := by first | rfl | trivial | decide | omega
def F_h2 : Prop := (false = false)
theorem F_g2 : (false = false) := by first | rfl | trivial | decide | omega
def F_h3 : Prop := ((1 : Int) = (1 : Int))
theorem F_g3 : ((1 : Int) = (1 : Int)) := by first | rfl | trivial | decide | omega
def F_h4 : Prop := ((2 : Int) = (2 : Int))
theorem F_g4 : ((2 : Int) = (2 : Int)) := by first | rfl | trivial | decide | omega
def F_h5 : Prop := ((decide ((3 : Int) > (0 : Int))) = Bool.true)
theorem F_g5 : ((decide ((3 : Int) > (0 : Int))) = Bool.true) := by first | rfl | trivial | decide | omega
def F_c0 (y : LV) : Bool := BE.ev (LS_R y) (.cm .eq (.v 14) (.k (0)))
def F_h7 : Prop := ((decide ((2 : Int) > (0 : Int))) = Bool.true)
theorem F_g7 : ((decide ((2 : Int) > (0 : Int))) = Bool.true) := by first | rfl | trivial | decide | omega
def F_c1 (y : LV) : Bool := BE.ev (LS_R y) (.cm .eq (.v 13) (.k (0)))
def F_h9 : Prop := ((decide ((1 : Int) > (0 : Int))) = Bool.true)
theorem F_g9 : ((decide ((1 : Int) > (0 : Int))) = Bool.true) := by first | rfl | trivial | decide | omega
def F_c2 (y : LV) : Bool := BE.ev (LS_R y) (.cm .eq (.v 12) (.k (0)))
def F_c3 (y : LV) : Bool := BE.ev (LS_R y) (.cm .eq (.v 17) (.k (0)))
def F_c4 (y : LV) : Bool := BE.ev (LS_R y) (.cm .eq (.v 16) (.k (0)))
def F_c5 (y : LV) : Bool := BE.ev (LS_R y) (.cm .eq (.v 15) (.k (0)))
def F_h14 : Prop := ((decide ((1 : Int) > (5 : Int))) = Bool.false)
theorem F_g14 : ((decide ((1 : Int) > (5 : Int))) = Bool.false) := by first | rfl | trivial | decide | omega
def F_c8 (y : LV) : Bool := BE.ev (LS_R y) (.not F_xq2)
def F_h18 : Prop := ((decide ((0 : Int) ≥ (0 : Int))) = Bool.true)
theorem F_g18 : ((decide ((0 : Int) ≥ (0 : Int))) = Bool.true) := by first | rfl | trivial | decide | omega
def F_h19 : Prop := ((decide ((-1 : Int) ≥ (0 : Int))) = Bool.false)
theorem F_g19 : ((decide ((-1 : Int) ≥ (0 : Int))) = Bool.false) := by first | rfl | trivial | decide | omega
def F_c13 (y : LV) : Bool := BE.ev (LS_R y) (.cm .eq F_xq3 (.k (0)))
def F_c14 (y : LV) : Bool := BE.ev (LS_R y) (.not (.and (.cm .eq (.wr (.add F_xq4 F_xq3)) F_xq6) (.and (.cm .eq F_xq5 F_xq7) .t)))
def F_h26 : Prop := ((Bool.false != Bool.false) = Bool.false)
theorem F_g26 : ((Bool.false != Bool.false) = Bool.false) := by first | rfl | trivial | decide | omega
def F_c15 (y : LV) : Bool := BE.ev (LS_R y) (.cm .eq (.wr (.add (.v 12) (.v 15))) (.k (0)))
def F_c18 (y : LV) : Bool := BE.ev (LS_R y) (.not (.and (.cm .eq F_xq8 F_xq9) (.and (.cm .eq F_xq5 (.wr (.add F_xq5 F_xq5))) .t)))
def F_h32 : Prop := ((decide ((0 : Int) > (0 : Int))) = Bool.false)
theorem F_g32 : ((decide ((0 : Int) > (0 : Int))) = Bool.false) := by first | rfl | trivial | decide | omega
def F_c19 (y : LV) : Bool := BE.ev (LS_R y) (.not (.and (.cm .eq F_xq9 (.k (0))) (.and (.cm .eq (.wr (.add F_xq5 F_xq5)) (.k (0))) .t)))
def F_L : List (BE × Bool) := [((.cm .lt (.v 12) (.k (-100))), false), ((.cm .gt (.v 12) (.k (100))), false), ((.cm .lt (.v 15) (.k (-100))), false), ((.cm .gt (.v 15) (.k (100))), false), ((.cm .lt F_xq3 (.k (-100))), false), ((.cm .gt F_xq3 (.k (100))), false), ((.cm .lt (.wr (.add (.v 12) (.v 15))) (.k (-100))), false), ((.cm .gt (.wr (.add (.v 12) (.v 15))) (.k (100))), false)]
def F_E (y : LV) : List Prop := [F_h0, F_h1, F_h2, F_h3, F_h4, F_h5, F_h7, F_h9, F_h14, F_h18, F_h19, F_h26, F_h32]
def F_T (y : LV) : Nat → Prop := tabP (LS_R y) F_L 8 (F_E y)
theorem F_tT (y : LV) (hpre : F_pre y) : ∀ i, F_T y i := fun i => tabP_ok (E := F_E y) (F_hr y hpre) (by kernel_rfl) (aC F_g0 (aC F_g1 (aC F_g2 (aC F_g3 (aC F_g4 (aC F_g5 (aC F_g7 (aC F_g9 (aC F_g14 (aC F_g18 (aC F_g19 (aC F_g26 (aC F_g32 (aN)))))))))))))) i
def F_w0 (y : LV) : Value := .bool Bool.true
def F_r0 (y : LV) : Prop := (cjD (F_T y) 256 ((cjD (F_T y) 256 (((cjD (F_T y) 256 ((cjD (F_T y) 256 ((cjD (F_T y) 256 ((cjD (F_T y) 256 ((cjD (F_T y) 256 (((cjD (F_T y) 256 ((cjD (F_T y) 256 ((cjD (F_T y) 256 (((cjD (F_T y) 256 (((cjD (F_T y) 256 ((cjD (F_T y) 256 ((cjD (F_T y) 256 ((cjD (F_T y) 256 ((cjD (F_T y) 256 ((cjD (F_T y) 256 ((cjD (F_T y) 256 True 19 0xd0d0d0c0d0d0d0d0d0a0a0c080a0b080a0908) ∧ (F_c0 y = true)) 9 0xe0e0e0b0e0e0e0e0e) ∧ (F_c1 y = true)) 9 0xf0f0f090f0f0f0f0f) ∧ (F_c2 y = false)) 19 0xd0d0d0c0d0d0d0d0d0a0a0c080a0b080a0908) ∧ (F_c3 y = true)) 9 0xe0e0e0b0e0e0e0e0e) ∧ (F_c4 y = true)) 9 0xf0f0f090f0f0f0f0f) ∧ (F_c5 y = false)) 22 0x90a0a0a01000000000908100a0a0a0a0a0a0a0b0a09) ∧ (F_c2 y = false)) ∧ (F_c8 y = false)) 25 0x90a0a0a03020202020908100a120a09110a0a0a0b080a0908) ∧ (F_c5 y = false)) ∧ (F_c8 y = false)) 25 0x90a0a0a01000000000908100a120a09110a0a0a0b080a0908) ∧ (F_c2 y = false)) 13 0x90a0a0a03020202020908100a) ∧ (F_c5 y = false)) 50 0x90a0a0a05040404040908100a080a0a0a0a0a0a0a0a0a0a0a0a05040404040908100a0a0909090809080a0a0a0b080a0908) ∧ (F_c13 y = false)) ∧ (F_c8 y = false)) 18 0xa0a0a0a0a0a120a09110a0a0a0b080a0908) ∧ (F_c14 y = false)) 13 0x90a0a0a01000000000908100a) ∧ (F_c2 y = false)) 13 0x90a0a0a03020202020908100a) ∧ (F_c5 y = false)) 23 0xf0f0f090f0f0f0f0a09090908130a0a0a0a0b080a0908) ∧ (F_c15 y = false)) 25 0x90a0a0a07060606060908100a080a0a0a070606060609080a) ∧ (F_c15 y = false)) ∧ (F_c8 y = false)) 18 0xa0a0a0a0a0a120a09110a0a0a0b080a0908) ∧ (F_c18 y = false)) 1 0x8)
theorem F_o0 (y : LV) : (obOf (F_e0 y.a0 y.a1 y.a2 y.b0 y.b1 y.b2 y.z0 y.z1), resOf (F_e0 y.a0 y.a1 y.a2 y.b0 y.b1 y.b2 y.z0 y.z1), cleanOf Tryz.prog.globals.size (F_e0 y.a0 y.a1 y.a2 y.b0 y.b1 y.b2 y.z0 y.z1)) = (F_r0 y, F_w0 y, true) := by kernel_rfl
theorem F_q0 (y : LV) : F_e0 y.a0 y.a1 y.a2 y.b0 y.b1 y.b2 y.z0 y.z1 = evFS Tryz.prog x_F 1000 10 #[.agg #[.int .i8 y.a0, .int .i8 y.a1, .int .i8 y.a2], .agg #[.int .i8 y.b0, .int .i8 y.b1, .int .i8 y.b2], .agg #[.int .i8 y.z0, .int .i8 y.z1]] aw3S0 ⟨F_k0, True⟩ := by
  delta F_e0
  exact Eq.refl _
theorem F_p0 (y : LV) (h : F_r0 y) (w : World) (hh : Holds Tryz.prog aw3S0 w) : Calls Tryz.prog 10 #[.agg #[.int .i8 y.a0, .int .i8 y.a1, .int .i8 y.a2], .agg #[.int .i8 y.b0, .int .i8 y.b1, .int .i8 y.b2], .agg #[.int .i8 y.z0, .int .i8 y.z1]] w fun en w' => en = .returned (F_w0 y) ∧ Below w.heap.size w w' := by
  have h3 := F_o0 y
  have hv : resOf (F_e0 y.a0 y.a1 y.a2 y.b0 y.b1 y.b2 y.z0 y.z1) = F_w0 y := congrArg (fun z => z.2.1) h3
  have hc : cleanOf Tryz.prog.globals.size (F_e0 y.a0 y.a1 y.a2 y.b0 y.b1 y.b2 y.z0 y.z1) = true := congrArg (fun z => z.2.2) h3
  have he := F_q0 y
  have ho : obOf (F_e0 y.a0 y.a1 y.a2 y.b0 y.b1 y.b2 y.z0 y.z1) = F_r0 y := congrArg (fun z => z.1) h3
  clear h3
  generalize F_e0 y.a0 y.a1 y.a2 y.b0 y.b1 y.b2 y.z0 y.z1 = r at *
  exact calls_way he gfol F_X hv rfl (F_args y) hc ho h hh
def F_w1 (y : LV) : Value := .bool Bool.true
def F_r1 (y : LV) : Prop := (cjD (F_T y) 256 ((cjD (F_T y) 256 ((cjD (F_T y) 256 ((cjD (F_T y) 256 ((cjD (F_T y) 256 ((cjD (F_T y) 256 (((cjD (F_T y) 256 ((cjD (F_T y) 256 ((cjD (F_T y) 256 (((cjD (F_T y) 256 (((cjD (F_T y) 256 ((cjD (F_T y) 256 ((cjD (F_T y) 256 ((cjD (F_T y) 256 ((cjD (F_T y) 256 ((cjD (F_T y) 256 ((cjD (F_T y) 256 True 19 0xd0d0d0c0d0d0d0d0d0a0a0c080a0b080a0908) ∧ (F_c0 y = true)) 9 0xe0e0e0b0e0e0e0e0e) ∧ (F_c1 y = true)) 9 0xf0f0f090f0f0f0f0f) ∧ (F_c2 y = false)) 19 0xd0d0d0c0d0d0d0d0d0a0a0c080a0b080a0908) ∧ (F_c3 y = true)) 9 0xe0e0e0b0e0e0e0e0e) ∧ (F_c4 y = true)) 9 0xf0f0f090f0f0f0f0f) ∧ (F_c5 y = false)) 22 0x90a0a0a01000000000908100a0a0a0a0a0a0a0b0a09) ∧ (F_c2 y = false)) ∧ (F_c8 y = false)) 25 0x90a0a0a03020202020908100a120a09110a0a0a0b080a0908) ∧ (F_c5 y = false)) ∧ (F_c8 y = false)) 25 0x90a0a0a01000000000908100a120a09110a0a0a0b080a0908) ∧ (F_c2 y = false)) 13 0x90a0a0a03020202020908100a) ∧ (F_c5 y = false)) 50 0x90a0a0a05040404040908100a080a0a0a0a0a0a0a0a0a0a0a0a05040404040908100a0a0909090809080a0a0a0b080a0908) ∧ (F_c13 y = false)) ∧ (F_c8 y = false)) 18 0xa0a0a0a0a0a120a09110a0a0a0b080a0908) ∧ (F_c14 y = false)) 13 0x90a0a0a01000000000908100a) ∧ (F_c2 y = false)) 13 0x90a0a0a03020202020908100a) ∧ (F_c5 y = false)) 23 0xf0f0f090f0f0f0f0a09090908130a0a0a0a0b080a0908) ∧ (F_c15 y = true)) 16 0xa0a0a0a0a0a0a080a14141414141414) ∧ (F_c19 y = false)) 1 0x8)
theorem F_o1 (y : LV) : (obOf (F_e1 y.a0 y.a1 y.a2 y.b0 y.b1 y.b2 y.z0 y.z1), resOf (F_e1 y.a0 y.a1 y.a2 y.b0 y.b1 y.b2 y.z0 y.z1), cleanOf Tryz.prog.globals.size (F_e1 y.a0 y.a1 y.a2 y.b0 y.b1 y.b2 y.z0 y.z1)) = (F_r1 y, F_w1 y, true) := by kernel_rfl
theorem F_q1 (y : LV) : F_e1 y.a0 y.a1 y.a2 y.b0 y.b1 y.b2 y.z0 y.z1 = evFS Tryz.prog x_F 1000 10 #[.agg #[.int .i8 y.a0, .int .i8 y.a1, .int .i8 y.a2], .agg #[.int .i8 y.b0, .int .i8 y.b1, .int .i8 y.b2], .agg #[.int .i8 y.z0, .int .i8 y.z1]] aw3S0 ⟨F_k1, True⟩ := by
  delta F_e1
  exact Eq.refl _
theorem F_p1 (y : LV) (h : F_r1 y) (w : World) (hh : Holds Tryz.prog aw3S0 w) : Calls Tryz.prog 10 #[.agg #[.int .i8 y.a0, .int .i8 y.a1, .int .i8 y.a2], .agg #[.int .i8 y.b0, .int .i8 y.b1, .int .i8 y.b2], .agg #[.int .i8 y.z0, .int .i8 y.z1]] w fun en w' => en = .returned (F_w1 y) ∧ Below w.heap.size w w' := by
  have h3 := F_o1 y
  have hv : resOf (F_e1 y.a0 y.a1 y.a2 y.b0 y.b1 y.b2 y.z0 y.z1) = F_w1 y := congrArg (fun z => z.2.1) h3
  have hc : cleanOf Tryz.prog.globals.size (F_e1 y.a0 y.a1 y.a2 y.b0 y.b1 y.b2 y.z0 y.z1) = true := congrArg (fun z => z.2.2) h3
  have he := F_q1 y
  have ho : obOf (F_e1 y.a0 y.a1 y.a2 y.b0 y.b1 y.b2 y.z0 y.z1) = F_r1 y := congrArg (fun z => z.1) h3
  clear h3
  generalize F_e1 y.a0 y.a1 y.a2 y.b0 y.b1 y.b2 y.z0 y.z1 = r at *
  exact calls_way he gfol F_X hv rfl (F_args y) hc ho h hh
theorem F_y0 (ρ : List Int) : IE.ev ρ (.v 18) = IE.ev ρ (.v 18) := by first | rfl | (simp only [IE.ev]; done) | (simp only [IE.ev]; generalize List.getD ρ 18 0 = v18; grind)
theorem F_y1 (ρ : List Int) : IE.ev ρ (.v 19) = IE.ev ρ (.v 19) := by first | rfl | (simp only [IE.ev]; done) | (simp only [IE.ev]; generalize List.getD ρ 19 0 = v19; grind)
theorem F_y2 (ρ : List Int) : IE.ev ρ F_xq11 = IE.ev ρ F_xq13 := by first | rfl | (simp only [IE.ev]; done) | (simp only [IE.ev]; generalize List.getD ρ 12 0 = v12; generalize List.getD ρ 15 0 = v15; generalize List.getD ρ 18 0 = v18; generalize List.getD ρ 19 0 = v19; grind)
theorem F_y3 (ρ : List Int) : IE.ev ρ F_xq12 = IE.ev ρ F_xq14 := by first | rfl | (simp only [IE.ev]; done) | (simp only [IE.ev]; generalize List.getD ρ 12 0 = v12; generalize List.getD ρ 15 0 = v15; generalize List.getD ρ 18 0 = v18; generalize List.getD ρ 19 0 = v19; grind)
theorem F_y4 (ρ : List Int) (k0 : IE.ev ρ (.add (.v 12) (.v 15)) = IE.ev ρ (.k (0))) : IE.ev ρ F_xq15 = IE.ev ρ (.k (0)) := by first | rfl | (simp only [IE.ev]; done) | (simp only [IE.ev] at k0 ⊢; generalize List.getD ρ 12 0 = v12 at k0 ⊢; generalize List.getD ρ 15 0 = v15 at k0 ⊢; generalize List.getD ρ 18 0 = v18 at k0 ⊢; generalize List.getD ρ 19 0 = v19 at k0 ⊢; grind)
theorem F_y5 (ρ : List Int) (k0 : IE.ev ρ (.add (.v 12) (.v 15)) = IE.ev ρ (.k (0))) : IE.ev ρ (.add F_xq12 F_xq12) = IE.ev ρ (.k (0)) := by first | rfl | (simp only [IE.ev]; done) | (simp only [IE.ev] at k0 ⊢; generalize List.getD ρ 12 0 = v12 at k0 ⊢; generalize List.getD ρ 15 0 = v15 at k0 ⊢; generalize List.getD ρ 18 0 = v18 at k0 ⊢; generalize List.getD ρ 19 0 = v19 at k0 ⊢; grind)
theorem F_y6 (ρ : List Int) : IE.ev ρ (.add F_xq10 (.add (.v 12) (.v 15))) = IE.ev ρ F_xq15 := by first | rfl | (simp only [IE.ev]; done) | (simp only [IE.ev]; generalize List.getD ρ 12 0 = v12; generalize List.getD ρ 15 0 = v15; generalize List.getD ρ 18 0 = v18; generalize List.getD ρ 19 0 = v19; grind)
theorem F_y7 (ρ : List Int) : IE.ev ρ F_xq12 = IE.ev ρ (.add F_xq12 F_xq12) := by first | rfl | (simp only [IE.ev]; done) | (simp only [IE.ev]; generalize List.getD ρ 18 0 = v18; generalize List.getD ρ 19 0 = v19; grind)
theorem F_t0 (y : LV) (hpre : F_pre y) : (F_c8 y = false) := by
  have hr := (F_hr y hpre)
  have e0 := IE.str_eq hr (.ite .lt (.k (8)) F_xq0 (.k (8)) F_xq0) (.v 18) (.v 18) (.v 18) (F_y0 (LS_R y)) (by kernel_rfl) (by kernel_rfl) (by kernel_rfl) (by kernel_rfl)
  have e1 := IE.str_eq hr (.ite .lt (.k (8)) F_xq1 (.k (8)) F_xq1) (.v 19) (.v 19) (.v 19) (F_y1 (LS_R y)) (by kernel_rfl) (by kernel_rfl) (by kernel_rfl) (by kernel_rfl)
  show (Bool.not (Bool.and (IE.ev (LS_R y) (.ite .lt (.k (8)) F_xq0 (.k (8)) F_xq0) == IE.ev (LS_R y) (.v 18)) (Bool.and (IE.ev (LS_R y) (.ite .lt (.k (8)) F_xq1 (.k (8)) F_xq1) == IE.ev (LS_R y) (.v 19)) true))) = false
  rw [e0, e1]
  first | done | rfl | simp
theorem F_t1 (y : LV) (hpre : F_pre y) (k0 : (F_c2 y = false)) (k1 : (F_c5 y = false)) : (F_c13 y = false) := notT (orF (orF (BE.au_ok (e := (.or (.cm .eq (.v 15) (.k (0))) (.or (.cm .eq (.v 12) (.k (0))) (.not (.cm .eq F_xq3 (.k (0))))))) (by kernel_rfl) (vs := [(12, 2), (15, 1)]) 200 (F_hr y hpre) (by kernel_rfl)) k1) k0)
theorem F_t2 (y : LV) (hpre : F_pre y) : (F_c14 y = false) := by
  have hr := (F_hr y hpre)
  have e0 := IE.str_eq hr (.wr (.add F_xq4 F_xq3)) F_xq6 F_xq11 F_xq13 (F_y2 (LS_R y)) (by kernel_rfl) (by kernel_rfl) (by kernel_rfl) (by kernel_rfl)
  have e1 := IE.str_eq hr F_xq5 F_xq7 F_xq12 F_xq14 (F_y3 (LS_R y)) (by kernel_rfl) (by kernel_rfl) (by kernel_rfl) (by kernel_rfl)
  show (Bool.not (Bool.and (IE.ev (LS_R y) (.wr (.add F_xq4 F_xq3)) == IE.ev (LS_R y) F_xq6) (Bool.and (IE.ev (LS_R y) F_xq5 == IE.ev (LS_R y) F_xq7) true))) = false
  rw [e0, e1]
  first | done | rfl | simp
theorem F_t3 (y : LV) (hpre : F_pre y) (k0 : (F_c15 y = true)) : (F_c19 y = false) := by
  have hr := (F_hr y hpre)
  have f0 := IE.eq_str hr (.wr (.add (.v 12) (.v 15))) (.k (0)) (.add (.v 12) (.v 15)) (.k (0)) (show (IE.ev (LS_R y) (.wr (.add (.v 12) (.v 15))) == IE.ev (LS_R y) (.k (0))) = true by first | exact k0 | exact ofNe k0 | exact ofNot k0) (by kernel_rfl) (by kernel_rfl) (by kernel_rfl) (by kernel_rfl)
  have e0 := IE.str_eq hr F_xq9 (.k (0)) F_xq15 (.k (0)) (F_y4 (LS_R y) f0) (by kernel_rfl) (by kernel_rfl) (by kernel_rfl) (by kernel_rfl)
  have e1 := IE.str_eq hr (.wr (.add F_xq5 F_xq5)) (.k (0)) (.add F_xq12 F_xq12) (.k (0)) (F_y5 (LS_R y) f0) (by kernel_rfl) (by kernel_rfl) (by kernel_rfl) (by kernel_rfl)
  show (Bool.not (Bool.and (IE.ev (LS_R y) F_xq9 == IE.ev (LS_R y) (.k (0))) (Bool.and (IE.ev (LS_R y) (.wr (.add F_xq5 F_xq5)) == IE.ev (LS_R y) (.k (0))) true))) = false
  rw [e0, e1]
  first | done | rfl | simp
theorem F_t4 (y : LV) (hpre : F_pre y) : (F_c18 y = false) := by
  have hr := (F_hr y hpre)
  have e0 := IE.str_eq hr F_xq8 F_xq9 (.add F_xq10 (.add (.v 12) (.v 15))) F_xq15 (F_y6 (LS_R y)) (by kernel_rfl) (by kernel_rfl) (by kernel_rfl) (by kernel_rfl)
  have e1 := IE.str_eq hr F_xq5 (.wr (.add F_xq5 F_xq5)) F_xq12 (.add F_xq12 F_xq12) (F_y7 (LS_R y)) (by kernel_rfl) (by kernel_rfl) (by kernel_rfl) (by kernel_rfl)
  show (Bool.not (Bool.and (IE.ev (LS_R y) F_xq8 == IE.ev (LS_R y) F_xq9) (Bool.and (IE.ev (LS_R y) F_xq5 == IE.ev (LS_R y) (.wr (.add F_xq5 F_xq5))) true))) = false
  rw [e0, e1]
  first | done | rfl | simp
theorem F_any (y : LV) (hpre : F_pre y) (w : World) (hh : Holds Tryz.prog aw3S0 w) : Calls Tryz.prog 10 #[.agg #[.int .i8 y.a0, .int .i8 y.a1, .int .i8 y.a2], .agg #[.int .i8 y.b0, .int .i8 y.b1, .int .i8 y.b2], .agg #[.int .i8 y.z0, .int .i8 y.z1]] w fun en w' => en = .returned (.bool true) ∧ Below w.heap.size w w' := by
  have hg0 : (F_c0 y = true) := (show F_c0 y = BE.ev (LS_R y) (.cm .eq (.v 14) (.k (0))) by kernel_rfl).trans (beq_iff_eq.2 hpre.2.2.2.2.1)
  have hg1 : (F_c1 y = true) := (show F_c1 y = BE.ev (LS_R y) (.cm .eq (.v 13) (.k (0))) by kernel_rfl).trans (beq_iff_eq.2 hpre.2.2.2.2.2.1)
  have hg2 : (F_c2 y = false) := (show F_c2 y = BE.ev (LS_R y) (.cm .eq (.v 12) (.k (0))) by kernel_rfl).trans (beq_eq_false_iff_ne.2 hpre.2.2.2.2.2.2.1)
  have hg3 : (F_c3 y = true) := (show F_c3 y = BE.ev (LS_R y) (.cm .eq (.v 17) (.k (0))) by kernel_rfl).trans (beq_iff_eq.2 hpre.2.2.2.2.2.2.2.1)
  have hg4 : (F_c4 y = true) := (show F_c4 y = BE.ev (LS_R y) (.cm .eq (.v 16) (.k (0))) by kernel_rfl).trans (beq_iff_eq.2 hpre.2.2.2.2.2.2.2.2.1)
  have hg5 : (F_c5 y = false) := (show F_c5 y = BE.ev (LS_R y) (.cm .eq (.v 15) (.k (0))) by kernel_rfl).trans (beq_eq_false_iff_ne.2 hpre.2.2.2.2.2.2.2.2.2)
  have h2 := F_t0 y hpre
  have h7 := F_t1 y hpre hg2 hg5
  have h8 := F_t2 y hpre
  rcases Bool.eq_false_or_eq_true (F_c15 y) with h9 | h9
  ·
    have h10 := F_t3 y hpre h9
    have hp := F_p1 y (cjD_i (F_tT y hpre) (And.intro (cjD_i (F_tT y hpre) (And.intro (cjD_i (F_tT y hpre) (And.intro (cjD_i (F_tT y hpre) (And.intro (cjD_i (F_tT y hpre) (And.intro (cjD_i (F_tT y hpre) (And.intro (And.intro (cjD_i (F_tT y hpre) (And.intro (cjD_i (F_tT y hpre) (And.intro (cjD_i (F_tT y hpre) (And.intro (And.intro (cjD_i (F_tT y hpre) (And.intro (And.intro (cjD_i (F_tT y hpre) (And.intro (cjD_i (F_tT y hpre) (And.intro (cjD_i (F_tT y hpre) (And.intro (cjD_i (F_tT y hpre) (And.intro (cjD_i (F_tT y hpre) (And.intro (cjD_i (F_tT y hpre) (And.intro (cjD_i (F_tT y hpre) trivial) hg0)) hg1)) hg2)) hg3)) hg4)) hg5)) hg2) h2)) hg5) h2)) hg2)) hg5)) h7) h2)) h8)) hg2)) hg5)) h9)) h10)) w hh
    have hv : F_w1 y = (.bool true) := by
      clear hp hh
      unfold F_w1
      rfl
    exact hv ▸ hp
  ·
    have h13 := F_t4 y hpre
    have hp := F_p0 y (cjD_i (F_tT y hpre) (And.intro (cjD_i (F_tT y hpre) (And.intro (And.intro (cjD_i (F_tT y hpre) (And.intro (cjD_i (F_tT y hpre) (And.intro (cjD_i (F_tT y hpre) (And.intro (cjD_i (F_tT y hpre) (And.intro (cjD_i (F_tT y hpre) (And.intro (And.intro (cjD_i (F_tT y hpre) (And.intro (cjD_i (F_tT y hpre) (And.intro (cjD_i (F_tT y hpre) (And.intro (And.intro (cjD_i (F_tT y hpre) (And.intro (And.intro (cjD_i (F_tT y hpre) (And.intro (cjD_i (F_tT y hpre) (And.intro (cjD_i (F_tT y hpre) (And.intro (cjD_i (F_tT y hpre) (And.intro (cjD_i (F_tT y hpre) (And.intro (cjD_i (F_tT y hpre) (And.intro (cjD_i (F_tT y hpre) trivial) hg0)) hg1)) hg2)) hg3)) hg4)) hg5)) hg2) h2)) hg5) h2)) hg2)) hg5)) h7) h2)) h8)) hg2)) hg5)) h9)) h9) h2)) h13)) w hh
    have hv : F_w0 y = (.bool true) := by
      clear hp hh
      unfold F_w0
      rfl
    exact hv ▸ hp
end Go.Proofs.YtbkpnhbcihcgaaaGreatDoor
