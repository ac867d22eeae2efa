/-
  The contract of bipole.bipolelaw03.LoopWhole.
  The contract of bipole.bipolelaw03.LoopWhole.
-/
import Derived.Test.YtencngffhbhifaaGreatDoorGLW2
import Derived.Test.YtencngffhbhifaaGreatDoorGLW11
section
set_option linter.all false
set_option maxRecDepth 1000000
set_option maxHeartbeats 2000000
open Go.RowKit
namespace Go.Proofs.YtencngffhbhifaaGreatDoor
open Mini
def lw3f_at0 (y : Int) : Int := (Int.tmod (IntKind.i64.wrap y) (101 : Int))
def lw3f_at1 (y : Int) : Int := (Int.tmod (IntKind.i64.wrap y) (1001 : Int))
def lw3f_q0 : IE := .ite .gt (.k (-1)) (.k (1)) (.k (-1)) (.k (1))
def lw3f_q1 : BE := .cm .ge (.ite .gt (.wr (.sub (.k (0)) (.v 7))) (.v 7) (.wr (.sub (.k (0)) (.v 7))) (.v 7)) lw3f_q0
def lw3f_q2 : IE := .wr (.sub (.wr (.mul (.k (1)) (.v 8))) (.wr (.mul (.v 7) (.v 9))))
def lw3f_q3 : IE := .wr (.sub (.k (1)) (.wr (.mul (.v 7) (.v 7))))
def lw3f_q4 : BE := .cm .ge (.ite .gt (.wr (.sub (.k (0)) lw3f_q2)) lw3f_q2 (.wr (.sub (.k (0)) lw3f_q2)) lw3f_q2) (.ite .gt (.wr (.sub (.k (0)) lw3f_q3)) lw3f_q3 (.wr (.sub (.k (0)) lw3f_q3)) lw3f_q3)
def lw3f_q5 : IE := .wr (.sub (.wr (.mul (.k (1)) (.v 9))) (.wr (.mul (.v 7) (.v 8))))
def lw3f_q6 : IE := .wr (.sub (.wr (.mul lw3f_q3 lw3f_q5)) (.wr (.mul lw3f_q2 lw3f_q5)))
def lw3f_q7 : IE := .wr (.sub (.wr (.mul lw3f_q3 lw3f_q3)) (.wr (.mul lw3f_q2 lw3f_q2)))
def lw3f_q8 : BE := .cm .ge (.ite .gt (.wr (.sub (.k (0)) lw3f_q6)) lw3f_q6 (.wr (.sub (.k (0)) lw3f_q6)) lw3f_q6) (.ite .gt (.wr (.sub (.k (0)) lw3f_q7)) lw3f_q7 (.wr (.sub (.k (0)) lw3f_q7)) lw3f_q7)
def lw3f_q9 : IE := .wr (.sub (.k (0)) (.wr (.mul (.v 7) (.k (1)))))
def lw3f_q10 : IE := .wr (.sub (.k (0)) (.wr (.mul (.v 8) (.k (1)))))
def lw3f_q11 : IE := .add (.wr (.add (.k (0)) (.wr (.mul lw3f_q9 (.wr (.mul (.v 10) (.k (1)))))))) (.wr (.mul lw3f_q10 (.wr (.mul (.v 11) (.k (1))))))
def lw3f_q12 : IE := .wr (.sub (.k (0)) (.wr (.mul (.v 9) (.k (1)))))
def lw3f_q13 : IE := .wr (.add (.wr lw3f_q11) (.wr (.mul lw3f_q12 (.wr (.mul (.v 12) (.k (1)))))))
def lw3f_q14 : IE := .add (.wr (.add (.k (0)) (.wr (.mul lw3f_q9 (.wr (.mul (.v 11) (.k (1)))))))) (.wr (.mul lw3f_q10 (.wr (.mul (.v 12) (.k (1))))))
def lw3f_q15 : IE := .wr (.add (.wr lw3f_q14) (.wr (.mul lw3f_q12 lw3f_q13)))
def lw3f_q16 : IE := .add (.wr (.add (.wr (.add (.k (0)) (.wr (.mul lw3f_q9 (.wr (.mul (.v 12) (.k (1)))))))) (.wr (.mul lw3f_q10 lw3f_q13)))) (.wr (.mul lw3f_q12 lw3f_q15))
def lw3f_q17 : IE := .add (.wr (.add (.wr (.add (.k (0)) (.wr (.mul lw3f_q9 lw3f_q13)))) (.wr (.mul lw3f_q10 lw3f_q15)))) (.wr (.mul lw3f_q12 (.wr lw3f_q16)))
def lw3f_q18 : IE := .add (.wr (.add (.wr (.add (.k (0)) (.wr (.mul lw3f_q9 lw3f_q15)))) (.wr (.mul lw3f_q10 (.wr lw3f_q16))))) (.wr (.mul lw3f_q12 (.wr lw3f_q17)))
def lw3f_q19 : IE := .add (.wr (.add (.wr (.add (.k (0)) (.wr (.mul lw3f_q9 (.wr lw3f_q16))))) (.wr (.mul lw3f_q10 (.wr lw3f_q17))))) (.wr (.mul lw3f_q12 (.wr lw3f_q18)))
def lw3f_q20 : BE := .or (.not (.cm .eq (.v 0) (.k (0)))) (.and (.cm .le (.k (0)) (.v 0)) (.cm .le (.v 0) (.k (0))))
def lw3f_q21 : BE := .not (.cm .ge (.ite .gt (.wr (.sub (.k (0)) (.v 0))) (.v 0) (.wr (.sub (.k (0)) (.v 0))) (.v 0)) lw3f_q0)
def lw3f_q22 : IE := .wr (.sub (.wr (.mul (.k (1)) (.v 1))) (.wr (.mul (.v 0) (.v 2))))
def lw3f_q23 : IE := .wr (.sub (.k (1)) (.wr (.mul (.v 0) (.v 0))))
def lw3f_q24 : BE := .cm .ge (.ite .gt (.wr (.sub (.k (0)) lw3f_q22)) lw3f_q22 (.wr (.sub (.k (0)) lw3f_q22)) lw3f_q22) (.ite .gt (.wr (.sub (.k (0)) lw3f_q23)) lw3f_q23 (.wr (.sub (.k (0)) lw3f_q23)) lw3f_q23)
def lw3f_q25 : IE := .sub (.k (0)) (.mul (.k (1)) (.mul (.k (1)) (.v 0)))
def lw3f_q26 : BE := .cm .ge (.ite .gt lw3f_q25 (.mul (.k (1)) (.mul (.k (1)) (.v 0))) lw3f_q25 (.mul (.k (1)) (.mul (.k (1)) (.v 0)))) (.k (1))
def lw3f_q27 : BE := .not (.beq (.not .t) (.cm .eq (.v 0) (.k (0))))
def lw3f_q28 : IE := .sub (.k (0)) (.mul (.k (1)) (.mul (.k (1)) (.v 2)))
def lw3f_q29 : BE := .cm .ge (.ite .gt lw3f_q28 (.mul (.k (1)) (.mul (.k (1)) (.v 2))) lw3f_q28 (.mul (.k (1)) (.mul (.k (1)) (.v 2)))) (.k (1))
def lw3f_q30 : IE := .wr (.sub (.wr (.mul (.k (1)) (.v 2))) (.wr (.mul (.v 0) (.v 1))))
def lw3f_q31 : IE := .wr (.sub (.wr (.mul lw3f_q23 lw3f_q30)) (.wr (.mul lw3f_q22 lw3f_q30)))
def lw3f_q32 : IE := .wr (.sub (.wr (.mul lw3f_q23 lw3f_q23)) (.wr (.mul lw3f_q22 lw3f_q22)))
def lw3f_q33 : BE := .cm .ge (.ite .gt (.wr (.sub (.k (0)) lw3f_q31)) lw3f_q31 (.wr (.sub (.k (0)) lw3f_q31)) lw3f_q31) (.ite .gt (.wr (.sub (.k (0)) lw3f_q32)) lw3f_q32 (.wr (.sub (.k (0)) lw3f_q32)) lw3f_q32)
def lw3f_q34 : BE := .not (.beq (.not (.cm .ge (.k (2)) (.k (0)))) (.cm .eq (.v 2) (.k (0))))
def lw3f_q35 : BE := .not (.beq (.not .t) (.cm .eq (.v 2) (.k (0))))
def lw3f_q36 : BE := .or (.not (.not lw3f_q33)) (.and (.cm .le (.k (0)) (.v 2)) (.cm .le (.v 2) (.k (0))))
def lw3f_q37 : IE := .wr (.sub (.k (0)) (.wr (.mul (.v 0) (.k (1)))))
def lw3f_q38 : IE := .wr (.sub (.k (0)) (.wr (.mul (.v 1) (.k (1)))))
def lw3f_q39 : IE := .add (.wr (.add (.k (0)) (.wr (.mul lw3f_q37 (.wr (.mul (.v 3) (.k (1)))))))) (.wr (.mul lw3f_q38 (.wr (.mul (.v 4) (.k (1))))))
def lw3f_q40 : IE := .wr (.sub (.k (0)) (.wr (.mul (.v 2) (.k (1)))))
def lw3f_q41 : IE := .wr (.add (.wr lw3f_q39) (.wr (.mul lw3f_q40 (.wr (.mul (.v 5) (.k (1)))))))
def lw3f_q42 : IE := .add (.wr (.add (.k (0)) (.wr (.mul lw3f_q37 (.wr (.mul (.v 4) (.k (1)))))))) (.wr (.mul lw3f_q38 (.wr (.mul (.v 5) (.k (1))))))
def lw3f_q43 : IE := .wr (.add (.wr lw3f_q42) (.wr (.mul lw3f_q40 lw3f_q41)))
def lw3f_q44 : IE := .add (.wr (.add (.wr (.add (.k (0)) (.wr (.mul lw3f_q37 (.wr (.mul (.v 5) (.k (1)))))))) (.wr (.mul lw3f_q38 lw3f_q41)))) (.wr (.mul lw3f_q40 lw3f_q43))
def lw3f_q45 : IE := .add (.wr (.add (.wr (.add (.k (0)) (.wr (.mul lw3f_q37 lw3f_q41)))) (.wr (.mul lw3f_q38 lw3f_q43)))) (.wr (.mul lw3f_q40 (.wr lw3f_q44)))
def lw3f_q46 : IE := .add (.wr (.add (.wr (.add (.k (0)) (.wr (.mul lw3f_q37 lw3f_q43)))) (.wr (.mul lw3f_q38 (.wr lw3f_q44))))) (.wr (.mul lw3f_q40 (.wr lw3f_q45)))
def lw3f_q47 : IE := .add (.wr (.add (.wr (.add (.k (0)) (.wr (.mul lw3f_q37 (.wr lw3f_q44))))) (.wr (.mul lw3f_q38 (.wr lw3f_q45))))) (.wr (.mul lw3f_q40 (.wr lw3f_q46)))
def lw3f_q48 : IE := .ite .gt (.sub (.k (0)) (.mul (.k (1)) (.v 0))) (.mul (.k (1)) (.v 0)) (.sub (.k (0)) (.mul (.k (1)) (.v 0))) (.mul (.k (1)) (.v 0))
def lw3f_q49 : IE := .ite .gt (.sub (.k (0)) (.mul (.k (1)) (.v 1))) (.mul (.k (1)) (.v 1)) (.sub (.k (0)) (.mul (.k (1)) (.v 1))) (.mul (.k (1)) (.v 1))
def lw3f_q50 : BE := .not (.cm .ge (.ite .gt (.sub (.k (0)) (.v 0)) (.v 0) (.sub (.k (0)) (.v 0)) (.v 0)) (.k (1)))

theorem lw3f_X : FOkS Tryz.prog x_lw3f := bothX_ok (noXS_ok) (tabT_ok (by kernel_rfl) aw3_calls)
theorem lw3f_rg7 (x0 x1 x2 f0 f1 f2 f3 : Int) (hpre : True) : Rg.has (-100, 100) (lw3f_at0 x0) := by
  have h := IE.rng_ok (β := [(-9223372036854775808, 9223372036854775807)]) (ρ := [(IntKind.i64.wrap x0)]) ⟨wrR _, trivial⟩ (e := (.md (.v 0) 101)) (by kernel_rfl)
  rw [show IE.rng [(-9223372036854775808, 9223372036854775807)] (.md (.v 0) 101) = (-100, 100) from by kernel_rfl] at h
  exact h
theorem lw3f_rg8 (x0 x1 x2 f0 f1 f2 f3 : Int) (hpre : True) : Rg.has (-100, 100) (lw3f_at0 x1) := by
  have h := IE.rng_ok (β := [(-9223372036854775808, 9223372036854775807)]) (ρ := [(IntKind.i64.wrap x1)]) ⟨wrR _, trivial⟩ (e := (.md (.v 0) 101)) (by kernel_rfl)
  rw [show IE.rng [(-9223372036854775808, 9223372036854775807)] (.md (.v 0) 101) = (-100, 100) from by kernel_rfl] at h
  exact h
theorem lw3f_rg9 (x0 x1 x2 f0 f1 f2 f3 : Int) (hpre : True) : Rg.has (-100, 100) (lw3f_at0 x2) := by
  have h := IE.rng_ok (β := [(-9223372036854775808, 9223372036854775807)]) (ρ := [(IntKind.i64.wrap x2)]) ⟨wrR _, trivial⟩ (e := (.md (.v 0) 101)) (by kernel_rfl)
  rw [show IE.rng [(-9223372036854775808, 9223372036854775807)] (.md (.v 0) 101) = (-100, 100) from by kernel_rfl] at h
  exact h
theorem lw3f_rg10 (x0 x1 x2 f0 f1 f2 f3 : Int) (hpre : True) : Rg.has (-1000, 1000) (lw3f_at1 f0) := by
  have h := IE.rng_ok (β := [(-9223372036854775808, 9223372036854775807)]) (ρ := [(IntKind.i64.wrap f0)]) ⟨wrR _, trivial⟩ (e := (.md (.v 0) 1001)) (by kernel_rfl)
  rw [show IE.rng [(-9223372036854775808, 9223372036854775807)] (.md (.v 0) 1001) = (-1000, 1000) from by kernel_rfl] at h
  exact h
theorem lw3f_rg11 (x0 x1 x2 f0 f1 f2 f3 : Int) (hpre : True) : Rg.has (-1000, 1000) (lw3f_at1 f1) := by
  have h := IE.rng_ok (β := [(-9223372036854775808, 9223372036854775807)]) (ρ := [(IntKind.i64.wrap f1)]) ⟨wrR _, trivial⟩ (e := (.md (.v 0) 1001)) (by kernel_rfl)
  rw [show IE.rng [(-9223372036854775808, 9223372036854775807)] (.md (.v 0) 1001) = (-1000, 1000) from by kernel_rfl] at h
  exact h
theorem lw3f_rg12 (x0 x1 x2 f0 f1 f2 f3 : Int) (hpre : True) : Rg.has (-1000, 1000) (lw3f_at1 f2) := by
  have h := IE.rng_ok (β := [(-9223372036854775808, 9223372036854775807)]) (ρ := [(IntKind.i64.wrap f2)]) ⟨wrR _, trivial⟩ (e := (.md (.v 0) 1001)) (by kernel_rfl)
  rw [show IE.rng [(-9223372036854775808, 9223372036854775807)] (.md (.v 0) 1001) = (-1000, 1000) from by kernel_rfl] at h
  exact h
theorem lw3f_rg13 (x0 x1 x2 f0 f1 f2 f3 : Int) (hpre : True) : Rg.has (-1000, 1000) (lw3f_at1 f3) := by
  have h := IE.rng_ok (β := [(-9223372036854775808, 9223372036854775807)]) (ρ := [(IntKind.i64.wrap f3)]) ⟨wrR _, trivial⟩ (e := (.md (.v 0) 1001)) (by kernel_rfl)
  rw [show IE.rng [(-9223372036854775808, 9223372036854775807)] (.md (.v 0) 1001) = (-1000, 1000) from by kernel_rfl] at h
  exact h
def lw3f_R (x0 x1 x2 f0 f1 f2 f3 : Int) : List Int := [(IntKind.i64.wrap x0), (IntKind.i64.wrap x1), (IntKind.i64.wrap x2), (IntKind.i64.wrap f0), (IntKind.i64.wrap f1), (IntKind.i64.wrap f2), (IntKind.i64.wrap f3), (lw3f_at0 x0), (lw3f_at0 x1), (lw3f_at0 x2), (lw3f_at1 f0), (lw3f_at1 f1), (lw3f_at1 f2), (lw3f_at1 f3)]
def lw3f_B : List Rg := [(-9223372036854775808, 9223372036854775807), (-9223372036854775808, 9223372036854775807), (-9223372036854775808, 9223372036854775807), (-9223372036854775808, 9223372036854775807), (-9223372036854775808, 9223372036854775807), (-9223372036854775808, 9223372036854775807), (-9223372036854775808, 9223372036854775807), (-100, 100), (-100, 100), (-100, 100), (-1000, 1000), (-1000, 1000), (-1000, 1000), (-1000, 1000)]
theorem lw3f_hr (x0 x1 x2 f0 f1 f2 f3 : Int) (hpre : True) : InR lw3f_B (lw3f_R x0 x1 x2 f0 f1 f2 f3) := ⟨wrR _, ⟨wrR _, ⟨wrR _, ⟨wrR _, ⟨wrR _, ⟨wrR _, ⟨wrR _, ⟨lw3f_rg7 x0 x1 x2 f0 f1 f2 f3 hpre, ⟨lw3f_rg8 x0 x1 x2 f0 f1 f2 f3 hpre, ⟨lw3f_rg9 x0 x1 x2 f0 f1 f2 f3 hpre, ⟨lw3f_rg10 x0 x1 x2 f0 f1 f2 f3 hpre, ⟨lw3f_rg11 x0 x1 x2 f0 f1 f2 f3 hpre, ⟨lw3f_rg12 x0 x1 x2 f0 f1 f2 f3 hpre, ⟨lw3f_rg13 x0 x1 x2 f0 f1 f2 f3 hpre, trivial⟩⟩⟩⟩⟩⟩⟩⟩⟩⟩⟩⟩⟩⟩
def lw3f_h0 : Prop := (false = false)
theorem lw3f_g0 : (false = false) := by first | rfl | trivial | decide | omega
def lw3f_h1 : Prop := ((decide ((3 : Int) > (4 : Int))) = Bool.false)
theorem lw3f_g1 : ((decide ((3 : Int) > (4 : Int))) = Bool.false) := by first | rfl | trivial | decide | omega
def lw3f_h2 : Prop := (true = true)
theorem lw3f_g2 : (true = true) := by first | rfl | trivial | decide | omega
def lw3f_h3 : Prop := ((0 : Int) = (0 : Int))
theorem lw3f_g3 : ((0 : Int) = (0 : Int)) := by first | rfl | trivial | decide | omega
def lw3f_h4 : Prop := ((1 : Int) = (1 : Int))
theorem lw3f_g4 : ((1 : Int) = (1 : Int)) := by first | rfl | trivial | decide | omega
def lw3f_c0 (x0 x1 x2 f0 f1 f2 f3 : Int) : Bool := BE.ev (lw3f_R x0 x1 x2 f0 f1 f2 f3) (.cm .eq (.v 7) (.k (0)))
def lw3f_h6 : Prop := ((2 : Int) = (2 : Int))
theorem lw3f_g6 : ((2 : Int) = (2 : Int)) := by first | rfl | trivial | decide | omega
def lw3f_h7 : Prop := ((decide ((4 : Int) > (5 : Int))) = Bool.false)
theorem lw3f_g7 : ((decide ((4 : Int) > (5 : Int))) = Bool.false) := by first | rfl | trivial | decide | omega
def lw3f_c1 (x0 x1 x2 f0 f1 f2 f3 : Int) : Bool := BE.ev (lw3f_R x0 x1 x2 f0 f1 f2 f3) (.cm .lt (.v 7) (.k (-100)))
def lw3f_c2 (x0 x1 x2 f0 f1 f2 f3 : Int) : Bool := BE.ev (lw3f_R x0 x1 x2 f0 f1 f2 f3) (.cm .gt (.v 7) (.k (100)))
def lw3f_c3 (x0 x1 x2 f0 f1 f2 f3 : Int) : Bool := BE.ev (lw3f_R x0 x1 x2 f0 f1 f2 f3) (.cm .lt (.v 8) (.k (-100)))
def lw3f_c4 (x0 x1 x2 f0 f1 f2 f3 : Int) : Bool := BE.ev (lw3f_R x0 x1 x2 f0 f1 f2 f3) (.cm .gt (.v 8) (.k (100)))
def lw3f_c5 (x0 x1 x2 f0 f1 f2 f3 : Int) : Bool := BE.ev (lw3f_R x0 x1 x2 f0 f1 f2 f3) (.cm .lt (.v 9) (.k (-100)))
def lw3f_c6 (x0 x1 x2 f0 f1 f2 f3 : Int) : Bool := BE.ev (lw3f_R x0 x1 x2 f0 f1 f2 f3) (.cm .gt (.v 9) (.k (100)))
def lw3f_h14 : Prop := ((3 : Int) = (3 : Int))
theorem lw3f_g14 : ((3 : Int) = (3 : Int)) := by first | rfl | trivial | decide | omega
def lw3f_h15 : Prop := ((decide ((1 : Int) > (100 : Int))) = Bool.false)
theorem lw3f_g15 : ((decide ((1 : Int) > (100 : Int))) = Bool.false) := by first | rfl | trivial | decide | omega
def lw3f_h16 : Prop := ((Bool.false != Bool.false) = Bool.false)
theorem lw3f_g16 : ((Bool.false != Bool.false) = Bool.false) := by first | rfl | trivial | decide | omega
def lw3f_h17 : Prop := ((decide ((4 : Int) > (2 : Int))) = Bool.true)
theorem lw3f_g17 : ((decide ((4 : Int) > (2 : Int))) = Bool.true) := by first | rfl | trivial | decide | omega
def lw3f_c7 (x0 x1 x2 f0 f1 f2 f3 : Int) : Bool := BE.ev (lw3f_R x0 x1 x2 f0 f1 f2 f3) (.not lw3f_q1)
def lw3f_c8 (x0 x1 x2 f0 f1 f2 f3 : Int) : Bool := BE.ev (lw3f_R x0 x1 x2 f0 f1 f2 f3) lw3f_q1
def lw3f_h20 : Prop := ((Bool.not ((Bool.not (decide ((0 : Int) ≥ (0 : Int)))) == Bool.false)) = Bool.false)
theorem lw3f_g20 : ((Bool.not ((Bool.not (decide ((0 : Int) ≥ (0 : Int)))) == Bool.false)) = Bool.false) := by first | rfl | trivial | decide | omega
def lw3f_c9 (x0 x1 x2 f0 f1 f2 f3 : Int) : Bool := BE.ev (lw3f_R x0 x1 x2 f0 f1 f2 f3) (.cm .eq (.v 8) (.k (0)))
def lw3f_h24 : Prop := ((decide ((3 : Int) > (2 : Int))) = Bool.true)
theorem lw3f_g24 : ((decide ((3 : Int) > (2 : Int))) = Bool.true) := by first | rfl | trivial | decide | omega
def lw3f_c10 (x0 x1 x2 f0 f1 f2 f3 : Int) : Bool := BE.ev (lw3f_R x0 x1 x2 f0 f1 f2 f3) (.not lw3f_q4)
def lw3f_c11 (x0 x1 x2 f0 f1 f2 f3 : Int) : Bool := BE.ev (lw3f_R x0 x1 x2 f0 f1 f2 f3) lw3f_q4
def lw3f_h28 : Prop := ((Bool.not ((Bool.not (decide ((1 : Int) ≥ (0 : Int)))) == Bool.false)) = Bool.false)
theorem lw3f_g28 : ((Bool.not ((Bool.not (decide ((1 : Int) ≥ (0 : Int)))) == Bool.false)) = Bool.false) := by first | rfl | trivial | decide | omega
def lw3f_h31 : Prop := ((decide ((2 : Int) > (2 : Int))) = Bool.false)
theorem lw3f_g31 : ((decide ((2 : Int) > (2 : Int))) = Bool.false) := by first | rfl | trivial | decide | omega
def lw3f_c12 (x0 x1 x2 f0 f1 f2 f3 : Int) : Bool := BE.ev (lw3f_R x0 x1 x2 f0 f1 f2 f3) lw3f_q8
def lw3f_c13 (x0 x1 x2 f0 f1 f2 f3 : Int) : Bool := BE.ev (lw3f_R x0 x1 x2 f0 f1 f2 f3) (.not (.beq (.not (.cm .ge (.k (2)) (.k (0)))) (.cm .eq (.v 9) (.k (0)))))
def lw3f_c14 (x0 x1 x2 f0 f1 f2 f3 : Int) : Bool := BE.ev (lw3f_R x0 x1 x2 f0 f1 f2 f3) (.not (.cm .eq (.v 9) (.k (0))))
def lw3f_c15 (x0 x1 x2 f0 f1 f2 f3 : Int) : Bool := BE.ev (lw3f_R x0 x1 x2 f0 f1 f2 f3) (.not (.beq (.not (.cm .ge (.k (-1)) (.k (0)))) (.cm .eq (.v 9) (.k (0)))))
def lw3f_c16 (x0 x1 x2 f0 f1 f2 f3 : Int) : Bool := BE.ev (lw3f_R x0 x1 x2 f0 f1 f2 f3) (.cm .lt (.v 10) (.k (-1000)))
def lw3f_c17 (x0 x1 x2 f0 f1 f2 f3 : Int) : Bool := BE.ev (lw3f_R x0 x1 x2 f0 f1 f2 f3) (.cm .gt (.v 10) (.k (1000)))
def lw3f_c18 (x0 x1 x2 f0 f1 f2 f3 : Int) : Bool := BE.ev (lw3f_R x0 x1 x2 f0 f1 f2 f3) (.cm .lt (.v 11) (.k (-1000)))
def lw3f_c19 (x0 x1 x2 f0 f1 f2 f3 : Int) : Bool := BE.ev (lw3f_R x0 x1 x2 f0 f1 f2 f3) (.cm .gt (.v 11) (.k (1000)))
def lw3f_c20 (x0 x1 x2 f0 f1 f2 f3 : Int) : Bool := BE.ev (lw3f_R x0 x1 x2 f0 f1 f2 f3) (.cm .lt (.v 12) (.k (-1000)))
def lw3f_c21 (x0 x1 x2 f0 f1 f2 f3 : Int) : Bool := BE.ev (lw3f_R x0 x1 x2 f0 f1 f2 f3) (.cm .gt (.v 12) (.k (1000)))
def lw3f_h45 : Prop := ((decide ((6 : Int) > (24 : Int))) = Bool.false)
theorem lw3f_g45 : ((decide ((6 : Int) > (24 : Int))) = Bool.false) := by first | rfl | trivial | decide | omega
def lw3f_c22 (x0 x1 x2 f0 f1 f2 f3 : Int) : Bool := BE.ev (lw3f_R x0 x1 x2 f0 f1 f2 f3) (.cm .lt lw3f_q13 (.k (-1073741824)))
def lw3f_c23 (x0 x1 x2 f0 f1 f2 f3 : Int) : Bool := BE.ev (lw3f_R x0 x1 x2 f0 f1 f2 f3) (.cm .gt lw3f_q13 (.k (1073741824)))
def lw3f_c24 (x0 x1 x2 f0 f1 f2 f3 : Int) : Bool := BE.ev (lw3f_R x0 x1 x2 f0 f1 f2 f3) (.cm .lt lw3f_q15 (.k (-1073741824)))
def lw3f_c25 (x0 x1 x2 f0 f1 f2 f3 : Int) : Bool := BE.ev (lw3f_R x0 x1 x2 f0 f1 f2 f3) (.cm .gt lw3f_q15 (.k (1073741824)))
def lw3f_h50 : Prop := ((4 : Int) = (4 : Int))
theorem lw3f_g50 : ((4 : Int) = (4 : Int)) := by first | rfl | trivial | decide | omega
def lw3f_c26 (x0 x1 x2 f0 f1 f2 f3 : Int) : Bool := BE.ev (lw3f_R x0 x1 x2 f0 f1 f2 f3) (.cm .lt (.wr lw3f_q16) (.k (-1073741824)))
def lw3f_c27 (x0 x1 x2 f0 f1 f2 f3 : Int) : Bool := BE.ev (lw3f_R x0 x1 x2 f0 f1 f2 f3) (.cm .gt (.wr lw3f_q16) (.k (1073741824)))
def lw3f_h53 : Prop := ((5 : Int) = (5 : Int))
theorem lw3f_g53 : ((5 : Int) = (5 : Int)) := by first | rfl | trivial | decide | omega
def lw3f_c28 (x0 x1 x2 f0 f1 f2 f3 : Int) : Bool := BE.ev (lw3f_R x0 x1 x2 f0 f1 f2 f3) (.cm .lt (.wr lw3f_q17) (.k (-1073741824)))
def lw3f_c29 (x0 x1 x2 f0 f1 f2 f3 : Int) : Bool := BE.ev (lw3f_R x0 x1 x2 f0 f1 f2 f3) (.cm .gt (.wr lw3f_q17) (.k (1073741824)))
def lw3f_h56 : Prop := ((6 : Int) = (6 : Int))
theorem lw3f_g56 : ((6 : Int) = (6 : Int)) := by first | rfl | trivial | decide | omega
def lw3f_c30 (x0 x1 x2 f0 f1 f2 f3 : Int) : Bool := BE.ev (lw3f_R x0 x1 x2 f0 f1 f2 f3) (.cm .lt (.wr lw3f_q18) (.k (-1073741824)))
def lw3f_c31 (x0 x1 x2 f0 f1 f2 f3 : Int) : Bool := BE.ev (lw3f_R x0 x1 x2 f0 f1 f2 f3) (.cm .gt (.wr lw3f_q18) (.k (1073741824)))
def lw3f_h59 : Prop := ((7 : Int) = (7 : Int))
theorem lw3f_g59 : ((7 : Int) = (7 : Int)) := by first | rfl | trivial | decide | omega
def lw3f_c32 (x0 x1 x2 f0 f1 f2 f3 : Int) : Bool := BE.ev (lw3f_R x0 x1 x2 f0 f1 f2 f3) (.cm .lt (.wr lw3f_q19) (.k (-1073741824)))
def lw3f_c33 (x0 x1 x2 f0 f1 f2 f3 : Int) : Bool := BE.ev (lw3f_R x0 x1 x2 f0 f1 f2 f3) (.cm .gt (.wr lw3f_q19) (.k (1073741824)))
def lw3f_c34 (x0 x1 x2 f0 f1 f2 f3 : Int) : Bool := BE.ev (lw3f_R x0 x1 x2 f0 f1 f2 f3) (.cm .ne lw3f_q13 (.k (0)))
def lw3f_c35 (x0 x1 x2 f0 f1 f2 f3 : Int) : Bool := BE.ev (lw3f_R x0 x1 x2 f0 f1 f2 f3) (.cm .ne lw3f_q15 (.k (0)))
def lw3f_c36 (x0 x1 x2 f0 f1 f2 f3 : Int) : Bool := BE.ev (lw3f_R x0 x1 x2 f0 f1 f2 f3) (.cm .ne (.wr lw3f_q16) (.k (0)))
def lw3f_c37 (x0 x1 x2 f0 f1 f2 f3 : Int) : Bool := BE.ev (lw3f_R x0 x1 x2 f0 f1 f2 f3) (.cm .ne (.wr lw3f_q17) (.k (0)))
def lw3f_c38 (x0 x1 x2 f0 f1 f2 f3 : Int) : Bool := BE.ev (lw3f_R x0 x1 x2 f0 f1 f2 f3) (.cm .ne (.wr lw3f_q18) (.k (0)))
def lw3f_c39 (x0 x1 x2 f0 f1 f2 f3 : Int) : Bool := BE.ev (lw3f_R x0 x1 x2 f0 f1 f2 f3) (.cm .ne (.wr lw3f_q19) (.k (0)))
theorem lw3f_c1_ff (x0 x1 x2 f0 f1 f2 f3 : Int) (hpre : True) : lw3f_c1 x0 x1 x2 f0 f1 f2 f3 = false :=
  BE.tri_ok (lw3f_hr x0 x1 x2 f0 f1 f2 f3 hpre) (e := (.cm .lt (.v 7) (.k (-100)))) (by kernel_rfl) (by kernel_rfl)
theorem lw3f_c2_ff (x0 x1 x2 f0 f1 f2 f3 : Int) (hpre : True) : lw3f_c2 x0 x1 x2 f0 f1 f2 f3 = false :=
  BE.tri_ok (lw3f_hr x0 x1 x2 f0 f1 f2 f3 hpre) (e := (.cm .gt (.v 7) (.k (100)))) (by kernel_rfl) (by kernel_rfl)
theorem lw3f_c3_ff (x0 x1 x2 f0 f1 f2 f3 : Int) (hpre : True) : lw3f_c3 x0 x1 x2 f0 f1 f2 f3 = false :=
  BE.tri_ok (lw3f_hr x0 x1 x2 f0 f1 f2 f3 hpre) (e := (.cm .lt (.v 8) (.k (-100)))) (by kernel_rfl) (by kernel_rfl)
theorem lw3f_c4_ff (x0 x1 x2 f0 f1 f2 f3 : Int) (hpre : True) : lw3f_c4 x0 x1 x2 f0 f1 f2 f3 = false :=
  BE.tri_ok (lw3f_hr x0 x1 x2 f0 f1 f2 f3 hpre) (e := (.cm .gt (.v 8) (.k (100)))) (by kernel_rfl) (by kernel_rfl)
theorem lw3f_c5_ff (x0 x1 x2 f0 f1 f2 f3 : Int) (hpre : True) : lw3f_c5 x0 x1 x2 f0 f1 f2 f3 = false :=
  BE.tri_ok (lw3f_hr x0 x1 x2 f0 f1 f2 f3 hpre) (e := (.cm .lt (.v 9) (.k (-100)))) (by kernel_rfl) (by kernel_rfl)
theorem lw3f_c6_ff (x0 x1 x2 f0 f1 f2 f3 : Int) (hpre : True) : lw3f_c6 x0 x1 x2 f0 f1 f2 f3 = false :=
  BE.tri_ok (lw3f_hr x0 x1 x2 f0 f1 f2 f3 hpre) (e := (.cm .gt (.v 9) (.k (100)))) (by kernel_rfl) (by kernel_rfl)
theorem lw3f_c16_ff (x0 x1 x2 f0 f1 f2 f3 : Int) (hpre : True) : lw3f_c16 x0 x1 x2 f0 f1 f2 f3 = false :=
  BE.tri_ok (lw3f_hr x0 x1 x2 f0 f1 f2 f3 hpre) (e := (.cm .lt (.v 10) (.k (-1000)))) (by kernel_rfl) (by kernel_rfl)
theorem lw3f_c17_ff (x0 x1 x2 f0 f1 f2 f3 : Int) (hpre : True) : lw3f_c17 x0 x1 x2 f0 f1 f2 f3 = false :=
  BE.tri_ok (lw3f_hr x0 x1 x2 f0 f1 f2 f3 hpre) (e := (.cm .gt (.v 10) (.k (1000)))) (by kernel_rfl) (by kernel_rfl)
theorem lw3f_c18_ff (x0 x1 x2 f0 f1 f2 f3 : Int) (hpre : True) : lw3f_c18 x0 x1 x2 f0 f1 f2 f3 = false :=
  BE.tri_ok (lw3f_hr x0 x1 x2 f0 f1 f2 f3 hpre) (e := (.cm .lt (.v 11) (.k (-1000)))) (by kernel_rfl) (by kernel_rfl)
theorem lw3f_c19_ff (x0 x1 x2 f0 f1 f2 f3 : Int) (hpre : True) : lw3f_c19 x0 x1 x2 f0 f1 f2 f3 = false :=
  BE.tri_ok (lw3f_hr x0 x1 x2 f0 f1 f2 f3 hpre) (e := (.cm .gt (.v 11) (.k (1000)))) (by kernel_rfl) (by kernel_rfl)
theorem lw3f_c20_ff (x0 x1 x2 f0 f1 f2 f3 : Int) (hpre : True) : lw3f_c20 x0 x1 x2 f0 f1 f2 f3 = false :=
  BE.tri_ok (lw3f_hr x0 x1 x2 f0 f1 f2 f3 hpre) (e := (.cm .lt (.v 12) (.k (-1000)))) (by kernel_rfl) (by kernel_rfl)
theorem lw3f_c21_ff (x0 x1 x2 f0 f1 f2 f3 : Int) (hpre : True) : lw3f_c21 x0 x1 x2 f0 f1 f2 f3 = false :=
  BE.tri_ok (lw3f_hr x0 x1 x2 f0 f1 f2 f3 hpre) (e := (.cm .gt (.v 12) (.k (1000)))) (by kernel_rfl) (by kernel_rfl)
theorem lw3f_c22_ff (x0 x1 x2 f0 f1 f2 f3 : Int) (hpre : True) : lw3f_c22 x0 x1 x2 f0 f1 f2 f3 = false :=
  BE.tri_ok (lw3f_hr x0 x1 x2 f0 f1 f2 f3 hpre) (e := (.cm .lt lw3f_q13 (.k (-1073741824)))) (by kernel_rfl) (by kernel_rfl)
theorem lw3f_c23_ff (x0 x1 x2 f0 f1 f2 f3 : Int) (hpre : True) : lw3f_c23 x0 x1 x2 f0 f1 f2 f3 = false :=
  BE.tri_ok (lw3f_hr x0 x1 x2 f0 f1 f2 f3 hpre) (e := (.cm .gt lw3f_q13 (.k (1073741824)))) (by kernel_rfl) (by kernel_rfl)
theorem lw3f_c24_ff (x0 x1 x2 f0 f1 f2 f3 : Int) (hpre : True) : lw3f_c24 x0 x1 x2 f0 f1 f2 f3 = false :=
  BE.tri_ok (lw3f_hr x0 x1 x2 f0 f1 f2 f3 hpre) (e := (.cm .lt lw3f_q15 (.k (-1073741824)))) (by kernel_rfl) (by kernel_rfl)
theorem lw3f_c25_ff (x0 x1 x2 f0 f1 f2 f3 : Int) (hpre : True) : lw3f_c25 x0 x1 x2 f0 f1 f2 f3 = false :=
  BE.tri_ok (lw3f_hr x0 x1 x2 f0 f1 f2 f3 hpre) (e := (.cm .gt lw3f_q15 (.k (1073741824)))) (by kernel_rfl) (by kernel_rfl)
def lw3f_z0 (P : Prop) (x0 x1 x2 f0 f1 f2 f3 : Int) : Prop := ((((((((((((((((((((((P ∧ lw3f_h0) ∧ lw3f_h0) ∧ lw3f_h0) ∧ lw3f_h0) ∧ lw3f_h1) ∧ lw3f_h2) ∧ lw3f_h3) ∧ lw3f_h0) ∧ lw3f_h3) ∧ lw3f_h0) ∧ lw3f_h2) ∧ lw3f_h2) ∧ lw3f_h2) ∧ lw3f_h3) ∧ lw3f_h2) ∧ lw3f_h2) ∧ lw3f_h2) ∧ lw3f_h2) ∧ lw3f_h4) ∧ lw3f_h0) ∧ lw3f_h4) ∧ lw3f_h0)
theorem lw3f_z0_h {P : Prop} (h : P) (x0 x1 x2 f0 f1 f2 f3 : Int) (hpre : True) : lw3f_z0 P x0 x1 x2 f0 f1 f2 f3 := ⟨⟨⟨⟨⟨⟨⟨⟨⟨⟨⟨⟨⟨⟨⟨⟨⟨⟨⟨⟨⟨⟨h, lw3f_g0⟩, lw3f_g0⟩, lw3f_g0⟩, lw3f_g0⟩, lw3f_g1⟩, lw3f_g2⟩, lw3f_g3⟩, lw3f_g0⟩, lw3f_g3⟩, lw3f_g0⟩, lw3f_g2⟩, lw3f_g2⟩, lw3f_g2⟩, lw3f_g3⟩, lw3f_g2⟩, lw3f_g2⟩, lw3f_g2⟩, lw3f_g2⟩, lw3f_g4⟩, lw3f_g0⟩, lw3f_g4⟩, lw3f_g0⟩
def lw3f_z1 (P : Prop) (x0 x1 x2 f0 f1 f2 f3 : Int) : Prop := (((((((((((((((((P ∧ (lw3f_c0 x0 x1 x2 f0 f1 f2 f3 = false)) ∧ (lw3f_c0 x0 x1 x2 f0 f1 f2 f3 = false)) ∧ (lw3f_c0 x0 x1 x2 f0 f1 f2 f3 = false)) ∧ (lw3f_c0 x0 x1 x2 f0 f1 f2 f3 = false)) ∧ (lw3f_c0 x0 x1 x2 f0 f1 f2 f3 = false)) ∧ (lw3f_c0 x0 x1 x2 f0 f1 f2 f3 = false)) ∧ lw3f_h2) ∧ lw3f_h6) ∧ lw3f_h0) ∧ lw3f_h6) ∧ lw3f_h0) ∧ lw3f_h0) ∧ lw3f_h0) ∧ lw3f_h0) ∧ lw3f_h0) ∧ lw3f_h0) ∧ lw3f_h0)
theorem lw3f_z1_h {P : Prop} (h : P) (x0 x1 x2 f0 f1 f2 f3 : Int) (hpre : True) (k0 : (lw3f_c0 x0 x1 x2 f0 f1 f2 f3 = false)) : lw3f_z1 P x0 x1 x2 f0 f1 f2 f3 := ⟨⟨⟨⟨⟨⟨⟨⟨⟨⟨⟨⟨⟨⟨⟨⟨⟨h, k0⟩, k0⟩, k0⟩, k0⟩, k0⟩, k0⟩, lw3f_g2⟩, lw3f_g6⟩, lw3f_g0⟩, lw3f_g6⟩, lw3f_g0⟩, lw3f_g0⟩, lw3f_g0⟩, lw3f_g0⟩, lw3f_g0⟩, lw3f_g0⟩, lw3f_g0⟩
def lw3f_z2 (P : Prop) (x0 x1 x2 f0 f1 f2 f3 : Int) : Prop := (((((((((((((((((((((((((((((((((((((((((((((((((P ∧ lw3f_h0) ∧ lw3f_h0) ∧ lw3f_h0) ∧ lw3f_h7) ∧ lw3f_h2) ∧ lw3f_h3) ∧ (lw3f_c1 x0 x1 x2 f0 f1 f2 f3 = false)) ∧ (lw3f_c1 x0 x1 x2 f0 f1 f2 f3 = false)) ∧ (lw3f_c1 x0 x1 x2 f0 f1 f2 f3 = false)) ∧ (lw3f_c1 x0 x1 x2 f0 f1 f2 f3 = false)) ∧ (lw3f_c2 x0 x1 x2 f0 f1 f2 f3 = false)) ∧ lw3f_h0) ∧ lw3f_h2) ∧ lw3f_h4) ∧ (lw3f_c3 x0 x1 x2 f0 f1 f2 f3 = false)) ∧ (lw3f_c3 x0 x1 x2 f0 f1 f2 f3 = false)) ∧ (lw3f_c3 x0 x1 x2 f0 f1 f2 f3 = false)) ∧ (lw3f_c3 x0 x1 x2 f0 f1 f2 f3 = false)) ∧ (lw3f_c4 x0 x1 x2 f0 f1 f2 f3 = false)) ∧ lw3f_h0) ∧ lw3f_h2) ∧ lw3f_h6) ∧ (lw3f_c5 x0 x1 x2 f0 f1 f2 f3 = false)) ∧ (lw3f_c5 x0 x1 x2 f0 f1 f2 f3 = false)) ∧ (lw3f_c5 x0 x1 x2 f0 f1 f2 f3 = false)) ∧ (lw3f_c5 x0 x1 x2 f0 f1 f2 f3 = false)) ∧ (lw3f_c6 x0 x1 x2 f0 f1 f2 f3 = false)) ∧ lw3f_h0) ∧ lw3f_h2) ∧ lw3f_h14) ∧ lw3f_h0) ∧ lw3f_h0) ∧ lw3f_h0) ∧ lw3f_h0) ∧ lw3f_h15) ∧ lw3f_h0) ∧ lw3f_h0) ∧ lw3f_h0) ∧ lw3f_h14) ∧ lw3f_h0) ∧ lw3f_h0) ∧ lw3f_h0) ∧ lw3f_h16) ∧ lw3f_h17) ∧ lw3f_h17) ∧ lw3f_h3) ∧ lw3f_h14) ∧ lw3f_h17) ∧ lw3f_h17)
theorem lw3f_z2_h {P : Prop} (h : P) (x0 x1 x2 f0 f1 f2 f3 : Int) (hpre : True) : lw3f_z2 P x0 x1 x2 f0 f1 f2 f3 := ⟨⟨⟨⟨⟨⟨⟨⟨⟨⟨⟨⟨⟨⟨⟨⟨⟨⟨⟨⟨⟨⟨⟨⟨⟨⟨⟨⟨⟨⟨⟨⟨⟨⟨⟨⟨⟨⟨⟨⟨⟨⟨⟨⟨⟨⟨⟨⟨⟨h, lw3f_g0⟩, lw3f_g0⟩, lw3f_g0⟩, lw3f_g7⟩, lw3f_g2⟩, lw3f_g3⟩, (lw3f_c1_ff x0 x1 x2 f0 f1 f2 f3 hpre)⟩, (lw3f_c1_ff x0 x1 x2 f0 f1 f2 f3 hpre)⟩, (lw3f_c1_ff x0 x1 x2 f0 f1 f2 f3 hpre)⟩, (lw3f_c1_ff x0 x1 x2 f0 f1 f2 f3 hpre)⟩, (lw3f_c2_ff x0 x1 x2 f0 f1 f2 f3 hpre)⟩, lw3f_g0⟩, lw3f_g2⟩, lw3f_g4⟩, (lw3f_c3_ff x0 x1 x2 f0 f1 f2 f3 hpre)⟩, (lw3f_c3_ff x0 x1 x2 f0 f1 f2 f3 hpre)⟩, (lw3f_c3_ff x0 x1 x2 f0 f1 f2 f3 hpre)⟩, (lw3f_c3_ff x0 x1 x2 f0 f1 f2 f3 hpre)⟩, (lw3f_c4_ff x0 x1 x2 f0 f1 f2 f3 hpre)⟩, lw3f_g0⟩, lw3f_g2⟩, lw3f_g6⟩, (lw3f_c5_ff x0 x1 x2 f0 f1 f2 f3 hpre)⟩, (lw3f_c5_ff x0 x1 x2 f0 f1 f2 f3 hpre)⟩, (lw3f_c5_ff x0 x1 x2 f0 f1 f2 f3 hpre)⟩, (lw3f_c5_ff x0 x1 x2 f0 f1 f2 f3 hpre)⟩, (lw3f_c6_ff x0 x1 x2 f0 f1 f2 f3 hpre)⟩, lw3f_g0⟩, lw3f_g2⟩, lw3f_g14⟩, lw3f_g0⟩, lw3f_g0⟩, lw3f_g0⟩, lw3f_g0⟩, lw3f_g15⟩, lw3f_g0⟩, lw3f_g0⟩, lw3f_g0⟩, lw3f_g14⟩, lw3f_g0⟩, lw3f_g0⟩, lw3f_g0⟩, lw3f_g16⟩, lw3f_g17⟩, lw3f_g17⟩, lw3f_g3⟩, lw3f_g14⟩, lw3f_g17⟩, lw3f_g17⟩
def lw3f_z3 (P : Prop) (x0 x1 x2 f0 f1 f2 f3 : Int) : Prop := ((((((((((((P ∧ (lw3f_c7 x0 x1 x2 f0 f1 f2 f3 = false)) ∧ lw3f_h2) ∧ lw3f_h3) ∧ lw3f_h3) ∧ lw3f_h14) ∧ (lw3f_c8 x0 x1 x2 f0 f1 f2 f3 = true)) ∧ lw3f_h0) ∧ lw3f_h0) ∧ lw3f_h0) ∧ lw3f_h0) ∧ lw3f_h20) ∧ lw3f_h2)
theorem lw3f_z3_h {P : Prop} (h : P) (x0 x1 x2 f0 f1 f2 f3 : Int) (hpre : True) (k0 : (lw3f_c7 x0 x1 x2 f0 f1 f2 f3 = false)) (k1 : (lw3f_c8 x0 x1 x2 f0 f1 f2 f3 = true)) : lw3f_z3 P x0 x1 x2 f0 f1 f2 f3 := ⟨⟨⟨⟨⟨⟨⟨⟨⟨⟨⟨⟨h, k0⟩, lw3f_g2⟩, lw3f_g3⟩, lw3f_g3⟩, lw3f_g14⟩, k1⟩, lw3f_g0⟩, lw3f_g0⟩, lw3f_g0⟩, lw3f_g0⟩, lw3f_g20⟩, lw3f_g2⟩
def lw3f_z4 (P : Prop) (x0 x1 x2 f0 f1 f2 f3 : Int) : Prop := ((((((((((((P ∧ (lw3f_c0 x0 x1 x2 f0 f1 f2 f3 = true)) ∧ (lw3f_c0 x0 x1 x2 f0 f1 f2 f3 = true)) ∧ (lw3f_c0 x0 x1 x2 f0 f1 f2 f3 = true)) ∧ lw3f_h4) ∧ (lw3f_c0 x0 x1 x2 f0 f1 f2 f3 = true)) ∧ (lw3f_c0 x0 x1 x2 f0 f1 f2 f3 = true)) ∧ (lw3f_c0 x0 x1 x2 f0 f1 f2 f3 = true)) ∧ lw3f_h2) ∧ lw3f_h6) ∧ lw3f_h0) ∧ lw3f_h6) ∧ lw3f_h0)
theorem lw3f_z4_h {P : Prop} (h : P) (x0 x1 x2 f0 f1 f2 f3 : Int) (hpre : True) (k0 : (lw3f_c0 x0 x1 x2 f0 f1 f2 f3 = true)) : lw3f_z4 P x0 x1 x2 f0 f1 f2 f3 := ⟨⟨⟨⟨⟨⟨⟨⟨⟨⟨⟨⟨h, k0⟩, k0⟩, k0⟩, lw3f_g4⟩, k0⟩, k0⟩, k0⟩, lw3f_g2⟩, lw3f_g6⟩, lw3f_g0⟩, lw3f_g6⟩, lw3f_g0⟩
def lw3f_z5 (P : Prop) (x0 x1 x2 f0 f1 f2 f3 : Int) : Prop := ((((((P ∧ (lw3f_c9 x0 x1 x2 f0 f1 f2 f3 = false)) ∧ (lw3f_c9 x0 x1 x2 f0 f1 f2 f3 = false)) ∧ (lw3f_c9 x0 x1 x2 f0 f1 f2 f3 = false)) ∧ (lw3f_c9 x0 x1 x2 f0 f1 f2 f3 = false)) ∧ (lw3f_c9 x0 x1 x2 f0 f1 f2 f3 = false)) ∧ (lw3f_c9 x0 x1 x2 f0 f1 f2 f3 = false))
theorem lw3f_z5_h {P : Prop} (h : P) (x0 x1 x2 f0 f1 f2 f3 : Int) (hpre : True) (k0 : (lw3f_c9 x0 x1 x2 f0 f1 f2 f3 = false)) : lw3f_z5 P x0 x1 x2 f0 f1 f2 f3 := ⟨⟨⟨⟨⟨⟨h, k0⟩, k0⟩, k0⟩, k0⟩, k0⟩, k0⟩
def lw3f_z6 (P : Prop) (x0 x1 x2 f0 f1 f2 f3 : Int) : Prop := (((((((((((((((((((((((((((P ∧ (lw3f_c7 x0 x1 x2 f0 f1 f2 f3 = true)) ∧ lw3f_h16) ∧ lw3f_h2) ∧ lw3f_h14) ∧ lw3f_h3) ∧ lw3f_h3) ∧ lw3f_h6) ∧ lw3f_h3) ∧ lw3f_h2) ∧ lw3f_h14) ∧ lw3f_h4) ∧ lw3f_h3) ∧ lw3f_h4) ∧ lw3f_h4) ∧ lw3f_h2) ∧ lw3f_h14) ∧ lw3f_h6) ∧ lw3f_h3) ∧ lw3f_h3) ∧ lw3f_h6) ∧ lw3f_h0) ∧ lw3f_h24) ∧ lw3f_h24) ∧ lw3f_h3) ∧ lw3f_h6) ∧ lw3f_h24) ∧ lw3f_h24)
theorem lw3f_z6_h {P : Prop} (h : P) (x0 x1 x2 f0 f1 f2 f3 : Int) (hpre : True) (k0 : (lw3f_c7 x0 x1 x2 f0 f1 f2 f3 = true)) : lw3f_z6 P x0 x1 x2 f0 f1 f2 f3 := ⟨⟨⟨⟨⟨⟨⟨⟨⟨⟨⟨⟨⟨⟨⟨⟨⟨⟨⟨⟨⟨⟨⟨⟨⟨⟨⟨h, k0⟩, lw3f_g16⟩, lw3f_g2⟩, lw3f_g14⟩, lw3f_g3⟩, lw3f_g3⟩, lw3f_g6⟩, lw3f_g3⟩, lw3f_g2⟩, lw3f_g14⟩, lw3f_g4⟩, lw3f_g3⟩, lw3f_g4⟩, lw3f_g4⟩, lw3f_g2⟩, lw3f_g14⟩, lw3f_g6⟩, lw3f_g3⟩, lw3f_g3⟩, lw3f_g6⟩, lw3f_g0⟩, lw3f_g24⟩, lw3f_g24⟩, lw3f_g3⟩, lw3f_g6⟩, lw3f_g24⟩, lw3f_g24⟩
def lw3f_z7 (P : Prop) (x0 x1 x2 f0 f1 f2 f3 : Int) : Prop := (P ∧ (lw3f_c10 x0 x1 x2 f0 f1 f2 f3 = false))
theorem lw3f_z7_h {P : Prop} (h : P) (x0 x1 x2 f0 f1 f2 f3 : Int) (hpre : True) (k0 : (lw3f_c10 x0 x1 x2 f0 f1 f2 f3 = false)) : lw3f_z7 P x0 x1 x2 f0 f1 f2 f3 := ⟨h, k0⟩
def lw3f_z8 (P : Prop) (x0 x1 x2 f0 f1 f2 f3 : Int) : Prop := (((((((((P ∧ lw3f_h2) ∧ lw3f_h3) ∧ lw3f_h3) ∧ lw3f_h14) ∧ (lw3f_c8 x0 x1 x2 f0 f1 f2 f3 = false)) ∧ lw3f_h2) ∧ lw3f_h4) ∧ lw3f_h3) ∧ lw3f_h6)
theorem lw3f_z8_h {P : Prop} (h : P) (x0 x1 x2 f0 f1 f2 f3 : Int) (hpre : True) (k0 : (lw3f_c8 x0 x1 x2 f0 f1 f2 f3 = false)) : lw3f_z8 P x0 x1 x2 f0 f1 f2 f3 := ⟨⟨⟨⟨⟨⟨⟨⟨⟨h, lw3f_g2⟩, lw3f_g3⟩, lw3f_g3⟩, lw3f_g14⟩, k0⟩, lw3f_g2⟩, lw3f_g4⟩, lw3f_g3⟩, lw3f_g6⟩
def lw3f_z9 (P : Prop) (x0 x1 x2 f0 f1 f2 f3 : Int) : Prop := (((((((P ∧ (lw3f_c11 x0 x1 x2 f0 f1 f2 f3 = true)) ∧ lw3f_h0) ∧ lw3f_h0) ∧ lw3f_h0) ∧ lw3f_h0) ∧ lw3f_h28) ∧ lw3f_h2)
theorem lw3f_z9_h {P : Prop} (h : P) (x0 x1 x2 f0 f1 f2 f3 : Int) (hpre : True) (k0 : (lw3f_c11 x0 x1 x2 f0 f1 f2 f3 = true)) : lw3f_z9 P x0 x1 x2 f0 f1 f2 f3 := ⟨⟨⟨⟨⟨⟨⟨h, k0⟩, lw3f_g0⟩, lw3f_g0⟩, lw3f_g0⟩, lw3f_g0⟩, lw3f_g28⟩, lw3f_g2⟩
def lw3f_z10 (P : Prop) (x0 x1 x2 f0 f1 f2 f3 : Int) : Prop := (((((((P ∧ (lw3f_c9 x0 x1 x2 f0 f1 f2 f3 = true)) ∧ (lw3f_c9 x0 x1 x2 f0 f1 f2 f3 = true)) ∧ (lw3f_c9 x0 x1 x2 f0 f1 f2 f3 = true)) ∧ lw3f_h6) ∧ (lw3f_c9 x0 x1 x2 f0 f1 f2 f3 = true)) ∧ (lw3f_c9 x0 x1 x2 f0 f1 f2 f3 = true)) ∧ (lw3f_c9 x0 x1 x2 f0 f1 f2 f3 = true))
theorem lw3f_z10_h {P : Prop} (h : P) (x0 x1 x2 f0 f1 f2 f3 : Int) (hpre : True) (k0 : (lw3f_c9 x0 x1 x2 f0 f1 f2 f3 = true)) : lw3f_z10 P x0 x1 x2 f0 f1 f2 f3 := ⟨⟨⟨⟨⟨⟨⟨h, k0⟩, k0⟩, k0⟩, lw3f_g6⟩, k0⟩, k0⟩, k0⟩
def lw3f_z11 (P : Prop) (x0 x1 x2 f0 f1 f2 f3 : Int) : Prop := ((((((((((((((((((((P ∧ (lw3f_c10 x0 x1 x2 f0 f1 f2 f3 = true)) ∧ lw3f_h16) ∧ lw3f_h2) ∧ lw3f_h6) ∧ lw3f_h3) ∧ lw3f_h3) ∧ lw3f_h4) ∧ lw3f_h3) ∧ lw3f_h2) ∧ lw3f_h6) ∧ lw3f_h4) ∧ lw3f_h3) ∧ lw3f_h3) ∧ lw3f_h4) ∧ lw3f_h0) ∧ lw3f_h31) ∧ lw3f_h31) ∧ lw3f_h31) ∧ lw3f_h31) ∧ lw3f_h0)
theorem lw3f_z11_h {P : Prop} (h : P) (x0 x1 x2 f0 f1 f2 f3 : Int) (hpre : True) (k0 : (lw3f_c10 x0 x1 x2 f0 f1 f2 f3 = true)) : lw3f_z11 P x0 x1 x2 f0 f1 f2 f3 := ⟨⟨⟨⟨⟨⟨⟨⟨⟨⟨⟨⟨⟨⟨⟨⟨⟨⟨⟨⟨h, k0⟩, lw3f_g16⟩, lw3f_g2⟩, lw3f_g6⟩, lw3f_g3⟩, lw3f_g3⟩, lw3f_g4⟩, lw3f_g3⟩, lw3f_g2⟩, lw3f_g6⟩, lw3f_g4⟩, lw3f_g3⟩, lw3f_g3⟩, lw3f_g4⟩, lw3f_g0⟩, lw3f_g31⟩, lw3f_g31⟩, lw3f_g31⟩, lw3f_g31⟩, lw3f_g0⟩
def lw3f_z12 (P : Prop) (x0 x1 x2 f0 f1 f2 f3 : Int) : Prop := (((((P ∧ (lw3f_c11 x0 x1 x2 f0 f1 f2 f3 = false)) ∧ lw3f_h2) ∧ lw3f_h6) ∧ lw3f_h3) ∧ lw3f_h4)
theorem lw3f_z12_h {P : Prop} (h : P) (x0 x1 x2 f0 f1 f2 f3 : Int) (hpre : True) (k0 : (lw3f_c11 x0 x1 x2 f0 f1 f2 f3 = false)) : lw3f_z12 P x0 x1 x2 f0 f1 f2 f3 := ⟨⟨⟨⟨⟨h, k0⟩, lw3f_g2⟩, lw3f_g6⟩, lw3f_g3⟩, lw3f_g4⟩
def lw3f_z13 (P : Prop) (x0 x1 x2 f0 f1 f2 f3 : Int) : Prop := (((((((P ∧ (lw3f_c12 x0 x1 x2 f0 f1 f2 f3 = true)) ∧ lw3f_h0) ∧ lw3f_h0) ∧ lw3f_h0) ∧ lw3f_h0) ∧ (lw3f_c13 x0 x1 x2 f0 f1 f2 f3 = false)) ∧ (lw3f_c14 x0 x1 x2 f0 f1 f2 f3 = true))
theorem lw3f_z13_h {P : Prop} (h : P) (x0 x1 x2 f0 f1 f2 f3 : Int) (hpre : True) (k0 : (lw3f_c12 x0 x1 x2 f0 f1 f2 f3 = true)) (k1 : (lw3f_c13 x0 x1 x2 f0 f1 f2 f3 = false)) (k2 : (lw3f_c14 x0 x1 x2 f0 f1 f2 f3 = true)) : lw3f_z13 P x0 x1 x2 f0 f1 f2 f3 := ⟨⟨⟨⟨⟨⟨⟨h, k0⟩, lw3f_g0⟩, lw3f_g0⟩, lw3f_g0⟩, lw3f_g0⟩, k1⟩, k2⟩
def lw3f_z14 (P : Prop) (x0 x1 x2 f0 f1 f2 f3 : Int) : Prop := (((((((((((((((((((((((((((((((((((((((((((((((((((((((((((((((((((((((((((((((((((((((((((((((((((((((((((((((((((((((((((((((((((((((((((((((((((((((((((((((((((((((((((((((((((((((((((((((((((((((((((((((((((((((((((((((((((((((((((((((((((((((((((((((((((((((((((P ∧ (lw3f_c12 x0 x1 x2 f0 f1 f2 f3 = false)) ∧ lw3f_h0) ∧ lw3f_h0) ∧ lw3f_h0) ∧ lw3f_h0) ∧ lw3f_h0) ∧ (lw3f_c15 x0 x1 x2 f0 f1 f2 f3 = false)) ∧ (lw3f_c14 x0 x1 x2 f0 f1 f2 f3 = false)) ∧ lw3f_h0) ∧ lw3f_h7) ∧ lw3f_h2) ∧ lw3f_h3) ∧ (lw3f_c1 x0 x1 x2 f0 f1 f2 f3 = false)) ∧ (lw3f_c1 x0 x1 x2 f0 f1 f2 f3 = false)) ∧ (lw3f_c1 x0 x1 x2 f0 f1 f2 f3 = false)) ∧ (lw3f_c1 x0 x1 x2 f0 f1 f2 f3 = false)) ∧ (lw3f_c2 x0 x1 x2 f0 f1 f2 f3 = false)) ∧ lw3f_h0) ∧ lw3f_h2) ∧ lw3f_h4) ∧ (lw3f_c3 x0 x1 x2 f0 f1 f2 f3 = false)) ∧ (lw3f_c3 x0 x1 x2 f0 f1 f2 f3 = false)) ∧ (lw3f_c3 x0 x1 x2 f0 f1 f2 f3 = false)) ∧ (lw3f_c3 x0 x1 x2 f0 f1 f2 f3 = false)) ∧ (lw3f_c4 x0 x1 x2 f0 f1 f2 f3 = false)) ∧ lw3f_h0) ∧ lw3f_h2) ∧ lw3f_h6) ∧ (lw3f_c5 x0 x1 x2 f0 f1 f2 f3 = false)) ∧ (lw3f_c5 x0 x1 x2 f0 f1 f2 f3 = false)) ∧ (lw3f_c5 x0 x1 x2 f0 f1 f2 f3 = false)) ∧ (lw3f_c5 x0 x1 x2 f0 f1 f2 f3 = false)) ∧ (lw3f_c6 x0 x1 x2 f0 f1 f2 f3 = false)) ∧ lw3f_h0) ∧ lw3f_h2) ∧ lw3f_h14) ∧ lw3f_h0) ∧ lw3f_h0) ∧ lw3f_h0) ∧ lw3f_h0) ∧ lw3f_h15) ∧ lw3f_h0) ∧ lw3f_h0) ∧ lw3f_h0) ∧ lw3f_h14) ∧ lw3f_h0) ∧ lw3f_h0) ∧ lw3f_h0) ∧ lw3f_h2) ∧ lw3f_h3) ∧ (lw3f_c16 x0 x1 x2 f0 f1 f2 f3 = false)) ∧ (lw3f_c16 x0 x1 x2 f0 f1 f2 f3 = false)) ∧ (lw3f_c16 x0 x1 x2 f0 f1 f2 f3 = false)) ∧ (lw3f_c16 x0 x1 x2 f0 f1 f2 f3 = false)) ∧ (lw3f_c17 x0 x1 x2 f0 f1 f2 f3 = false)) ∧ lw3f_h0) ∧ lw3f_h2) ∧ lw3f_h4) ∧ (lw3f_c18 x0 x1 x2 f0 f1 f2 f3 = false)) ∧ (lw3f_c18 x0 x1 x2 f0 f1 f2 f3 = false)) ∧ (lw3f_c18 x0 x1 x2 f0 f1 f2 f3 = false)) ∧ (lw3f_c18 x0 x1 x2 f0 f1 f2 f3 = false)) ∧ (lw3f_c19 x0 x1 x2 f0 f1 f2 f3 = false)) ∧ lw3f_h0) ∧ lw3f_h2) ∧ lw3f_h6) ∧ (lw3f_c20 x0 x1 x2 f0 f1 f2 f3 = false)) ∧ (lw3f_c20 x0 x1 x2 f0 f1 f2 f3 = false)) ∧ (lw3f_c20 x0 x1 x2 f0 f1 f2 f3 = false)) ∧ (lw3f_c20 x0 x1 x2 f0 f1 f2 f3 = false)) ∧ (lw3f_c21 x0 x1 x2 f0 f1 f2 f3 = false)) ∧ lw3f_h0) ∧ lw3f_h0) ∧ lw3f_h0) ∧ lw3f_h0) ∧ lw3f_h0) ∧ lw3f_h0) ∧ lw3f_h45) ∧ lw3f_h2) ∧ lw3f_h3) ∧ lw3f_h0) ∧ lw3f_h2) ∧ lw3f_h4) ∧ lw3f_h0) ∧ lw3f_h2) ∧ lw3f_h6) ∧ lw3f_h0) ∧ lw3f_h0) ∧ lw3f_h0) ∧ lw3f_h2) ∧ lw3f_h3) ∧ lw3f_h14) ∧ lw3f_h0) ∧ lw3f_h3) ∧ lw3f_h2) ∧ lw3f_h4) ∧ lw3f_h14) ∧ lw3f_h2) ∧ lw3f_h0) ∧ lw3f_h4) ∧ lw3f_h2) ∧ lw3f_h6) ∧ lw3f_h14) ∧ lw3f_h2) ∧ lw3f_h2) ∧ lw3f_h0) ∧ lw3f_h6) ∧ lw3f_h0) ∧ lw3f_h2) ∧ lw3f_h3) ∧ lw3f_h14) ∧ lw3f_h2) ∧ lw3f_h2) ∧ lw3f_h0) ∧ lw3f_h3) ∧ lw3f_h2) ∧ lw3f_h4) ∧ lw3f_h14) ∧ lw3f_h2) ∧ lw3f_h0) ∧ lw3f_h4) ∧ lw3f_h2) ∧ lw3f_h6) ∧ lw3f_h14) ∧ lw3f_h0) ∧ lw3f_h6) ∧ lw3f_h0) ∧ lw3f_h2) ∧ lw3f_h3) ∧ lw3f_h3) ∧ lw3f_h2) ∧ lw3f_h4) ∧ lw3f_h4) ∧ lw3f_h2) ∧ lw3f_h6) ∧ lw3f_h6) ∧ lw3f_h0) ∧ lw3f_h2) ∧ lw3f_h2) ∧ lw3f_h3) ∧ lw3f_h3) ∧ lw3f_h2) ∧ lw3f_h4) ∧ lw3f_h4) ∧ lw3f_h2) ∧ lw3f_h6) ∧ lw3f_h6) ∧ lw3f_h0) ∧ (lw3f_c22 x0 x1 x2 f0 f1 f2 f3 = false)) ∧ (lw3f_c22 x0 x1 x2 f0 f1 f2 f3 = false)) ∧ (lw3f_c22 x0 x1 x2 f0 f1 f2 f3 = false)) ∧ (lw3f_c22 x0 x1 x2 f0 f1 f2 f3 = false)) ∧ (lw3f_c23 x0 x1 x2 f0 f1 f2 f3 = false)) ∧ lw3f_h0) ∧ lw3f_h2) ∧ lw3f_h2) ∧ lw3f_h3) ∧ lw3f_h4) ∧ lw3f_h2) ∧ lw3f_h4) ∧ lw3f_h6) ∧ lw3f_h2) ∧ lw3f_h6) ∧ lw3f_h14) ∧ lw3f_h0) ∧ (lw3f_c24 x0 x1 x2 f0 f1 f2 f3 = false)) ∧ (lw3f_c24 x0 x1 x2 f0 f1 f2 f3 = false)) ∧ (lw3f_c24 x0 x1 x2 f0 f1 f2 f3 = false)) ∧ (lw3f_c24 x0 x1 x2 f0 f1 f2 f3 = false)) ∧ (lw3f_c25 x0 x1 x2 f0 f1 f2 f3 = false)) ∧ lw3f_h0) ∧ lw3f_h2) ∧ lw3f_h2) ∧ lw3f_h3) ∧ lw3f_h6) ∧ lw3f_h2) ∧ lw3f_h4) ∧ lw3f_h14) ∧ lw3f_h2) ∧ lw3f_h6) ∧ lw3f_h50) ∧ lw3f_h0) ∧ (lw3f_c26 x0 x1 x2 f0 f1 f2 f3 = false)) ∧ (lw3f_c26 x0 x1 x2 f0 f1 f2 f3 = false)) ∧ (lw3f_c26 x0 x1 x2 f0 f1 f2 f3 = false)) ∧ (lw3f_c26 x0 x1 x2 f0 f1 f2 f3 = false)) ∧ (lw3f_c27 x0 x1 x2 f0 f1 f2 f3 = false)) ∧ lw3f_h0) ∧ lw3f_h2) ∧ lw3f_h2) ∧ lw3f_h3) ∧ lw3f_h14) ∧ lw3f_h2) ∧ lw3f_h4) ∧ lw3f_h50) ∧ lw3f_h2) ∧ lw3f_h6) ∧ lw3f_h53) ∧ lw3f_h0) ∧ (lw3f_c28 x0 x1 x2 f0 f1 f2 f3 = false)) ∧ (lw3f_c28 x0 x1 x2 f0 f1 f2 f3 = false)) ∧ (lw3f_c28 x0 x1 x2 f0 f1 f2 f3 = false)) ∧ (lw3f_c28 x0 x1 x2 f0 f1 f2 f3 = false)) ∧ (lw3f_c29 x0 x1 x2 f0 f1 f2 f3 = false)) ∧ lw3f_h0) ∧ lw3f_h2) ∧ lw3f_h2) ∧ lw3f_h3) ∧ lw3f_h50) ∧ lw3f_h2) ∧ lw3f_h4) ∧ lw3f_h53) ∧ lw3f_h2) ∧ lw3f_h6) ∧ lw3f_h56) ∧ lw3f_h0) ∧ (lw3f_c30 x0 x1 x2 f0 f1 f2 f3 = false)) ∧ (lw3f_c30 x0 x1 x2 f0 f1 f2 f3 = false)) ∧ (lw3f_c30 x0 x1 x2 f0 f1 f2 f3 = false)) ∧ (lw3f_c30 x0 x1 x2 f0 f1 f2 f3 = false)) ∧ (lw3f_c31 x0 x1 x2 f0 f1 f2 f3 = false)) ∧ lw3f_h0) ∧ lw3f_h2) ∧ lw3f_h2) ∧ lw3f_h3) ∧ lw3f_h53) ∧ lw3f_h2) ∧ lw3f_h4) ∧ lw3f_h56) ∧ lw3f_h2) ∧ lw3f_h6) ∧ lw3f_h59) ∧ lw3f_h0) ∧ (lw3f_c32 x0 x1 x2 f0 f1 f2 f3 = false)) ∧ (lw3f_c32 x0 x1 x2 f0 f1 f2 f3 = false)) ∧ (lw3f_c32 x0 x1 x2 f0 f1 f2 f3 = false)) ∧ (lw3f_c32 x0 x1 x2 f0 f1 f2 f3 = false)) ∧ (lw3f_c33 x0 x1 x2 f0 f1 f2 f3 = false)) ∧ lw3f_h0) ∧ lw3f_h0) ∧ lw3f_h0) ∧ lw3f_h0) ∧ lw3f_h0) ∧ lw3f_h0) ∧ lw3f_h0) ∧ lw3f_h0) ∧ lw3f_h0) ∧ lw3f_h0) ∧ lw3f_h2) ∧ lw3f_h3) ∧ (lw3f_c34 x0 x1 x2 f0 f1 f2 f3 = false)) ∧ lw3f_h2) ∧ lw3f_h4) ∧ (lw3f_c35 x0 x1 x2 f0 f1 f2 f3 = false)) ∧ lw3f_h2) ∧ lw3f_h6) ∧ (lw3f_c36 x0 x1 x2 f0 f1 f2 f3 = false)) ∧ lw3f_h2) ∧ lw3f_h14) ∧ (lw3f_c37 x0 x1 x2 f0 f1 f2 f3 = false)) ∧ lw3f_h2) ∧ lw3f_h50) ∧ (lw3f_c38 x0 x1 x2 f0 f1 f2 f3 = false)) ∧ lw3f_h2) ∧ lw3f_h53) ∧ (lw3f_c39 x0 x1 x2 f0 f1 f2 f3 = false)) ∧ lw3f_h0)
theorem lw3f_z14_h {P : Prop} (h : P) (x0 x1 x2 f0 f1 f2 f3 : Int) (hpre : True) (k0 : (lw3f_c12 x0 x1 x2 f0 f1 f2 f3 = false)) (k1 : (lw3f_c15 x0 x1 x2 f0 f1 f2 f3 = false)) (k2 : (lw3f_c14 x0 x1 x2 f0 f1 f2 f3 = false)) (k3 : (lw3f_c26 x0 x1 x2 f0 f1 f2 f3 = false)) (k4 : (lw3f_c27 x0 x1 x2 f0 f1 f2 f3 = false)) (k5 : (lw3f_c28 x0 x1 x2 f0 f1 f2 f3 = false)) (k6 : (lw3f_c29 x0 x1 x2 f0 f1 f2 f3 = false)) (k7 : (lw3f_c30 x0 x1 x2 f0 f1 f2 f3 = false)) (k8 : (lw3f_c31 x0 x1 x2 f0 f1 f2 f3 = false)) (k9 : (lw3f_c32 x0 x1 x2 f0 f1 f2 f3 = false)) (k10 : (lw3f_c33 x0 x1 x2 f0 f1 f2 f3 = false)) (k11 : (lw3f_c34 x0 x1 x2 f0 f1 f2 f3 = false)) (k12 : (lw3f_c35 x0 x1 x2 f0 f1 f2 f3 = false)) (k13 : (lw3f_c36 x0 x1 x2 f0 f1 f2 f3 = false)) (k14 : (lw3f_c37 x0 x1 x2 f0 f1 f2 f3 = false)) (k15 : (lw3f_c38 x0 x1 x2 f0 f1 f2 f3 = false)) (k16 : (lw3f_c39 x0 x1 x2 f0 f1 f2 f3 = false)) : lw3f_z14 P x0 x1 x2 f0 f1 f2 f3 := ⟨⟨⟨⟨⟨⟨⟨⟨⟨⟨⟨⟨⟨⟨⟨⟨⟨⟨⟨⟨⟨⟨⟨⟨⟨⟨⟨⟨⟨⟨⟨⟨⟨⟨⟨⟨⟨⟨⟨⟨⟨⟨⟨⟨⟨⟨⟨⟨⟨⟨⟨⟨⟨⟨⟨⟨⟨⟨⟨⟨⟨⟨⟨⟨⟨⟨⟨⟨⟨⟨⟨⟨⟨⟨⟨⟨⟨⟨⟨⟨⟨⟨⟨⟨⟨⟨⟨⟨⟨⟨⟨⟨⟨⟨⟨⟨⟨⟨⟨⟨⟨⟨⟨⟨⟨⟨⟨⟨⟨⟨⟨⟨⟨⟨⟨⟨⟨⟨⟨⟨⟨⟨⟨⟨⟨⟨⟨⟨⟨⟨⟨⟨⟨⟨⟨⟨⟨⟨⟨⟨⟨⟨⟨⟨⟨⟨⟨⟨⟨⟨⟨⟨⟨⟨⟨⟨⟨⟨⟨⟨⟨⟨⟨⟨⟨⟨⟨⟨⟨⟨⟨⟨⟨⟨⟨⟨⟨⟨⟨⟨⟨⟨⟨⟨⟨⟨⟨⟨⟨⟨⟨⟨⟨⟨⟨⟨⟨⟨⟨⟨⟨⟨⟨⟨⟨⟨⟨⟨⟨⟨⟨⟨⟨⟨⟨⟨⟨⟨⟨⟨⟨⟨⟨⟨⟨⟨⟨⟨⟨⟨⟨⟨⟨⟨⟨⟨⟨⟨⟨⟨⟨⟨⟨⟨⟨⟨⟨⟨⟨⟨⟨⟨⟨⟨⟨⟨⟨⟨⟨⟨⟨⟨⟨⟨⟨⟨⟨h, k0⟩, lw3f_g0⟩, lw3f_g0⟩, lw3f_g0⟩, lw3f_g0⟩, lw3f_g0⟩, k1⟩, k2⟩, lw3f_g0⟩, lw3f_g7⟩, lw3f_g2⟩, lw3f_g3⟩, (lw3f_c1_ff x0 x1 x2 f0 f1 f2 f3 hpre)⟩, (lw3f_c1_ff x0 x1 x2 f0 f1 f2 f3 hpre)⟩, (lw3f_c1_ff x0 x1 x2 f0 f1 f2 f3 hpre)⟩, (lw3f_c1_ff x0 x1 x2 f0 f1 f2 f3 hpre)⟩, (lw3f_c2_ff x0 x1 x2 f0 f1 f2 f3 hpre)⟩, lw3f_g0⟩, lw3f_g2⟩, lw3f_g4⟩, (lw3f_c3_ff x0 x1 x2 f0 f1 f2 f3 hpre)⟩, (lw3f_c3_ff x0 x1 x2 f0 f1 f2 f3 hpre)⟩, (lw3f_c3_ff x0 x1 x2 f0 f1 f2 f3 hpre)⟩, (lw3f_c3_ff x0 x1 x2 f0 f1 f2 f3 hpre)⟩, (lw3f_c4_ff x0 x1 x2 f0 f1 f2 f3 hpre)⟩, lw3f_g0⟩, lw3f_g2⟩, lw3f_g6⟩, (lw3f_c5_ff x0 x1 x2 f0 f1 f2 f3 hpre)⟩, (lw3f_c5_ff x0 x1 x2 f0 f1 f2 f3 hpre)⟩, (lw3f_c5_ff x0 x1 x2 f0 f1 f2 f3 hpre)⟩, (lw3f_c5_ff x0 x1 x2 f0 f1 f2 f3 hpre)⟩, (lw3f_c6_ff x0 x1 x2 f0 f1 f2 f3 hpre)⟩, lw3f_g0⟩, lw3f_g2⟩, lw3f_g14⟩, lw3f_g0⟩, lw3f_g0⟩, lw3f_g0⟩, lw3f_g0⟩, lw3f_g15⟩, lw3f_g0⟩, lw3f_g0⟩, lw3f_g0⟩, lw3f_g14⟩, lw3f_g0⟩, lw3f_g0⟩, lw3f_g0⟩, lw3f_g2⟩, lw3f_g3⟩, (lw3f_c16_ff x0 x1 x2 f0 f1 f2 f3 hpre)⟩, (lw3f_c16_ff x0 x1 x2 f0 f1 f2 f3 hpre)⟩, (lw3f_c16_ff x0 x1 x2 f0 f1 f2 f3 hpre)⟩, (lw3f_c16_ff x0 x1 x2 f0 f1 f2 f3 hpre)⟩, (lw3f_c17_ff x0 x1 x2 f0 f1 f2 f3 hpre)⟩, lw3f_g0⟩, lw3f_g2⟩, lw3f_g4⟩, (lw3f_c18_ff x0 x1 x2 f0 f1 f2 f3 hpre)⟩, (lw3f_c18_ff x0 x1 x2 f0 f1 f2 f3 hpre)⟩, (lw3f_c18_ff x0 x1 x2 f0 f1 f2 f3 hpre)⟩, (lw3f_c18_ff x0 x1 x2 f0 f1 f2 f3 hpre)⟩, (lw3f_c19_ff x0 x1 x2 f0 f1 f2 f3 hpre)⟩, lw3f_g0⟩, lw3f_g2⟩, lw3f_g6⟩, (lw3f_c20_ff x0 x1 x2 f0 f1 f2 f3 hpre)⟩, (lw3f_c20_ff x0 x1 x2 f0 f1 f2 f3 hpre)⟩, (lw3f_c20_ff x0 x1 x2 f0 f1 f2 f3 hpre)⟩, (lw3f_c20_ff x0 x1 x2 f0 f1 f2 f3 hpre)⟩, (lw3f_c21_ff x0 x1 x2 f0 f1 f2 f3 hpre)⟩, lw3f_g0⟩, lw3f_g0⟩, lw3f_g0⟩, lw3f_g0⟩, lw3f_g0⟩, lw3f_g0⟩, lw3f_g45⟩, lw3f_g2⟩, lw3f_g3⟩, lw3f_g0⟩, lw3f_g2⟩, lw3f_g4⟩, lw3f_g0⟩, lw3f_g2⟩, lw3f_g6⟩, lw3f_g0⟩, lw3f_g0⟩, lw3f_g0⟩, lw3f_g2⟩, lw3f_g3⟩, lw3f_g14⟩, lw3f_g0⟩, lw3f_g3⟩, lw3f_g2⟩, lw3f_g4⟩, lw3f_g14⟩, lw3f_g2⟩, lw3f_g0⟩, lw3f_g4⟩, lw3f_g2⟩, lw3f_g6⟩, lw3f_g14⟩, lw3f_g2⟩, lw3f_g2⟩, lw3f_g0⟩, lw3f_g6⟩, lw3f_g0⟩, lw3f_g2⟩, lw3f_g3⟩, lw3f_g14⟩, lw3f_g2⟩, lw3f_g2⟩, lw3f_g0⟩, lw3f_g3⟩, lw3f_g2⟩, lw3f_g4⟩, lw3f_g14⟩, lw3f_g2⟩, lw3f_g0⟩, lw3f_g4⟩, lw3f_g2⟩, lw3f_g6⟩, lw3f_g14⟩, lw3f_g0⟩, lw3f_g6⟩, lw3f_g0⟩, lw3f_g2⟩, lw3f_g3⟩, lw3f_g3⟩, lw3f_g2⟩, lw3f_g4⟩, lw3f_g4⟩, lw3f_g2⟩, lw3f_g6⟩, lw3f_g6⟩, lw3f_g0⟩, lw3f_g2⟩, lw3f_g2⟩, lw3f_g3⟩, lw3f_g3⟩, lw3f_g2⟩, lw3f_g4⟩, lw3f_g4⟩, lw3f_g2⟩, lw3f_g6⟩, lw3f_g6⟩, lw3f_g0⟩, (lw3f_c22_ff x0 x1 x2 f0 f1 f2 f3 hpre)⟩, (lw3f_c22_ff x0 x1 x2 f0 f1 f2 f3 hpre)⟩, (lw3f_c22_ff x0 x1 x2 f0 f1 f2 f3 hpre)⟩, (lw3f_c22_ff x0 x1 x2 f0 f1 f2 f3 hpre)⟩, (lw3f_c23_ff x0 x1 x2 f0 f1 f2 f3 hpre)⟩, lw3f_g0⟩, lw3f_g2⟩, lw3f_g2⟩, lw3f_g3⟩, lw3f_g4⟩, lw3f_g2⟩, lw3f_g4⟩, lw3f_g6⟩, lw3f_g2⟩, lw3f_g6⟩, lw3f_g14⟩, lw3f_g0⟩, (lw3f_c24_ff x0 x1 x2 f0 f1 f2 f3 hpre)⟩, (lw3f_c24_ff x0 x1 x2 f0 f1 f2 f3 hpre)⟩, (lw3f_c24_ff x0 x1 x2 f0 f1 f2 f3 hpre)⟩, (lw3f_c24_ff x0 x1 x2 f0 f1 f2 f3 hpre)⟩, (lw3f_c25_ff x0 x1 x2 f0 f1 f2 f3 hpre)⟩, lw3f_g0⟩, lw3f_g2⟩, lw3f_g2⟩, lw3f_g3⟩, lw3f_g6⟩, lw3f_g2⟩, lw3f_g4⟩, lw3f_g14⟩, lw3f_g2⟩, lw3f_g6⟩, lw3f_g50⟩, lw3f_g0⟩, k3⟩, k3⟩, k3⟩, k3⟩, k4⟩, lw3f_g0⟩, lw3f_g2⟩, lw3f_g2⟩, lw3f_g3⟩, lw3f_g14⟩, lw3f_g2⟩, lw3f_g4⟩, lw3f_g50⟩, lw3f_g2⟩, lw3f_g6⟩, lw3f_g53⟩, lw3f_g0⟩, k5⟩, k5⟩, k5⟩, k5⟩, k6⟩, lw3f_g0⟩, lw3f_g2⟩, lw3f_g2⟩, lw3f_g3⟩, lw3f_g50⟩, lw3f_g2⟩, lw3f_g4⟩, lw3f_g53⟩, lw3f_g2⟩, lw3f_g6⟩, lw3f_g56⟩, lw3f_g0⟩, k7⟩, k7⟩, k7⟩, k7⟩, k8⟩, lw3f_g0⟩, lw3f_g2⟩, lw3f_g2⟩, lw3f_g3⟩, lw3f_g53⟩, lw3f_g2⟩, lw3f_g4⟩, lw3f_g56⟩, lw3f_g2⟩, lw3f_g6⟩, lw3f_g59⟩, lw3f_g0⟩, k9⟩, k9⟩, k9⟩, k9⟩, k10⟩, lw3f_g0⟩, lw3f_g0⟩, lw3f_g0⟩, lw3f_g0⟩, lw3f_g0⟩, lw3f_g0⟩, lw3f_g0⟩, lw3f_g0⟩, lw3f_g0⟩, lw3f_g0⟩, lw3f_g2⟩, lw3f_g3⟩, k11⟩, lw3f_g2⟩, lw3f_g4⟩, k12⟩, lw3f_g2⟩, lw3f_g6⟩, k13⟩, lw3f_g2⟩, lw3f_g14⟩, k14⟩, lw3f_g2⟩, lw3f_g50⟩, k15⟩, lw3f_g2⟩, lw3f_g53⟩, k16⟩, lw3f_g0⟩
def lw3f_r0 (x0 x1 x2 f0 f1 f2 f3 : Int) : Prop := (lw3f_z3 (lw3f_z2 (lw3f_z1 (lw3f_z0 True x0 x1 x2 f0 f1 f2 f3) x0 x1 x2 f0 f1 f2 f3) x0 x1 x2 f0 f1 f2 f3) x0 x1 x2 f0 f1 f2 f3)
theorem lw3f_o0 (x0 x1 x2 f0 f1 f2 f3 : Int) (c : Nat) : obY (lw3f_e0 x0 x1 x2 f0 f1 f2 f3 c) = lw3f_r0 x0 x1 x2 f0 f1 f2 f3 := by kernel_rfl
theorem lw3f_g0_ (x0 x1 x2 f0 f1 f2 f3 : Int) (c : Nat) : goodY (lw3f_e0 x0 x1 x2 f0 f1 f2 f3 c) = true := by kernel_rfl
theorem lw3f_p0 (x0 x1 x2 f0 f1 f2 f3 : Int) (c : Nat) (h : lw3f_r0 x0 x1 x2 f0 f1 f2 f3) : ∃ s1 R, SndF Tryz.prog 3 #[.slice (some ⟨6, 0, none⟩) 3 c, .bool false, .agg #[.int .i16 f0, .int .i16 f1, .int .i16 f2, .int .i16 f3]] (aw3S0.push (.cells [.int .i8 x0, .int .i8 x1, .int .i8 x2] 0 true 0 true)) (.bool true) s1 R 0 :=
  sndY (r := lw3f_e0 x0 x1 x2 f0 f1 f2 f3 c) (by delta lw3f_e0; exact Eq.refl _) gfol lw3f_X (lw3f_g0_ x0 x1 x2 f0 f1 f2 f3 c) ((lw3f_o0 x0 x1 x2 f0 f1 f2 f3 c).symm ▸ h)
def lw3f_r1 (x0 x1 x2 f0 f1 f2 f3 : Int) : Prop := (lw3f_z9 (lw3f_z8 (lw3f_z7 (lw3f_z6 (lw3f_z2 (lw3f_z5 (lw3f_z4 (lw3f_z0 True x0 x1 x2 f0 f1 f2 f3) x0 x1 x2 f0 f1 f2 f3) x0 x1 x2 f0 f1 f2 f3) x0 x1 x2 f0 f1 f2 f3) x0 x1 x2 f0 f1 f2 f3) x0 x1 x2 f0 f1 f2 f3) x0 x1 x2 f0 f1 f2 f3) x0 x1 x2 f0 f1 f2 f3)
theorem lw3f_o1 (x0 x1 x2 f0 f1 f2 f3 : Int) (c : Nat) : obY (lw3f_e1 x0 x1 x2 f0 f1 f2 f3 c) = lw3f_r1 x0 x1 x2 f0 f1 f2 f3 := by kernel_rfl
theorem lw3f_g1_ (x0 x1 x2 f0 f1 f2 f3 : Int) (c : Nat) : goodY (lw3f_e1 x0 x1 x2 f0 f1 f2 f3 c) = true := by kernel_rfl
theorem lw3f_p1 (x0 x1 x2 f0 f1 f2 f3 : Int) (c : Nat) (h : lw3f_r1 x0 x1 x2 f0 f1 f2 f3) : ∃ s1 R, SndF Tryz.prog 3 #[.slice (some ⟨6, 0, none⟩) 3 c, .bool false, .agg #[.int .i16 f0, .int .i16 f1, .int .i16 f2, .int .i16 f3]] (aw3S0.push (.cells [.int .i8 x0, .int .i8 x1, .int .i8 x2] 0 true 0 true)) (.bool true) s1 R 0 :=
  sndY (r := lw3f_e1 x0 x1 x2 f0 f1 f2 f3 c) (by delta lw3f_e1; exact Eq.refl _) gfol lw3f_X (lw3f_g1_ x0 x1 x2 f0 f1 f2 f3 c) ((lw3f_o1 x0 x1 x2 f0 f1 f2 f3 c).symm ▸ h)
def lw3f_r2 (x0 x1 x2 f0 f1 f2 f3 : Int) : Prop := (lw3f_z13 (lw3f_z12 (lw3f_z8 (lw3f_z11 (lw3f_z6 (lw3f_z2 (lw3f_z10 (lw3f_z4 (lw3f_z0 True x0 x1 x2 f0 f1 f2 f3) x0 x1 x2 f0 f1 f2 f3) x0 x1 x2 f0 f1 f2 f3) x0 x1 x2 f0 f1 f2 f3) x0 x1 x2 f0 f1 f2 f3) x0 x1 x2 f0 f1 f2 f3) x0 x1 x2 f0 f1 f2 f3) x0 x1 x2 f0 f1 f2 f3) x0 x1 x2 f0 f1 f2 f3)
theorem lw3f_o2 (x0 x1 x2 f0 f1 f2 f3 : Int) (c : Nat) : obY (lw3f_e2 x0 x1 x2 f0 f1 f2 f3 c) = lw3f_r2 x0 x1 x2 f0 f1 f2 f3 := by kernel_rfl
theorem lw3f_g2_ (x0 x1 x2 f0 f1 f2 f3 : Int) (c : Nat) : goodY (lw3f_e2 x0 x1 x2 f0 f1 f2 f3 c) = true := by kernel_rfl
theorem lw3f_p2 (x0 x1 x2 f0 f1 f2 f3 : Int) (c : Nat) (h : lw3f_r2 x0 x1 x2 f0 f1 f2 f3) : ∃ s1 R, SndF Tryz.prog 3 #[.slice (some ⟨6, 0, none⟩) 3 c, .bool false, .agg #[.int .i16 f0, .int .i16 f1, .int .i16 f2, .int .i16 f3]] (aw3S0.push (.cells [.int .i8 x0, .int .i8 x1, .int .i8 x2] 0 true 0 true)) (.bool true) s1 R 0 :=
  sndY (r := lw3f_e2 x0 x1 x2 f0 f1 f2 f3 c) (by delta lw3f_e2; exact Eq.refl _) gfol lw3f_X (lw3f_g2_ x0 x1 x2 f0 f1 f2 f3 c) ((lw3f_o2 x0 x1 x2 f0 f1 f2 f3 c).symm ▸ h)
def lw3f_r3 (x0 x1 x2 f0 f1 f2 f3 : Int) : Prop := (lw3f_z14 (lw3f_z12 (lw3f_z8 (lw3f_z11 (lw3f_z6 (lw3f_z2 (lw3f_z10 (lw3f_z4 (lw3f_z0 True x0 x1 x2 f0 f1 f2 f3) x0 x1 x2 f0 f1 f2 f3) x0 x1 x2 f0 f1 f2 f3) x0 x1 x2 f0 f1 f2 f3) x0 x1 x2 f0 f1 f2 f3) x0 x1 x2 f0 f1 f2 f3) x0 x1 x2 f0 f1 f2 f3) x0 x1 x2 f0 f1 f2 f3) x0 x1 x2 f0 f1 f2 f3)
theorem lw3f_o3 (x0 x1 x2 f0 f1 f2 f3 : Int) (c : Nat) : obY (lw3f_e3 x0 x1 x2 f0 f1 f2 f3 c) = lw3f_r3 x0 x1 x2 f0 f1 f2 f3 := by kernel_rfl
theorem lw3f_g3_ (x0 x1 x2 f0 f1 f2 f3 : Int) (c : Nat) : goodY (lw3f_e3 x0 x1 x2 f0 f1 f2 f3 c) = true := by kernel_rfl
theorem lw3f_p3 (x0 x1 x2 f0 f1 f2 f3 : Int) (c : Nat) (h : lw3f_r3 x0 x1 x2 f0 f1 f2 f3) : ∃ s1 R, SndF Tryz.prog 3 #[.slice (some ⟨6, 0, none⟩) 3 c, .bool false, .agg #[.int .i16 f0, .int .i16 f1, .int .i16 f2, .int .i16 f3]] (aw3S0.push (.cells [.int .i8 x0, .int .i8 x1, .int .i8 x2] 0 true 0 true)) (.bool true) s1 R 0 :=
  sndY (r := lw3f_e3 x0 x1 x2 f0 f1 f2 f3 c) (by delta lw3f_e3; exact Eq.refl _) gfol lw3f_X (lw3f_g3_ x0 x1 x2 f0 f1 f2 f3 c) ((lw3f_o3 x0 x1 x2 f0 f1 f2 f3 c).symm ▸ h)
theorem lw3f_any (x0 x1 x2 f0 f1 f2 f3 : Int) (c : Nat) (hpre : True) : ∃ s1 R, SndF Tryz.prog 3 #[.slice (some ⟨6, 0, none⟩) 3 c, .bool false, .agg #[.int .i16 f0, .int .i16 f1, .int .i16 f2, .int .i16 f3]] (aw3S0.push (.cells [.int .i8 x0, .int .i8 x1, .int .i8 x2] 0 true 0 true)) (.bool true) s1 R 0 := by
  rcases Bool.eq_false_or_eq_true (lw3f_c0 x0 x1 x2 f0 f1 f2 f3) with h0 | h0
  ·
    rcases Bool.eq_false_or_eq_true (lw3f_c9 x0 x1 x2 f0 f1 f2 f3) with h1 | h1
    ·
      have h2 : (lw3f_c1 x0 x1 x2 f0 f1 f2 f3 = false) := lw3f_c1_ff x0 x1 x2 f0 f1 f2 f3 hpre
      have h3 : (lw3f_c2 x0 x1 x2 f0 f1 f2 f3 = false) := lw3f_c2_ff x0 x1 x2 f0 f1 f2 f3 hpre
      have h4 : (lw3f_c3 x0 x1 x2 f0 f1 f2 f3 = false) := lw3f_c3_ff x0 x1 x2 f0 f1 f2 f3 hpre
      have h5 : (lw3f_c4 x0 x1 x2 f0 f1 f2 f3 = false) := lw3f_c4_ff x0 x1 x2 f0 f1 f2 f3 hpre
      have h6 : (lw3f_c5 x0 x1 x2 f0 f1 f2 f3 = false) := lw3f_c5_ff x0 x1 x2 f0 f1 f2 f3 hpre
      have h7 : (lw3f_c6 x0 x1 x2 f0 f1 f2 f3 = false) := lw3f_c6_ff x0 x1 x2 f0 f1 f2 f3 hpre
      have h8 : (lw3f_c7 x0 x1 x2 f0 f1 f2 f3 = true) := by
        have r7 : Rg.has (0, 0) (lw3f_at0 x0) := by
          have hr : InR [(-100, 100)] [(lw3f_at0 x0)] := ⟨lw3f_rg7 x0 x1 x2 f0 f1 f2 f3 hpre, trivial⟩
          have ha := BE.all_ok hr lw3f_q20 (by kernel_rfl)
          have hx : BE.ev [(lw3f_at0 x0)] (.cm .eq (.v 0) (.k (0))) = true := (show BE.ev [(lw3f_at0 x0)] (.cm .eq (.v 0) (.k (0))) = lw3f_c0 x0 x1 x2 f0 f1 f2 f3 by kernel_rfl).trans h0
          have ha := orT ha hx
          exact rgB ha
        have hr : InR [(0, 0)] [(lw3f_at0 x0)] := ⟨r7, trivial⟩
        have e1 : lw3f_c7 x0 x1 x2 f0 f1 f2 f3 = BE.ev [(lw3f_at0 x0)] lw3f_q21 := by kernel_rfl
        rw [e1]
        exact BE.tri_ok hr (by kernel_rfl) (by kernel_rfl)
      have h9 : (lw3f_c10 x0 x1 x2 f0 f1 f2 f3 = true) := by
        have r7 : Rg.has (0, 0) (lw3f_at0 x0) := by
          have hr : InR [(-100, 100)] [(lw3f_at0 x0)] := ⟨lw3f_rg7 x0 x1 x2 f0 f1 f2 f3 hpre, trivial⟩
          have ha := BE.all_ok hr lw3f_q20 (by kernel_rfl)
          have hx : BE.ev [(lw3f_at0 x0)] (.cm .eq (.v 0) (.k (0))) = true := (show BE.ev [(lw3f_at0 x0)] (.cm .eq (.v 0) (.k (0))) = lw3f_c0 x0 x1 x2 f0 f1 f2 f3 by kernel_rfl).trans h0
          have ha := orT ha hx
          exact rgB ha
        have r8 : Rg.has (0, 0) (lw3f_at0 x1) := by
          have hr : InR [(-100, 100)] [(lw3f_at0 x1)] := ⟨lw3f_rg8 x0 x1 x2 f0 f1 f2 f3 hpre, trivial⟩
          have ha := BE.all_ok hr lw3f_q20 (by kernel_rfl)
          have hx : BE.ev [(lw3f_at0 x1)] (.cm .eq (.v 0) (.k (0))) = true := (show BE.ev [(lw3f_at0 x1)] (.cm .eq (.v 0) (.k (0))) = lw3f_c9 x0 x1 x2 f0 f1 f2 f3 by kernel_rfl).trans h1
          have ha := orT ha hx
          exact rgB ha
        have hr : InR [(0, 0), (0, 0), (-100, 100)] [(lw3f_at0 x0), (lw3f_at0 x1), (lw3f_at0 x2)] := ⟨r7, ⟨r8, ⟨lw3f_rg9 x0 x1 x2 f0 f1 f2 f3 hpre, trivial⟩⟩⟩
        have e1 : lw3f_c10 x0 x1 x2 f0 f1 f2 f3 = BE.ev [(lw3f_at0 x0), (lw3f_at0 x1), (lw3f_at0 x2)] (.not lw3f_q24) := by kernel_rfl
        rw [e1]
        exact BE.tri_ok hr (by kernel_rfl) (by kernel_rfl)
      have h10 : (lw3f_c8 x0 x1 x2 f0 f1 f2 f3 = false) := by
        have hz := (show lw3f_c7 x0 x1 x2 f0 f1 f2 f3 = Bool.not (lw3f_c8 x0 x1 x2 f0 f1 f2 f3) by kernel_rfl).symm.trans h8
        generalize lw3f_c8 x0 x1 x2 f0 f1 f2 f3 = z at hz ⊢
        cases z <;> first | rfl | cases hz
      have h11 : (lw3f_c11 x0 x1 x2 f0 f1 f2 f3 = false) := by
        have hz := (show lw3f_c10 x0 x1 x2 f0 f1 f2 f3 = Bool.not (lw3f_c11 x0 x1 x2 f0 f1 f2 f3) by kernel_rfl).symm.trans h9
        generalize lw3f_c11 x0 x1 x2 f0 f1 f2 f3 = z at hz ⊢
        cases z <;> first | rfl | cases hz
      rcases Bool.eq_false_or_eq_true (lw3f_c12 x0 x1 x2 f0 f1 f2 f3) with h12 | h12
      ·
        have h13 : (lw3f_c13 x0 x1 x2 f0 f1 f2 f3 = false) := by
          have r7 : Rg.has (0, 0) (lw3f_at0 x0) := by
            have hr : InR [(-100, 100)] [(lw3f_at0 x0)] := ⟨lw3f_rg7 x0 x1 x2 f0 f1 f2 f3 hpre, trivial⟩
            have ha := BE.all_ok hr lw3f_q20 (by kernel_rfl)
            have hx : BE.ev [(lw3f_at0 x0)] (.cm .eq (.v 0) (.k (0))) = true := (show BE.ev [(lw3f_at0 x0)] (.cm .eq (.v 0) (.k (0))) = lw3f_c0 x0 x1 x2 f0 f1 f2 f3 by kernel_rfl).trans h0
            have ha := orT ha hx
            exact rgB ha
          have r8 : Rg.has (0, 0) (lw3f_at0 x1) := by
            have hr : InR [(-100, 100)] [(lw3f_at0 x1)] := ⟨lw3f_rg8 x0 x1 x2 f0 f1 f2 f3 hpre, trivial⟩
            have ha := BE.all_ok hr lw3f_q20 (by kernel_rfl)
            have hx : BE.ev [(lw3f_at0 x1)] (.cm .eq (.v 0) (.k (0))) = true := (show BE.ev [(lw3f_at0 x1)] (.cm .eq (.v 0) (.k (0))) = lw3f_c9 x0 x1 x2 f0 f1 f2 f3 by kernel_rfl).trans h1
            have ha := orT ha hx
            exact rgB ha
          have hr : InR [(0, 0), (0, 0), (-100, 100)] [(lw3f_at0 x0), (lw3f_at0 x1), (lw3f_at0 x2)] := ⟨r7, ⟨r8, ⟨lw3f_rg9 x0 x1 x2 f0 f1 f2 f3 hpre, trivial⟩⟩⟩
          have hr2 : InR [(-100, 100)] [(lw3f_at0 x2)] := ⟨lw3f_rg9 x0 x1 x2 f0 f1 f2 f3 hpre, trivial⟩
          have ha := BE.all_ok hr2 (.or (.not lw3f_q26) (.not lw3f_q27)) (by kernel_rfl)
          have hx : BE.ev [(lw3f_at0 x2)] lw3f_q26 = true := (show BE.ev [(lw3f_at0 x2)] lw3f_q26 = BE.ev [(lw3f_at0 x0), (lw3f_at0 x1), (lw3f_at0 x2)] lw3f_q29 by kernel_rfl).trans ((BE.smp_to hr lw3f_q33 lw3f_q29 (by kernel_rfl) (by kernel_rfl)).symm.trans ((show BE.ev [(lw3f_at0 x0), (lw3f_at0 x1), (lw3f_at0 x2)] lw3f_q33 = lw3f_c12 x0 x1 x2 f0 f1 f2 f3 by kernel_rfl).trans h12))
          have ha := orT ha hx
          exact (show lw3f_c13 x0 x1 x2 f0 f1 f2 f3 = BE.ev [(lw3f_at0 x0), (lw3f_at0 x1), (lw3f_at0 x2)] lw3f_q34 by kernel_rfl).trans ((BE.smp_to hr lw3f_q34 lw3f_q35 (by kernel_rfl) (by kernel_rfl)).trans ((show BE.ev [(lw3f_at0 x0), (lw3f_at0 x1), (lw3f_at0 x2)] lw3f_q35 = BE.ev [(lw3f_at0 x2)] lw3f_q27 by kernel_rfl).trans (notT ha)))
        have h14 : (lw3f_c14 x0 x1 x2 f0 f1 f2 f3 = true) := by
          have r7 : Rg.has (0, 0) (lw3f_at0 x0) := by
            have hr : InR [(-100, 100)] [(lw3f_at0 x0)] := ⟨lw3f_rg7 x0 x1 x2 f0 f1 f2 f3 hpre, trivial⟩
            have ha := BE.all_ok hr lw3f_q20 (by kernel_rfl)
            have hx : BE.ev [(lw3f_at0 x0)] (.cm .eq (.v 0) (.k (0))) = true := (show BE.ev [(lw3f_at0 x0)] (.cm .eq (.v 0) (.k (0))) = lw3f_c0 x0 x1 x2 f0 f1 f2 f3 by kernel_rfl).trans h0
            have ha := orT ha hx
            exact rgB ha
          have r8 : Rg.has (0, 0) (lw3f_at0 x1) := by
            have hr : InR [(-100, 100)] [(lw3f_at0 x1)] := ⟨lw3f_rg8 x0 x1 x2 f0 f1 f2 f3 hpre, trivial⟩
            have ha := BE.all_ok hr lw3f_q20 (by kernel_rfl)
            have hx : BE.ev [(lw3f_at0 x1)] (.cm .eq (.v 0) (.k (0))) = true := (show BE.ev [(lw3f_at0 x1)] (.cm .eq (.v 0) (.k (0))) = lw3f_c9 x0 x1 x2 f0 f1 f2 f3 by kernel_rfl).trans h1
            have ha := orT ha hx
            exact rgB ha
          have hr : InR [(0, 0), (0, 0), (-100, 100)] [(lw3f_at0 x0), (lw3f_at0 x1), (lw3f_at0 x2)] := ⟨r7, ⟨r8, ⟨lw3f_rg9 x0 x1 x2 f0 f1 f2 f3 hpre, trivial⟩⟩⟩
          have hr2 : InR [(-100, 100)] [(lw3f_at0 x2)] := ⟨lw3f_rg9 x0 x1 x2 f0 f1 f2 f3 hpre, trivial⟩
          have ha := BE.all_ok hr2 (.or (.not lw3f_q26) (.not (.cm .eq (.v 0) (.k (0))))) (by kernel_rfl)
          have hx : BE.ev [(lw3f_at0 x2)] lw3f_q26 = true := (show BE.ev [(lw3f_at0 x2)] lw3f_q26 = BE.ev [(lw3f_at0 x0), (lw3f_at0 x1), (lw3f_at0 x2)] lw3f_q29 by kernel_rfl).trans ((BE.smp_to hr lw3f_q33 lw3f_q29 (by kernel_rfl) (by kernel_rfl)).symm.trans ((show BE.ev [(lw3f_at0 x0), (lw3f_at0 x1), (lw3f_at0 x2)] lw3f_q33 = lw3f_c12 x0 x1 x2 f0 f1 f2 f3 by kernel_rfl).trans h12))
          have ha := orT ha hx
          exact (show lw3f_c14 x0 x1 x2 f0 f1 f2 f3 = BE.ev [(lw3f_at0 x0), (lw3f_at0 x1), (lw3f_at0 x2)] (.not (.cm .eq (.v 2) (.k (0)))) by kernel_rfl).trans ((BE.smp_to hr (.not (.cm .eq (.v 2) (.k (0)))) (.not (.cm .eq (.v 2) (.k (0)))) (by kernel_rfl) (by kernel_rfl)).trans ((show BE.ev [(lw3f_at0 x0), (lw3f_at0 x1), (lw3f_at0 x2)] (.not (.cm .eq (.v 2) (.k (0)))) = BE.ev [(lw3f_at0 x2)] (.not (.cm .eq (.v 0) (.k (0)))) by kernel_rfl).trans (ha)))
        exact lw3f_p2 x0 x1 x2 f0 f1 f2 f3 c (lw3f_z13_h (lw3f_z12_h (lw3f_z8_h (lw3f_z11_h (lw3f_z6_h (lw3f_z2_h (lw3f_z10_h (lw3f_z4_h (lw3f_z0_h trivial x0 x1 x2 f0 f1 f2 f3 hpre) x0 x1 x2 f0 f1 f2 f3 hpre h0) x0 x1 x2 f0 f1 f2 f3 hpre h1) x0 x1 x2 f0 f1 f2 f3 hpre) x0 x1 x2 f0 f1 f2 f3 hpre h8) x0 x1 x2 f0 f1 f2 f3 hpre h9) x0 x1 x2 f0 f1 f2 f3 hpre h10) x0 x1 x2 f0 f1 f2 f3 hpre h11) x0 x1 x2 f0 f1 f2 f3 hpre h12 h13 h14)
      ·
        have h15 : (lw3f_c15 x0 x1 x2 f0 f1 f2 f3 = false) := by
          have r7 : Rg.has (0, 0) (lw3f_at0 x0) := by
            have hr : InR [(-100, 100)] [(lw3f_at0 x0)] := ⟨lw3f_rg7 x0 x1 x2 f0 f1 f2 f3 hpre, trivial⟩
            have ha := BE.all_ok hr lw3f_q20 (by kernel_rfl)
            have hx : BE.ev [(lw3f_at0 x0)] (.cm .eq (.v 0) (.k (0))) = true := (show BE.ev [(lw3f_at0 x0)] (.cm .eq (.v 0) (.k (0))) = lw3f_c0 x0 x1 x2 f0 f1 f2 f3 by kernel_rfl).trans h0
            have ha := orT ha hx
            exact rgB ha
          have r8 : Rg.has (0, 0) (lw3f_at0 x1) := by
            have hr : InR [(-100, 100)] [(lw3f_at0 x1)] := ⟨lw3f_rg8 x0 x1 x2 f0 f1 f2 f3 hpre, trivial⟩
            have ha := BE.all_ok hr lw3f_q20 (by kernel_rfl)
            have hx : BE.ev [(lw3f_at0 x1)] (.cm .eq (.v 0) (.k (0))) = true := (show BE.ev [(lw3f_at0 x1)] (.cm .eq (.v 0) (.k (0))) = lw3f_c9 x0 x1 x2 f0 f1 f2 f3 by kernel_rfl).trans h1
            have ha := orT ha hx
            exact rgB ha
          have r9 : Rg.has (0, 0) (lw3f_at0 x2) := by
            have hr : InR [(0, 0), (0, 0), (-100, 100)] [(lw3f_at0 x0), (lw3f_at0 x1), (lw3f_at0 x2)] := ⟨r7, ⟨r8, ⟨lw3f_rg9 x0 x1 x2 f0 f1 f2 f3 hpre, trivial⟩⟩⟩
            have ha := BE.all_ok hr lw3f_q36 (by kernel_rfl)
            have hx : BE.ev [(lw3f_at0 x0), (lw3f_at0 x1), (lw3f_at0 x2)] lw3f_q33 = false := (show BE.ev [(lw3f_at0 x0), (lw3f_at0 x1), (lw3f_at0 x2)] lw3f_q33 = lw3f_c12 x0 x1 x2 f0 f1 f2 f3 by kernel_rfl).trans h12
            have ha := orT ha (notF hx)
            exact rgB ha
          have hr : InR [(0, 0)] [(lw3f_at0 x2)] := ⟨r9, trivial⟩
          have e1 : lw3f_c15 x0 x1 x2 f0 f1 f2 f3 = BE.ev [(lw3f_at0 x2)] (.not (.beq (.not (.cm .ge (.k (-1)) (.k (0)))) (.cm .eq (.v 0) (.k (0))))) := by kernel_rfl
          rw [e1]
          exact BE.tri_ok hr (by kernel_rfl) (by kernel_rfl)
        have h16 : (lw3f_c14 x0 x1 x2 f0 f1 f2 f3 = false) := by
          have r7 : Rg.has (0, 0) (lw3f_at0 x0) := by
            have hr : InR [(-100, 100)] [(lw3f_at0 x0)] := ⟨lw3f_rg7 x0 x1 x2 f0 f1 f2 f3 hpre, trivial⟩
            have ha := BE.all_ok hr lw3f_q20 (by kernel_rfl)
            have hx : BE.ev [(lw3f_at0 x0)] (.cm .eq (.v 0) (.k (0))) = true := (show BE.ev [(lw3f_at0 x0)] (.cm .eq (.v 0) (.k (0))) = lw3f_c0 x0 x1 x2 f0 f1 f2 f3 by kernel_rfl).trans h0
            have ha := orT ha hx
            exact rgB ha
          have r8 : Rg.has (0, 0) (lw3f_at0 x1) := by
            have hr : InR [(-100, 100)] [(lw3f_at0 x1)] := ⟨lw3f_rg8 x0 x1 x2 f0 f1 f2 f3 hpre, trivial⟩
            have ha := BE.all_ok hr lw3f_q20 (by kernel_rfl)
            have hx : BE.ev [(lw3f_at0 x1)] (.cm .eq (.v 0) (.k (0))) = true := (show BE.ev [(lw3f_at0 x1)] (.cm .eq (.v 0) (.k (0))) = lw3f_c9 x0 x1 x2 f0 f1 f2 f3 by kernel_rfl).trans h1
            have ha := orT ha hx
            exact rgB ha
          have r9 : Rg.has (0, 0) (lw3f_at0 x2) := by
            have hr : InR [(0, 0), (0, 0), (-100, 100)] [(lw3f_at0 x0), (lw3f_at0 x1), (lw3f_at0 x2)] := ⟨r7, ⟨r8, ⟨lw3f_rg9 x0 x1 x2 f0 f1 f2 f3 hpre, trivial⟩⟩⟩
            have ha := BE.all_ok hr lw3f_q36 (by kernel_rfl)
            have hx : BE.ev [(lw3f_at0 x0), (lw3f_at0 x1), (lw3f_at0 x2)] lw3f_q33 = false := (show BE.ev [(lw3f_at0 x0), (lw3f_at0 x1), (lw3f_at0 x2)] lw3f_q33 = lw3f_c12 x0 x1 x2 f0 f1 f2 f3 by kernel_rfl).trans h12
            have ha := orT ha (notF hx)
            exact rgB ha
          have hr : InR [(0, 0)] [(lw3f_at0 x2)] := ⟨r9, trivial⟩
          have e1 : lw3f_c14 x0 x1 x2 f0 f1 f2 f3 = BE.ev [(lw3f_at0 x2)] (.not (.cm .eq (.v 0) (.k (0)))) := by kernel_rfl
          rw [e1]
          exact BE.tri_ok hr (by kernel_rfl) (by kernel_rfl)
        have h17 : (lw3f_c16 x0 x1 x2 f0 f1 f2 f3 = false) := lw3f_c16_ff x0 x1 x2 f0 f1 f2 f3 hpre
        have h18 : (lw3f_c17 x0 x1 x2 f0 f1 f2 f3 = false) := lw3f_c17_ff x0 x1 x2 f0 f1 f2 f3 hpre
        have h19 : (lw3f_c18 x0 x1 x2 f0 f1 f2 f3 = false) := lw3f_c18_ff x0 x1 x2 f0 f1 f2 f3 hpre
        have h20 : (lw3f_c19 x0 x1 x2 f0 f1 f2 f3 = false) := lw3f_c19_ff x0 x1 x2 f0 f1 f2 f3 hpre
        have h21 : (lw3f_c20 x0 x1 x2 f0 f1 f2 f3 = false) := lw3f_c20_ff x0 x1 x2 f0 f1 f2 f3 hpre
        have h22 : (lw3f_c21 x0 x1 x2 f0 f1 f2 f3 = false) := lw3f_c21_ff x0 x1 x2 f0 f1 f2 f3 hpre
        have h23 : (lw3f_c22 x0 x1 x2 f0 f1 f2 f3 = false) := lw3f_c22_ff x0 x1 x2 f0 f1 f2 f3 hpre
        have h24 : (lw3f_c23 x0 x1 x2 f0 f1 f2 f3 = false) := lw3f_c23_ff x0 x1 x2 f0 f1 f2 f3 hpre
        have h25 : (lw3f_c24 x0 x1 x2 f0 f1 f2 f3 = false) := lw3f_c24_ff x0 x1 x2 f0 f1 f2 f3 hpre
        have h26 : (lw3f_c25 x0 x1 x2 f0 f1 f2 f3 = false) := lw3f_c25_ff x0 x1 x2 f0 f1 f2 f3 hpre
        have h27 : (lw3f_c26 x0 x1 x2 f0 f1 f2 f3 = false) := by
          have r7 : Rg.has (0, 0) (lw3f_at0 x0) := by
            have hr : InR [(-100, 100)] [(lw3f_at0 x0)] := ⟨lw3f_rg7 x0 x1 x2 f0 f1 f2 f3 hpre, trivial⟩
            have ha := BE.all_ok hr lw3f_q20 (by kernel_rfl)
            have hx : BE.ev [(lw3f_at0 x0)] (.cm .eq (.v 0) (.k (0))) = true := (show BE.ev [(lw3f_at0 x0)] (.cm .eq (.v 0) (.k (0))) = lw3f_c0 x0 x1 x2 f0 f1 f2 f3 by kernel_rfl).trans h0
            have ha := orT ha hx
            exact rgB ha
          have r8 : Rg.has (0, 0) (lw3f_at0 x1) := by
            have hr : InR [(-100, 100)] [(lw3f_at0 x1)] := ⟨lw3f_rg8 x0 x1 x2 f0 f1 f2 f3 hpre, trivial⟩
            have ha := BE.all_ok hr lw3f_q20 (by kernel_rfl)
            have hx : BE.ev [(lw3f_at0 x1)] (.cm .eq (.v 0) (.k (0))) = true := (show BE.ev [(lw3f_at0 x1)] (.cm .eq (.v 0) (.k (0))) = lw3f_c9 x0 x1 x2 f0 f1 f2 f3 by kernel_rfl).trans h1
            have ha := orT ha hx
            exact rgB ha
          have r9 : Rg.has (0, 0) (lw3f_at0 x2) := by
            have hr : InR [(0, 0), (0, 0), (-100, 100)] [(lw3f_at0 x0), (lw3f_at0 x1), (lw3f_at0 x2)] := ⟨r7, ⟨r8, ⟨lw3f_rg9 x0 x1 x2 f0 f1 f2 f3 hpre, trivial⟩⟩⟩
            have ha := BE.all_ok hr lw3f_q36 (by kernel_rfl)
            have hx : BE.ev [(lw3f_at0 x0), (lw3f_at0 x1), (lw3f_at0 x2)] lw3f_q33 = false := (show BE.ev [(lw3f_at0 x0), (lw3f_at0 x1), (lw3f_at0 x2)] lw3f_q33 = lw3f_c12 x0 x1 x2 f0 f1 f2 f3 by kernel_rfl).trans h12
            have ha := orT ha (notF hx)
            exact rgB ha
          have hr : InR [(0, 0), (0, 0), (0, 0), (-1000, 1000), (-1000, 1000), (-1000, 1000)] [(lw3f_at0 x0), (lw3f_at0 x1), (lw3f_at0 x2), (lw3f_at1 f0), (lw3f_at1 f1), (lw3f_at1 f2)] := ⟨r7, ⟨r8, ⟨r9, ⟨lw3f_rg10 x0 x1 x2 f0 f1 f2 f3 hpre, ⟨lw3f_rg11 x0 x1 x2 f0 f1 f2 f3 hpre, ⟨lw3f_rg12 x0 x1 x2 f0 f1 f2 f3 hpre, trivial⟩⟩⟩⟩⟩⟩
          have e1 : lw3f_c26 x0 x1 x2 f0 f1 f2 f3 = BE.ev [(lw3f_at0 x0), (lw3f_at0 x1), (lw3f_at0 x2), (lw3f_at1 f0), (lw3f_at1 f1), (lw3f_at1 f2)] (.cm .lt (.wr lw3f_q44) (.k (-1073741824))) := by kernel_rfl
          rw [e1]
          exact BE.tri_ok hr (by kernel_rfl) (by kernel_rfl)
        have h28 : (lw3f_c27 x0 x1 x2 f0 f1 f2 f3 = false) := by
          have r7 : Rg.has (0, 0) (lw3f_at0 x0) := by
            have hr : InR [(-100, 100)] [(lw3f_at0 x0)] := ⟨lw3f_rg7 x0 x1 x2 f0 f1 f2 f3 hpre, trivial⟩
            have ha := BE.all_ok hr lw3f_q20 (by kernel_rfl)
            have hx : BE.ev [(lw3f_at0 x0)] (.cm .eq (.v 0) (.k (0))) = true := (show BE.ev [(lw3f_at0 x0)] (.cm .eq (.v 0) (.k (0))) = lw3f_c0 x0 x1 x2 f0 f1 f2 f3 by kernel_rfl).trans h0
            have ha := orT ha hx
            exact rgB ha
          have r8 : Rg.has (0, 0) (lw3f_at0 x1) := by
            have hr : InR [(-100, 100)] [(lw3f_at0 x1)] := ⟨lw3f_rg8 x0 x1 x2 f0 f1 f2 f3 hpre, trivial⟩
            have ha := BE.all_ok hr lw3f_q20 (by kernel_rfl)
            have hx : BE.ev [(lw3f_at0 x1)] (.cm .eq (.v 0) (.k (0))) = true := (show BE.ev [(lw3f_at0 x1)] (.cm .eq (.v 0) (.k (0))) = lw3f_c9 x0 x1 x2 f0 f1 f2 f3 by kernel_rfl).trans h1
            have ha := orT ha hx
            exact rgB ha
          have r9 : Rg.has (0, 0) (lw3f_at0 x2) := by
            have hr : InR [(0, 0), (0, 0), (-100, 100)] [(lw3f_at0 x0), (lw3f_at0 x1), (lw3f_at0 x2)] := ⟨r7, ⟨r8, ⟨lw3f_rg9 x0 x1 x2 f0 f1 f2 f3 hpre, trivial⟩⟩⟩
            have ha := BE.all_ok hr lw3f_q36 (by kernel_rfl)
            have hx : BE.ev [(lw3f_at0 x0), (lw3f_at0 x1), (lw3f_at0 x2)] lw3f_q33 = false := (show BE.ev [(lw3f_at0 x0), (lw3f_at0 x1), (lw3f_at0 x2)] lw3f_q33 = lw3f_c12 x0 x1 x2 f0 f1 f2 f3 by kernel_rfl).trans h12
            have ha := orT ha (notF hx)
            exact rgB ha
          have hr : InR [(0, 0), (0, 0), (0, 0), (-1000, 1000), (-1000, 1000), (-1000, 1000)] [(lw3f_at0 x0), (lw3f_at0 x1), (lw3f_at0 x2), (lw3f_at1 f0), (lw3f_at1 f1), (lw3f_at1 f2)] := ⟨r7, ⟨r8, ⟨r9, ⟨lw3f_rg10 x0 x1 x2 f0 f1 f2 f3 hpre, ⟨lw3f_rg11 x0 x1 x2 f0 f1 f2 f3 hpre, ⟨lw3f_rg12 x0 x1 x2 f0 f1 f2 f3 hpre, trivial⟩⟩⟩⟩⟩⟩
          have e1 : lw3f_c27 x0 x1 x2 f0 f1 f2 f3 = BE.ev [(lw3f_at0 x0), (lw3f_at0 x1), (lw3f_at0 x2), (lw3f_at1 f0), (lw3f_at1 f1), (lw3f_at1 f2)] (.cm .gt (.wr lw3f_q44) (.k (1073741824))) := by kernel_rfl
          rw [e1]
          exact BE.tri_ok hr (by kernel_rfl) (by kernel_rfl)
        have h29 : (lw3f_c28 x0 x1 x2 f0 f1 f2 f3 = false) := by
          have r7 : Rg.has (0, 0) (lw3f_at0 x0) := by
            have hr : InR [(-100, 100)] [(lw3f_at0 x0)] := ⟨lw3f_rg7 x0 x1 x2 f0 f1 f2 f3 hpre, trivial⟩
            have ha := BE.all_ok hr lw3f_q20 (by kernel_rfl)
            have hx : BE.ev [(lw3f_at0 x0)] (.cm .eq (.v 0) (.k (0))) = true := (show BE.ev [(lw3f_at0 x0)] (.cm .eq (.v 0) (.k (0))) = lw3f_c0 x0 x1 x2 f0 f1 f2 f3 by kernel_rfl).trans h0
            have ha := orT ha hx
            exact rgB ha
          have r8 : Rg.has (0, 0) (lw3f_at0 x1) := by
            have hr : InR [(-100, 100)] [(lw3f_at0 x1)] := ⟨lw3f_rg8 x0 x1 x2 f0 f1 f2 f3 hpre, trivial⟩
            have ha := BE.all_ok hr lw3f_q20 (by kernel_rfl)
            have hx : BE.ev [(lw3f_at0 x1)] (.cm .eq (.v 0) (.k (0))) = true := (show BE.ev [(lw3f_at0 x1)] (.cm .eq (.v 0) (.k (0))) = lw3f_c9 x0 x1 x2 f0 f1 f2 f3 by kernel_rfl).trans h1
            have ha := orT ha hx
            exact rgB ha
          have r9 : Rg.has (0, 0) (lw3f_at0 x2) := by
            have hr : InR [(0, 0), (0, 0), (-100, 100)] [(lw3f_at0 x0), (lw3f_at0 x1), (lw3f_at0 x2)] := ⟨r7, ⟨r8, ⟨lw3f_rg9 x0 x1 x2 f0 f1 f2 f3 hpre, trivial⟩⟩⟩
            have ha := BE.all_ok hr lw3f_q36 (by kernel_rfl)
            have hx : BE.ev [(lw3f_at0 x0), (lw3f_at0 x1), (lw3f_at0 x2)] lw3f_q33 = false := (show BE.ev [(lw3f_at0 x0), (lw3f_at0 x1), (lw3f_at0 x2)] lw3f_q33 = lw3f_c12 x0 x1 x2 f0 f1 f2 f3 by kernel_rfl).trans h12
            have ha := orT ha (notF hx)
            exact rgB ha
          have hr : InR [(0, 0), (0, 0), (0, 0), (-1000, 1000), (-1000, 1000), (-1000, 1000)] [(lw3f_at0 x0), (lw3f_at0 x1), (lw3f_at0 x2), (lw3f_at1 f0), (lw3f_at1 f1), (lw3f_at1 f2)] := ⟨r7, ⟨r8, ⟨r9, ⟨lw3f_rg10 x0 x1 x2 f0 f1 f2 f3 hpre, ⟨lw3f_rg11 x0 x1 x2 f0 f1 f2 f3 hpre, ⟨lw3f_rg12 x0 x1 x2 f0 f1 f2 f3 hpre, trivial⟩⟩⟩⟩⟩⟩
          have e1 : lw3f_c28 x0 x1 x2 f0 f1 f2 f3 = BE.ev [(lw3f_at0 x0), (lw3f_at0 x1), (lw3f_at0 x2), (lw3f_at1 f0), (lw3f_at1 f1), (lw3f_at1 f2)] (.cm .lt (.wr lw3f_q45) (.k (-1073741824))) := by kernel_rfl
          rw [e1]
          exact BE.tri_ok hr (by kernel_rfl) (by kernel_rfl)
        have h30 : (lw3f_c29 x0 x1 x2 f0 f1 f2 f3 = false) := by
          have r7 : Rg.has (0, 0) (lw3f_at0 x0) := by
            have hr : InR [(-100, 100)] [(lw3f_at0 x0)] := ⟨lw3f_rg7 x0 x1 x2 f0 f1 f2 f3 hpre, trivial⟩
            have ha := BE.all_ok hr lw3f_q20 (by kernel_rfl)
            have hx : BE.ev [(lw3f_at0 x0)] (.cm .eq (.v 0) (.k (0))) = true := (show BE.ev [(lw3f_at0 x0)] (.cm .eq (.v 0) (.k (0))) = lw3f_c0 x0 x1 x2 f0 f1 f2 f3 by kernel_rfl).trans h0
            have ha := orT ha hx
            exact rgB ha
          have r8 : Rg.has (0, 0) (lw3f_at0 x1) := by
            have hr : InR [(-100, 100)] [(lw3f_at0 x1)] := ⟨lw3f_rg8 x0 x1 x2 f0 f1 f2 f3 hpre, trivial⟩
            have ha := BE.all_ok hr lw3f_q20 (by kernel_rfl)
            have hx : BE.ev [(lw3f_at0 x1)] (.cm .eq (.v 0) (.k (0))) = true := (show BE.ev [(lw3f_at0 x1)] (.cm .eq (.v 0) (.k (0))) = lw3f_c9 x0 x1 x2 f0 f1 f2 f3 by kernel_rfl).trans h1
            have ha := orT ha hx
            exact rgB ha
          have r9 : Rg.has (0, 0) (lw3f_at0 x2) := by
            have hr : InR [(0, 0), (0, 0), (-100, 100)] [(lw3f_at0 x0), (lw3f_at0 x1), (lw3f_at0 x2)] := ⟨r7, ⟨r8, ⟨lw3f_rg9 x0 x1 x2 f0 f1 f2 f3 hpre, trivial⟩⟩⟩
            have ha := BE.all_ok hr lw3f_q36 (by kernel_rfl)
            have hx : BE.ev [(lw3f_at0 x0), (lw3f_at0 x1), (lw3f_at0 x2)] lw3f_q33 = false := (show BE.ev [(lw3f_at0 x0), (lw3f_at0 x1), (lw3f_at0 x2)] lw3f_q33 = lw3f_c12 x0 x1 x2 f0 f1 f2 f3 by kernel_rfl).trans h12
            have ha := orT ha (notF hx)
            exact rgB ha
          have hr : InR [(0, 0), (0, 0), (0, 0), (-1000, 1000), (-1000, 1000), (-1000, 1000)] [(lw3f_at0 x0), (lw3f_at0 x1), (lw3f_at0 x2), (lw3f_at1 f0), (lw3f_at1 f1), (lw3f_at1 f2)] := ⟨r7, ⟨r8, ⟨r9, ⟨lw3f_rg10 x0 x1 x2 f0 f1 f2 f3 hpre, ⟨lw3f_rg11 x0 x1 x2 f0 f1 f2 f3 hpre, ⟨lw3f_rg12 x0 x1 x2 f0 f1 f2 f3 hpre, trivial⟩⟩⟩⟩⟩⟩
          have e1 : lw3f_c29 x0 x1 x2 f0 f1 f2 f3 = BE.ev [(lw3f_at0 x0), (lw3f_at0 x1), (lw3f_at0 x2), (lw3f_at1 f0), (lw3f_at1 f1), (lw3f_at1 f2)] (.cm .gt (.wr lw3f_q45) (.k (1073741824))) := by kernel_rfl
          rw [e1]
          exact BE.tri_ok hr (by kernel_rfl) (by kernel_rfl)
        have h31 : (lw3f_c30 x0 x1 x2 f0 f1 f2 f3 = false) := by
          have r7 : Rg.has (0, 0) (lw3f_at0 x0) := by
            have hr : InR [(-100, 100)] [(lw3f_at0 x0)] := ⟨lw3f_rg7 x0 x1 x2 f0 f1 f2 f3 hpre, trivial⟩
            have ha := BE.all_ok hr lw3f_q20 (by kernel_rfl)
            have hx : BE.ev [(lw3f_at0 x0)] (.cm .eq (.v 0) (.k (0))) = true := (show BE.ev [(lw3f_at0 x0)] (.cm .eq (.v 0) (.k (0))) = lw3f_c0 x0 x1 x2 f0 f1 f2 f3 by kernel_rfl).trans h0
            have ha := orT ha hx
            exact rgB ha
          have r8 : Rg.has (0, 0) (lw3f_at0 x1) := by
            have hr : InR [(-100, 100)] [(lw3f_at0 x1)] := ⟨lw3f_rg8 x0 x1 x2 f0 f1 f2 f3 hpre, trivial⟩
            have ha := BE.all_ok hr lw3f_q20 (by kernel_rfl)
            have hx : BE.ev [(lw3f_at0 x1)] (.cm .eq (.v 0) (.k (0))) = true := (show BE.ev [(lw3f_at0 x1)] (.cm .eq (.v 0) (.k (0))) = lw3f_c9 x0 x1 x2 f0 f1 f2 f3 by kernel_rfl).trans h1
            have ha := orT ha hx
            exact rgB ha
          have r9 : Rg.has (0, 0) (lw3f_at0 x2) := by
            have hr : InR [(0, 0), (0, 0), (-100, 100)] [(lw3f_at0 x0), (lw3f_at0 x1), (lw3f_at0 x2)] := ⟨r7, ⟨r8, ⟨lw3f_rg9 x0 x1 x2 f0 f1 f2 f3 hpre, trivial⟩⟩⟩
            have ha := BE.all_ok hr lw3f_q36 (by kernel_rfl)
            have hx : BE.ev [(lw3f_at0 x0), (lw3f_at0 x1), (lw3f_at0 x2)] lw3f_q33 = false := (show BE.ev [(lw3f_at0 x0), (lw3f_at0 x1), (lw3f_at0 x2)] lw3f_q33 = lw3f_c12 x0 x1 x2 f0 f1 f2 f3 by kernel_rfl).trans h12
            have ha := orT ha (notF hx)
            exact rgB ha
          have hr : InR [(0, 0), (0, 0), (0, 0), (-1000, 1000), (-1000, 1000), (-1000, 1000)] [(lw3f_at0 x0), (lw3f_at0 x1), (lw3f_at0 x2), (lw3f_at1 f0), (lw3f_at1 f1), (lw3f_at1 f2)] := ⟨r7, ⟨r8, ⟨r9, ⟨lw3f_rg10 x0 x1 x2 f0 f1 f2 f3 hpre, ⟨lw3f_rg11 x0 x1 x2 f0 f1 f2 f3 hpre, ⟨lw3f_rg12 x0 x1 x2 f0 f1 f2 f3 hpre, trivial⟩⟩⟩⟩⟩⟩
          have e1 : lw3f_c30 x0 x1 x2 f0 f1 f2 f3 = BE.ev [(lw3f_at0 x0), (lw3f_at0 x1), (lw3f_at0 x2), (lw3f_at1 f0), (lw3f_at1 f1), (lw3f_at1 f2)] (.cm .lt (.wr lw3f_q46) (.k (-1073741824))) := by kernel_rfl
          rw [e1]
          exact BE.tri_ok hr (by kernel_rfl) (by kernel_rfl)
        have h32 : (lw3f_c31 x0 x1 x2 f0 f1 f2 f3 = false) := by
          have r7 : Rg.has (0, 0) (lw3f_at0 x0) := by
            have hr : InR [(-100, 100)] [(lw3f_at0 x0)] := ⟨lw3f_rg7 x0 x1 x2 f0 f1 f2 f3 hpre, trivial⟩
            have ha := BE.all_ok hr lw3f_q20 (by kernel_rfl)
            have hx : BE.ev [(lw3f_at0 x0)] (.cm .eq (.v 0) (.k (0))) = true := (show BE.ev [(lw3f_at0 x0)] (.cm .eq (.v 0) (.k (0))) = lw3f_c0 x0 x1 x2 f0 f1 f2 f3 by kernel_rfl).trans h0
            have ha := orT ha hx
            exact rgB ha
          have r8 : Rg.has (0, 0) (lw3f_at0 x1) := by
            have hr : InR [(-100, 100)] [(lw3f_at0 x1)] := ⟨lw3f_rg8 x0 x1 x2 f0 f1 f2 f3 hpre, trivial⟩
            have ha := BE.all_ok hr lw3f_q20 (by kernel_rfl)
            have hx : BE.ev [(lw3f_at0 x1)] (.cm .eq (.v 0) (.k (0))) = true := (show BE.ev [(lw3f_at0 x1)] (.cm .eq (.v 0) (.k (0))) = lw3f_c9 x0 x1 x2 f0 f1 f2 f3 by kernel_rfl).trans h1
            have ha := orT ha hx
            exact rgB ha
          have r9 : Rg.has (0, 0) (lw3f_at0 x2) := by
            have hr : InR [(0, 0), (0, 0), (-100, 100)] [(lw3f_at0 x0), (lw3f_at0 x1), (lw3f_at0 x2)] := ⟨r7, ⟨r8, ⟨lw3f_rg9 x0 x1 x2 f0 f1 f2 f3 hpre, trivial⟩⟩⟩
            have ha := BE.all_ok hr lw3f_q36 (by kernel_rfl)
            have hx : BE.ev [(lw3f_at0 x0), (lw3f_at0 x1), (lw3f_at0 x2)] lw3f_q33 = false := (show BE.ev [(lw3f_at0 x0), (lw3f_at0 x1), (lw3f_at0 x2)] lw3f_q33 = lw3f_c12 x0 x1 x2 f0 f1 f2 f3 by kernel_rfl).trans h12
            have ha := orT ha (notF hx)
            exact rgB ha
          have hr : InR [(0, 0), (0, 0), (0, 0), (-1000, 1000), (-1000, 1000), (-1000, 1000)] [(lw3f_at0 x0), (lw3f_at0 x1), (lw3f_at0 x2), (lw3f_at1 f0), (lw3f_at1 f1), (lw3f_at1 f2)] := ⟨r7, ⟨r8, ⟨r9, ⟨lw3f_rg10 x0 x1 x2 f0 f1 f2 f3 hpre, ⟨lw3f_rg11 x0 x1 x2 f0 f1 f2 f3 hpre, ⟨lw3f_rg12 x0 x1 x2 f0 f1 f2 f3 hpre, trivial⟩⟩⟩⟩⟩⟩
          have e1 : lw3f_c31 x0 x1 x2 f0 f1 f2 f3 = BE.ev [(lw3f_at0 x0), (lw3f_at0 x1), (lw3f_at0 x2), (lw3f_at1 f0), (lw3f_at1 f1), (lw3f_at1 f2)] (.cm .gt (.wr lw3f_q46) (.k (1073741824))) := by kernel_rfl
          rw [e1]
          exact BE.tri_ok hr (by kernel_rfl) (by kernel_rfl)
        have h33 : (lw3f_c32 x0 x1 x2 f0 f1 f2 f3 = false) := by
          have r7 : Rg.has (0, 0) (lw3f_at0 x0) := by
            have hr : InR [(-100, 100)] [(lw3f_at0 x0)] := ⟨lw3f_rg7 x0 x1 x2 f0 f1 f2 f3 hpre, trivial⟩
            have ha := BE.all_ok hr lw3f_q20 (by kernel_rfl)
            have hx : BE.ev [(lw3f_at0 x0)] (.cm .eq (.v 0) (.k (0))) = true := (show BE.ev [(lw3f_at0 x0)] (.cm .eq (.v 0) (.k (0))) = lw3f_c0 x0 x1 x2 f0 f1 f2 f3 by kernel_rfl).trans h0
            have ha := orT ha hx
            exact rgB ha
          have r8 : Rg.has (0, 0) (lw3f_at0 x1) := by
            have hr : InR [(-100, 100)] [(lw3f_at0 x1)] := ⟨lw3f_rg8 x0 x1 x2 f0 f1 f2 f3 hpre, trivial⟩
            have ha := BE.all_ok hr lw3f_q20 (by kernel_rfl)
            have hx : BE.ev [(lw3f_at0 x1)] (.cm .eq (.v 0) (.k (0))) = true := (show BE.ev [(lw3f_at0 x1)] (.cm .eq (.v 0) (.k (0))) = lw3f_c9 x0 x1 x2 f0 f1 f2 f3 by kernel_rfl).trans h1
            have ha := orT ha hx
            exact rgB ha
          have r9 : Rg.has (0, 0) (lw3f_at0 x2) := by
            have hr : InR [(0, 0), (0, 0), (-100, 100)] [(lw3f_at0 x0), (lw3f_at0 x1), (lw3f_at0 x2)] := ⟨r7, ⟨r8, ⟨lw3f_rg9 x0 x1 x2 f0 f1 f2 f3 hpre, trivial⟩⟩⟩
            have ha := BE.all_ok hr lw3f_q36 (by kernel_rfl)
            have hx : BE.ev [(lw3f_at0 x0), (lw3f_at0 x1), (lw3f_at0 x2)] lw3f_q33 = false := (show BE.ev [(lw3f_at0 x0), (lw3f_at0 x1), (lw3f_at0 x2)] lw3f_q33 = lw3f_c12 x0 x1 x2 f0 f1 f2 f3 by kernel_rfl).trans h12
            have ha := orT ha (notF hx)
            exact rgB ha
          have hr : InR [(0, 0), (0, 0), (0, 0), (-1000, 1000), (-1000, 1000), (-1000, 1000)] [(lw3f_at0 x0), (lw3f_at0 x1), (lw3f_at0 x2), (lw3f_at1 f0), (lw3f_at1 f1), (lw3f_at1 f2)] := ⟨r7, ⟨r8, ⟨r9, ⟨lw3f_rg10 x0 x1 x2 f0 f1 f2 f3 hpre, ⟨lw3f_rg11 x0 x1 x2 f0 f1 f2 f3 hpre, ⟨lw3f_rg12 x0 x1 x2 f0 f1 f2 f3 hpre, trivial⟩⟩⟩⟩⟩⟩
          have e1 : lw3f_c32 x0 x1 x2 f0 f1 f2 f3 = BE.ev [(lw3f_at0 x0), (lw3f_at0 x1), (lw3f_at0 x2), (lw3f_at1 f0), (lw3f_at1 f1), (lw3f_at1 f2)] (.cm .lt (.wr lw3f_q47) (.k (-1073741824))) := by kernel_rfl
          rw [e1]
          exact BE.tri_ok hr (by kernel_rfl) (by kernel_rfl)
        have h34 : (lw3f_c33 x0 x1 x2 f0 f1 f2 f3 = false) := by
          have r7 : Rg.has (0, 0) (lw3f_at0 x0) := by
            have hr : InR [(-100, 100)] [(lw3f_at0 x0)] := ⟨lw3f_rg7 x0 x1 x2 f0 f1 f2 f3 hpre, trivial⟩
            have ha := BE.all_ok hr lw3f_q20 (by kernel_rfl)
            have hx : BE.ev [(lw3f_at0 x0)] (.cm .eq (.v 0) (.k (0))) = true := (show BE.ev [(lw3f_at0 x0)] (.cm .eq (.v 0) (.k (0))) = lw3f_c0 x0 x1 x2 f0 f1 f2 f3 by kernel_rfl).trans h0
            have ha := orT ha hx
            exact rgB ha
          have r8 : Rg.has (0, 0) (lw3f_at0 x1) := by
            have hr : InR [(-100, 100)] [(lw3f_at0 x1)] := ⟨lw3f_rg8 x0 x1 x2 f0 f1 f2 f3 hpre, trivial⟩
            have ha := BE.all_ok hr lw3f_q20 (by kernel_rfl)
            have hx : BE.ev [(lw3f_at0 x1)] (.cm .eq (.v 0) (.k (0))) = true := (show BE.ev [(lw3f_at0 x1)] (.cm .eq (.v 0) (.k (0))) = lw3f_c9 x0 x1 x2 f0 f1 f2 f3 by kernel_rfl).trans h1
            have ha := orT ha hx
            exact rgB ha
          have r9 : Rg.has (0, 0) (lw3f_at0 x2) := by
            have hr : InR [(0, 0), (0, 0), (-100, 100)] [(lw3f_at0 x0), (lw3f_at0 x1), (lw3f_at0 x2)] := ⟨r7, ⟨r8, ⟨lw3f_rg9 x0 x1 x2 f0 f1 f2 f3 hpre, trivial⟩⟩⟩
            have ha := BE.all_ok hr lw3f_q36 (by kernel_rfl)
            have hx : BE.ev [(lw3f_at0 x0), (lw3f_at0 x1), (lw3f_at0 x2)] lw3f_q33 = false := (show BE.ev [(lw3f_at0 x0), (lw3f_at0 x1), (lw3f_at0 x2)] lw3f_q33 = lw3f_c12 x0 x1 x2 f0 f1 f2 f3 by kernel_rfl).trans h12
            have ha := orT ha (notF hx)
            exact rgB ha
          have hr : InR [(0, 0), (0, 0), (0, 0), (-1000, 1000), (-1000, 1000), (-1000, 1000)] [(lw3f_at0 x0), (lw3f_at0 x1), (lw3f_at0 x2), (lw3f_at1 f0), (lw3f_at1 f1), (lw3f_at1 f2)] := ⟨r7, ⟨r8, ⟨r9, ⟨lw3f_rg10 x0 x1 x2 f0 f1 f2 f3 hpre, ⟨lw3f_rg11 x0 x1 x2 f0 f1 f2 f3 hpre, ⟨lw3f_rg12 x0 x1 x2 f0 f1 f2 f3 hpre, trivial⟩⟩⟩⟩⟩⟩
          have e1 : lw3f_c33 x0 x1 x2 f0 f1 f2 f3 = BE.ev [(lw3f_at0 x0), (lw3f_at0 x1), (lw3f_at0 x2), (lw3f_at1 f0), (lw3f_at1 f1), (lw3f_at1 f2)] (.cm .gt (.wr lw3f_q47) (.k (1073741824))) := by kernel_rfl
          rw [e1]
          exact BE.tri_ok hr (by kernel_rfl) (by kernel_rfl)
        have h35 : (lw3f_c34 x0 x1 x2 f0 f1 f2 f3 = false) := by
          have r7 : Rg.has (0, 0) (lw3f_at0 x0) := by
            have hr : InR [(-100, 100)] [(lw3f_at0 x0)] := ⟨lw3f_rg7 x0 x1 x2 f0 f1 f2 f3 hpre, trivial⟩
            have ha := BE.all_ok hr lw3f_q20 (by kernel_rfl)
            have hx : BE.ev [(lw3f_at0 x0)] (.cm .eq (.v 0) (.k (0))) = true := (show BE.ev [(lw3f_at0 x0)] (.cm .eq (.v 0) (.k (0))) = lw3f_c0 x0 x1 x2 f0 f1 f2 f3 by kernel_rfl).trans h0
            have ha := orT ha hx
            exact rgB ha
          have r8 : Rg.has (0, 0) (lw3f_at0 x1) := by
            have hr : InR [(-100, 100)] [(lw3f_at0 x1)] := ⟨lw3f_rg8 x0 x1 x2 f0 f1 f2 f3 hpre, trivial⟩
            have ha := BE.all_ok hr lw3f_q20 (by kernel_rfl)
            have hx : BE.ev [(lw3f_at0 x1)] (.cm .eq (.v 0) (.k (0))) = true := (show BE.ev [(lw3f_at0 x1)] (.cm .eq (.v 0) (.k (0))) = lw3f_c9 x0 x1 x2 f0 f1 f2 f3 by kernel_rfl).trans h1
            have ha := orT ha hx
            exact rgB ha
          have r9 : Rg.has (0, 0) (lw3f_at0 x2) := by
            have hr : InR [(0, 0), (0, 0), (-100, 100)] [(lw3f_at0 x0), (lw3f_at0 x1), (lw3f_at0 x2)] := ⟨r7, ⟨r8, ⟨lw3f_rg9 x0 x1 x2 f0 f1 f2 f3 hpre, trivial⟩⟩⟩
            have ha := BE.all_ok hr lw3f_q36 (by kernel_rfl)
            have hx : BE.ev [(lw3f_at0 x0), (lw3f_at0 x1), (lw3f_at0 x2)] lw3f_q33 = false := (show BE.ev [(lw3f_at0 x0), (lw3f_at0 x1), (lw3f_at0 x2)] lw3f_q33 = lw3f_c12 x0 x1 x2 f0 f1 f2 f3 by kernel_rfl).trans h12
            have ha := orT ha (notF hx)
            exact rgB ha
          have hr : InR [(0, 0), (0, 0), (0, 0), (-1000, 1000), (-1000, 1000), (-1000, 1000)] [(lw3f_at0 x0), (lw3f_at0 x1), (lw3f_at0 x2), (lw3f_at1 f0), (lw3f_at1 f1), (lw3f_at1 f2)] := ⟨r7, ⟨r8, ⟨r9, ⟨lw3f_rg10 x0 x1 x2 f0 f1 f2 f3 hpre, ⟨lw3f_rg11 x0 x1 x2 f0 f1 f2 f3 hpre, ⟨lw3f_rg12 x0 x1 x2 f0 f1 f2 f3 hpre, trivial⟩⟩⟩⟩⟩⟩
          have e1 : lw3f_c34 x0 x1 x2 f0 f1 f2 f3 = BE.ev [(lw3f_at0 x0), (lw3f_at0 x1), (lw3f_at0 x2), (lw3f_at1 f0), (lw3f_at1 f1), (lw3f_at1 f2)] (.cm .ne lw3f_q41 (.k (0))) := by kernel_rfl
          rw [e1]
          exact BE.tri_ok hr (by kernel_rfl) (by kernel_rfl)
        have h36 : (lw3f_c35 x0 x1 x2 f0 f1 f2 f3 = false) := by
          have r7 : Rg.has (0, 0) (lw3f_at0 x0) := by
            have hr : InR [(-100, 100)] [(lw3f_at0 x0)] := ⟨lw3f_rg7 x0 x1 x2 f0 f1 f2 f3 hpre, trivial⟩
            have ha := BE.all_ok hr lw3f_q20 (by kernel_rfl)
            have hx : BE.ev [(lw3f_at0 x0)] (.cm .eq (.v 0) (.k (0))) = true := (show BE.ev [(lw3f_at0 x0)] (.cm .eq (.v 0) (.k (0))) = lw3f_c0 x0 x1 x2 f0 f1 f2 f3 by kernel_rfl).trans h0
            have ha := orT ha hx
            exact rgB ha
          have r8 : Rg.has (0, 0) (lw3f_at0 x1) := by
            have hr : InR [(-100, 100)] [(lw3f_at0 x1)] := ⟨lw3f_rg8 x0 x1 x2 f0 f1 f2 f3 hpre, trivial⟩
            have ha := BE.all_ok hr lw3f_q20 (by kernel_rfl)
            have hx : BE.ev [(lw3f_at0 x1)] (.cm .eq (.v 0) (.k (0))) = true := (show BE.ev [(lw3f_at0 x1)] (.cm .eq (.v 0) (.k (0))) = lw3f_c9 x0 x1 x2 f0 f1 f2 f3 by kernel_rfl).trans h1
            have ha := orT ha hx
            exact rgB ha
          have r9 : Rg.has (0, 0) (lw3f_at0 x2) := by
            have hr : InR [(0, 0), (0, 0), (-100, 100)] [(lw3f_at0 x0), (lw3f_at0 x1), (lw3f_at0 x2)] := ⟨r7, ⟨r8, ⟨lw3f_rg9 x0 x1 x2 f0 f1 f2 f3 hpre, trivial⟩⟩⟩
            have ha := BE.all_ok hr lw3f_q36 (by kernel_rfl)
            have hx : BE.ev [(lw3f_at0 x0), (lw3f_at0 x1), (lw3f_at0 x2)] lw3f_q33 = false := (show BE.ev [(lw3f_at0 x0), (lw3f_at0 x1), (lw3f_at0 x2)] lw3f_q33 = lw3f_c12 x0 x1 x2 f0 f1 f2 f3 by kernel_rfl).trans h12
            have ha := orT ha (notF hx)
            exact rgB ha
          have hr : InR [(0, 0), (0, 0), (0, 0), (-1000, 1000), (-1000, 1000), (-1000, 1000)] [(lw3f_at0 x0), (lw3f_at0 x1), (lw3f_at0 x2), (lw3f_at1 f0), (lw3f_at1 f1), (lw3f_at1 f2)] := ⟨r7, ⟨r8, ⟨r9, ⟨lw3f_rg10 x0 x1 x2 f0 f1 f2 f3 hpre, ⟨lw3f_rg11 x0 x1 x2 f0 f1 f2 f3 hpre, ⟨lw3f_rg12 x0 x1 x2 f0 f1 f2 f3 hpre, trivial⟩⟩⟩⟩⟩⟩
          have e1 : lw3f_c35 x0 x1 x2 f0 f1 f2 f3 = BE.ev [(lw3f_at0 x0), (lw3f_at0 x1), (lw3f_at0 x2), (lw3f_at1 f0), (lw3f_at1 f1), (lw3f_at1 f2)] (.cm .ne lw3f_q43 (.k (0))) := by kernel_rfl
          rw [e1]
          exact BE.tri_ok hr (by kernel_rfl) (by kernel_rfl)
        have h37 : (lw3f_c36 x0 x1 x2 f0 f1 f2 f3 = false) := by
          have r7 : Rg.has (0, 0) (lw3f_at0 x0) := by
            have hr : InR [(-100, 100)] [(lw3f_at0 x0)] := ⟨lw3f_rg7 x0 x1 x2 f0 f1 f2 f3 hpre, trivial⟩
            have ha := BE.all_ok hr lw3f_q20 (by kernel_rfl)
            have hx : BE.ev [(lw3f_at0 x0)] (.cm .eq (.v 0) (.k (0))) = true := (show BE.ev [(lw3f_at0 x0)] (.cm .eq (.v 0) (.k (0))) = lw3f_c0 x0 x1 x2 f0 f1 f2 f3 by kernel_rfl).trans h0
            have ha := orT ha hx
            exact rgB ha
          have r8 : Rg.has (0, 0) (lw3f_at0 x1) := by
            have hr : InR [(-100, 100)] [(lw3f_at0 x1)] := ⟨lw3f_rg8 x0 x1 x2 f0 f1 f2 f3 hpre, trivial⟩
            have ha := BE.all_ok hr lw3f_q20 (by kernel_rfl)
            have hx : BE.ev [(lw3f_at0 x1)] (.cm .eq (.v 0) (.k (0))) = true := (show BE.ev [(lw3f_at0 x1)] (.cm .eq (.v 0) (.k (0))) = lw3f_c9 x0 x1 x2 f0 f1 f2 f3 by kernel_rfl).trans h1
            have ha := orT ha hx
            exact rgB ha
          have r9 : Rg.has (0, 0) (lw3f_at0 x2) := by
            have hr : InR [(0, 0), (0, 0), (-100, 100)] [(lw3f_at0 x0), (lw3f_at0 x1), (lw3f_at0 x2)] := ⟨r7, ⟨r8, ⟨lw3f_rg9 x0 x1 x2 f0 f1 f2 f3 hpre, trivial⟩⟩⟩
            have ha := BE.all_ok hr lw3f_q36 (by kernel_rfl)
            have hx : BE.ev [(lw3f_at0 x0), (lw3f_at0 x1), (lw3f_at0 x2)] lw3f_q33 = false := (show BE.ev [(lw3f_at0 x0), (lw3f_at0 x1), (lw3f_at0 x2)] lw3f_q33 = lw3f_c12 x0 x1 x2 f0 f1 f2 f3 by kernel_rfl).trans h12
            have ha := orT ha (notF hx)
            exact rgB ha
          have hr : InR [(0, 0), (0, 0), (0, 0), (-1000, 1000), (-1000, 1000), (-1000, 1000)] [(lw3f_at0 x0), (lw3f_at0 x1), (lw3f_at0 x2), (lw3f_at1 f0), (lw3f_at1 f1), (lw3f_at1 f2)] := ⟨r7, ⟨r8, ⟨r9, ⟨lw3f_rg10 x0 x1 x2 f0 f1 f2 f3 hpre, ⟨lw3f_rg11 x0 x1 x2 f0 f1 f2 f3 hpre, ⟨lw3f_rg12 x0 x1 x2 f0 f1 f2 f3 hpre, trivial⟩⟩⟩⟩⟩⟩
          have e1 : lw3f_c36 x0 x1 x2 f0 f1 f2 f3 = BE.ev [(lw3f_at0 x0), (lw3f_at0 x1), (lw3f_at0 x2), (lw3f_at1 f0), (lw3f_at1 f1), (lw3f_at1 f2)] (.cm .ne (.wr lw3f_q44) (.k (0))) := by kernel_rfl
          rw [e1]
          exact BE.tri_ok hr (by kernel_rfl) (by kernel_rfl)
        have h38 : (lw3f_c37 x0 x1 x2 f0 f1 f2 f3 = false) := by
          have r7 : Rg.has (0, 0) (lw3f_at0 x0) := by
            have hr : InR [(-100, 100)] [(lw3f_at0 x0)] := ⟨lw3f_rg7 x0 x1 x2 f0 f1 f2 f3 hpre, trivial⟩
            have ha := BE.all_ok hr lw3f_q20 (by kernel_rfl)
            have hx : BE.ev [(lw3f_at0 x0)] (.cm .eq (.v 0) (.k (0))) = true := (show BE.ev [(lw3f_at0 x0)] (.cm .eq (.v 0) (.k (0))) = lw3f_c0 x0 x1 x2 f0 f1 f2 f3 by kernel_rfl).trans h0
            have ha := orT ha hx
            exact rgB ha
          have r8 : Rg.has (0, 0) (lw3f_at0 x1) := by
            have hr : InR [(-100, 100)] [(lw3f_at0 x1)] := ⟨lw3f_rg8 x0 x1 x2 f0 f1 f2 f3 hpre, trivial⟩
            have ha := BE.all_ok hr lw3f_q20 (by kernel_rfl)
            have hx : BE.ev [(lw3f_at0 x1)] (.cm .eq (.v 0) (.k (0))) = true := (show BE.ev [(lw3f_at0 x1)] (.cm .eq (.v 0) (.k (0))) = lw3f_c9 x0 x1 x2 f0 f1 f2 f3 by kernel_rfl).trans h1
            have ha := orT ha hx
            exact rgB ha
          have r9 : Rg.has (0, 0) (lw3f_at0 x2) := by
            have hr : InR [(0, 0), (0, 0), (-100, 100)] [(lw3f_at0 x0), (lw3f_at0 x1), (lw3f_at0 x2)] := ⟨r7, ⟨r8, ⟨lw3f_rg9 x0 x1 x2 f0 f1 f2 f3 hpre, trivial⟩⟩⟩
            have ha := BE.all_ok hr lw3f_q36 (by kernel_rfl)
            have hx : BE.ev [(lw3f_at0 x0), (lw3f_at0 x1), (lw3f_at0 x2)] lw3f_q33 = false := (show BE.ev [(lw3f_at0 x0), (lw3f_at0 x1), (lw3f_at0 x2)] lw3f_q33 = lw3f_c12 x0 x1 x2 f0 f1 f2 f3 by kernel_rfl).trans h12
            have ha := orT ha (notF hx)
            exact rgB ha
          have hr : InR [(0, 0), (0, 0), (0, 0), (-1000, 1000), (-1000, 1000), (-1000, 1000)] [(lw3f_at0 x0), (lw3f_at0 x1), (lw3f_at0 x2), (lw3f_at1 f0), (lw3f_at1 f1), (lw3f_at1 f2)] := ⟨r7, ⟨r8, ⟨r9, ⟨lw3f_rg10 x0 x1 x2 f0 f1 f2 f3 hpre, ⟨lw3f_rg11 x0 x1 x2 f0 f1 f2 f3 hpre, ⟨lw3f_rg12 x0 x1 x2 f0 f1 f2 f3 hpre, trivial⟩⟩⟩⟩⟩⟩
          have e1 : lw3f_c37 x0 x1 x2 f0 f1 f2 f3 = BE.ev [(lw3f_at0 x0), (lw3f_at0 x1), (lw3f_at0 x2), (lw3f_at1 f0), (lw3f_at1 f1), (lw3f_at1 f2)] (.cm .ne (.wr lw3f_q45) (.k (0))) := by kernel_rfl
          rw [e1]
          exact BE.tri_ok hr (by kernel_rfl) (by kernel_rfl)
        have h39 : (lw3f_c38 x0 x1 x2 f0 f1 f2 f3 = false) := by
          have r7 : Rg.has (0, 0) (lw3f_at0 x0) := by
            have hr : InR [(-100, 100)] [(lw3f_at0 x0)] := ⟨lw3f_rg7 x0 x1 x2 f0 f1 f2 f3 hpre, trivial⟩
            have ha := BE.all_ok hr lw3f_q20 (by kernel_rfl)
            have hx : BE.ev [(lw3f_at0 x0)] (.cm .eq (.v 0) (.k (0))) = true := (show BE.ev [(lw3f_at0 x0)] (.cm .eq (.v 0) (.k (0))) = lw3f_c0 x0 x1 x2 f0 f1 f2 f3 by kernel_rfl).trans h0
            have ha := orT ha hx
            exact rgB ha
          have r8 : Rg.has (0, 0) (lw3f_at0 x1) := by
            have hr : InR [(-100, 100)] [(lw3f_at0 x1)] := ⟨lw3f_rg8 x0 x1 x2 f0 f1 f2 f3 hpre, trivial⟩
            have ha := BE.all_ok hr lw3f_q20 (by kernel_rfl)
            have hx : BE.ev [(lw3f_at0 x1)] (.cm .eq (.v 0) (.k (0))) = true := (show BE.ev [(lw3f_at0 x1)] (.cm .eq (.v 0) (.k (0))) = lw3f_c9 x0 x1 x2 f0 f1 f2 f3 by kernel_rfl).trans h1
            have ha := orT ha hx
            exact rgB ha
          have r9 : Rg.has (0, 0) (lw3f_at0 x2) := by
            have hr : InR [(0, 0), (0, 0), (-100, 100)] [(lw3f_at0 x0), (lw3f_at0 x1), (lw3f_at0 x2)] := ⟨r7, ⟨r8, ⟨lw3f_rg9 x0 x1 x2 f0 f1 f2 f3 hpre, trivial⟩⟩⟩
            have ha := BE.all_ok hr lw3f_q36 (by kernel_rfl)
            have hx : BE.ev [(lw3f_at0 x0), (lw3f_at0 x1), (lw3f_at0 x2)] lw3f_q33 = false := (show BE.ev [(lw3f_at0 x0), (lw3f_at0 x1), (lw3f_at0 x2)] lw3f_q33 = lw3f_c12 x0 x1 x2 f0 f1 f2 f3 by kernel_rfl).trans h12
            have ha := orT ha (notF hx)
            exact rgB ha
          have hr : InR [(0, 0), (0, 0), (0, 0), (-1000, 1000), (-1000, 1000), (-1000, 1000)] [(lw3f_at0 x0), (lw3f_at0 x1), (lw3f_at0 x2), (lw3f_at1 f0), (lw3f_at1 f1), (lw3f_at1 f2)] := ⟨r7, ⟨r8, ⟨r9, ⟨lw3f_rg10 x0 x1 x2 f0 f1 f2 f3 hpre, ⟨lw3f_rg11 x0 x1 x2 f0 f1 f2 f3 hpre, ⟨lw3f_rg12 x0 x1 x2 f0 f1 f2 f3 hpre, trivial⟩⟩⟩⟩⟩⟩
          have e1 : lw3f_c38 x0 x1 x2 f0 f1 f2 f3 = BE.ev [(lw3f_at0 x0), (lw3f_at0 x1), (lw3f_at0 x2), (lw3f_at1 f0), (lw3f_at1 f1), (lw3f_at1 f2)] (.cm .ne (.wr lw3f_q46) (.k (0))) := by kernel_rfl
          rw [e1]
          exact BE.tri_ok hr (by kernel_rfl) (by kernel_rfl)
        have h40 : (lw3f_c39 x0 x1 x2 f0 f1 f2 f3 = false) := by
          have r7 : Rg.has (0, 0) (lw3f_at0 x0) := by
            have hr : InR [(-100, 100)] [(lw3f_at0 x0)] := ⟨lw3f_rg7 x0 x1 x2 f0 f1 f2 f3 hpre, trivial⟩
            have ha := BE.all_ok hr lw3f_q20 (by kernel_rfl)
            have hx : BE.ev [(lw3f_at0 x0)] (.cm .eq (.v 0) (.k (0))) = true := (show BE.ev [(lw3f_at0 x0)] (.cm .eq (.v 0) (.k (0))) = lw3f_c0 x0 x1 x2 f0 f1 f2 f3 by kernel_rfl).trans h0
            have ha := orT ha hx
            exact rgB ha
          have r8 : Rg.has (0, 0) (lw3f_at0 x1) := by
            have hr : InR [(-100, 100)] [(lw3f_at0 x1)] := ⟨lw3f_rg8 x0 x1 x2 f0 f1 f2 f3 hpre, trivial⟩
            have ha := BE.all_ok hr lw3f_q20 (by kernel_rfl)
            have hx : BE.ev [(lw3f_at0 x1)] (.cm .eq (.v 0) (.k (0))) = true := (show BE.ev [(lw3f_at0 x1)] (.cm .eq (.v 0) (.k (0))) = lw3f_c9 x0 x1 x2 f0 f1 f2 f3 by kernel_rfl).trans h1
            have ha := orT ha hx
            exact rgB ha
          have r9 : Rg.has (0, 0) (lw3f_at0 x2) := by
            have hr : InR [(0, 0), (0, 0), (-100, 100)] [(lw3f_at0 x0), (lw3f_at0 x1), (lw3f_at0 x2)] := ⟨r7, ⟨r8, ⟨lw3f_rg9 x0 x1 x2 f0 f1 f2 f3 hpre, trivial⟩⟩⟩
            have ha := BE.all_ok hr lw3f_q36 (by kernel_rfl)
            have hx : BE.ev [(lw3f_at0 x0), (lw3f_at0 x1), (lw3f_at0 x2)] lw3f_q33 = false := (show BE.ev [(lw3f_at0 x0), (lw3f_at0 x1), (lw3f_at0 x2)] lw3f_q33 = lw3f_c12 x0 x1 x2 f0 f1 f2 f3 by kernel_rfl).trans h12
            have ha := orT ha (notF hx)
            exact rgB ha
          have hr : InR [(0, 0), (0, 0), (0, 0), (-1000, 1000), (-1000, 1000), (-1000, 1000)] [(lw3f_at0 x0), (lw3f_at0 x1), (lw3f_at0 x2), (lw3f_at1 f0), (lw3f_at1 f1), (lw3f_at1 f2)] := ⟨r7, ⟨r8, ⟨r9, ⟨lw3f_rg10 x0 x1 x2 f0 f1 f2 f3 hpre, ⟨lw3f_rg11 x0 x1 x2 f0 f1 f2 f3 hpre, ⟨lw3f_rg12 x0 x1 x2 f0 f1 f2 f3 hpre, trivial⟩⟩⟩⟩⟩⟩
          have e1 : lw3f_c39 x0 x1 x2 f0 f1 f2 f3 = BE.ev [(lw3f_at0 x0), (lw3f_at0 x1), (lw3f_at0 x2), (lw3f_at1 f0), (lw3f_at1 f1), (lw3f_at1 f2)] (.cm .ne (.wr lw3f_q47) (.k (0))) := by kernel_rfl
          rw [e1]
          exact BE.tri_ok hr (by kernel_rfl) (by kernel_rfl)
        exact lw3f_p3 x0 x1 x2 f0 f1 f2 f3 c (lw3f_z14_h (lw3f_z12_h (lw3f_z8_h (lw3f_z11_h (lw3f_z6_h (lw3f_z2_h (lw3f_z10_h (lw3f_z4_h (lw3f_z0_h trivial x0 x1 x2 f0 f1 f2 f3 hpre) x0 x1 x2 f0 f1 f2 f3 hpre h0) x0 x1 x2 f0 f1 f2 f3 hpre h1) x0 x1 x2 f0 f1 f2 f3 hpre) x0 x1 x2 f0 f1 f2 f3 hpre h8) x0 x1 x2 f0 f1 f2 f3 hpre h9) x0 x1 x2 f0 f1 f2 f3 hpre h10) x0 x1 x2 f0 f1 f2 f3 hpre h11) x0 x1 x2 f0 f1 f2 f3 hpre h12 h15 h16 h27 h28 h29 h30 h31 h32 h33 h34 h35 h36 h37 h38 h39 h40)
    ·
      have h41 : (lw3f_c1 x0 x1 x2 f0 f1 f2 f3 = false) := lw3f_c1_ff x0 x1 x2 f0 f1 f2 f3 hpre
      have h42 : (lw3f_c2 x0 x1 x2 f0 f1 f2 f3 = false) := lw3f_c2_ff x0 x1 x2 f0 f1 f2 f3 hpre
      have h43 : (lw3f_c3 x0 x1 x2 f0 f1 f2 f3 = false) := lw3f_c3_ff x0 x1 x2 f0 f1 f2 f3 hpre
      have h44 : (lw3f_c4 x0 x1 x2 f0 f1 f2 f3 = false) := lw3f_c4_ff x0 x1 x2 f0 f1 f2 f3 hpre
      have h45 : (lw3f_c5 x0 x1 x2 f0 f1 f2 f3 = false) := lw3f_c5_ff x0 x1 x2 f0 f1 f2 f3 hpre
      have h46 : (lw3f_c6 x0 x1 x2 f0 f1 f2 f3 = false) := lw3f_c6_ff x0 x1 x2 f0 f1 f2 f3 hpre
      have h47 : (lw3f_c7 x0 x1 x2 f0 f1 f2 f3 = true) := by
        have r7 : Rg.has (0, 0) (lw3f_at0 x0) := by
          have hr : InR [(-100, 100)] [(lw3f_at0 x0)] := ⟨lw3f_rg7 x0 x1 x2 f0 f1 f2 f3 hpre, trivial⟩
          have ha := BE.all_ok hr lw3f_q20 (by kernel_rfl)
          have hx : BE.ev [(lw3f_at0 x0)] (.cm .eq (.v 0) (.k (0))) = true := (show BE.ev [(lw3f_at0 x0)] (.cm .eq (.v 0) (.k (0))) = lw3f_c0 x0 x1 x2 f0 f1 f2 f3 by kernel_rfl).trans h0
          have ha := orT ha hx
          exact rgB ha
        have hr : InR [(0, 0)] [(lw3f_at0 x0)] := ⟨r7, trivial⟩
        have e1 : lw3f_c7 x0 x1 x2 f0 f1 f2 f3 = BE.ev [(lw3f_at0 x0)] lw3f_q21 := by kernel_rfl
        rw [e1]
        exact BE.tri_ok hr (by kernel_rfl) (by kernel_rfl)
      have h48 : (lw3f_c10 x0 x1 x2 f0 f1 f2 f3 = false) := by
        have r7 : Rg.has (0, 0) (lw3f_at0 x0) := by
          have hr : InR [(-100, 100)] [(lw3f_at0 x0)] := ⟨lw3f_rg7 x0 x1 x2 f0 f1 f2 f3 hpre, trivial⟩
          have ha := BE.all_ok hr lw3f_q20 (by kernel_rfl)
          have hx : BE.ev [(lw3f_at0 x0)] (.cm .eq (.v 0) (.k (0))) = true := (show BE.ev [(lw3f_at0 x0)] (.cm .eq (.v 0) (.k (0))) = lw3f_c0 x0 x1 x2 f0 f1 f2 f3 by kernel_rfl).trans h0
          have ha := orT ha hx
          exact rgB ha
        have hr : InR [(0, 0), (-100, 100), (-100, 100)] [(lw3f_at0 x0), (lw3f_at0 x1), (lw3f_at0 x2)] := ⟨r7, ⟨lw3f_rg8 x0 x1 x2 f0 f1 f2 f3 hpre, ⟨lw3f_rg9 x0 x1 x2 f0 f1 f2 f3 hpre, trivial⟩⟩⟩
        have hr2 : InR [(-100, 100)] [(lw3f_at0 x1)] := ⟨lw3f_rg8 x0 x1 x2 f0 f1 f2 f3 hpre, trivial⟩
        have ha := BE.all_ok hr2 (.or (.cm .eq (.v 0) (.k (0))) (.not (.not (.cm .ge lw3f_q48 (.k (1)))))) (by kernel_rfl)
        have hx : BE.ev [(lw3f_at0 x1)] (.cm .eq (.v 0) (.k (0))) = false := (show BE.ev [(lw3f_at0 x1)] (.cm .eq (.v 0) (.k (0))) = BE.ev [(lw3f_at0 x0), (lw3f_at0 x1), (lw3f_at0 x2)] (.cm .eq (.v 1) (.k (0))) by kernel_rfl).trans ((BE.smp_to hr (.cm .eq (.v 1) (.k (0))) (.cm .eq (.v 1) (.k (0))) (by kernel_rfl) (by kernel_rfl)).symm.trans ((show BE.ev [(lw3f_at0 x0), (lw3f_at0 x1), (lw3f_at0 x2)] (.cm .eq (.v 1) (.k (0))) = lw3f_c9 x0 x1 x2 f0 f1 f2 f3 by kernel_rfl).trans h1))
        have ha := orF ha hx
        exact (show lw3f_c10 x0 x1 x2 f0 f1 f2 f3 = BE.ev [(lw3f_at0 x0), (lw3f_at0 x1), (lw3f_at0 x2)] (.not lw3f_q24) by kernel_rfl).trans ((BE.smp_to hr (.not lw3f_q24) (.not (.cm .ge lw3f_q49 (.k (1)))) (by kernel_rfl) (by kernel_rfl)).trans ((show BE.ev [(lw3f_at0 x0), (lw3f_at0 x1), (lw3f_at0 x2)] (.not (.cm .ge lw3f_q49 (.k (1)))) = BE.ev [(lw3f_at0 x1)] (.not (.cm .ge lw3f_q48 (.k (1)))) by kernel_rfl).trans (notT ha)))
      have h49 : (lw3f_c8 x0 x1 x2 f0 f1 f2 f3 = false) := by
        have hz := (show lw3f_c7 x0 x1 x2 f0 f1 f2 f3 = Bool.not (lw3f_c8 x0 x1 x2 f0 f1 f2 f3) by kernel_rfl).symm.trans h47
        generalize lw3f_c8 x0 x1 x2 f0 f1 f2 f3 = z at hz ⊢
        cases z <;> first | rfl | cases hz
      have h50 : (lw3f_c11 x0 x1 x2 f0 f1 f2 f3 = true) := by
        have hz := (show lw3f_c10 x0 x1 x2 f0 f1 f2 f3 = Bool.not (lw3f_c11 x0 x1 x2 f0 f1 f2 f3) by kernel_rfl).symm.trans h48
        generalize lw3f_c11 x0 x1 x2 f0 f1 f2 f3 = z at hz ⊢
        cases z <;> first | rfl | cases hz
      exact lw3f_p1 x0 x1 x2 f0 f1 f2 f3 c (lw3f_z9_h (lw3f_z8_h (lw3f_z7_h (lw3f_z6_h (lw3f_z2_h (lw3f_z5_h (lw3f_z4_h (lw3f_z0_h trivial x0 x1 x2 f0 f1 f2 f3 hpre) x0 x1 x2 f0 f1 f2 f3 hpre h0) x0 x1 x2 f0 f1 f2 f3 hpre h1) x0 x1 x2 f0 f1 f2 f3 hpre) x0 x1 x2 f0 f1 f2 f3 hpre h47) x0 x1 x2 f0 f1 f2 f3 hpre h48) x0 x1 x2 f0 f1 f2 f3 hpre h49) x0 x1 x2 f0 f1 f2 f3 hpre h50)
  ·
    have h51 : (lw3f_c1 x0 x1 x2 f0 f1 f2 f3 = false) := lw3f_c1_ff x0 x1 x2 f0 f1 f2 f3 hpre
    have h52 : (lw3f_c2 x0 x1 x2 f0 f1 f2 f3 = false) := lw3f_c2_ff x0 x1 x2 f0 f1 f2 f3 hpre
    have h53 : (lw3f_c3 x0 x1 x2 f0 f1 f2 f3 = false) := lw3f_c3_ff x0 x1 x2 f0 f1 f2 f3 hpre
    have h54 : (lw3f_c4 x0 x1 x2 f0 f1 f2 f3 = false) := lw3f_c4_ff x0 x1 x2 f0 f1 f2 f3 hpre
    have h55 : (lw3f_c5 x0 x1 x2 f0 f1 f2 f3 = false) := lw3f_c5_ff x0 x1 x2 f0 f1 f2 f3 hpre
    have h56 : (lw3f_c6 x0 x1 x2 f0 f1 f2 f3 = false) := lw3f_c6_ff x0 x1 x2 f0 f1 f2 f3 hpre
    have h57 : (lw3f_c7 x0 x1 x2 f0 f1 f2 f3 = false) := by
      have hr : InR [(-100, 100)] [(lw3f_at0 x0)] := ⟨lw3f_rg7 x0 x1 x2 f0 f1 f2 f3 hpre, trivial⟩
      have hr2 : InR [(-100, 100)] [(lw3f_at0 x0)] := ⟨lw3f_rg7 x0 x1 x2 f0 f1 f2 f3 hpre, trivial⟩
      have ha := BE.all_ok hr2 (.or (.cm .eq (.v 0) (.k (0))) (.not lw3f_q50)) (by kernel_rfl)
      have hx : BE.ev [(lw3f_at0 x0)] (.cm .eq (.v 0) (.k (0))) = false := (show BE.ev [(lw3f_at0 x0)] (.cm .eq (.v 0) (.k (0))) = BE.ev [(lw3f_at0 x0)] (.cm .eq (.v 0) (.k (0))) by kernel_rfl).trans ((BE.smp_to hr (.cm .eq (.v 0) (.k (0))) (.cm .eq (.v 0) (.k (0))) (by kernel_rfl) (by kernel_rfl)).symm.trans ((show BE.ev [(lw3f_at0 x0)] (.cm .eq (.v 0) (.k (0))) = lw3f_c0 x0 x1 x2 f0 f1 f2 f3 by kernel_rfl).trans h0))
      have ha := orF ha hx
      exact (show lw3f_c7 x0 x1 x2 f0 f1 f2 f3 = BE.ev [(lw3f_at0 x0)] lw3f_q21 by kernel_rfl).trans ((BE.smp_to hr lw3f_q21 lw3f_q50 (by kernel_rfl) (by kernel_rfl)).trans ((show BE.ev [(lw3f_at0 x0)] lw3f_q50 = BE.ev [(lw3f_at0 x0)] lw3f_q50 by kernel_rfl).trans (notT ha)))
    have h58 : (lw3f_c8 x0 x1 x2 f0 f1 f2 f3 = true) := by
      have hz := (show lw3f_c7 x0 x1 x2 f0 f1 f2 f3 = Bool.not (lw3f_c8 x0 x1 x2 f0 f1 f2 f3) by kernel_rfl).symm.trans h57
      generalize lw3f_c8 x0 x1 x2 f0 f1 f2 f3 = z at hz ⊢
      cases z <;> first | rfl | cases hz
    exact lw3f_p0 x0 x1 x2 f0 f1 f2 f3 c (lw3f_z3_h (lw3f_z2_h (lw3f_z1_h (lw3f_z0_h trivial x0 x1 x2 f0 f1 f2 f3 hpre) x0 x1 x2 f0 f1 f2 f3 hpre h0) x0 x1 x2 f0 f1 f2 f3 hpre) x0 x1 x2 f0 f1 f2 f3 hpre h57 h58)
end Go.Proofs.YtencngffhbhifaaGreatDoor
end
section
set_option linter.all false
set_option maxRecDepth 1000000
set_option maxHeartbeats 2000000
open Go.RowKit
namespace Go.Proofs.YtencngffhbhifaaGreatDoor
open Mini
def lw3t_at0 (y : Int) : Int := (Int.tmod (IntKind.i64.wrap y) (101 : Int))
def lw3t_at1 (y : Int) : Int := (Int.tmod (IntKind.i64.wrap y) (1001 : Int))
def lw3t_q0 : IE := .ite .gt (.k (1)) (.k (-1)) (.k (1)) (.k (-1))
def lw3t_q1 : BE := .cm .ge (.ite .gt (.wr (.sub (.k (0)) (.v 7))) (.v 7) (.wr (.sub (.k (0)) (.v 7))) (.v 7)) lw3t_q0
def lw3t_q2 : IE := .wr (.sub (.wr (.mul (.k (-1)) (.v 8))) (.wr (.mul (.v 7) (.v 9))))
def lw3t_q3 : IE := .wr (.sub (.k (1)) (.wr (.mul (.v 7) (.v 7))))
def lw3t_q4 : BE := .cm .ge (.ite .gt (.wr (.sub (.k (0)) lw3t_q2)) lw3t_q2 (.wr (.sub (.k (0)) lw3t_q2)) lw3t_q2) (.ite .gt (.wr (.sub (.k (0)) lw3t_q3)) lw3t_q3 (.wr (.sub (.k (0)) lw3t_q3)) lw3t_q3)
def lw3t_q5 : IE := .wr (.sub (.wr (.mul (.k (-1)) (.v 9))) (.wr (.mul (.v 7) (.v 8))))
def lw3t_q6 : IE := .wr (.sub (.wr (.mul lw3t_q3 lw3t_q5)) (.wr (.mul lw3t_q2 lw3t_q5)))
def lw3t_q7 : IE := .wr (.sub (.wr (.mul lw3t_q3 lw3t_q3)) (.wr (.mul lw3t_q2 lw3t_q2)))
def lw3t_q8 : BE := .cm .ge (.ite .gt (.wr (.sub (.k (0)) lw3t_q6)) lw3t_q6 (.wr (.sub (.k (0)) lw3t_q6)) lw3t_q6) (.ite .gt (.wr (.sub (.k (0)) lw3t_q7)) lw3t_q7 (.wr (.sub (.k (0)) lw3t_q7)) lw3t_q7)
def lw3t_q9 : IE := .wr (.sub (.k (0)) (.wr (.mul (.v 7) (.k (1)))))
def lw3t_q10 : IE := .wr (.sub (.k (0)) (.wr (.mul (.v 8) (.k (-1)))))
def lw3t_q11 : IE := .add (.wr (.add (.k (0)) (.wr (.mul lw3t_q9 (.wr (.mul (.v 10) (.k (1)))))))) (.wr (.mul lw3t_q10 (.wr (.mul (.v 11) (.k (-1))))))
def lw3t_q12 : IE := .wr (.sub (.k (0)) (.wr (.mul (.v 9) (.k (1)))))
def lw3t_q13 : IE := .wr (.add (.wr lw3t_q11) (.wr (.mul lw3t_q12 (.wr (.mul (.v 12) (.k (1)))))))
def lw3t_q14 : IE := .add (.wr (.add (.k (0)) (.wr (.mul lw3t_q9 (.wr (.mul (.v 11) (.k (-1)))))))) (.wr (.mul lw3t_q10 (.wr (.mul (.v 12) (.k (1))))))
def lw3t_q15 : IE := .wr (.add (.wr lw3t_q14) (.wr (.mul lw3t_q12 lw3t_q13)))
def lw3t_q16 : IE := .add (.wr (.add (.wr (.add (.k (0)) (.wr (.mul lw3t_q9 (.wr (.mul (.v 12) (.k (1)))))))) (.wr (.mul lw3t_q10 lw3t_q13)))) (.wr (.mul lw3t_q12 lw3t_q15))
def lw3t_q17 : IE := .add (.wr (.add (.wr (.add (.k (0)) (.wr (.mul lw3t_q9 lw3t_q13)))) (.wr (.mul lw3t_q10 lw3t_q15)))) (.wr (.mul lw3t_q12 (.wr lw3t_q16)))
def lw3t_q18 : IE := .add (.wr (.add (.wr (.add (.k (0)) (.wr (.mul lw3t_q9 lw3t_q15)))) (.wr (.mul lw3t_q10 (.wr lw3t_q16))))) (.wr (.mul lw3t_q12 (.wr lw3t_q17)))
def lw3t_q19 : IE := .add (.wr (.add (.wr (.add (.k (0)) (.wr (.mul lw3t_q9 (.wr lw3t_q16))))) (.wr (.mul lw3t_q10 (.wr lw3t_q17))))) (.wr (.mul lw3t_q12 (.wr lw3t_q18)))
def lw3t_q20 : BE := .or (.not (.cm .eq (.v 0) (.k (0)))) (.and (.cm .le (.k (0)) (.v 0)) (.cm .le (.v 0) (.k (0))))
def lw3t_q21 : BE := .not (.cm .ge (.ite .gt (.wr (.sub (.k (0)) (.v 0))) (.v 0) (.wr (.sub (.k (0)) (.v 0))) (.v 0)) lw3t_q0)
def lw3t_q22 : IE := .wr (.sub (.wr (.mul (.k (-1)) (.v 1))) (.wr (.mul (.v 0) (.v 2))))
def lw3t_q23 : IE := .wr (.sub (.k (1)) (.wr (.mul (.v 0) (.v 0))))
def lw3t_q24 : BE := .cm .ge (.ite .gt (.wr (.sub (.k (0)) lw3t_q22)) lw3t_q22 (.wr (.sub (.k (0)) lw3t_q22)) lw3t_q22) (.ite .gt (.wr (.sub (.k (0)) lw3t_q23)) lw3t_q23 (.wr (.sub (.k (0)) lw3t_q23)) lw3t_q23)
def lw3t_q25 : IE := .sub (.k (0)) (.mul (.k (1)) (.mul (.k (-1)) (.v 0)))
def lw3t_q26 : BE := .cm .ge (.ite .gt lw3t_q25 (.mul (.k (1)) (.mul (.k (-1)) (.v 0))) lw3t_q25 (.mul (.k (1)) (.mul (.k (-1)) (.v 0)))) (.k (1))
def lw3t_q27 : BE := .not (.beq (.not .t) (.cm .eq (.v 0) (.k (0))))
def lw3t_q28 : IE := .sub (.k (0)) (.mul (.k (1)) (.mul (.k (-1)) (.v 2)))
def lw3t_q29 : BE := .cm .ge (.ite .gt lw3t_q28 (.mul (.k (1)) (.mul (.k (-1)) (.v 2))) lw3t_q28 (.mul (.k (1)) (.mul (.k (-1)) (.v 2)))) (.k (1))
def lw3t_q30 : IE := .wr (.sub (.wr (.mul (.k (-1)) (.v 2))) (.wr (.mul (.v 0) (.v 1))))
def lw3t_q31 : IE := .wr (.sub (.wr (.mul lw3t_q23 lw3t_q30)) (.wr (.mul lw3t_q22 lw3t_q30)))
def lw3t_q32 : IE := .wr (.sub (.wr (.mul lw3t_q23 lw3t_q23)) (.wr (.mul lw3t_q22 lw3t_q22)))
def lw3t_q33 : BE := .cm .ge (.ite .gt (.wr (.sub (.k (0)) lw3t_q31)) lw3t_q31 (.wr (.sub (.k (0)) lw3t_q31)) lw3t_q31) (.ite .gt (.wr (.sub (.k (0)) lw3t_q32)) lw3t_q32 (.wr (.sub (.k (0)) lw3t_q32)) lw3t_q32)
def lw3t_q34 : BE := .not (.beq (.not (.cm .ge (.k (2)) (.k (0)))) (.cm .eq (.v 2) (.k (0))))
def lw3t_q35 : BE := .not (.beq (.not .t) (.cm .eq (.v 2) (.k (0))))
def lw3t_q36 : BE := .or (.not (.not lw3t_q33)) (.and (.cm .le (.k (0)) (.v 2)) (.cm .le (.v 2) (.k (0))))
def lw3t_q37 : IE := .wr (.sub (.k (0)) (.wr (.mul (.v 0) (.k (1)))))
def lw3t_q38 : IE := .wr (.sub (.k (0)) (.wr (.mul (.v 1) (.k (-1)))))
def lw3t_q39 : IE := .add (.wr (.add (.k (0)) (.wr (.mul lw3t_q37 (.wr (.mul (.v 3) (.k (1)))))))) (.wr (.mul lw3t_q38 (.wr (.mul (.v 4) (.k (-1))))))
def lw3t_q40 : IE := .wr (.sub (.k (0)) (.wr (.mul (.v 2) (.k (1)))))
def lw3t_q41 : IE := .wr (.add (.wr lw3t_q39) (.wr (.mul lw3t_q40 (.wr (.mul (.v 5) (.k (1)))))))
def lw3t_q42 : IE := .add (.wr (.add (.k (0)) (.wr (.mul lw3t_q37 (.wr (.mul (.v 4) (.k (-1)))))))) (.wr (.mul lw3t_q38 (.wr (.mul (.v 5) (.k (1))))))
def lw3t_q43 : IE := .wr (.add (.wr lw3t_q42) (.wr (.mul lw3t_q40 lw3t_q41)))
def lw3t_q44 : IE := .add (.wr (.add (.wr (.add (.k (0)) (.wr (.mul lw3t_q37 (.wr (.mul (.v 5) (.k (1)))))))) (.wr (.mul lw3t_q38 lw3t_q41)))) (.wr (.mul lw3t_q40 lw3t_q43))
def lw3t_q45 : IE := .add (.wr (.add (.wr (.add (.k (0)) (.wr (.mul lw3t_q37 lw3t_q41)))) (.wr (.mul lw3t_q38 lw3t_q43)))) (.wr (.mul lw3t_q40 (.wr lw3t_q44)))
def lw3t_q46 : IE := .add (.wr (.add (.wr (.add (.k (0)) (.wr (.mul lw3t_q37 lw3t_q43)))) (.wr (.mul lw3t_q38 (.wr lw3t_q44))))) (.wr (.mul lw3t_q40 (.wr lw3t_q45)))
def lw3t_q47 : IE := .add (.wr (.add (.wr (.add (.k (0)) (.wr (.mul lw3t_q37 (.wr lw3t_q44))))) (.wr (.mul lw3t_q38 (.wr lw3t_q45))))) (.wr (.mul lw3t_q40 (.wr lw3t_q46)))
def lw3t_q48 : IE := .ite .gt (.sub (.k (0)) (.mul (.k (-1)) (.v 0))) (.mul (.k (-1)) (.v 0)) (.sub (.k (0)) (.mul (.k (-1)) (.v 0))) (.mul (.k (-1)) (.v 0))
def lw3t_q49 : IE := .ite .gt (.sub (.k (0)) (.mul (.k (-1)) (.v 1))) (.mul (.k (-1)) (.v 1)) (.sub (.k (0)) (.mul (.k (-1)) (.v 1))) (.mul (.k (-1)) (.v 1))
def lw3t_q50 : BE := .not (.cm .ge (.ite .gt (.sub (.k (0)) (.v 0)) (.v 0) (.sub (.k (0)) (.v 0)) (.v 0)) (.k (1)))

theorem lw3t_X : FOkS Tryz.prog x_lw3t := bothX_ok (noXS_ok) (tabT_ok (by kernel_rfl) aw3_calls)
theorem lw3t_rg7 (x0 x1 x2 f0 f1 f2 f3 : Int) (hpre : True) : Rg.has (-100, 100) (lw3t_at0 x0) := by
  have h := IE.rng_ok (β := [(-9223372036854775808, 9223372036854775807)]) (ρ := [(IntKind.i64.wrap x0)]) ⟨wrR _, trivial⟩ (e := (.md (.v 0) 101)) (by kernel_rfl)
  rw [show IE.rng [(-9223372036854775808, 9223372036854775807)] (.md (.v 0) 101) = (-100, 100) from by kernel_rfl] at h
  exact h
theorem lw3t_rg8 (x0 x1 x2 f0 f1 f2 f3 : Int) (hpre : True) : Rg.has (-100, 100) (lw3t_at0 x1) := by
  have h := IE.rng_ok (β := [(-9223372036854775808, 9223372036854775807)]) (ρ := [(IntKind.i64.wrap x1)]) ⟨wrR _, trivial⟩ (e := (.md (.v 0) 101)) (by kernel_rfl)
  rw [show IE.rng [(-9223372036854775808, 9223372036854775807)] (.md (.v 0) 101) = (-100, 100) from by kernel_rfl] at h
  exact h
theorem lw3t_rg9 (x0 x1 x2 f0 f1 f2 f3 : Int) (hpre : True) : Rg.has (-100, 100) (lw3t_at0 x2) := by
  have h := IE.rng_ok (β := [(-9223372036854775808, 9223372036854775807)]) (ρ := [(IntKind.i64.wrap x2)]) ⟨wrR _, trivial⟩ (e := (.md (.v 0) 101)) (by kernel_rfl)
  rw [show IE.rng [(-9223372036854775808, 9223372036854775807)] (.md (.v 0) 101) = (-100, 100) from by kernel_rfl] at h
  exact h
theorem lw3t_rg10 (x0 x1 x2 f0 f1 f2 f3 : Int) (hpre : True) : Rg.has (-1000, 1000) (lw3t_at1 f0) := by
  have h := IE.rng_ok (β := [(-9223372036854775808, 9223372036854775807)]) (ρ := [(IntKind.i64.wrap f0)]) ⟨wrR _, trivial⟩ (e := (.md (.v 0) 1001)) (by kernel_rfl)
  rw [show IE.rng [(-9223372036854775808, 9223372036854775807)] (.md (.v 0) 1001) = (-1000, 1000) from by kernel_rfl] at h
  exact h
theorem lw3t_rg11 (x0 x1 x2 f0 f1 f2 f3 : Int) (hpre : True) : Rg.has (-1000, 1000) (lw3t_at1 f1) := by
  have h := IE.rng_ok (β := [(-9223372036854775808, 9223372036854775807)]) (ρ := [(IntKind.i64.wrap f1)]) ⟨wrR _, trivial⟩ (e := (.md (.v 0) 1001)) (by kernel_rfl)
  rw [show IE.rng [(-9223372036854775808, 9223372036854775807)] (.md (.v 0) 1001) = (-1000, 1000) from by kernel_rfl] at h
  exact h
theorem lw3t_rg12 (x0 x1 x2 f0 f1 f2 f3 : Int) (hpre : True) : Rg.has (-1000, 1000) (lw3t_at1 f2) := by
  have h := IE.rng_ok (β := [(-9223372036854775808, 9223372036854775807)]) (ρ := [(IntKind.i64.wrap f2)]) ⟨wrR _, trivial⟩ (e := (.md (.v 0) 1001)) (by kernel_rfl)
  rw [show IE.rng [(-9223372036854775808, 9223372036854775807)] (.md (.v 0) 1001) = (-1000, 1000) from by kernel_rfl] at h
  exact h
theorem lw3t_rg13 (x0 x1 x2 f0 f1 f2 f3 : Int) (hpre : True) : Rg.has (-1000, 1000) (lw3t_at1 f3) := by
  have h := IE.rng_ok (β := [(-9223372036854775808, 9223372036854775807)]) (ρ := [(IntKind.i64.wrap f3)]) ⟨wrR _, trivial⟩ (e := (.md (.v 0) 1001)) (by kernel_rfl)
  rw [show IE.rng [(-9223372036854775808, 9223372036854775807)] (.md (.v 0) 1001) = (-1000, 1000) from by kernel_rfl] at h
  exact h
def lw3t_R (x0 x1 x2 f0 f1 f2 f3 : Int) : List Int := [(IntKind.i64.wrap x0), (IntKind.i64.wrap x1), (IntKind.i64.wrap x2), (IntKind.i64.wrap f0), (IntKind.i64.wrap f1), (IntKind.i64.wrap f2), (IntKind.i64.wrap f3), (lw3t_at0 x0), (lw3t_at0 x1), (lw3t_at0 x2), (lw3t_at1 f0), (lw3t_at1 f1), (lw3t_at1 f2), (lw3t_at1 f3)]
def lw3t_B : List Rg := [(-9223372036854775808, 9223372036854775807), (-9223372036854775808, 9223372036854775807), (-9223372036854775808, 9223372036854775807), (-9223372036854775808, 9223372036854775807), (-9223372036854775808, 9223372036854775807), (-9223372036854775808, 9223372036854775807), (-9223372036854775808, 9223372036854775807), (-100, 100), (-100, 100), (-100, 100), (-1000, 1000), (-1000, 1000), (-1000, 1000), (-1000, 1000)]
theorem lw3t_hr (x0 x1 x2 f0 f1 f2 f3 : Int) (hpre : True) : InR lw3t_B (lw3t_R x0 x1 x2 f0 f1 f2 f3) := ⟨wrR _, ⟨wrR _, ⟨wrR _, ⟨wrR _, ⟨wrR _, ⟨wrR _, ⟨wrR _, ⟨lw3t_rg7 x0 x1 x2 f0 f1 f2 f3 hpre, ⟨lw3t_rg8 x0 x1 x2 f0 f1 f2 f3 hpre, ⟨lw3t_rg9 x0 x1 x2 f0 f1 f2 f3 hpre, ⟨lw3t_rg10 x0 x1 x2 f0 f1 f2 f3 hpre, ⟨lw3t_rg11 x0 x1 x2 f0 f1 f2 f3 hpre, ⟨lw3t_rg12 x0 x1 x2 f0 f1 f2 f3 hpre, ⟨lw3t_rg13 x0 x1 x2 f0 f1 f2 f3 hpre, trivial⟩⟩⟩⟩⟩⟩⟩⟩⟩⟩⟩⟩⟩⟩
def lw3t_h0 : Prop := (false = false)
theorem lw3t_g0 : (false = false) := by first | rfl | trivial | decide | omega
def lw3t_h1 : Prop := ((decide ((3 : Int) > (4 : Int))) = Bool.false)
theorem lw3t_g1 : ((decide ((3 : Int) > (4 : Int))) = Bool.false) := by first | rfl | trivial | decide | omega
def lw3t_h2 : Prop := (true = true)
theorem lw3t_g2 : (true = true) := by first | rfl | trivial | decide | omega
def lw3t_h3 : Prop := ((0 : Int) = (0 : Int))
theorem lw3t_g3 : ((0 : Int) = (0 : Int)) := by first | rfl | trivial | decide | omega
def lw3t_h4 : Prop := ((1 : Int) = (1 : Int))
theorem lw3t_g4 : ((1 : Int) = (1 : Int)) := by first | rfl | trivial | decide | omega
def lw3t_c0 (x0 x1 x2 f0 f1 f2 f3 : Int) : Bool := BE.ev (lw3t_R x0 x1 x2 f0 f1 f2 f3) (.cm .eq (.v 7) (.k (0)))
def lw3t_h6 : Prop := ((2 : Int) = (2 : Int))
theorem lw3t_g6 : ((2 : Int) = (2 : Int)) := by first | rfl | trivial | decide | omega
def lw3t_h7 : Prop := ((decide ((4 : Int) > (5 : Int))) = Bool.false)
theorem lw3t_g7 : ((decide ((4 : Int) > (5 : Int))) = Bool.false) := by first | rfl | trivial | decide | omega
def lw3t_c1 (x0 x1 x2 f0 f1 f2 f3 : Int) : Bool := BE.ev (lw3t_R x0 x1 x2 f0 f1 f2 f3) (.cm .lt (.v 7) (.k (-100)))
def lw3t_c2 (x0 x1 x2 f0 f1 f2 f3 : Int) : Bool := BE.ev (lw3t_R x0 x1 x2 f0 f1 f2 f3) (.cm .gt (.v 7) (.k (100)))
def lw3t_c3 (x0 x1 x2 f0 f1 f2 f3 : Int) : Bool := BE.ev (lw3t_R x0 x1 x2 f0 f1 f2 f3) (.cm .lt (.v 8) (.k (-100)))
def lw3t_c4 (x0 x1 x2 f0 f1 f2 f3 : Int) : Bool := BE.ev (lw3t_R x0 x1 x2 f0 f1 f2 f3) (.cm .gt (.v 8) (.k (100)))
def lw3t_c5 (x0 x1 x2 f0 f1 f2 f3 : Int) : Bool := BE.ev (lw3t_R x0 x1 x2 f0 f1 f2 f3) (.cm .lt (.v 9) (.k (-100)))
def lw3t_c6 (x0 x1 x2 f0 f1 f2 f3 : Int) : Bool := BE.ev (lw3t_R x0 x1 x2 f0 f1 f2 f3) (.cm .gt (.v 9) (.k (100)))
def lw3t_h14 : Prop := ((3 : Int) = (3 : Int))
theorem lw3t_g14 : ((3 : Int) = (3 : Int)) := by first | rfl | trivial | decide | omega
def lw3t_h15 : Prop := ((decide ((-1 : Int) > (100 : Int))) = Bool.false)
theorem lw3t_g15 : ((decide ((-1 : Int) > (100 : Int))) = Bool.false) := by first | rfl | trivial | decide | omega
def lw3t_h16 : Prop := ((Bool.false != Bool.false) = Bool.false)
theorem lw3t_g16 : ((Bool.false != Bool.false) = Bool.false) := by first | rfl | trivial | decide | omega
def lw3t_h17 : Prop := ((decide ((4 : Int) > (2 : Int))) = Bool.true)
theorem lw3t_g17 : ((decide ((4 : Int) > (2 : Int))) = Bool.true) := by first | rfl | trivial | decide | omega
def lw3t_c7 (x0 x1 x2 f0 f1 f2 f3 : Int) : Bool := BE.ev (lw3t_R x0 x1 x2 f0 f1 f2 f3) (.not lw3t_q1)
def lw3t_c8 (x0 x1 x2 f0 f1 f2 f3 : Int) : Bool := BE.ev (lw3t_R x0 x1 x2 f0 f1 f2 f3) lw3t_q1
def lw3t_h20 : Prop := ((Bool.not ((Bool.not (decide ((0 : Int) ≥ (0 : Int)))) == Bool.false)) = Bool.false)
theorem lw3t_g20 : ((Bool.not ((Bool.not (decide ((0 : Int) ≥ (0 : Int)))) == Bool.false)) = Bool.false) := by first | rfl | trivial | decide | omega
def lw3t_c9 (x0 x1 x2 f0 f1 f2 f3 : Int) : Bool := BE.ev (lw3t_R x0 x1 x2 f0 f1 f2 f3) (.cm .eq (.v 8) (.k (0)))
def lw3t_h24 : Prop := ((decide ((3 : Int) > (2 : Int))) = Bool.true)
theorem lw3t_g24 : ((decide ((3 : Int) > (2 : Int))) = Bool.true) := by first | rfl | trivial | decide | omega
def lw3t_c10 (x0 x1 x2 f0 f1 f2 f3 : Int) : Bool := BE.ev (lw3t_R x0 x1 x2 f0 f1 f2 f3) (.not lw3t_q4)
def lw3t_c11 (x0 x1 x2 f0 f1 f2 f3 : Int) : Bool := BE.ev (lw3t_R x0 x1 x2 f0 f1 f2 f3) lw3t_q4
def lw3t_h28 : Prop := ((Bool.not ((Bool.not (decide ((1 : Int) ≥ (0 : Int)))) == Bool.false)) = Bool.false)
theorem lw3t_g28 : ((Bool.not ((Bool.not (decide ((1 : Int) ≥ (0 : Int)))) == Bool.false)) = Bool.false) := by first | rfl | trivial | decide | omega
def lw3t_h31 : Prop := ((decide ((2 : Int) > (2 : Int))) = Bool.false)
theorem lw3t_g31 : ((decide ((2 : Int) > (2 : Int))) = Bool.false) := by first | rfl | trivial | decide | omega
def lw3t_c12 (x0 x1 x2 f0 f1 f2 f3 : Int) : Bool := BE.ev (lw3t_R x0 x1 x2 f0 f1 f2 f3) lw3t_q8
def lw3t_c13 (x0 x1 x2 f0 f1 f2 f3 : Int) : Bool := BE.ev (lw3t_R x0 x1 x2 f0 f1 f2 f3) (.not (.beq (.not (.cm .ge (.k (2)) (.k (0)))) (.cm .eq (.v 9) (.k (0)))))
def lw3t_c14 (x0 x1 x2 f0 f1 f2 f3 : Int) : Bool := BE.ev (lw3t_R x0 x1 x2 f0 f1 f2 f3) (.not (.cm .eq (.v 9) (.k (0))))
def lw3t_c15 (x0 x1 x2 f0 f1 f2 f3 : Int) : Bool := BE.ev (lw3t_R x0 x1 x2 f0 f1 f2 f3) (.not (.beq (.not (.cm .ge (.k (-1)) (.k (0)))) (.cm .eq (.v 9) (.k (0)))))
def lw3t_c16 (x0 x1 x2 f0 f1 f2 f3 : Int) : Bool := BE.ev (lw3t_R x0 x1 x2 f0 f1 f2 f3) (.cm .lt (.v 10) (.k (-1000)))
def lw3t_c17 (x0 x1 x2 f0 f1 f2 f3 : Int) : Bool := BE.ev (lw3t_R x0 x1 x2 f0 f1 f2 f3) (.cm .gt (.v 10) (.k (1000)))
def lw3t_c18 (x0 x1 x2 f0 f1 f2 f3 : Int) : Bool := BE.ev (lw3t_R x0 x1 x2 f0 f1 f2 f3) (.cm .lt (.v 11) (.k (-1000)))
def lw3t_c19 (x0 x1 x2 f0 f1 f2 f3 : Int) : Bool := BE.ev (lw3t_R x0 x1 x2 f0 f1 f2 f3) (.cm .gt (.v 11) (.k (1000)))
def lw3t_c20 (x0 x1 x2 f0 f1 f2 f3 : Int) : Bool := BE.ev (lw3t_R x0 x1 x2 f0 f1 f2 f3) (.cm .lt (.v 12) (.k (-1000)))
def lw3t_c21 (x0 x1 x2 f0 f1 f2 f3 : Int) : Bool := BE.ev (lw3t_R x0 x1 x2 f0 f1 f2 f3) (.cm .gt (.v 12) (.k (1000)))
def lw3t_h45 : Prop := ((decide ((6 : Int) > (24 : Int))) = Bool.false)
theorem lw3t_g45 : ((decide ((6 : Int) > (24 : Int))) = Bool.false) := by first | rfl | trivial | decide | omega
def lw3t_c22 (x0 x1 x2 f0 f1 f2 f3 : Int) : Bool := BE.ev (lw3t_R x0 x1 x2 f0 f1 f2 f3) (.cm .lt lw3t_q13 (.k (-1073741824)))
def lw3t_c23 (x0 x1 x2 f0 f1 f2 f3 : Int) : Bool := BE.ev (lw3t_R x0 x1 x2 f0 f1 f2 f3) (.cm .gt lw3t_q13 (.k (1073741824)))
def lw3t_c24 (x0 x1 x2 f0 f1 f2 f3 : Int) : Bool := BE.ev (lw3t_R x0 x1 x2 f0 f1 f2 f3) (.cm .lt lw3t_q15 (.k (-1073741824)))
def lw3t_c25 (x0 x1 x2 f0 f1 f2 f3 : Int) : Bool := BE.ev (lw3t_R x0 x1 x2 f0 f1 f2 f3) (.cm .gt lw3t_q15 (.k (1073741824)))
def lw3t_h50 : Prop := ((4 : Int) = (4 : Int))
theorem lw3t_g50 : ((4 : Int) = (4 : Int)) := by first | rfl | trivial | decide | omega
def lw3t_c26 (x0 x1 x2 f0 f1 f2 f3 : Int) : Bool := BE.ev (lw3t_R x0 x1 x2 f0 f1 f2 f3) (.cm .lt (.wr lw3t_q16) (.k (-1073741824)))
def lw3t_c27 (x0 x1 x2 f0 f1 f2 f3 : Int) : Bool := BE.ev (lw3t_R x0 x1 x2 f0 f1 f2 f3) (.cm .gt (.wr lw3t_q16) (.k (1073741824)))
def lw3t_h53 : Prop := ((5 : Int) = (5 : Int))
theorem lw3t_g53 : ((5 : Int) = (5 : Int)) := by first | rfl | trivial | decide | omega
def lw3t_c28 (x0 x1 x2 f0 f1 f2 f3 : Int) : Bool := BE.ev (lw3t_R x0 x1 x2 f0 f1 f2 f3) (.cm .lt (.wr lw3t_q17) (.k (-1073741824)))
def lw3t_c29 (x0 x1 x2 f0 f1 f2 f3 : Int) : Bool := BE.ev (lw3t_R x0 x1 x2 f0 f1 f2 f3) (.cm .gt (.wr lw3t_q17) (.k (1073741824)))
def lw3t_h56 : Prop := ((6 : Int) = (6 : Int))
theorem lw3t_g56 : ((6 : Int) = (6 : Int)) := by first | rfl | trivial | decide | omega
def lw3t_c30 (x0 x1 x2 f0 f1 f2 f3 : Int) : Bool := BE.ev (lw3t_R x0 x1 x2 f0 f1 f2 f3) (.cm .lt (.wr lw3t_q18) (.k (-1073741824)))
def lw3t_c31 (x0 x1 x2 f0 f1 f2 f3 : Int) : Bool := BE.ev (lw3t_R x0 x1 x2 f0 f1 f2 f3) (.cm .gt (.wr lw3t_q18) (.k (1073741824)))
def lw3t_h59 : Prop := ((7 : Int) = (7 : Int))
theorem lw3t_g59 : ((7 : Int) = (7 : Int)) := by first | rfl | trivial | decide | omega
def lw3t_c32 (x0 x1 x2 f0 f1 f2 f3 : Int) : Bool := BE.ev (lw3t_R x0 x1 x2 f0 f1 f2 f3) (.cm .lt (.wr lw3t_q19) (.k (-1073741824)))
def lw3t_c33 (x0 x1 x2 f0 f1 f2 f3 : Int) : Bool := BE.ev (lw3t_R x0 x1 x2 f0 f1 f2 f3) (.cm .gt (.wr lw3t_q19) (.k (1073741824)))
def lw3t_c34 (x0 x1 x2 f0 f1 f2 f3 : Int) : Bool := BE.ev (lw3t_R x0 x1 x2 f0 f1 f2 f3) (.cm .ne lw3t_q13 (.k (0)))
def lw3t_c35 (x0 x1 x2 f0 f1 f2 f3 : Int) : Bool := BE.ev (lw3t_R x0 x1 x2 f0 f1 f2 f3) (.cm .ne lw3t_q15 (.k (0)))
def lw3t_c36 (x0 x1 x2 f0 f1 f2 f3 : Int) : Bool := BE.ev (lw3t_R x0 x1 x2 f0 f1 f2 f3) (.cm .ne (.wr lw3t_q16) (.k (0)))
def lw3t_c37 (x0 x1 x2 f0 f1 f2 f3 : Int) : Bool := BE.ev (lw3t_R x0 x1 x2 f0 f1 f2 f3) (.cm .ne (.wr lw3t_q17) (.k (0)))
def lw3t_c38 (x0 x1 x2 f0 f1 f2 f3 : Int) : Bool := BE.ev (lw3t_R x0 x1 x2 f0 f1 f2 f3) (.cm .ne (.wr lw3t_q18) (.k (0)))
def lw3t_c39 (x0 x1 x2 f0 f1 f2 f3 : Int) : Bool := BE.ev (lw3t_R x0 x1 x2 f0 f1 f2 f3) (.cm .ne (.wr lw3t_q19) (.k (0)))
theorem lw3t_c1_ff (x0 x1 x2 f0 f1 f2 f3 : Int) (hpre : True) : lw3t_c1 x0 x1 x2 f0 f1 f2 f3 = false :=
  BE.tri_ok (lw3t_hr x0 x1 x2 f0 f1 f2 f3 hpre) (e := (.cm .lt (.v 7) (.k (-100)))) (by kernel_rfl) (by kernel_rfl)
theorem lw3t_c2_ff (x0 x1 x2 f0 f1 f2 f3 : Int) (hpre : True) : lw3t_c2 x0 x1 x2 f0 f1 f2 f3 = false :=
  BE.tri_ok (lw3t_hr x0 x1 x2 f0 f1 f2 f3 hpre) (e := (.cm .gt (.v 7) (.k (100)))) (by kernel_rfl) (by kernel_rfl)
theorem lw3t_c3_ff (x0 x1 x2 f0 f1 f2 f3 : Int) (hpre : True) : lw3t_c3 x0 x1 x2 f0 f1 f2 f3 = false :=
  BE.tri_ok (lw3t_hr x0 x1 x2 f0 f1 f2 f3 hpre) (e := (.cm .lt (.v 8) (.k (-100)))) (by kernel_rfl) (by kernel_rfl)
theorem lw3t_c4_ff (x0 x1 x2 f0 f1 f2 f3 : Int) (hpre : True) : lw3t_c4 x0 x1 x2 f0 f1 f2 f3 = false :=
  BE.tri_ok (lw3t_hr x0 x1 x2 f0 f1 f2 f3 hpre) (e := (.cm .gt (.v 8) (.k (100)))) (by kernel_rfl) (by kernel_rfl)
theorem lw3t_c5_ff (x0 x1 x2 f0 f1 f2 f3 : Int) (hpre : True) : lw3t_c5 x0 x1 x2 f0 f1 f2 f3 = false :=
  BE.tri_ok (lw3t_hr x0 x1 x2 f0 f1 f2 f3 hpre) (e := (.cm .lt (.v 9) (.k (-100)))) (by kernel_rfl) (by kernel_rfl)
theorem lw3t_c6_ff (x0 x1 x2 f0 f1 f2 f3 : Int) (hpre : True) : lw3t_c6 x0 x1 x2 f0 f1 f2 f3 = false :=
  BE.tri_ok (lw3t_hr x0 x1 x2 f0 f1 f2 f3 hpre) (e := (.cm .gt (.v 9) (.k (100)))) (by kernel_rfl) (by kernel_rfl)
theorem lw3t_c16_ff (x0 x1 x2 f0 f1 f2 f3 : Int) (hpre : True) : lw3t_c16 x0 x1 x2 f0 f1 f2 f3 = false :=
  BE.tri_ok (lw3t_hr x0 x1 x2 f0 f1 f2 f3 hpre) (e := (.cm .lt (.v 10) (.k (-1000)))) (by kernel_rfl) (by kernel_rfl)
theorem lw3t_c17_ff (x0 x1 x2 f0 f1 f2 f3 : Int) (hpre : True) : lw3t_c17 x0 x1 x2 f0 f1 f2 f3 = false :=
  BE.tri_ok (lw3t_hr x0 x1 x2 f0 f1 f2 f3 hpre) (e := (.cm .gt (.v 10) (.k (1000)))) (by kernel_rfl) (by kernel_rfl)
theorem lw3t_c18_ff (x0 x1 x2 f0 f1 f2 f3 : Int) (hpre : True) : lw3t_c18 x0 x1 x2 f0 f1 f2 f3 = false :=
  BE.tri_ok (lw3t_hr x0 x1 x2 f0 f1 f2 f3 hpre) (e := (.cm .lt (.v 11) (.k (-1000)))) (by kernel_rfl) (by kernel_rfl)
theorem lw3t_c19_ff (x0 x1 x2 f0 f1 f2 f3 : Int) (hpre : True) : lw3t_c19 x0 x1 x2 f0 f1 f2 f3 = false :=
  BE.tri_ok (lw3t_hr x0 x1 x2 f0 f1 f2 f3 hpre) (e := (.cm .gt (.v 11) (.k (1000)))) (by kernel_rfl) (by kernel_rfl)
theorem lw3t_c20_ff (x0 x1 x2 f0 f1 f2 f3 : Int) (hpre : True) : lw3t_c20 x0 x1 x2 f0 f1 f2 f3 = false :=
  BE.tri_ok (lw3t_hr x0 x1 x2 f0 f1 f2 f3 hpre) (e := (.cm .lt (.v 12) (.k (-1000)))) (by kernel_rfl) (by kernel_rfl)
theorem lw3t_c21_ff (x0 x1 x2 f0 f1 f2 f3 : Int) (hpre : True) : lw3t_c21 x0 x1 x2 f0 f1 f2 f3 = false :=
  BE.tri_ok (lw3t_hr x0 x1 x2 f0 f1 f2 f3 hpre) (e := (.cm .gt (.v 12) (.k (1000)))) (by kernel_rfl) (by kernel_rfl)
theorem lw3t_c22_ff (x0 x1 x2 f0 f1 f2 f3 : Int) (hpre : True) : lw3t_c22 x0 x1 x2 f0 f1 f2 f3 = false :=
  BE.tri_ok (lw3t_hr x0 x1 x2 f0 f1 f2 f3 hpre) (e := (.cm .lt lw3t_q13 (.k (-1073741824)))) (by kernel_rfl) (by kernel_rfl)
theorem lw3t_c23_ff (x0 x1 x2 f0 f1 f2 f3 : Int) (hpre : True) : lw3t_c23 x0 x1 x2 f0 f1 f2 f3 = false :=
  BE.tri_ok (lw3t_hr x0 x1 x2 f0 f1 f2 f3 hpre) (e := (.cm .gt lw3t_q13 (.k (1073741824)))) (by kernel_rfl) (by kernel_rfl)
theorem lw3t_c24_ff (x0 x1 x2 f0 f1 f2 f3 : Int) (hpre : True) : lw3t_c24 x0 x1 x2 f0 f1 f2 f3 = false :=
  BE.tri_ok (lw3t_hr x0 x1 x2 f0 f1 f2 f3 hpre) (e := (.cm .lt lw3t_q15 (.k (-1073741824)))) (by kernel_rfl) (by kernel_rfl)
theorem lw3t_c25_ff (x0 x1 x2 f0 f1 f2 f3 : Int) (hpre : True) : lw3t_c25 x0 x1 x2 f0 f1 f2 f3 = false :=
  BE.tri_ok (lw3t_hr x0 x1 x2 f0 f1 f2 f3 hpre) (e := (.cm .gt lw3t_q15 (.k (1073741824)))) (by kernel_rfl) (by kernel_rfl)
def lw3t_z0 (P : Prop) (x0 x1 x2 f0 f1 f2 f3 : Int) : Prop := ((((((((((((((((((((((P ∧ lw3t_h0) ∧ lw3t_h0) ∧ lw3t_h0) ∧ lw3t_h0) ∧ lw3t_h1) ∧ lw3t_h2) ∧ lw3t_h3) ∧ lw3t_h0) ∧ lw3t_h3) ∧ lw3t_h0) ∧ lw3t_h2) ∧ lw3t_h2) ∧ lw3t_h2) ∧ lw3t_h3) ∧ lw3t_h2) ∧ lw3t_h2) ∧ lw3t_h2) ∧ lw3t_h2) ∧ lw3t_h4) ∧ lw3t_h0) ∧ lw3t_h4) ∧ lw3t_h0)
theorem lw3t_z0_h {P : Prop} (h : P) (x0 x1 x2 f0 f1 f2 f3 : Int) (hpre : True) : lw3t_z0 P x0 x1 x2 f0 f1 f2 f3 := ⟨⟨⟨⟨⟨⟨⟨⟨⟨⟨⟨⟨⟨⟨⟨⟨⟨⟨⟨⟨⟨⟨h, lw3t_g0⟩, lw3t_g0⟩, lw3t_g0⟩, lw3t_g0⟩, lw3t_g1⟩, lw3t_g2⟩, lw3t_g3⟩, lw3t_g0⟩, lw3t_g3⟩, lw3t_g0⟩, lw3t_g2⟩, lw3t_g2⟩, lw3t_g2⟩, lw3t_g3⟩, lw3t_g2⟩, lw3t_g2⟩, lw3t_g2⟩, lw3t_g2⟩, lw3t_g4⟩, lw3t_g0⟩, lw3t_g4⟩, lw3t_g0⟩
def lw3t_z1 (P : Prop) (x0 x1 x2 f0 f1 f2 f3 : Int) : Prop := (((((((((((((((((P ∧ (lw3t_c0 x0 x1 x2 f0 f1 f2 f3 = false)) ∧ (lw3t_c0 x0 x1 x2 f0 f1 f2 f3 = false)) ∧ (lw3t_c0 x0 x1 x2 f0 f1 f2 f3 = false)) ∧ (lw3t_c0 x0 x1 x2 f0 f1 f2 f3 = false)) ∧ (lw3t_c0 x0 x1 x2 f0 f1 f2 f3 = false)) ∧ (lw3t_c0 x0 x1 x2 f0 f1 f2 f3 = false)) ∧ lw3t_h2) ∧ lw3t_h6) ∧ lw3t_h0) ∧ lw3t_h6) ∧ lw3t_h0) ∧ lw3t_h0) ∧ lw3t_h0) ∧ lw3t_h0) ∧ lw3t_h0) ∧ lw3t_h0) ∧ lw3t_h0)
theorem lw3t_z1_h {P : Prop} (h : P) (x0 x1 x2 f0 f1 f2 f3 : Int) (hpre : True) (k0 : (lw3t_c0 x0 x1 x2 f0 f1 f2 f3 = false)) : lw3t_z1 P x0 x1 x2 f0 f1 f2 f3 := ⟨⟨⟨⟨⟨⟨⟨⟨⟨⟨⟨⟨⟨⟨⟨⟨⟨h, k0⟩, k0⟩, k0⟩, k0⟩, k0⟩, k0⟩, lw3t_g2⟩, lw3t_g6⟩, lw3t_g0⟩, lw3t_g6⟩, lw3t_g0⟩, lw3t_g0⟩, lw3t_g0⟩, lw3t_g0⟩, lw3t_g0⟩, lw3t_g0⟩, lw3t_g0⟩
def lw3t_z2 (P : Prop) (x0 x1 x2 f0 f1 f2 f3 : Int) : Prop := (((((((((((((((((((((((((((((((((((((((((((((((((P ∧ lw3t_h0) ∧ lw3t_h2) ∧ lw3t_h0) ∧ lw3t_h7) ∧ lw3t_h2) ∧ lw3t_h3) ∧ (lw3t_c1 x0 x1 x2 f0 f1 f2 f3 = false)) ∧ (lw3t_c1 x0 x1 x2 f0 f1 f2 f3 = false)) ∧ (lw3t_c1 x0 x1 x2 f0 f1 f2 f3 = false)) ∧ (lw3t_c1 x0 x1 x2 f0 f1 f2 f3 = false)) ∧ (lw3t_c2 x0 x1 x2 f0 f1 f2 f3 = false)) ∧ lw3t_h0) ∧ lw3t_h2) ∧ lw3t_h4) ∧ (lw3t_c3 x0 x1 x2 f0 f1 f2 f3 = false)) ∧ (lw3t_c3 x0 x1 x2 f0 f1 f2 f3 = false)) ∧ (lw3t_c3 x0 x1 x2 f0 f1 f2 f3 = false)) ∧ (lw3t_c3 x0 x1 x2 f0 f1 f2 f3 = false)) ∧ (lw3t_c4 x0 x1 x2 f0 f1 f2 f3 = false)) ∧ lw3t_h0) ∧ lw3t_h2) ∧ lw3t_h6) ∧ (lw3t_c5 x0 x1 x2 f0 f1 f2 f3 = false)) ∧ (lw3t_c5 x0 x1 x2 f0 f1 f2 f3 = false)) ∧ (lw3t_c5 x0 x1 x2 f0 f1 f2 f3 = false)) ∧ (lw3t_c5 x0 x1 x2 f0 f1 f2 f3 = false)) ∧ (lw3t_c6 x0 x1 x2 f0 f1 f2 f3 = false)) ∧ lw3t_h0) ∧ lw3t_h2) ∧ lw3t_h14) ∧ lw3t_h0) ∧ lw3t_h0) ∧ lw3t_h0) ∧ lw3t_h0) ∧ lw3t_h15) ∧ lw3t_h0) ∧ lw3t_h0) ∧ lw3t_h0) ∧ lw3t_h14) ∧ lw3t_h0) ∧ lw3t_h0) ∧ lw3t_h0) ∧ lw3t_h16) ∧ lw3t_h17) ∧ lw3t_h17) ∧ lw3t_h3) ∧ lw3t_h14) ∧ lw3t_h17) ∧ lw3t_h17)
theorem lw3t_z2_h {P : Prop} (h : P) (x0 x1 x2 f0 f1 f2 f3 : Int) (hpre : True) : lw3t_z2 P x0 x1 x2 f0 f1 f2 f3 := ⟨⟨⟨⟨⟨⟨⟨⟨⟨⟨⟨⟨⟨⟨⟨⟨⟨⟨⟨⟨⟨⟨⟨⟨⟨⟨⟨⟨⟨⟨⟨⟨⟨⟨⟨⟨⟨⟨⟨⟨⟨⟨⟨⟨⟨⟨⟨⟨⟨h, lw3t_g0⟩, lw3t_g2⟩, lw3t_g0⟩, lw3t_g7⟩, lw3t_g2⟩, lw3t_g3⟩, (lw3t_c1_ff x0 x1 x2 f0 f1 f2 f3 hpre)⟩, (lw3t_c1_ff x0 x1 x2 f0 f1 f2 f3 hpre)⟩, (lw3t_c1_ff x0 x1 x2 f0 f1 f2 f3 hpre)⟩, (lw3t_c1_ff x0 x1 x2 f0 f1 f2 f3 hpre)⟩, (lw3t_c2_ff x0 x1 x2 f0 f1 f2 f3 hpre)⟩, lw3t_g0⟩, lw3t_g2⟩, lw3t_g4⟩, (lw3t_c3_ff x0 x1 x2 f0 f1 f2 f3 hpre)⟩, (lw3t_c3_ff x0 x1 x2 f0 f1 f2 f3 hpre)⟩, (lw3t_c3_ff x0 x1 x2 f0 f1 f2 f3 hpre)⟩, (lw3t_c3_ff x0 x1 x2 f0 f1 f2 f3 hpre)⟩, (lw3t_c4_ff x0 x1 x2 f0 f1 f2 f3 hpre)⟩, lw3t_g0⟩, lw3t_g2⟩, lw3t_g6⟩, (lw3t_c5_ff x0 x1 x2 f0 f1 f2 f3 hpre)⟩, (lw3t_c5_ff x0 x1 x2 f0 f1 f2 f3 hpre)⟩, (lw3t_c5_ff x0 x1 x2 f0 f1 f2 f3 hpre)⟩, (lw3t_c5_ff x0 x1 x2 f0 f1 f2 f3 hpre)⟩, (lw3t_c6_ff x0 x1 x2 f0 f1 f2 f3 hpre)⟩, lw3t_g0⟩, lw3t_g2⟩, lw3t_g14⟩, lw3t_g0⟩, lw3t_g0⟩, lw3t_g0⟩, lw3t_g0⟩, lw3t_g15⟩, lw3t_g0⟩, lw3t_g0⟩, lw3t_g0⟩, lw3t_g14⟩, lw3t_g0⟩, lw3t_g0⟩, lw3t_g0⟩, lw3t_g16⟩, lw3t_g17⟩, lw3t_g17⟩, lw3t_g3⟩, lw3t_g14⟩, lw3t_g17⟩, lw3t_g17⟩
def lw3t_z3 (P : Prop) (x0 x1 x2 f0 f1 f2 f3 : Int) : Prop := ((((((((((((P ∧ (lw3t_c7 x0 x1 x2 f0 f1 f2 f3 = false)) ∧ lw3t_h2) ∧ lw3t_h3) ∧ lw3t_h3) ∧ lw3t_h14) ∧ (lw3t_c8 x0 x1 x2 f0 f1 f2 f3 = true)) ∧ lw3t_h0) ∧ lw3t_h0) ∧ lw3t_h0) ∧ lw3t_h0) ∧ lw3t_h20) ∧ lw3t_h2)
theorem lw3t_z3_h {P : Prop} (h : P) (x0 x1 x2 f0 f1 f2 f3 : Int) (hpre : True) (k0 : (lw3t_c7 x0 x1 x2 f0 f1 f2 f3 = false)) (k1 : (lw3t_c8 x0 x1 x2 f0 f1 f2 f3 = true)) : lw3t_z3 P x0 x1 x2 f0 f1 f2 f3 := ⟨⟨⟨⟨⟨⟨⟨⟨⟨⟨⟨⟨h, k0⟩, lw3t_g2⟩, lw3t_g3⟩, lw3t_g3⟩, lw3t_g14⟩, k1⟩, lw3t_g0⟩, lw3t_g0⟩, lw3t_g0⟩, lw3t_g0⟩, lw3t_g20⟩, lw3t_g2⟩
def lw3t_z4 (P : Prop) (x0 x1 x2 f0 f1 f2 f3 : Int) : Prop := ((((((((((((P ∧ (lw3t_c0 x0 x1 x2 f0 f1 f2 f3 = true)) ∧ (lw3t_c0 x0 x1 x2 f0 f1 f2 f3 = true)) ∧ (lw3t_c0 x0 x1 x2 f0 f1 f2 f3 = true)) ∧ lw3t_h4) ∧ (lw3t_c0 x0 x1 x2 f0 f1 f2 f3 = true)) ∧ (lw3t_c0 x0 x1 x2 f0 f1 f2 f3 = true)) ∧ (lw3t_c0 x0 x1 x2 f0 f1 f2 f3 = true)) ∧ lw3t_h2) ∧ lw3t_h6) ∧ lw3t_h0) ∧ lw3t_h6) ∧ lw3t_h0)
theorem lw3t_z4_h {P : Prop} (h : P) (x0 x1 x2 f0 f1 f2 f3 : Int) (hpre : True) (k0 : (lw3t_c0 x0 x1 x2 f0 f1 f2 f3 = true)) : lw3t_z4 P x0 x1 x2 f0 f1 f2 f3 := ⟨⟨⟨⟨⟨⟨⟨⟨⟨⟨⟨⟨h, k0⟩, k0⟩, k0⟩, lw3t_g4⟩, k0⟩, k0⟩, k0⟩, lw3t_g2⟩, lw3t_g6⟩, lw3t_g0⟩, lw3t_g6⟩, lw3t_g0⟩
def lw3t_z5 (P : Prop) (x0 x1 x2 f0 f1 f2 f3 : Int) : Prop := ((((((P ∧ (lw3t_c9 x0 x1 x2 f0 f1 f2 f3 = false)) ∧ (lw3t_c9 x0 x1 x2 f0 f1 f2 f3 = false)) ∧ (lw3t_c9 x0 x1 x2 f0 f1 f2 f3 = false)) ∧ (lw3t_c9 x0 x1 x2 f0 f1 f2 f3 = false)) ∧ (lw3t_c9 x0 x1 x2 f0 f1 f2 f3 = false)) ∧ (lw3t_c9 x0 x1 x2 f0 f1 f2 f3 = false))
theorem lw3t_z5_h {P : Prop} (h : P) (x0 x1 x2 f0 f1 f2 f3 : Int) (hpre : True) (k0 : (lw3t_c9 x0 x1 x2 f0 f1 f2 f3 = false)) : lw3t_z5 P x0 x1 x2 f0 f1 f2 f3 := ⟨⟨⟨⟨⟨⟨h, k0⟩, k0⟩, k0⟩, k0⟩, k0⟩, k0⟩
def lw3t_z6 (P : Prop) (x0 x1 x2 f0 f1 f2 f3 : Int) : Prop := (((((((((((((((((((((((((((P ∧ (lw3t_c7 x0 x1 x2 f0 f1 f2 f3 = true)) ∧ lw3t_h16) ∧ lw3t_h2) ∧ lw3t_h14) ∧ lw3t_h3) ∧ lw3t_h3) ∧ lw3t_h6) ∧ lw3t_h3) ∧ lw3t_h2) ∧ lw3t_h14) ∧ lw3t_h4) ∧ lw3t_h3) ∧ lw3t_h4) ∧ lw3t_h4) ∧ lw3t_h2) ∧ lw3t_h14) ∧ lw3t_h6) ∧ lw3t_h3) ∧ lw3t_h3) ∧ lw3t_h6) ∧ lw3t_h0) ∧ lw3t_h24) ∧ lw3t_h24) ∧ lw3t_h3) ∧ lw3t_h6) ∧ lw3t_h24) ∧ lw3t_h24)
theorem lw3t_z6_h {P : Prop} (h : P) (x0 x1 x2 f0 f1 f2 f3 : Int) (hpre : True) (k0 : (lw3t_c7 x0 x1 x2 f0 f1 f2 f3 = true)) : lw3t_z6 P x0 x1 x2 f0 f1 f2 f3 := ⟨⟨⟨⟨⟨⟨⟨⟨⟨⟨⟨⟨⟨⟨⟨⟨⟨⟨⟨⟨⟨⟨⟨⟨⟨⟨⟨h, k0⟩, lw3t_g16⟩, lw3t_g2⟩, lw3t_g14⟩, lw3t_g3⟩, lw3t_g3⟩, lw3t_g6⟩, lw3t_g3⟩, lw3t_g2⟩, lw3t_g14⟩, lw3t_g4⟩, lw3t_g3⟩, lw3t_g4⟩, lw3t_g4⟩, lw3t_g2⟩, lw3t_g14⟩, lw3t_g6⟩, lw3t_g3⟩, lw3t_g3⟩, lw3t_g6⟩, lw3t_g0⟩, lw3t_g24⟩, lw3t_g24⟩, lw3t_g3⟩, lw3t_g6⟩, lw3t_g24⟩, lw3t_g24⟩
def lw3t_z7 (P : Prop) (x0 x1 x2 f0 f1 f2 f3 : Int) : Prop := (P ∧ (lw3t_c10 x0 x1 x2 f0 f1 f2 f3 = false))
theorem lw3t_z7_h {P : Prop} (h : P) (x0 x1 x2 f0 f1 f2 f3 : Int) (hpre : True) (k0 : (lw3t_c10 x0 x1 x2 f0 f1 f2 f3 = false)) : lw3t_z7 P x0 x1 x2 f0 f1 f2 f3 := ⟨h, k0⟩
def lw3t_z8 (P : Prop) (x0 x1 x2 f0 f1 f2 f3 : Int) : Prop := (((((((((P ∧ lw3t_h2) ∧ lw3t_h3) ∧ lw3t_h3) ∧ lw3t_h14) ∧ (lw3t_c8 x0 x1 x2 f0 f1 f2 f3 = false)) ∧ lw3t_h2) ∧ lw3t_h4) ∧ lw3t_h3) ∧ lw3t_h6)
theorem lw3t_z8_h {P : Prop} (h : P) (x0 x1 x2 f0 f1 f2 f3 : Int) (hpre : True) (k0 : (lw3t_c8 x0 x1 x2 f0 f1 f2 f3 = false)) : lw3t_z8 P x0 x1 x2 f0 f1 f2 f3 := ⟨⟨⟨⟨⟨⟨⟨⟨⟨h, lw3t_g2⟩, lw3t_g3⟩, lw3t_g3⟩, lw3t_g14⟩, k0⟩, lw3t_g2⟩, lw3t_g4⟩, lw3t_g3⟩, lw3t_g6⟩
def lw3t_z9 (P : Prop) (x0 x1 x2 f0 f1 f2 f3 : Int) : Prop := (((((((P ∧ (lw3t_c11 x0 x1 x2 f0 f1 f2 f3 = true)) ∧ lw3t_h0) ∧ lw3t_h0) ∧ lw3t_h0) ∧ lw3t_h0) ∧ lw3t_h28) ∧ lw3t_h2)
theorem lw3t_z9_h {P : Prop} (h : P) (x0 x1 x2 f0 f1 f2 f3 : Int) (hpre : True) (k0 : (lw3t_c11 x0 x1 x2 f0 f1 f2 f3 = true)) : lw3t_z9 P x0 x1 x2 f0 f1 f2 f3 := ⟨⟨⟨⟨⟨⟨⟨h, k0⟩, lw3t_g0⟩, lw3t_g0⟩, lw3t_g0⟩, lw3t_g0⟩, lw3t_g28⟩, lw3t_g2⟩
def lw3t_z10 (P : Prop) (x0 x1 x2 f0 f1 f2 f3 : Int) : Prop := (((((((P ∧ (lw3t_c9 x0 x1 x2 f0 f1 f2 f3 = true)) ∧ (lw3t_c9 x0 x1 x2 f0 f1 f2 f3 = true)) ∧ (lw3t_c9 x0 x1 x2 f0 f1 f2 f3 = true)) ∧ lw3t_h6) ∧ (lw3t_c9 x0 x1 x2 f0 f1 f2 f3 = true)) ∧ (lw3t_c9 x0 x1 x2 f0 f1 f2 f3 = true)) ∧ (lw3t_c9 x0 x1 x2 f0 f1 f2 f3 = true))
theorem lw3t_z10_h {P : Prop} (h : P) (x0 x1 x2 f0 f1 f2 f3 : Int) (hpre : True) (k0 : (lw3t_c9 x0 x1 x2 f0 f1 f2 f3 = true)) : lw3t_z10 P x0 x1 x2 f0 f1 f2 f3 := ⟨⟨⟨⟨⟨⟨⟨h, k0⟩, k0⟩, k0⟩, lw3t_g6⟩, k0⟩, k0⟩, k0⟩
def lw3t_z11 (P : Prop) (x0 x1 x2 f0 f1 f2 f3 : Int) : Prop := ((((((((((((((((((((P ∧ (lw3t_c10 x0 x1 x2 f0 f1 f2 f3 = true)) ∧ lw3t_h16) ∧ lw3t_h2) ∧ lw3t_h6) ∧ lw3t_h3) ∧ lw3t_h3) ∧ lw3t_h4) ∧ lw3t_h3) ∧ lw3t_h2) ∧ lw3t_h6) ∧ lw3t_h4) ∧ lw3t_h3) ∧ lw3t_h3) ∧ lw3t_h4) ∧ lw3t_h0) ∧ lw3t_h31) ∧ lw3t_h31) ∧ lw3t_h31) ∧ lw3t_h31) ∧ lw3t_h0)
theorem lw3t_z11_h {P : Prop} (h : P) (x0 x1 x2 f0 f1 f2 f3 : Int) (hpre : True) (k0 : (lw3t_c10 x0 x1 x2 f0 f1 f2 f3 = true)) : lw3t_z11 P x0 x1 x2 f0 f1 f2 f3 := ⟨⟨⟨⟨⟨⟨⟨⟨⟨⟨⟨⟨⟨⟨⟨⟨⟨⟨⟨⟨h, k0⟩, lw3t_g16⟩, lw3t_g2⟩, lw3t_g6⟩, lw3t_g3⟩, lw3t_g3⟩, lw3t_g4⟩, lw3t_g3⟩, lw3t_g2⟩, lw3t_g6⟩, lw3t_g4⟩, lw3t_g3⟩, lw3t_g3⟩, lw3t_g4⟩, lw3t_g0⟩, lw3t_g31⟩, lw3t_g31⟩, lw3t_g31⟩, lw3t_g31⟩, lw3t_g0⟩
def lw3t_z12 (P : Prop) (x0 x1 x2 f0 f1 f2 f3 : Int) : Prop := (((((P ∧ (lw3t_c11 x0 x1 x2 f0 f1 f2 f3 = false)) ∧ lw3t_h2) ∧ lw3t_h6) ∧ lw3t_h3) ∧ lw3t_h4)
theorem lw3t_z12_h {P : Prop} (h : P) (x0 x1 x2 f0 f1 f2 f3 : Int) (hpre : True) (k0 : (lw3t_c11 x0 x1 x2 f0 f1 f2 f3 = false)) : lw3t_z12 P x0 x1 x2 f0 f1 f2 f3 := ⟨⟨⟨⟨⟨h, k0⟩, lw3t_g2⟩, lw3t_g6⟩, lw3t_g3⟩, lw3t_g4⟩
def lw3t_z13 (P : Prop) (x0 x1 x2 f0 f1 f2 f3 : Int) : Prop := (((((((P ∧ (lw3t_c12 x0 x1 x2 f0 f1 f2 f3 = true)) ∧ lw3t_h0) ∧ lw3t_h0) ∧ lw3t_h0) ∧ lw3t_h0) ∧ (lw3t_c13 x0 x1 x2 f0 f1 f2 f3 = false)) ∧ (lw3t_c14 x0 x1 x2 f0 f1 f2 f3 = true))
theorem lw3t_z13_h {P : Prop} (h : P) (x0 x1 x2 f0 f1 f2 f3 : Int) (hpre : True) (k0 : (lw3t_c12 x0 x1 x2 f0 f1 f2 f3 = true)) (k1 : (lw3t_c13 x0 x1 x2 f0 f1 f2 f3 = false)) (k2 : (lw3t_c14 x0 x1 x2 f0 f1 f2 f3 = true)) : lw3t_z13 P x0 x1 x2 f0 f1 f2 f3 := ⟨⟨⟨⟨⟨⟨⟨h, k0⟩, lw3t_g0⟩, lw3t_g0⟩, lw3t_g0⟩, lw3t_g0⟩, k1⟩, k2⟩
def lw3t_z14 (P : Prop) (x0 x1 x2 f0 f1 f2 f3 : Int) : Prop := (((((((((((((((((((((((((((((((((((((((((((((((((((((((((((((((((((((((((((((((((((((((((((((((((((((((((((((((((((((((((((((((((((((((((((((((((((((((((((((((((((((((((((((((((((((((((((((((((((((((((((((((((((((((((((((((((((((((((((((((((((((((((((((((((((((((((((P ∧ (lw3t_c12 x0 x1 x2 f0 f1 f2 f3 = false)) ∧ lw3t_h0) ∧ lw3t_h0) ∧ lw3t_h0) ∧ lw3t_h0) ∧ lw3t_h0) ∧ (lw3t_c15 x0 x1 x2 f0 f1 f2 f3 = false)) ∧ (lw3t_c14 x0 x1 x2 f0 f1 f2 f3 = false)) ∧ lw3t_h0) ∧ lw3t_h7) ∧ lw3t_h2) ∧ lw3t_h3) ∧ (lw3t_c1 x0 x1 x2 f0 f1 f2 f3 = false)) ∧ (lw3t_c1 x0 x1 x2 f0 f1 f2 f3 = false)) ∧ (lw3t_c1 x0 x1 x2 f0 f1 f2 f3 = false)) ∧ (lw3t_c1 x0 x1 x2 f0 f1 f2 f3 = false)) ∧ (lw3t_c2 x0 x1 x2 f0 f1 f2 f3 = false)) ∧ lw3t_h0) ∧ lw3t_h2) ∧ lw3t_h4) ∧ (lw3t_c3 x0 x1 x2 f0 f1 f2 f3 = false)) ∧ (lw3t_c3 x0 x1 x2 f0 f1 f2 f3 = false)) ∧ (lw3t_c3 x0 x1 x2 f0 f1 f2 f3 = false)) ∧ (lw3t_c3 x0 x1 x2 f0 f1 f2 f3 = false)) ∧ (lw3t_c4 x0 x1 x2 f0 f1 f2 f3 = false)) ∧ lw3t_h0) ∧ lw3t_h2) ∧ lw3t_h6) ∧ (lw3t_c5 x0 x1 x2 f0 f1 f2 f3 = false)) ∧ (lw3t_c5 x0 x1 x2 f0 f1 f2 f3 = false)) ∧ (lw3t_c5 x0 x1 x2 f0 f1 f2 f3 = false)) ∧ (lw3t_c5 x0 x1 x2 f0 f1 f2 f3 = false)) ∧ (lw3t_c6 x0 x1 x2 f0 f1 f2 f3 = false)) ∧ lw3t_h0) ∧ lw3t_h2) ∧ lw3t_h14) ∧ lw3t_h0) ∧ lw3t_h0) ∧ lw3t_h0) ∧ lw3t_h0) ∧ lw3t_h15) ∧ lw3t_h0) ∧ lw3t_h0) ∧ lw3t_h0) ∧ lw3t_h14) ∧ lw3t_h0) ∧ lw3t_h0) ∧ lw3t_h0) ∧ lw3t_h2) ∧ lw3t_h3) ∧ (lw3t_c16 x0 x1 x2 f0 f1 f2 f3 = false)) ∧ (lw3t_c16 x0 x1 x2 f0 f1 f2 f3 = false)) ∧ (lw3t_c16 x0 x1 x2 f0 f1 f2 f3 = false)) ∧ (lw3t_c16 x0 x1 x2 f0 f1 f2 f3 = false)) ∧ (lw3t_c17 x0 x1 x2 f0 f1 f2 f3 = false)) ∧ lw3t_h0) ∧ lw3t_h2) ∧ lw3t_h4) ∧ (lw3t_c18 x0 x1 x2 f0 f1 f2 f3 = false)) ∧ (lw3t_c18 x0 x1 x2 f0 f1 f2 f3 = false)) ∧ (lw3t_c18 x0 x1 x2 f0 f1 f2 f3 = false)) ∧ (lw3t_c18 x0 x1 x2 f0 f1 f2 f3 = false)) ∧ (lw3t_c19 x0 x1 x2 f0 f1 f2 f3 = false)) ∧ lw3t_h0) ∧ lw3t_h2) ∧ lw3t_h6) ∧ (lw3t_c20 x0 x1 x2 f0 f1 f2 f3 = false)) ∧ (lw3t_c20 x0 x1 x2 f0 f1 f2 f3 = false)) ∧ (lw3t_c20 x0 x1 x2 f0 f1 f2 f3 = false)) ∧ (lw3t_c20 x0 x1 x2 f0 f1 f2 f3 = false)) ∧ (lw3t_c21 x0 x1 x2 f0 f1 f2 f3 = false)) ∧ lw3t_h0) ∧ lw3t_h0) ∧ lw3t_h0) ∧ lw3t_h0) ∧ lw3t_h0) ∧ lw3t_h0) ∧ lw3t_h45) ∧ lw3t_h2) ∧ lw3t_h3) ∧ lw3t_h0) ∧ lw3t_h2) ∧ lw3t_h4) ∧ lw3t_h0) ∧ lw3t_h2) ∧ lw3t_h6) ∧ lw3t_h0) ∧ lw3t_h0) ∧ lw3t_h0) ∧ lw3t_h2) ∧ lw3t_h3) ∧ lw3t_h14) ∧ lw3t_h0) ∧ lw3t_h3) ∧ lw3t_h2) ∧ lw3t_h4) ∧ lw3t_h14) ∧ lw3t_h2) ∧ lw3t_h0) ∧ lw3t_h4) ∧ lw3t_h2) ∧ lw3t_h6) ∧ lw3t_h14) ∧ lw3t_h2) ∧ lw3t_h2) ∧ lw3t_h0) ∧ lw3t_h6) ∧ lw3t_h0) ∧ lw3t_h2) ∧ lw3t_h3) ∧ lw3t_h14) ∧ lw3t_h2) ∧ lw3t_h2) ∧ lw3t_h0) ∧ lw3t_h3) ∧ lw3t_h2) ∧ lw3t_h4) ∧ lw3t_h14) ∧ lw3t_h2) ∧ lw3t_h0) ∧ lw3t_h4) ∧ lw3t_h2) ∧ lw3t_h6) ∧ lw3t_h14) ∧ lw3t_h0) ∧ lw3t_h6) ∧ lw3t_h0) ∧ lw3t_h2) ∧ lw3t_h3) ∧ lw3t_h3) ∧ lw3t_h2) ∧ lw3t_h4) ∧ lw3t_h4) ∧ lw3t_h2) ∧ lw3t_h6) ∧ lw3t_h6) ∧ lw3t_h0) ∧ lw3t_h2) ∧ lw3t_h2) ∧ lw3t_h3) ∧ lw3t_h3) ∧ lw3t_h2) ∧ lw3t_h4) ∧ lw3t_h4) ∧ lw3t_h2) ∧ lw3t_h6) ∧ lw3t_h6) ∧ lw3t_h0) ∧ (lw3t_c22 x0 x1 x2 f0 f1 f2 f3 = false)) ∧ (lw3t_c22 x0 x1 x2 f0 f1 f2 f3 = false)) ∧ (lw3t_c22 x0 x1 x2 f0 f1 f2 f3 = false)) ∧ (lw3t_c22 x0 x1 x2 f0 f1 f2 f3 = false)) ∧ (lw3t_c23 x0 x1 x2 f0 f1 f2 f3 = false)) ∧ lw3t_h0) ∧ lw3t_h2) ∧ lw3t_h2) ∧ lw3t_h3) ∧ lw3t_h4) ∧ lw3t_h2) ∧ lw3t_h4) ∧ lw3t_h6) ∧ lw3t_h2) ∧ lw3t_h6) ∧ lw3t_h14) ∧ lw3t_h0) ∧ (lw3t_c24 x0 x1 x2 f0 f1 f2 f3 = false)) ∧ (lw3t_c24 x0 x1 x2 f0 f1 f2 f3 = false)) ∧ (lw3t_c24 x0 x1 x2 f0 f1 f2 f3 = false)) ∧ (lw3t_c24 x0 x1 x2 f0 f1 f2 f3 = false)) ∧ (lw3t_c25 x0 x1 x2 f0 f1 f2 f3 = false)) ∧ lw3t_h0) ∧ lw3t_h2) ∧ lw3t_h2) ∧ lw3t_h3) ∧ lw3t_h6) ∧ lw3t_h2) ∧ lw3t_h4) ∧ lw3t_h14) ∧ lw3t_h2) ∧ lw3t_h6) ∧ lw3t_h50) ∧ lw3t_h0) ∧ (lw3t_c26 x0 x1 x2 f0 f1 f2 f3 = false)) ∧ (lw3t_c26 x0 x1 x2 f0 f1 f2 f3 = false)) ∧ (lw3t_c26 x0 x1 x2 f0 f1 f2 f3 = false)) ∧ (lw3t_c26 x0 x1 x2 f0 f1 f2 f3 = false)) ∧ (lw3t_c27 x0 x1 x2 f0 f1 f2 f3 = false)) ∧ lw3t_h0) ∧ lw3t_h2) ∧ lw3t_h2) ∧ lw3t_h3) ∧ lw3t_h14) ∧ lw3t_h2) ∧ lw3t_h4) ∧ lw3t_h50) ∧ lw3t_h2) ∧ lw3t_h6) ∧ lw3t_h53) ∧ lw3t_h0) ∧ (lw3t_c28 x0 x1 x2 f0 f1 f2 f3 = false)) ∧ (lw3t_c28 x0 x1 x2 f0 f1 f2 f3 = false)) ∧ (lw3t_c28 x0 x1 x2 f0 f1 f2 f3 = false)) ∧ (lw3t_c28 x0 x1 x2 f0 f1 f2 f3 = false)) ∧ (lw3t_c29 x0 x1 x2 f0 f1 f2 f3 = false)) ∧ lw3t_h0) ∧ lw3t_h2) ∧ lw3t_h2) ∧ lw3t_h3) ∧ lw3t_h50) ∧ lw3t_h2) ∧ lw3t_h4) ∧ lw3t_h53) ∧ lw3t_h2) ∧ lw3t_h6) ∧ lw3t_h56) ∧ lw3t_h0) ∧ (lw3t_c30 x0 x1 x2 f0 f1 f2 f3 = false)) ∧ (lw3t_c30 x0 x1 x2 f0 f1 f2 f3 = false)) ∧ (lw3t_c30 x0 x1 x2 f0 f1 f2 f3 = false)) ∧ (lw3t_c30 x0 x1 x2 f0 f1 f2 f3 = false)) ∧ (lw3t_c31 x0 x1 x2 f0 f1 f2 f3 = false)) ∧ lw3t_h0) ∧ lw3t_h2) ∧ lw3t_h2) ∧ lw3t_h3) ∧ lw3t_h53) ∧ lw3t_h2) ∧ lw3t_h4) ∧ lw3t_h56) ∧ lw3t_h2) ∧ lw3t_h6) ∧ lw3t_h59) ∧ lw3t_h0) ∧ (lw3t_c32 x0 x1 x2 f0 f1 f2 f3 = false)) ∧ (lw3t_c32 x0 x1 x2 f0 f1 f2 f3 = false)) ∧ (lw3t_c32 x0 x1 x2 f0 f1 f2 f3 = false)) ∧ (lw3t_c32 x0 x1 x2 f0 f1 f2 f3 = false)) ∧ (lw3t_c33 x0 x1 x2 f0 f1 f2 f3 = false)) ∧ lw3t_h0) ∧ lw3t_h0) ∧ lw3t_h0) ∧ lw3t_h0) ∧ lw3t_h0) ∧ lw3t_h0) ∧ lw3t_h0) ∧ lw3t_h0) ∧ lw3t_h0) ∧ lw3t_h0) ∧ lw3t_h2) ∧ lw3t_h3) ∧ (lw3t_c34 x0 x1 x2 f0 f1 f2 f3 = false)) ∧ lw3t_h2) ∧ lw3t_h4) ∧ (lw3t_c35 x0 x1 x2 f0 f1 f2 f3 = false)) ∧ lw3t_h2) ∧ lw3t_h6) ∧ (lw3t_c36 x0 x1 x2 f0 f1 f2 f3 = false)) ∧ lw3t_h2) ∧ lw3t_h14) ∧ (lw3t_c37 x0 x1 x2 f0 f1 f2 f3 = false)) ∧ lw3t_h2) ∧ lw3t_h50) ∧ (lw3t_c38 x0 x1 x2 f0 f1 f2 f3 = false)) ∧ lw3t_h2) ∧ lw3t_h53) ∧ (lw3t_c39 x0 x1 x2 f0 f1 f2 f3 = false)) ∧ lw3t_h0)
theorem lw3t_z14_h {P : Prop} (h : P) (x0 x1 x2 f0 f1 f2 f3 : Int) (hpre : True) (k0 : (lw3t_c12 x0 x1 x2 f0 f1 f2 f3 = false)) (k1 : (lw3t_c15 x0 x1 x2 f0 f1 f2 f3 = false)) (k2 : (lw3t_c14 x0 x1 x2 f0 f1 f2 f3 = false)) (k3 : (lw3t_c26 x0 x1 x2 f0 f1 f2 f3 = false)) (k4 : (lw3t_c27 x0 x1 x2 f0 f1 f2 f3 = false)) (k5 : (lw3t_c28 x0 x1 x2 f0 f1 f2 f3 = false)) (k6 : (lw3t_c29 x0 x1 x2 f0 f1 f2 f3 = false)) (k7 : (lw3t_c30 x0 x1 x2 f0 f1 f2 f3 = false)) (k8 : (lw3t_c31 x0 x1 x2 f0 f1 f2 f3 = false)) (k9 : (lw3t_c32 x0 x1 x2 f0 f1 f2 f3 = false)) (k10 : (lw3t_c33 x0 x1 x2 f0 f1 f2 f3 = false)) (k11 : (lw3t_c34 x0 x1 x2 f0 f1 f2 f3 = false)) (k12 : (lw3t_c35 x0 x1 x2 f0 f1 f2 f3 = false)) (k13 : (lw3t_c36 x0 x1 x2 f0 f1 f2 f3 = false)) (k14 : (lw3t_c37 x0 x1 x2 f0 f1 f2 f3 = false)) (k15 : (lw3t_c38 x0 x1 x2 f0 f1 f2 f3 = false)) (k16 : (lw3t_c39 x0 x1 x2 f0 f1 f2 f3 = false)) : lw3t_z14 P x0 x1 x2 f0 f1 f2 f3 := ⟨⟨⟨⟨⟨⟨⟨⟨⟨⟨⟨⟨⟨⟨⟨⟨⟨⟨⟨⟨⟨⟨⟨⟨⟨⟨⟨⟨⟨⟨⟨⟨⟨⟨⟨⟨⟨⟨⟨⟨⟨⟨⟨⟨⟨⟨⟨⟨⟨⟨⟨⟨⟨⟨⟨⟨⟨⟨⟨⟨⟨⟨⟨⟨⟨⟨⟨⟨⟨⟨⟨⟨⟨⟨⟨⟨⟨⟨⟨⟨⟨⟨⟨⟨⟨⟨⟨⟨⟨⟨⟨⟨⟨⟨⟨⟨⟨⟨⟨⟨⟨⟨⟨⟨⟨⟨⟨⟨⟨⟨⟨⟨⟨⟨⟨⟨⟨⟨⟨⟨⟨⟨⟨⟨⟨⟨⟨⟨⟨⟨⟨⟨⟨⟨⟨⟨⟨⟨⟨⟨⟨⟨⟨⟨⟨⟨⟨⟨⟨⟨⟨⟨⟨⟨⟨⟨⟨⟨⟨⟨⟨⟨⟨⟨⟨⟨⟨⟨⟨⟨⟨⟨⟨⟨⟨⟨⟨⟨⟨⟨⟨⟨⟨⟨⟨⟨⟨⟨⟨⟨⟨⟨⟨⟨⟨⟨⟨⟨⟨⟨⟨⟨⟨⟨⟨⟨⟨⟨⟨⟨⟨⟨⟨⟨⟨⟨⟨⟨⟨⟨⟨⟨⟨⟨⟨⟨⟨⟨⟨⟨⟨⟨⟨⟨⟨⟨⟨⟨⟨⟨⟨⟨⟨⟨⟨⟨⟨⟨⟨⟨⟨⟨⟨⟨⟨⟨⟨⟨⟨⟨⟨⟨⟨⟨⟨⟨⟨h, k0⟩, lw3t_g0⟩, lw3t_g0⟩, lw3t_g0⟩, lw3t_g0⟩, lw3t_g0⟩, k1⟩, k2⟩, lw3t_g0⟩, lw3t_g7⟩, lw3t_g2⟩, lw3t_g3⟩, (lw3t_c1_ff x0 x1 x2 f0 f1 f2 f3 hpre)⟩, (lw3t_c1_ff x0 x1 x2 f0 f1 f2 f3 hpre)⟩, (lw3t_c1_ff x0 x1 x2 f0 f1 f2 f3 hpre)⟩, (lw3t_c1_ff x0 x1 x2 f0 f1 f2 f3 hpre)⟩, (lw3t_c2_ff x0 x1 x2 f0 f1 f2 f3 hpre)⟩, lw3t_g0⟩, lw3t_g2⟩, lw3t_g4⟩, (lw3t_c3_ff x0 x1 x2 f0 f1 f2 f3 hpre)⟩, (lw3t_c3_ff x0 x1 x2 f0 f1 f2 f3 hpre)⟩, (lw3t_c3_ff x0 x1 x2 f0 f1 f2 f3 hpre)⟩, (lw3t_c3_ff x0 x1 x2 f0 f1 f2 f3 hpre)⟩, (lw3t_c4_ff x0 x1 x2 f0 f1 f2 f3 hpre)⟩, lw3t_g0⟩, lw3t_g2⟩, lw3t_g6⟩, (lw3t_c5_ff x0 x1 x2 f0 f1 f2 f3 hpre)⟩, (lw3t_c5_ff x0 x1 x2 f0 f1 f2 f3 hpre)⟩, (lw3t_c5_ff x0 x1 x2 f0 f1 f2 f3 hpre)⟩, (lw3t_c5_ff x0 x1 x2 f0 f1 f2 f3 hpre)⟩, (lw3t_c6_ff x0 x1 x2 f0 f1 f2 f3 hpre)⟩, lw3t_g0⟩, lw3t_g2⟩, lw3t_g14⟩, lw3t_g0⟩, lw3t_g0⟩, lw3t_g0⟩, lw3t_g0⟩, lw3t_g15⟩, lw3t_g0⟩, lw3t_g0⟩, lw3t_g0⟩, lw3t_g14⟩, lw3t_g0⟩, lw3t_g0⟩, lw3t_g0⟩, lw3t_g2⟩, lw3t_g3⟩, (lw3t_c16_ff x0 x1 x2 f0 f1 f2 f3 hpre)⟩, (lw3t_c16_ff x0 x1 x2 f0 f1 f2 f3 hpre)⟩, (lw3t_c16_ff x0 x1 x2 f0 f1 f2 f3 hpre)⟩, (lw3t_c16_ff x0 x1 x2 f0 f1 f2 f3 hpre)⟩, (lw3t_c17_ff x0 x1 x2 f0 f1 f2 f3 hpre)⟩, lw3t_g0⟩, lw3t_g2⟩, lw3t_g4⟩, (lw3t_c18_ff x0 x1 x2 f0 f1 f2 f3 hpre)⟩, (lw3t_c18_ff x0 x1 x2 f0 f1 f2 f3 hpre)⟩, (lw3t_c18_ff x0 x1 x2 f0 f1 f2 f3 hpre)⟩, (lw3t_c18_ff x0 x1 x2 f0 f1 f2 f3 hpre)⟩, (lw3t_c19_ff x0 x1 x2 f0 f1 f2 f3 hpre)⟩, lw3t_g0⟩, lw3t_g2⟩, lw3t_g6⟩, (lw3t_c20_ff x0 x1 x2 f0 f1 f2 f3 hpre)⟩, (lw3t_c20_ff x0 x1 x2 f0 f1 f2 f3 hpre)⟩, (lw3t_c20_ff x0 x1 x2 f0 f1 f2 f3 hpre)⟩, (lw3t_c20_ff x0 x1 x2 f0 f1 f2 f3 hpre)⟩, (lw3t_c21_ff x0 x1 x2 f0 f1 f2 f3 hpre)⟩, lw3t_g0⟩, lw3t_g0⟩, lw3t_g0⟩, lw3t_g0⟩, lw3t_g0⟩, lw3t_g0⟩, lw3t_g45⟩, lw3t_g2⟩, lw3t_g3⟩, lw3t_g0⟩, lw3t_g2⟩, lw3t_g4⟩, lw3t_g0⟩, lw3t_g2⟩, lw3t_g6⟩, lw3t_g0⟩, lw3t_g0⟩, lw3t_g0⟩, lw3t_g2⟩, lw3t_g3⟩, lw3t_g14⟩, lw3t_g0⟩, lw3t_g3⟩, lw3t_g2⟩, lw3t_g4⟩, lw3t_g14⟩, lw3t_g2⟩, lw3t_g0⟩, lw3t_g4⟩, lw3t_g2⟩, lw3t_g6⟩, lw3t_g14⟩, lw3t_g2⟩, lw3t_g2⟩, lw3t_g0⟩, lw3t_g6⟩, lw3t_g0⟩, lw3t_g2⟩, lw3t_g3⟩, lw3t_g14⟩, lw3t_g2⟩, lw3t_g2⟩, lw3t_g0⟩, lw3t_g3⟩, lw3t_g2⟩, lw3t_g4⟩, lw3t_g14⟩, lw3t_g2⟩, lw3t_g0⟩, lw3t_g4⟩, lw3t_g2⟩, lw3t_g6⟩, lw3t_g14⟩, lw3t_g0⟩, lw3t_g6⟩, lw3t_g0⟩, lw3t_g2⟩, lw3t_g3⟩, lw3t_g3⟩, lw3t_g2⟩, lw3t_g4⟩, lw3t_g4⟩, lw3t_g2⟩, lw3t_g6⟩, lw3t_g6⟩, lw3t_g0⟩, lw3t_g2⟩, lw3t_g2⟩, lw3t_g3⟩, lw3t_g3⟩, lw3t_g2⟩, lw3t_g4⟩, lw3t_g4⟩, lw3t_g2⟩, lw3t_g6⟩, lw3t_g6⟩, lw3t_g0⟩, (lw3t_c22_ff x0 x1 x2 f0 f1 f2 f3 hpre)⟩, (lw3t_c22_ff x0 x1 x2 f0 f1 f2 f3 hpre)⟩, (lw3t_c22_ff x0 x1 x2 f0 f1 f2 f3 hpre)⟩, (lw3t_c22_ff x0 x1 x2 f0 f1 f2 f3 hpre)⟩, (lw3t_c23_ff x0 x1 x2 f0 f1 f2 f3 hpre)⟩, lw3t_g0⟩, lw3t_g2⟩, lw3t_g2⟩, lw3t_g3⟩, lw3t_g4⟩, lw3t_g2⟩, lw3t_g4⟩, lw3t_g6⟩, lw3t_g2⟩, lw3t_g6⟩, lw3t_g14⟩, lw3t_g0⟩, (lw3t_c24_ff x0 x1 x2 f0 f1 f2 f3 hpre)⟩, (lw3t_c24_ff x0 x1 x2 f0 f1 f2 f3 hpre)⟩, (lw3t_c24_ff x0 x1 x2 f0 f1 f2 f3 hpre)⟩, (lw3t_c24_ff x0 x1 x2 f0 f1 f2 f3 hpre)⟩, (lw3t_c25_ff x0 x1 x2 f0 f1 f2 f3 hpre)⟩, lw3t_g0⟩, lw3t_g2⟩, lw3t_g2⟩, lw3t_g3⟩, lw3t_g6⟩, lw3t_g2⟩, lw3t_g4⟩, lw3t_g14⟩, lw3t_g2⟩, lw3t_g6⟩, lw3t_g50⟩, lw3t_g0⟩, k3⟩, k3⟩, k3⟩, k3⟩, k4⟩, lw3t_g0⟩, lw3t_g2⟩, lw3t_g2⟩, lw3t_g3⟩, lw3t_g14⟩, lw3t_g2⟩, lw3t_g4⟩, lw3t_g50⟩, lw3t_g2⟩, lw3t_g6⟩, lw3t_g53⟩, lw3t_g0⟩, k5⟩, k5⟩, k5⟩, k5⟩, k6⟩, lw3t_g0⟩, lw3t_g2⟩, lw3t_g2⟩, lw3t_g3⟩, lw3t_g50⟩, lw3t_g2⟩, lw3t_g4⟩, lw3t_g53⟩, lw3t_g2⟩, lw3t_g6⟩, lw3t_g56⟩, lw3t_g0⟩, k7⟩, k7⟩, k7⟩, k7⟩, k8⟩, lw3t_g0⟩, lw3t_g2⟩, lw3t_g2⟩, lw3t_g3⟩, lw3t_g53⟩, lw3t_g2⟩, lw3t_g4⟩, lw3t_g56⟩, lw3t_g2⟩, lw3t_g6⟩, lw3t_g59⟩, lw3t_g0⟩, k9⟩, k9⟩, k9⟩, k9⟩, k10⟩, lw3t_g0⟩, lw3t_g0⟩, lw3t_g0⟩, lw3t_g0⟩, lw3t_g0⟩, lw3t_g0⟩, lw3t_g0⟩, lw3t_g0⟩, lw3t_g0⟩, lw3t_g0⟩, lw3t_g2⟩, lw3t_g3⟩, k11⟩, lw3t_g2⟩, lw3t_g4⟩, k12⟩, lw3t_g2⟩, lw3t_g6⟩, k13⟩, lw3t_g2⟩, lw3t_g14⟩, k14⟩, lw3t_g2⟩, lw3t_g50⟩, k15⟩, lw3t_g2⟩, lw3t_g53⟩, k16⟩, lw3t_g0⟩
def lw3t_r0 (x0 x1 x2 f0 f1 f2 f3 : Int) : Prop := (lw3t_z3 (lw3t_z2 (lw3t_z1 (lw3t_z0 True x0 x1 x2 f0 f1 f2 f3) x0 x1 x2 f0 f1 f2 f3) x0 x1 x2 f0 f1 f2 f3) x0 x1 x2 f0 f1 f2 f3)
theorem lw3t_o0 (x0 x1 x2 f0 f1 f2 f3 : Int) (c : Nat) : obY (lw3t_e0 x0 x1 x2 f0 f1 f2 f3 c) = lw3t_r0 x0 x1 x2 f0 f1 f2 f3 := by kernel_rfl
theorem lw3t_g0_ (x0 x1 x2 f0 f1 f2 f3 : Int) (c : Nat) : goodY (lw3t_e0 x0 x1 x2 f0 f1 f2 f3 c) = true := by kernel_rfl
theorem lw3t_p0 (x0 x1 x2 f0 f1 f2 f3 : Int) (c : Nat) (h : lw3t_r0 x0 x1 x2 f0 f1 f2 f3) : ∃ s1 R, SndF Tryz.prog 3 #[.slice (some ⟨6, 0, none⟩) 3 c, .bool true, .agg #[.int .i16 f0, .int .i16 f1, .int .i16 f2, .int .i16 f3]] (aw3S0.push (.cells [.int .i8 x0, .int .i8 x1, .int .i8 x2] 0 true 0 true)) (.bool true) s1 R 0 :=
  sndY (r := lw3t_e0 x0 x1 x2 f0 f1 f2 f3 c) (by delta lw3t_e0; exact Eq.refl _) gfol lw3t_X (lw3t_g0_ x0 x1 x2 f0 f1 f2 f3 c) ((lw3t_o0 x0 x1 x2 f0 f1 f2 f3 c).symm ▸ h)
def lw3t_r1 (x0 x1 x2 f0 f1 f2 f3 : Int) : Prop := (lw3t_z9 (lw3t_z8 (lw3t_z7 (lw3t_z6 (lw3t_z2 (lw3t_z5 (lw3t_z4 (lw3t_z0 True x0 x1 x2 f0 f1 f2 f3) x0 x1 x2 f0 f1 f2 f3) x0 x1 x2 f0 f1 f2 f3) x0 x1 x2 f0 f1 f2 f3) x0 x1 x2 f0 f1 f2 f3) x0 x1 x2 f0 f1 f2 f3) x0 x1 x2 f0 f1 f2 f3) x0 x1 x2 f0 f1 f2 f3)
theorem lw3t_o1 (x0 x1 x2 f0 f1 f2 f3 : Int) (c : Nat) : obY (lw3t_e1 x0 x1 x2 f0 f1 f2 f3 c) = lw3t_r1 x0 x1 x2 f0 f1 f2 f3 := by kernel_rfl
theorem lw3t_g1_ (x0 x1 x2 f0 f1 f2 f3 : Int) (c : Nat) : goodY (lw3t_e1 x0 x1 x2 f0 f1 f2 f3 c) = true := by kernel_rfl
theorem lw3t_p1 (x0 x1 x2 f0 f1 f2 f3 : Int) (c : Nat) (h : lw3t_r1 x0 x1 x2 f0 f1 f2 f3) : ∃ s1 R, SndF Tryz.prog 3 #[.slice (some ⟨6, 0, none⟩) 3 c, .bool true, .agg #[.int .i16 f0, .int .i16 f1, .int .i16 f2, .int .i16 f3]] (aw3S0.push (.cells [.int .i8 x0, .int .i8 x1, .int .i8 x2] 0 true 0 true)) (.bool true) s1 R 0 :=
  sndY (r := lw3t_e1 x0 x1 x2 f0 f1 f2 f3 c) (by delta lw3t_e1; exact Eq.refl _) gfol lw3t_X (lw3t_g1_ x0 x1 x2 f0 f1 f2 f3 c) ((lw3t_o1 x0 x1 x2 f0 f1 f2 f3 c).symm ▸ h)
def lw3t_r2 (x0 x1 x2 f0 f1 f2 f3 : Int) : Prop := (lw3t_z13 (lw3t_z12 (lw3t_z8 (lw3t_z11 (lw3t_z6 (lw3t_z2 (lw3t_z10 (lw3t_z4 (lw3t_z0 True x0 x1 x2 f0 f1 f2 f3) x0 x1 x2 f0 f1 f2 f3) x0 x1 x2 f0 f1 f2 f3) x0 x1 x2 f0 f1 f2 f3) x0 x1 x2 f0 f1 f2 f3) x0 x1 x2 f0 f1 f2 f3) x0 x1 x2 f0 f1 f2 f3) x0 x1 x2 f0 f1 f2 f3) x0 x1 x2 f0 f1 f2 f3)
theorem lw3t_o2 (x0 x1 x2 f0 f1 f2 f3 : Int) (c : Nat) : obY (lw3t_e2 x0 x1 x2 f0 f1 f2 f3 c) = lw3t_r2 x0 x1 x2 f0 f1 f2 f3 := by kernel_rfl
theorem lw3t_g2_ (x0 x1 x2 f0 f1 f2 f3 : Int) (c : Nat) : goodY (lw3t_e2 x0 x1 x2 f0 f1 f2 f3 c) = true := by kernel_rfl
theorem lw3t_p2 (x0 x1 x2 f0 f1 f2 f3 : Int) (c : Nat) (h : lw3t_r2 x0 x1 x2 f0 f1 f2 f3) : ∃ s1 R, SndF Tryz.prog 3 #[.slice (some ⟨6, 0, none⟩) 3 c, .bool true, .agg #[.int .i16 f0, .int .i16 f1, .int .i16 f2, .int .i16 f3]] (aw3S0.push (.cells [.int .i8 x0, .int .i8 x1, .int .i8 x2] 0 true 0 true)) (.bool true) s1 R 0 :=
  sndY (r := lw3t_e2 x0 x1 x2 f0 f1 f2 f3 c) (by delta lw3t_e2; exact Eq.refl _) gfol lw3t_X (lw3t_g2_ x0 x1 x2 f0 f1 f2 f3 c) ((lw3t_o2 x0 x1 x2 f0 f1 f2 f3 c).symm ▸ h)
def lw3t_r3 (x0 x1 x2 f0 f1 f2 f3 : Int) : Prop := (lw3t_z14 (lw3t_z12 (lw3t_z8 (lw3t_z11 (lw3t_z6 (lw3t_z2 (lw3t_z10 (lw3t_z4 (lw3t_z0 True x0 x1 x2 f0 f1 f2 f3) x0 x1 x2 f0 f1 f2 f3) x0 x1 x2 f0 f1 f2 f3) x0 x1 x2 f0 f1 f2 f3) x0 x1 x2 f0 f1 f2 f3) x0 x1 x2 f0 f1 f2 f3) x0 x1 x2 f0 f1 f2 f3) x0 x1 x2 f0 f1 f2 f3) x0 x1 x2 f0 f1 f2 f3)
theorem lw3t_o3 (x0 x1 x2 f0 f1 f2 f3 : Int) (c : Nat) : obY (lw3t_e3 x0 x1 x2 f0 f1 f2 f3 c) = lw3t_r3 x0 x1 x2 f0 f1 f2 f3 := by kernel_rfl
theorem lw3t_g3_ (x0 x1 x2 f0 f1 f2 f3 : Int) (c : Nat) : goodY (lw3t_e3 x0 x1 x2 f0 f1 f2 f3 c) = true := by kernel_rfl
theorem lw3t_p3 (x0 x1 x2 f0 f1 f2 f3 : Int) (c : Nat) (h : lw3t_r3 x0 x1 x2 f0 f1 f2 f3) : ∃ s1 R, SndF Tryz.prog 3 #[.slice (some ⟨6, 0, none⟩) 3 c, .bool true, .agg #[.int .i16 f0, .int .i16 f1, .int .i16 f2, .int .i16 f3]] (aw3S0.push (.cells [.int .i8 x0, .int .i8 x1, .int .i8 x2] 0 true 0 true)) (.bool true) s1 R 0 :=
  sndY (r := lw3t_e3 x0 x1 x2 f0 f1 f2 f3 c) (by delta lw3t_e3; exact Eq.refl _) gfol lw3t_X (lw3t_g3_ x0 x1 x2 f0 f1 f2 f3 c) ((lw3t_o3 x0 x1 x2 f0 f1 f2 f3 c).symm ▸ h)
theorem lw3t_any (x0 x1 x2 f0 f1 f2 f3 : Int) (c : Nat) (hpre : True) : ∃ s1 R, SndF Tryz.prog 3 #[.slice (some ⟨6, 0, none⟩) 3 c, .bool true, .agg #[.int .i16 f0, .int .i16 f1, .int .i16 f2, .int .i16 f3]] (aw3S0.push (.cells [.int .i8 x0, .int .i8 x1, .int .i8 x2] 0 true 0 true)) (.bool true) s1 R 0 := by
  rcases Bool.eq_false_or_eq_true (lw3t_c0 x0 x1 x2 f0 f1 f2 f3) with h0 | h0
  ·
    rcases Bool.eq_false_or_eq_true (lw3t_c9 x0 x1 x2 f0 f1 f2 f3) with h1 | h1
    ·
      have h2 : (lw3t_c1 x0 x1 x2 f0 f1 f2 f3 = false) := lw3t_c1_ff x0 x1 x2 f0 f1 f2 f3 hpre
      have h3 : (lw3t_c2 x0 x1 x2 f0 f1 f2 f3 = false) := lw3t_c2_ff x0 x1 x2 f0 f1 f2 f3 hpre
      have h4 : (lw3t_c3 x0 x1 x2 f0 f1 f2 f3 = false) := lw3t_c3_ff x0 x1 x2 f0 f1 f2 f3 hpre
      have h5 : (lw3t_c4 x0 x1 x2 f0 f1 f2 f3 = false) := lw3t_c4_ff x0 x1 x2 f0 f1 f2 f3 hpre
      have h6 : (lw3t_c5 x0 x1 x2 f0 f1 f2 f3 = false) := lw3t_c5_ff x0 x1 x2 f0 f1 f2 f3 hpre
      have h7 : (lw3t_c6 x0 x1 x2 f0 f1 f2 f3 = false) := lw3t_c6_ff x0 x1 x2 f0 f1 f2 f3 hpre
      have h8 : (lw3t_c7 x0 x1 x2 f0 f1 f2 f3 = true) := by
        have r7 : Rg.has (0, 0) (lw3t_at0 x0) := by
          have hr : InR [(-100, 100)] [(lw3t_at0 x0)] := ⟨lw3t_rg7 x0 x1 x2 f0 f1 f2 f3 hpre, trivial⟩
          have ha := BE.all_ok hr lw3t_q20 (by kernel_rfl)
          have hx : BE.ev [(lw3t_at0 x0)] (.cm .eq (.v 0) (.k (0))) = true := (show BE.ev [(lw3t_at0 x0)] (.cm .eq (.v 0) (.k (0))) = lw3t_c0 x0 x1 x2 f0 f1 f2 f3 by kernel_rfl).trans h0
          have ha := orT ha hx
          exact rgB ha
        have hr : InR [(0, 0)] [(lw3t_at0 x0)] := ⟨r7, trivial⟩
        have e1 : lw3t_c7 x0 x1 x2 f0 f1 f2 f3 = BE.ev [(lw3t_at0 x0)] lw3t_q21 := by kernel_rfl
        rw [e1]
        exact BE.tri_ok hr (by kernel_rfl) (by kernel_rfl)
      have h9 : (lw3t_c10 x0 x1 x2 f0 f1 f2 f3 = true) := by
        have r7 : Rg.has (0, 0) (lw3t_at0 x0) := by
          have hr : InR [(-100, 100)] [(lw3t_at0 x0)] := ⟨lw3t_rg7 x0 x1 x2 f0 f1 f2 f3 hpre, trivial⟩
          have ha := BE.all_ok hr lw3t_q20 (by kernel_rfl)
          have hx : BE.ev [(lw3t_at0 x0)] (.cm .eq (.v 0) (.k (0))) = true := (show BE.ev [(lw3t_at0 x0)] (.cm .eq (.v 0) (.k (0))) = lw3t_c0 x0 x1 x2 f0 f1 f2 f3 by kernel_rfl).trans h0
          have ha := orT ha hx
          exact rgB ha
        have r8 : Rg.has (0, 0) (lw3t_at0 x1) := by
          have hr : InR [(-100, 100)] [(lw3t_at0 x1)] := ⟨lw3t_rg8 x0 x1 x2 f0 f1 f2 f3 hpre, trivial⟩
          have ha := BE.all_ok hr lw3t_q20 (by kernel_rfl)
          have hx : BE.ev [(lw3t_at0 x1)] (.cm .eq (.v 0) (.k (0))) = true := (show BE.ev [(lw3t_at0 x1)] (.cm .eq (.v 0) (.k (0))) = lw3t_c9 x0 x1 x2 f0 f1 f2 f3 by kernel_rfl).trans h1
          have ha := orT ha hx
          exact rgB ha
        have hr : InR [(0, 0), (0, 0), (-100, 100)] [(lw3t_at0 x0), (lw3t_at0 x1), (lw3t_at0 x2)] := ⟨r7, ⟨r8, ⟨lw3t_rg9 x0 x1 x2 f0 f1 f2 f3 hpre, trivial⟩⟩⟩
        have e1 : lw3t_c10 x0 x1 x2 f0 f1 f2 f3 = BE.ev [(lw3t_at0 x0), (lw3t_at0 x1), (lw3t_at0 x2)] (.not lw3t_q24) := by kernel_rfl
        rw [e1]
        exact BE.tri_ok hr (by kernel_rfl) (by kernel_rfl)
      have h10 : (lw3t_c8 x0 x1 x2 f0 f1 f2 f3 = false) := by
        have hz := (show lw3t_c7 x0 x1 x2 f0 f1 f2 f3 = Bool.not (lw3t_c8 x0 x1 x2 f0 f1 f2 f3) by kernel_rfl).symm.trans h8
        generalize lw3t_c8 x0 x1 x2 f0 f1 f2 f3 = z at hz ⊢
        cases z <;> first | rfl | cases hz
      have h11 : (lw3t_c11 x0 x1 x2 f0 f1 f2 f3 = false) := by
        have hz := (show lw3t_c10 x0 x1 x2 f0 f1 f2 f3 = Bool.not (lw3t_c11 x0 x1 x2 f0 f1 f2 f3) by kernel_rfl).symm.trans h9
        generalize lw3t_c11 x0 x1 x2 f0 f1 f2 f3 = z at hz ⊢
        cases z <;> first | rfl | cases hz
      rcases Bool.eq_false_or_eq_true (lw3t_c12 x0 x1 x2 f0 f1 f2 f3) with h12 | h12
      ·
        have h13 : (lw3t_c13 x0 x1 x2 f0 f1 f2 f3 = false) := by
          have r7 : Rg.has (0, 0) (lw3t_at0 x0) := by
            have hr : InR [(-100, 100)] [(lw3t_at0 x0)] := ⟨lw3t_rg7 x0 x1 x2 f0 f1 f2 f3 hpre, trivial⟩
            have ha := BE.all_ok hr lw3t_q20 (by kernel_rfl)
            have hx : BE.ev [(lw3t_at0 x0)] (.cm .eq (.v 0) (.k (0))) = true := (show BE.ev [(lw3t_at0 x0)] (.cm .eq (.v 0) (.k (0))) = lw3t_c0 x0 x1 x2 f0 f1 f2 f3 by kernel_rfl).trans h0
            have ha := orT ha hx
            exact rgB ha
          have r8 : Rg.has (0, 0) (lw3t_at0 x1) := by
            have hr : InR [(-100, 100)] [(lw3t_at0 x1)] := ⟨lw3t_rg8 x0 x1 x2 f0 f1 f2 f3 hpre, trivial⟩
            have ha := BE.all_ok hr lw3t_q20 (by kernel_rfl)
            have hx : BE.ev [(lw3t_at0 x1)] (.cm .eq (.v 0) (.k (0))) = true := (show BE.ev [(lw3t_at0 x1)] (.cm .eq (.v 0) (.k (0))) = lw3t_c9 x0 x1 x2 f0 f1 f2 f3 by kernel_rfl).trans h1
            have ha := orT ha hx
            exact rgB ha
          have hr : InR [(0, 0), (0, 0), (-100, 100)] [(lw3t_at0 x0), (lw3t_at0 x1), (lw3t_at0 x2)] := ⟨r7, ⟨r8, ⟨lw3t_rg9 x0 x1 x2 f0 f1 f2 f3 hpre, trivial⟩⟩⟩
          have hr2 : InR [(-100, 100)] [(lw3t_at0 x2)] := ⟨lw3t_rg9 x0 x1 x2 f0 f1 f2 f3 hpre, trivial⟩
          have ha := BE.all_ok hr2 (.or (.not lw3t_q26) (.not lw3t_q27)) (by kernel_rfl)
          have hx : BE.ev [(lw3t_at0 x2)] lw3t_q26 = true := (show BE.ev [(lw3t_at0 x2)] lw3t_q26 = BE.ev [(lw3t_at0 x0), (lw3t_at0 x1), (lw3t_at0 x2)] lw3t_q29 by kernel_rfl).trans ((BE.smp_to hr lw3t_q33 lw3t_q29 (by kernel_rfl) (by kernel_rfl)).symm.trans ((show BE.ev [(lw3t_at0 x0), (lw3t_at0 x1), (lw3t_at0 x2)] lw3t_q33 = lw3t_c12 x0 x1 x2 f0 f1 f2 f3 by kernel_rfl).trans h12))
          have ha := orT ha hx
          exact (show lw3t_c13 x0 x1 x2 f0 f1 f2 f3 = BE.ev [(lw3t_at0 x0), (lw3t_at0 x1), (lw3t_at0 x2)] lw3t_q34 by kernel_rfl).trans ((BE.smp_to hr lw3t_q34 lw3t_q35 (by kernel_rfl) (by kernel_rfl)).trans ((show BE.ev [(lw3t_at0 x0), (lw3t_at0 x1), (lw3t_at0 x2)] lw3t_q35 = BE.ev [(lw3t_at0 x2)] lw3t_q27 by kernel_rfl).trans (notT ha)))
        have h14 : (lw3t_c14 x0 x1 x2 f0 f1 f2 f3 = true) := by
          have r7 : Rg.has (0, 0) (lw3t_at0 x0) := by
            have hr : InR [(-100, 100)] [(lw3t_at0 x0)] := ⟨lw3t_rg7 x0 x1 x2 f0 f1 f2 f3 hpre, trivial⟩
            have ha := BE.all_ok hr lw3t_q20 (by kernel_rfl)
            have hx : BE.ev [(lw3t_at0 x0)] (.cm .eq (.v 0) (.k (0))) = true := (show BE.ev [(lw3t_at0 x0)] (.cm .eq (.v 0) (.k (0))) = lw3t_c0 x0 x1 x2 f0 f1 f2 f3 by kernel_rfl).trans h0
            have ha := orT ha hx
            exact rgB ha
          have r8 : Rg.has (0, 0) (lw3t_at0 x1) := by
            have hr : InR [(-100, 100)] [(lw3t_at0 x1)] := ⟨lw3t_rg8 x0 x1 x2 f0 f1 f2 f3 hpre, trivial⟩
            have ha := BE.all_ok hr lw3t_q20 (by kernel_rfl)
            have hx : BE.ev [(lw3t_at0 x1)] (.cm .eq (.v 0) (.k (0))) = true := (show BE.ev [(lw3t_at0 x1)] (.cm .eq (.v 0) (.k (0))) = lw3t_c9 x0 x1 x2 f0 f1 f2 f3 by kernel_rfl).trans h1
            have ha := orT ha hx
            exact rgB ha
          have hr : InR [(0, 0), (0, 0), (-100, 100)] [(lw3t_at0 x0), (lw3t_at0 x1), (lw3t_at0 x2)] := ⟨r7, ⟨r8, ⟨lw3t_rg9 x0 x1 x2 f0 f1 f2 f3 hpre, trivial⟩⟩⟩
          have hr2 : InR [(-100, 100)] [(lw3t_at0 x2)] := ⟨lw3t_rg9 x0 x1 x2 f0 f1 f2 f3 hpre, trivial⟩
          have ha := BE.all_ok hr2 (.or (.not lw3t_q26) (.not (.cm .eq (.v 0) (.k (0))))) (by kernel_rfl)
          have hx : BE.ev [(lw3t_at0 x2)] lw3t_q26 = true := (show BE.ev [(lw3t_at0 x2)] lw3t_q26 = BE.ev [(lw3t_at0 x0), (lw3t_at0 x1), (lw3t_at0 x2)] lw3t_q29 by kernel_rfl).trans ((BE.smp_to hr lw3t_q33 lw3t_q29 (by kernel_rfl) (by kernel_rfl)).symm.trans ((show BE.ev [(lw3t_at0 x0), (lw3t_at0 x1), (lw3t_at0 x2)] lw3t_q33 = lw3t_c12 x0 x1 x2 f0 f1 f2 f3 by kernel_rfl).trans h12))
          have ha := orT ha hx
          exact (show lw3t_c14 x0 x1 x2 f0 f1 f2 f3 = BE.ev [(lw3t_at0 x0), (lw3t_at0 x1), (lw3t_at0 x2)] (.not (.cm .eq (.v 2) (.k (0)))) by kernel_rfl).trans ((BE.smp_to hr (.not (.cm .eq (.v 2) (.k (0)))) (.not (.cm .eq (.v 2) (.k (0)))) (by kernel_rfl) (by kernel_rfl)).trans ((show BE.ev [(lw3t_at0 x0), (lw3t_at0 x1), (lw3t_at0 x2)] (.not (.cm .eq (.v 2) (.k (0)))) = BE.ev [(lw3t_at0 x2)] (.not (.cm .eq (.v 0) (.k (0)))) by kernel_rfl).trans (ha)))
        exact lw3t_p2 x0 x1 x2 f0 f1 f2 f3 c (lw3t_z13_h (lw3t_z12_h (lw3t_z8_h (lw3t_z11_h (lw3t_z6_h (lw3t_z2_h (lw3t_z10_h (lw3t_z4_h (lw3t_z0_h trivial x0 x1 x2 f0 f1 f2 f3 hpre) x0 x1 x2 f0 f1 f2 f3 hpre h0) x0 x1 x2 f0 f1 f2 f3 hpre h1) x0 x1 x2 f0 f1 f2 f3 hpre) x0 x1 x2 f0 f1 f2 f3 hpre h8) x0 x1 x2 f0 f1 f2 f3 hpre h9) x0 x1 x2 f0 f1 f2 f3 hpre h10) x0 x1 x2 f0 f1 f2 f3 hpre h11) x0 x1 x2 f0 f1 f2 f3 hpre h12 h13 h14)
      ·
        have h15 : (lw3t_c15 x0 x1 x2 f0 f1 f2 f3 = false) := by
          have r7 : Rg.has (0, 0) (lw3t_at0 x0) := by
            have hr : InR [(-100, 100)] [(lw3t_at0 x0)] := ⟨lw3t_rg7 x0 x1 x2 f0 f1 f2 f3 hpre, trivial⟩
            have ha := BE.all_ok hr lw3t_q20 (by kernel_rfl)
            have hx : BE.ev [(lw3t_at0 x0)] (.cm .eq (.v 0) (.k (0))) = true := (show BE.ev [(lw3t_at0 x0)] (.cm .eq (.v 0) (.k (0))) = lw3t_c0 x0 x1 x2 f0 f1 f2 f3 by kernel_rfl).trans h0
            have ha := orT ha hx
            exact rgB ha
          have r8 : Rg.has (0, 0) (lw3t_at0 x1) := by
            have hr : InR [(-100, 100)] [(lw3t_at0 x1)] := ⟨lw3t_rg8 x0 x1 x2 f0 f1 f2 f3 hpre, trivial⟩
            have ha := BE.all_ok hr lw3t_q20 (by kernel_rfl)
            have hx : BE.ev [(lw3t_at0 x1)] (.cm .eq (.v 0) (.k (0))) = true := (show BE.ev [(lw3t_at0 x1)] (.cm .eq (.v 0) (.k (0))) = lw3t_c9 x0 x1 x2 f0 f1 f2 f3 by kernel_rfl).trans h1
            have ha := orT ha hx
            exact rgB ha
          have r9 : Rg.has (0, 0) (lw3t_at0 x2) := by
            have hr : InR [(0, 0), (0, 0), (-100, 100)] [(lw3t_at0 x0), (lw3t_at0 x1), (lw3t_at0 x2)] := ⟨r7, ⟨r8, ⟨lw3t_rg9 x0 x1 x2 f0 f1 f2 f3 hpre, trivial⟩⟩⟩
            have ha := BE.all_ok hr lw3t_q36 (by kernel_rfl)
            have hx : BE.ev [(lw3t_at0 x0), (lw3t_at0 x1), (lw3t_at0 x2)] lw3t_q33 = false := (show BE.ev [(lw3t_at0 x0), (lw3t_at0 x1), (lw3t_at0 x2)] lw3t_q33 = lw3t_c12 x0 x1 x2 f0 f1 f2 f3 by kernel_rfl).trans h12
            have ha := orT ha (notF hx)
            exact rgB ha
          have hr : InR [(0, 0)] [(lw3t_at0 x2)] := ⟨r9, trivial⟩
          have e1 : lw3t_c15 x0 x1 x2 f0 f1 f2 f3 = BE.ev [(lw3t_at0 x2)] (.not (.beq (.not (.cm .ge (.k (-1)) (.k (0)))) (.cm .eq (.v 0) (.k (0))))) := by kernel_rfl
          rw [e1]
          exact BE.tri_ok hr (by kernel_rfl) (by kernel_rfl)
        have h16 : (lw3t_c14 x0 x1 x2 f0 f1 f2 f3 = false) := by
          have r7 : Rg.has (0, 0) (lw3t_at0 x0) := by
            have hr : InR [(-100, 100)] [(lw3t_at0 x0)] := ⟨lw3t_rg7 x0 x1 x2 f0 f1 f2 f3 hpre, trivial⟩
            have ha := BE.all_ok hr lw3t_q20 (by kernel_rfl)
            have hx : BE.ev [(lw3t_at0 x0)] (.cm .eq (.v 0) (.k (0))) = true := (show BE.ev [(lw3t_at0 x0)] (.cm .eq (.v 0) (.k (0))) = lw3t_c0 x0 x1 x2 f0 f1 f2 f3 by kernel_rfl).trans h0
            have ha := orT ha hx
            exact rgB ha
          have r8 : Rg.has (0, 0) (lw3t_at0 x1) := by
            have hr : InR [(-100, 100)] [(lw3t_at0 x1)] := ⟨lw3t_rg8 x0 x1 x2 f0 f1 f2 f3 hpre, trivial⟩
            have ha := BE.all_ok hr lw3t_q20 (by kernel_rfl)
            have hx : BE.ev [(lw3t_at0 x1)] (.cm .eq (.v 0) (.k (0))) = true := (show BE.ev [(lw3t_at0 x1)] (.cm .eq (.v 0) (.k (0))) = lw3t_c9 x0 x1 x2 f0 f1 f2 f3 by kernel_rfl).trans h1
            have ha := orT ha hx
            exact rgB ha
          have r9 : Rg.has (0, 0) (lw3t_at0 x2) := by
            have hr : InR [(0, 0), (0, 0), (-100, 100)] [(lw3t_at0 x0), (lw3t_at0 x1), (lw3t_at0 x2)] := ⟨r7, ⟨r8, ⟨lw3t_rg9 x0 x1 x2 f0 f1 f2 f3 hpre, trivial⟩⟩⟩
            have ha := BE.all_ok hr lw3t_q36 (by kernel_rfl)
            have hx : BE.ev [(lw3t_at0 x0), (lw3t_at0 x1), (lw3t_at0 x2)] lw3t_q33 = false := (show BE.ev [(lw3t_at0 x0), (lw3t_at0 x1), (lw3t_at0 x2)] lw3t_q33 = lw3t_c12 x0 x1 x2 f0 f1 f2 f3 by kernel_rfl).trans h12
            have ha := orT ha (notF hx)
            exact rgB ha
          have hr : InR [(0, 0)] [(lw3t_at0 x2)] := ⟨r9, trivial⟩
          have e1 : lw3t_c14 x0 x1 x2 f0 f1 f2 f3 = BE.ev [(lw3t_at0 x2)] (.not (.cm .eq (.v 0) (.k (0)))) := by kernel_rfl
          rw [e1]
          exact BE.tri_ok hr (by kernel_rfl) (by kernel_rfl)
        have h17 : (lw3t_c16 x0 x1 x2 f0 f1 f2 f3 = false) := lw3t_c16_ff x0 x1 x2 f0 f1 f2 f3 hpre
        have h18 : (lw3t_c17 x0 x1 x2 f0 f1 f2 f3 = false) := lw3t_c17_ff x0 x1 x2 f0 f1 f2 f3 hpre
        have h19 : (lw3t_c18 x0 x1 x2 f0 f1 f2 f3 = false) := lw3t_c18_ff x0 x1 x2 f0 f1 f2 f3 hpre
        have h20 : (lw3t_c19 x0 x1 x2 f0 f1 f2 f3 = false) := lw3t_c19_ff x0 x1 x2 f0 f1 f2 f3 hpre
        have h21 : (lw3t_c20 x0 x1 x2 f0 f1 f2 f3 = false) := lw3t_c20_ff x0 x1 x2 f0 f1 f2 f3 hpre
        have h22 : (lw3t_c21 x0 x1 x2 f0 f1 f2 f3 = false) := lw3t_c21_ff x0 x1 x2 f0 f1 f2 f3 hpre
        have h23 : (lw3t_c22 x0 x1 x2 f0 f1 f2 f3 = false) := lw3t_c22_ff x0 x1 x2 f0 f1 f2 f3 hpre
        have h24 : (lw3t_c23 x0 x1 x2 f0 f1 f2 f3 = false) := lw3t_c23_ff x0 x1 x2 f0 f1 f2 f3 hpre
        have h25 : (lw3t_c24 x0 x1 x2 f0 f1 f2 f3 = false) := lw3t_c24_ff x0 x1 x2 f0 f1 f2 f3 hpre
        have h26 : (lw3t_c25 x0 x1 x2 f0 f1 f2 f3 = false) := lw3t_c25_ff x0 x1 x2 f0 f1 f2 f3 hpre
        have h27 : (lw3t_c26 x0 x1 x2 f0 f1 f2 f3 = false) := by
          have r7 : Rg.has (0, 0) (lw3t_at0 x0) := by
            have hr : InR [(-100, 100)] [(lw3t_at0 x0)] := ⟨lw3t_rg7 x0 x1 x2 f0 f1 f2 f3 hpre, trivial⟩
            have ha := BE.all_ok hr lw3t_q20 (by kernel_rfl)
            have hx : BE.ev [(lw3t_at0 x0)] (.cm .eq (.v 0) (.k (0))) = true := (show BE.ev [(lw3t_at0 x0)] (.cm .eq (.v 0) (.k (0))) = lw3t_c0 x0 x1 x2 f0 f1 f2 f3 by kernel_rfl).trans h0
            have ha := orT ha hx
            exact rgB ha
          have r8 : Rg.has (0, 0) (lw3t_at0 x1) := by
            have hr : InR [(-100, 100)] [(lw3t_at0 x1)] := ⟨lw3t_rg8 x0 x1 x2 f0 f1 f2 f3 hpre, trivial⟩
            have ha := BE.all_ok hr lw3t_q20 (by kernel_rfl)
            have hx : BE.ev [(lw3t_at0 x1)] (.cm .eq (.v 0) (.k (0))) = true := (show BE.ev [(lw3t_at0 x1)] (.cm .eq (.v 0) (.k (0))) = lw3t_c9 x0 x1 x2 f0 f1 f2 f3 by kernel_rfl).trans h1
            have ha := orT ha hx
            exact rgB ha
          have r9 : Rg.has (0, 0) (lw3t_at0 x2) := by
            have hr : InR [(0, 0), (0, 0), (-100, 100)] [(lw3t_at0 x0), (lw3t_at0 x1), (lw3t_at0 x2)] := ⟨r7, ⟨r8, ⟨lw3t_rg9 x0 x1 x2 f0 f1 f2 f3 hpre, trivial⟩⟩⟩
            have ha := BE.all_ok hr lw3t_q36 (by kernel_rfl)
            have hx : BE.ev [(lw3t_at0 x0), (lw3t_at0 x1), (lw3t_at0 x2)] lw3t_q33 = false := (show BE.ev [(lw3t_at0 x0), (lw3t_at0 x1), (lw3t_at0 x2)] lw3t_q33 = lw3t_c12 x0 x1 x2 f0 f1 f2 f3 by kernel_rfl).trans h12
            have ha := orT ha (notF hx)
            exact rgB ha
          have hr : InR [(0, 0), (0, 0), (0, 0), (-1000, 1000), (-1000, 1000), (-1000, 1000)] [(lw3t_at0 x0), (lw3t_at0 x1), (lw3t_at0 x2), (lw3t_at1 f0), (lw3t_at1 f1), (lw3t_at1 f2)] := ⟨r7, ⟨r8, ⟨r9, ⟨lw3t_rg10 x0 x1 x2 f0 f1 f2 f3 hpre, ⟨lw3t_rg11 x0 x1 x2 f0 f1 f2 f3 hpre, ⟨lw3t_rg12 x0 x1 x2 f0 f1 f2 f3 hpre, trivial⟩⟩⟩⟩⟩⟩
          have e1 : lw3t_c26 x0 x1 x2 f0 f1 f2 f3 = BE.ev [(lw3t_at0 x0), (lw3t_at0 x1), (lw3t_at0 x2), (lw3t_at1 f0), (lw3t_at1 f1), (lw3t_at1 f2)] (.cm .lt (.wr lw3t_q44) (.k (-1073741824))) := by kernel_rfl
          rw [e1]
          exact BE.tri_ok hr (by kernel_rfl) (by kernel_rfl)
        have h28 : (lw3t_c27 x0 x1 x2 f0 f1 f2 f3 = false) := by
          have r7 : Rg.has (0, 0) (lw3t_at0 x0) := by
            have hr : InR [(-100, 100)] [(lw3t_at0 x0)] := ⟨lw3t_rg7 x0 x1 x2 f0 f1 f2 f3 hpre, trivial⟩
            have ha := BE.all_ok hr lw3t_q20 (by kernel_rfl)
            have hx : BE.ev [(lw3t_at0 x0)] (.cm .eq (.v 0) (.k (0))) = true := (show BE.ev [(lw3t_at0 x0)] (.cm .eq (.v 0) (.k (0))) = lw3t_c0 x0 x1 x2 f0 f1 f2 f3 by kernel_rfl).trans h0
            have ha := orT ha hx
            exact rgB ha
          have r8 : Rg.has (0, 0) (lw3t_at0 x1) := by
            have hr : InR [(-100, 100)] [(lw3t_at0 x1)] := ⟨lw3t_rg8 x0 x1 x2 f0 f1 f2 f3 hpre, trivial⟩
            have ha := BE.all_ok hr lw3t_q20 (by kernel_rfl)
            have hx : BE.ev [(lw3t_at0 x1)] (.cm .eq (.v 0) (.k (0))) = true := (show BE.ev [(lw3t_at0 x1)] (.cm .eq (.v 0) (.k (0))) = lw3t_c9 x0 x1 x2 f0 f1 f2 f3 by kernel_rfl).trans h1
            have ha := orT ha hx
            exact rgB ha
          have r9 : Rg.has (0, 0) (lw3t_at0 x2) := by
            have hr : InR [(0, 0), (0, 0), (-100, 100)] [(lw3t_at0 x0), (lw3t_at0 x1), (lw3t_at0 x2)] := ⟨r7, ⟨r8, ⟨lw3t_rg9 x0 x1 x2 f0 f1 f2 f3 hpre, trivial⟩⟩⟩
            have ha := BE.all_ok hr lw3t_q36 (by kernel_rfl)
            have hx : BE.ev [(lw3t_at0 x0), (lw3t_at0 x1), (lw3t_at0 x2)] lw3t_q33 = false := (show BE.ev [(lw3t_at0 x0), (lw3t_at0 x1), (lw3t_at0 x2)] lw3t_q33 = lw3t_c12 x0 x1 x2 f0 f1 f2 f3 by kernel_rfl).trans h12
            have ha := orT ha (notF hx)
            exact rgB ha
          have hr : InR [(0, 0), (0, 0), (0, 0), (-1000, 1000), (-1000, 1000), (-1000, 1000)] [(lw3t_at0 x0), (lw3t_at0 x1), (lw3t_at0 x2), (lw3t_at1 f0), (lw3t_at1 f1), (lw3t_at1 f2)] := ⟨r7, ⟨r8, ⟨r9, ⟨lw3t_rg10 x0 x1 x2 f0 f1 f2 f3 hpre, ⟨lw3t_rg11 x0 x1 x2 f0 f1 f2 f3 hpre, ⟨lw3t_rg12 x0 x1 x2 f0 f1 f2 f3 hpre, trivial⟩⟩⟩⟩⟩⟩
          have e1 : lw3t_c27 x0 x1 x2 f0 f1 f2 f3 = BE.ev [(lw3t_at0 x0), (lw3t_at0 x1), (lw3t_at0 x2), (lw3t_at1 f0), (lw3t_at1 f1), (lw3t_at1 f2)] (.cm .gt (.wr lw3t_q44) (.k (1073741824))) := by kernel_rfl
          rw [e1]
          exact BE.tri_ok hr (by kernel_rfl) (by kernel_rfl)
        have h29 : (lw3t_c28 x0 x1 x2 f0 f1 f2 f3 = false) := by
          have r7 : Rg.has (0, 0) (lw3t_at0 x0) := by
            have hr : InR [(-100, 100)] [(lw3t_at0 x0)] := ⟨lw3t_rg7 x0 x1 x2 f0 f1 f2 f3 hpre, trivial⟩
            have ha := BE.all_ok hr lw3t_q20 (by kernel_rfl)
            have hx : BE.ev [(lw3t_at0 x0)] (.cm .eq (.v 0) (.k (0))) = true := (show BE.ev [(lw3t_at0 x0)] (.cm .eq (.v 0) (.k (0))) = lw3t_c0 x0 x1 x2 f0 f1 f2 f3 by kernel_rfl).trans h0
            have ha := orT ha hx
            exact rgB ha
          have r8 : Rg.has (0, 0) (lw3t_at0 x1) := by
            have hr : InR [(-100, 100)] [(lw3t_at0 x1)] := ⟨lw3t_rg8 x0 x1 x2 f0 f1 f2 f3 hpre, trivial⟩
            have ha := BE.all_ok hr lw3t_q20 (by kernel_rfl)
            have hx : BE.ev [(lw3t_at0 x1)] (.cm .eq (.v 0) (.k (0))) = true := (show BE.ev [(lw3t_at0 x1)] (.cm .eq (.v 0) (.k (0))) = lw3t_c9 x0 x1 x2 f0 f1 f2 f3 by kernel_rfl).trans h1
            have ha := orT ha hx
            exact rgB ha
          have r9 : Rg.has (0, 0) (lw3t_at0 x2) := by
            have hr : InR [(0, 0), (0, 0), (-100, 100)] [(lw3t_at0 x0), (lw3t_at0 x1), (lw3t_at0 x2)] := ⟨r7, ⟨r8, ⟨lw3t_rg9 x0 x1 x2 f0 f1 f2 f3 hpre, trivial⟩⟩⟩
            have ha := BE.all_ok hr lw3t_q36 (by kernel_rfl)
            have hx : BE.ev [(lw3t_at0 x0), (lw3t_at0 x1), (lw3t_at0 x2)] lw3t_q33 = false := (show BE.ev [(lw3t_at0 x0), (lw3t_at0 x1), (lw3t_at0 x2)] lw3t_q33 = lw3t_c12 x0 x1 x2 f0 f1 f2 f3 by kernel_rfl).trans h12
            have ha := orT ha (notF hx)
            exact rgB ha
          have hr : InR [(0, 0), (0, 0), (0, 0), (-1000, 1000), (-1000, 1000), (-1000, 1000)] [(lw3t_at0 x0), (lw3t_at0 x1), (lw3t_at0 x2), (lw3t_at1 f0), (lw3t_at1 f1), (lw3t_at1 f2)] := ⟨r7, ⟨r8, ⟨r9, ⟨lw3t_rg10 x0 x1 x2 f0 f1 f2 f3 hpre, ⟨lw3t_rg11 x0 x1 x2 f0 f1 f2 f3 hpre, ⟨lw3t_rg12 x0 x1 x2 f0 f1 f2 f3 hpre, trivial⟩⟩⟩⟩⟩⟩
          have e1 : lw3t_c28 x0 x1 x2 f0 f1 f2 f3 = BE.ev [(lw3t_at0 x0), (lw3t_at0 x1), (lw3t_at0 x2), (lw3t_at1 f0), (lw3t_at1 f1), (lw3t_at1 f2)] (.cm .lt (.wr lw3t_q45) (.k (-1073741824))) := by kernel_rfl
          rw [e1]
          exact BE.tri_ok hr (by kernel_rfl) (by kernel_rfl)
        have h30 : (lw3t_c29 x0 x1 x2 f0 f1 f2 f3 = false) := by
          have r7 : Rg.has (0, 0) (lw3t_at0 x0) := by
            have hr : InR [(-100, 100)] [(lw3t_at0 x0)] := ⟨lw3t_rg7 x0 x1 x2 f0 f1 f2 f3 hpre, trivial⟩
            have ha := BE.all_ok hr lw3t_q20 (by kernel_rfl)
            have hx : BE.ev [(lw3t_at0 x0)] (.cm .eq (.v 0) (.k (0))) = true := (show BE.ev [(lw3t_at0 x0)] (.cm .eq (.v 0) (.k (0))) = lw3t_c0 x0 x1 x2 f0 f1 f2 f3 by kernel_rfl).trans h0
            have ha := orT ha hx
            exact rgB ha
          have r8 : Rg.has (0, 0) (lw3t_at0 x1) := by
            have hr : InR [(-100, 100)] [(lw3t_at0 x1)] := ⟨lw3t_rg8 x0 x1 x2 f0 f1 f2 f3 hpre, trivial⟩
            have ha := BE.all_ok hr lw3t_q20 (by kernel_rfl)
            have hx : BE.ev [(lw3t_at0 x1)] (.cm .eq (.v 0) (.k (0))) = true := (show BE.ev [(lw3t_at0 x1)] (.cm .eq (.v 0) (.k (0))) = lw3t_c9 x0 x1 x2 f0 f1 f2 f3 by kernel_rfl).trans h1
            have ha := orT ha hx
            exact rgB ha
          have r9 : Rg.has (0, 0) (lw3t_at0 x2) := by
            have hr : InR [(0, 0), (0, 0), (-100, 100)] [(lw3t_at0 x0), (lw3t_at0 x1), (lw3t_at0 x2)] := ⟨r7, ⟨r8, ⟨lw3t_rg9 x0 x1 x2 f0 f1 f2 f3 hpre, trivial⟩⟩⟩
            have ha := BE.all_ok hr lw3t_q36 (by kernel_rfl)
            have hx : BE.ev [(lw3t_at0 x0), (lw3t_at0 x1), (lw3t_at0 x2)] lw3t_q33 = false := (show BE.ev [(lw3t_at0 x0), (lw3t_at0 x1), (lw3t_at0 x2)] lw3t_q33 = lw3t_c12 x0 x1 x2 f0 f1 f2 f3 by kernel_rfl).trans h12
            have ha := orT ha (notF hx)
            exact rgB ha
          have hr : InR [(0, 0), (0, 0), (0, 0), (-1000, 1000), (-1000, 1000), (-1000, 1000)] [(lw3t_at0 x0), (lw3t_at0 x1), (lw3t_at0 x2), (lw3t_at1 f0), (lw3t_at1 f1), (lw3t_at1 f2)] := ⟨r7, ⟨r8, ⟨r9, ⟨lw3t_rg10 x0 x1 x2 f0 f1 f2 f3 hpre, ⟨lw3t_rg11 x0 x1 x2 f0 f1 f2 f3 hpre, ⟨lw3t_rg12 x0 x1 x2 f0 f1 f2 f3 hpre, trivial⟩⟩⟩⟩⟩⟩
          have e1 : lw3t_c29 x0 x1 x2 f0 f1 f2 f3 = BE.ev [(lw3t_at0 x0), (lw3t_at0 x1), (lw3t_at0 x2), (lw3t_at1 f0), (lw3t_at1 f1), (lw3t_at1 f2)] (.cm .gt (.wr lw3t_q45) (.k (1073741824))) := by kernel_rfl
          rw [e1]
          exact BE.tri_ok hr (by kernel_rfl) (by kernel_rfl)
        have h31 : (lw3t_c30 x0 x1 x2 f0 f1 f2 f3 = false) := by
          have r7 : Rg.has (0, 0) (lw3t_at0 x0) := by
            have hr : InR [(-100, 100)] [(lw3t_at0 x0)] := ⟨lw3t_rg7 x0 x1 x2 f0 f1 f2 f3 hpre, trivial⟩
            have ha := BE.all_ok hr lw3t_q20 (by kernel_rfl)
            have hx : BE.ev [(lw3t_at0 x0)] (.cm .eq (.v 0) (.k (0))) = true := (show BE.ev [(lw3t_at0 x0)] (.cm .eq (.v 0) (.k (0))) = lw3t_c0 x0 x1 x2 f0 f1 f2 f3 by kernel_rfl).trans h0
            have ha := orT ha hx
            exact rgB ha
          have r8 : Rg.has (0, 0) (lw3t_at0 x1) := by
            have hr : InR [(-100, 100)] [(lw3t_at0 x1)] := ⟨lw3t_rg8 x0 x1 x2 f0 f1 f2 f3 hpre, trivial⟩
            have ha := BE.all_ok hr lw3t_q20 (by kernel_rfl)
            have hx : BE.ev [(lw3t_at0 x1)] (.cm .eq (.v 0) (.k (0))) = true := (show BE.ev [(lw3t_at0 x1)] (.cm .eq (.v 0) (.k (0))) = lw3t_c9 x0 x1 x2 f0 f1 f2 f3 by kernel_rfl).trans h1
            have ha := orT ha hx
            exact rgB ha
          have r9 : Rg.has (0, 0) (lw3t_at0 x2) := by
            have hr : InR [(0, 0), (0, 0), (-100, 100)] [(lw3t_at0 x0), (lw3t_at0 x1), (lw3t_at0 x2)] := ⟨r7, ⟨r8, ⟨lw3t_rg9 x0 x1 x2 f0 f1 f2 f3 hpre, trivial⟩⟩⟩
            have ha := BE.all_ok hr lw3t_q36 (by kernel_rfl)
            have hx : BE.ev [(lw3t_at0 x0), (lw3t_at0 x1), (lw3t_at0 x2)] lw3t_q33 = false := (show BE.ev [(lw3t_at0 x0), (lw3t_at0 x1), (lw3t_at0 x2)] lw3t_q33 = lw3t_c12 x0 x1 x2 f0 f1 f2 f3 by kernel_rfl).trans h12
            have ha := orT ha (notF hx)
            exact rgB ha
          have hr : InR [(0, 0), (0, 0), (0, 0), (-1000, 1000), (-1000, 1000), (-1000, 1000)] [(lw3t_at0 x0), (lw3t_at0 x1), (lw3t_at0 x2), (lw3t_at1 f0), (lw3t_at1 f1), (lw3t_at1 f2)] := ⟨r7, ⟨r8, ⟨r9, ⟨lw3t_rg10 x0 x1 x2 f0 f1 f2 f3 hpre, ⟨lw3t_rg11 x0 x1 x2 f0 f1 f2 f3 hpre, ⟨lw3t_rg12 x0 x1 x2 f0 f1 f2 f3 hpre, trivial⟩⟩⟩⟩⟩⟩
          have e1 : lw3t_c30 x0 x1 x2 f0 f1 f2 f3 = BE.ev [(lw3t_at0 x0), (lw3t_at0 x1), (lw3t_at0 x2), (lw3t_at1 f0), (lw3t_at1 f1), (lw3t_at1 f2)] (.cm .lt (.wr lw3t_q46) (.k (-1073741824))) := by kernel_rfl
          rw [e1]
          exact BE.tri_ok hr (by kernel_rfl) (by kernel_rfl)
        have h32 : (lw3t_c31 x0 x1 x2 f0 f1 f2 f3 = false) := by
          have r7 : Rg.has (0, 0) (lw3t_at0 x0) := by
            have hr : InR [(-100, 100)] [(lw3t_at0 x0)] := ⟨lw3t_rg7 x0 x1 x2 f0 f1 f2 f3 hpre, trivial⟩
            have ha := BE.all_ok hr lw3t_q20 (by kernel_rfl)
            have hx : BE.ev [(lw3t_at0 x0)] (.cm .eq (.v 0) (.k (0))) = true := (show BE.ev [(lw3t_at0 x0)] (.cm .eq (.v 0) (.k (0))) = lw3t_c0 x0 x1 x2 f0 f1 f2 f3 by kernel_rfl).trans h0
            have ha := orT ha hx
            exact rgB ha
          have r8 : Rg.has (0, 0) (lw3t_at0 x1) := by
            have hr : InR [(-100, 100)] [(lw3t_at0 x1)] := ⟨lw3t_rg8 x0 x1 x2 f0 f1 f2 f3 hpre, trivial⟩
            have ha := BE.all_ok hr lw3t_q20 (by kernel_rfl)
            have hx : BE.ev [(lw3t_at0 x1)] (.cm .eq (.v 0) (.k (0))) = true := (show BE.ev [(lw3t_at0 x1)] (.cm .eq (.v 0) (.k (0))) = lw3t_c9 x0 x1 x2 f0 f1 f2 f3 by kernel_rfl).trans h1
            have ha := orT ha hx
            exact rgB ha
          have r9 : Rg.has (0, 0) (lw3t_at0 x2) := by
            have hr : InR [(0, 0), (0, 0), (-100, 100)] [(lw3t_at0 x0), (lw3t_at0 x1), (lw3t_at0 x2)] := ⟨r7, ⟨r8, ⟨lw3t_rg9 x0 x1 x2 f0 f1 f2 f3 hpre, trivial⟩⟩⟩
            have ha := BE.all_ok hr lw3t_q36 (by kernel_rfl)
            have hx : BE.ev [(lw3t_at0 x0), (lw3t_at0 x1), (lw3t_at0 x2)] lw3t_q33 = false := (show BE.ev [(lw3t_at0 x0), (lw3t_at0 x1), (lw3t_at0 x2)] lw3t_q33 = lw3t_c12 x0 x1 x2 f0 f1 f2 f3 by kernel_rfl).trans h12
            have ha := orT ha (notF hx)
            exact rgB ha
          have hr : InR [(0, 0), (0, 0), (0, 0), (-1000, 1000), (-1000, 1000), (-1000, 1000)] [(lw3t_at0 x0), (lw3t_at0 x1), (lw3t_at0 x2), (lw3t_at1 f0), (lw3t_at1 f1), (lw3t_at1 f2)] := ⟨r7, ⟨r8, ⟨r9, ⟨lw3t_rg10 x0 x1 x2 f0 f1 f2 f3 hpre, ⟨lw3t_rg11 x0 x1 x2 f0 f1 f2 f3 hpre, ⟨lw3t_rg12 x0 x1 x2 f0 f1 f2 f3 hpre, trivial⟩⟩⟩⟩⟩⟩
          have e1 : lw3t_c31 x0 x1 x2 f0 f1 f2 f3 = BE.ev [(lw3t_at0 x0), (lw3t_at0 x1), (lw3t_at0 x2), (lw3t_at1 f0), (lw3t_at1 f1), (lw3t_at1 f2)] (.cm .gt (.wr lw3t_q46) (.k (1073741824))) := by kernel_rfl
          rw [e1]
          exact BE.tri_ok hr (by kernel_rfl) (by kernel_rfl)
        have h33 : (lw3t_c32 x0 x1 x2 f0 f1 f2 f3 = false) := by
          have r7 : Rg.has (0, 0) (lw3t_at0 x0) := by
            have hr : InR [(-100, 100)] [(lw3t_at0 x0)] := ⟨lw3t_rg7 x0 x1 x2 f0 f1 f2 f3 hpre, trivial⟩
            have ha := BE.all_ok hr lw3t_q20 (by kernel_rfl)
            have hx : BE.ev [(lw3t_at0 x0)] (.cm .eq (.v 0) (.k (0))) = true := (show BE.ev [(lw3t_at0 x0)] (.cm .eq (.v 0) (.k (0))) = lw3t_c0 x0 x1 x2 f0 f1 f2 f3 by kernel_rfl).trans h0
            have ha := orT ha hx
            exact rgB ha
          have r8 : Rg.has (0, 0) (lw3t_at0 x1) := by
            have hr : InR [(-100, 100)] [(lw3t_at0 x1)] := ⟨lw3t_rg8 x0 x1 x2 f0 f1 f2 f3 hpre, trivial⟩
            have ha := BE.all_ok hr lw3t_q20 (by kernel_rfl)
            have hx : BE.ev [(lw3t_at0 x1)] (.cm .eq (.v 0) (.k (0))) = true := (show BE.ev [(lw3t_at0 x1)] (.cm .eq (.v 0) (.k (0))) = lw3t_c9 x0 x1 x2 f0 f1 f2 f3 by kernel_rfl).trans h1
            have ha := orT ha hx
            exact rgB ha
          have r9 : Rg.has (0, 0) (lw3t_at0 x2) := by
            have hr : InR [(0, 0), (0, 0), (-100, 100)] [(lw3t_at0 x0), (lw3t_at0 x1), (lw3t_at0 x2)] := ⟨r7, ⟨r8, ⟨lw3t_rg9 x0 x1 x2 f0 f1 f2 f3 hpre, trivial⟩⟩⟩
            have ha := BE.all_ok hr lw3t_q36 (by kernel_rfl)
            have hx : BE.ev [(lw3t_at0 x0), (lw3t_at0 x1), (lw3t_at0 x2)] lw3t_q33 = false := (show BE.ev [(lw3t_at0 x0), (lw3t_at0 x1), (lw3t_at0 x2)] lw3t_q33 = lw3t_c12 x0 x1 x2 f0 f1 f2 f3 by kernel_rfl).trans h12
            have ha := orT ha (notF hx)
            exact rgB ha
          have hr : InR [(0, 0), (0, 0), (0, 0), (-1000, 1000), (-1000, 1000), (-1000, 1000)] [(lw3t_at0 x0), (lw3t_at0 x1), (lw3t_at0 x2), (lw3t_at1 f0), (lw3t_at1 f1), (lw3t_at1 f2)] := ⟨r7, ⟨r8, ⟨r9, ⟨lw3t_rg10 x0 x1 x2 f0 f1 f2 f3 hpre, ⟨lw3t_rg11 x0 x1 x2 f0 f1 f2 f3 hpre, ⟨lw3t_rg12 x0 x1 x2 f0 f1 f2 f3 hpre, trivial⟩⟩⟩⟩⟩⟩
          have e1 : lw3t_c32 x0 x1 x2 f0 f1 f2 f3 = BE.ev [(lw3t_at0 x0), (lw3t_at0 x1), (lw3t_at0 x2), (lw3t_at1 f0), (lw3t_at1 f1), (lw3t_at1 f2)] (.cm .lt (.wr lw3t_q47) (.k (-1073741824))) := by kernel_rfl
          rw [e1]
          exact BE.tri_ok hr (by kernel_rfl) (by kernel_rfl)
        have h34 : (lw3t_c33 x0 x1 x2 f0 f1 f2 f3 = false) := by
          have r7 : Rg.has (0, 0) (lw3t_at0 x0) := by
            have hr : InR [(-100, 100)] [(lw3t_at0 x0)] := ⟨lw3t_rg7 x0 x1 x2 f0 f1 f2 f3 hpre, trivial⟩
            have ha := BE.all_ok hr lw3t_q20 (by kernel_rfl)
            have hx : BE.ev [(lw3t_at0 x0)] (.cm .eq (.v 0) (.k (0))) = true := (show BE.ev [(lw3t_at0 x0)] (.cm .eq (.v 0) (.k (0))) = lw3t_c0 x0 x1 x2 f0 f1 f2 f3 by kernel_rfl).trans h0
            have ha := orT ha hx
            exact rgB ha
          have r8 : Rg.has (0, 0) (lw3t_at0 x1) := by
            have hr : InR [(-100, 100)] [(lw3t_at0 x1)] := ⟨lw3t_rg8 x0 x1 x2 f0 f1 f2 f3 hpre, trivial⟩
            have ha := BE.all_ok hr lw3t_q20 (by kernel_rfl)
            have hx : BE.ev [(lw3t_at0 x1)] (.cm .eq (.v 0) (.k (0))) = true := (show BE.ev [(lw3t_at0 x1)] (.cm .eq (.v 0) (.k (0))) = lw3t_c9 x0 x1 x2 f0 f1 f2 f3 by kernel_rfl).trans h1
            have ha := orT ha hx
            exact rgB ha
          have r9 : Rg.has (0, 0) (lw3t_at0 x2) := by
            have hr : InR [(0, 0), (0, 0), (-100, 100)] [(lw3t_at0 x0), (lw3t_at0 x1), (lw3t_at0 x2)] := ⟨r7, ⟨r8, ⟨lw3t_rg9 x0 x1 x2 f0 f1 f2 f3 hpre, trivial⟩⟩⟩
            have ha := BE.all_ok hr lw3t_q36 (by kernel_rfl)
            have hx : BE.ev [(lw3t_at0 x0), (lw3t_at0 x1), (lw3t_at0 x2)] lw3t_q33 = false := (show BE.ev [(lw3t_at0 x0), (lw3t_at0 x1), (lw3t_at0 x2)] lw3t_q33 = lw3t_c12 x0 x1 x2 f0 f1 f2 f3 by kernel_rfl).trans h12
            have ha := orT ha (notF hx)
            exact rgB ha
          have hr : InR [(0, 0), (0, 0), (0, 0), (-1000, 1000), (-1000, 1000), (-1000, 1000)] [(lw3t_at0 x0), (lw3t_at0 x1), (lw3t_at0 x2), (lw3t_at1 f0), (lw3t_at1 f1), (lw3t_at1 f2)] := ⟨r7, ⟨r8, ⟨r9, ⟨lw3t_rg10 x0 x1 x2 f0 f1 f2 f3 hpre, ⟨lw3t_rg11 x0 x1 x2 f0 f1 f2 f3 hpre, ⟨lw3t_rg12 x0 x1 x2 f0 f1 f2 f3 hpre, trivial⟩⟩⟩⟩⟩⟩
          have e1 : lw3t_c33 x0 x1 x2 f0 f1 f2 f3 = BE.ev [(lw3t_at0 x0), (lw3t_at0 x1), (lw3t_at0 x2), (lw3t_at1 f0), (lw3t_at1 f1), (lw3t_at1 f2)] (.cm .gt (.wr lw3t_q47) (.k (1073741824))) := by kernel_rfl
          rw [e1]
          exact BE.tri_ok hr (by kernel_rfl) (by kernel_rfl)
        have h35 : (lw3t_c34 x0 x1 x2 f0 f1 f2 f3 = false) := by
          have r7 : Rg.has (0, 0) (lw3t_at0 x0) := by
            have hr : InR [(-100, 100)] [(lw3t_at0 x0)] := ⟨lw3t_rg7 x0 x1 x2 f0 f1 f2 f3 hpre, trivial⟩
            have ha := BE.all_ok hr lw3t_q20 (by kernel_rfl)
            have hx : BE.ev [(lw3t_at0 x0)] (.cm .eq (.v 0) (.k (0))) = true := (show BE.ev [(lw3t_at0 x0)] (.cm .eq (.v 0) (.k (0))) = lw3t_c0 x0 x1 x2 f0 f1 f2 f3 by kernel_rfl).trans h0
            have ha := orT ha hx
            exact rgB ha
          have r8 : Rg.has (0, 0) (lw3t_at0 x1) := by
            have hr : InR [(-100, 100)] [(lw3t_at0 x1)] := ⟨lw3t_rg8 x0 x1 x2 f0 f1 f2 f3 hpre, trivial⟩
            have ha := BE.all_ok hr lw3t_q20 (by kernel_rfl)
            have hx : BE.ev [(lw3t_at0 x1)] (.cm .eq (.v 0) (.k (0))) = true := (show BE.ev [(lw3t_at0 x1)] (.cm .eq (.v 0) (.k (0))) = lw3t_c9 x0 x1 x2 f0 f1 f2 f3 by kernel_rfl).trans h1
            have ha := orT ha hx
            exact rgB ha
          have r9 : Rg.has (0, 0) (lw3t_at0 x2) := by
            have hr : InR [(0, 0), (0, 0), (-100, 100)] [(lw3t_at0 x0), (lw3t_at0 x1), (lw3t_at0 x2)] := ⟨r7, ⟨r8, ⟨lw3t_rg9 x0 x1 x2 f0 f1 f2 f3 hpre, trivial⟩⟩⟩
            have ha := BE.all_ok hr lw3t_q36 (by kernel_rfl)
            have hx : BE.ev [(lw3t_at0 x0), (lw3t_at0 x1), (lw3t_at0 x2)] lw3t_q33 = false := (show BE.ev [(lw3t_at0 x0), (lw3t_at0 x1), (lw3t_at0 x2)] lw3t_q33 = lw3t_c12 x0 x1 x2 f0 f1 f2 f3 by kernel_rfl).trans h12
            have ha := orT ha (notF hx)
            exact rgB ha
          have hr : InR [(0, 0), (0, 0), (0, 0), (-1000, 1000), (-1000, 1000), (-1000, 1000)] [(lw3t_at0 x0), (lw3t_at0 x1), (lw3t_at0 x2), (lw3t_at1 f0), (lw3t_at1 f1), (lw3t_at1 f2)] := ⟨r7, ⟨r8, ⟨r9, ⟨lw3t_rg10 x0 x1 x2 f0 f1 f2 f3 hpre, ⟨lw3t_rg11 x0 x1 x2 f0 f1 f2 f3 hpre, ⟨lw3t_rg12 x0 x1 x2 f0 f1 f2 f3 hpre, trivial⟩⟩⟩⟩⟩⟩
          have e1 : lw3t_c34 x0 x1 x2 f0 f1 f2 f3 = BE.ev [(lw3t_at0 x0), (lw3t_at0 x1), (lw3t_at0 x2), (lw3t_at1 f0), (lw3t_at1 f1), (lw3t_at1 f2)] (.cm .ne lw3t_q41 (.k (0))) := by kernel_rfl
          rw [e1]
          exact BE.tri_ok hr (by kernel_rfl) (by kernel_rfl)
        have h36 : (lw3t_c35 x0 x1 x2 f0 f1 f2 f3 = false) := by
          have r7 : Rg.has (0, 0) (lw3t_at0 x0) := by
            have hr : InR [(-100, 100)] [(lw3t_at0 x0)] := ⟨lw3t_rg7 x0 x1 x2 f0 f1 f2 f3 hpre, trivial⟩
            have ha := BE.all_ok hr lw3t_q20 (by kernel_rfl)
            have hx : BE.ev [(lw3t_at0 x0)] (.cm .eq (.v 0) (.k (0))) = true := (show BE.ev [(lw3t_at0 x0)] (.cm .eq (.v 0) (.k (0))) = lw3t_c0 x0 x1 x2 f0 f1 f2 f3 by kernel_rfl).trans h0
            have ha := orT ha hx
            exact rgB ha
          have r8 : Rg.has (0, 0) (lw3t_at0 x1) := by
            have hr : InR [(-100, 100)] [(lw3t_at0 x1)] := ⟨lw3t_rg8 x0 x1 x2 f0 f1 f2 f3 hpre, trivial⟩
            have ha := BE.all_ok hr lw3t_q20 (by kernel_rfl)
            have hx : BE.ev [(lw3t_at0 x1)] (.cm .eq (.v 0) (.k (0))) = true := (show BE.ev [(lw3t_at0 x1)] (.cm .eq (.v 0) (.k (0))) = lw3t_c9 x0 x1 x2 f0 f1 f2 f3 by kernel_rfl).trans h1
            have ha := orT ha hx
            exact rgB ha
          have r9 : Rg.has (0, 0) (lw3t_at0 x2) := by
            have hr : InR [(0, 0), (0, 0), (-100, 100)] [(lw3t_at0 x0), (lw3t_at0 x1), (lw3t_at0 x2)] := ⟨r7, ⟨r8, ⟨lw3t_rg9 x0 x1 x2 f0 f1 f2 f3 hpre, trivial⟩⟩⟩
            have ha := BE.all_ok hr lw3t_q36 (by kernel_rfl)
            have hx : BE.ev [(lw3t_at0 x0), (lw3t_at0 x1), (lw3t_at0 x2)] lw3t_q33 = false := (show BE.ev [(lw3t_at0 x0), (lw3t_at0 x1), (lw3t_at0 x2)] lw3t_q33 = lw3t_c12 x0 x1 x2 f0 f1 f2 f3 by kernel_rfl).trans h12
            have ha := orT ha (notF hx)
            exact rgB ha
          have hr : InR [(0, 0), (0, 0), (0, 0), (-1000, 1000), (-1000, 1000), (-1000, 1000)] [(lw3t_at0 x0), (lw3t_at0 x1), (lw3t_at0 x2), (lw3t_at1 f0), (lw3t_at1 f1), (lw3t_at1 f2)] := ⟨r7, ⟨r8, ⟨r9, ⟨lw3t_rg10 x0 x1 x2 f0 f1 f2 f3 hpre, ⟨lw3t_rg11 x0 x1 x2 f0 f1 f2 f3 hpre, ⟨lw3t_rg12 x0 x1 x2 f0 f1 f2 f3 hpre, trivial⟩⟩⟩⟩⟩⟩
          have e1 : lw3t_c35 x0 x1 x2 f0 f1 f2 f3 = BE.ev [(lw3t_at0 x0), (lw3t_at0 x1), (lw3t_at0 x2), (lw3t_at1 f0), (lw3t_at1 f1), (lw3t_at1 f2)] (.cm .ne lw3t_q43 (.k (0))) := by kernel_rfl
          rw [e1]
          exact BE.tri_ok hr (by kernel_rfl) (by kernel_rfl)
        have h37 : (lw3t_c36 x0 x1 x2 f0 f1 f2 f3 = false) := by
          have r7 : Rg.has (0, 0) (lw3t_at0 x0) := by
            have hr : InR [(-100, 100)] [(lw3t_at0 x0)] := ⟨lw3t_rg7 x0 x1 x2 f0 f1 f2 f3 hpre, trivial⟩
            have ha := BE.all_ok hr lw3t_q20 (by kernel_rfl)
            have hx : BE.ev [(lw3t_at0 x0)] (.cm .eq (.v 0) (.k (0))) = true := (show BE.ev [(lw3t_at0 x0)] (.cm .eq (.v 0) (.k (0))) = lw3t_c0 x0 x1 x2 f0 f1 f2 f3 by kernel_rfl).trans h0
            have ha := orT ha hx
            exact rgB ha
          have r8 : Rg.has (0, 0) (lw3t_at0 x1) := by
            have hr : InR [(-100, 100)] [(lw3t_at0 x1)] := ⟨lw3t_rg8 x0 x1 x2 f0 f1 f2 f3 hpre, trivial⟩
            have ha := BE.all_ok hr lw3t_q20 (by kernel_rfl)
            have hx : BE.ev [(lw3t_at0 x1)] (.cm .eq (.v 0) (.k (0))) = true := (show BE.ev [(lw3t_at0 x1)] (.cm .eq (.v 0) (.k (0))) = lw3t_c9 x0 x1 x2 f0 f1 f2 f3 by kernel_rfl).trans h1
            have ha := orT ha hx
            exact rgB ha
          have r9 : Rg.has (0, 0) (lw3t_at0 x2) := by
            have hr : InR [(0, 0), (0, 0), (-100, 100)] [(lw3t_at0 x0), (lw3t_at0 x1), (lw3t_at0 x2)] := ⟨r7, ⟨r8, ⟨lw3t_rg9 x0 x1 x2 f0 f1 f2 f3 hpre, trivial⟩⟩⟩
            have ha := BE.all_ok hr lw3t_q36 (by kernel_rfl)
            have hx : BE.ev [(lw3t_at0 x0), (lw3t_at0 x1), (lw3t_at0 x2)] lw3t_q33 = false := (show BE.ev [(lw3t_at0 x0), (lw3t_at0 x1), (lw3t_at0 x2)] lw3t_q33 = lw3t_c12 x0 x1 x2 f0 f1 f2 f3 by kernel_rfl).trans h12
            have ha := orT ha (notF hx)
            exact rgB ha
          have hr : InR [(0, 0), (0, 0), (0, 0), (-1000, 1000), (-1000, 1000), (-1000, 1000)] [(lw3t_at0 x0), (lw3t_at0 x1), (lw3t_at0 x2), (lw3t_at1 f0), (lw3t_at1 f1), (lw3t_at1 f2)] := ⟨r7, ⟨r8, ⟨r9, ⟨lw3t_rg10 x0 x1 x2 f0 f1 f2 f3 hpre, ⟨lw3t_rg11 x0 x1 x2 f0 f1 f2 f3 hpre, ⟨lw3t_rg12 x0 x1 x2 f0 f1 f2 f3 hpre, trivial⟩⟩⟩⟩⟩⟩
          have e1 : lw3t_c36 x0 x1 x2 f0 f1 f2 f3 = BE.ev [(lw3t_at0 x0), (lw3t_at0 x1), (lw3t_at0 x2), (lw3t_at1 f0), (lw3t_at1 f1), (lw3t_at1 f2)] (.cm .ne (.wr lw3t_q44) (.k (0))) := by kernel_rfl
          rw [e1]
          exact BE.tri_ok hr (by kernel_rfl) (by kernel_rfl)
        have h38 : (lw3t_c37 x0 x1 x2 f0 f1 f2 f3 = false) := by
          have r7 : Rg.has (0, 0) (lw3t_at0 x0) := by
            have hr : InR [(-100, 100)] [(lw3t_at0 x0)] := ⟨lw3t_rg7 x0 x1 x2 f0 f1 f2 f3 hpre, trivial⟩
            have ha := BE.all_ok hr lw3t_q20 (by kernel_rfl)
            have hx : BE.ev [(lw3t_at0 x0)] (.cm .eq (.v 0) (.k (0))) = true := (show BE.ev [(lw3t_at0 x0)] (.cm .eq (.v 0) (.k (0))) = lw3t_c0 x0 x1 x2 f0 f1 f2 f3 by kernel_rfl).trans h0
            have ha := orT ha hx
            exact rgB ha
          have r8 : Rg.has (0, 0) (lw3t_at0 x1) := by
            have hr : InR [(-100, 100)] [(lw3t_at0 x1)] := ⟨lw3t_rg8 x0 x1 x2 f0 f1 f2 f3 hpre, trivial⟩
            have ha := BE.all_ok hr lw3t_q20 (by kernel_rfl)
            have hx : BE.ev [(lw3t_at0 x1)] (.cm .eq (.v 0) (.k (0))) = true := (show BE.ev [(lw3t_at0 x1)] (.cm .eq (.v 0) (.k (0))) = lw3t_c9 x0 x1 x2 f0 f1 f2 f3 by kernel_rfl).trans h1
            have ha := orT ha hx
            exact rgB ha
          have r9 : Rg.has (0, 0) (lw3t_at0 x2) := by
            have hr : InR [(0, 0), (0, 0), (-100, 100)] [(lw3t_at0 x0), (lw3t_at0 x1), (lw3t_at0 x2)] := ⟨r7, ⟨r8, ⟨lw3t_rg9 x0 x1 x2 f0 f1 f2 f3 hpre, trivial⟩⟩⟩
            have ha := BE.all_ok hr lw3t_q36 (by kernel_rfl)
            have hx : BE.ev [(lw3t_at0 x0), (lw3t_at0 x1), (lw3t_at0 x2)] lw3t_q33 = false := (show BE.ev [(lw3t_at0 x0), (lw3t_at0 x1), (lw3t_at0 x2)] lw3t_q33 = lw3t_c12 x0 x1 x2 f0 f1 f2 f3 by kernel_rfl).trans h12
            have ha := orT ha (notF hx)
            exact rgB ha
          have hr : InR [(0, 0), (0, 0), (0, 0), (-1000, 1000), (-1000, 1000), (-1000, 1000)] [(lw3t_at0 x0), (lw3t_at0 x1), (lw3t_at0 x2), (lw3t_at1 f0), (lw3t_at1 f1), (lw3t_at1 f2)] := ⟨r7, ⟨r8, ⟨r9, ⟨lw3t_rg10 x0 x1 x2 f0 f1 f2 f3 hpre, ⟨lw3t_rg11 x0 x1 x2 f0 f1 f2 f3 hpre, ⟨lw3t_rg12 x0 x1 x2 f0 f1 f2 f3 hpre, trivial⟩⟩⟩⟩⟩⟩
          have e1 : lw3t_c37 x0 x1 x2 f0 f1 f2 f3 = BE.ev [(lw3t_at0 x0), (lw3t_at0 x1), (lw3t_at0 x2), (lw3t_at1 f0), (lw3t_at1 f1), (lw3t_at1 f2)] (.cm .ne (.wr lw3t_q45) (.k (0))) := by kernel_rfl
          rw [e1]
          exact BE.tri_ok hr (by kernel_rfl) (by kernel_rfl)
        have h39 : (lw3t_c38 x0 x1 x2 f0 f1 f2 f3 = false) := by
          have r7 : Rg.has (0, 0) (lw3t_at0 x0) := by
            have hr : InR [(-100, 100)] [(lw3t_at0 x0)] := ⟨lw3t_rg7 x0 x1 x2 f0 f1 f2 f3 hpre, trivial⟩
            have ha := BE.all_ok hr lw3t_q20 (by kernel_rfl)
            have hx : BE.ev [(lw3t_at0 x0)] (.cm .eq (.v 0) (.k (0))) = true := (show BE.ev [(lw3t_at0 x0)] (.cm .eq (.v 0) (.k (0))) = lw3t_c0 x0 x1 x2 f0 f1 f2 f3 by kernel_rfl).trans h0
            have ha := orT ha hx
            exact rgB ha
          have r8 : Rg.has (0, 0) (lw3t_at0 x1) := by
            have hr : InR [(-100, 100)] [(lw3t_at0 x1)] := ⟨lw3t_rg8 x0 x1 x2 f0 f1 f2 f3 hpre, trivial⟩
            have ha := BE.all_ok hr lw3t_q20 (by kernel_rfl)
            have hx : BE.ev [(lw3t_at0 x1)] (.cm .eq (.v 0) (.k (0))) = true := (show BE.ev [(lw3t_at0 x1)] (.cm .eq (.v 0) (.k (0))) = lw3t_c9 x0 x1 x2 f0 f1 f2 f3 by kernel_rfl).trans h1
            have ha := orT ha hx
            exact rgB ha
          have r9 : Rg.has (0, 0) (lw3t_at0 x2) := by
            have hr : InR [(0, 0), (0, 0), (-100, 100)] [(lw3t_at0 x0), (lw3t_at0 x1), (lw3t_at0 x2)] := ⟨r7, ⟨r8, ⟨lw3t_rg9 x0 x1 x2 f0 f1 f2 f3 hpre, trivial⟩⟩⟩
            have ha := BE.all_ok hr lw3t_q36 (by kernel_rfl)
            have hx : BE.ev [(lw3t_at0 x0), (lw3t_at0 x1), (lw3t_at0 x2)] lw3t_q33 = false := (show BE.ev [(lw3t_at0 x0), (lw3t_at0 x1), (lw3t_at0 x2)] lw3t_q33 = lw3t_c12 x0 x1 x2 f0 f1 f2 f3 by kernel_rfl).trans h12
            have ha := orT ha (notF hx)
            exact rgB ha
          have hr : InR [(0, 0), (0, 0), (0, 0), (-1000, 1000), (-1000, 1000), (-1000, 1000)] [(lw3t_at0 x0), (lw3t_at0 x1), (lw3t_at0 x2), (lw3t_at1 f0), (lw3t_at1 f1), (lw3t_at1 f2)] := ⟨r7, ⟨r8, ⟨r9, ⟨lw3t_rg10 x0 x1 x2 f0 f1 f2 f3 hpre, ⟨lw3t_rg11 x0 x1 x2 f0 f1 f2 f3 hpre, ⟨lw3t_rg12 x0 x1 x2 f0 f1 f2 f3 hpre, trivial⟩⟩⟩⟩⟩⟩
          have e1 : lw3t_c38 x0 x1 x2 f0 f1 f2 f3 = BE.ev [(lw3t_at0 x0), (lw3t_at0 x1), (lw3t_at0 x2), (lw3t_at1 f0), (lw3t_at1 f1), (lw3t_at1 f2)] (.cm .ne (.wr lw3t_q46) (.k (0))) := by kernel_rfl
          rw [e1]
          exact BE.tri_ok hr (by kernel_rfl) (by kernel_rfl)
        have h40 : (lw3t_c39 x0 x1 x2 f0 f1 f2 f3 = false) := by
          have r7 : Rg.has (0, 0) (lw3t_at0 x0) := by
            have hr : InR [(-100, 100)] [(lw3t_at0 x0)] := ⟨lw3t_rg7 x0 x1 x2 f0 f1 f2 f3 hpre, trivial⟩
            have ha := BE.all_ok hr lw3t_q20 (by kernel_rfl)
            have hx : BE.ev [(lw3t_at0 x0)] (.cm .eq (.v 0) (.k (0))) = true := (show BE.ev [(lw3t_at0 x0)] (.cm .eq (.v 0) (.k (0))) = lw3t_c0 x0 x1 x2 f0 f1 f2 f3 by kernel_rfl).trans h0
            have ha := orT ha hx
            exact rgB ha
          have r8 : Rg.has (0, 0) (lw3t_at0 x1) := by
            have hr : InR [(-100, 100)] [(lw3t_at0 x1)] := ⟨lw3t_rg8 x0 x1 x2 f0 f1 f2 f3 hpre, trivial⟩
            have ha := BE.all_ok hr lw3t_q20 (by kernel_rfl)
            have hx : BE.ev [(lw3t_at0 x1)] (.cm .eq (.v 0) (.k (0))) = true := (show BE.ev [(lw3t_at0 x1)] (.cm .eq (.v 0) (.k (0))) = lw3t_c9 x0 x1 x2 f0 f1 f2 f3 by kernel_rfl).trans h1
            have ha := orT ha hx
            exact rgB ha
          have r9 : Rg.has (0, 0) (lw3t_at0 x2) := by
            have hr : InR [(0, 0), (0, 0), (-100, 100)] [(lw3t_at0 x0), (lw3t_at0 x1), (lw3t_at0 x2)] := ⟨r7, ⟨r8, ⟨lw3t_rg9 x0 x1 x2 f0 f1 f2 f3 hpre, trivial⟩⟩⟩
            have ha := BE.all_ok hr lw3t_q36 (by kernel_rfl)
            have hx : BE.ev [(lw3t_at0 x0), (lw3t_at0 x1), (lw3t_at0 x2)] lw3t_q33 = false := (show BE.ev [(lw3t_at0 x0), (lw3t_at0 x1), (lw3t_at0 x2)] lw3t_q33 = lw3t_c12 x0 x1 x2 f0 f1 f2 f3 by kernel_rfl).trans h12
            have ha := orT ha (notF hx)
            exact rgB ha
          have hr : InR [(0, 0), (0, 0), (0, 0), (-1000, 1000), (-1000, 1000), (-1000, 1000)] [(lw3t_at0 x0), (lw3t_at0 x1), (lw3t_at0 x2), (lw3t_at1 f0), (lw3t_at1 f1), (lw3t_at1 f2)] := ⟨r7, ⟨r8, ⟨r9, ⟨lw3t_rg10 x0 x1 x2 f0 f1 f2 f3 hpre, ⟨lw3t_rg11 x0 x1 x2 f0 f1 f2 f3 hpre, ⟨lw3t_rg12 x0 x1 x2 f0 f1 f2 f3 hpre, trivial⟩⟩⟩⟩⟩⟩
          have e1 : lw3t_c39 x0 x1 x2 f0 f1 f2 f3 = BE.ev [(lw3t_at0 x0), (lw3t_at0 x1), (lw3t_at0 x2), (lw3t_at1 f0), (lw3t_at1 f1), (lw3t_at1 f2)] (.cm .ne (.wr lw3t_q47) (.k (0))) := by kernel_rfl
          rw [e1]
          exact BE.tri_ok hr (by kernel_rfl) (by kernel_rfl)
        exact lw3t_p3 x0 x1 x2 f0 f1 f2 f3 c (lw3t_z14_h (lw3t_z12_h (lw3t_z8_h (lw3t_z11_h (lw3t_z6_h (lw3t_z2_h (lw3t_z10_h (lw3t_z4_h (lw3t_z0_h trivial x0 x1 x2 f0 f1 f2 f3 hpre) x0 x1 x2 f0 f1 f2 f3 hpre h0) x0 x1 x2 f0 f1 f2 f3 hpre h1) x0 x1 x2 f0 f1 f2 f3 hpre) x0 x1 x2 f0 f1 f2 f3 hpre h8) x0 x1 x2 f0 f1 f2 f3 hpre h9) x0 x1 x2 f0 f1 f2 f3 hpre h10) x0 x1 x2 f0 f1 f2 f3 hpre h11) x0 x1 x2 f0 f1 f2 f3 hpre h12 h15 h16 h27 h28 h29 h30 h31 h32 h33 h34 h35 h36 h37 h38 h39 h40)
    ·
      have h41 : (lw3t_c1 x0 x1 x2 f0 f1 f2 f3 = false) := lw3t_c1_ff x0 x1 x2 f0 f1 f2 f3 hpre
      have h42 : (lw3t_c2 x0 x1 x2 f0 f1 f2 f3 = false) := lw3t_c2_ff x0 x1 x2 f0 f1 f2 f3 hpre
      have h43 : (lw3t_c3 x0 x1 x2 f0 f1 f2 f3 = false) := lw3t_c3_ff x0 x1 x2 f0 f1 f2 f3 hpre
      have h44 : (lw3t_c4 x0 x1 x2 f0 f1 f2 f3 = false) := lw3t_c4_ff x0 x1 x2 f0 f1 f2 f3 hpre
      have h45 : (lw3t_c5 x0 x1 x2 f0 f1 f2 f3 = false) := lw3t_c5_ff x0 x1 x2 f0 f1 f2 f3 hpre
      have h46 : (lw3t_c6 x0 x1 x2 f0 f1 f2 f3 = false) := lw3t_c6_ff x0 x1 x2 f0 f1 f2 f3 hpre
      have h47 : (lw3t_c7 x0 x1 x2 f0 f1 f2 f3 = true) := by
        have r7 : Rg.has (0, 0) (lw3t_at0 x0) := by
          have hr : InR [(-100, 100)] [(lw3t_at0 x0)] := ⟨lw3t_rg7 x0 x1 x2 f0 f1 f2 f3 hpre, trivial⟩
          have ha := BE.all_ok hr lw3t_q20 (by kernel_rfl)
          have hx : BE.ev [(lw3t_at0 x0)] (.cm .eq (.v 0) (.k (0))) = true := (show BE.ev [(lw3t_at0 x0)] (.cm .eq (.v 0) (.k (0))) = lw3t_c0 x0 x1 x2 f0 f1 f2 f3 by kernel_rfl).trans h0
          have ha := orT ha hx
          exact rgB ha
        have hr : InR [(0, 0)] [(lw3t_at0 x0)] := ⟨r7, trivial⟩
        have e1 : lw3t_c7 x0 x1 x2 f0 f1 f2 f3 = BE.ev [(lw3t_at0 x0)] lw3t_q21 := by kernel_rfl
        rw [e1]
        exact BE.tri_ok hr (by kernel_rfl) (by kernel_rfl)
      have h48 : (lw3t_c10 x0 x1 x2 f0 f1 f2 f3 = false) := by
        have r7 : Rg.has (0, 0) (lw3t_at0 x0) := by
          have hr : InR [(-100, 100)] [(lw3t_at0 x0)] := ⟨lw3t_rg7 x0 x1 x2 f0 f1 f2 f3 hpre, trivial⟩
          have ha := BE.all_ok hr lw3t_q20 (by kernel_rfl)
          have hx : BE.ev [(lw3t_at0 x0)] (.cm .eq (.v 0) (.k (0))) = true := (show BE.ev [(lw3t_at0 x0)] (.cm .eq (.v 0) (.k (0))) = lw3t_c0 x0 x1 x2 f0 f1 f2 f3 by kernel_rfl).trans h0
          have ha := orT ha hx
          exact rgB ha
        have hr : InR [(0, 0), (-100, 100), (-100, 100)] [(lw3t_at0 x0), (lw3t_at0 x1), (lw3t_at0 x2)] := ⟨r7, ⟨lw3t_rg8 x0 x1 x2 f0 f1 f2 f3 hpre, ⟨lw3t_rg9 x0 x1 x2 f0 f1 f2 f3 hpre, trivial⟩⟩⟩
        have hr2 : InR [(-100, 100)] [(lw3t_at0 x1)] := ⟨lw3t_rg8 x0 x1 x2 f0 f1 f2 f3 hpre, trivial⟩
        have ha := BE.all_ok hr2 (.or (.cm .eq (.v 0) (.k (0))) (.not (.not (.cm .ge lw3t_q48 (.k (1)))))) (by kernel_rfl)
        have hx : BE.ev [(lw3t_at0 x1)] (.cm .eq (.v 0) (.k (0))) = false := (show BE.ev [(lw3t_at0 x1)] (.cm .eq (.v 0) (.k (0))) = BE.ev [(lw3t_at0 x0), (lw3t_at0 x1), (lw3t_at0 x2)] (.cm .eq (.v 1) (.k (0))) by kernel_rfl).trans ((BE.smp_to hr (.cm .eq (.v 1) (.k (0))) (.cm .eq (.v 1) (.k (0))) (by kernel_rfl) (by kernel_rfl)).symm.trans ((show BE.ev [(lw3t_at0 x0), (lw3t_at0 x1), (lw3t_at0 x2)] (.cm .eq (.v 1) (.k (0))) = lw3t_c9 x0 x1 x2 f0 f1 f2 f3 by kernel_rfl).trans h1))
        have ha := orF ha hx
        exact (show lw3t_c10 x0 x1 x2 f0 f1 f2 f3 = BE.ev [(lw3t_at0 x0), (lw3t_at0 x1), (lw3t_at0 x2)] (.not lw3t_q24) by kernel_rfl).trans ((BE.smp_to hr (.not lw3t_q24) (.not (.cm .ge lw3t_q49 (.k (1)))) (by kernel_rfl) (by kernel_rfl)).trans ((show BE.ev [(lw3t_at0 x0), (lw3t_at0 x1), (lw3t_at0 x2)] (.not (.cm .ge lw3t_q49 (.k (1)))) = BE.ev [(lw3t_at0 x1)] (.not (.cm .ge lw3t_q48 (.k (1)))) by kernel_rfl).trans (notT ha)))
      have h49 : (lw3t_c8 x0 x1 x2 f0 f1 f2 f3 = false) := by
        have hz := (show lw3t_c7 x0 x1 x2 f0 f1 f2 f3 = Bool.not (lw3t_c8 x0 x1 x2 f0 f1 f2 f3) by kernel_rfl).symm.trans h47
        generalize lw3t_c8 x0 x1 x2 f0 f1 f2 f3 = z at hz ⊢
        cases z <;> first | rfl | cases hz
      have h50 : (lw3t_c11 x0 x1 x2 f0 f1 f2 f3 = true) := by
        have hz := (show lw3t_c10 x0 x1 x2 f0 f1 f2 f3 = Bool.not (lw3t_c11 x0 x1 x2 f0 f1 f2 f3) by kernel_rfl).symm.trans h48
        generalize lw3t_c11 x0 x1 x2 f0 f1 f2 f3 = z at hz ⊢
        cases z <;> first | rfl | cases hz
      exact lw3t_p1 x0 x1 x2 f0 f1 f2 f3 c (lw3t_z9_h (lw3t_z8_h (lw3t_z7_h (lw3t_z6_h (lw3t_z2_h (lw3t_z5_h (lw3t_z4_h (lw3t_z0_h trivial x0 x1 x2 f0 f1 f2 f3 hpre) x0 x1 x2 f0 f1 f2 f3 hpre h0) x0 x1 x2 f0 f1 f2 f3 hpre h1) x0 x1 x2 f0 f1 f2 f3 hpre) x0 x1 x2 f0 f1 f2 f3 hpre h47) x0 x1 x2 f0 f1 f2 f3 hpre h48) x0 x1 x2 f0 f1 f2 f3 hpre h49) x0 x1 x2 f0 f1 f2 f3 hpre h50)
  ·
    have h51 : (lw3t_c1 x0 x1 x2 f0 f1 f2 f3 = false) := lw3t_c1_ff x0 x1 x2 f0 f1 f2 f3 hpre
    have h52 : (lw3t_c2 x0 x1 x2 f0 f1 f2 f3 = false) := lw3t_c2_ff x0 x1 x2 f0 f1 f2 f3 hpre
    have h53 : (lw3t_c3 x0 x1 x2 f0 f1 f2 f3 = false) := lw3t_c3_ff x0 x1 x2 f0 f1 f2 f3 hpre
    have h54 : (lw3t_c4 x0 x1 x2 f0 f1 f2 f3 = false) := lw3t_c4_ff x0 x1 x2 f0 f1 f2 f3 hpre
    have h55 : (lw3t_c5 x0 x1 x2 f0 f1 f2 f3 = false) := lw3t_c5_ff x0 x1 x2 f0 f1 f2 f3 hpre
    have h56 : (lw3t_c6 x0 x1 x2 f0 f1 f2 f3 = false) := lw3t_c6_ff x0 x1 x2 f0 f1 f2 f3 hpre
    have h57 : (lw3t_c7 x0 x1 x2 f0 f1 f2 f3 = false) := by
      have hr : InR [(-100, 100)] [(lw3t_at0 x0)] := ⟨lw3t_rg7 x0 x1 x2 f0 f1 f2 f3 hpre, trivial⟩
      have hr2 : InR [(-100, 100)] [(lw3t_at0 x0)] := ⟨lw3t_rg7 x0 x1 x2 f0 f1 f2 f3 hpre, trivial⟩
      have ha := BE.all_ok hr2 (.or (.cm .eq (.v 0) (.k (0))) (.not lw3t_q50)) (by kernel_rfl)
      have hx : BE.ev [(lw3t_at0 x0)] (.cm .eq (.v 0) (.k (0))) = false := (show BE.ev [(lw3t_at0 x0)] (.cm .eq (.v 0) (.k (0))) = BE.ev [(lw3t_at0 x0)] (.cm .eq (.v 0) (.k (0))) by kernel_rfl).trans ((BE.smp_to hr (.cm .eq (.v 0) (.k (0))) (.cm .eq (.v 0) (.k (0))) (by kernel_rfl) (by kernel_rfl)).symm.trans ((show BE.ev [(lw3t_at0 x0)] (.cm .eq (.v 0) (.k (0))) = lw3t_c0 x0 x1 x2 f0 f1 f2 f3 by kernel_rfl).trans h0))
      have ha := orF ha hx
      exact (show lw3t_c7 x0 x1 x2 f0 f1 f2 f3 = BE.ev [(lw3t_at0 x0)] lw3t_q21 by kernel_rfl).trans ((BE.smp_to hr lw3t_q21 lw3t_q50 (by kernel_rfl) (by kernel_rfl)).trans ((show BE.ev [(lw3t_at0 x0)] lw3t_q50 = BE.ev [(lw3t_at0 x0)] lw3t_q50 by kernel_rfl).trans (notT ha)))
    have h58 : (lw3t_c8 x0 x1 x2 f0 f1 f2 f3 = true) := by
      have hz := (show lw3t_c7 x0 x1 x2 f0 f1 f2 f3 = Bool.not (lw3t_c8 x0 x1 x2 f0 f1 f2 f3) by kernel_rfl).symm.trans h57
      generalize lw3t_c8 x0 x1 x2 f0 f1 f2 f3 = z at hz ⊢
      cases z <;> first | rfl | cases hz
    exact lw3t_p0 x0 x1 x2 f0 f1 f2 f3 c (lw3t_z3_h (lw3t_z2_h (lw3t_z1_h (lw3t_z0_h trivial x0 x1 x2 f0 f1 f2 f3 hpre) x0 x1 x2 f0 f1 f2 f3 hpre h0) x0 x1 x2 f0 f1 f2 f3 hpre) x0 x1 x2 f0 f1 f2 f3 hpre h57 h58)
end Go.Proofs.YtencngffhbhifaaGreatDoor
end
