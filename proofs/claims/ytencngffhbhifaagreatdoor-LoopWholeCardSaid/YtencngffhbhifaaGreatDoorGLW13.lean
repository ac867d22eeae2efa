/-
  The contract of bipole.bipolelaw03.LoopWhole.
-/
import Derived.Test.YtencngffhbhifaaGreatDoorGLW2
import Derived.Test.YtencngffhbhifaaGreatDoorGLW11
set_option linter.all false
set_option maxRecDepth 1000000
set_option maxHeartbeats 2000000
open Go.RowKit
namespace Go.Proofs.YtencngffhbhifaaGreatDoor
open Mini
def lw4f_at0 (y : Int) : Int := (Int.tmod (IntKind.i64.wrap y) (101 : Int))
def lw4f_at1 (y : Int) : Int := (Int.tmod (IntKind.i64.wrap y) (1001 : Int))
def lw4f_q0 : IE := .ite .gt (.k (-1)) (.k (1)) (.k (-1)) (.k (1))
def lw4f_q1 : BE := .cm .ge (.ite .gt (.wr (.sub (.k (0)) (.v 8))) (.v 8) (.wr (.sub (.k (0)) (.v 8))) (.v 8)) lw4f_q0
def lw4f_q2 : IE := .wr (.sub (.wr (.mul (.k (1)) (.v 9))) (.wr (.mul (.v 8) (.v 11))))
def lw4f_q3 : IE := .wr (.sub (.k (1)) (.wr (.mul (.v 8) (.v 8))))
def lw4f_q4 : BE := .cm .ge (.ite .gt (.wr (.sub (.k (0)) lw4f_q2)) lw4f_q2 (.wr (.sub (.k (0)) lw4f_q2)) lw4f_q2) (.ite .gt (.wr (.sub (.k (0)) lw4f_q3)) lw4f_q3 (.wr (.sub (.k (0)) lw4f_q3)) lw4f_q3)
def lw4f_q5 : IE := .wr (.sub (.wr (.mul (.k (1)) (.v 10))) (.wr (.mul (.v 8) (.v 10))))
def lw4f_q6 : IE := .wr (.sub (.wr (.mul (.k (1)) (.v 11))) (.wr (.mul (.v 8) (.v 9))))
def lw4f_q7 : IE := .wr (.sub (.wr (.mul lw4f_q3 lw4f_q5)) (.wr (.mul lw4f_q2 lw4f_q6)))
def lw4f_q8 : IE := .wr (.sub (.wr (.mul lw4f_q3 lw4f_q3)) (.wr (.mul lw4f_q2 lw4f_q2)))
def lw4f_q9 : BE := .cm .ge (.ite .gt (.wr (.sub (.k (0)) lw4f_q7)) lw4f_q7 (.wr (.sub (.k (0)) lw4f_q7)) lw4f_q7) (.ite .gt (.wr (.sub (.k (0)) lw4f_q8)) lw4f_q8 (.wr (.sub (.k (0)) lw4f_q8)) lw4f_q8)
def lw4f_q10 : IE := .wr (.sub (.wr (.mul lw4f_q3 lw4f_q6)) (.wr (.mul lw4f_q2 lw4f_q5)))
def lw4f_q11 : IE := .wr (.sub (.wr (.mul lw4f_q8 lw4f_q10)) (.wr (.mul lw4f_q7 lw4f_q10)))
def lw4f_q12 : IE := .wr (.sub (.wr (.mul lw4f_q8 lw4f_q8)) (.wr (.mul lw4f_q7 lw4f_q7)))
def lw4f_q13 : BE := .cm .ge (.ite .gt (.wr (.sub (.k (0)) lw4f_q11)) lw4f_q11 (.wr (.sub (.k (0)) lw4f_q11)) lw4f_q11) (.ite .gt (.wr (.sub (.k (0)) lw4f_q12)) lw4f_q12 (.wr (.sub (.k (0)) lw4f_q12)) lw4f_q12)
def lw4f_q14 : IE := .wr (.sub (.k (0)) (.wr (.mul (.v 8) (.k (1)))))
def lw4f_q15 : IE := .wr (.sub (.k (0)) (.wr (.mul (.v 9) (.k (1)))))
def lw4f_q16 : IE := .add (.wr (.add (.k (0)) (.wr (.mul lw4f_q14 (.wr (.mul (.v 12) (.k (1)))))))) (.wr (.mul lw4f_q15 (.wr (.mul (.v 13) (.k (1))))))
def lw4f_q17 : IE := .wr (.sub (.k (0)) (.wr (.mul (.v 10) (.k (1)))))
def lw4f_q18 : IE := .wr (.sub (.k (0)) (.wr (.mul (.v 11) (.k (1)))))
def lw4f_q19 : IE := .add (.wr (.add (.wr lw4f_q16) (.wr (.mul lw4f_q17 (.wr (.mul (.v 14) (.k (1)))))))) (.wr (.mul lw4f_q18 (.wr (.mul (.v 15) (.k (1))))))
def lw4f_q20 : BE := .cm .lt (.wr lw4f_q19) (.k (-1073741824))
def lw4f_q21 : BE := .cm .gt (.wr lw4f_q19) (.k (1073741824))
def lw4f_q22 : IE := .add (.wr (.add (.k (0)) (.wr (.mul lw4f_q14 (.wr (.mul (.v 13) (.k (1)))))))) (.wr (.mul lw4f_q15 (.wr (.mul (.v 14) (.k (1))))))
def lw4f_q23 : IE := .add (.wr (.add (.wr lw4f_q22) (.wr (.mul lw4f_q17 (.wr (.mul (.v 15) (.k (1)))))))) (.wr (.mul lw4f_q18 (.wr lw4f_q19)))
def lw4f_q24 : BE := .cm .lt (.wr lw4f_q23) (.k (-1073741824))
def lw4f_q25 : BE := .cm .gt (.wr lw4f_q23) (.k (1073741824))
def lw4f_q26 : IE := .add (.wr (.add (.k (0)) (.wr (.mul lw4f_q14 (.wr (.mul (.v 14) (.k (1)))))))) (.wr (.mul lw4f_q15 (.wr (.mul (.v 15) (.k (1))))))
def lw4f_q27 : IE := .wr (.add (.wr (.add (.wr lw4f_q26) (.wr (.mul lw4f_q17 (.wr lw4f_q19))))) (.wr (.mul lw4f_q18 (.wr lw4f_q23))))
def lw4f_q28 : IE := .wr (.add (.wr (.add (.k (0)) (.wr (.mul lw4f_q14 (.wr (.mul (.v 15) (.k (1)))))))) (.wr (.mul lw4f_q15 (.wr lw4f_q19))))
def lw4f_q29 : IE := .wr (.add (.wr (.add lw4f_q28 (.wr (.mul lw4f_q17 (.wr lw4f_q23))))) (.wr (.mul lw4f_q18 lw4f_q27)))
def lw4f_q30 : IE := .add (.wr (.add (.wr (.add (.k (0)) (.wr (.mul lw4f_q14 (.wr lw4f_q19))))) (.wr (.mul lw4f_q15 (.wr lw4f_q23))))) (.wr (.mul lw4f_q17 lw4f_q27))
def lw4f_q31 : IE := .wr (.add (.wr lw4f_q30) (.wr (.mul lw4f_q18 lw4f_q29)))
def lw4f_q32 : IE := .add (.wr (.add (.wr (.add (.k (0)) (.wr (.mul lw4f_q14 (.wr lw4f_q23))))) (.wr (.mul lw4f_q15 lw4f_q27)))) (.wr (.mul lw4f_q17 lw4f_q29))
def lw4f_q33 : IE := .wr (.add (.wr lw4f_q32) (.wr (.mul lw4f_q18 lw4f_q31)))
def lw4f_q34 : BE := .or (.not (.cm .eq (.v 0) (.k (0)))) (.and (.cm .le (.k (0)) (.v 0)) (.cm .le (.v 0) (.k (0))))
def lw4f_q35 : BE := .not (.cm .ge (.ite .gt (.wr (.sub (.k (0)) (.v 0))) (.v 0) (.wr (.sub (.k (0)) (.v 0))) (.v 0)) lw4f_q0)
def lw4f_q36 : IE := .wr (.sub (.wr (.mul (.k (1)) (.v 1))) (.wr (.mul (.v 0) (.v 2))))
def lw4f_q37 : IE := .wr (.sub (.k (1)) (.wr (.mul (.v 0) (.v 0))))
def lw4f_q38 : BE := .cm .ge (.ite .gt (.wr (.sub (.k (0)) lw4f_q36)) lw4f_q36 (.wr (.sub (.k (0)) lw4f_q36)) lw4f_q36) (.ite .gt (.wr (.sub (.k (0)) lw4f_q37)) lw4f_q37 (.wr (.sub (.k (0)) lw4f_q37)) lw4f_q37)
def lw4f_q39 : IE := .wr (.sub (.wr (.mul (.k (1)) (.v 2))) (.wr (.mul (.v 0) (.v 2))))
def lw4f_q40 : IE := .wr (.sub (.wr (.mul (.k (1)) (.v 1))) (.wr (.mul (.v 0) (.v 3))))
def lw4f_q41 : IE := .wr (.sub (.wr (.mul (.k (1)) (.v 3))) (.wr (.mul (.v 0) (.v 1))))
def lw4f_q42 : IE := .wr (.sub (.wr (.mul lw4f_q37 lw4f_q39)) (.wr (.mul lw4f_q40 lw4f_q41)))
def lw4f_q43 : IE := .wr (.sub (.wr (.mul lw4f_q37 lw4f_q37)) (.wr (.mul lw4f_q40 lw4f_q40)))
def lw4f_q44 : BE := .cm .ge (.ite .gt (.wr (.sub (.k (0)) lw4f_q42)) lw4f_q42 (.wr (.sub (.k (0)) lw4f_q42)) lw4f_q42) (.ite .gt (.wr (.sub (.k (0)) lw4f_q43)) lw4f_q43 (.wr (.sub (.k (0)) lw4f_q43)) lw4f_q43)
def lw4f_q45 : IE := .mul (.k (1)) (.mul (.k (1)) (.mul (.k (1)) (.v 0)))
def lw4f_q46 : BE := .cm .ge (.ite .gt (.sub (.k (0)) lw4f_q45) lw4f_q45 (.sub (.k (0)) lw4f_q45) lw4f_q45) (.k (1))
def lw4f_q47 : BE := .not (.beq (.not .t) (.cm .eq (.v 0) (.k (0))))
def lw4f_q48 : IE := .mul (.k (1)) (.mul (.k (1)) (.mul (.k (1)) (.v 3)))
def lw4f_q49 : BE := .cm .ge (.ite .gt (.sub (.k (0)) lw4f_q48) lw4f_q48 (.sub (.k (0)) lw4f_q48) lw4f_q48) (.k (1))
def lw4f_q50 : IE := .wr (.sub (.wr (.mul lw4f_q37 lw4f_q41)) (.wr (.mul lw4f_q40 lw4f_q39)))
def lw4f_q51 : IE := .wr (.sub (.wr (.mul lw4f_q43 lw4f_q50)) (.wr (.mul lw4f_q42 lw4f_q50)))
def lw4f_q52 : IE := .wr (.sub (.wr (.mul lw4f_q43 lw4f_q43)) (.wr (.mul lw4f_q42 lw4f_q42)))
def lw4f_q53 : BE := .cm .ge (.ite .gt (.wr (.sub (.k (0)) lw4f_q51)) lw4f_q51 (.wr (.sub (.k (0)) lw4f_q51)) lw4f_q51) (.ite .gt (.wr (.sub (.k (0)) lw4f_q52)) lw4f_q52 (.wr (.sub (.k (0)) lw4f_q52)) lw4f_q52)
def lw4f_q54 : BE := .not (.beq (.not (.cm .ge (.k (3)) (.k (0)))) (.cm .eq (.v 3) (.k (0))))
def lw4f_q55 : BE := .not (.beq (.not .t) (.cm .eq (.v 3) (.k (0))))
def lw4f_q56 : BE := .or (.not (.not lw4f_q53)) (.and (.cm .le (.k (0)) (.v 3)) (.cm .le (.v 3) (.k (0))))
def lw4f_q57 : IE := .wr (.sub (.k (0)) (.wr (.mul (.v 0) (.k (1)))))
def lw4f_q58 : IE := .wr (.sub (.k (0)) (.wr (.mul (.v 1) (.k (1)))))
def lw4f_q59 : IE := .add (.wr (.add (.k (0)) (.wr (.mul lw4f_q57 (.wr (.mul (.v 6) (.k (1)))))))) (.wr (.mul lw4f_q58 (.wr (.mul (.v 7) (.k (1))))))
def lw4f_q60 : IE := .wr (.sub (.k (0)) (.wr (.mul (.v 2) (.k (1)))))
def lw4f_q61 : IE := .add (.wr (.add (.k (0)) (.wr (.mul lw4f_q57 (.wr (.mul (.v 4) (.k (1)))))))) (.wr (.mul lw4f_q58 (.wr (.mul (.v 5) (.k (1))))))
def lw4f_q62 : IE := .wr (.sub (.k (0)) (.wr (.mul (.v 3) (.k (1)))))
def lw4f_q63 : IE := .add (.wr (.add (.wr lw4f_q61) (.wr (.mul lw4f_q60 (.wr (.mul (.v 6) (.k (1)))))))) (.wr (.mul lw4f_q62 (.wr (.mul (.v 7) (.k (1))))))
def lw4f_q64 : IE := .add (.wr (.add (.k (0)) (.wr (.mul lw4f_q57 (.wr (.mul (.v 5) (.k (1)))))))) (.wr (.mul lw4f_q58 (.wr (.mul (.v 6) (.k (1))))))
def lw4f_q65 : IE := .add (.wr (.add (.wr lw4f_q64) (.wr (.mul lw4f_q60 (.wr (.mul (.v 7) (.k (1)))))))) (.wr (.mul lw4f_q62 (.wr lw4f_q63)))
def lw4f_q66 : IE := .wr (.add (.wr (.add (.wr lw4f_q59) (.wr (.mul lw4f_q60 (.wr lw4f_q63))))) (.wr (.mul lw4f_q62 (.wr lw4f_q65))))
def lw4f_q67 : IE := .wr (.add (.wr (.add (.k (0)) (.wr (.mul lw4f_q57 (.wr (.mul (.v 7) (.k (1)))))))) (.wr (.mul lw4f_q58 (.wr lw4f_q63))))
def lw4f_q68 : IE := .wr (.add (.wr (.add lw4f_q67 (.wr (.mul lw4f_q60 (.wr lw4f_q65))))) (.wr (.mul lw4f_q62 lw4f_q66)))
def lw4f_q69 : IE := .add (.wr (.add (.wr (.add (.k (0)) (.wr (.mul lw4f_q57 (.wr lw4f_q63))))) (.wr (.mul lw4f_q58 (.wr lw4f_q65))))) (.wr (.mul lw4f_q60 lw4f_q66))
def lw4f_q70 : IE := .wr (.add (.wr lw4f_q69) (.wr (.mul lw4f_q62 lw4f_q68)))
def lw4f_q71 : IE := .add (.wr (.add (.wr (.add (.k (0)) (.wr (.mul lw4f_q57 (.wr lw4f_q65))))) (.wr (.mul lw4f_q58 lw4f_q66)))) (.wr (.mul lw4f_q60 lw4f_q68))
def lw4f_q72 : IE := .wr (.add (.wr lw4f_q71) (.wr (.mul lw4f_q62 lw4f_q70)))
def lw4f_q73 : IE := .sub (.k (0)) (.mul (.k (1)) (.mul (.k (1)) (.v 0)))
def lw4f_q74 : BE := .cm .ge (.ite .gt lw4f_q73 (.mul (.k (1)) (.mul (.k (1)) (.v 0))) lw4f_q73 (.mul (.k (1)) (.mul (.k (1)) (.v 0)))) (.k (1))
def lw4f_q75 : IE := .sub (.k (0)) (.mul (.k (1)) (.mul (.k (1)) (.v 2)))
def lw4f_q76 : BE := .cm .ge (.ite .gt lw4f_q75 (.mul (.k (1)) (.mul (.k (1)) (.v 2))) lw4f_q75 (.mul (.k (1)) (.mul (.k (1)) (.v 2)))) (.k (1))
def lw4f_q77 : IE := .ite .gt (.sub (.k (0)) (.mul (.k (1)) (.v 0))) (.mul (.k (1)) (.v 0)) (.sub (.k (0)) (.mul (.k (1)) (.v 0))) (.mul (.k (1)) (.v 0))
def lw4f_q78 : IE := .ite .gt (.sub (.k (0)) (.mul (.k (1)) (.v 1))) (.mul (.k (1)) (.v 1)) (.sub (.k (0)) (.mul (.k (1)) (.v 1))) (.mul (.k (1)) (.v 1))
def lw4f_q79 : BE := .not (.cm .ge (.ite .gt (.sub (.k (0)) (.v 0)) (.v 0) (.sub (.k (0)) (.v 0)) (.v 0)) (.k (1)))

theorem lw4f_X : FOkS Tryz.prog x_lw4f := bothX_ok (noXS_ok) (tabT_ok (by kernel_rfl) aw3_calls)
theorem lw4f_rg8 (x0 x1 x2 x3 f0 f1 f2 f3 : Int) (hpre : True) : Rg.has (-100, 100) (lw4f_at0 x0) := by
  have h := IE.rng_ok (β := [(-9223372036854775808, 9223372036854775807)]) (ρ := [(IntKind.i64.wrap x0)]) ⟨wrR _, trivial⟩ (e := (.md (.v 0) 101)) (by kernel_rfl)
  rw [show IE.rng [(-9223372036854775808, 9223372036854775807)] (.md (.v 0) 101) = (-100, 100) from by kernel_rfl] at h
  exact h
theorem lw4f_rg9 (x0 x1 x2 x3 f0 f1 f2 f3 : Int) (hpre : True) : Rg.has (-100, 100) (lw4f_at0 x1) := by
  have h := IE.rng_ok (β := [(-9223372036854775808, 9223372036854775807)]) (ρ := [(IntKind.i64.wrap x1)]) ⟨wrR _, trivial⟩ (e := (.md (.v 0) 101)) (by kernel_rfl)
  rw [show IE.rng [(-9223372036854775808, 9223372036854775807)] (.md (.v 0) 101) = (-100, 100) from by kernel_rfl] at h
  exact h
theorem lw4f_rg10 (x0 x1 x2 x3 f0 f1 f2 f3 : Int) (hpre : True) : Rg.has (-100, 100) (lw4f_at0 x2) := by
  have h := IE.rng_ok (β := [(-9223372036854775808, 9223372036854775807)]) (ρ := [(IntKind.i64.wrap x2)]) ⟨wrR _, trivial⟩ (e := (.md (.v 0) 101)) (by kernel_rfl)
  rw [show IE.rng [(-9223372036854775808, 9223372036854775807)] (.md (.v 0) 101) = (-100, 100) from by kernel_rfl] at h
  exact h
theorem lw4f_rg11 (x0 x1 x2 x3 f0 f1 f2 f3 : Int) (hpre : True) : Rg.has (-100, 100) (lw4f_at0 x3) := by
  have h := IE.rng_ok (β := [(-9223372036854775808, 9223372036854775807)]) (ρ := [(IntKind.i64.wrap x3)]) ⟨wrR _, trivial⟩ (e := (.md (.v 0) 101)) (by kernel_rfl)
  rw [show IE.rng [(-9223372036854775808, 9223372036854775807)] (.md (.v 0) 101) = (-100, 100) from by kernel_rfl] at h
  exact h
theorem lw4f_rg12 (x0 x1 x2 x3 f0 f1 f2 f3 : Int) (hpre : True) : Rg.has (-1000, 1000) (lw4f_at1 f0) := by
  have h := IE.rng_ok (β := [(-9223372036854775808, 9223372036854775807)]) (ρ := [(IntKind.i64.wrap f0)]) ⟨wrR _, trivial⟩ (e := (.md (.v 0) 1001)) (by kernel_rfl)
  rw [show IE.rng [(-9223372036854775808, 9223372036854775807)] (.md (.v 0) 1001) = (-1000, 1000) from by kernel_rfl] at h
  exact h
theorem lw4f_rg13 (x0 x1 x2 x3 f0 f1 f2 f3 : Int) (hpre : True) : Rg.has (-1000, 1000) (lw4f_at1 f1) := by
  have h := IE.rng_ok (β := [(-9223372036854775808, 9223372036854775807)]) (ρ := [(IntKind.i64.wrap f1)]) ⟨wrR _, trivial⟩ (e := (.md (.v 0) 1001)) (by kernel_rfl)
  rw [show IE.rng [(-9223372036854775808, 9223372036854775807)] (.md (.v 0) 1001) = (-1000, 1000) from by kernel_rfl] at h
  exact h
theorem lw4f_rg14 (x0 x1 x2 x3 f0 f1 f2 f3 : Int) (hpre : True) : Rg.has (-1000, 1000) (lw4f_at1 f2) := by
  have h := IE.rng_ok (β := [(-9223372036854775808, 9223372036854775807)]) (ρ := [(IntKind.i64.wrap f2)]) ⟨wrR _, trivial⟩ (e := (.md (.v 0) 1001)) (by kernel_rfl)
  rw [show IE.rng [(-9223372036854775808, 9223372036854775807)] (.md (.v 0) 1001) = (-1000, 1000) from by kernel_rfl] at h
  exact h
theorem lw4f_rg15 (x0 x1 x2 x3 f0 f1 f2 f3 : Int) (hpre : True) : Rg.has (-1000, 1000) (lw4f_at1 f3) := by
  have h := IE.rng_ok (β := [(-9223372036854775808, 9223372036854775807)]) (ρ := [(IntKind.i64.wrap f3)]) ⟨wrR _, trivial⟩ (e := (.md (.v 0) 1001)) (by kernel_rfl)
  rw [show IE.rng [(-9223372036854775808, 9223372036854775807)] (.md (.v 0) 1001) = (-1000, 1000) from by kernel_rfl] at h
  exact h
def lw4f_R (x0 x1 x2 x3 f0 f1 f2 f3 : Int) : List Int := [(IntKind.i64.wrap x0), (IntKind.i64.wrap x1), (IntKind.i64.wrap x2), (IntKind.i64.wrap x3), (IntKind.i64.wrap f0), (IntKind.i64.wrap f1), (IntKind.i64.wrap f2), (IntKind.i64.wrap f3), (lw4f_at0 x0), (lw4f_at0 x1), (lw4f_at0 x2), (lw4f_at0 x3), (lw4f_at1 f0), (lw4f_at1 f1), (lw4f_at1 f2), (lw4f_at1 f3)]
def lw4f_B : List Rg := [(-9223372036854775808, 9223372036854775807), (-9223372036854775808, 9223372036854775807), (-9223372036854775808, 9223372036854775807), (-9223372036854775808, 9223372036854775807), (-9223372036854775808, 9223372036854775807), (-9223372036854775808, 9223372036854775807), (-9223372036854775808, 9223372036854775807), (-9223372036854775808, 9223372036854775807), (-100, 100), (-100, 100), (-100, 100), (-100, 100), (-1000, 1000), (-1000, 1000), (-1000, 1000), (-1000, 1000)]
theorem lw4f_hr (x0 x1 x2 x3 f0 f1 f2 f3 : Int) (hpre : True) : InR lw4f_B (lw4f_R x0 x1 x2 x3 f0 f1 f2 f3) := ⟨wrR _, ⟨wrR _, ⟨wrR _, ⟨wrR _, ⟨wrR _, ⟨wrR _, ⟨wrR _, ⟨wrR _, ⟨lw4f_rg8 x0 x1 x2 x3 f0 f1 f2 f3 hpre, ⟨lw4f_rg9 x0 x1 x2 x3 f0 f1 f2 f3 hpre, ⟨lw4f_rg10 x0 x1 x2 x3 f0 f1 f2 f3 hpre, ⟨lw4f_rg11 x0 x1 x2 x3 f0 f1 f2 f3 hpre, ⟨lw4f_rg12 x0 x1 x2 x3 f0 f1 f2 f3 hpre, ⟨lw4f_rg13 x0 x1 x2 x3 f0 f1 f2 f3 hpre, ⟨lw4f_rg14 x0 x1 x2 x3 f0 f1 f2 f3 hpre, ⟨lw4f_rg15 x0 x1 x2 x3 f0 f1 f2 f3 hpre, trivial⟩⟩⟩⟩⟩⟩⟩⟩⟩⟩⟩⟩⟩⟩⟩⟩
def lw4f_h0 : Prop := (false = false)
theorem lw4f_g0 : (false = false) := by first | rfl | trivial | decide | omega
def lw4f_h1 : Prop := ((decide ((4 : Int) > (4 : Int))) = Bool.false)
theorem lw4f_g1 : ((decide ((4 : Int) > (4 : Int))) = Bool.false) := by first | rfl | trivial | decide | omega
def lw4f_h2 : Prop := (true = true)
theorem lw4f_g2 : (true = true) := by first | rfl | trivial | decide | omega
def lw4f_h3 : Prop := ((0 : Int) = (0 : Int))
theorem lw4f_g3 : ((0 : Int) = (0 : Int)) := by first | rfl | trivial | decide | omega
def lw4f_h4 : Prop := ((1 : Int) = (1 : Int))
theorem lw4f_g4 : ((1 : Int) = (1 : Int)) := by first | rfl | trivial | decide | omega
def lw4f_c0 (x0 x1 x2 x3 f0 f1 f2 f3 : Int) : Bool := BE.ev (lw4f_R x0 x1 x2 x3 f0 f1 f2 f3) (.cm .eq (.v 8) (.k (0)))
def lw4f_h6 : Prop := ((2 : Int) = (2 : Int))
theorem lw4f_g6 : ((2 : Int) = (2 : Int)) := by first | rfl | trivial | decide | omega
def lw4f_h7 : Prop := ((3 : Int) = (3 : Int))
theorem lw4f_g7 : ((3 : Int) = (3 : Int)) := by first | rfl | trivial | decide | omega
def lw4f_h8 : Prop := ((decide ((5 : Int) > (5 : Int))) = Bool.false)
theorem lw4f_g8 : ((decide ((5 : Int) > (5 : Int))) = Bool.false) := by first | rfl | trivial | decide | omega
def lw4f_c1 (x0 x1 x2 x3 f0 f1 f2 f3 : Int) : Bool := BE.ev (lw4f_R x0 x1 x2 x3 f0 f1 f2 f3) (.cm .lt (.v 8) (.k (-100)))
def lw4f_c2 (x0 x1 x2 x3 f0 f1 f2 f3 : Int) : Bool := BE.ev (lw4f_R x0 x1 x2 x3 f0 f1 f2 f3) (.cm .gt (.v 8) (.k (100)))
def lw4f_c3 (x0 x1 x2 x3 f0 f1 f2 f3 : Int) : Bool := BE.ev (lw4f_R x0 x1 x2 x3 f0 f1 f2 f3) (.cm .lt (.v 9) (.k (-100)))
def lw4f_c4 (x0 x1 x2 x3 f0 f1 f2 f3 : Int) : Bool := BE.ev (lw4f_R x0 x1 x2 x3 f0 f1 f2 f3) (.cm .gt (.v 9) (.k (100)))
def lw4f_c5 (x0 x1 x2 x3 f0 f1 f2 f3 : Int) : Bool := BE.ev (lw4f_R x0 x1 x2 x3 f0 f1 f2 f3) (.cm .lt (.v 10) (.k (-100)))
def lw4f_c6 (x0 x1 x2 x3 f0 f1 f2 f3 : Int) : Bool := BE.ev (lw4f_R x0 x1 x2 x3 f0 f1 f2 f3) (.cm .gt (.v 10) (.k (100)))
def lw4f_c7 (x0 x1 x2 x3 f0 f1 f2 f3 : Int) : Bool := BE.ev (lw4f_R x0 x1 x2 x3 f0 f1 f2 f3) (.cm .lt (.v 11) (.k (-100)))
def lw4f_c8 (x0 x1 x2 x3 f0 f1 f2 f3 : Int) : Bool := BE.ev (lw4f_R x0 x1 x2 x3 f0 f1 f2 f3) (.cm .gt (.v 11) (.k (100)))
def lw4f_h17 : Prop := ((4 : Int) = (4 : Int))
theorem lw4f_g17 : ((4 : Int) = (4 : Int)) := by first | rfl | trivial | decide | omega
def lw4f_h18 : Prop := ((decide ((1 : Int) > (100 : Int))) = Bool.false)
theorem lw4f_g18 : ((decide ((1 : Int) > (100 : Int))) = Bool.false) := by first | rfl | trivial | decide | omega
def lw4f_h19 : Prop := ((Bool.false != Bool.false) = Bool.false)
theorem lw4f_g19 : ((Bool.false != Bool.false) = Bool.false) := by first | rfl | trivial | decide | omega
def lw4f_h20 : Prop := ((decide ((5 : Int) > (2 : Int))) = Bool.true)
theorem lw4f_g20 : ((decide ((5 : Int) > (2 : Int))) = Bool.true) := by first | rfl | trivial | decide | omega
def lw4f_c9 (x0 x1 x2 x3 f0 f1 f2 f3 : Int) : Bool := BE.ev (lw4f_R x0 x1 x2 x3 f0 f1 f2 f3) (.not lw4f_q1)
def lw4f_c10 (x0 x1 x2 x3 f0 f1 f2 f3 : Int) : Bool := BE.ev (lw4f_R x0 x1 x2 x3 f0 f1 f2 f3) lw4f_q1
def lw4f_h23 : Prop := ((Bool.not ((Bool.not (decide ((0 : Int) ≥ (0 : Int)))) == Bool.false)) = Bool.false)
theorem lw4f_g23 : ((Bool.not ((Bool.not (decide ((0 : Int) ≥ (0 : Int)))) == Bool.false)) = Bool.false) := by first | rfl | trivial | decide | omega
def lw4f_c11 (x0 x1 x2 x3 f0 f1 f2 f3 : Int) : Bool := BE.ev (lw4f_R x0 x1 x2 x3 f0 f1 f2 f3) (.cm .eq (.v 9) (.k (0)))
def lw4f_h27 : Prop := ((decide ((4 : Int) > (2 : Int))) = Bool.true)
theorem lw4f_g27 : ((decide ((4 : Int) > (2 : Int))) = Bool.true) := by first | rfl | trivial | decide | omega
def lw4f_c12 (x0 x1 x2 x3 f0 f1 f2 f3 : Int) : Bool := BE.ev (lw4f_R x0 x1 x2 x3 f0 f1 f2 f3) (.not lw4f_q4)
def lw4f_c13 (x0 x1 x2 x3 f0 f1 f2 f3 : Int) : Bool := BE.ev (lw4f_R x0 x1 x2 x3 f0 f1 f2 f3) lw4f_q4
def lw4f_h31 : Prop := ((Bool.not ((Bool.not (decide ((1 : Int) ≥ (0 : Int)))) == Bool.false)) = Bool.false)
theorem lw4f_g31 : ((Bool.not ((Bool.not (decide ((1 : Int) ≥ (0 : Int)))) == Bool.false)) = Bool.false) := by first | rfl | trivial | decide | omega
def lw4f_c14 (x0 x1 x2 x3 f0 f1 f2 f3 : Int) : Bool := BE.ev (lw4f_R x0 x1 x2 x3 f0 f1 f2 f3) (.cm .eq (.v 10) (.k (0)))
def lw4f_h35 : Prop := ((decide ((3 : Int) > (2 : Int))) = Bool.true)
theorem lw4f_g35 : ((decide ((3 : Int) > (2 : Int))) = Bool.true) := by first | rfl | trivial | decide | omega
def lw4f_c15 (x0 x1 x2 x3 f0 f1 f2 f3 : Int) : Bool := BE.ev (lw4f_R x0 x1 x2 x3 f0 f1 f2 f3) (.not lw4f_q9)
def lw4f_c16 (x0 x1 x2 x3 f0 f1 f2 f3 : Int) : Bool := BE.ev (lw4f_R x0 x1 x2 x3 f0 f1 f2 f3) lw4f_q9
def lw4f_h39 : Prop := ((Bool.not ((Bool.not (decide ((2 : Int) ≥ (0 : Int)))) == Bool.false)) = Bool.false)
theorem lw4f_g39 : ((Bool.not ((Bool.not (decide ((2 : Int) ≥ (0 : Int)))) == Bool.false)) = Bool.false) := by first | rfl | trivial | decide | omega
def lw4f_h42 : Prop := ((decide ((2 : Int) > (2 : Int))) = Bool.false)
theorem lw4f_g42 : ((decide ((2 : Int) > (2 : Int))) = Bool.false) := by first | rfl | trivial | decide | omega
def lw4f_c17 (x0 x1 x2 x3 f0 f1 f2 f3 : Int) : Bool := BE.ev (lw4f_R x0 x1 x2 x3 f0 f1 f2 f3) lw4f_q13
def lw4f_c18 (x0 x1 x2 x3 f0 f1 f2 f3 : Int) : Bool := BE.ev (lw4f_R x0 x1 x2 x3 f0 f1 f2 f3) (.not (.beq (.not (.cm .ge (.k (3)) (.k (0)))) (.cm .eq (.v 11) (.k (0)))))
def lw4f_c19 (x0 x1 x2 x3 f0 f1 f2 f3 : Int) : Bool := BE.ev (lw4f_R x0 x1 x2 x3 f0 f1 f2 f3) (.not (.cm .eq (.v 11) (.k (0))))
def lw4f_c20 (x0 x1 x2 x3 f0 f1 f2 f3 : Int) : Bool := BE.ev (lw4f_R x0 x1 x2 x3 f0 f1 f2 f3) (.not (.beq (.not (.cm .ge (.k (-1)) (.k (0)))) (.cm .eq (.v 11) (.k (0)))))
def lw4f_c21 (x0 x1 x2 x3 f0 f1 f2 f3 : Int) : Bool := BE.ev (lw4f_R x0 x1 x2 x3 f0 f1 f2 f3) (.cm .lt (.v 12) (.k (-1000)))
def lw4f_c22 (x0 x1 x2 x3 f0 f1 f2 f3 : Int) : Bool := BE.ev (lw4f_R x0 x1 x2 x3 f0 f1 f2 f3) (.cm .gt (.v 12) (.k (1000)))
def lw4f_c23 (x0 x1 x2 x3 f0 f1 f2 f3 : Int) : Bool := BE.ev (lw4f_R x0 x1 x2 x3 f0 f1 f2 f3) (.cm .lt (.v 13) (.k (-1000)))
def lw4f_c24 (x0 x1 x2 x3 f0 f1 f2 f3 : Int) : Bool := BE.ev (lw4f_R x0 x1 x2 x3 f0 f1 f2 f3) (.cm .gt (.v 13) (.k (1000)))
def lw4f_c25 (x0 x1 x2 x3 f0 f1 f2 f3 : Int) : Bool := BE.ev (lw4f_R x0 x1 x2 x3 f0 f1 f2 f3) (.cm .lt (.v 14) (.k (-1000)))
def lw4f_c26 (x0 x1 x2 x3 f0 f1 f2 f3 : Int) : Bool := BE.ev (lw4f_R x0 x1 x2 x3 f0 f1 f2 f3) (.cm .gt (.v 14) (.k (1000)))
def lw4f_c27 (x0 x1 x2 x3 f0 f1 f2 f3 : Int) : Bool := BE.ev (lw4f_R x0 x1 x2 x3 f0 f1 f2 f3) (.cm .lt (.v 15) (.k (-1000)))
def lw4f_c28 (x0 x1 x2 x3 f0 f1 f2 f3 : Int) : Bool := BE.ev (lw4f_R x0 x1 x2 x3 f0 f1 f2 f3) (.cm .gt (.v 15) (.k (1000)))
def lw4f_h58 : Prop := ((decide ((6 : Int) > (24 : Int))) = Bool.false)
theorem lw4f_g58 : ((decide ((6 : Int) > (24 : Int))) = Bool.false) := by first | rfl | trivial | decide | omega
def lw4f_c29 (x0 x1 x2 x3 f0 f1 f2 f3 : Int) : Bool := BE.ev (lw4f_R x0 x1 x2 x3 f0 f1 f2 f3) lw4f_q20
def lw4f_c30 (x0 x1 x2 x3 f0 f1 f2 f3 : Int) : Bool := BE.ev (lw4f_R x0 x1 x2 x3 f0 f1 f2 f3) lw4f_q21
def lw4f_c31 (x0 x1 x2 x3 f0 f1 f2 f3 : Int) : Bool := BE.ev (lw4f_R x0 x1 x2 x3 f0 f1 f2 f3) lw4f_q24
def lw4f_c32 (x0 x1 x2 x3 f0 f1 f2 f3 : Int) : Bool := BE.ev (lw4f_R x0 x1 x2 x3 f0 f1 f2 f3) lw4f_q25
def lw4f_h63 : Prop := ((5 : Int) = (5 : Int))
theorem lw4f_g63 : ((5 : Int) = (5 : Int)) := by first | rfl | trivial | decide | omega
def lw4f_c33 (x0 x1 x2 x3 f0 f1 f2 f3 : Int) : Bool := BE.ev (lw4f_R x0 x1 x2 x3 f0 f1 f2 f3) (.cm .lt lw4f_q27 (.k (-1073741824)))
def lw4f_c34 (x0 x1 x2 x3 f0 f1 f2 f3 : Int) : Bool := BE.ev (lw4f_R x0 x1 x2 x3 f0 f1 f2 f3) (.cm .gt lw4f_q27 (.k (1073741824)))
def lw4f_h66 : Prop := ((6 : Int) = (6 : Int))
theorem lw4f_g66 : ((6 : Int) = (6 : Int)) := by first | rfl | trivial | decide | omega
def lw4f_c35 (x0 x1 x2 x3 f0 f1 f2 f3 : Int) : Bool := BE.ev (lw4f_R x0 x1 x2 x3 f0 f1 f2 f3) (.cm .lt lw4f_q29 (.k (-1073741824)))
def lw4f_c36 (x0 x1 x2 x3 f0 f1 f2 f3 : Int) : Bool := BE.ev (lw4f_R x0 x1 x2 x3 f0 f1 f2 f3) (.cm .gt lw4f_q29 (.k (1073741824)))
def lw4f_h69 : Prop := ((7 : Int) = (7 : Int))
theorem lw4f_g69 : ((7 : Int) = (7 : Int)) := by first | rfl | trivial | decide | omega
def lw4f_c37 (x0 x1 x2 x3 f0 f1 f2 f3 : Int) : Bool := BE.ev (lw4f_R x0 x1 x2 x3 f0 f1 f2 f3) (.cm .lt lw4f_q31 (.k (-1073741824)))
def lw4f_c38 (x0 x1 x2 x3 f0 f1 f2 f3 : Int) : Bool := BE.ev (lw4f_R x0 x1 x2 x3 f0 f1 f2 f3) (.cm .gt lw4f_q31 (.k (1073741824)))
def lw4f_h72 : Prop := ((8 : Int) = (8 : Int))
theorem lw4f_g72 : ((8 : Int) = (8 : Int)) := by first | rfl | trivial | decide | omega
def lw4f_c39 (x0 x1 x2 x3 f0 f1 f2 f3 : Int) : Bool := BE.ev (lw4f_R x0 x1 x2 x3 f0 f1 f2 f3) (.cm .lt lw4f_q33 (.k (-1073741824)))
def lw4f_c40 (x0 x1 x2 x3 f0 f1 f2 f3 : Int) : Bool := BE.ev (lw4f_R x0 x1 x2 x3 f0 f1 f2 f3) (.cm .gt lw4f_q33 (.k (1073741824)))
def lw4f_c41 (x0 x1 x2 x3 f0 f1 f2 f3 : Int) : Bool := BE.ev (lw4f_R x0 x1 x2 x3 f0 f1 f2 f3) (.cm .ne (.wr lw4f_q19) (.k (0)))
def lw4f_c42 (x0 x1 x2 x3 f0 f1 f2 f3 : Int) : Bool := BE.ev (lw4f_R x0 x1 x2 x3 f0 f1 f2 f3) (.cm .ne (.wr lw4f_q23) (.k (0)))
def lw4f_c43 (x0 x1 x2 x3 f0 f1 f2 f3 : Int) : Bool := BE.ev (lw4f_R x0 x1 x2 x3 f0 f1 f2 f3) (.cm .ne lw4f_q27 (.k (0)))
def lw4f_c44 (x0 x1 x2 x3 f0 f1 f2 f3 : Int) : Bool := BE.ev (lw4f_R x0 x1 x2 x3 f0 f1 f2 f3) (.cm .ne lw4f_q29 (.k (0)))
def lw4f_c45 (x0 x1 x2 x3 f0 f1 f2 f3 : Int) : Bool := BE.ev (lw4f_R x0 x1 x2 x3 f0 f1 f2 f3) (.cm .ne lw4f_q31 (.k (0)))
def lw4f_c46 (x0 x1 x2 x3 f0 f1 f2 f3 : Int) : Bool := BE.ev (lw4f_R x0 x1 x2 x3 f0 f1 f2 f3) (.cm .ne lw4f_q33 (.k (0)))
theorem lw4f_c1_ff (x0 x1 x2 x3 f0 f1 f2 f3 : Int) (hpre : True) : lw4f_c1 x0 x1 x2 x3 f0 f1 f2 f3 = false :=
  BE.tri_ok (lw4f_hr x0 x1 x2 x3 f0 f1 f2 f3 hpre) (e := (.cm .lt (.v 8) (.k (-100)))) (by kernel_rfl) (by kernel_rfl)
theorem lw4f_c2_ff (x0 x1 x2 x3 f0 f1 f2 f3 : Int) (hpre : True) : lw4f_c2 x0 x1 x2 x3 f0 f1 f2 f3 = false :=
  BE.tri_ok (lw4f_hr x0 x1 x2 x3 f0 f1 f2 f3 hpre) (e := (.cm .gt (.v 8) (.k (100)))) (by kernel_rfl) (by kernel_rfl)
theorem lw4f_c3_ff (x0 x1 x2 x3 f0 f1 f2 f3 : Int) (hpre : True) : lw4f_c3 x0 x1 x2 x3 f0 f1 f2 f3 = false :=
  BE.tri_ok (lw4f_hr x0 x1 x2 x3 f0 f1 f2 f3 hpre) (e := (.cm .lt (.v 9) (.k (-100)))) (by kernel_rfl) (by kernel_rfl)
theorem lw4f_c4_ff (x0 x1 x2 x3 f0 f1 f2 f3 : Int) (hpre : True) : lw4f_c4 x0 x1 x2 x3 f0 f1 f2 f3 = false :=
  BE.tri_ok (lw4f_hr x0 x1 x2 x3 f0 f1 f2 f3 hpre) (e := (.cm .gt (.v 9) (.k (100)))) (by kernel_rfl) (by kernel_rfl)
theorem lw4f_c5_ff (x0 x1 x2 x3 f0 f1 f2 f3 : Int) (hpre : True) : lw4f_c5 x0 x1 x2 x3 f0 f1 f2 f3 = false :=
  BE.tri_ok (lw4f_hr x0 x1 x2 x3 f0 f1 f2 f3 hpre) (e := (.cm .lt (.v 10) (.k (-100)))) (by kernel_rfl) (by kernel_rfl)
theorem lw4f_c6_ff (x0 x1 x2 x3 f0 f1 f2 f3 : Int) (hpre : True) : lw4f_c6 x0 x1 x2 x3 f0 f1 f2 f3 = false :=
  BE.tri_ok (lw4f_hr x0 x1 x2 x3 f0 f1 f2 f3 hpre) (e := (.cm .gt (.v 10) (.k (100)))) (by kernel_rfl) (by kernel_rfl)
theorem lw4f_c7_ff (x0 x1 x2 x3 f0 f1 f2 f3 : Int) (hpre : True) : lw4f_c7 x0 x1 x2 x3 f0 f1 f2 f3 = false :=
  BE.tri_ok (lw4f_hr x0 x1 x2 x3 f0 f1 f2 f3 hpre) (e := (.cm .lt (.v 11) (.k (-100)))) (by kernel_rfl) (by kernel_rfl)
theorem lw4f_c8_ff (x0 x1 x2 x3 f0 f1 f2 f3 : Int) (hpre : True) : lw4f_c8 x0 x1 x2 x3 f0 f1 f2 f3 = false :=
  BE.tri_ok (lw4f_hr x0 x1 x2 x3 f0 f1 f2 f3 hpre) (e := (.cm .gt (.v 11) (.k (100)))) (by kernel_rfl) (by kernel_rfl)
theorem lw4f_c21_ff (x0 x1 x2 x3 f0 f1 f2 f3 : Int) (hpre : True) : lw4f_c21 x0 x1 x2 x3 f0 f1 f2 f3 = false :=
  BE.tri_ok (lw4f_hr x0 x1 x2 x3 f0 f1 f2 f3 hpre) (e := (.cm .lt (.v 12) (.k (-1000)))) (by kernel_rfl) (by kernel_rfl)
theorem lw4f_c22_ff (x0 x1 x2 x3 f0 f1 f2 f3 : Int) (hpre : True) : lw4f_c22 x0 x1 x2 x3 f0 f1 f2 f3 = false :=
  BE.tri_ok (lw4f_hr x0 x1 x2 x3 f0 f1 f2 f3 hpre) (e := (.cm .gt (.v 12) (.k (1000)))) (by kernel_rfl) (by kernel_rfl)
theorem lw4f_c23_ff (x0 x1 x2 x3 f0 f1 f2 f3 : Int) (hpre : True) : lw4f_c23 x0 x1 x2 x3 f0 f1 f2 f3 = false :=
  BE.tri_ok (lw4f_hr x0 x1 x2 x3 f0 f1 f2 f3 hpre) (e := (.cm .lt (.v 13) (.k (-1000)))) (by kernel_rfl) (by kernel_rfl)
theorem lw4f_c24_ff (x0 x1 x2 x3 f0 f1 f2 f3 : Int) (hpre : True) : lw4f_c24 x0 x1 x2 x3 f0 f1 f2 f3 = false :=
  BE.tri_ok (lw4f_hr x0 x1 x2 x3 f0 f1 f2 f3 hpre) (e := (.cm .gt (.v 13) (.k (1000)))) (by kernel_rfl) (by kernel_rfl)
theorem lw4f_c25_ff (x0 x1 x2 x3 f0 f1 f2 f3 : Int) (hpre : True) : lw4f_c25 x0 x1 x2 x3 f0 f1 f2 f3 = false :=
  BE.tri_ok (lw4f_hr x0 x1 x2 x3 f0 f1 f2 f3 hpre) (e := (.cm .lt (.v 14) (.k (-1000)))) (by kernel_rfl) (by kernel_rfl)
theorem lw4f_c26_ff (x0 x1 x2 x3 f0 f1 f2 f3 : Int) (hpre : True) : lw4f_c26 x0 x1 x2 x3 f0 f1 f2 f3 = false :=
  BE.tri_ok (lw4f_hr x0 x1 x2 x3 f0 f1 f2 f3 hpre) (e := (.cm .gt (.v 14) (.k (1000)))) (by kernel_rfl) (by kernel_rfl)
theorem lw4f_c27_ff (x0 x1 x2 x3 f0 f1 f2 f3 : Int) (hpre : True) : lw4f_c27 x0 x1 x2 x3 f0 f1 f2 f3 = false :=
  BE.tri_ok (lw4f_hr x0 x1 x2 x3 f0 f1 f2 f3 hpre) (e := (.cm .lt (.v 15) (.k (-1000)))) (by kernel_rfl) (by kernel_rfl)
theorem lw4f_c28_ff (x0 x1 x2 x3 f0 f1 f2 f3 : Int) (hpre : True) : lw4f_c28 x0 x1 x2 x3 f0 f1 f2 f3 = false :=
  BE.tri_ok (lw4f_hr x0 x1 x2 x3 f0 f1 f2 f3 hpre) (e := (.cm .gt (.v 15) (.k (1000)))) (by kernel_rfl) (by kernel_rfl)
theorem lw4f_c29_ff (x0 x1 x2 x3 f0 f1 f2 f3 : Int) (hpre : True) : lw4f_c29 x0 x1 x2 x3 f0 f1 f2 f3 = false :=
  BE.tri_ok (lw4f_hr x0 x1 x2 x3 f0 f1 f2 f3 hpre) (e := lw4f_q20) (by kernel_rfl) (by kernel_rfl)
theorem lw4f_c30_ff (x0 x1 x2 x3 f0 f1 f2 f3 : Int) (hpre : True) : lw4f_c30 x0 x1 x2 x3 f0 f1 f2 f3 = false :=
  BE.tri_ok (lw4f_hr x0 x1 x2 x3 f0 f1 f2 f3 hpre) (e := lw4f_q21) (by kernel_rfl) (by kernel_rfl)
theorem lw4f_c31_ff (x0 x1 x2 x3 f0 f1 f2 f3 : Int) (hpre : True) : lw4f_c31 x0 x1 x2 x3 f0 f1 f2 f3 = false :=
  BE.tri_ok (lw4f_hr x0 x1 x2 x3 f0 f1 f2 f3 hpre) (e := lw4f_q24) (by kernel_rfl) (by kernel_rfl)
theorem lw4f_c32_ff (x0 x1 x2 x3 f0 f1 f2 f3 : Int) (hpre : True) : lw4f_c32 x0 x1 x2 x3 f0 f1 f2 f3 = false :=
  BE.tri_ok (lw4f_hr x0 x1 x2 x3 f0 f1 f2 f3 hpre) (e := lw4f_q25) (by kernel_rfl) (by kernel_rfl)
def lw4f_z0 (P : Prop) (x0 x1 x2 x3 f0 f1 f2 f3 : Int) : Prop := ((((((((((((((((((((((P ∧ lw4f_h0) ∧ lw4f_h0) ∧ lw4f_h0) ∧ lw4f_h0) ∧ lw4f_h1) ∧ lw4f_h2) ∧ lw4f_h3) ∧ lw4f_h0) ∧ lw4f_h3) ∧ lw4f_h0) ∧ lw4f_h2) ∧ lw4f_h2) ∧ lw4f_h2) ∧ lw4f_h3) ∧ lw4f_h2) ∧ lw4f_h2) ∧ lw4f_h2) ∧ lw4f_h2) ∧ lw4f_h4) ∧ lw4f_h0) ∧ lw4f_h4) ∧ lw4f_h0)
theorem lw4f_z0_h {P : Prop} (h : P) (x0 x1 x2 x3 f0 f1 f2 f3 : Int) (hpre : True) : lw4f_z0 P x0 x1 x2 x3 f0 f1 f2 f3 := ⟨⟨⟨⟨⟨⟨⟨⟨⟨⟨⟨⟨⟨⟨⟨⟨⟨⟨⟨⟨⟨⟨h, lw4f_g0⟩, lw4f_g0⟩, lw4f_g0⟩, lw4f_g0⟩, lw4f_g1⟩, lw4f_g2⟩, lw4f_g3⟩, lw4f_g0⟩, lw4f_g3⟩, lw4f_g0⟩, lw4f_g2⟩, lw4f_g2⟩, lw4f_g2⟩, lw4f_g3⟩, lw4f_g2⟩, lw4f_g2⟩, lw4f_g2⟩, lw4f_g2⟩, lw4f_g4⟩, lw4f_g0⟩, lw4f_g4⟩, lw4f_g0⟩
def lw4f_z1 (P : Prop) (x0 x1 x2 x3 f0 f1 f2 f3 : Int) : Prop := ((((((((((((((((((((((((((((P ∧ (lw4f_c0 x0 x1 x2 x3 f0 f1 f2 f3 = false)) ∧ (lw4f_c0 x0 x1 x2 x3 f0 f1 f2 f3 = false)) ∧ (lw4f_c0 x0 x1 x2 x3 f0 f1 f2 f3 = false)) ∧ (lw4f_c0 x0 x1 x2 x3 f0 f1 f2 f3 = false)) ∧ (lw4f_c0 x0 x1 x2 x3 f0 f1 f2 f3 = false)) ∧ (lw4f_c0 x0 x1 x2 x3 f0 f1 f2 f3 = false)) ∧ lw4f_h2) ∧ lw4f_h6) ∧ lw4f_h0) ∧ lw4f_h6) ∧ lw4f_h0) ∧ lw4f_h0) ∧ lw4f_h0) ∧ lw4f_h0) ∧ lw4f_h0) ∧ lw4f_h0) ∧ lw4f_h0) ∧ lw4f_h2) ∧ lw4f_h7) ∧ lw4f_h0) ∧ lw4f_h7) ∧ lw4f_h0) ∧ lw4f_h0) ∧ lw4f_h0) ∧ lw4f_h0) ∧ lw4f_h0) ∧ lw4f_h0) ∧ lw4f_h0)
theorem lw4f_z1_h {P : Prop} (h : P) (x0 x1 x2 x3 f0 f1 f2 f3 : Int) (hpre : True) (k0 : (lw4f_c0 x0 x1 x2 x3 f0 f1 f2 f3 = false)) : lw4f_z1 P x0 x1 x2 x3 f0 f1 f2 f3 := ⟨⟨⟨⟨⟨⟨⟨⟨⟨⟨⟨⟨⟨⟨⟨⟨⟨⟨⟨⟨⟨⟨⟨⟨⟨⟨⟨⟨h, k0⟩, k0⟩, k0⟩, k0⟩, k0⟩, k0⟩, lw4f_g2⟩, lw4f_g6⟩, lw4f_g0⟩, lw4f_g6⟩, lw4f_g0⟩, lw4f_g0⟩, lw4f_g0⟩, lw4f_g0⟩, lw4f_g0⟩, lw4f_g0⟩, lw4f_g0⟩, lw4f_g2⟩, lw4f_g7⟩, lw4f_g0⟩, lw4f_g7⟩, lw4f_g0⟩, lw4f_g0⟩, lw4f_g0⟩, lw4f_g0⟩, lw4f_g0⟩, lw4f_g0⟩, lw4f_g0⟩
def lw4f_z2 (P : Prop) (x0 x1 x2 x3 f0 f1 f2 f3 : Int) : Prop := (((((((((((((((((((((((((((((((((((((((((((((((((((((((((P ∧ lw4f_h0) ∧ lw4f_h0) ∧ lw4f_h0) ∧ lw4f_h8) ∧ lw4f_h2) ∧ lw4f_h3) ∧ (lw4f_c1 x0 x1 x2 x3 f0 f1 f2 f3 = false)) ∧ (lw4f_c1 x0 x1 x2 x3 f0 f1 f2 f3 = false)) ∧ (lw4f_c1 x0 x1 x2 x3 f0 f1 f2 f3 = false)) ∧ (lw4f_c1 x0 x1 x2 x3 f0 f1 f2 f3 = false)) ∧ (lw4f_c2 x0 x1 x2 x3 f0 f1 f2 f3 = false)) ∧ lw4f_h0) ∧ lw4f_h2) ∧ lw4f_h4) ∧ (lw4f_c3 x0 x1 x2 x3 f0 f1 f2 f3 = false)) ∧ (lw4f_c3 x0 x1 x2 x3 f0 f1 f2 f3 = false)) ∧ (lw4f_c3 x0 x1 x2 x3 f0 f1 f2 f3 = false)) ∧ (lw4f_c3 x0 x1 x2 x3 f0 f1 f2 f3 = false)) ∧ (lw4f_c4 x0 x1 x2 x3 f0 f1 f2 f3 = false)) ∧ lw4f_h0) ∧ lw4f_h2) ∧ lw4f_h6) ∧ (lw4f_c5 x0 x1 x2 x3 f0 f1 f2 f3 = false)) ∧ (lw4f_c5 x0 x1 x2 x3 f0 f1 f2 f3 = false)) ∧ (lw4f_c5 x0 x1 x2 x3 f0 f1 f2 f3 = false)) ∧ (lw4f_c5 x0 x1 x2 x3 f0 f1 f2 f3 = false)) ∧ (lw4f_c6 x0 x1 x2 x3 f0 f1 f2 f3 = false)) ∧ lw4f_h0) ∧ lw4f_h2) ∧ lw4f_h7) ∧ (lw4f_c7 x0 x1 x2 x3 f0 f1 f2 f3 = false)) ∧ (lw4f_c7 x0 x1 x2 x3 f0 f1 f2 f3 = false)) ∧ (lw4f_c7 x0 x1 x2 x3 f0 f1 f2 f3 = false)) ∧ (lw4f_c7 x0 x1 x2 x3 f0 f1 f2 f3 = false)) ∧ (lw4f_c8 x0 x1 x2 x3 f0 f1 f2 f3 = false)) ∧ lw4f_h0) ∧ lw4f_h2) ∧ lw4f_h17) ∧ lw4f_h0) ∧ lw4f_h0) ∧ lw4f_h0) ∧ lw4f_h0) ∧ lw4f_h18) ∧ lw4f_h0) ∧ lw4f_h0) ∧ lw4f_h0) ∧ lw4f_h17) ∧ lw4f_h0) ∧ lw4f_h0) ∧ lw4f_h0) ∧ lw4f_h19) ∧ lw4f_h20) ∧ lw4f_h20) ∧ lw4f_h3) ∧ lw4f_h17) ∧ lw4f_h20) ∧ lw4f_h20)
theorem lw4f_z2_h {P : Prop} (h : P) (x0 x1 x2 x3 f0 f1 f2 f3 : Int) (hpre : True) : lw4f_z2 P x0 x1 x2 x3 f0 f1 f2 f3 := ⟨⟨⟨⟨⟨⟨⟨⟨⟨⟨⟨⟨⟨⟨⟨⟨⟨⟨⟨⟨⟨⟨⟨⟨⟨⟨⟨⟨⟨⟨⟨⟨⟨⟨⟨⟨⟨⟨⟨⟨⟨⟨⟨⟨⟨⟨⟨⟨⟨⟨⟨⟨⟨⟨⟨⟨⟨h, lw4f_g0⟩, lw4f_g0⟩, lw4f_g0⟩, lw4f_g8⟩, lw4f_g2⟩, lw4f_g3⟩, (lw4f_c1_ff x0 x1 x2 x3 f0 f1 f2 f3 hpre)⟩, (lw4f_c1_ff x0 x1 x2 x3 f0 f1 f2 f3 hpre)⟩, (lw4f_c1_ff x0 x1 x2 x3 f0 f1 f2 f3 hpre)⟩, (lw4f_c1_ff x0 x1 x2 x3 f0 f1 f2 f3 hpre)⟩, (lw4f_c2_ff x0 x1 x2 x3 f0 f1 f2 f3 hpre)⟩, lw4f_g0⟩, lw4f_g2⟩, lw4f_g4⟩, (lw4f_c3_ff x0 x1 x2 x3 f0 f1 f2 f3 hpre)⟩, (lw4f_c3_ff x0 x1 x2 x3 f0 f1 f2 f3 hpre)⟩, (lw4f_c3_ff x0 x1 x2 x3 f0 f1 f2 f3 hpre)⟩, (lw4f_c3_ff x0 x1 x2 x3 f0 f1 f2 f3 hpre)⟩, (lw4f_c4_ff x0 x1 x2 x3 f0 f1 f2 f3 hpre)⟩, lw4f_g0⟩, lw4f_g2⟩, lw4f_g6⟩, (lw4f_c5_ff x0 x1 x2 x3 f0 f1 f2 f3 hpre)⟩, (lw4f_c5_ff x0 x1 x2 x3 f0 f1 f2 f3 hpre)⟩, (lw4f_c5_ff x0 x1 x2 x3 f0 f1 f2 f3 hpre)⟩, (lw4f_c5_ff x0 x1 x2 x3 f0 f1 f2 f3 hpre)⟩, (lw4f_c6_ff x0 x1 x2 x3 f0 f1 f2 f3 hpre)⟩, lw4f_g0⟩, lw4f_g2⟩, lw4f_g7⟩, (lw4f_c7_ff x0 x1 x2 x3 f0 f1 f2 f3 hpre)⟩, (lw4f_c7_ff x0 x1 x2 x3 f0 f1 f2 f3 hpre)⟩, (lw4f_c7_ff x0 x1 x2 x3 f0 f1 f2 f3 hpre)⟩, (lw4f_c7_ff x0 x1 x2 x3 f0 f1 f2 f3 hpre)⟩, (lw4f_c8_ff x0 x1 x2 x3 f0 f1 f2 f3 hpre)⟩, lw4f_g0⟩, lw4f_g2⟩, lw4f_g17⟩, lw4f_g0⟩, lw4f_g0⟩, lw4f_g0⟩, lw4f_g0⟩, lw4f_g18⟩, lw4f_g0⟩, lw4f_g0⟩, lw4f_g0⟩, lw4f_g17⟩, lw4f_g0⟩, lw4f_g0⟩, lw4f_g0⟩, lw4f_g19⟩, lw4f_g20⟩, lw4f_g20⟩, lw4f_g3⟩, lw4f_g17⟩, lw4f_g20⟩, lw4f_g20⟩
def lw4f_z3 (P : Prop) (x0 x1 x2 x3 f0 f1 f2 f3 : Int) : Prop := ((((((((((((P ∧ (lw4f_c9 x0 x1 x2 x3 f0 f1 f2 f3 = false)) ∧ lw4f_h2) ∧ lw4f_h3) ∧ lw4f_h3) ∧ lw4f_h17) ∧ (lw4f_c10 x0 x1 x2 x3 f0 f1 f2 f3 = true)) ∧ lw4f_h0) ∧ lw4f_h0) ∧ lw4f_h0) ∧ lw4f_h0) ∧ lw4f_h23) ∧ lw4f_h2)
theorem lw4f_z3_h {P : Prop} (h : P) (x0 x1 x2 x3 f0 f1 f2 f3 : Int) (hpre : True) (k0 : (lw4f_c9 x0 x1 x2 x3 f0 f1 f2 f3 = false)) (k1 : (lw4f_c10 x0 x1 x2 x3 f0 f1 f2 f3 = true)) : lw4f_z3 P x0 x1 x2 x3 f0 f1 f2 f3 := ⟨⟨⟨⟨⟨⟨⟨⟨⟨⟨⟨⟨h, k0⟩, lw4f_g2⟩, lw4f_g3⟩, lw4f_g3⟩, lw4f_g17⟩, k1⟩, lw4f_g0⟩, lw4f_g0⟩, lw4f_g0⟩, lw4f_g0⟩, lw4f_g23⟩, lw4f_g2⟩
def lw4f_z4 (P : Prop) (x0 x1 x2 x3 f0 f1 f2 f3 : Int) : Prop := ((((((((((((P ∧ (lw4f_c0 x0 x1 x2 x3 f0 f1 f2 f3 = true)) ∧ (lw4f_c0 x0 x1 x2 x3 f0 f1 f2 f3 = true)) ∧ (lw4f_c0 x0 x1 x2 x3 f0 f1 f2 f3 = true)) ∧ lw4f_h4) ∧ (lw4f_c0 x0 x1 x2 x3 f0 f1 f2 f3 = true)) ∧ (lw4f_c0 x0 x1 x2 x3 f0 f1 f2 f3 = true)) ∧ (lw4f_c0 x0 x1 x2 x3 f0 f1 f2 f3 = true)) ∧ lw4f_h2) ∧ lw4f_h6) ∧ lw4f_h0) ∧ lw4f_h6) ∧ lw4f_h0)
theorem lw4f_z4_h {P : Prop} (h : P) (x0 x1 x2 x3 f0 f1 f2 f3 : Int) (hpre : True) (k0 : (lw4f_c0 x0 x1 x2 x3 f0 f1 f2 f3 = true)) : lw4f_z4 P x0 x1 x2 x3 f0 f1 f2 f3 := ⟨⟨⟨⟨⟨⟨⟨⟨⟨⟨⟨⟨h, k0⟩, k0⟩, k0⟩, lw4f_g4⟩, k0⟩, k0⟩, k0⟩, lw4f_g2⟩, lw4f_g6⟩, lw4f_g0⟩, lw4f_g6⟩, lw4f_g0⟩
def lw4f_z5 (P : Prop) (x0 x1 x2 x3 f0 f1 f2 f3 : Int) : Prop := (((((((((((((((((P ∧ (lw4f_c11 x0 x1 x2 x3 f0 f1 f2 f3 = false)) ∧ (lw4f_c11 x0 x1 x2 x3 f0 f1 f2 f3 = false)) ∧ (lw4f_c11 x0 x1 x2 x3 f0 f1 f2 f3 = false)) ∧ (lw4f_c11 x0 x1 x2 x3 f0 f1 f2 f3 = false)) ∧ (lw4f_c11 x0 x1 x2 x3 f0 f1 f2 f3 = false)) ∧ (lw4f_c11 x0 x1 x2 x3 f0 f1 f2 f3 = false)) ∧ lw4f_h2) ∧ lw4f_h7) ∧ lw4f_h0) ∧ lw4f_h7) ∧ lw4f_h0) ∧ lw4f_h0) ∧ lw4f_h0) ∧ lw4f_h0) ∧ lw4f_h0) ∧ lw4f_h0) ∧ lw4f_h0)
theorem lw4f_z5_h {P : Prop} (h : P) (x0 x1 x2 x3 f0 f1 f2 f3 : Int) (hpre : True) (k0 : (lw4f_c11 x0 x1 x2 x3 f0 f1 f2 f3 = false)) : lw4f_z5 P x0 x1 x2 x3 f0 f1 f2 f3 := ⟨⟨⟨⟨⟨⟨⟨⟨⟨⟨⟨⟨⟨⟨⟨⟨⟨h, k0⟩, k0⟩, k0⟩, k0⟩, k0⟩, k0⟩, lw4f_g2⟩, lw4f_g7⟩, lw4f_g0⟩, lw4f_g7⟩, lw4f_g0⟩, lw4f_g0⟩, lw4f_g0⟩, lw4f_g0⟩, lw4f_g0⟩, lw4f_g0⟩, lw4f_g0⟩
def lw4f_z6 (P : Prop) (x0 x1 x2 x3 f0 f1 f2 f3 : Int) : Prop := (((((((((((((((((((((((((((((((((P ∧ (lw4f_c9 x0 x1 x2 x3 f0 f1 f2 f3 = true)) ∧ lw4f_h19) ∧ lw4f_h2) ∧ lw4f_h17) ∧ lw4f_h3) ∧ lw4f_h3) ∧ lw4f_h7) ∧ lw4f_h3) ∧ lw4f_h2) ∧ lw4f_h17) ∧ lw4f_h4) ∧ lw4f_h3) ∧ lw4f_h6) ∧ lw4f_h4) ∧ lw4f_h2) ∧ lw4f_h17) ∧ lw4f_h6) ∧ lw4f_h3) ∧ lw4f_h4) ∧ lw4f_h6) ∧ lw4f_h2) ∧ lw4f_h17) ∧ lw4f_h7) ∧ lw4f_h3) ∧ lw4f_h3) ∧ lw4f_h7) ∧ lw4f_h0) ∧ lw4f_h27) ∧ lw4f_h27) ∧ lw4f_h3) ∧ lw4f_h7) ∧ lw4f_h27) ∧ lw4f_h27)
theorem lw4f_z6_h {P : Prop} (h : P) (x0 x1 x2 x3 f0 f1 f2 f3 : Int) (hpre : True) (k0 : (lw4f_c9 x0 x1 x2 x3 f0 f1 f2 f3 = true)) : lw4f_z6 P x0 x1 x2 x3 f0 f1 f2 f3 := ⟨⟨⟨⟨⟨⟨⟨⟨⟨⟨⟨⟨⟨⟨⟨⟨⟨⟨⟨⟨⟨⟨⟨⟨⟨⟨⟨⟨⟨⟨⟨⟨⟨h, k0⟩, lw4f_g19⟩, lw4f_g2⟩, lw4f_g17⟩, lw4f_g3⟩, lw4f_g3⟩, lw4f_g7⟩, lw4f_g3⟩, lw4f_g2⟩, lw4f_g17⟩, lw4f_g4⟩, lw4f_g3⟩, lw4f_g6⟩, lw4f_g4⟩, lw4f_g2⟩, lw4f_g17⟩, lw4f_g6⟩, lw4f_g3⟩, lw4f_g4⟩, lw4f_g6⟩, lw4f_g2⟩, lw4f_g17⟩, lw4f_g7⟩, lw4f_g3⟩, lw4f_g3⟩, lw4f_g7⟩, lw4f_g0⟩, lw4f_g27⟩, lw4f_g27⟩, lw4f_g3⟩, lw4f_g7⟩, lw4f_g27⟩, lw4f_g27⟩
def lw4f_z7 (P : Prop) (x0 x1 x2 x3 f0 f1 f2 f3 : Int) : Prop := (P ∧ (lw4f_c12 x0 x1 x2 x3 f0 f1 f2 f3 = false))
theorem lw4f_z7_h {P : Prop} (h : P) (x0 x1 x2 x3 f0 f1 f2 f3 : Int) (hpre : True) (k0 : (lw4f_c12 x0 x1 x2 x3 f0 f1 f2 f3 = false)) : lw4f_z7 P x0 x1 x2 x3 f0 f1 f2 f3 := ⟨h, k0⟩
def lw4f_z8 (P : Prop) (x0 x1 x2 x3 f0 f1 f2 f3 : Int) : Prop := (((((((((P ∧ lw4f_h2) ∧ lw4f_h3) ∧ lw4f_h3) ∧ lw4f_h17) ∧ (lw4f_c10 x0 x1 x2 x3 f0 f1 f2 f3 = false)) ∧ lw4f_h2) ∧ lw4f_h4) ∧ lw4f_h3) ∧ lw4f_h7)
theorem lw4f_z8_h {P : Prop} (h : P) (x0 x1 x2 x3 f0 f1 f2 f3 : Int) (hpre : True) (k0 : (lw4f_c10 x0 x1 x2 x3 f0 f1 f2 f3 = false)) : lw4f_z8 P x0 x1 x2 x3 f0 f1 f2 f3 := ⟨⟨⟨⟨⟨⟨⟨⟨⟨h, lw4f_g2⟩, lw4f_g3⟩, lw4f_g3⟩, lw4f_g17⟩, k0⟩, lw4f_g2⟩, lw4f_g4⟩, lw4f_g3⟩, lw4f_g7⟩
def lw4f_z9 (P : Prop) (x0 x1 x2 x3 f0 f1 f2 f3 : Int) : Prop := (((((((P ∧ (lw4f_c13 x0 x1 x2 x3 f0 f1 f2 f3 = true)) ∧ lw4f_h0) ∧ lw4f_h0) ∧ lw4f_h0) ∧ lw4f_h0) ∧ lw4f_h31) ∧ lw4f_h2)
theorem lw4f_z9_h {P : Prop} (h : P) (x0 x1 x2 x3 f0 f1 f2 f3 : Int) (hpre : True) (k0 : (lw4f_c13 x0 x1 x2 x3 f0 f1 f2 f3 = true)) : lw4f_z9 P x0 x1 x2 x3 f0 f1 f2 f3 := ⟨⟨⟨⟨⟨⟨⟨h, k0⟩, lw4f_g0⟩, lw4f_g0⟩, lw4f_g0⟩, lw4f_g0⟩, lw4f_g31⟩, lw4f_g2⟩
def lw4f_z10 (P : Prop) (x0 x1 x2 x3 f0 f1 f2 f3 : Int) : Prop := ((((((((((((P ∧ (lw4f_c11 x0 x1 x2 x3 f0 f1 f2 f3 = true)) ∧ (lw4f_c11 x0 x1 x2 x3 f0 f1 f2 f3 = true)) ∧ (lw4f_c11 x0 x1 x2 x3 f0 f1 f2 f3 = true)) ∧ lw4f_h6) ∧ (lw4f_c11 x0 x1 x2 x3 f0 f1 f2 f3 = true)) ∧ (lw4f_c11 x0 x1 x2 x3 f0 f1 f2 f3 = true)) ∧ (lw4f_c11 x0 x1 x2 x3 f0 f1 f2 f3 = true)) ∧ lw4f_h2) ∧ lw4f_h7) ∧ lw4f_h0) ∧ lw4f_h7) ∧ lw4f_h0)
theorem lw4f_z10_h {P : Prop} (h : P) (x0 x1 x2 x3 f0 f1 f2 f3 : Int) (hpre : True) (k0 : (lw4f_c11 x0 x1 x2 x3 f0 f1 f2 f3 = true)) : lw4f_z10 P x0 x1 x2 x3 f0 f1 f2 f3 := ⟨⟨⟨⟨⟨⟨⟨⟨⟨⟨⟨⟨h, k0⟩, k0⟩, k0⟩, lw4f_g6⟩, k0⟩, k0⟩, k0⟩, lw4f_g2⟩, lw4f_g7⟩, lw4f_g0⟩, lw4f_g7⟩, lw4f_g0⟩
def lw4f_z11 (P : Prop) (x0 x1 x2 x3 f0 f1 f2 f3 : Int) : Prop := ((((((P ∧ (lw4f_c14 x0 x1 x2 x3 f0 f1 f2 f3 = false)) ∧ (lw4f_c14 x0 x1 x2 x3 f0 f1 f2 f3 = false)) ∧ (lw4f_c14 x0 x1 x2 x3 f0 f1 f2 f3 = false)) ∧ (lw4f_c14 x0 x1 x2 x3 f0 f1 f2 f3 = false)) ∧ (lw4f_c14 x0 x1 x2 x3 f0 f1 f2 f3 = false)) ∧ (lw4f_c14 x0 x1 x2 x3 f0 f1 f2 f3 = false))
theorem lw4f_z11_h {P : Prop} (h : P) (x0 x1 x2 x3 f0 f1 f2 f3 : Int) (hpre : True) (k0 : (lw4f_c14 x0 x1 x2 x3 f0 f1 f2 f3 = false)) : lw4f_z11 P x0 x1 x2 x3 f0 f1 f2 f3 := ⟨⟨⟨⟨⟨⟨h, k0⟩, k0⟩, k0⟩, k0⟩, k0⟩, k0⟩
def lw4f_z12 (P : Prop) (x0 x1 x2 x3 f0 f1 f2 f3 : Int) : Prop := (((((((((((((((((((((((((((P ∧ (lw4f_c12 x0 x1 x2 x3 f0 f1 f2 f3 = true)) ∧ lw4f_h19) ∧ lw4f_h2) ∧ lw4f_h7) ∧ lw4f_h3) ∧ lw4f_h3) ∧ lw4f_h6) ∧ lw4f_h3) ∧ lw4f_h2) ∧ lw4f_h7) ∧ lw4f_h4) ∧ lw4f_h3) ∧ lw4f_h4) ∧ lw4f_h4) ∧ lw4f_h2) ∧ lw4f_h7) ∧ lw4f_h6) ∧ lw4f_h3) ∧ lw4f_h3) ∧ lw4f_h6) ∧ lw4f_h0) ∧ lw4f_h35) ∧ lw4f_h35) ∧ lw4f_h3) ∧ lw4f_h6) ∧ lw4f_h35) ∧ lw4f_h35)
theorem lw4f_z12_h {P : Prop} (h : P) (x0 x1 x2 x3 f0 f1 f2 f3 : Int) (hpre : True) (k0 : (lw4f_c12 x0 x1 x2 x3 f0 f1 f2 f3 = true)) : lw4f_z12 P x0 x1 x2 x3 f0 f1 f2 f3 := ⟨⟨⟨⟨⟨⟨⟨⟨⟨⟨⟨⟨⟨⟨⟨⟨⟨⟨⟨⟨⟨⟨⟨⟨⟨⟨⟨h, k0⟩, lw4f_g19⟩, lw4f_g2⟩, lw4f_g7⟩, lw4f_g3⟩, lw4f_g3⟩, lw4f_g6⟩, lw4f_g3⟩, lw4f_g2⟩, lw4f_g7⟩, lw4f_g4⟩, lw4f_g3⟩, lw4f_g4⟩, lw4f_g4⟩, lw4f_g2⟩, lw4f_g7⟩, lw4f_g6⟩, lw4f_g3⟩, lw4f_g3⟩, lw4f_g6⟩, lw4f_g0⟩, lw4f_g35⟩, lw4f_g35⟩, lw4f_g3⟩, lw4f_g6⟩, lw4f_g35⟩, lw4f_g35⟩
def lw4f_z13 (P : Prop) (x0 x1 x2 x3 f0 f1 f2 f3 : Int) : Prop := (P ∧ (lw4f_c15 x0 x1 x2 x3 f0 f1 f2 f3 = false))
theorem lw4f_z13_h {P : Prop} (h : P) (x0 x1 x2 x3 f0 f1 f2 f3 : Int) (hpre : True) (k0 : (lw4f_c15 x0 x1 x2 x3 f0 f1 f2 f3 = false)) : lw4f_z13 P x0 x1 x2 x3 f0 f1 f2 f3 := ⟨h, k0⟩
def lw4f_z14 (P : Prop) (x0 x1 x2 x3 f0 f1 f2 f3 : Int) : Prop := (((((P ∧ (lw4f_c13 x0 x1 x2 x3 f0 f1 f2 f3 = false)) ∧ lw4f_h2) ∧ lw4f_h6) ∧ lw4f_h3) ∧ lw4f_h6)
theorem lw4f_z14_h {P : Prop} (h : P) (x0 x1 x2 x3 f0 f1 f2 f3 : Int) (hpre : True) (k0 : (lw4f_c13 x0 x1 x2 x3 f0 f1 f2 f3 = false)) : lw4f_z14 P x0 x1 x2 x3 f0 f1 f2 f3 := ⟨⟨⟨⟨⟨h, k0⟩, lw4f_g2⟩, lw4f_g6⟩, lw4f_g3⟩, lw4f_g6⟩
def lw4f_z15 (P : Prop) (x0 x1 x2 x3 f0 f1 f2 f3 : Int) : Prop := (((((((P ∧ (lw4f_c16 x0 x1 x2 x3 f0 f1 f2 f3 = true)) ∧ lw4f_h0) ∧ lw4f_h0) ∧ lw4f_h0) ∧ lw4f_h0) ∧ lw4f_h39) ∧ lw4f_h2)
theorem lw4f_z15_h {P : Prop} (h : P) (x0 x1 x2 x3 f0 f1 f2 f3 : Int) (hpre : True) (k0 : (lw4f_c16 x0 x1 x2 x3 f0 f1 f2 f3 = true)) : lw4f_z15 P x0 x1 x2 x3 f0 f1 f2 f3 := ⟨⟨⟨⟨⟨⟨⟨h, k0⟩, lw4f_g0⟩, lw4f_g0⟩, lw4f_g0⟩, lw4f_g0⟩, lw4f_g39⟩, lw4f_g2⟩
def lw4f_z16 (P : Prop) (x0 x1 x2 x3 f0 f1 f2 f3 : Int) : Prop := (((((((P ∧ (lw4f_c14 x0 x1 x2 x3 f0 f1 f2 f3 = true)) ∧ (lw4f_c14 x0 x1 x2 x3 f0 f1 f2 f3 = true)) ∧ (lw4f_c14 x0 x1 x2 x3 f0 f1 f2 f3 = true)) ∧ lw4f_h7) ∧ (lw4f_c14 x0 x1 x2 x3 f0 f1 f2 f3 = true)) ∧ (lw4f_c14 x0 x1 x2 x3 f0 f1 f2 f3 = true)) ∧ (lw4f_c14 x0 x1 x2 x3 f0 f1 f2 f3 = true))
theorem lw4f_z16_h {P : Prop} (h : P) (x0 x1 x2 x3 f0 f1 f2 f3 : Int) (hpre : True) (k0 : (lw4f_c14 x0 x1 x2 x3 f0 f1 f2 f3 = true)) : lw4f_z16 P x0 x1 x2 x3 f0 f1 f2 f3 := ⟨⟨⟨⟨⟨⟨⟨h, k0⟩, k0⟩, k0⟩, lw4f_g7⟩, k0⟩, k0⟩, k0⟩
def lw4f_z17 (P : Prop) (x0 x1 x2 x3 f0 f1 f2 f3 : Int) : Prop := ((((((((((((((((((((P ∧ (lw4f_c15 x0 x1 x2 x3 f0 f1 f2 f3 = true)) ∧ lw4f_h19) ∧ lw4f_h2) ∧ lw4f_h6) ∧ lw4f_h3) ∧ lw4f_h3) ∧ lw4f_h4) ∧ lw4f_h3) ∧ lw4f_h2) ∧ lw4f_h6) ∧ lw4f_h4) ∧ lw4f_h3) ∧ lw4f_h3) ∧ lw4f_h4) ∧ lw4f_h0) ∧ lw4f_h42) ∧ lw4f_h42) ∧ lw4f_h42) ∧ lw4f_h42) ∧ lw4f_h0)
theorem lw4f_z17_h {P : Prop} (h : P) (x0 x1 x2 x3 f0 f1 f2 f3 : Int) (hpre : True) (k0 : (lw4f_c15 x0 x1 x2 x3 f0 f1 f2 f3 = true)) : lw4f_z17 P x0 x1 x2 x3 f0 f1 f2 f3 := ⟨⟨⟨⟨⟨⟨⟨⟨⟨⟨⟨⟨⟨⟨⟨⟨⟨⟨⟨⟨h, k0⟩, lw4f_g19⟩, lw4f_g2⟩, lw4f_g6⟩, lw4f_g3⟩, lw4f_g3⟩, lw4f_g4⟩, lw4f_g3⟩, lw4f_g2⟩, lw4f_g6⟩, lw4f_g4⟩, lw4f_g3⟩, lw4f_g3⟩, lw4f_g4⟩, lw4f_g0⟩, lw4f_g42⟩, lw4f_g42⟩, lw4f_g42⟩, lw4f_g42⟩, lw4f_g0⟩
def lw4f_z18 (P : Prop) (x0 x1 x2 x3 f0 f1 f2 f3 : Int) : Prop := (((((P ∧ (lw4f_c16 x0 x1 x2 x3 f0 f1 f2 f3 = false)) ∧ lw4f_h2) ∧ lw4f_h7) ∧ lw4f_h3) ∧ lw4f_h4)
theorem lw4f_z18_h {P : Prop} (h : P) (x0 x1 x2 x3 f0 f1 f2 f3 : Int) (hpre : True) (k0 : (lw4f_c16 x0 x1 x2 x3 f0 f1 f2 f3 = false)) : lw4f_z18 P x0 x1 x2 x3 f0 f1 f2 f3 := ⟨⟨⟨⟨⟨h, k0⟩, lw4f_g2⟩, lw4f_g7⟩, lw4f_g3⟩, lw4f_g4⟩
def lw4f_z19 (P : Prop) (x0 x1 x2 x3 f0 f1 f2 f3 : Int) : Prop := (((((((P ∧ (lw4f_c17 x0 x1 x2 x3 f0 f1 f2 f3 = true)) ∧ lw4f_h0) ∧ lw4f_h0) ∧ lw4f_h0) ∧ lw4f_h0) ∧ (lw4f_c18 x0 x1 x2 x3 f0 f1 f2 f3 = false)) ∧ (lw4f_c19 x0 x1 x2 x3 f0 f1 f2 f3 = true))
theorem lw4f_z19_h {P : Prop} (h : P) (x0 x1 x2 x3 f0 f1 f2 f3 : Int) (hpre : True) (k0 : (lw4f_c17 x0 x1 x2 x3 f0 f1 f2 f3 = true)) (k1 : (lw4f_c18 x0 x1 x2 x3 f0 f1 f2 f3 = false)) (k2 : (lw4f_c19 x0 x1 x2 x3 f0 f1 f2 f3 = true)) : lw4f_z19 P x0 x1 x2 x3 f0 f1 f2 f3 := ⟨⟨⟨⟨⟨⟨⟨h, k0⟩, lw4f_g0⟩, lw4f_g0⟩, lw4f_g0⟩, lw4f_g0⟩, k1⟩, k2⟩
def lw4f_z20 (P : Prop) (x0 x1 x2 x3 f0 f1 f2 f3 : Int) : Prop := ((((((((((((((((((((((((((((((((((((((((((((((((((((((((((((((((((((((((((((((((((((((((((((((((((((((((((((((((((((((((((((((((((((((((((((((((((((((((((((((((((((((((((((((((((((((((((((((((((((((((((((((((((((((((((((((((((((((((((((((((((((((((((((((((((((((((((((((((((((((((((((((((((((((((((((((((((((((((((((((((P ∧ (lw4f_c17 x0 x1 x2 x3 f0 f1 f2 f3 = false)) ∧ lw4f_h0) ∧ lw4f_h0) ∧ lw4f_h0) ∧ lw4f_h0) ∧ lw4f_h0) ∧ (lw4f_c20 x0 x1 x2 x3 f0 f1 f2 f3 = false)) ∧ (lw4f_c19 x0 x1 x2 x3 f0 f1 f2 f3 = false)) ∧ lw4f_h0) ∧ lw4f_h8) ∧ lw4f_h2) ∧ lw4f_h3) ∧ (lw4f_c1 x0 x1 x2 x3 f0 f1 f2 f3 = false)) ∧ (lw4f_c1 x0 x1 x2 x3 f0 f1 f2 f3 = false)) ∧ (lw4f_c1 x0 x1 x2 x3 f0 f1 f2 f3 = false)) ∧ (lw4f_c1 x0 x1 x2 x3 f0 f1 f2 f3 = false)) ∧ (lw4f_c2 x0 x1 x2 x3 f0 f1 f2 f3 = false)) ∧ lw4f_h0) ∧ lw4f_h2) ∧ lw4f_h4) ∧ (lw4f_c3 x0 x1 x2 x3 f0 f1 f2 f3 = false)) ∧ (lw4f_c3 x0 x1 x2 x3 f0 f1 f2 f3 = false)) ∧ (lw4f_c3 x0 x1 x2 x3 f0 f1 f2 f3 = false)) ∧ (lw4f_c3 x0 x1 x2 x3 f0 f1 f2 f3 = false)) ∧ (lw4f_c4 x0 x1 x2 x3 f0 f1 f2 f3 = false)) ∧ lw4f_h0) ∧ lw4f_h2) ∧ lw4f_h6) ∧ (lw4f_c5 x0 x1 x2 x3 f0 f1 f2 f3 = false)) ∧ (lw4f_c5 x0 x1 x2 x3 f0 f1 f2 f3 = false)) ∧ (lw4f_c5 x0 x1 x2 x3 f0 f1 f2 f3 = false)) ∧ (lw4f_c5 x0 x1 x2 x3 f0 f1 f2 f3 = false)) ∧ (lw4f_c6 x0 x1 x2 x3 f0 f1 f2 f3 = false)) ∧ lw4f_h0) ∧ lw4f_h2) ∧ lw4f_h7) ∧ (lw4f_c7 x0 x1 x2 x3 f0 f1 f2 f3 = false)) ∧ (lw4f_c7 x0 x1 x2 x3 f0 f1 f2 f3 = false)) ∧ (lw4f_c7 x0 x1 x2 x3 f0 f1 f2 f3 = false)) ∧ (lw4f_c7 x0 x1 x2 x3 f0 f1 f2 f3 = false)) ∧ (lw4f_c8 x0 x1 x2 x3 f0 f1 f2 f3 = false)) ∧ lw4f_h0) ∧ lw4f_h2) ∧ lw4f_h17) ∧ lw4f_h0) ∧ lw4f_h0) ∧ lw4f_h0) ∧ lw4f_h0) ∧ lw4f_h18) ∧ lw4f_h0) ∧ lw4f_h0) ∧ lw4f_h0) ∧ lw4f_h17) ∧ lw4f_h0) ∧ lw4f_h0) ∧ lw4f_h0) ∧ lw4f_h2) ∧ lw4f_h3) ∧ (lw4f_c21 x0 x1 x2 x3 f0 f1 f2 f3 = false)) ∧ (lw4f_c21 x0 x1 x2 x3 f0 f1 f2 f3 = false)) ∧ (lw4f_c21 x0 x1 x2 x3 f0 f1 f2 f3 = false)) ∧ (lw4f_c21 x0 x1 x2 x3 f0 f1 f2 f3 = false)) ∧ (lw4f_c22 x0 x1 x2 x3 f0 f1 f2 f3 = false)) ∧ lw4f_h0) ∧ lw4f_h2) ∧ lw4f_h4) ∧ (lw4f_c23 x0 x1 x2 x3 f0 f1 f2 f3 = false)) ∧ (lw4f_c23 x0 x1 x2 x3 f0 f1 f2 f3 = false)) ∧ (lw4f_c23 x0 x1 x2 x3 f0 f1 f2 f3 = false)) ∧ (lw4f_c23 x0 x1 x2 x3 f0 f1 f2 f3 = false)) ∧ (lw4f_c24 x0 x1 x2 x3 f0 f1 f2 f3 = false)) ∧ lw4f_h0) ∧ lw4f_h2) ∧ lw4f_h6) ∧ (lw4f_c25 x0 x1 x2 x3 f0 f1 f2 f3 = false)) ∧ (lw4f_c25 x0 x1 x2 x3 f0 f1 f2 f3 = false)) ∧ (lw4f_c25 x0 x1 x2 x3 f0 f1 f2 f3 = false)) ∧ (lw4f_c25 x0 x1 x2 x3 f0 f1 f2 f3 = false)) ∧ (lw4f_c26 x0 x1 x2 x3 f0 f1 f2 f3 = false)) ∧ lw4f_h0) ∧ lw4f_h2) ∧ lw4f_h7) ∧ (lw4f_c27 x0 x1 x2 x3 f0 f1 f2 f3 = false)) ∧ (lw4f_c27 x0 x1 x2 x3 f0 f1 f2 f3 = false)) ∧ (lw4f_c27 x0 x1 x2 x3 f0 f1 f2 f3 = false)) ∧ (lw4f_c27 x0 x1 x2 x3 f0 f1 f2 f3 = false)) ∧ (lw4f_c28 x0 x1 x2 x3 f0 f1 f2 f3 = false)) ∧ lw4f_h0) ∧ lw4f_h0) ∧ lw4f_h0) ∧ lw4f_h0) ∧ lw4f_h0) ∧ lw4f_h0) ∧ lw4f_h58) ∧ lw4f_h2) ∧ lw4f_h3) ∧ lw4f_h0) ∧ lw4f_h2) ∧ lw4f_h4) ∧ lw4f_h0) ∧ lw4f_h2) ∧ lw4f_h6) ∧ lw4f_h0) ∧ lw4f_h0) ∧ lw4f_h0) ∧ lw4f_h2) ∧ lw4f_h3) ∧ lw4f_h17) ∧ lw4f_h0) ∧ lw4f_h3) ∧ lw4f_h2) ∧ lw4f_h4) ∧ lw4f_h17) ∧ lw4f_h2) ∧ lw4f_h0) ∧ lw4f_h4) ∧ lw4f_h2) ∧ lw4f_h6) ∧ lw4f_h17) ∧ lw4f_h2) ∧ lw4f_h2) ∧ lw4f_h0) ∧ lw4f_h6) ∧ lw4f_h2) ∧ lw4f_h7) ∧ lw4f_h17) ∧ lw4f_h2) ∧ lw4f_h2) ∧ lw4f_h2) ∧ lw4f_h0) ∧ lw4f_h7) ∧ lw4f_h0) ∧ lw4f_h2) ∧ lw4f_h3) ∧ lw4f_h17) ∧ lw4f_h2) ∧ lw4f_h2) ∧ lw4f_h2) ∧ lw4f_h0) ∧ lw4f_h3) ∧ lw4f_h2) ∧ lw4f_h4) ∧ lw4f_h17) ∧ lw4f_h2) ∧ lw4f_h2) ∧ lw4f_h0) ∧ lw4f_h4) ∧ lw4f_h2) ∧ lw4f_h6) ∧ lw4f_h17) ∧ lw4f_h2) ∧ lw4f_h0) ∧ lw4f_h6) ∧ lw4f_h2) ∧ lw4f_h7) ∧ lw4f_h17) ∧ lw4f_h0) ∧ lw4f_h7) ∧ lw4f_h0) ∧ lw4f_h2) ∧ lw4f_h3) ∧ lw4f_h3) ∧ lw4f_h2) ∧ lw4f_h4) ∧ lw4f_h4) ∧ lw4f_h2) ∧ lw4f_h6) ∧ lw4f_h6) ∧ lw4f_h2) ∧ lw4f_h7) ∧ lw4f_h7) ∧ lw4f_h0) ∧ lw4f_h2) ∧ lw4f_h2) ∧ lw4f_h3) ∧ lw4f_h3) ∧ lw4f_h2) ∧ lw4f_h4) ∧ lw4f_h4) ∧ lw4f_h2) ∧ lw4f_h6) ∧ lw4f_h6) ∧ lw4f_h2) ∧ lw4f_h7) ∧ lw4f_h7) ∧ lw4f_h0) ∧ (lw4f_c29 x0 x1 x2 x3 f0 f1 f2 f3 = false)) ∧ (lw4f_c29 x0 x1 x2 x3 f0 f1 f2 f3 = false)) ∧ (lw4f_c29 x0 x1 x2 x3 f0 f1 f2 f3 = false)) ∧ (lw4f_c29 x0 x1 x2 x3 f0 f1 f2 f3 = false)) ∧ (lw4f_c30 x0 x1 x2 x3 f0 f1 f2 f3 = false)) ∧ lw4f_h0) ∧ lw4f_h2) ∧ lw4f_h2) ∧ lw4f_h3) ∧ lw4f_h4) ∧ lw4f_h2) ∧ lw4f_h4) ∧ lw4f_h6) ∧ lw4f_h2) ∧ lw4f_h6) ∧ lw4f_h7) ∧ lw4f_h2) ∧ lw4f_h7) ∧ lw4f_h17) ∧ lw4f_h0) ∧ (lw4f_c31 x0 x1 x2 x3 f0 f1 f2 f3 = false)) ∧ (lw4f_c31 x0 x1 x2 x3 f0 f1 f2 f3 = false)) ∧ (lw4f_c31 x0 x1 x2 x3 f0 f1 f2 f3 = false)) ∧ (lw4f_c31 x0 x1 x2 x3 f0 f1 f2 f3 = false)) ∧ (lw4f_c32 x0 x1 x2 x3 f0 f1 f2 f3 = false)) ∧ lw4f_h0) ∧ lw4f_h2) ∧ lw4f_h2) ∧ lw4f_h3) ∧ lw4f_h6) ∧ lw4f_h2) ∧ lw4f_h4) ∧ lw4f_h7) ∧ lw4f_h2) ∧ lw4f_h6) ∧ lw4f_h17) ∧ lw4f_h2) ∧ lw4f_h7) ∧ lw4f_h63) ∧ lw4f_h0) ∧ (lw4f_c33 x0 x1 x2 x3 f0 f1 f2 f3 = false)) ∧ (lw4f_c33 x0 x1 x2 x3 f0 f1 f2 f3 = false)) ∧ (lw4f_c33 x0 x1 x2 x3 f0 f1 f2 f3 = false)) ∧ (lw4f_c33 x0 x1 x2 x3 f0 f1 f2 f3 = false)) ∧ (lw4f_c34 x0 x1 x2 x3 f0 f1 f2 f3 = false)) ∧ lw4f_h0) ∧ lw4f_h2) ∧ lw4f_h2) ∧ lw4f_h3) ∧ lw4f_h7) ∧ lw4f_h2) ∧ lw4f_h4) ∧ lw4f_h17) ∧ lw4f_h2) ∧ lw4f_h6) ∧ lw4f_h63) ∧ lw4f_h2) ∧ lw4f_h7) ∧ lw4f_h66) ∧ lw4f_h0) ∧ (lw4f_c35 x0 x1 x2 x3 f0 f1 f2 f3 = false)) ∧ (lw4f_c35 x0 x1 x2 x3 f0 f1 f2 f3 = false)) ∧ (lw4f_c35 x0 x1 x2 x3 f0 f1 f2 f3 = false)) ∧ (lw4f_c35 x0 x1 x2 x3 f0 f1 f2 f3 = false)) ∧ (lw4f_c36 x0 x1 x2 x3 f0 f1 f2 f3 = false)) ∧ lw4f_h0) ∧ lw4f_h2) ∧ lw4f_h2) ∧ lw4f_h3) ∧ lw4f_h17) ∧ lw4f_h2) ∧ lw4f_h4) ∧ lw4f_h63) ∧ lw4f_h2) ∧ lw4f_h6) ∧ lw4f_h66) ∧ lw4f_h2) ∧ lw4f_h7) ∧ lw4f_h69) ∧ lw4f_h0) ∧ (lw4f_c37 x0 x1 x2 x3 f0 f1 f2 f3 = false)) ∧ (lw4f_c37 x0 x1 x2 x3 f0 f1 f2 f3 = false)) ∧ (lw4f_c37 x0 x1 x2 x3 f0 f1 f2 f3 = false)) ∧ (lw4f_c37 x0 x1 x2 x3 f0 f1 f2 f3 = false)) ∧ (lw4f_c38 x0 x1 x2 x3 f0 f1 f2 f3 = false)) ∧ lw4f_h0) ∧ lw4f_h2) ∧ lw4f_h2) ∧ lw4f_h3) ∧ lw4f_h63) ∧ lw4f_h2) ∧ lw4f_h4) ∧ lw4f_h66) ∧ lw4f_h2) ∧ lw4f_h6) ∧ lw4f_h69) ∧ lw4f_h2) ∧ lw4f_h7) ∧ lw4f_h72) ∧ lw4f_h0) ∧ (lw4f_c39 x0 x1 x2 x3 f0 f1 f2 f3 = false)) ∧ (lw4f_c39 x0 x1 x2 x3 f0 f1 f2 f3 = false)) ∧ (lw4f_c39 x0 x1 x2 x3 f0 f1 f2 f3 = false)) ∧ (lw4f_c39 x0 x1 x2 x3 f0 f1 f2 f3 = false)) ∧ (lw4f_c40 x0 x1 x2 x3 f0 f1 f2 f3 = false)) ∧ lw4f_h0) ∧ lw4f_h0) ∧ lw4f_h0) ∧ lw4f_h0) ∧ lw4f_h0) ∧ lw4f_h0) ∧ lw4f_h0) ∧ lw4f_h0) ∧ lw4f_h0) ∧ lw4f_h0) ∧ lw4f_h2) ∧ lw4f_h3) ∧ (lw4f_c41 x0 x1 x2 x3 f0 f1 f2 f3 = false)) ∧ lw4f_h2) ∧ lw4f_h4) ∧ (lw4f_c42 x0 x1 x2 x3 f0 f1 f2 f3 = false)) ∧ lw4f_h2) ∧ lw4f_h6) ∧ (lw4f_c43 x0 x1 x2 x3 f0 f1 f2 f3 = false)) ∧ lw4f_h2) ∧ lw4f_h7) ∧ (lw4f_c44 x0 x1 x2 x3 f0 f1 f2 f3 = false)) ∧ lw4f_h2) ∧ lw4f_h17) ∧ (lw4f_c45 x0 x1 x2 x3 f0 f1 f2 f3 = false)) ∧ lw4f_h2) ∧ lw4f_h63) ∧ (lw4f_c46 x0 x1 x2 x3 f0 f1 f2 f3 = false)) ∧ lw4f_h0)
theorem lw4f_z20_h {P : Prop} (h : P) (x0 x1 x2 x3 f0 f1 f2 f3 : Int) (hpre : True) (k0 : (lw4f_c17 x0 x1 x2 x3 f0 f1 f2 f3 = false)) (k1 : (lw4f_c20 x0 x1 x2 x3 f0 f1 f2 f3 = false)) (k2 : (lw4f_c19 x0 x1 x2 x3 f0 f1 f2 f3 = false)) (k3 : (lw4f_c33 x0 x1 x2 x3 f0 f1 f2 f3 = false)) (k4 : (lw4f_c34 x0 x1 x2 x3 f0 f1 f2 f3 = false)) (k5 : (lw4f_c35 x0 x1 x2 x3 f0 f1 f2 f3 = false)) (k6 : (lw4f_c36 x0 x1 x2 x3 f0 f1 f2 f3 = false)) (k7 : (lw4f_c37 x0 x1 x2 x3 f0 f1 f2 f3 = false)) (k8 : (lw4f_c38 x0 x1 x2 x3 f0 f1 f2 f3 = false)) (k9 : (lw4f_c39 x0 x1 x2 x3 f0 f1 f2 f3 = false)) (k10 : (lw4f_c40 x0 x1 x2 x3 f0 f1 f2 f3 = false)) (k11 : (lw4f_c41 x0 x1 x2 x3 f0 f1 f2 f3 = false)) (k12 : (lw4f_c42 x0 x1 x2 x3 f0 f1 f2 f3 = false)) (k13 : (lw4f_c43 x0 x1 x2 x3 f0 f1 f2 f3 = false)) (k14 : (lw4f_c44 x0 x1 x2 x3 f0 f1 f2 f3 = false)) (k15 : (lw4f_c45 x0 x1 x2 x3 f0 f1 f2 f3 = false)) (k16 : (lw4f_c46 x0 x1 x2 x3 f0 f1 f2 f3 = false)) : lw4f_z20 P x0 x1 x2 x3 f0 f1 f2 f3 := ⟨⟨⟨⟨⟨⟨⟨⟨⟨⟨⟨⟨⟨⟨⟨⟨⟨⟨⟨⟨⟨⟨⟨⟨⟨⟨⟨⟨⟨⟨⟨⟨⟨⟨⟨⟨⟨⟨⟨⟨⟨⟨⟨⟨⟨⟨⟨⟨⟨⟨⟨⟨⟨⟨⟨⟨⟨⟨⟨⟨⟨⟨⟨⟨⟨⟨⟨⟨⟨⟨⟨⟨⟨⟨⟨⟨⟨⟨⟨⟨⟨⟨⟨⟨⟨⟨⟨⟨⟨⟨⟨⟨⟨⟨⟨⟨⟨⟨⟨⟨⟨⟨⟨⟨⟨⟨⟨⟨⟨⟨⟨⟨⟨⟨⟨⟨⟨⟨⟨⟨⟨⟨⟨⟨⟨⟨⟨⟨⟨⟨⟨⟨⟨⟨⟨⟨⟨⟨⟨⟨⟨⟨⟨⟨⟨⟨⟨⟨⟨⟨⟨⟨⟨⟨⟨⟨⟨⟨⟨⟨⟨⟨⟨⟨⟨⟨⟨⟨⟨⟨⟨⟨⟨⟨⟨⟨⟨⟨⟨⟨⟨⟨⟨⟨⟨⟨⟨⟨⟨⟨⟨⟨⟨⟨⟨⟨⟨⟨⟨⟨⟨⟨⟨⟨⟨⟨⟨⟨⟨⟨⟨⟨⟨⟨⟨⟨⟨⟨⟨⟨⟨⟨⟨⟨⟨⟨⟨⟨⟨⟨⟨⟨⟨⟨⟨⟨⟨⟨⟨⟨⟨⟨⟨⟨⟨⟨⟨⟨⟨⟨⟨⟨⟨⟨⟨⟨⟨⟨⟨⟨⟨⟨⟨⟨⟨⟨⟨⟨⟨⟨⟨⟨⟨⟨⟨⟨⟨⟨⟨⟨⟨⟨⟨⟨⟨⟨⟨⟨⟨⟨⟨⟨⟨⟨⟨⟨⟨⟨⟨⟨⟨⟨⟨⟨⟨⟨⟨⟨⟨⟨⟨⟨⟨⟨⟨⟨⟨⟨⟨⟨h, k0⟩, lw4f_g0⟩, lw4f_g0⟩, lw4f_g0⟩, lw4f_g0⟩, lw4f_g0⟩, k1⟩, k2⟩, lw4f_g0⟩, lw4f_g8⟩, lw4f_g2⟩, lw4f_g3⟩, (lw4f_c1_ff x0 x1 x2 x3 f0 f1 f2 f3 hpre)⟩, (lw4f_c1_ff x0 x1 x2 x3 f0 f1 f2 f3 hpre)⟩, (lw4f_c1_ff x0 x1 x2 x3 f0 f1 f2 f3 hpre)⟩, (lw4f_c1_ff x0 x1 x2 x3 f0 f1 f2 f3 hpre)⟩, (lw4f_c2_ff x0 x1 x2 x3 f0 f1 f2 f3 hpre)⟩, lw4f_g0⟩, lw4f_g2⟩, lw4f_g4⟩, (lw4f_c3_ff x0 x1 x2 x3 f0 f1 f2 f3 hpre)⟩, (lw4f_c3_ff x0 x1 x2 x3 f0 f1 f2 f3 hpre)⟩, (lw4f_c3_ff x0 x1 x2 x3 f0 f1 f2 f3 hpre)⟩, (lw4f_c3_ff x0 x1 x2 x3 f0 f1 f2 f3 hpre)⟩, (lw4f_c4_ff x0 x1 x2 x3 f0 f1 f2 f3 hpre)⟩, lw4f_g0⟩, lw4f_g2⟩, lw4f_g6⟩, (lw4f_c5_ff x0 x1 x2 x3 f0 f1 f2 f3 hpre)⟩, (lw4f_c5_ff x0 x1 x2 x3 f0 f1 f2 f3 hpre)⟩, (lw4f_c5_ff x0 x1 x2 x3 f0 f1 f2 f3 hpre)⟩, (lw4f_c5_ff x0 x1 x2 x3 f0 f1 f2 f3 hpre)⟩, (lw4f_c6_ff x0 x1 x2 x3 f0 f1 f2 f3 hpre)⟩, lw4f_g0⟩, lw4f_g2⟩, lw4f_g7⟩, (lw4f_c7_ff x0 x1 x2 x3 f0 f1 f2 f3 hpre)⟩, (lw4f_c7_ff x0 x1 x2 x3 f0 f1 f2 f3 hpre)⟩, (lw4f_c7_ff x0 x1 x2 x3 f0 f1 f2 f3 hpre)⟩, (lw4f_c7_ff x0 x1 x2 x3 f0 f1 f2 f3 hpre)⟩, (lw4f_c8_ff x0 x1 x2 x3 f0 f1 f2 f3 hpre)⟩, lw4f_g0⟩, lw4f_g2⟩, lw4f_g17⟩, lw4f_g0⟩, lw4f_g0⟩, lw4f_g0⟩, lw4f_g0⟩, lw4f_g18⟩, lw4f_g0⟩, lw4f_g0⟩, lw4f_g0⟩, lw4f_g17⟩, lw4f_g0⟩, lw4f_g0⟩, lw4f_g0⟩, lw4f_g2⟩, lw4f_g3⟩, (lw4f_c21_ff x0 x1 x2 x3 f0 f1 f2 f3 hpre)⟩, (lw4f_c21_ff x0 x1 x2 x3 f0 f1 f2 f3 hpre)⟩, (lw4f_c21_ff x0 x1 x2 x3 f0 f1 f2 f3 hpre)⟩, (lw4f_c21_ff x0 x1 x2 x3 f0 f1 f2 f3 hpre)⟩, (lw4f_c22_ff x0 x1 x2 x3 f0 f1 f2 f3 hpre)⟩, lw4f_g0⟩, lw4f_g2⟩, lw4f_g4⟩, (lw4f_c23_ff x0 x1 x2 x3 f0 f1 f2 f3 hpre)⟩, (lw4f_c23_ff x0 x1 x2 x3 f0 f1 f2 f3 hpre)⟩, (lw4f_c23_ff x0 x1 x2 x3 f0 f1 f2 f3 hpre)⟩, (lw4f_c23_ff x0 x1 x2 x3 f0 f1 f2 f3 hpre)⟩, (lw4f_c24_ff x0 x1 x2 x3 f0 f1 f2 f3 hpre)⟩, lw4f_g0⟩, lw4f_g2⟩, lw4f_g6⟩, (lw4f_c25_ff x0 x1 x2 x3 f0 f1 f2 f3 hpre)⟩, (lw4f_c25_ff x0 x1 x2 x3 f0 f1 f2 f3 hpre)⟩, (lw4f_c25_ff x0 x1 x2 x3 f0 f1 f2 f3 hpre)⟩, (lw4f_c25_ff x0 x1 x2 x3 f0 f1 f2 f3 hpre)⟩, (lw4f_c26_ff x0 x1 x2 x3 f0 f1 f2 f3 hpre)⟩, lw4f_g0⟩, lw4f_g2⟩, lw4f_g7⟩, (lw4f_c27_ff x0 x1 x2 x3 f0 f1 f2 f3 hpre)⟩, (lw4f_c27_ff x0 x1 x2 x3 f0 f1 f2 f3 hpre)⟩, (lw4f_c27_ff x0 x1 x2 x3 f0 f1 f2 f3 hpre)⟩, (lw4f_c27_ff x0 x1 x2 x3 f0 f1 f2 f3 hpre)⟩, (lw4f_c28_ff x0 x1 x2 x3 f0 f1 f2 f3 hpre)⟩, lw4f_g0⟩, lw4f_g0⟩, lw4f_g0⟩, lw4f_g0⟩, lw4f_g0⟩, lw4f_g0⟩, lw4f_g58⟩, lw4f_g2⟩, lw4f_g3⟩, lw4f_g0⟩, lw4f_g2⟩, lw4f_g4⟩, lw4f_g0⟩, lw4f_g2⟩, lw4f_g6⟩, lw4f_g0⟩, lw4f_g0⟩, lw4f_g0⟩, lw4f_g2⟩, lw4f_g3⟩, lw4f_g17⟩, lw4f_g0⟩, lw4f_g3⟩, lw4f_g2⟩, lw4f_g4⟩, lw4f_g17⟩, lw4f_g2⟩, lw4f_g0⟩, lw4f_g4⟩, lw4f_g2⟩, lw4f_g6⟩, lw4f_g17⟩, lw4f_g2⟩, lw4f_g2⟩, lw4f_g0⟩, lw4f_g6⟩, lw4f_g2⟩, lw4f_g7⟩, lw4f_g17⟩, lw4f_g2⟩, lw4f_g2⟩, lw4f_g2⟩, lw4f_g0⟩, lw4f_g7⟩, lw4f_g0⟩, lw4f_g2⟩, lw4f_g3⟩, lw4f_g17⟩, lw4f_g2⟩, lw4f_g2⟩, lw4f_g2⟩, lw4f_g0⟩, lw4f_g3⟩, lw4f_g2⟩, lw4f_g4⟩, lw4f_g17⟩, lw4f_g2⟩, lw4f_g2⟩, lw4f_g0⟩, lw4f_g4⟩, lw4f_g2⟩, lw4f_g6⟩, lw4f_g17⟩, lw4f_g2⟩, lw4f_g0⟩, lw4f_g6⟩, lw4f_g2⟩, lw4f_g7⟩, lw4f_g17⟩, lw4f_g0⟩, lw4f_g7⟩, lw4f_g0⟩, lw4f_g2⟩, lw4f_g3⟩, lw4f_g3⟩, lw4f_g2⟩, lw4f_g4⟩, lw4f_g4⟩, lw4f_g2⟩, lw4f_g6⟩, lw4f_g6⟩, lw4f_g2⟩, lw4f_g7⟩, lw4f_g7⟩, lw4f_g0⟩, lw4f_g2⟩, lw4f_g2⟩, lw4f_g3⟩, lw4f_g3⟩, lw4f_g2⟩, lw4f_g4⟩, lw4f_g4⟩, lw4f_g2⟩, lw4f_g6⟩, lw4f_g6⟩, lw4f_g2⟩, lw4f_g7⟩, lw4f_g7⟩, lw4f_g0⟩, (lw4f_c29_ff x0 x1 x2 x3 f0 f1 f2 f3 hpre)⟩, (lw4f_c29_ff x0 x1 x2 x3 f0 f1 f2 f3 hpre)⟩, (lw4f_c29_ff x0 x1 x2 x3 f0 f1 f2 f3 hpre)⟩, (lw4f_c29_ff x0 x1 x2 x3 f0 f1 f2 f3 hpre)⟩, (lw4f_c30_ff x0 x1 x2 x3 f0 f1 f2 f3 hpre)⟩, lw4f_g0⟩, lw4f_g2⟩, lw4f_g2⟩, lw4f_g3⟩, lw4f_g4⟩, lw4f_g2⟩, lw4f_g4⟩, lw4f_g6⟩, lw4f_g2⟩, lw4f_g6⟩, lw4f_g7⟩, lw4f_g2⟩, lw4f_g7⟩, lw4f_g17⟩, lw4f_g0⟩, (lw4f_c31_ff x0 x1 x2 x3 f0 f1 f2 f3 hpre)⟩, (lw4f_c31_ff x0 x1 x2 x3 f0 f1 f2 f3 hpre)⟩, (lw4f_c31_ff x0 x1 x2 x3 f0 f1 f2 f3 hpre)⟩, (lw4f_c31_ff x0 x1 x2 x3 f0 f1 f2 f3 hpre)⟩, (lw4f_c32_ff x0 x1 x2 x3 f0 f1 f2 f3 hpre)⟩, lw4f_g0⟩, lw4f_g2⟩, lw4f_g2⟩, lw4f_g3⟩, lw4f_g6⟩, lw4f_g2⟩, lw4f_g4⟩, lw4f_g7⟩, lw4f_g2⟩, lw4f_g6⟩, lw4f_g17⟩, lw4f_g2⟩, lw4f_g7⟩, lw4f_g63⟩, lw4f_g0⟩, k3⟩, k3⟩, k3⟩, k3⟩, k4⟩, lw4f_g0⟩, lw4f_g2⟩, lw4f_g2⟩, lw4f_g3⟩, lw4f_g7⟩, lw4f_g2⟩, lw4f_g4⟩, lw4f_g17⟩, lw4f_g2⟩, lw4f_g6⟩, lw4f_g63⟩, lw4f_g2⟩, lw4f_g7⟩, lw4f_g66⟩, lw4f_g0⟩, k5⟩, k5⟩, k5⟩, k5⟩, k6⟩, lw4f_g0⟩, lw4f_g2⟩, lw4f_g2⟩, lw4f_g3⟩, lw4f_g17⟩, lw4f_g2⟩, lw4f_g4⟩, lw4f_g63⟩, lw4f_g2⟩, lw4f_g6⟩, lw4f_g66⟩, lw4f_g2⟩, lw4f_g7⟩, lw4f_g69⟩, lw4f_g0⟩, k7⟩, k7⟩, k7⟩, k7⟩, k8⟩, lw4f_g0⟩, lw4f_g2⟩, lw4f_g2⟩, lw4f_g3⟩, lw4f_g63⟩, lw4f_g2⟩, lw4f_g4⟩, lw4f_g66⟩, lw4f_g2⟩, lw4f_g6⟩, lw4f_g69⟩, lw4f_g2⟩, lw4f_g7⟩, lw4f_g72⟩, lw4f_g0⟩, k9⟩, k9⟩, k9⟩, k9⟩, k10⟩, lw4f_g0⟩, lw4f_g0⟩, lw4f_g0⟩, lw4f_g0⟩, lw4f_g0⟩, lw4f_g0⟩, lw4f_g0⟩, lw4f_g0⟩, lw4f_g0⟩, lw4f_g0⟩, lw4f_g2⟩, lw4f_g3⟩, k11⟩, lw4f_g2⟩, lw4f_g4⟩, k12⟩, lw4f_g2⟩, lw4f_g6⟩, k13⟩, lw4f_g2⟩, lw4f_g7⟩, k14⟩, lw4f_g2⟩, lw4f_g17⟩, k15⟩, lw4f_g2⟩, lw4f_g63⟩, k16⟩, lw4f_g0⟩
def lw4f_r0 (x0 x1 x2 x3 f0 f1 f2 f3 : Int) : Prop := (lw4f_z3 (lw4f_z2 (lw4f_z1 (lw4f_z0 True x0 x1 x2 x3 f0 f1 f2 f3) x0 x1 x2 x3 f0 f1 f2 f3) x0 x1 x2 x3 f0 f1 f2 f3) x0 x1 x2 x3 f0 f1 f2 f3)
theorem lw4f_o0 (x0 x1 x2 x3 f0 f1 f2 f3 : Int) (c : Nat) : obY (lw4f_e0 x0 x1 x2 x3 f0 f1 f2 f3 c) = lw4f_r0 x0 x1 x2 x3 f0 f1 f2 f3 := by kernel_rfl
theorem lw4f_g0_ (x0 x1 x2 x3 f0 f1 f2 f3 : Int) (c : Nat) : goodY (lw4f_e0 x0 x1 x2 x3 f0 f1 f2 f3 c) = true := by kernel_rfl
theorem lw4f_p0 (x0 x1 x2 x3 f0 f1 f2 f3 : Int) (c : Nat) (h : lw4f_r0 x0 x1 x2 x3 f0 f1 f2 f3) : ∃ s1 R, SndF Tryz.prog 3 #[.slice (some ⟨6, 0, none⟩) 4 c, .bool false, .agg #[.int .i16 f0, .int .i16 f1, .int .i16 f2, .int .i16 f3]] (aw3S0.push (.cells [.int .i8 x0, .int .i8 x1, .int .i8 x2, .int .i8 x3] 0 true 0 true)) (.bool true) s1 R 0 :=
  sndY (r := lw4f_e0 x0 x1 x2 x3 f0 f1 f2 f3 c) (by delta lw4f_e0; exact Eq.refl _) gfol lw4f_X (lw4f_g0_ x0 x1 x2 x3 f0 f1 f2 f3 c) ((lw4f_o0 x0 x1 x2 x3 f0 f1 f2 f3 c).symm ▸ h)
def lw4f_r1 (x0 x1 x2 x3 f0 f1 f2 f3 : Int) : Prop := (lw4f_z9 (lw4f_z8 (lw4f_z7 (lw4f_z6 (lw4f_z2 (lw4f_z5 (lw4f_z4 (lw4f_z0 True x0 x1 x2 x3 f0 f1 f2 f3) x0 x1 x2 x3 f0 f1 f2 f3) x0 x1 x2 x3 f0 f1 f2 f3) x0 x1 x2 x3 f0 f1 f2 f3) x0 x1 x2 x3 f0 f1 f2 f3) x0 x1 x2 x3 f0 f1 f2 f3) x0 x1 x2 x3 f0 f1 f2 f3) x0 x1 x2 x3 f0 f1 f2 f3)
theorem lw4f_o1 (x0 x1 x2 x3 f0 f1 f2 f3 : Int) (c : Nat) : obY (lw4f_e1 x0 x1 x2 x3 f0 f1 f2 f3 c) = lw4f_r1 x0 x1 x2 x3 f0 f1 f2 f3 := by kernel_rfl
theorem lw4f_g1_ (x0 x1 x2 x3 f0 f1 f2 f3 : Int) (c : Nat) : goodY (lw4f_e1 x0 x1 x2 x3 f0 f1 f2 f3 c) = true := by kernel_rfl
theorem lw4f_p1 (x0 x1 x2 x3 f0 f1 f2 f3 : Int) (c : Nat) (h : lw4f_r1 x0 x1 x2 x3 f0 f1 f2 f3) : ∃ s1 R, SndF Tryz.prog 3 #[.slice (some ⟨6, 0, none⟩) 4 c, .bool false, .agg #[.int .i16 f0, .int .i16 f1, .int .i16 f2, .int .i16 f3]] (aw3S0.push (.cells [.int .i8 x0, .int .i8 x1, .int .i8 x2, .int .i8 x3] 0 true 0 true)) (.bool true) s1 R 0 :=
  sndY (r := lw4f_e1 x0 x1 x2 x3 f0 f1 f2 f3 c) (by delta lw4f_e1; exact Eq.refl _) gfol lw4f_X (lw4f_g1_ x0 x1 x2 x3 f0 f1 f2 f3 c) ((lw4f_o1 x0 x1 x2 x3 f0 f1 f2 f3 c).symm ▸ h)
def lw4f_r2 (x0 x1 x2 x3 f0 f1 f2 f3 : Int) : Prop := (lw4f_z15 (lw4f_z14 (lw4f_z8 (lw4f_z13 (lw4f_z12 (lw4f_z6 (lw4f_z2 (lw4f_z11 (lw4f_z10 (lw4f_z4 (lw4f_z0 True x0 x1 x2 x3 f0 f1 f2 f3) x0 x1 x2 x3 f0 f1 f2 f3) x0 x1 x2 x3 f0 f1 f2 f3) x0 x1 x2 x3 f0 f1 f2 f3) x0 x1 x2 x3 f0 f1 f2 f3) x0 x1 x2 x3 f0 f1 f2 f3) x0 x1 x2 x3 f0 f1 f2 f3) x0 x1 x2 x3 f0 f1 f2 f3) x0 x1 x2 x3 f0 f1 f2 f3) x0 x1 x2 x3 f0 f1 f2 f3) x0 x1 x2 x3 f0 f1 f2 f3)
theorem lw4f_o2 (x0 x1 x2 x3 f0 f1 f2 f3 : Int) (c : Nat) : obY (lw4f_e2 x0 x1 x2 x3 f0 f1 f2 f3 c) = lw4f_r2 x0 x1 x2 x3 f0 f1 f2 f3 := by kernel_rfl
theorem lw4f_g2_ (x0 x1 x2 x3 f0 f1 f2 f3 : Int) (c : Nat) : goodY (lw4f_e2 x0 x1 x2 x3 f0 f1 f2 f3 c) = true := by kernel_rfl
theorem lw4f_p2 (x0 x1 x2 x3 f0 f1 f2 f3 : Int) (c : Nat) (h : lw4f_r2 x0 x1 x2 x3 f0 f1 f2 f3) : ∃ s1 R, SndF Tryz.prog 3 #[.slice (some ⟨6, 0, none⟩) 4 c, .bool false, .agg #[.int .i16 f0, .int .i16 f1, .int .i16 f2, .int .i16 f3]] (aw3S0.push (.cells [.int .i8 x0, .int .i8 x1, .int .i8 x2, .int .i8 x3] 0 true 0 true)) (.bool true) s1 R 0 :=
  sndY (r := lw4f_e2 x0 x1 x2 x3 f0 f1 f2 f3 c) (by delta lw4f_e2; exact Eq.refl _) gfol lw4f_X (lw4f_g2_ x0 x1 x2 x3 f0 f1 f2 f3 c) ((lw4f_o2 x0 x1 x2 x3 f0 f1 f2 f3 c).symm ▸ h)
def lw4f_r3 (x0 x1 x2 x3 f0 f1 f2 f3 : Int) : Prop := (lw4f_z19 (lw4f_z18 (lw4f_z14 (lw4f_z8 (lw4f_z17 (lw4f_z12 (lw4f_z6 (lw4f_z2 (lw4f_z16 (lw4f_z10 (lw4f_z4 (lw4f_z0 True x0 x1 x2 x3 f0 f1 f2 f3) x0 x1 x2 x3 f0 f1 f2 f3) x0 x1 x2 x3 f0 f1 f2 f3) x0 x1 x2 x3 f0 f1 f2 f3) x0 x1 x2 x3 f0 f1 f2 f3) x0 x1 x2 x3 f0 f1 f2 f3) x0 x1 x2 x3 f0 f1 f2 f3) x0 x1 x2 x3 f0 f1 f2 f3) x0 x1 x2 x3 f0 f1 f2 f3) x0 x1 x2 x3 f0 f1 f2 f3) x0 x1 x2 x3 f0 f1 f2 f3) x0 x1 x2 x3 f0 f1 f2 f3)
theorem lw4f_o3 (x0 x1 x2 x3 f0 f1 f2 f3 : Int) (c : Nat) : obY (lw4f_e3 x0 x1 x2 x3 f0 f1 f2 f3 c) = lw4f_r3 x0 x1 x2 x3 f0 f1 f2 f3 := by kernel_rfl
theorem lw4f_g3_ (x0 x1 x2 x3 f0 f1 f2 f3 : Int) (c : Nat) : goodY (lw4f_e3 x0 x1 x2 x3 f0 f1 f2 f3 c) = true := by kernel_rfl
theorem lw4f_p3 (x0 x1 x2 x3 f0 f1 f2 f3 : Int) (c : Nat) (h : lw4f_r3 x0 x1 x2 x3 f0 f1 f2 f3) : ∃ s1 R, SndF Tryz.prog 3 #[.slice (some ⟨6, 0, none⟩) 4 c, .bool false, .agg #[.int .i16 f0, .int .i16 f1, .int .i16 f2, .int .i16 f3]] (aw3S0.push (.cells [.int .i8 x0, .int .i8 x1, .int .i8 x2, .int .i8 x3] 0 true 0 true)) (.bool true) s1 R 0 :=
  sndY (r := lw4f_e3 x0 x1 x2 x3 f0 f1 f2 f3 c) (by delta lw4f_e3; exact Eq.refl _) gfol lw4f_X (lw4f_g3_ x0 x1 x2 x3 f0 f1 f2 f3 c) ((lw4f_o3 x0 x1 x2 x3 f0 f1 f2 f3 c).symm ▸ h)
def lw4f_r4 (x0 x1 x2 x3 f0 f1 f2 f3 : Int) : Prop := (lw4f_z20 (lw4f_z18 (lw4f_z14 (lw4f_z8 (lw4f_z17 (lw4f_z12 (lw4f_z6 (lw4f_z2 (lw4f_z16 (lw4f_z10 (lw4f_z4 (lw4f_z0 True x0 x1 x2 x3 f0 f1 f2 f3) x0 x1 x2 x3 f0 f1 f2 f3) x0 x1 x2 x3 f0 f1 f2 f3) x0 x1 x2 x3 f0 f1 f2 f3) x0 x1 x2 x3 f0 f1 f2 f3) x0 x1 x2 x3 f0 f1 f2 f3) x0 x1 x2 x3 f0 f1 f2 f3) x0 x1 x2 x3 f0 f1 f2 f3) x0 x1 x2 x3 f0 f1 f2 f3) x0 x1 x2 x3 f0 f1 f2 f3) x0 x1 x2 x3 f0 f1 f2 f3) x0 x1 x2 x3 f0 f1 f2 f3)
theorem lw4f_o4 (x0 x1 x2 x3 f0 f1 f2 f3 : Int) (c : Nat) : obY (lw4f_e4 x0 x1 x2 x3 f0 f1 f2 f3 c) = lw4f_r4 x0 x1 x2 x3 f0 f1 f2 f3 := by kernel_rfl
theorem lw4f_g4_ (x0 x1 x2 x3 f0 f1 f2 f3 : Int) (c : Nat) : goodY (lw4f_e4 x0 x1 x2 x3 f0 f1 f2 f3 c) = true := by kernel_rfl
theorem lw4f_p4 (x0 x1 x2 x3 f0 f1 f2 f3 : Int) (c : Nat) (h : lw4f_r4 x0 x1 x2 x3 f0 f1 f2 f3) : ∃ s1 R, SndF Tryz.prog 3 #[.slice (some ⟨6, 0, none⟩) 4 c, .bool false, .agg #[.int .i16 f0, .int .i16 f1, .int .i16 f2, .int .i16 f3]] (aw3S0.push (.cells [.int .i8 x0, .int .i8 x1, .int .i8 x2, .int .i8 x3] 0 true 0 true)) (.bool true) s1 R 0 :=
  sndY (r := lw4f_e4 x0 x1 x2 x3 f0 f1 f2 f3 c) (by delta lw4f_e4; exact Eq.refl _) gfol lw4f_X (lw4f_g4_ x0 x1 x2 x3 f0 f1 f2 f3 c) ((lw4f_o4 x0 x1 x2 x3 f0 f1 f2 f3 c).symm ▸ h)
theorem lw4f_any (x0 x1 x2 x3 f0 f1 f2 f3 : Int) (c : Nat) (hpre : True) : ∃ s1 R, SndF Tryz.prog 3 #[.slice (some ⟨6, 0, none⟩) 4 c, .bool false, .agg #[.int .i16 f0, .int .i16 f1, .int .i16 f2, .int .i16 f3]] (aw3S0.push (.cells [.int .i8 x0, .int .i8 x1, .int .i8 x2, .int .i8 x3] 0 true 0 true)) (.bool true) s1 R 0 := by
  rcases Bool.eq_false_or_eq_true (lw4f_c0 x0 x1 x2 x3 f0 f1 f2 f3) with h0 | h0
  ·
    rcases Bool.eq_false_or_eq_true (lw4f_c11 x0 x1 x2 x3 f0 f1 f2 f3) with h1 | h1
    ·
      rcases Bool.eq_false_or_eq_true (lw4f_c14 x0 x1 x2 x3 f0 f1 f2 f3) with h2 | h2
      ·
        have h3 : (lw4f_c1 x0 x1 x2 x3 f0 f1 f2 f3 = false) := lw4f_c1_ff x0 x1 x2 x3 f0 f1 f2 f3 hpre
        have h4 : (lw4f_c2 x0 x1 x2 x3 f0 f1 f2 f3 = false) := lw4f_c2_ff x0 x1 x2 x3 f0 f1 f2 f3 hpre
        have h5 : (lw4f_c3 x0 x1 x2 x3 f0 f1 f2 f3 = false) := lw4f_c3_ff x0 x1 x2 x3 f0 f1 f2 f3 hpre
        have h6 : (lw4f_c4 x0 x1 x2 x3 f0 f1 f2 f3 = false) := lw4f_c4_ff x0 x1 x2 x3 f0 f1 f2 f3 hpre
        have h7 : (lw4f_c5 x0 x1 x2 x3 f0 f1 f2 f3 = false) := lw4f_c5_ff x0 x1 x2 x3 f0 f1 f2 f3 hpre
        have h8 : (lw4f_c6 x0 x1 x2 x3 f0 f1 f2 f3 = false) := lw4f_c6_ff x0 x1 x2 x3 f0 f1 f2 f3 hpre
        have h9 : (lw4f_c7 x0 x1 x2 x3 f0 f1 f2 f3 = false) := lw4f_c7_ff x0 x1 x2 x3 f0 f1 f2 f3 hpre
        have h10 : (lw4f_c8 x0 x1 x2 x3 f0 f1 f2 f3 = false) := lw4f_c8_ff x0 x1 x2 x3 f0 f1 f2 f3 hpre
        have h11 : (lw4f_c9 x0 x1 x2 x3 f0 f1 f2 f3 = true) := by
          have r8 : Rg.has (0, 0) (lw4f_at0 x0) := by
            have hr : InR [(-100, 100)] [(lw4f_at0 x0)] := ⟨lw4f_rg8 x0 x1 x2 x3 f0 f1 f2 f3 hpre, trivial⟩
            have ha := BE.all_ok hr lw4f_q34 (by kernel_rfl)
            have hx : BE.ev [(lw4f_at0 x0)] (.cm .eq (.v 0) (.k (0))) = true := (show BE.ev [(lw4f_at0 x0)] (.cm .eq (.v 0) (.k (0))) = lw4f_c0 x0 x1 x2 x3 f0 f1 f2 f3 by kernel_rfl).trans h0
            have ha := orT ha hx
            exact rgB ha
          have hr : InR [(0, 0)] [(lw4f_at0 x0)] := ⟨r8, trivial⟩
          have e1 : lw4f_c9 x0 x1 x2 x3 f0 f1 f2 f3 = BE.ev [(lw4f_at0 x0)] lw4f_q35 := by kernel_rfl
          rw [e1]
          exact BE.tri_ok hr (by kernel_rfl) (by kernel_rfl)
        have h12 : (lw4f_c12 x0 x1 x2 x3 f0 f1 f2 f3 = true) := by
          have r8 : Rg.has (0, 0) (lw4f_at0 x0) := by
            have hr : InR [(-100, 100)] [(lw4f_at0 x0)] := ⟨lw4f_rg8 x0 x1 x2 x3 f0 f1 f2 f3 hpre, trivial⟩
            have ha := BE.all_ok hr lw4f_q34 (by kernel_rfl)
            have hx : BE.ev [(lw4f_at0 x0)] (.cm .eq (.v 0) (.k (0))) = true := (show BE.ev [(lw4f_at0 x0)] (.cm .eq (.v 0) (.k (0))) = lw4f_c0 x0 x1 x2 x3 f0 f1 f2 f3 by kernel_rfl).trans h0
            have ha := orT ha hx
            exact rgB ha
          have r9 : Rg.has (0, 0) (lw4f_at0 x1) := by
            have hr : InR [(-100, 100)] [(lw4f_at0 x1)] := ⟨lw4f_rg9 x0 x1 x2 x3 f0 f1 f2 f3 hpre, trivial⟩
            have ha := BE.all_ok hr lw4f_q34 (by kernel_rfl)
            have hx : BE.ev [(lw4f_at0 x1)] (.cm .eq (.v 0) (.k (0))) = true := (show BE.ev [(lw4f_at0 x1)] (.cm .eq (.v 0) (.k (0))) = lw4f_c11 x0 x1 x2 x3 f0 f1 f2 f3 by kernel_rfl).trans h1
            have ha := orT ha hx
            exact rgB ha
          have hr : InR [(0, 0), (0, 0), (-100, 100)] [(lw4f_at0 x0), (lw4f_at0 x1), (lw4f_at0 x3)] := ⟨r8, ⟨r9, ⟨lw4f_rg11 x0 x1 x2 x3 f0 f1 f2 f3 hpre, trivial⟩⟩⟩
          have e1 : lw4f_c12 x0 x1 x2 x3 f0 f1 f2 f3 = BE.ev [(lw4f_at0 x0), (lw4f_at0 x1), (lw4f_at0 x3)] (.not lw4f_q38) := by kernel_rfl
          rw [e1]
          exact BE.tri_ok hr (by kernel_rfl) (by kernel_rfl)
        have h13 : (lw4f_c15 x0 x1 x2 x3 f0 f1 f2 f3 = true) := by
          have r8 : Rg.has (0, 0) (lw4f_at0 x0) := by
            have hr : InR [(-100, 100)] [(lw4f_at0 x0)] := ⟨lw4f_rg8 x0 x1 x2 x3 f0 f1 f2 f3 hpre, trivial⟩
            have ha := BE.all_ok hr lw4f_q34 (by kernel_rfl)
            have hx : BE.ev [(lw4f_at0 x0)] (.cm .eq (.v 0) (.k (0))) = true := (show BE.ev [(lw4f_at0 x0)] (.cm .eq (.v 0) (.k (0))) = lw4f_c0 x0 x1 x2 x3 f0 f1 f2 f3 by kernel_rfl).trans h0
            have ha := orT ha hx
            exact rgB ha
          have r9 : Rg.has (0, 0) (lw4f_at0 x1) := by
            have hr : InR [(-100, 100)] [(lw4f_at0 x1)] := ⟨lw4f_rg9 x0 x1 x2 x3 f0 f1 f2 f3 hpre, trivial⟩
            have ha := BE.all_ok hr lw4f_q34 (by kernel_rfl)
            have hx : BE.ev [(lw4f_at0 x1)] (.cm .eq (.v 0) (.k (0))) = true := (show BE.ev [(lw4f_at0 x1)] (.cm .eq (.v 0) (.k (0))) = lw4f_c11 x0 x1 x2 x3 f0 f1 f2 f3 by kernel_rfl).trans h1
            have ha := orT ha hx
            exact rgB ha
          have r10 : Rg.has (0, 0) (lw4f_at0 x2) := by
            have hr : InR [(-100, 100)] [(lw4f_at0 x2)] := ⟨lw4f_rg10 x0 x1 x2 x3 f0 f1 f2 f3 hpre, trivial⟩
            have ha := BE.all_ok hr lw4f_q34 (by kernel_rfl)
            have hx : BE.ev [(lw4f_at0 x2)] (.cm .eq (.v 0) (.k (0))) = true := (show BE.ev [(lw4f_at0 x2)] (.cm .eq (.v 0) (.k (0))) = lw4f_c14 x0 x1 x2 x3 f0 f1 f2 f3 by kernel_rfl).trans h2
            have ha := orT ha hx
            exact rgB ha
          have hr : InR [(0, 0), (0, 0), (0, 0), (-100, 100)] [(lw4f_at0 x0), (lw4f_at0 x1), (lw4f_at0 x2), (lw4f_at0 x3)] := ⟨r8, ⟨r9, ⟨r10, ⟨lw4f_rg11 x0 x1 x2 x3 f0 f1 f2 f3 hpre, trivial⟩⟩⟩⟩
          have e1 : lw4f_c15 x0 x1 x2 x3 f0 f1 f2 f3 = BE.ev [(lw4f_at0 x0), (lw4f_at0 x1), (lw4f_at0 x2), (lw4f_at0 x3)] (.not lw4f_q44) := by kernel_rfl
          rw [e1]
          exact BE.tri_ok hr (by kernel_rfl) (by kernel_rfl)
        have h14 : (lw4f_c10 x0 x1 x2 x3 f0 f1 f2 f3 = false) := by
          have hz := (show lw4f_c9 x0 x1 x2 x3 f0 f1 f2 f3 = Bool.not (lw4f_c10 x0 x1 x2 x3 f0 f1 f2 f3) by kernel_rfl).symm.trans h11
          generalize lw4f_c10 x0 x1 x2 x3 f0 f1 f2 f3 = z at hz ⊢
          cases z <;> first | rfl | cases hz
        have h15 : (lw4f_c13 x0 x1 x2 x3 f0 f1 f2 f3 = false) := by
          have hz := (show lw4f_c12 x0 x1 x2 x3 f0 f1 f2 f3 = Bool.not (lw4f_c13 x0 x1 x2 x3 f0 f1 f2 f3) by kernel_rfl).symm.trans h12
          generalize lw4f_c13 x0 x1 x2 x3 f0 f1 f2 f3 = z at hz ⊢
          cases z <;> first | rfl | cases hz
        have h16 : (lw4f_c16 x0 x1 x2 x3 f0 f1 f2 f3 = false) := by
          have hz := (show lw4f_c15 x0 x1 x2 x3 f0 f1 f2 f3 = Bool.not (lw4f_c16 x0 x1 x2 x3 f0 f1 f2 f3) by kernel_rfl).symm.trans h13
          generalize lw4f_c16 x0 x1 x2 x3 f0 f1 f2 f3 = z at hz ⊢
          cases z <;> first | rfl | cases hz
        rcases Bool.eq_false_or_eq_true (lw4f_c17 x0 x1 x2 x3 f0 f1 f2 f3) with h17 | h17
        ·
          have h18 : (lw4f_c18 x0 x1 x2 x3 f0 f1 f2 f3 = false) := by
            have r8 : Rg.has (0, 0) (lw4f_at0 x0) := by
              have hr : InR [(-100, 100)] [(lw4f_at0 x0)] := ⟨lw4f_rg8 x0 x1 x2 x3 f0 f1 f2 f3 hpre, trivial⟩
              have ha := BE.all_ok hr lw4f_q34 (by kernel_rfl)
              have hx : BE.ev [(lw4f_at0 x0)] (.cm .eq (.v 0) (.k (0))) = true := (show BE.ev [(lw4f_at0 x0)] (.cm .eq (.v 0) (.k (0))) = lw4f_c0 x0 x1 x2 x3 f0 f1 f2 f3 by kernel_rfl).trans h0
              have ha := orT ha hx
              exact rgB ha
            have r9 : Rg.has (0, 0) (lw4f_at0 x1) := by
              have hr : InR [(-100, 100)] [(lw4f_at0 x1)] := ⟨lw4f_rg9 x0 x1 x2 x3 f0 f1 f2 f3 hpre, trivial⟩
              have ha := BE.all_ok hr lw4f_q34 (by kernel_rfl)
              have hx : BE.ev [(lw4f_at0 x1)] (.cm .eq (.v 0) (.k (0))) = true := (show BE.ev [(lw4f_at0 x1)] (.cm .eq (.v 0) (.k (0))) = lw4f_c11 x0 x1 x2 x3 f0 f1 f2 f3 by kernel_rfl).trans h1
              have ha := orT ha hx
              exact rgB ha
            have r10 : Rg.has (0, 0) (lw4f_at0 x2) := by
              have hr : InR [(-100, 100)] [(lw4f_at0 x2)] := ⟨lw4f_rg10 x0 x1 x2 x3 f0 f1 f2 f3 hpre, trivial⟩
              have ha := BE.all_ok hr lw4f_q34 (by kernel_rfl)
              have hx : BE.ev [(lw4f_at0 x2)] (.cm .eq (.v 0) (.k (0))) = true := (show BE.ev [(lw4f_at0 x2)] (.cm .eq (.v 0) (.k (0))) = lw4f_c14 x0 x1 x2 x3 f0 f1 f2 f3 by kernel_rfl).trans h2
              have ha := orT ha hx
              exact rgB ha
            have hr : InR [(0, 0), (0, 0), (0, 0), (-100, 100)] [(lw4f_at0 x0), (lw4f_at0 x1), (lw4f_at0 x2), (lw4f_at0 x3)] := ⟨r8, ⟨r9, ⟨r10, ⟨lw4f_rg11 x0 x1 x2 x3 f0 f1 f2 f3 hpre, trivial⟩⟩⟩⟩
            have hr2 : InR [(-100, 100)] [(lw4f_at0 x3)] := ⟨lw4f_rg11 x0 x1 x2 x3 f0 f1 f2 f3 hpre, trivial⟩
            have ha := BE.all_ok hr2 (.or (.not lw4f_q46) (.not lw4f_q47)) (by kernel_rfl)
            have hx : BE.ev [(lw4f_at0 x3)] lw4f_q46 = true := (show BE.ev [(lw4f_at0 x3)] lw4f_q46 = BE.ev [(lw4f_at0 x0), (lw4f_at0 x1), (lw4f_at0 x2), (lw4f_at0 x3)] lw4f_q49 by kernel_rfl).trans ((BE.smp_to hr lw4f_q53 lw4f_q49 (by kernel_rfl) (by kernel_rfl)).symm.trans ((show BE.ev [(lw4f_at0 x0), (lw4f_at0 x1), (lw4f_at0 x2), (lw4f_at0 x3)] lw4f_q53 = lw4f_c17 x0 x1 x2 x3 f0 f1 f2 f3 by kernel_rfl).trans h17))
            have ha := orT ha hx
            exact (show lw4f_c18 x0 x1 x2 x3 f0 f1 f2 f3 = BE.ev [(lw4f_at0 x0), (lw4f_at0 x1), (lw4f_at0 x2), (lw4f_at0 x3)] lw4f_q54 by kernel_rfl).trans ((BE.smp_to hr lw4f_q54 lw4f_q55 (by kernel_rfl) (by kernel_rfl)).trans ((show BE.ev [(lw4f_at0 x0), (lw4f_at0 x1), (lw4f_at0 x2), (lw4f_at0 x3)] lw4f_q55 = BE.ev [(lw4f_at0 x3)] lw4f_q47 by kernel_rfl).trans (notT ha)))
          have h19 : (lw4f_c19 x0 x1 x2 x3 f0 f1 f2 f3 = true) := by
            have r8 : Rg.has (0, 0) (lw4f_at0 x0) := by
              have hr : InR [(-100, 100)] [(lw4f_at0 x0)] := ⟨lw4f_rg8 x0 x1 x2 x3 f0 f1 f2 f3 hpre, trivial⟩
              have ha := BE.all_ok hr lw4f_q34 (by kernel_rfl)
              have hx : BE.ev [(lw4f_at0 x0)] (.cm .eq (.v 0) (.k (0))) = true := (show BE.ev [(lw4f_at0 x0)] (.cm .eq (.v 0) (.k (0))) = lw4f_c0 x0 x1 x2 x3 f0 f1 f2 f3 by kernel_rfl).trans h0
              have ha := orT ha hx
              exact rgB ha
            have r9 : Rg.has (0, 0) (lw4f_at0 x1) := by
              have hr : InR [(-100, 100)] [(lw4f_at0 x1)] := ⟨lw4f_rg9 x0 x1 x2 x3 f0 f1 f2 f3 hpre, trivial⟩
              have ha := BE.all_ok hr lw4f_q34 (by kernel_rfl)
              have hx : BE.ev [(lw4f_at0 x1)] (.cm .eq (.v 0) (.k (0))) = true := (show BE.ev [(lw4f_at0 x1)] (.cm .eq (.v 0) (.k (0))) = lw4f_c11 x0 x1 x2 x3 f0 f1 f2 f3 by kernel_rfl).trans h1
              have ha := orT ha hx
              exact rgB ha
            have r10 : Rg.has (0, 0) (lw4f_at0 x2) := by
              have hr : InR [(-100, 100)] [(lw4f_at0 x2)] := ⟨lw4f_rg10 x0 x1 x2 x3 f0 f1 f2 f3 hpre, trivial⟩
              have ha := BE.all_ok hr lw4f_q34 (by kernel_rfl)
              have hx : BE.ev [(lw4f_at0 x2)] (.cm .eq (.v 0) (.k (0))) = true := (show BE.ev [(lw4f_at0 x2)] (.cm .eq (.v 0) (.k (0))) = lw4f_c14 x0 x1 x2 x3 f0 f1 f2 f3 by kernel_rfl).trans h2
              have ha := orT ha hx
              exact rgB ha
            have hr : InR [(0, 0), (0, 0), (0, 0), (-100, 100)] [(lw4f_at0 x0), (lw4f_at0 x1), (lw4f_at0 x2), (lw4f_at0 x3)] := ⟨r8, ⟨r9, ⟨r10, ⟨lw4f_rg11 x0 x1 x2 x3 f0 f1 f2 f3 hpre, trivial⟩⟩⟩⟩
            have hr2 : InR [(-100, 100)] [(lw4f_at0 x3)] := ⟨lw4f_rg11 x0 x1 x2 x3 f0 f1 f2 f3 hpre, trivial⟩
            have ha := BE.all_ok hr2 (.or (.not lw4f_q46) (.not (.cm .eq (.v 0) (.k (0))))) (by kernel_rfl)
            have hx : BE.ev [(lw4f_at0 x3)] lw4f_q46 = true := (show BE.ev [(lw4f_at0 x3)] lw4f_q46 = BE.ev [(lw4f_at0 x0), (lw4f_at0 x1), (lw4f_at0 x2), (lw4f_at0 x3)] lw4f_q49 by kernel_rfl).trans ((BE.smp_to hr lw4f_q53 lw4f_q49 (by kernel_rfl) (by kernel_rfl)).symm.trans ((show BE.ev [(lw4f_at0 x0), (lw4f_at0 x1), (lw4f_at0 x2), (lw4f_at0 x3)] lw4f_q53 = lw4f_c17 x0 x1 x2 x3 f0 f1 f2 f3 by kernel_rfl).trans h17))
            have ha := orT ha hx
            exact (show lw4f_c19 x0 x1 x2 x3 f0 f1 f2 f3 = BE.ev [(lw4f_at0 x0), (lw4f_at0 x1), (lw4f_at0 x2), (lw4f_at0 x3)] (.not (.cm .eq (.v 3) (.k (0)))) by kernel_rfl).trans ((BE.smp_to hr (.not (.cm .eq (.v 3) (.k (0)))) (.not (.cm .eq (.v 3) (.k (0)))) (by kernel_rfl) (by kernel_rfl)).trans ((show BE.ev [(lw4f_at0 x0), (lw4f_at0 x1), (lw4f_at0 x2), (lw4f_at0 x3)] (.not (.cm .eq (.v 3) (.k (0)))) = BE.ev [(lw4f_at0 x3)] (.not (.cm .eq (.v 0) (.k (0)))) by kernel_rfl).trans (ha)))
          exact lw4f_p3 x0 x1 x2 x3 f0 f1 f2 f3 c (lw4f_z19_h (lw4f_z18_h (lw4f_z14_h (lw4f_z8_h (lw4f_z17_h (lw4f_z12_h (lw4f_z6_h (lw4f_z2_h (lw4f_z16_h (lw4f_z10_h (lw4f_z4_h (lw4f_z0_h trivial x0 x1 x2 x3 f0 f1 f2 f3 hpre) x0 x1 x2 x3 f0 f1 f2 f3 hpre h0) x0 x1 x2 x3 f0 f1 f2 f3 hpre h1) x0 x1 x2 x3 f0 f1 f2 f3 hpre h2) x0 x1 x2 x3 f0 f1 f2 f3 hpre) x0 x1 x2 x3 f0 f1 f2 f3 hpre h11) x0 x1 x2 x3 f0 f1 f2 f3 hpre h12) x0 x1 x2 x3 f0 f1 f2 f3 hpre h13) x0 x1 x2 x3 f0 f1 f2 f3 hpre h14) x0 x1 x2 x3 f0 f1 f2 f3 hpre h15) x0 x1 x2 x3 f0 f1 f2 f3 hpre h16) x0 x1 x2 x3 f0 f1 f2 f3 hpre h17 h18 h19)
        ·
          have h20 : (lw4f_c20 x0 x1 x2 x3 f0 f1 f2 f3 = false) := by
            have r8 : Rg.has (0, 0) (lw4f_at0 x0) := by
              have hr : InR [(-100, 100)] [(lw4f_at0 x0)] := ⟨lw4f_rg8 x0 x1 x2 x3 f0 f1 f2 f3 hpre, trivial⟩
              have ha := BE.all_ok hr lw4f_q34 (by kernel_rfl)
              have hx : BE.ev [(lw4f_at0 x0)] (.cm .eq (.v 0) (.k (0))) = true := (show BE.ev [(lw4f_at0 x0)] (.cm .eq (.v 0) (.k (0))) = lw4f_c0 x0 x1 x2 x3 f0 f1 f2 f3 by kernel_rfl).trans h0
              have ha := orT ha hx
              exact rgB ha
            have r9 : Rg.has (0, 0) (lw4f_at0 x1) := by
              have hr : InR [(-100, 100)] [(lw4f_at0 x1)] := ⟨lw4f_rg9 x0 x1 x2 x3 f0 f1 f2 f3 hpre, trivial⟩
              have ha := BE.all_ok hr lw4f_q34 (by kernel_rfl)
              have hx : BE.ev [(lw4f_at0 x1)] (.cm .eq (.v 0) (.k (0))) = true := (show BE.ev [(lw4f_at0 x1)] (.cm .eq (.v 0) (.k (0))) = lw4f_c11 x0 x1 x2 x3 f0 f1 f2 f3 by kernel_rfl).trans h1
              have ha := orT ha hx
              exact rgB ha
            have r10 : Rg.has (0, 0) (lw4f_at0 x2) := by
              have hr : InR [(-100, 100)] [(lw4f_at0 x2)] := ⟨lw4f_rg10 x0 x1 x2 x3 f0 f1 f2 f3 hpre, trivial⟩
              have ha := BE.all_ok hr lw4f_q34 (by kernel_rfl)
              have hx : BE.ev [(lw4f_at0 x2)] (.cm .eq (.v 0) (.k (0))) = true := (show BE.ev [(lw4f_at0 x2)] (.cm .eq (.v 0) (.k (0))) = lw4f_c14 x0 x1 x2 x3 f0 f1 f2 f3 by kernel_rfl).trans h2
              have ha := orT ha hx
              exact rgB ha
            have r11 : Rg.has (0, 0) (lw4f_at0 x3) := by
              have hr : InR [(0, 0), (0, 0), (0, 0), (-100, 100)] [(lw4f_at0 x0), (lw4f_at0 x1), (lw4f_at0 x2), (lw4f_at0 x3)] := ⟨r8, ⟨r9, ⟨r10, ⟨lw4f_rg11 x0 x1 x2 x3 f0 f1 f2 f3 hpre, trivial⟩⟩⟩⟩
              have ha := BE.all_ok hr lw4f_q56 (by kernel_rfl)
              have hx : BE.ev [(lw4f_at0 x0), (lw4f_at0 x1), (lw4f_at0 x2), (lw4f_at0 x3)] lw4f_q53 = false := (show BE.ev [(lw4f_at0 x0), (lw4f_at0 x1), (lw4f_at0 x2), (lw4f_at0 x3)] lw4f_q53 = lw4f_c17 x0 x1 x2 x3 f0 f1 f2 f3 by kernel_rfl).trans h17
              have ha := orT ha (notF hx)
              exact rgB ha
            have hr : InR [(0, 0)] [(lw4f_at0 x3)] := ⟨r11, trivial⟩
            have e1 : lw4f_c20 x0 x1 x2 x3 f0 f1 f2 f3 = BE.ev [(lw4f_at0 x3)] (.not (.beq (.not (.cm .ge (.k (-1)) (.k (0)))) (.cm .eq (.v 0) (.k (0))))) := by kernel_rfl
            rw [e1]
            exact BE.tri_ok hr (by kernel_rfl) (by kernel_rfl)
          have h21 : (lw4f_c19 x0 x1 x2 x3 f0 f1 f2 f3 = false) := by
            have r8 : Rg.has (0, 0) (lw4f_at0 x0) := by
              have hr : InR [(-100, 100)] [(lw4f_at0 x0)] := ⟨lw4f_rg8 x0 x1 x2 x3 f0 f1 f2 f3 hpre, trivial⟩
              have ha := BE.all_ok hr lw4f_q34 (by kernel_rfl)
              have hx : BE.ev [(lw4f_at0 x0)] (.cm .eq (.v 0) (.k (0))) = true := (show BE.ev [(lw4f_at0 x0)] (.cm .eq (.v 0) (.k (0))) = lw4f_c0 x0 x1 x2 x3 f0 f1 f2 f3 by kernel_rfl).trans h0
              have ha := orT ha hx
              exact rgB ha
            have r9 : Rg.has (0, 0) (lw4f_at0 x1) := by
              have hr : InR [(-100, 100)] [(lw4f_at0 x1)] := ⟨lw4f_rg9 x0 x1 x2 x3 f0 f1 f2 f3 hpre, trivial⟩
              have ha := BE.all_ok hr lw4f_q34 (by kernel_rfl)
              have hx : BE.ev [(lw4f_at0 x1)] (.cm .eq (.v 0) (.k (0))) = true := (show BE.ev [(lw4f_at0 x1)] (.cm .eq (.v 0) (.k (0))) = lw4f_c11 x0 x1 x2 x3 f0 f1 f2 f3 by kernel_rfl).trans h1
              have ha := orT ha hx
              exact rgB ha
            have r10 : Rg.has (0, 0) (lw4f_at0 x2) := by
              have hr : InR [(-100, 100)] [(lw4f_at0 x2)] := ⟨lw4f_rg10 x0 x1 x2 x3 f0 f1 f2 f3 hpre, trivial⟩
              have ha := BE.all_ok hr lw4f_q34 (by kernel_rfl)
              have hx : BE.ev [(lw4f_at0 x2)] (.cm .eq (.v 0) (.k (0))) = true := (show BE.ev [(lw4f_at0 x2)] (.cm .eq (.v 0) (.k (0))) = lw4f_c14 x0 x1 x2 x3 f0 f1 f2 f3 by kernel_rfl).trans h2
              have ha := orT ha hx
              exact rgB ha
            have r11 : Rg.has (0, 0) (lw4f_at0 x3) := by
              have hr : InR [(0, 0), (0, 0), (0, 0), (-100, 100)] [(lw4f_at0 x0), (lw4f_at0 x1), (lw4f_at0 x2), (lw4f_at0 x3)] := ⟨r8, ⟨r9, ⟨r10, ⟨lw4f_rg11 x0 x1 x2 x3 f0 f1 f2 f3 hpre, trivial⟩⟩⟩⟩
              have ha := BE.all_ok hr lw4f_q56 (by kernel_rfl)
              have hx : BE.ev [(lw4f_at0 x0), (lw4f_at0 x1), (lw4f_at0 x2), (lw4f_at0 x3)] lw4f_q53 = false := (show BE.ev [(lw4f_at0 x0), (lw4f_at0 x1), (lw4f_at0 x2), (lw4f_at0 x3)] lw4f_q53 = lw4f_c17 x0 x1 x2 x3 f0 f1 f2 f3 by kernel_rfl).trans h17
              have ha := orT ha (notF hx)
              exact rgB ha
            have hr : InR [(0, 0)] [(lw4f_at0 x3)] := ⟨r11, trivial⟩
            have e1 : lw4f_c19 x0 x1 x2 x3 f0 f1 f2 f3 = BE.ev [(lw4f_at0 x3)] (.not (.cm .eq (.v 0) (.k (0)))) := by kernel_rfl
            rw [e1]
            exact BE.tri_ok hr (by kernel_rfl) (by kernel_rfl)
          have h22 : (lw4f_c21 x0 x1 x2 x3 f0 f1 f2 f3 = false) := lw4f_c21_ff x0 x1 x2 x3 f0 f1 f2 f3 hpre
          have h23 : (lw4f_c22 x0 x1 x2 x3 f0 f1 f2 f3 = false) := lw4f_c22_ff x0 x1 x2 x3 f0 f1 f2 f3 hpre
          have h24 : (lw4f_c23 x0 x1 x2 x3 f0 f1 f2 f3 = false) := lw4f_c23_ff x0 x1 x2 x3 f0 f1 f2 f3 hpre
          have h25 : (lw4f_c24 x0 x1 x2 x3 f0 f1 f2 f3 = false) := lw4f_c24_ff x0 x1 x2 x3 f0 f1 f2 f3 hpre
          have h26 : (lw4f_c25 x0 x1 x2 x3 f0 f1 f2 f3 = false) := lw4f_c25_ff x0 x1 x2 x3 f0 f1 f2 f3 hpre
          have h27 : (lw4f_c26 x0 x1 x2 x3 f0 f1 f2 f3 = false) := lw4f_c26_ff x0 x1 x2 x3 f0 f1 f2 f3 hpre
          have h28 : (lw4f_c27 x0 x1 x2 x3 f0 f1 f2 f3 = false) := lw4f_c27_ff x0 x1 x2 x3 f0 f1 f2 f3 hpre
          have h29 : (lw4f_c28 x0 x1 x2 x3 f0 f1 f2 f3 = false) := lw4f_c28_ff x0 x1 x2 x3 f0 f1 f2 f3 hpre
          have h30 : (lw4f_c29 x0 x1 x2 x3 f0 f1 f2 f3 = false) := lw4f_c29_ff x0 x1 x2 x3 f0 f1 f2 f3 hpre
          have h31 : (lw4f_c30 x0 x1 x2 x3 f0 f1 f2 f3 = false) := lw4f_c30_ff x0 x1 x2 x3 f0 f1 f2 f3 hpre
          have h32 : (lw4f_c31 x0 x1 x2 x3 f0 f1 f2 f3 = false) := lw4f_c31_ff x0 x1 x2 x3 f0 f1 f2 f3 hpre
          have h33 : (lw4f_c32 x0 x1 x2 x3 f0 f1 f2 f3 = false) := lw4f_c32_ff x0 x1 x2 x3 f0 f1 f2 f3 hpre
          have h34 : (lw4f_c33 x0 x1 x2 x3 f0 f1 f2 f3 = false) := by
            have r8 : Rg.has (0, 0) (lw4f_at0 x0) := by
              have hr : InR [(-100, 100)] [(lw4f_at0 x0)] := ⟨lw4f_rg8 x0 x1 x2 x3 f0 f1 f2 f3 hpre, trivial⟩
              have ha := BE.all_ok hr lw4f_q34 (by kernel_rfl)
              have hx : BE.ev [(lw4f_at0 x0)] (.cm .eq (.v 0) (.k (0))) = true := (show BE.ev [(lw4f_at0 x0)] (.cm .eq (.v 0) (.k (0))) = lw4f_c0 x0 x1 x2 x3 f0 f1 f2 f3 by kernel_rfl).trans h0
              have ha := orT ha hx
              exact rgB ha
            have r9 : Rg.has (0, 0) (lw4f_at0 x1) := by
              have hr : InR [(-100, 100)] [(lw4f_at0 x1)] := ⟨lw4f_rg9 x0 x1 x2 x3 f0 f1 f2 f3 hpre, trivial⟩
              have ha := BE.all_ok hr lw4f_q34 (by kernel_rfl)
              have hx : BE.ev [(lw4f_at0 x1)] (.cm .eq (.v 0) (.k (0))) = true := (show BE.ev [(lw4f_at0 x1)] (.cm .eq (.v 0) (.k (0))) = lw4f_c11 x0 x1 x2 x3 f0 f1 f2 f3 by kernel_rfl).trans h1
              have ha := orT ha hx
              exact rgB ha
            have r10 : Rg.has (0, 0) (lw4f_at0 x2) := by
              have hr : InR [(-100, 100)] [(lw4f_at0 x2)] := ⟨lw4f_rg10 x0 x1 x2 x3 f0 f1 f2 f3 hpre, trivial⟩
              have ha := BE.all_ok hr lw4f_q34 (by kernel_rfl)
              have hx : BE.ev [(lw4f_at0 x2)] (.cm .eq (.v 0) (.k (0))) = true := (show BE.ev [(lw4f_at0 x2)] (.cm .eq (.v 0) (.k (0))) = lw4f_c14 x0 x1 x2 x3 f0 f1 f2 f3 by kernel_rfl).trans h2
              have ha := orT ha hx
              exact rgB ha
            have r11 : Rg.has (0, 0) (lw4f_at0 x3) := by
              have hr : InR [(0, 0), (0, 0), (0, 0), (-100, 100)] [(lw4f_at0 x0), (lw4f_at0 x1), (lw4f_at0 x2), (lw4f_at0 x3)] := ⟨r8, ⟨r9, ⟨r10, ⟨lw4f_rg11 x0 x1 x2 x3 f0 f1 f2 f3 hpre, trivial⟩⟩⟩⟩
              have ha := BE.all_ok hr lw4f_q56 (by kernel_rfl)
              have hx : BE.ev [(lw4f_at0 x0), (lw4f_at0 x1), (lw4f_at0 x2), (lw4f_at0 x3)] lw4f_q53 = false := (show BE.ev [(lw4f_at0 x0), (lw4f_at0 x1), (lw4f_at0 x2), (lw4f_at0 x3)] lw4f_q53 = lw4f_c17 x0 x1 x2 x3 f0 f1 f2 f3 by kernel_rfl).trans h17
              have ha := orT ha (notF hx)
              exact rgB ha
            have hr : InR [(0, 0), (0, 0), (0, 0), (0, 0), (-1000, 1000), (-1000, 1000), (-1000, 1000), (-1000, 1000)] [(lw4f_at0 x0), (lw4f_at0 x1), (lw4f_at0 x2), (lw4f_at0 x3), (lw4f_at1 f0), (lw4f_at1 f1), (lw4f_at1 f2), (lw4f_at1 f3)] := ⟨r8, ⟨r9, ⟨r10, ⟨r11, ⟨lw4f_rg12 x0 x1 x2 x3 f0 f1 f2 f3 hpre, ⟨lw4f_rg13 x0 x1 x2 x3 f0 f1 f2 f3 hpre, ⟨lw4f_rg14 x0 x1 x2 x3 f0 f1 f2 f3 hpre, ⟨lw4f_rg15 x0 x1 x2 x3 f0 f1 f2 f3 hpre, trivial⟩⟩⟩⟩⟩⟩⟩⟩
            have e1 : lw4f_c33 x0 x1 x2 x3 f0 f1 f2 f3 = BE.ev [(lw4f_at0 x0), (lw4f_at0 x1), (lw4f_at0 x2), (lw4f_at0 x3), (lw4f_at1 f0), (lw4f_at1 f1), (lw4f_at1 f2), (lw4f_at1 f3)] (.cm .lt lw4f_q66 (.k (-1073741824))) := by kernel_rfl
            rw [e1]
            exact BE.tri_ok hr (by kernel_rfl) (by kernel_rfl)
          have h35 : (lw4f_c34 x0 x1 x2 x3 f0 f1 f2 f3 = false) := by
            have r8 : Rg.has (0, 0) (lw4f_at0 x0) := by
              have hr : InR [(-100, 100)] [(lw4f_at0 x0)] := ⟨lw4f_rg8 x0 x1 x2 x3 f0 f1 f2 f3 hpre, trivial⟩
              have ha := BE.all_ok hr lw4f_q34 (by kernel_rfl)
              have hx : BE.ev [(lw4f_at0 x0)] (.cm .eq (.v 0) (.k (0))) = true := (show BE.ev [(lw4f_at0 x0)] (.cm .eq (.v 0) (.k (0))) = lw4f_c0 x0 x1 x2 x3 f0 f1 f2 f3 by kernel_rfl).trans h0
              have ha := orT ha hx
              exact rgB ha
            have r9 : Rg.has (0, 0) (lw4f_at0 x1) := by
              have hr : InR [(-100, 100)] [(lw4f_at0 x1)] := ⟨lw4f_rg9 x0 x1 x2 x3 f0 f1 f2 f3 hpre, trivial⟩
              have ha := BE.all_ok hr lw4f_q34 (by kernel_rfl)
              have hx : BE.ev [(lw4f_at0 x1)] (.cm .eq (.v 0) (.k (0))) = true := (show BE.ev [(lw4f_at0 x1)] (.cm .eq (.v 0) (.k (0))) = lw4f_c11 x0 x1 x2 x3 f0 f1 f2 f3 by kernel_rfl).trans h1
              have ha := orT ha hx
              exact rgB ha
            have r10 : Rg.has (0, 0) (lw4f_at0 x2) := by
              have hr : InR [(-100, 100)] [(lw4f_at0 x2)] := ⟨lw4f_rg10 x0 x1 x2 x3 f0 f1 f2 f3 hpre, trivial⟩
              have ha := BE.all_ok hr lw4f_q34 (by kernel_rfl)
              have hx : BE.ev [(lw4f_at0 x2)] (.cm .eq (.v 0) (.k (0))) = true := (show BE.ev [(lw4f_at0 x2)] (.cm .eq (.v 0) (.k (0))) = lw4f_c14 x0 x1 x2 x3 f0 f1 f2 f3 by kernel_rfl).trans h2
              have ha := orT ha hx
              exact rgB ha
            have r11 : Rg.has (0, 0) (lw4f_at0 x3) := by
              have hr : InR [(0, 0), (0, 0), (0, 0), (-100, 100)] [(lw4f_at0 x0), (lw4f_at0 x1), (lw4f_at0 x2), (lw4f_at0 x3)] := ⟨r8, ⟨r9, ⟨r10, ⟨lw4f_rg11 x0 x1 x2 x3 f0 f1 f2 f3 hpre, trivial⟩⟩⟩⟩
              have ha := BE.all_ok hr lw4f_q56 (by kernel_rfl)
              have hx : BE.ev [(lw4f_at0 x0), (lw4f_at0 x1), (lw4f_at0 x2), (lw4f_at0 x3)] lw4f_q53 = false := (show BE.ev [(lw4f_at0 x0), (lw4f_at0 x1), (lw4f_at0 x2), (lw4f_at0 x3)] lw4f_q53 = lw4f_c17 x0 x1 x2 x3 f0 f1 f2 f3 by kernel_rfl).trans h17
              have ha := orT ha (notF hx)
              exact rgB ha
            have hr : InR [(0, 0), (0, 0), (0, 0), (0, 0), (-1000, 1000), (-1000, 1000), (-1000, 1000), (-1000, 1000)] [(lw4f_at0 x0), (lw4f_at0 x1), (lw4f_at0 x2), (lw4f_at0 x3), (lw4f_at1 f0), (lw4f_at1 f1), (lw4f_at1 f2), (lw4f_at1 f3)] := ⟨r8, ⟨r9, ⟨r10, ⟨r11, ⟨lw4f_rg12 x0 x1 x2 x3 f0 f1 f2 f3 hpre, ⟨lw4f_rg13 x0 x1 x2 x3 f0 f1 f2 f3 hpre, ⟨lw4f_rg14 x0 x1 x2 x3 f0 f1 f2 f3 hpre, ⟨lw4f_rg15 x0 x1 x2 x3 f0 f1 f2 f3 hpre, trivial⟩⟩⟩⟩⟩⟩⟩⟩
            have e1 : lw4f_c34 x0 x1 x2 x3 f0 f1 f2 f3 = BE.ev [(lw4f_at0 x0), (lw4f_at0 x1), (lw4f_at0 x2), (lw4f_at0 x3), (lw4f_at1 f0), (lw4f_at1 f1), (lw4f_at1 f2), (lw4f_at1 f3)] (.cm .gt lw4f_q66 (.k (1073741824))) := by kernel_rfl
            rw [e1]
            exact BE.tri_ok hr (by kernel_rfl) (by kernel_rfl)
          have h36 : (lw4f_c35 x0 x1 x2 x3 f0 f1 f2 f3 = false) := by
            have r8 : Rg.has (0, 0) (lw4f_at0 x0) := by
              have hr : InR [(-100, 100)] [(lw4f_at0 x0)] := ⟨lw4f_rg8 x0 x1 x2 x3 f0 f1 f2 f3 hpre, trivial⟩
              have ha := BE.all_ok hr lw4f_q34 (by kernel_rfl)
              have hx : BE.ev [(lw4f_at0 x0)] (.cm .eq (.v 0) (.k (0))) = true := (show BE.ev [(lw4f_at0 x0)] (.cm .eq (.v 0) (.k (0))) = lw4f_c0 x0 x1 x2 x3 f0 f1 f2 f3 by kernel_rfl).trans h0
              have ha := orT ha hx
              exact rgB ha
            have r9 : Rg.has (0, 0) (lw4f_at0 x1) := by
              have hr : InR [(-100, 100)] [(lw4f_at0 x1)] := ⟨lw4f_rg9 x0 x1 x2 x3 f0 f1 f2 f3 hpre, trivial⟩
              have ha := BE.all_ok hr lw4f_q34 (by kernel_rfl)
              have hx : BE.ev [(lw4f_at0 x1)] (.cm .eq (.v 0) (.k (0))) = true := (show BE.ev [(lw4f_at0 x1)] (.cm .eq (.v 0) (.k (0))) = lw4f_c11 x0 x1 x2 x3 f0 f1 f2 f3 by kernel_rfl).trans h1
              have ha := orT ha hx
              exact rgB ha
            have r10 : Rg.has (0, 0) (lw4f_at0 x2) := by
              have hr : InR [(-100, 100)] [(lw4f_at0 x2)] := ⟨lw4f_rg10 x0 x1 x2 x3 f0 f1 f2 f3 hpre, trivial⟩
              have ha := BE.all_ok hr lw4f_q34 (by kernel_rfl)
              have hx : BE.ev [(lw4f_at0 x2)] (.cm .eq (.v 0) (.k (0))) = true := (show BE.ev [(lw4f_at0 x2)] (.cm .eq (.v 0) (.k (0))) = lw4f_c14 x0 x1 x2 x3 f0 f1 f2 f3 by kernel_rfl).trans h2
              have ha := orT ha hx
              exact rgB ha
            have r11 : Rg.has (0, 0) (lw4f_at0 x3) := by
              have hr : InR [(0, 0), (0, 0), (0, 0), (-100, 100)] [(lw4f_at0 x0), (lw4f_at0 x1), (lw4f_at0 x2), (lw4f_at0 x3)] := ⟨r8, ⟨r9, ⟨r10, ⟨lw4f_rg11 x0 x1 x2 x3 f0 f1 f2 f3 hpre, trivial⟩⟩⟩⟩
              have ha := BE.all_ok hr lw4f_q56 (by kernel_rfl)
              have hx : BE.ev [(lw4f_at0 x0), (lw4f_at0 x1), (lw4f_at0 x2), (lw4f_at0 x3)] lw4f_q53 = false := (show BE.ev [(lw4f_at0 x0), (lw4f_at0 x1), (lw4f_at0 x2), (lw4f_at0 x3)] lw4f_q53 = lw4f_c17 x0 x1 x2 x3 f0 f1 f2 f3 by kernel_rfl).trans h17
              have ha := orT ha (notF hx)
              exact rgB ha
            have hr : InR [(0, 0), (0, 0), (0, 0), (0, 0), (-1000, 1000), (-1000, 1000), (-1000, 1000), (-1000, 1000)] [(lw4f_at0 x0), (lw4f_at0 x1), (lw4f_at0 x2), (lw4f_at0 x3), (lw4f_at1 f0), (lw4f_at1 f1), (lw4f_at1 f2), (lw4f_at1 f3)] := ⟨r8, ⟨r9, ⟨r10, ⟨r11, ⟨lw4f_rg12 x0 x1 x2 x3 f0 f1 f2 f3 hpre, ⟨lw4f_rg13 x0 x1 x2 x3 f0 f1 f2 f3 hpre, ⟨lw4f_rg14 x0 x1 x2 x3 f0 f1 f2 f3 hpre, ⟨lw4f_rg15 x0 x1 x2 x3 f0 f1 f2 f3 hpre, trivial⟩⟩⟩⟩⟩⟩⟩⟩
            have e1 : lw4f_c35 x0 x1 x2 x3 f0 f1 f2 f3 = BE.ev [(lw4f_at0 x0), (lw4f_at0 x1), (lw4f_at0 x2), (lw4f_at0 x3), (lw4f_at1 f0), (lw4f_at1 f1), (lw4f_at1 f2), (lw4f_at1 f3)] (.cm .lt lw4f_q68 (.k (-1073741824))) := by kernel_rfl
            rw [e1]
            exact BE.tri_ok hr (by kernel_rfl) (by kernel_rfl)
          have h37 : (lw4f_c36 x0 x1 x2 x3 f0 f1 f2 f3 = false) := by
            have r8 : Rg.has (0, 0) (lw4f_at0 x0) := by
              have hr : InR [(-100, 100)] [(lw4f_at0 x0)] := ⟨lw4f_rg8 x0 x1 x2 x3 f0 f1 f2 f3 hpre, trivial⟩
              have ha := BE.all_ok hr lw4f_q34 (by kernel_rfl)
              have hx : BE.ev [(lw4f_at0 x0)] (.cm .eq (.v 0) (.k (0))) = true := (show BE.ev [(lw4f_at0 x0)] (.cm .eq (.v 0) (.k (0))) = lw4f_c0 x0 x1 x2 x3 f0 f1 f2 f3 by kernel_rfl).trans h0
              have ha := orT ha hx
              exact rgB ha
            have r9 : Rg.has (0, 0) (lw4f_at0 x1) := by
              have hr : InR [(-100, 100)] [(lw4f_at0 x1)] := ⟨lw4f_rg9 x0 x1 x2 x3 f0 f1 f2 f3 hpre, trivial⟩
              have ha := BE.all_ok hr lw4f_q34 (by kernel_rfl)
              have hx : BE.ev [(lw4f_at0 x1)] (.cm .eq (.v 0) (.k (0))) = true := (show BE.ev [(lw4f_at0 x1)] (.cm .eq (.v 0) (.k (0))) = lw4f_c11 x0 x1 x2 x3 f0 f1 f2 f3 by kernel_rfl).trans h1
              have ha := orT ha hx
              exact rgB ha
            have r10 : Rg.has (0, 0) (lw4f_at0 x2) := by
              have hr : InR [(-100, 100)] [(lw4f_at0 x2)] := ⟨lw4f_rg10 x0 x1 x2 x3 f0 f1 f2 f3 hpre, trivial⟩
              have ha := BE.all_ok hr lw4f_q34 (by kernel_rfl)
              have hx : BE.ev [(lw4f_at0 x2)] (.cm .eq (.v 0) (.k (0))) = true := (show BE.ev [(lw4f_at0 x2)] (.cm .eq (.v 0) (.k (0))) = lw4f_c14 x0 x1 x2 x3 f0 f1 f2 f3 by kernel_rfl).trans h2
              have ha := orT ha hx
              exact rgB ha
            have r11 : Rg.has (0, 0) (lw4f_at0 x3) := by
              have hr : InR [(0, 0), (0, 0), (0, 0), (-100, 100)] [(lw4f_at0 x0), (lw4f_at0 x1), (lw4f_at0 x2), (lw4f_at0 x3)] := ⟨r8, ⟨r9, ⟨r10, ⟨lw4f_rg11 x0 x1 x2 x3 f0 f1 f2 f3 hpre, trivial⟩⟩⟩⟩
              have ha := BE.all_ok hr lw4f_q56 (by kernel_rfl)
              have hx : BE.ev [(lw4f_at0 x0), (lw4f_at0 x1), (lw4f_at0 x2), (lw4f_at0 x3)] lw4f_q53 = false := (show BE.ev [(lw4f_at0 x0), (lw4f_at0 x1), (lw4f_at0 x2), (lw4f_at0 x3)] lw4f_q53 = lw4f_c17 x0 x1 x2 x3 f0 f1 f2 f3 by kernel_rfl).trans h17
              have ha := orT ha (notF hx)
              exact rgB ha
            have hr : InR [(0, 0), (0, 0), (0, 0), (0, 0), (-1000, 1000), (-1000, 1000), (-1000, 1000), (-1000, 1000)] [(lw4f_at0 x0), (lw4f_at0 x1), (lw4f_at0 x2), (lw4f_at0 x3), (lw4f_at1 f0), (lw4f_at1 f1), (lw4f_at1 f2), (lw4f_at1 f3)] := ⟨r8, ⟨r9, ⟨r10, ⟨r11, ⟨lw4f_rg12 x0 x1 x2 x3 f0 f1 f2 f3 hpre, ⟨lw4f_rg13 x0 x1 x2 x3 f0 f1 f2 f3 hpre, ⟨lw4f_rg14 x0 x1 x2 x3 f0 f1 f2 f3 hpre, ⟨lw4f_rg15 x0 x1 x2 x3 f0 f1 f2 f3 hpre, trivial⟩⟩⟩⟩⟩⟩⟩⟩
            have e1 : lw4f_c36 x0 x1 x2 x3 f0 f1 f2 f3 = BE.ev [(lw4f_at0 x0), (lw4f_at0 x1), (lw4f_at0 x2), (lw4f_at0 x3), (lw4f_at1 f0), (lw4f_at1 f1), (lw4f_at1 f2), (lw4f_at1 f3)] (.cm .gt lw4f_q68 (.k (1073741824))) := by kernel_rfl
            rw [e1]
            exact BE.tri_ok hr (by kernel_rfl) (by kernel_rfl)
          have h38 : (lw4f_c37 x0 x1 x2 x3 f0 f1 f2 f3 = false) := by
            have r8 : Rg.has (0, 0) (lw4f_at0 x0) := by
              have hr : InR [(-100, 100)] [(lw4f_at0 x0)] := ⟨lw4f_rg8 x0 x1 x2 x3 f0 f1 f2 f3 hpre, trivial⟩
              have ha := BE.all_ok hr lw4f_q34 (by kernel_rfl)
              have hx : BE.ev [(lw4f_at0 x0)] (.cm .eq (.v 0) (.k (0))) = true := (show BE.ev [(lw4f_at0 x0)] (.cm .eq (.v 0) (.k (0))) = lw4f_c0 x0 x1 x2 x3 f0 f1 f2 f3 by kernel_rfl).trans h0
              have ha := orT ha hx
              exact rgB ha
            have r9 : Rg.has (0, 0) (lw4f_at0 x1) := by
              have hr : InR [(-100, 100)] [(lw4f_at0 x1)] := ⟨lw4f_rg9 x0 x1 x2 x3 f0 f1 f2 f3 hpre, trivial⟩
              have ha := BE.all_ok hr lw4f_q34 (by kernel_rfl)
              have hx : BE.ev [(lw4f_at0 x1)] (.cm .eq (.v 0) (.k (0))) = true := (show BE.ev [(lw4f_at0 x1)] (.cm .eq (.v 0) (.k (0))) = lw4f_c11 x0 x1 x2 x3 f0 f1 f2 f3 by kernel_rfl).trans h1
              have ha := orT ha hx
              exact rgB ha
            have r10 : Rg.has (0, 0) (lw4f_at0 x2) := by
              have hr : InR [(-100, 100)] [(lw4f_at0 x2)] := ⟨lw4f_rg10 x0 x1 x2 x3 f0 f1 f2 f3 hpre, trivial⟩
              have ha := BE.all_ok hr lw4f_q34 (by kernel_rfl)
              have hx : BE.ev [(lw4f_at0 x2)] (.cm .eq (.v 0) (.k (0))) = true := (show BE.ev [(lw4f_at0 x2)] (.cm .eq (.v 0) (.k (0))) = lw4f_c14 x0 x1 x2 x3 f0 f1 f2 f3 by kernel_rfl).trans h2
              have ha := orT ha hx
              exact rgB ha
            have r11 : Rg.has (0, 0) (lw4f_at0 x3) := by
              have hr : InR [(0, 0), (0, 0), (0, 0), (-100, 100)] [(lw4f_at0 x0), (lw4f_at0 x1), (lw4f_at0 x2), (lw4f_at0 x3)] := ⟨r8, ⟨r9, ⟨r10, ⟨lw4f_rg11 x0 x1 x2 x3 f0 f1 f2 f3 hpre, trivial⟩⟩⟩⟩
              have ha := BE.all_ok hr lw4f_q56 (by kernel_rfl)
              have hx : BE.ev [(lw4f_at0 x0), (lw4f_at0 x1), (lw4f_at0 x2), (lw4f_at0 x3)] lw4f_q53 = false := (show BE.ev [(lw4f_at0 x0), (lw4f_at0 x1), (lw4f_at0 x2), (lw4f_at0 x3)] lw4f_q53 = lw4f_c17 x0 x1 x2 x3 f0 f1 f2 f3 by kernel_rfl).trans h17
              have ha := orT ha (notF hx)
              exact rgB ha
            have hr : InR [(0, 0), (0, 0), (0, 0), (0, 0), (-1000, 1000), (-1000, 1000), (-1000, 1000), (-1000, 1000)] [(lw4f_at0 x0), (lw4f_at0 x1), (lw4f_at0 x2), (lw4f_at0 x3), (lw4f_at1 f0), (lw4f_at1 f1), (lw4f_at1 f2), (lw4f_at1 f3)] := ⟨r8, ⟨r9, ⟨r10, ⟨r11, ⟨lw4f_rg12 x0 x1 x2 x3 f0 f1 f2 f3 hpre, ⟨lw4f_rg13 x0 x1 x2 x3 f0 f1 f2 f3 hpre, ⟨lw4f_rg14 x0 x1 x2 x3 f0 f1 f2 f3 hpre, ⟨lw4f_rg15 x0 x1 x2 x3 f0 f1 f2 f3 hpre, trivial⟩⟩⟩⟩⟩⟩⟩⟩
            have e1 : lw4f_c37 x0 x1 x2 x3 f0 f1 f2 f3 = BE.ev [(lw4f_at0 x0), (lw4f_at0 x1), (lw4f_at0 x2), (lw4f_at0 x3), (lw4f_at1 f0), (lw4f_at1 f1), (lw4f_at1 f2), (lw4f_at1 f3)] (.cm .lt lw4f_q70 (.k (-1073741824))) := by kernel_rfl
            rw [e1]
            exact BE.tri_ok hr (by kernel_rfl) (by kernel_rfl)
          have h39 : (lw4f_c38 x0 x1 x2 x3 f0 f1 f2 f3 = false) := by
            have r8 : Rg.has (0, 0) (lw4f_at0 x0) := by
              have hr : InR [(-100, 100)] [(lw4f_at0 x0)] := ⟨lw4f_rg8 x0 x1 x2 x3 f0 f1 f2 f3 hpre, trivial⟩
              have ha := BE.all_ok hr lw4f_q34 (by kernel_rfl)
              have hx : BE.ev [(lw4f_at0 x0)] (.cm .eq (.v 0) (.k (0))) = true := (show BE.ev [(lw4f_at0 x0)] (.cm .eq (.v 0) (.k (0))) = lw4f_c0 x0 x1 x2 x3 f0 f1 f2 f3 by kernel_rfl).trans h0
              have ha := orT ha hx
              exact rgB ha
            have r9 : Rg.has (0, 0) (lw4f_at0 x1) := by
              have hr : InR [(-100, 100)] [(lw4f_at0 x1)] := ⟨lw4f_rg9 x0 x1 x2 x3 f0 f1 f2 f3 hpre, trivial⟩
              have ha := BE.all_ok hr lw4f_q34 (by kernel_rfl)
              have hx : BE.ev [(lw4f_at0 x1)] (.cm .eq (.v 0) (.k (0))) = true := (show BE.ev [(lw4f_at0 x1)] (.cm .eq (.v 0) (.k (0))) = lw4f_c11 x0 x1 x2 x3 f0 f1 f2 f3 by kernel_rfl).trans h1
              have ha := orT ha hx
              exact rgB ha
            have r10 : Rg.has (0, 0) (lw4f_at0 x2) := by
              have hr : InR [(-100, 100)] [(lw4f_at0 x2)] := ⟨lw4f_rg10 x0 x1 x2 x3 f0 f1 f2 f3 hpre, trivial⟩
              have ha := BE.all_ok hr lw4f_q34 (by kernel_rfl)
              have hx : BE.ev [(lw4f_at0 x2)] (.cm .eq (.v 0) (.k (0))) = true := (show BE.ev [(lw4f_at0 x2)] (.cm .eq (.v 0) (.k (0))) = lw4f_c14 x0 x1 x2 x3 f0 f1 f2 f3 by kernel_rfl).trans h2
              have ha := orT ha hx
              exact rgB ha
            have r11 : Rg.has (0, 0) (lw4f_at0 x3) := by
              have hr : InR [(0, 0), (0, 0), (0, 0), (-100, 100)] [(lw4f_at0 x0), (lw4f_at0 x1), (lw4f_at0 x2), (lw4f_at0 x3)] := ⟨r8, ⟨r9, ⟨r10, ⟨lw4f_rg11 x0 x1 x2 x3 f0 f1 f2 f3 hpre, trivial⟩⟩⟩⟩
              have ha := BE.all_ok hr lw4f_q56 (by kernel_rfl)
              have hx : BE.ev [(lw4f_at0 x0), (lw4f_at0 x1), (lw4f_at0 x2), (lw4f_at0 x3)] lw4f_q53 = false := (show BE.ev [(lw4f_at0 x0), (lw4f_at0 x1), (lw4f_at0 x2), (lw4f_at0 x3)] lw4f_q53 = lw4f_c17 x0 x1 x2 x3 f0 f1 f2 f3 by kernel_rfl).trans h17
              have ha := orT ha (notF hx)
              exact rgB ha
            have hr : InR [(0, 0), (0, 0), (0, 0), (0, 0), (-1000, 1000), (-1000, 1000), (-1000, 1000), (-1000, 1000)] [(lw4f_at0 x0), (lw4f_at0 x1), (lw4f_at0 x2), (lw4f_at0 x3), (lw4f_at1 f0), (lw4f_at1 f1), (lw4f_at1 f2), (lw4f_at1 f3)] := ⟨r8, ⟨r9, ⟨r10, ⟨r11, ⟨lw4f_rg12 x0 x1 x2 x3 f0 f1 f2 f3 hpre, ⟨lw4f_rg13 x0 x1 x2 x3 f0 f1 f2 f3 hpre, ⟨lw4f_rg14 x0 x1 x2 x3 f0 f1 f2 f3 hpre, ⟨lw4f_rg15 x0 x1 x2 x3 f0 f1 f2 f3 hpre, trivial⟩⟩⟩⟩⟩⟩⟩⟩
            have e1 : lw4f_c38 x0 x1 x2 x3 f0 f1 f2 f3 = BE.ev [(lw4f_at0 x0), (lw4f_at0 x1), (lw4f_at0 x2), (lw4f_at0 x3), (lw4f_at1 f0), (lw4f_at1 f1), (lw4f_at1 f2), (lw4f_at1 f3)] (.cm .gt lw4f_q70 (.k (1073741824))) := by kernel_rfl
            rw [e1]
            exact BE.tri_ok hr (by kernel_rfl) (by kernel_rfl)
          have h40 : (lw4f_c39 x0 x1 x2 x3 f0 f1 f2 f3 = false) := by
            have r8 : Rg.has (0, 0) (lw4f_at0 x0) := by
              have hr : InR [(-100, 100)] [(lw4f_at0 x0)] := ⟨lw4f_rg8 x0 x1 x2 x3 f0 f1 f2 f3 hpre, trivial⟩
              have ha := BE.all_ok hr lw4f_q34 (by kernel_rfl)
              have hx : BE.ev [(lw4f_at0 x0)] (.cm .eq (.v 0) (.k (0))) = true := (show BE.ev [(lw4f_at0 x0)] (.cm .eq (.v 0) (.k (0))) = lw4f_c0 x0 x1 x2 x3 f0 f1 f2 f3 by kernel_rfl).trans h0
              have ha := orT ha hx
              exact rgB ha
            have r9 : Rg.has (0, 0) (lw4f_at0 x1) := by
              have hr : InR [(-100, 100)] [(lw4f_at0 x1)] := ⟨lw4f_rg9 x0 x1 x2 x3 f0 f1 f2 f3 hpre, trivial⟩
              have ha := BE.all_ok hr lw4f_q34 (by kernel_rfl)
              have hx : BE.ev [(lw4f_at0 x1)] (.cm .eq (.v 0) (.k (0))) = true := (show BE.ev [(lw4f_at0 x1)] (.cm .eq (.v 0) (.k (0))) = lw4f_c11 x0 x1 x2 x3 f0 f1 f2 f3 by kernel_rfl).trans h1
              have ha := orT ha hx
              exact rgB ha
            have r10 : Rg.has (0, 0) (lw4f_at0 x2) := by
              have hr : InR [(-100, 100)] [(lw4f_at0 x2)] := ⟨lw4f_rg10 x0 x1 x2 x3 f0 f1 f2 f3 hpre, trivial⟩
              have ha := BE.all_ok hr lw4f_q34 (by kernel_rfl)
              have hx : BE.ev [(lw4f_at0 x2)] (.cm .eq (.v 0) (.k (0))) = true := (show BE.ev [(lw4f_at0 x2)] (.cm .eq (.v 0) (.k (0))) = lw4f_c14 x0 x1 x2 x3 f0 f1 f2 f3 by kernel_rfl).trans h2
              have ha := orT ha hx
              exact rgB ha
            have r11 : Rg.has (0, 0) (lw4f_at0 x3) := by
              have hr : InR [(0, 0), (0, 0), (0, 0), (-100, 100)] [(lw4f_at0 x0), (lw4f_at0 x1), (lw4f_at0 x2), (lw4f_at0 x3)] := ⟨r8, ⟨r9, ⟨r10, ⟨lw4f_rg11 x0 x1 x2 x3 f0 f1 f2 f3 hpre, trivial⟩⟩⟩⟩
              have ha := BE.all_ok hr lw4f_q56 (by kernel_rfl)
              have hx : BE.ev [(lw4f_at0 x0), (lw4f_at0 x1), (lw4f_at0 x2), (lw4f_at0 x3)] lw4f_q53 = false := (show BE.ev [(lw4f_at0 x0), (lw4f_at0 x1), (lw4f_at0 x2), (lw4f_at0 x3)] lw4f_q53 = lw4f_c17 x0 x1 x2 x3 f0 f1 f2 f3 by kernel_rfl).trans h17
              have ha := orT ha (notF hx)
              exact rgB ha
            have hr : InR [(0, 0), (0, 0), (0, 0), (0, 0), (-1000, 1000), (-1000, 1000), (-1000, 1000), (-1000, 1000)] [(lw4f_at0 x0), (lw4f_at0 x1), (lw4f_at0 x2), (lw4f_at0 x3), (lw4f_at1 f0), (lw4f_at1 f1), (lw4f_at1 f2), (lw4f_at1 f3)] := ⟨r8, ⟨r9, ⟨r10, ⟨r11, ⟨lw4f_rg12 x0 x1 x2 x3 f0 f1 f2 f3 hpre, ⟨lw4f_rg13 x0 x1 x2 x3 f0 f1 f2 f3 hpre, ⟨lw4f_rg14 x0 x1 x2 x3 f0 f1 f2 f3 hpre, ⟨lw4f_rg15 x0 x1 x2 x3 f0 f1 f2 f3 hpre, trivial⟩⟩⟩⟩⟩⟩⟩⟩
            have e1 : lw4f_c39 x0 x1 x2 x3 f0 f1 f2 f3 = BE.ev [(lw4f_at0 x0), (lw4f_at0 x1), (lw4f_at0 x2), (lw4f_at0 x3), (lw4f_at1 f0), (lw4f_at1 f1), (lw4f_at1 f2), (lw4f_at1 f3)] (.cm .lt lw4f_q72 (.k (-1073741824))) := by kernel_rfl
            rw [e1]
            exact BE.tri_ok hr (by kernel_rfl) (by kernel_rfl)
          have h41 : (lw4f_c40 x0 x1 x2 x3 f0 f1 f2 f3 = false) := by
            have r8 : Rg.has (0, 0) (lw4f_at0 x0) := by
              have hr : InR [(-100, 100)] [(lw4f_at0 x0)] := ⟨lw4f_rg8 x0 x1 x2 x3 f0 f1 f2 f3 hpre, trivial⟩
              have ha := BE.all_ok hr lw4f_q34 (by kernel_rfl)
              have hx : BE.ev [(lw4f_at0 x0)] (.cm .eq (.v 0) (.k (0))) = true := (show BE.ev [(lw4f_at0 x0)] (.cm .eq (.v 0) (.k (0))) = lw4f_c0 x0 x1 x2 x3 f0 f1 f2 f3 by kernel_rfl).trans h0
              have ha := orT ha hx
              exact rgB ha
            have r9 : Rg.has (0, 0) (lw4f_at0 x1) := by
              have hr : InR [(-100, 100)] [(lw4f_at0 x1)] := ⟨lw4f_rg9 x0 x1 x2 x3 f0 f1 f2 f3 hpre, trivial⟩
              have ha := BE.all_ok hr lw4f_q34 (by kernel_rfl)
              have hx : BE.ev [(lw4f_at0 x1)] (.cm .eq (.v 0) (.k (0))) = true := (show BE.ev [(lw4f_at0 x1)] (.cm .eq (.v 0) (.k (0))) = lw4f_c11 x0 x1 x2 x3 f0 f1 f2 f3 by kernel_rfl).trans h1
              have ha := orT ha hx
              exact rgB ha
            have r10 : Rg.has (0, 0) (lw4f_at0 x2) := by
              have hr : InR [(-100, 100)] [(lw4f_at0 x2)] := ⟨lw4f_rg10 x0 x1 x2 x3 f0 f1 f2 f3 hpre, trivial⟩
              have ha := BE.all_ok hr lw4f_q34 (by kernel_rfl)
              have hx : BE.ev [(lw4f_at0 x2)] (.cm .eq (.v 0) (.k (0))) = true := (show BE.ev [(lw4f_at0 x2)] (.cm .eq (.v 0) (.k (0))) = lw4f_c14 x0 x1 x2 x3 f0 f1 f2 f3 by kernel_rfl).trans h2
              have ha := orT ha hx
              exact rgB ha
            have r11 : Rg.has (0, 0) (lw4f_at0 x3) := by
              have hr : InR [(0, 0), (0, 0), (0, 0), (-100, 100)] [(lw4f_at0 x0), (lw4f_at0 x1), (lw4f_at0 x2), (lw4f_at0 x3)] := ⟨r8, ⟨r9, ⟨r10, ⟨lw4f_rg11 x0 x1 x2 x3 f0 f1 f2 f3 hpre, trivial⟩⟩⟩⟩
              have ha := BE.all_ok hr lw4f_q56 (by kernel_rfl)
              have hx : BE.ev [(lw4f_at0 x0), (lw4f_at0 x1), (lw4f_at0 x2), (lw4f_at0 x3)] lw4f_q53 = false := (show BE.ev [(lw4f_at0 x0), (lw4f_at0 x1), (lw4f_at0 x2), (lw4f_at0 x3)] lw4f_q53 = lw4f_c17 x0 x1 x2 x3 f0 f1 f2 f3 by kernel_rfl).trans h17
              have ha := orT ha (notF hx)
              exact rgB ha
            have hr : InR [(0, 0), (0, 0), (0, 0), (0, 0), (-1000, 1000), (-1000, 1000), (-1000, 1000), (-1000, 1000)] [(lw4f_at0 x0), (lw4f_at0 x1), (lw4f_at0 x2), (lw4f_at0 x3), (lw4f_at1 f0), (lw4f_at1 f1), (lw4f_at1 f2), (lw4f_at1 f3)] := ⟨r8, ⟨r9, ⟨r10, ⟨r11, ⟨lw4f_rg12 x0 x1 x2 x3 f0 f1 f2 f3 hpre, ⟨lw4f_rg13 x0 x1 x2 x3 f0 f1 f2 f3 hpre, ⟨lw4f_rg14 x0 x1 x2 x3 f0 f1 f2 f3 hpre, ⟨lw4f_rg15 x0 x1 x2 x3 f0 f1 f2 f3 hpre, trivial⟩⟩⟩⟩⟩⟩⟩⟩
            have e1 : lw4f_c40 x0 x1 x2 x3 f0 f1 f2 f3 = BE.ev [(lw4f_at0 x0), (lw4f_at0 x1), (lw4f_at0 x2), (lw4f_at0 x3), (lw4f_at1 f0), (lw4f_at1 f1), (lw4f_at1 f2), (lw4f_at1 f3)] (.cm .gt lw4f_q72 (.k (1073741824))) := by kernel_rfl
            rw [e1]
            exact BE.tri_ok hr (by kernel_rfl) (by kernel_rfl)
          have h42 : (lw4f_c41 x0 x1 x2 x3 f0 f1 f2 f3 = false) := by
            have r8 : Rg.has (0, 0) (lw4f_at0 x0) := by
              have hr : InR [(-100, 100)] [(lw4f_at0 x0)] := ⟨lw4f_rg8 x0 x1 x2 x3 f0 f1 f2 f3 hpre, trivial⟩
              have ha := BE.all_ok hr lw4f_q34 (by kernel_rfl)
              have hx : BE.ev [(lw4f_at0 x0)] (.cm .eq (.v 0) (.k (0))) = true := (show BE.ev [(lw4f_at0 x0)] (.cm .eq (.v 0) (.k (0))) = lw4f_c0 x0 x1 x2 x3 f0 f1 f2 f3 by kernel_rfl).trans h0
              have ha := orT ha hx
              exact rgB ha
            have r9 : Rg.has (0, 0) (lw4f_at0 x1) := by
              have hr : InR [(-100, 100)] [(lw4f_at0 x1)] := ⟨lw4f_rg9 x0 x1 x2 x3 f0 f1 f2 f3 hpre, trivial⟩
              have ha := BE.all_ok hr lw4f_q34 (by kernel_rfl)
              have hx : BE.ev [(lw4f_at0 x1)] (.cm .eq (.v 0) (.k (0))) = true := (show BE.ev [(lw4f_at0 x1)] (.cm .eq (.v 0) (.k (0))) = lw4f_c11 x0 x1 x2 x3 f0 f1 f2 f3 by kernel_rfl).trans h1
              have ha := orT ha hx
              exact rgB ha
            have r10 : Rg.has (0, 0) (lw4f_at0 x2) := by
              have hr : InR [(-100, 100)] [(lw4f_at0 x2)] := ⟨lw4f_rg10 x0 x1 x2 x3 f0 f1 f2 f3 hpre, trivial⟩
              have ha := BE.all_ok hr lw4f_q34 (by kernel_rfl)
              have hx : BE.ev [(lw4f_at0 x2)] (.cm .eq (.v 0) (.k (0))) = true := (show BE.ev [(lw4f_at0 x2)] (.cm .eq (.v 0) (.k (0))) = lw4f_c14 x0 x1 x2 x3 f0 f1 f2 f3 by kernel_rfl).trans h2
              have ha := orT ha hx
              exact rgB ha
            have r11 : Rg.has (0, 0) (lw4f_at0 x3) := by
              have hr : InR [(0, 0), (0, 0), (0, 0), (-100, 100)] [(lw4f_at0 x0), (lw4f_at0 x1), (lw4f_at0 x2), (lw4f_at0 x3)] := ⟨r8, ⟨r9, ⟨r10, ⟨lw4f_rg11 x0 x1 x2 x3 f0 f1 f2 f3 hpre, trivial⟩⟩⟩⟩
              have ha := BE.all_ok hr lw4f_q56 (by kernel_rfl)
              have hx : BE.ev [(lw4f_at0 x0), (lw4f_at0 x1), (lw4f_at0 x2), (lw4f_at0 x3)] lw4f_q53 = false := (show BE.ev [(lw4f_at0 x0), (lw4f_at0 x1), (lw4f_at0 x2), (lw4f_at0 x3)] lw4f_q53 = lw4f_c17 x0 x1 x2 x3 f0 f1 f2 f3 by kernel_rfl).trans h17
              have ha := orT ha (notF hx)
              exact rgB ha
            have hr : InR [(0, 0), (0, 0), (0, 0), (0, 0), (-1000, 1000), (-1000, 1000), (-1000, 1000), (-1000, 1000)] [(lw4f_at0 x0), (lw4f_at0 x1), (lw4f_at0 x2), (lw4f_at0 x3), (lw4f_at1 f0), (lw4f_at1 f1), (lw4f_at1 f2), (lw4f_at1 f3)] := ⟨r8, ⟨r9, ⟨r10, ⟨r11, ⟨lw4f_rg12 x0 x1 x2 x3 f0 f1 f2 f3 hpre, ⟨lw4f_rg13 x0 x1 x2 x3 f0 f1 f2 f3 hpre, ⟨lw4f_rg14 x0 x1 x2 x3 f0 f1 f2 f3 hpre, ⟨lw4f_rg15 x0 x1 x2 x3 f0 f1 f2 f3 hpre, trivial⟩⟩⟩⟩⟩⟩⟩⟩
            have e1 : lw4f_c41 x0 x1 x2 x3 f0 f1 f2 f3 = BE.ev [(lw4f_at0 x0), (lw4f_at0 x1), (lw4f_at0 x2), (lw4f_at0 x3), (lw4f_at1 f0), (lw4f_at1 f1), (lw4f_at1 f2), (lw4f_at1 f3)] (.cm .ne (.wr lw4f_q63) (.k (0))) := by kernel_rfl
            rw [e1]
            exact BE.tri_ok hr (by kernel_rfl) (by kernel_rfl)
          have h43 : (lw4f_c42 x0 x1 x2 x3 f0 f1 f2 f3 = false) := by
            have r8 : Rg.has (0, 0) (lw4f_at0 x0) := by
              have hr : InR [(-100, 100)] [(lw4f_at0 x0)] := ⟨lw4f_rg8 x0 x1 x2 x3 f0 f1 f2 f3 hpre, trivial⟩
              have ha := BE.all_ok hr lw4f_q34 (by kernel_rfl)
              have hx : BE.ev [(lw4f_at0 x0)] (.cm .eq (.v 0) (.k (0))) = true := (show BE.ev [(lw4f_at0 x0)] (.cm .eq (.v 0) (.k (0))) = lw4f_c0 x0 x1 x2 x3 f0 f1 f2 f3 by kernel_rfl).trans h0
              have ha := orT ha hx
              exact rgB ha
            have r9 : Rg.has (0, 0) (lw4f_at0 x1) := by
              have hr : InR [(-100, 100)] [(lw4f_at0 x1)] := ⟨lw4f_rg9 x0 x1 x2 x3 f0 f1 f2 f3 hpre, trivial⟩
              have ha := BE.all_ok hr lw4f_q34 (by kernel_rfl)
              have hx : BE.ev [(lw4f_at0 x1)] (.cm .eq (.v 0) (.k (0))) = true := (show BE.ev [(lw4f_at0 x1)] (.cm .eq (.v 0) (.k (0))) = lw4f_c11 x0 x1 x2 x3 f0 f1 f2 f3 by kernel_rfl).trans h1
              have ha := orT ha hx
              exact rgB ha
            have r10 : Rg.has (0, 0) (lw4f_at0 x2) := by
              have hr : InR [(-100, 100)] [(lw4f_at0 x2)] := ⟨lw4f_rg10 x0 x1 x2 x3 f0 f1 f2 f3 hpre, trivial⟩
              have ha := BE.all_ok hr lw4f_q34 (by kernel_rfl)
              have hx : BE.ev [(lw4f_at0 x2)] (.cm .eq (.v 0) (.k (0))) = true := (show BE.ev [(lw4f_at0 x2)] (.cm .eq (.v 0) (.k (0))) = lw4f_c14 x0 x1 x2 x3 f0 f1 f2 f3 by kernel_rfl).trans h2
              have ha := orT ha hx
              exact rgB ha
            have r11 : Rg.has (0, 0) (lw4f_at0 x3) := by
              have hr : InR [(0, 0), (0, 0), (0, 0), (-100, 100)] [(lw4f_at0 x0), (lw4f_at0 x1), (lw4f_at0 x2), (lw4f_at0 x3)] := ⟨r8, ⟨r9, ⟨r10, ⟨lw4f_rg11 x0 x1 x2 x3 f0 f1 f2 f3 hpre, trivial⟩⟩⟩⟩
              have ha := BE.all_ok hr lw4f_q56 (by kernel_rfl)
              have hx : BE.ev [(lw4f_at0 x0), (lw4f_at0 x1), (lw4f_at0 x2), (lw4f_at0 x3)] lw4f_q53 = false := (show BE.ev [(lw4f_at0 x0), (lw4f_at0 x1), (lw4f_at0 x2), (lw4f_at0 x3)] lw4f_q53 = lw4f_c17 x0 x1 x2 x3 f0 f1 f2 f3 by kernel_rfl).trans h17
              have ha := orT ha (notF hx)
              exact rgB ha
            have hr : InR [(0, 0), (0, 0), (0, 0), (0, 0), (-1000, 1000), (-1000, 1000), (-1000, 1000), (-1000, 1000)] [(lw4f_at0 x0), (lw4f_at0 x1), (lw4f_at0 x2), (lw4f_at0 x3), (lw4f_at1 f0), (lw4f_at1 f1), (lw4f_at1 f2), (lw4f_at1 f3)] := ⟨r8, ⟨r9, ⟨r10, ⟨r11, ⟨lw4f_rg12 x0 x1 x2 x3 f0 f1 f2 f3 hpre, ⟨lw4f_rg13 x0 x1 x2 x3 f0 f1 f2 f3 hpre, ⟨lw4f_rg14 x0 x1 x2 x3 f0 f1 f2 f3 hpre, ⟨lw4f_rg15 x0 x1 x2 x3 f0 f1 f2 f3 hpre, trivial⟩⟩⟩⟩⟩⟩⟩⟩
            have e1 : lw4f_c42 x0 x1 x2 x3 f0 f1 f2 f3 = BE.ev [(lw4f_at0 x0), (lw4f_at0 x1), (lw4f_at0 x2), (lw4f_at0 x3), (lw4f_at1 f0), (lw4f_at1 f1), (lw4f_at1 f2), (lw4f_at1 f3)] (.cm .ne (.wr lw4f_q65) (.k (0))) := by kernel_rfl
            rw [e1]
            exact BE.tri_ok hr (by kernel_rfl) (by kernel_rfl)
          have h44 : (lw4f_c43 x0 x1 x2 x3 f0 f1 f2 f3 = false) := by
            have r8 : Rg.has (0, 0) (lw4f_at0 x0) := by
              have hr : InR [(-100, 100)] [(lw4f_at0 x0)] := ⟨lw4f_rg8 x0 x1 x2 x3 f0 f1 f2 f3 hpre, trivial⟩
              have ha := BE.all_ok hr lw4f_q34 (by kernel_rfl)
              have hx : BE.ev [(lw4f_at0 x0)] (.cm .eq (.v 0) (.k (0))) = true := (show BE.ev [(lw4f_at0 x0)] (.cm .eq (.v 0) (.k (0))) = lw4f_c0 x0 x1 x2 x3 f0 f1 f2 f3 by kernel_rfl).trans h0
              have ha := orT ha hx
              exact rgB ha
            have r9 : Rg.has (0, 0) (lw4f_at0 x1) := by
              have hr : InR [(-100, 100)] [(lw4f_at0 x1)] := ⟨lw4f_rg9 x0 x1 x2 x3 f0 f1 f2 f3 hpre, trivial⟩
              have ha := BE.all_ok hr lw4f_q34 (by kernel_rfl)
              have hx : BE.ev [(lw4f_at0 x1)] (.cm .eq (.v 0) (.k (0))) = true := (show BE.ev [(lw4f_at0 x1)] (.cm .eq (.v 0) (.k (0))) = lw4f_c11 x0 x1 x2 x3 f0 f1 f2 f3 by kernel_rfl).trans h1
              have ha := orT ha hx
              exact rgB ha
            have r10 : Rg.has (0, 0) (lw4f_at0 x2) := by
              have hr : InR [(-100, 100)] [(lw4f_at0 x2)] := ⟨lw4f_rg10 x0 x1 x2 x3 f0 f1 f2 f3 hpre, trivial⟩
              have ha := BE.all_ok hr lw4f_q34 (by kernel_rfl)
              have hx : BE.ev [(lw4f_at0 x2)] (.cm .eq (.v 0) (.k (0))) = true := (show BE.ev [(lw4f_at0 x2)] (.cm .eq (.v 0) (.k (0))) = lw4f_c14 x0 x1 x2 x3 f0 f1 f2 f3 by kernel_rfl).trans h2
              have ha := orT ha hx
              exact rgB ha
            have r11 : Rg.has (0, 0) (lw4f_at0 x3) := by
              have hr : InR [(0, 0), (0, 0), (0, 0), (-100, 100)] [(lw4f_at0 x0), (lw4f_at0 x1), (lw4f_at0 x2), (lw4f_at0 x3)] := ⟨r8, ⟨r9, ⟨r10, ⟨lw4f_rg11 x0 x1 x2 x3 f0 f1 f2 f3 hpre, trivial⟩⟩⟩⟩
              have ha := BE.all_ok hr lw4f_q56 (by kernel_rfl)
              have hx : BE.ev [(lw4f_at0 x0), (lw4f_at0 x1), (lw4f_at0 x2), (lw4f_at0 x3)] lw4f_q53 = false := (show BE.ev [(lw4f_at0 x0), (lw4f_at0 x1), (lw4f_at0 x2), (lw4f_at0 x3)] lw4f_q53 = lw4f_c17 x0 x1 x2 x3 f0 f1 f2 f3 by kernel_rfl).trans h17
              have ha := orT ha (notF hx)
              exact rgB ha
            have hr : InR [(0, 0), (0, 0), (0, 0), (0, 0), (-1000, 1000), (-1000, 1000), (-1000, 1000), (-1000, 1000)] [(lw4f_at0 x0), (lw4f_at0 x1), (lw4f_at0 x2), (lw4f_at0 x3), (lw4f_at1 f0), (lw4f_at1 f1), (lw4f_at1 f2), (lw4f_at1 f3)] := ⟨r8, ⟨r9, ⟨r10, ⟨r11, ⟨lw4f_rg12 x0 x1 x2 x3 f0 f1 f2 f3 hpre, ⟨lw4f_rg13 x0 x1 x2 x3 f0 f1 f2 f3 hpre, ⟨lw4f_rg14 x0 x1 x2 x3 f0 f1 f2 f3 hpre, ⟨lw4f_rg15 x0 x1 x2 x3 f0 f1 f2 f3 hpre, trivial⟩⟩⟩⟩⟩⟩⟩⟩
            have e1 : lw4f_c43 x0 x1 x2 x3 f0 f1 f2 f3 = BE.ev [(lw4f_at0 x0), (lw4f_at0 x1), (lw4f_at0 x2), (lw4f_at0 x3), (lw4f_at1 f0), (lw4f_at1 f1), (lw4f_at1 f2), (lw4f_at1 f3)] (.cm .ne lw4f_q66 (.k (0))) := by kernel_rfl
            rw [e1]
            exact BE.tri_ok hr (by kernel_rfl) (by kernel_rfl)
          have h45 : (lw4f_c44 x0 x1 x2 x3 f0 f1 f2 f3 = false) := by
            have r8 : Rg.has (0, 0) (lw4f_at0 x0) := by
              have hr : InR [(-100, 100)] [(lw4f_at0 x0)] := ⟨lw4f_rg8 x0 x1 x2 x3 f0 f1 f2 f3 hpre, trivial⟩
              have ha := BE.all_ok hr lw4f_q34 (by kernel_rfl)
              have hx : BE.ev [(lw4f_at0 x0)] (.cm .eq (.v 0) (.k (0))) = true := (show BE.ev [(lw4f_at0 x0)] (.cm .eq (.v 0) (.k (0))) = lw4f_c0 x0 x1 x2 x3 f0 f1 f2 f3 by kernel_rfl).trans h0
              have ha := orT ha hx
              exact rgB ha
            have r9 : Rg.has (0, 0) (lw4f_at0 x1) := by
              have hr : InR [(-100, 100)] [(lw4f_at0 x1)] := ⟨lw4f_rg9 x0 x1 x2 x3 f0 f1 f2 f3 hpre, trivial⟩
              have ha := BE.all_ok hr lw4f_q34 (by kernel_rfl)
              have hx : BE.ev [(lw4f_at0 x1)] (.cm .eq (.v 0) (.k (0))) = true := (show BE.ev [(lw4f_at0 x1)] (.cm .eq (.v 0) (.k (0))) = lw4f_c11 x0 x1 x2 x3 f0 f1 f2 f3 by kernel_rfl).trans h1
              have ha := orT ha hx
              exact rgB ha
            have r10 : Rg.has (0, 0) (lw4f_at0 x2) := by
              have hr : InR [(-100, 100)] [(lw4f_at0 x2)] := ⟨lw4f_rg10 x0 x1 x2 x3 f0 f1 f2 f3 hpre, trivial⟩
              have ha := BE.all_ok hr lw4f_q34 (by kernel_rfl)
              have hx : BE.ev [(lw4f_at0 x2)] (.cm .eq (.v 0) (.k (0))) = true := (show BE.ev [(lw4f_at0 x2)] (.cm .eq (.v 0) (.k (0))) = lw4f_c14 x0 x1 x2 x3 f0 f1 f2 f3 by kernel_rfl).trans h2
              have ha := orT ha hx
              exact rgB ha
            have r11 : Rg.has (0, 0) (lw4f_at0 x3) := by
              have hr : InR [(0, 0), (0, 0), (0, 0), (-100, 100)] [(lw4f_at0 x0), (lw4f_at0 x1), (lw4f_at0 x2), (lw4f_at0 x3)] := ⟨r8, ⟨r9, ⟨r10, ⟨lw4f_rg11 x0 x1 x2 x3 f0 f1 f2 f3 hpre, trivial⟩⟩⟩⟩
              have ha := BE.all_ok hr lw4f_q56 (by kernel_rfl)
              have hx : BE.ev [(lw4f_at0 x0), (lw4f_at0 x1), (lw4f_at0 x2), (lw4f_at0 x3)] lw4f_q53 = false := (show BE.ev [(lw4f_at0 x0), (lw4f_at0 x1), (lw4f_at0 x2), (lw4f_at0 x3)] lw4f_q53 = lw4f_c17 x0 x1 x2 x3 f0 f1 f2 f3 by kernel_rfl).trans h17
              have ha := orT ha (notF hx)
              exact rgB ha
            have hr : InR [(0, 0), (0, 0), (0, 0), (0, 0), (-1000, 1000), (-1000, 1000), (-1000, 1000), (-1000, 1000)] [(lw4f_at0 x0), (lw4f_at0 x1), (lw4f_at0 x2), (lw4f_at0 x3), (lw4f_at1 f0), (lw4f_at1 f1), (lw4f_at1 f2), (lw4f_at1 f3)] := ⟨r8, ⟨r9, ⟨r10, ⟨r11, ⟨lw4f_rg12 x0 x1 x2 x3 f0 f1 f2 f3 hpre, ⟨lw4f_rg13 x0 x1 x2 x3 f0 f1 f2 f3 hpre, ⟨lw4f_rg14 x0 x1 x2 x3 f0 f1 f2 f3 hpre, ⟨lw4f_rg15 x0 x1 x2 x3 f0 f1 f2 f3 hpre, trivial⟩⟩⟩⟩⟩⟩⟩⟩
            have e1 : lw4f_c44 x0 x1 x2 x3 f0 f1 f2 f3 = BE.ev [(lw4f_at0 x0), (lw4f_at0 x1), (lw4f_at0 x2), (lw4f_at0 x3), (lw4f_at1 f0), (lw4f_at1 f1), (lw4f_at1 f2), (lw4f_at1 f3)] (.cm .ne lw4f_q68 (.k (0))) := by kernel_rfl
            rw [e1]
            exact BE.tri_ok hr (by kernel_rfl) (by kernel_rfl)
          have h46 : (lw4f_c45 x0 x1 x2 x3 f0 f1 f2 f3 = false) := by
            have r8 : Rg.has (0, 0) (lw4f_at0 x0) := by
              have hr : InR [(-100, 100)] [(lw4f_at0 x0)] := ⟨lw4f_rg8 x0 x1 x2 x3 f0 f1 f2 f3 hpre, trivial⟩
              have ha := BE.all_ok hr lw4f_q34 (by kernel_rfl)
              have hx : BE.ev [(lw4f_at0 x0)] (.cm .eq (.v 0) (.k (0))) = true := (show BE.ev [(lw4f_at0 x0)] (.cm .eq (.v 0) (.k (0))) = lw4f_c0 x0 x1 x2 x3 f0 f1 f2 f3 by kernel_rfl).trans h0
              have ha := orT ha hx
              exact rgB ha
            have r9 : Rg.has (0, 0) (lw4f_at0 x1) := by
              have hr : InR [(-100, 100)] [(lw4f_at0 x1)] := ⟨lw4f_rg9 x0 x1 x2 x3 f0 f1 f2 f3 hpre, trivial⟩
              have ha := BE.all_ok hr lw4f_q34 (by kernel_rfl)
              have hx : BE.ev [(lw4f_at0 x1)] (.cm .eq (.v 0) (.k (0))) = true := (show BE.ev [(lw4f_at0 x1)] (.cm .eq (.v 0) (.k (0))) = lw4f_c11 x0 x1 x2 x3 f0 f1 f2 f3 by kernel_rfl).trans h1
              have ha := orT ha hx
              exact rgB ha
            have r10 : Rg.has (0, 0) (lw4f_at0 x2) := by
              have hr : InR [(-100, 100)] [(lw4f_at0 x2)] := ⟨lw4f_rg10 x0 x1 x2 x3 f0 f1 f2 f3 hpre, trivial⟩
              have ha := BE.all_ok hr lw4f_q34 (by kernel_rfl)
              have hx : BE.ev [(lw4f_at0 x2)] (.cm .eq (.v 0) (.k (0))) = true := (show BE.ev [(lw4f_at0 x2)] (.cm .eq (.v 0) (.k (0))) = lw4f_c14 x0 x1 x2 x3 f0 f1 f2 f3 by kernel_rfl).trans h2
              have ha := orT ha hx
              exact rgB ha
            have r11 : Rg.has (0, 0) (lw4f_at0 x3) := by
              have hr : InR [(0, 0), (0, 0), (0, 0), (-100, 100)] [(lw4f_at0 x0), (lw4f_at0 x1), (lw4f_at0 x2), (lw4f_at0 x3)] := ⟨r8, ⟨r9, ⟨r10, ⟨lw4f_rg11 x0 x1 x2 x3 f0 f1 f2 f3 hpre, trivial⟩⟩⟩⟩
              have ha := BE.all_ok hr lw4f_q56 (by kernel_rfl)
              have hx : BE.ev [(lw4f_at0 x0), (lw4f_at0 x1), (lw4f_at0 x2), (lw4f_at0 x3)] lw4f_q53 = false := (show BE.ev [(lw4f_at0 x0), (lw4f_at0 x1), (lw4f_at0 x2), (lw4f_at0 x3)] lw4f_q53 = lw4f_c17 x0 x1 x2 x3 f0 f1 f2 f3 by kernel_rfl).trans h17
              have ha := orT ha (notF hx)
              exact rgB ha
            have hr : InR [(0, 0), (0, 0), (0, 0), (0, 0), (-1000, 1000), (-1000, 1000), (-1000, 1000), (-1000, 1000)] [(lw4f_at0 x0), (lw4f_at0 x1), (lw4f_at0 x2), (lw4f_at0 x3), (lw4f_at1 f0), (lw4f_at1 f1), (lw4f_at1 f2), (lw4f_at1 f3)] := ⟨r8, ⟨r9, ⟨r10, ⟨r11, ⟨lw4f_rg12 x0 x1 x2 x3 f0 f1 f2 f3 hpre, ⟨lw4f_rg13 x0 x1 x2 x3 f0 f1 f2 f3 hpre, ⟨lw4f_rg14 x0 x1 x2 x3 f0 f1 f2 f3 hpre, ⟨lw4f_rg15 x0 x1 x2 x3 f0 f1 f2 f3 hpre, trivial⟩⟩⟩⟩⟩⟩⟩⟩
            have e1 : lw4f_c45 x0 x1 x2 x3 f0 f1 f2 f3 = BE.ev [(lw4f_at0 x0), (lw4f_at0 x1), (lw4f_at0 x2), (lw4f_at0 x3), (lw4f_at1 f0), (lw4f_at1 f1), (lw4f_at1 f2), (lw4f_at1 f3)] (.cm .ne lw4f_q70 (.k (0))) := by kernel_rfl
            rw [e1]
            exact BE.tri_ok hr (by kernel_rfl) (by kernel_rfl)
          have h47 : (lw4f_c46 x0 x1 x2 x3 f0 f1 f2 f3 = false) := by
            have r8 : Rg.has (0, 0) (lw4f_at0 x0) := by
              have hr : InR [(-100, 100)] [(lw4f_at0 x0)] := ⟨lw4f_rg8 x0 x1 x2 x3 f0 f1 f2 f3 hpre, trivial⟩
              have ha := BE.all_ok hr lw4f_q34 (by kernel_rfl)
              have hx : BE.ev [(lw4f_at0 x0)] (.cm .eq (.v 0) (.k (0))) = true := (show BE.ev [(lw4f_at0 x0)] (.cm .eq (.v 0) (.k (0))) = lw4f_c0 x0 x1 x2 x3 f0 f1 f2 f3 by kernel_rfl).trans h0
              have ha := orT ha hx
              exact rgB ha
            have r9 : Rg.has (0, 0) (lw4f_at0 x1) := by
              have hr : InR [(-100, 100)] [(lw4f_at0 x1)] := ⟨lw4f_rg9 x0 x1 x2 x3 f0 f1 f2 f3 hpre, trivial⟩
              have ha := BE.all_ok hr lw4f_q34 (by kernel_rfl)
              have hx : BE.ev [(lw4f_at0 x1)] (.cm .eq (.v 0) (.k (0))) = true := (show BE.ev [(lw4f_at0 x1)] (.cm .eq (.v 0) (.k (0))) = lw4f_c11 x0 x1 x2 x3 f0 f1 f2 f3 by kernel_rfl).trans h1
              have ha := orT ha hx
              exact rgB ha
            have r10 : Rg.has (0, 0) (lw4f_at0 x2) := by
              have hr : InR [(-100, 100)] [(lw4f_at0 x2)] := ⟨lw4f_rg10 x0 x1 x2 x3 f0 f1 f2 f3 hpre, trivial⟩
              have ha := BE.all_ok hr lw4f_q34 (by kernel_rfl)
              have hx : BE.ev [(lw4f_at0 x2)] (.cm .eq (.v 0) (.k (0))) = true := (show BE.ev [(lw4f_at0 x2)] (.cm .eq (.v 0) (.k (0))) = lw4f_c14 x0 x1 x2 x3 f0 f1 f2 f3 by kernel_rfl).trans h2
              have ha := orT ha hx
              exact rgB ha
            have r11 : Rg.has (0, 0) (lw4f_at0 x3) := by
              have hr : InR [(0, 0), (0, 0), (0, 0), (-100, 100)] [(lw4f_at0 x0), (lw4f_at0 x1), (lw4f_at0 x2), (lw4f_at0 x3)] := ⟨r8, ⟨r9, ⟨r10, ⟨lw4f_rg11 x0 x1 x2 x3 f0 f1 f2 f3 hpre, trivial⟩⟩⟩⟩
              have ha := BE.all_ok hr lw4f_q56 (by kernel_rfl)
              have hx : BE.ev [(lw4f_at0 x0), (lw4f_at0 x1), (lw4f_at0 x2), (lw4f_at0 x3)] lw4f_q53 = false := (show BE.ev [(lw4f_at0 x0), (lw4f_at0 x1), (lw4f_at0 x2), (lw4f_at0 x3)] lw4f_q53 = lw4f_c17 x0 x1 x2 x3 f0 f1 f2 f3 by kernel_rfl).trans h17
              have ha := orT ha (notF hx)
              exact rgB ha
            have hr : InR [(0, 0), (0, 0), (0, 0), (0, 0), (-1000, 1000), (-1000, 1000), (-1000, 1000), (-1000, 1000)] [(lw4f_at0 x0), (lw4f_at0 x1), (lw4f_at0 x2), (lw4f_at0 x3), (lw4f_at1 f0), (lw4f_at1 f1), (lw4f_at1 f2), (lw4f_at1 f3)] := ⟨r8, ⟨r9, ⟨r10, ⟨r11, ⟨lw4f_rg12 x0 x1 x2 x3 f0 f1 f2 f3 hpre, ⟨lw4f_rg13 x0 x1 x2 x3 f0 f1 f2 f3 hpre, ⟨lw4f_rg14 x0 x1 x2 x3 f0 f1 f2 f3 hpre, ⟨lw4f_rg15 x0 x1 x2 x3 f0 f1 f2 f3 hpre, trivial⟩⟩⟩⟩⟩⟩⟩⟩
            have e1 : lw4f_c46 x0 x1 x2 x3 f0 f1 f2 f3 = BE.ev [(lw4f_at0 x0), (lw4f_at0 x1), (lw4f_at0 x2), (lw4f_at0 x3), (lw4f_at1 f0), (lw4f_at1 f1), (lw4f_at1 f2), (lw4f_at1 f3)] (.cm .ne lw4f_q72 (.k (0))) := by kernel_rfl
            rw [e1]
            exact BE.tri_ok hr (by kernel_rfl) (by kernel_rfl)
          exact lw4f_p4 x0 x1 x2 x3 f0 f1 f2 f3 c (lw4f_z20_h (lw4f_z18_h (lw4f_z14_h (lw4f_z8_h (lw4f_z17_h (lw4f_z12_h (lw4f_z6_h (lw4f_z2_h (lw4f_z16_h (lw4f_z10_h (lw4f_z4_h (lw4f_z0_h trivial x0 x1 x2 x3 f0 f1 f2 f3 hpre) x0 x1 x2 x3 f0 f1 f2 f3 hpre h0) x0 x1 x2 x3 f0 f1 f2 f3 hpre h1) x0 x1 x2 x3 f0 f1 f2 f3 hpre h2) x0 x1 x2 x3 f0 f1 f2 f3 hpre) x0 x1 x2 x3 f0 f1 f2 f3 hpre h11) x0 x1 x2 x3 f0 f1 f2 f3 hpre h12) x0 x1 x2 x3 f0 f1 f2 f3 hpre h13) x0 x1 x2 x3 f0 f1 f2 f3 hpre h14) x0 x1 x2 x3 f0 f1 f2 f3 hpre h15) x0 x1 x2 x3 f0 f1 f2 f3 hpre h16) x0 x1 x2 x3 f0 f1 f2 f3 hpre h17 h20 h21 h34 h35 h36 h37 h38 h39 h40 h41 h42 h43 h44 h45 h46 h47)
      ·
        have h48 : (lw4f_c1 x0 x1 x2 x3 f0 f1 f2 f3 = false) := lw4f_c1_ff x0 x1 x2 x3 f0 f1 f2 f3 hpre
        have h49 : (lw4f_c2 x0 x1 x2 x3 f0 f1 f2 f3 = false) := lw4f_c2_ff x0 x1 x2 x3 f0 f1 f2 f3 hpre
        have h50 : (lw4f_c3 x0 x1 x2 x3 f0 f1 f2 f3 = false) := lw4f_c3_ff x0 x1 x2 x3 f0 f1 f2 f3 hpre
        have h51 : (lw4f_c4 x0 x1 x2 x3 f0 f1 f2 f3 = false) := lw4f_c4_ff x0 x1 x2 x3 f0 f1 f2 f3 hpre
        have h52 : (lw4f_c5 x0 x1 x2 x3 f0 f1 f2 f3 = false) := lw4f_c5_ff x0 x1 x2 x3 f0 f1 f2 f3 hpre
        have h53 : (lw4f_c6 x0 x1 x2 x3 f0 f1 f2 f3 = false) := lw4f_c6_ff x0 x1 x2 x3 f0 f1 f2 f3 hpre
        have h54 : (lw4f_c7 x0 x1 x2 x3 f0 f1 f2 f3 = false) := lw4f_c7_ff x0 x1 x2 x3 f0 f1 f2 f3 hpre
        have h55 : (lw4f_c8 x0 x1 x2 x3 f0 f1 f2 f3 = false) := lw4f_c8_ff x0 x1 x2 x3 f0 f1 f2 f3 hpre
        have h56 : (lw4f_c9 x0 x1 x2 x3 f0 f1 f2 f3 = true) := by
          have r8 : Rg.has (0, 0) (lw4f_at0 x0) := by
            have hr : InR [(-100, 100)] [(lw4f_at0 x0)] := ⟨lw4f_rg8 x0 x1 x2 x3 f0 f1 f2 f3 hpre, trivial⟩
            have ha := BE.all_ok hr lw4f_q34 (by kernel_rfl)
            have hx : BE.ev [(lw4f_at0 x0)] (.cm .eq (.v 0) (.k (0))) = true := (show BE.ev [(lw4f_at0 x0)] (.cm .eq (.v 0) (.k (0))) = lw4f_c0 x0 x1 x2 x3 f0 f1 f2 f3 by kernel_rfl).trans h0
            have ha := orT ha hx
            exact rgB ha
          have hr : InR [(0, 0)] [(lw4f_at0 x0)] := ⟨r8, trivial⟩
          have e1 : lw4f_c9 x0 x1 x2 x3 f0 f1 f2 f3 = BE.ev [(lw4f_at0 x0)] lw4f_q35 := by kernel_rfl
          rw [e1]
          exact BE.tri_ok hr (by kernel_rfl) (by kernel_rfl)
        have h57 : (lw4f_c12 x0 x1 x2 x3 f0 f1 f2 f3 = true) := by
          have r8 : Rg.has (0, 0) (lw4f_at0 x0) := by
            have hr : InR [(-100, 100)] [(lw4f_at0 x0)] := ⟨lw4f_rg8 x0 x1 x2 x3 f0 f1 f2 f3 hpre, trivial⟩
            have ha := BE.all_ok hr lw4f_q34 (by kernel_rfl)
            have hx : BE.ev [(lw4f_at0 x0)] (.cm .eq (.v 0) (.k (0))) = true := (show BE.ev [(lw4f_at0 x0)] (.cm .eq (.v 0) (.k (0))) = lw4f_c0 x0 x1 x2 x3 f0 f1 f2 f3 by kernel_rfl).trans h0
            have ha := orT ha hx
            exact rgB ha
          have r9 : Rg.has (0, 0) (lw4f_at0 x1) := by
            have hr : InR [(-100, 100)] [(lw4f_at0 x1)] := ⟨lw4f_rg9 x0 x1 x2 x3 f0 f1 f2 f3 hpre, trivial⟩
            have ha := BE.all_ok hr lw4f_q34 (by kernel_rfl)
            have hx : BE.ev [(lw4f_at0 x1)] (.cm .eq (.v 0) (.k (0))) = true := (show BE.ev [(lw4f_at0 x1)] (.cm .eq (.v 0) (.k (0))) = lw4f_c11 x0 x1 x2 x3 f0 f1 f2 f3 by kernel_rfl).trans h1
            have ha := orT ha hx
            exact rgB ha
          have hr : InR [(0, 0), (0, 0), (-100, 100)] [(lw4f_at0 x0), (lw4f_at0 x1), (lw4f_at0 x3)] := ⟨r8, ⟨r9, ⟨lw4f_rg11 x0 x1 x2 x3 f0 f1 f2 f3 hpre, trivial⟩⟩⟩
          have e1 : lw4f_c12 x0 x1 x2 x3 f0 f1 f2 f3 = BE.ev [(lw4f_at0 x0), (lw4f_at0 x1), (lw4f_at0 x3)] (.not lw4f_q38) := by kernel_rfl
          rw [e1]
          exact BE.tri_ok hr (by kernel_rfl) (by kernel_rfl)
        have h58 : (lw4f_c15 x0 x1 x2 x3 f0 f1 f2 f3 = false) := by
          have r8 : Rg.has (0, 0) (lw4f_at0 x0) := by
            have hr : InR [(-100, 100)] [(lw4f_at0 x0)] := ⟨lw4f_rg8 x0 x1 x2 x3 f0 f1 f2 f3 hpre, trivial⟩
            have ha := BE.all_ok hr lw4f_q34 (by kernel_rfl)
            have hx : BE.ev [(lw4f_at0 x0)] (.cm .eq (.v 0) (.k (0))) = true := (show BE.ev [(lw4f_at0 x0)] (.cm .eq (.v 0) (.k (0))) = lw4f_c0 x0 x1 x2 x3 f0 f1 f2 f3 by kernel_rfl).trans h0
            have ha := orT ha hx
            exact rgB ha
          have r9 : Rg.has (0, 0) (lw4f_at0 x1) := by
            have hr : InR [(-100, 100)] [(lw4f_at0 x1)] := ⟨lw4f_rg9 x0 x1 x2 x3 f0 f1 f2 f3 hpre, trivial⟩
            have ha := BE.all_ok hr lw4f_q34 (by kernel_rfl)
            have hx : BE.ev [(lw4f_at0 x1)] (.cm .eq (.v 0) (.k (0))) = true := (show BE.ev [(lw4f_at0 x1)] (.cm .eq (.v 0) (.k (0))) = lw4f_c11 x0 x1 x2 x3 f0 f1 f2 f3 by kernel_rfl).trans h1
            have ha := orT ha hx
            exact rgB ha
          have hr : InR [(0, 0), (0, 0), (-100, 100), (-100, 100)] [(lw4f_at0 x0), (lw4f_at0 x1), (lw4f_at0 x2), (lw4f_at0 x3)] := ⟨r8, ⟨r9, ⟨lw4f_rg10 x0 x1 x2 x3 f0 f1 f2 f3 hpre, ⟨lw4f_rg11 x0 x1 x2 x3 f0 f1 f2 f3 hpre, trivial⟩⟩⟩⟩
          have hr2 : InR [(-100, 100)] [(lw4f_at0 x2)] := ⟨lw4f_rg10 x0 x1 x2 x3 f0 f1 f2 f3 hpre, trivial⟩
          have ha := BE.all_ok hr2 (.or (.cm .eq (.v 0) (.k (0))) (.not (.not lw4f_q74))) (by kernel_rfl)
          have hx : BE.ev [(lw4f_at0 x2)] (.cm .eq (.v 0) (.k (0))) = false := (show BE.ev [(lw4f_at0 x2)] (.cm .eq (.v 0) (.k (0))) = BE.ev [(lw4f_at0 x0), (lw4f_at0 x1), (lw4f_at0 x2), (lw4f_at0 x3)] (.cm .eq (.v 2) (.k (0))) by kernel_rfl).trans ((BE.smp_to hr (.cm .eq (.v 2) (.k (0))) (.cm .eq (.v 2) (.k (0))) (by kernel_rfl) (by kernel_rfl)).symm.trans ((show BE.ev [(lw4f_at0 x0), (lw4f_at0 x1), (lw4f_at0 x2), (lw4f_at0 x3)] (.cm .eq (.v 2) (.k (0))) = lw4f_c14 x0 x1 x2 x3 f0 f1 f2 f3 by kernel_rfl).trans h2))
          have ha := orF ha hx
          exact (show lw4f_c15 x0 x1 x2 x3 f0 f1 f2 f3 = BE.ev [(lw4f_at0 x0), (lw4f_at0 x1), (lw4f_at0 x2), (lw4f_at0 x3)] (.not lw4f_q44) by kernel_rfl).trans ((BE.smp_to hr (.not lw4f_q44) (.not lw4f_q76) (by kernel_rfl) (by kernel_rfl)).trans ((show BE.ev [(lw4f_at0 x0), (lw4f_at0 x1), (lw4f_at0 x2), (lw4f_at0 x3)] (.not lw4f_q76) = BE.ev [(lw4f_at0 x2)] (.not lw4f_q74) by kernel_rfl).trans (notT ha)))
        have h59 : (lw4f_c10 x0 x1 x2 x3 f0 f1 f2 f3 = false) := by
          have hz := (show lw4f_c9 x0 x1 x2 x3 f0 f1 f2 f3 = Bool.not (lw4f_c10 x0 x1 x2 x3 f0 f1 f2 f3) by kernel_rfl).symm.trans h56
          generalize lw4f_c10 x0 x1 x2 x3 f0 f1 f2 f3 = z at hz ⊢
          cases z <;> first | rfl | cases hz
        have h60 : (lw4f_c13 x0 x1 x2 x3 f0 f1 f2 f3 = false) := by
          have hz := (show lw4f_c12 x0 x1 x2 x3 f0 f1 f2 f3 = Bool.not (lw4f_c13 x0 x1 x2 x3 f0 f1 f2 f3) by kernel_rfl).symm.trans h57
          generalize lw4f_c13 x0 x1 x2 x3 f0 f1 f2 f3 = z at hz ⊢
          cases z <;> first | rfl | cases hz
        have h61 : (lw4f_c16 x0 x1 x2 x3 f0 f1 f2 f3 = true) := by
          have hz := (show lw4f_c15 x0 x1 x2 x3 f0 f1 f2 f3 = Bool.not (lw4f_c16 x0 x1 x2 x3 f0 f1 f2 f3) by kernel_rfl).symm.trans h58
          generalize lw4f_c16 x0 x1 x2 x3 f0 f1 f2 f3 = z at hz ⊢
          cases z <;> first | rfl | cases hz
        exact lw4f_p2 x0 x1 x2 x3 f0 f1 f2 f3 c (lw4f_z15_h (lw4f_z14_h (lw4f_z8_h (lw4f_z13_h (lw4f_z12_h (lw4f_z6_h (lw4f_z2_h (lw4f_z11_h (lw4f_z10_h (lw4f_z4_h (lw4f_z0_h trivial x0 x1 x2 x3 f0 f1 f2 f3 hpre) x0 x1 x2 x3 f0 f1 f2 f3 hpre h0) x0 x1 x2 x3 f0 f1 f2 f3 hpre h1) x0 x1 x2 x3 f0 f1 f2 f3 hpre h2) x0 x1 x2 x3 f0 f1 f2 f3 hpre) x0 x1 x2 x3 f0 f1 f2 f3 hpre h56) x0 x1 x2 x3 f0 f1 f2 f3 hpre h57) x0 x1 x2 x3 f0 f1 f2 f3 hpre h58) x0 x1 x2 x3 f0 f1 f2 f3 hpre h59) x0 x1 x2 x3 f0 f1 f2 f3 hpre h60) x0 x1 x2 x3 f0 f1 f2 f3 hpre h61)
    ·
      have h62 : (lw4f_c1 x0 x1 x2 x3 f0 f1 f2 f3 = false) := lw4f_c1_ff x0 x1 x2 x3 f0 f1 f2 f3 hpre
      have h63 : (lw4f_c2 x0 x1 x2 x3 f0 f1 f2 f3 = false) := lw4f_c2_ff x0 x1 x2 x3 f0 f1 f2 f3 hpre
      have h64 : (lw4f_c3 x0 x1 x2 x3 f0 f1 f2 f3 = false) := lw4f_c3_ff x0 x1 x2 x3 f0 f1 f2 f3 hpre
      have h65 : (lw4f_c4 x0 x1 x2 x3 f0 f1 f2 f3 = false) := lw4f_c4_ff x0 x1 x2 x3 f0 f1 f2 f3 hpre
      have h66 : (lw4f_c5 x0 x1 x2 x3 f0 f1 f2 f3 = false) := lw4f_c5_ff x0 x1 x2 x3 f0 f1 f2 f3 hpre
      have h67 : (lw4f_c6 x0 x1 x2 x3 f0 f1 f2 f3 = false) := lw4f_c6_ff x0 x1 x2 x3 f0 f1 f2 f3 hpre
      have h68 : (lw4f_c7 x0 x1 x2 x3 f0 f1 f2 f3 = false) := lw4f_c7_ff x0 x1 x2 x3 f0 f1 f2 f3 hpre
      have h69 : (lw4f_c8 x0 x1 x2 x3 f0 f1 f2 f3 = false) := lw4f_c8_ff x0 x1 x2 x3 f0 f1 f2 f3 hpre
      have h70 : (lw4f_c9 x0 x1 x2 x3 f0 f1 f2 f3 = true) := by
        have r8 : Rg.has (0, 0) (lw4f_at0 x0) := by
          have hr : InR [(-100, 100)] [(lw4f_at0 x0)] := ⟨lw4f_rg8 x0 x1 x2 x3 f0 f1 f2 f3 hpre, trivial⟩
          have ha := BE.all_ok hr lw4f_q34 (by kernel_rfl)
          have hx : BE.ev [(lw4f_at0 x0)] (.cm .eq (.v 0) (.k (0))) = true := (show BE.ev [(lw4f_at0 x0)] (.cm .eq (.v 0) (.k (0))) = lw4f_c0 x0 x1 x2 x3 f0 f1 f2 f3 by kernel_rfl).trans h0
          have ha := orT ha hx
          exact rgB ha
        have hr : InR [(0, 0)] [(lw4f_at0 x0)] := ⟨r8, trivial⟩
        have e1 : lw4f_c9 x0 x1 x2 x3 f0 f1 f2 f3 = BE.ev [(lw4f_at0 x0)] lw4f_q35 := by kernel_rfl
        rw [e1]
        exact BE.tri_ok hr (by kernel_rfl) (by kernel_rfl)
      have h71 : (lw4f_c12 x0 x1 x2 x3 f0 f1 f2 f3 = false) := by
        have r8 : Rg.has (0, 0) (lw4f_at0 x0) := by
          have hr : InR [(-100, 100)] [(lw4f_at0 x0)] := ⟨lw4f_rg8 x0 x1 x2 x3 f0 f1 f2 f3 hpre, trivial⟩
          have ha := BE.all_ok hr lw4f_q34 (by kernel_rfl)
          have hx : BE.ev [(lw4f_at0 x0)] (.cm .eq (.v 0) (.k (0))) = true := (show BE.ev [(lw4f_at0 x0)] (.cm .eq (.v 0) (.k (0))) = lw4f_c0 x0 x1 x2 x3 f0 f1 f2 f3 by kernel_rfl).trans h0
          have ha := orT ha hx
          exact rgB ha
        have hr : InR [(0, 0), (-100, 100), (-100, 100)] [(lw4f_at0 x0), (lw4f_at0 x1), (lw4f_at0 x3)] := ⟨r8, ⟨lw4f_rg9 x0 x1 x2 x3 f0 f1 f2 f3 hpre, ⟨lw4f_rg11 x0 x1 x2 x3 f0 f1 f2 f3 hpre, trivial⟩⟩⟩
        have hr2 : InR [(-100, 100)] [(lw4f_at0 x1)] := ⟨lw4f_rg9 x0 x1 x2 x3 f0 f1 f2 f3 hpre, trivial⟩
        have ha := BE.all_ok hr2 (.or (.cm .eq (.v 0) (.k (0))) (.not (.not (.cm .ge lw4f_q77 (.k (1)))))) (by kernel_rfl)
        have hx : BE.ev [(lw4f_at0 x1)] (.cm .eq (.v 0) (.k (0))) = false := (show BE.ev [(lw4f_at0 x1)] (.cm .eq (.v 0) (.k (0))) = BE.ev [(lw4f_at0 x0), (lw4f_at0 x1), (lw4f_at0 x3)] (.cm .eq (.v 1) (.k (0))) by kernel_rfl).trans ((BE.smp_to hr (.cm .eq (.v 1) (.k (0))) (.cm .eq (.v 1) (.k (0))) (by kernel_rfl) (by kernel_rfl)).symm.trans ((show BE.ev [(lw4f_at0 x0), (lw4f_at0 x1), (lw4f_at0 x3)] (.cm .eq (.v 1) (.k (0))) = lw4f_c11 x0 x1 x2 x3 f0 f1 f2 f3 by kernel_rfl).trans h1))
        have ha := orF ha hx
        exact (show lw4f_c12 x0 x1 x2 x3 f0 f1 f2 f3 = BE.ev [(lw4f_at0 x0), (lw4f_at0 x1), (lw4f_at0 x3)] (.not lw4f_q38) by kernel_rfl).trans ((BE.smp_to hr (.not lw4f_q38) (.not (.cm .ge lw4f_q78 (.k (1)))) (by kernel_rfl) (by kernel_rfl)).trans ((show BE.ev [(lw4f_at0 x0), (lw4f_at0 x1), (lw4f_at0 x3)] (.not (.cm .ge lw4f_q78 (.k (1)))) = BE.ev [(lw4f_at0 x1)] (.not (.cm .ge lw4f_q77 (.k (1)))) by kernel_rfl).trans (notT ha)))
      have h72 : (lw4f_c10 x0 x1 x2 x3 f0 f1 f2 f3 = false) := by
        have hz := (show lw4f_c9 x0 x1 x2 x3 f0 f1 f2 f3 = Bool.not (lw4f_c10 x0 x1 x2 x3 f0 f1 f2 f3) by kernel_rfl).symm.trans h70
        generalize lw4f_c10 x0 x1 x2 x3 f0 f1 f2 f3 = z at hz ⊢
        cases z <;> first | rfl | cases hz
      have h73 : (lw4f_c13 x0 x1 x2 x3 f0 f1 f2 f3 = true) := by
        have hz := (show lw4f_c12 x0 x1 x2 x3 f0 f1 f2 f3 = Bool.not (lw4f_c13 x0 x1 x2 x3 f0 f1 f2 f3) by kernel_rfl).symm.trans h71
        generalize lw4f_c13 x0 x1 x2 x3 f0 f1 f2 f3 = z at hz ⊢
        cases z <;> first | rfl | cases hz
      exact lw4f_p1 x0 x1 x2 x3 f0 f1 f2 f3 c (lw4f_z9_h (lw4f_z8_h (lw4f_z7_h (lw4f_z6_h (lw4f_z2_h (lw4f_z5_h (lw4f_z4_h (lw4f_z0_h trivial x0 x1 x2 x3 f0 f1 f2 f3 hpre) x0 x1 x2 x3 f0 f1 f2 f3 hpre h0) x0 x1 x2 x3 f0 f1 f2 f3 hpre h1) x0 x1 x2 x3 f0 f1 f2 f3 hpre) x0 x1 x2 x3 f0 f1 f2 f3 hpre h70) x0 x1 x2 x3 f0 f1 f2 f3 hpre h71) x0 x1 x2 x3 f0 f1 f2 f3 hpre h72) x0 x1 x2 x3 f0 f1 f2 f3 hpre h73)
  ·
    have h74 : (lw4f_c1 x0 x1 x2 x3 f0 f1 f2 f3 = false) := lw4f_c1_ff x0 x1 x2 x3 f0 f1 f2 f3 hpre
    have h75 : (lw4f_c2 x0 x1 x2 x3 f0 f1 f2 f3 = false) := lw4f_c2_ff x0 x1 x2 x3 f0 f1 f2 f3 hpre
    have h76 : (lw4f_c3 x0 x1 x2 x3 f0 f1 f2 f3 = false) := lw4f_c3_ff x0 x1 x2 x3 f0 f1 f2 f3 hpre
    have h77 : (lw4f_c4 x0 x1 x2 x3 f0 f1 f2 f3 = false) := lw4f_c4_ff x0 x1 x2 x3 f0 f1 f2 f3 hpre
    have h78 : (lw4f_c5 x0 x1 x2 x3 f0 f1 f2 f3 = false) := lw4f_c5_ff x0 x1 x2 x3 f0 f1 f2 f3 hpre
    have h79 : (lw4f_c6 x0 x1 x2 x3 f0 f1 f2 f3 = false) := lw4f_c6_ff x0 x1 x2 x3 f0 f1 f2 f3 hpre
    have h80 : (lw4f_c7 x0 x1 x2 x3 f0 f1 f2 f3 = false) := lw4f_c7_ff x0 x1 x2 x3 f0 f1 f2 f3 hpre
    have h81 : (lw4f_c8 x0 x1 x2 x3 f0 f1 f2 f3 = false) := lw4f_c8_ff x0 x1 x2 x3 f0 f1 f2 f3 hpre
    have h82 : (lw4f_c9 x0 x1 x2 x3 f0 f1 f2 f3 = false) := by
      have hr : InR [(-100, 100)] [(lw4f_at0 x0)] := ⟨lw4f_rg8 x0 x1 x2 x3 f0 f1 f2 f3 hpre, trivial⟩
      have hr2 : InR [(-100, 100)] [(lw4f_at0 x0)] := ⟨lw4f_rg8 x0 x1 x2 x3 f0 f1 f2 f3 hpre, trivial⟩
      have ha := BE.all_ok hr2 (.or (.cm .eq (.v 0) (.k (0))) (.not lw4f_q79)) (by kernel_rfl)
      have hx : BE.ev [(lw4f_at0 x0)] (.cm .eq (.v 0) (.k (0))) = false := (show BE.ev [(lw4f_at0 x0)] (.cm .eq (.v 0) (.k (0))) = BE.ev [(lw4f_at0 x0)] (.cm .eq (.v 0) (.k (0))) by kernel_rfl).trans ((BE.smp_to hr (.cm .eq (.v 0) (.k (0))) (.cm .eq (.v 0) (.k (0))) (by kernel_rfl) (by kernel_rfl)).symm.trans ((show BE.ev [(lw4f_at0 x0)] (.cm .eq (.v 0) (.k (0))) = lw4f_c0 x0 x1 x2 x3 f0 f1 f2 f3 by kernel_rfl).trans h0))
      have ha := orF ha hx
      exact (show lw4f_c9 x0 x1 x2 x3 f0 f1 f2 f3 = BE.ev [(lw4f_at0 x0)] lw4f_q35 by kernel_rfl).trans ((BE.smp_to hr lw4f_q35 lw4f_q79 (by kernel_rfl) (by kernel_rfl)).trans ((show BE.ev [(lw4f_at0 x0)] lw4f_q79 = BE.ev [(lw4f_at0 x0)] lw4f_q79 by kernel_rfl).trans (notT ha)))
    have h83 : (lw4f_c10 x0 x1 x2 x3 f0 f1 f2 f3 = true) := by
      have hz := (show lw4f_c9 x0 x1 x2 x3 f0 f1 f2 f3 = Bool.not (lw4f_c10 x0 x1 x2 x3 f0 f1 f2 f3) by kernel_rfl).symm.trans h82
      generalize lw4f_c10 x0 x1 x2 x3 f0 f1 f2 f3 = z at hz ⊢
      cases z <;> first | rfl | cases hz
    exact lw4f_p0 x0 x1 x2 x3 f0 f1 f2 f3 c (lw4f_z3_h (lw4f_z2_h (lw4f_z1_h (lw4f_z0_h trivial x0 x1 x2 x3 f0 f1 f2 f3 hpre) x0 x1 x2 x3 f0 f1 f2 f3 hpre h0) x0 x1 x2 x3 f0 f1 f2 f3 hpre) x0 x1 x2 x3 f0 f1 f2 f3 hpre h82 h83)
end Go.Proofs.YtencngffhbhifaaGreatDoor
