/-
  Tables of strings on a row's list.
  The law LoopWhole in each real world.
  Slices of numbers (or of structs and arrays of numbers) as arguments: what the program reads of them; a law over a row in the small world holds in the real one.
  From a call in the small world to a real one whose arguments lie in memory.
  A call that reads one row, lifted to each world in which such a row lies.
  Loops of unknown length; what a round made is forgotten; a call in a small world is one in each greater world that holds it.
  Tables of structures of two pairs on a row's list.
  The last step of a row whose call leaves a world of which only 'Below' is known; tables of pairs on a row's list.
  Arguments that are made of integers alone (numbers, arrays and structs of them, in any depth), opened: their cells are numbers, and their data is the same in each world.
  The contract of bipole.bipolelaw03.LoopWhole.
-/
import Derived.Test.YtencngffhbhifaaGreatDoorGLW2
import Derived.Test.YtencngffhbhifaaGreatDoorGLW11
import Derived.OpenShut
import Derived.RowKit
import Derived.WideShapes
import Derived.Below
import Derived.ChangeSame
import Derived.ProofKit
import Derived.JoinedCond
import Derived.JoinedOf
import Derived.JoinedAt
import Derived.RowKit3
import Derived.Lib.LaidTab
import Derived.LaidSub
import Derived.Deep.Slices
import Derived.WideKeyArgs
import Derived.Test.YtencngffhbhifaaGreatDoorGLW12
import Derived.Test.YtencngffhbhifaaGreatDoorGLW13
section
set_option linter.all false
set_option maxRecDepth 1000000
set_option maxHeartbeats 2000000
open Go.RowKit
namespace Go.Proofs.YtencngffhbhifaaGreatDoor
open Mini
def lw4t_at0 (y : Int) : Int := (Int.tmod (IntKind.i64.wrap y) (101 : Int))
def lw4t_at1 (y : Int) : Int := (Int.tmod (IntKind.i64.wrap y) (1001 : Int))
def lw4t_q0 : IE := .ite .gt (.k (1)) (.k (-1)) (.k (1)) (.k (-1))
def lw4t_q1 : BE := .cm .ge (.ite .gt (.wr (.sub (.k (0)) (.v 8))) (.v 8) (.wr (.sub (.k (0)) (.v 8))) (.v 8)) lw4t_q0
def lw4t_q2 : IE := .wr (.sub (.wr (.mul (.k (-1)) (.v 9))) (.wr (.mul (.v 8) (.v 11))))
def lw4t_q3 : IE := .wr (.sub (.k (1)) (.wr (.mul (.v 8) (.v 8))))
def lw4t_q4 : BE := .cm .ge (.ite .gt (.wr (.sub (.k (0)) lw4t_q2)) lw4t_q2 (.wr (.sub (.k (0)) lw4t_q2)) lw4t_q2) (.ite .gt (.wr (.sub (.k (0)) lw4t_q3)) lw4t_q3 (.wr (.sub (.k (0)) lw4t_q3)) lw4t_q3)
def lw4t_q5 : IE := .wr (.sub (.wr (.mul (.k (-1)) (.v 10))) (.wr (.mul (.v 8) (.v 10))))
def lw4t_q6 : IE := .wr (.sub (.wr (.mul (.k (-1)) (.v 11))) (.wr (.mul (.v 8) (.v 9))))
def lw4t_q7 : IE := .wr (.sub (.wr (.mul lw4t_q3 lw4t_q5)) (.wr (.mul lw4t_q2 lw4t_q6)))
def lw4t_q8 : IE := .wr (.sub (.wr (.mul lw4t_q3 lw4t_q3)) (.wr (.mul lw4t_q2 lw4t_q2)))
def lw4t_q9 : BE := .cm .ge (.ite .gt (.wr (.sub (.k (0)) lw4t_q7)) lw4t_q7 (.wr (.sub (.k (0)) lw4t_q7)) lw4t_q7) (.ite .gt (.wr (.sub (.k (0)) lw4t_q8)) lw4t_q8 (.wr (.sub (.k (0)) lw4t_q8)) lw4t_q8)
def lw4t_q10 : IE := .wr (.sub (.wr (.mul lw4t_q3 lw4t_q6)) (.wr (.mul lw4t_q2 lw4t_q5)))
def lw4t_q11 : IE := .wr (.sub (.wr (.mul lw4t_q8 lw4t_q10)) (.wr (.mul lw4t_q7 lw4t_q10)))
def lw4t_q12 : IE := .wr (.sub (.wr (.mul lw4t_q8 lw4t_q8)) (.wr (.mul lw4t_q7 lw4t_q7)))
def lw4t_q13 : BE := .cm .ge (.ite .gt (.wr (.sub (.k (0)) lw4t_q11)) lw4t_q11 (.wr (.sub (.k (0)) lw4t_q11)) lw4t_q11) (.ite .gt (.wr (.sub (.k (0)) lw4t_q12)) lw4t_q12 (.wr (.sub (.k (0)) lw4t_q12)) lw4t_q12)
def lw4t_q14 : IE := .wr (.sub (.k (0)) (.wr (.mul (.v 8) (.k (-1)))))
def lw4t_q15 : IE := .wr (.sub (.k (0)) (.wr (.mul (.v 9) (.k (1)))))
def lw4t_q16 : IE := .add (.wr (.add (.k (0)) (.wr (.mul lw4t_q14 (.wr (.mul (.v 12) (.k (1)))))))) (.wr (.mul lw4t_q15 (.wr (.mul (.v 13) (.k (-1))))))
def lw4t_q17 : IE := .wr (.sub (.k (0)) (.wr (.mul (.v 10) (.k (-1)))))
def lw4t_q18 : IE := .wr (.sub (.k (0)) (.wr (.mul (.v 11) (.k (1)))))
def lw4t_q19 : IE := .add (.wr (.add (.wr lw4t_q16) (.wr (.mul lw4t_q17 (.wr (.mul (.v 14) (.k (1)))))))) (.wr (.mul lw4t_q18 (.wr (.mul (.v 15) (.k (-1))))))
def lw4t_q20 : BE := .cm .lt (.wr lw4t_q19) (.k (-1073741824))
def lw4t_q21 : BE := .cm .gt (.wr lw4t_q19) (.k (1073741824))
def lw4t_q22 : IE := .add (.wr (.add (.k (0)) (.wr (.mul lw4t_q14 (.wr (.mul (.v 13) (.k (-1)))))))) (.wr (.mul lw4t_q15 (.wr (.mul (.v 14) (.k (1))))))
def lw4t_q23 : IE := .add (.wr (.add (.wr lw4t_q22) (.wr (.mul lw4t_q17 (.wr (.mul (.v 15) (.k (-1)))))))) (.wr (.mul lw4t_q18 (.wr lw4t_q19)))
def lw4t_q24 : BE := .cm .lt (.wr lw4t_q23) (.k (-1073741824))
def lw4t_q25 : BE := .cm .gt (.wr lw4t_q23) (.k (1073741824))
def lw4t_q26 : IE := .add (.wr (.add (.k (0)) (.wr (.mul lw4t_q14 (.wr (.mul (.v 14) (.k (1)))))))) (.wr (.mul lw4t_q15 (.wr (.mul (.v 15) (.k (-1))))))
def lw4t_q27 : IE := .wr (.add (.wr (.add (.wr lw4t_q26) (.wr (.mul lw4t_q17 (.wr lw4t_q19))))) (.wr (.mul lw4t_q18 (.wr lw4t_q23))))
def lw4t_q28 : IE := .wr (.add (.wr (.add (.k (0)) (.wr (.mul lw4t_q14 (.wr (.mul (.v 15) (.k (-1)))))))) (.wr (.mul lw4t_q15 (.wr lw4t_q19))))
def lw4t_q29 : IE := .wr (.add (.wr (.add lw4t_q28 (.wr (.mul lw4t_q17 (.wr lw4t_q23))))) (.wr (.mul lw4t_q18 lw4t_q27)))
def lw4t_q30 : IE := .add (.wr (.add (.wr (.add (.k (0)) (.wr (.mul lw4t_q14 (.wr lw4t_q19))))) (.wr (.mul lw4t_q15 (.wr lw4t_q23))))) (.wr (.mul lw4t_q17 lw4t_q27))
def lw4t_q31 : IE := .wr (.add (.wr lw4t_q30) (.wr (.mul lw4t_q18 lw4t_q29)))
def lw4t_q32 : IE := .add (.wr (.add (.wr (.add (.k (0)) (.wr (.mul lw4t_q14 (.wr lw4t_q23))))) (.wr (.mul lw4t_q15 lw4t_q27)))) (.wr (.mul lw4t_q17 lw4t_q29))
def lw4t_q33 : IE := .wr (.add (.wr lw4t_q32) (.wr (.mul lw4t_q18 lw4t_q31)))
def lw4t_q34 : BE := .or (.not (.cm .eq (.v 0) (.k (0)))) (.and (.cm .le (.k (0)) (.v 0)) (.cm .le (.v 0) (.k (0))))
def lw4t_q35 : BE := .not (.cm .ge (.ite .gt (.wr (.sub (.k (0)) (.v 0))) (.v 0) (.wr (.sub (.k (0)) (.v 0))) (.v 0)) lw4t_q0)
def lw4t_q36 : IE := .wr (.sub (.wr (.mul (.k (-1)) (.v 1))) (.wr (.mul (.v 0) (.v 2))))
def lw4t_q37 : IE := .wr (.sub (.k (1)) (.wr (.mul (.v 0) (.v 0))))
def lw4t_q38 : BE := .cm .ge (.ite .gt (.wr (.sub (.k (0)) lw4t_q36)) lw4t_q36 (.wr (.sub (.k (0)) lw4t_q36)) lw4t_q36) (.ite .gt (.wr (.sub (.k (0)) lw4t_q37)) lw4t_q37 (.wr (.sub (.k (0)) lw4t_q37)) lw4t_q37)
def lw4t_q39 : IE := .wr (.sub (.wr (.mul (.k (-1)) (.v 2))) (.wr (.mul (.v 0) (.v 2))))
def lw4t_q40 : IE := .wr (.sub (.wr (.mul (.k (-1)) (.v 1))) (.wr (.mul (.v 0) (.v 3))))
def lw4t_q41 : IE := .wr (.sub (.wr (.mul (.k (-1)) (.v 3))) (.wr (.mul (.v 0) (.v 1))))
def lw4t_q42 : IE := .wr (.sub (.wr (.mul lw4t_q37 lw4t_q39)) (.wr (.mul lw4t_q40 lw4t_q41)))
def lw4t_q43 : IE := .wr (.sub (.wr (.mul lw4t_q37 lw4t_q37)) (.wr (.mul lw4t_q40 lw4t_q40)))
def lw4t_q44 : BE := .cm .ge (.ite .gt (.wr (.sub (.k (0)) lw4t_q42)) lw4t_q42 (.wr (.sub (.k (0)) lw4t_q42)) lw4t_q42) (.ite .gt (.wr (.sub (.k (0)) lw4t_q43)) lw4t_q43 (.wr (.sub (.k (0)) lw4t_q43)) lw4t_q43)
def lw4t_q45 : IE := .mul (.k (1)) (.mul (.k (1)) (.mul (.k (-1)) (.v 0)))
def lw4t_q46 : BE := .cm .ge (.ite .gt (.sub (.k (0)) lw4t_q45) lw4t_q45 (.sub (.k (0)) lw4t_q45) lw4t_q45) (.k (1))
def lw4t_q47 : BE := .not (.beq (.not .t) (.cm .eq (.v 0) (.k (0))))
def lw4t_q48 : IE := .mul (.k (1)) (.mul (.k (1)) (.mul (.k (-1)) (.v 3)))
def lw4t_q49 : BE := .cm .ge (.ite .gt (.sub (.k (0)) lw4t_q48) lw4t_q48 (.sub (.k (0)) lw4t_q48) lw4t_q48) (.k (1))
def lw4t_q50 : IE := .wr (.sub (.wr (.mul lw4t_q37 lw4t_q41)) (.wr (.mul lw4t_q40 lw4t_q39)))
def lw4t_q51 : IE := .wr (.sub (.wr (.mul lw4t_q43 lw4t_q50)) (.wr (.mul lw4t_q42 lw4t_q50)))
def lw4t_q52 : IE := .wr (.sub (.wr (.mul lw4t_q43 lw4t_q43)) (.wr (.mul lw4t_q42 lw4t_q42)))
def lw4t_q53 : BE := .cm .ge (.ite .gt (.wr (.sub (.k (0)) lw4t_q51)) lw4t_q51 (.wr (.sub (.k (0)) lw4t_q51)) lw4t_q51) (.ite .gt (.wr (.sub (.k (0)) lw4t_q52)) lw4t_q52 (.wr (.sub (.k (0)) lw4t_q52)) lw4t_q52)
def lw4t_q54 : BE := .not (.beq (.not (.cm .ge (.k (3)) (.k (0)))) (.cm .eq (.v 3) (.k (0))))
def lw4t_q55 : BE := .not (.beq (.not .t) (.cm .eq (.v 3) (.k (0))))
def lw4t_q56 : BE := .or (.not (.not lw4t_q53)) (.and (.cm .le (.k (0)) (.v 3)) (.cm .le (.v 3) (.k (0))))
def lw4t_q57 : IE := .wr (.sub (.k (0)) (.wr (.mul (.v 0) (.k (-1)))))
def lw4t_q58 : IE := .wr (.sub (.k (0)) (.wr (.mul (.v 1) (.k (1)))))
def lw4t_q59 : IE := .add (.wr (.add (.k (0)) (.wr (.mul lw4t_q57 (.wr (.mul (.v 6) (.k (1)))))))) (.wr (.mul lw4t_q58 (.wr (.mul (.v 7) (.k (-1))))))
def lw4t_q60 : IE := .wr (.sub (.k (0)) (.wr (.mul (.v 2) (.k (-1)))))
def lw4t_q61 : IE := .add (.wr (.add (.k (0)) (.wr (.mul lw4t_q57 (.wr (.mul (.v 4) (.k (1)))))))) (.wr (.mul lw4t_q58 (.wr (.mul (.v 5) (.k (-1))))))
def lw4t_q62 : IE := .wr (.sub (.k (0)) (.wr (.mul (.v 3) (.k (1)))))
def lw4t_q63 : IE := .add (.wr (.add (.wr lw4t_q61) (.wr (.mul lw4t_q60 (.wr (.mul (.v 6) (.k (1)))))))) (.wr (.mul lw4t_q62 (.wr (.mul (.v 7) (.k (-1))))))
def lw4t_q64 : IE := .add (.wr (.add (.k (0)) (.wr (.mul lw4t_q57 (.wr (.mul (.v 5) (.k (-1)))))))) (.wr (.mul lw4t_q58 (.wr (.mul (.v 6) (.k (1))))))
def lw4t_q65 : IE := .add (.wr (.add (.wr lw4t_q64) (.wr (.mul lw4t_q60 (.wr (.mul (.v 7) (.k (-1)))))))) (.wr (.mul lw4t_q62 (.wr lw4t_q63)))
def lw4t_q66 : IE := .wr (.add (.wr (.add (.wr lw4t_q59) (.wr (.mul lw4t_q60 (.wr lw4t_q63))))) (.wr (.mul lw4t_q62 (.wr lw4t_q65))))
def lw4t_q67 : IE := .wr (.add (.wr (.add (.k (0)) (.wr (.mul lw4t_q57 (.wr (.mul (.v 7) (.k (-1)))))))) (.wr (.mul lw4t_q58 (.wr lw4t_q63))))
def lw4t_q68 : IE := .wr (.add (.wr (.add lw4t_q67 (.wr (.mul lw4t_q60 (.wr lw4t_q65))))) (.wr (.mul lw4t_q62 lw4t_q66)))
def lw4t_q69 : IE := .add (.wr (.add (.wr (.add (.k (0)) (.wr (.mul lw4t_q57 (.wr lw4t_q63))))) (.wr (.mul lw4t_q58 (.wr lw4t_q65))))) (.wr (.mul lw4t_q60 lw4t_q66))
def lw4t_q70 : IE := .wr (.add (.wr lw4t_q69) (.wr (.mul lw4t_q62 lw4t_q68)))
def lw4t_q71 : IE := .add (.wr (.add (.wr (.add (.k (0)) (.wr (.mul lw4t_q57 (.wr lw4t_q65))))) (.wr (.mul lw4t_q58 lw4t_q66)))) (.wr (.mul lw4t_q60 lw4t_q68))
def lw4t_q72 : IE := .wr (.add (.wr lw4t_q71) (.wr (.mul lw4t_q62 lw4t_q70)))
def lw4t_q73 : IE := .sub (.k (0)) (.mul (.k (1)) (.mul (.k (-1)) (.v 0)))
def lw4t_q74 : BE := .cm .ge (.ite .gt lw4t_q73 (.mul (.k (1)) (.mul (.k (-1)) (.v 0))) lw4t_q73 (.mul (.k (1)) (.mul (.k (-1)) (.v 0)))) (.k (1))
def lw4t_q75 : IE := .sub (.k (0)) (.mul (.k (1)) (.mul (.k (-1)) (.v 2)))
def lw4t_q76 : BE := .cm .ge (.ite .gt lw4t_q75 (.mul (.k (1)) (.mul (.k (-1)) (.v 2))) lw4t_q75 (.mul (.k (1)) (.mul (.k (-1)) (.v 2)))) (.k (1))
def lw4t_q77 : IE := .ite .gt (.sub (.k (0)) (.mul (.k (-1)) (.v 0))) (.mul (.k (-1)) (.v 0)) (.sub (.k (0)) (.mul (.k (-1)) (.v 0))) (.mul (.k (-1)) (.v 0))
def lw4t_q78 : IE := .ite .gt (.sub (.k (0)) (.mul (.k (-1)) (.v 1))) (.mul (.k (-1)) (.v 1)) (.sub (.k (0)) (.mul (.k (-1)) (.v 1))) (.mul (.k (-1)) (.v 1))
def lw4t_q79 : BE := .not (.cm .ge (.ite .gt (.sub (.k (0)) (.v 0)) (.v 0) (.sub (.k (0)) (.v 0)) (.v 0)) (.k (1)))

theorem lw4t_X : FOkS Tryz.prog x_lw4t := bothX_ok (noXS_ok) (tabT_ok (by kernel_rfl) aw3_calls)
theorem lw4t_rg8 (x0 x1 x2 x3 f0 f1 f2 f3 : Int) (hpre : True) : Rg.has (-100, 100) (lw4t_at0 x0) := by
  have h := IE.rng_ok (β := [(-9223372036854775808, 9223372036854775807)]) (ρ := [(IntKind.i64.wrap x0)]) ⟨wrR _, trivial⟩ (e := (.md (.v 0) 101)) (by kernel_rfl)
  rw [show IE.rng [(-9223372036854775808, 9223372036854775807)] (.md (.v 0) 101) = (-100, 100) from by kernel_rfl] at h
  exact h
theorem lw4t_rg9 (x0 x1 x2 x3 f0 f1 f2 f3 : Int) (hpre : True) : Rg.has (-100, 100) (lw4t_at0 x1) := by
  have h := IE.rng_ok (β := [(-9223372036854775808, 9223372036854775807)]) (ρ := [(IntKind.i64.wrap x1)]) ⟨wrR _, trivial⟩ (e := (.md (.v 0) 101)) (by kernel_rfl)
  rw [show IE.rng [(-9223372036854775808, 9223372036854775807)] (.md (.v 0) 101) = (-100, 100) from by kernel_rfl] at h
  exact h
theorem lw4t_rg10 (x0 x1 x2 x3 f0 f1 f2 f3 : Int) (hpre : True) : Rg.has (-100, 100) (lw4t_at0 x2) := by
  have h := IE.rng_ok (β := [(-9223372036854775808, 9223372036854775807)]) (ρ := [(IntKind.i64.wrap x2)]) ⟨wrR _, trivial⟩ (e := (.md (.v 0) 101)) (by kernel_rfl)
  rw [show IE.rng [(-9223372036854775808, 9223372036854775807)] (.md (.v 0) 101) = (-100, 100) from by kernel_rfl] at h
  exact h
theorem lw4t_rg11 (x0 x1 x2 x3 f0 f1 f2 f3 : Int) (hpre : True) : Rg.has (-100, 100) (lw4t_at0 x3) := by
  have h := IE.rng_ok (β := [(-9223372036854775808, 9223372036854775807)]) (ρ := [(IntKind.i64.wrap x3)]) ⟨wrR _, trivial⟩ (e := (.md (.v 0) 101)) (by kernel_rfl)
  rw [show IE.rng [(-9223372036854775808, 9223372036854775807)] (.md (.v 0) 101) = (-100, 100) from by kernel_rfl] at h
  exact h
theorem lw4t_rg12 (x0 x1 x2 x3 f0 f1 f2 f3 : Int) (hpre : True) : Rg.has (-1000, 1000) (lw4t_at1 f0) := by
  have h := IE.rng_ok (β := [(-9223372036854775808, 9223372036854775807)]) (ρ := [(IntKind.i64.wrap f0)]) ⟨wrR _, trivial⟩ (e := (.md (.v 0) 1001)) (by kernel_rfl)
  rw [show IE.rng [(-9223372036854775808, 9223372036854775807)] (.md (.v 0) 1001) = (-1000, 1000) from by kernel_rfl] at h
  exact h
theorem lw4t_rg13 (x0 x1 x2 x3 f0 f1 f2 f3 : Int) (hpre : True) : Rg.has (-1000, 1000) (lw4t_at1 f1) := by
  have h := IE.rng_ok (β := [(-9223372036854775808, 9223372036854775807)]) (ρ := [(IntKind.i64.wrap f1)]) ⟨wrR _, trivial⟩ (e := (.md (.v 0) 1001)) (by kernel_rfl)
  rw [show IE.rng [(-9223372036854775808, 9223372036854775807)] (.md (.v 0) 1001) = (-1000, 1000) from by kernel_rfl] at h
  exact h
theorem lw4t_rg14 (x0 x1 x2 x3 f0 f1 f2 f3 : Int) (hpre : True) : Rg.has (-1000, 1000) (lw4t_at1 f2) := by
  have h := IE.rng_ok (β := [(-9223372036854775808, 9223372036854775807)]) (ρ := [(IntKind.i64.wrap f2)]) ⟨wrR _, trivial⟩ (e := (.md (.v 0) 1001)) (by kernel_rfl)
  rw [show IE.rng [(-9223372036854775808, 9223372036854775807)] (.md (.v 0) 1001) = (-1000, 1000) from by kernel_rfl] at h
  exact h
theorem lw4t_rg15 (x0 x1 x2 x3 f0 f1 f2 f3 : Int) (hpre : True) : Rg.has (-1000, 1000) (lw4t_at1 f3) := by
  have h := IE.rng_ok (β := [(-9223372036854775808, 9223372036854775807)]) (ρ := [(IntKind.i64.wrap f3)]) ⟨wrR _, trivial⟩ (e := (.md (.v 0) 1001)) (by kernel_rfl)
  rw [show IE.rng [(-9223372036854775808, 9223372036854775807)] (.md (.v 0) 1001) = (-1000, 1000) from by kernel_rfl] at h
  exact h
def lw4t_R (x0 x1 x2 x3 f0 f1 f2 f3 : Int) : List Int := [(IntKind.i64.wrap x0), (IntKind.i64.wrap x1), (IntKind.i64.wrap x2), (IntKind.i64.wrap x3), (IntKind.i64.wrap f0), (IntKind.i64.wrap f1), (IntKind.i64.wrap f2), (IntKind.i64.wrap f3), (lw4t_at0 x0), (lw4t_at0 x1), (lw4t_at0 x2), (lw4t_at0 x3), (lw4t_at1 f0), (lw4t_at1 f1), (lw4t_at1 f2), (lw4t_at1 f3)]
def lw4t_B : List Rg := [(-9223372036854775808, 9223372036854775807), (-9223372036854775808, 9223372036854775807), (-9223372036854775808, 9223372036854775807), (-9223372036854775808, 9223372036854775807), (-9223372036854775808, 9223372036854775807), (-9223372036854775808, 9223372036854775807), (-9223372036854775808, 9223372036854775807), (-9223372036854775808, 9223372036854775807), (-100, 100), (-100, 100), (-100, 100), (-100, 100), (-1000, 1000), (-1000, 1000), (-1000, 1000), (-1000, 1000)]
theorem lw4t_hr (x0 x1 x2 x3 f0 f1 f2 f3 : Int) (hpre : True) : InR lw4t_B (lw4t_R x0 x1 x2 x3 f0 f1 f2 f3) := ⟨wrR _, ⟨wrR _, ⟨wrR _, ⟨wrR _, ⟨wrR _, ⟨wrR _, ⟨wrR _, ⟨wrR _, ⟨lw4t_rg8 x0 x1 x2 x3 f0 f1 f2 f3 hpre, ⟨lw4t_rg9 x0 x1 x2 x3 f0 f1 f2 f3 hpre, ⟨lw4t_rg10 x0 x1 x2 x3 f0 f1 f2 f3 hpre, ⟨lw4t_rg11 x0 x1 x2 x3 f0 f1 f2 f3 hpre, ⟨lw4t_rg12 x0 x1 x2 x3 f0 f1 f2 f3 hpre, ⟨lw4t_rg13 x0 x1 x2 x3 f0 f1 f2 f3 hpre, ⟨lw4t_rg14 x0 x1 x2 x3 f0 f1 f2 f3 hpre, ⟨lw4t_rg15 x0 x1 x2 x3 f0 f1 f2 f3 hpre, trivial⟩⟩⟩⟩⟩⟩⟩⟩⟩⟩⟩⟩⟩⟩⟩⟩
def lw4t_h0 : Prop := (false = false)
theorem lw4t_g0 : (false = false) := by first | rfl | trivial | decide | omega
def lw4t_h1 : Prop := ((decide ((4 : Int) > (4 : Int))) = Bool.false)
theorem lw4t_g1 : ((decide ((4 : Int) > (4 : Int))) = Bool.false) := by first | rfl | trivial | decide | omega
def lw4t_h2 : Prop := (true = true)
theorem lw4t_g2 : (true = true) := by first | rfl | trivial | decide | omega
def lw4t_h3 : Prop := ((0 : Int) = (0 : Int))
theorem lw4t_g3 : ((0 : Int) = (0 : Int)) := by first | rfl | trivial | decide | omega
def lw4t_h4 : Prop := ((1 : Int) = (1 : Int))
theorem lw4t_g4 : ((1 : Int) = (1 : Int)) := by first | rfl | trivial | decide | omega
def lw4t_c0 (x0 x1 x2 x3 f0 f1 f2 f3 : Int) : Bool := BE.ev (lw4t_R x0 x1 x2 x3 f0 f1 f2 f3) (.cm .eq (.v 8) (.k (0)))
def lw4t_h6 : Prop := ((2 : Int) = (2 : Int))
theorem lw4t_g6 : ((2 : Int) = (2 : Int)) := by first | rfl | trivial | decide | omega
def lw4t_h7 : Prop := ((3 : Int) = (3 : Int))
theorem lw4t_g7 : ((3 : Int) = (3 : Int)) := by first | rfl | trivial | decide | omega
def lw4t_h8 : Prop := ((decide ((5 : Int) > (5 : Int))) = Bool.false)
theorem lw4t_g8 : ((decide ((5 : Int) > (5 : Int))) = Bool.false) := by first | rfl | trivial | decide | omega
def lw4t_c1 (x0 x1 x2 x3 f0 f1 f2 f3 : Int) : Bool := BE.ev (lw4t_R x0 x1 x2 x3 f0 f1 f2 f3) (.cm .lt (.v 8) (.k (-100)))
def lw4t_c2 (x0 x1 x2 x3 f0 f1 f2 f3 : Int) : Bool := BE.ev (lw4t_R x0 x1 x2 x3 f0 f1 f2 f3) (.cm .gt (.v 8) (.k (100)))
def lw4t_c3 (x0 x1 x2 x3 f0 f1 f2 f3 : Int) : Bool := BE.ev (lw4t_R x0 x1 x2 x3 f0 f1 f2 f3) (.cm .lt (.v 9) (.k (-100)))
def lw4t_c4 (x0 x1 x2 x3 f0 f1 f2 f3 : Int) : Bool := BE.ev (lw4t_R x0 x1 x2 x3 f0 f1 f2 f3) (.cm .gt (.v 9) (.k (100)))
def lw4t_c5 (x0 x1 x2 x3 f0 f1 f2 f3 : Int) : Bool := BE.ev (lw4t_R x0 x1 x2 x3 f0 f1 f2 f3) (.cm .lt (.v 10) (.k (-100)))
def lw4t_c6 (x0 x1 x2 x3 f0 f1 f2 f3 : Int) : Bool := BE.ev (lw4t_R x0 x1 x2 x3 f0 f1 f2 f3) (.cm .gt (.v 10) (.k (100)))
def lw4t_c7 (x0 x1 x2 x3 f0 f1 f2 f3 : Int) : Bool := BE.ev (lw4t_R x0 x1 x2 x3 f0 f1 f2 f3) (.cm .lt (.v 11) (.k (-100)))
def lw4t_c8 (x0 x1 x2 x3 f0 f1 f2 f3 : Int) : Bool := BE.ev (lw4t_R x0 x1 x2 x3 f0 f1 f2 f3) (.cm .gt (.v 11) (.k (100)))
def lw4t_h17 : Prop := ((4 : Int) = (4 : Int))
theorem lw4t_g17 : ((4 : Int) = (4 : Int)) := by first | rfl | trivial | decide | omega
def lw4t_h18 : Prop := ((decide ((-1 : Int) > (100 : Int))) = Bool.false)
theorem lw4t_g18 : ((decide ((-1 : Int) > (100 : Int))) = Bool.false) := by first | rfl | trivial | decide | omega
def lw4t_h19 : Prop := ((Bool.false != Bool.false) = Bool.false)
theorem lw4t_g19 : ((Bool.false != Bool.false) = Bool.false) := by first | rfl | trivial | decide | omega
def lw4t_h20 : Prop := ((decide ((5 : Int) > (2 : Int))) = Bool.true)
theorem lw4t_g20 : ((decide ((5 : Int) > (2 : Int))) = Bool.true) := by first | rfl | trivial | decide | omega
def lw4t_c9 (x0 x1 x2 x3 f0 f1 f2 f3 : Int) : Bool := BE.ev (lw4t_R x0 x1 x2 x3 f0 f1 f2 f3) (.not lw4t_q1)
def lw4t_c10 (x0 x1 x2 x3 f0 f1 f2 f3 : Int) : Bool := BE.ev (lw4t_R x0 x1 x2 x3 f0 f1 f2 f3) lw4t_q1
def lw4t_h23 : Prop := ((Bool.not ((Bool.not (decide ((0 : Int) ≥ (0 : Int)))) == Bool.false)) = Bool.false)
theorem lw4t_g23 : ((Bool.not ((Bool.not (decide ((0 : Int) ≥ (0 : Int)))) == Bool.false)) = Bool.false) := by first | rfl | trivial | decide | omega
def lw4t_c11 (x0 x1 x2 x3 f0 f1 f2 f3 : Int) : Bool := BE.ev (lw4t_R x0 x1 x2 x3 f0 f1 f2 f3) (.cm .eq (.v 9) (.k (0)))
def lw4t_h27 : Prop := ((decide ((4 : Int) > (2 : Int))) = Bool.true)
theorem lw4t_g27 : ((decide ((4 : Int) > (2 : Int))) = Bool.true) := by first | rfl | trivial | decide | omega
def lw4t_c12 (x0 x1 x2 x3 f0 f1 f2 f3 : Int) : Bool := BE.ev (lw4t_R x0 x1 x2 x3 f0 f1 f2 f3) (.not lw4t_q4)
def lw4t_c13 (x0 x1 x2 x3 f0 f1 f2 f3 : Int) : Bool := BE.ev (lw4t_R x0 x1 x2 x3 f0 f1 f2 f3) lw4t_q4
def lw4t_h31 : Prop := ((Bool.not ((Bool.not (decide ((1 : Int) ≥ (0 : Int)))) == Bool.false)) = Bool.false)
theorem lw4t_g31 : ((Bool.not ((Bool.not (decide ((1 : Int) ≥ (0 : Int)))) == Bool.false)) = Bool.false) := by first | rfl | trivial | decide | omega
def lw4t_c14 (x0 x1 x2 x3 f0 f1 f2 f3 : Int) : Bool := BE.ev (lw4t_R x0 x1 x2 x3 f0 f1 f2 f3) (.cm .eq (.v 10) (.k (0)))
def lw4t_h35 : Prop := ((decide ((3 : Int) > (2 : Int))) = Bool.true)
theorem lw4t_g35 : ((decide ((3 : Int) > (2 : Int))) = Bool.true) := by first | rfl | trivial | decide | omega
def lw4t_c15 (x0 x1 x2 x3 f0 f1 f2 f3 : Int) : Bool := BE.ev (lw4t_R x0 x1 x2 x3 f0 f1 f2 f3) (.not lw4t_q9)
def lw4t_c16 (x0 x1 x2 x3 f0 f1 f2 f3 : Int) : Bool := BE.ev (lw4t_R x0 x1 x2 x3 f0 f1 f2 f3) lw4t_q9
def lw4t_h39 : Prop := ((Bool.not ((Bool.not (decide ((2 : Int) ≥ (0 : Int)))) == Bool.false)) = Bool.false)
theorem lw4t_g39 : ((Bool.not ((Bool.not (decide ((2 : Int) ≥ (0 : Int)))) == Bool.false)) = Bool.false) := by first | rfl | trivial | decide | omega
def lw4t_h42 : Prop := ((decide ((2 : Int) > (2 : Int))) = Bool.false)
theorem lw4t_g42 : ((decide ((2 : Int) > (2 : Int))) = Bool.false) := by first | rfl | trivial | decide | omega
def lw4t_c17 (x0 x1 x2 x3 f0 f1 f2 f3 : Int) : Bool := BE.ev (lw4t_R x0 x1 x2 x3 f0 f1 f2 f3) lw4t_q13
def lw4t_c18 (x0 x1 x2 x3 f0 f1 f2 f3 : Int) : Bool := BE.ev (lw4t_R x0 x1 x2 x3 f0 f1 f2 f3) (.not (.beq (.not (.cm .ge (.k (3)) (.k (0)))) (.cm .eq (.v 11) (.k (0)))))
def lw4t_c19 (x0 x1 x2 x3 f0 f1 f2 f3 : Int) : Bool := BE.ev (lw4t_R x0 x1 x2 x3 f0 f1 f2 f3) (.not (.cm .eq (.v 11) (.k (0))))
def lw4t_c20 (x0 x1 x2 x3 f0 f1 f2 f3 : Int) : Bool := BE.ev (lw4t_R x0 x1 x2 x3 f0 f1 f2 f3) (.not (.beq (.not (.cm .ge (.k (-1)) (.k (0)))) (.cm .eq (.v 11) (.k (0)))))
def lw4t_c21 (x0 x1 x2 x3 f0 f1 f2 f3 : Int) : Bool := BE.ev (lw4t_R x0 x1 x2 x3 f0 f1 f2 f3) (.cm .lt (.v 12) (.k (-1000)))
def lw4t_c22 (x0 x1 x2 x3 f0 f1 f2 f3 : Int) : Bool := BE.ev (lw4t_R x0 x1 x2 x3 f0 f1 f2 f3) (.cm .gt (.v 12) (.k (1000)))
def lw4t_c23 (x0 x1 x2 x3 f0 f1 f2 f3 : Int) : Bool := BE.ev (lw4t_R x0 x1 x2 x3 f0 f1 f2 f3) (.cm .lt (.v 13) (.k (-1000)))
def lw4t_c24 (x0 x1 x2 x3 f0 f1 f2 f3 : Int) : Bool := BE.ev (lw4t_R x0 x1 x2 x3 f0 f1 f2 f3) (.cm .gt (.v 13) (.k (1000)))
def lw4t_c25 (x0 x1 x2 x3 f0 f1 f2 f3 : Int) : Bool := BE.ev (lw4t_R x0 x1 x2 x3 f0 f1 f2 f3) (.cm .lt (.v 14) (.k (-1000)))
def lw4t_c26 (x0 x1 x2 x3 f0 f1 f2 f3 : Int) : Bool := BE.ev (lw4t_R x0 x1 x2 x3 f0 f1 f2 f3) (.cm .gt (.v 14) (.k (1000)))
def lw4t_c27 (x0 x1 x2 x3 f0 f1 f2 f3 : Int) : Bool := BE.ev (lw4t_R x0 x1 x2 x3 f0 f1 f2 f3) (.cm .lt (.v 15) (.k (-1000)))
def lw4t_c28 (x0 x1 x2 x3 f0 f1 f2 f3 : Int) : Bool := BE.ev (lw4t_R x0 x1 x2 x3 f0 f1 f2 f3) (.cm .gt (.v 15) (.k (1000)))
def lw4t_h58 : Prop := ((decide ((6 : Int) > (24 : Int))) = Bool.false)
theorem lw4t_g58 : ((decide ((6 : Int) > (24 : Int))) = Bool.false) := by first | rfl | trivial | decide | omega
def lw4t_c29 (x0 x1 x2 x3 f0 f1 f2 f3 : Int) : Bool := BE.ev (lw4t_R x0 x1 x2 x3 f0 f1 f2 f3) lw4t_q20
def lw4t_c30 (x0 x1 x2 x3 f0 f1 f2 f3 : Int) : Bool := BE.ev (lw4t_R x0 x1 x2 x3 f0 f1 f2 f3) lw4t_q21
def lw4t_c31 (x0 x1 x2 x3 f0 f1 f2 f3 : Int) : Bool := BE.ev (lw4t_R x0 x1 x2 x3 f0 f1 f2 f3) lw4t_q24
def lw4t_c32 (x0 x1 x2 x3 f0 f1 f2 f3 : Int) : Bool := BE.ev (lw4t_R x0 x1 x2 x3 f0 f1 f2 f3) lw4t_q25
def lw4t_h63 : Prop := ((5 : Int) = (5 : Int))
theorem lw4t_g63 : ((5 : Int) = (5 : Int)) := by first | rfl | trivial | decide | omega
def lw4t_c33 (x0 x1 x2 x3 f0 f1 f2 f3 : Int) : Bool := BE.ev (lw4t_R x0 x1 x2 x3 f0 f1 f2 f3) (.cm .lt lw4t_q27 (.k (-1073741824)))
def lw4t_c34 (x0 x1 x2 x3 f0 f1 f2 f3 : Int) : Bool := BE.ev (lw4t_R x0 x1 x2 x3 f0 f1 f2 f3) (.cm .gt lw4t_q27 (.k (1073741824)))
def lw4t_h66 : Prop := ((6 : Int) = (6 : Int))
theorem lw4t_g66 : ((6 : Int) = (6 : Int)) := by first | rfl | trivial | decide | omega
def lw4t_c35 (x0 x1 x2 x3 f0 f1 f2 f3 : Int) : Bool := BE.ev (lw4t_R x0 x1 x2 x3 f0 f1 f2 f3) (.cm .lt lw4t_q29 (.k (-1073741824)))
def lw4t_c36 (x0 x1 x2 x3 f0 f1 f2 f3 : Int) : Bool := BE.ev (lw4t_R x0 x1 x2 x3 f0 f1 f2 f3) (.cm .gt lw4t_q29 (.k (1073741824)))
def lw4t_h69 : Prop := ((7 : Int) = (7 : Int))
theorem lw4t_g69 : ((7 : Int) = (7 : Int)) := by first | rfl | trivial | decide | omega
def lw4t_c37 (x0 x1 x2 x3 f0 f1 f2 f3 : Int) : Bool := BE.ev (lw4t_R x0 x1 x2 x3 f0 f1 f2 f3) (.cm .lt lw4t_q31 (.k (-1073741824)))
def lw4t_c38 (x0 x1 x2 x3 f0 f1 f2 f3 : Int) : Bool := BE.ev (lw4t_R x0 x1 x2 x3 f0 f1 f2 f3) (.cm .gt lw4t_q31 (.k (1073741824)))
def lw4t_h72 : Prop := ((8 : Int) = (8 : Int))
theorem lw4t_g72 : ((8 : Int) = (8 : Int)) := by first | rfl | trivial | decide | omega
def lw4t_c39 (x0 x1 x2 x3 f0 f1 f2 f3 : Int) : Bool := BE.ev (lw4t_R x0 x1 x2 x3 f0 f1 f2 f3) (.cm .lt lw4t_q33 (.k (-1073741824)))
def lw4t_c40 (x0 x1 x2 x3 f0 f1 f2 f3 : Int) : Bool := BE.ev (lw4t_R x0 x1 x2 x3 f0 f1 f2 f3) (.cm .gt lw4t_q33 (.k (1073741824)))
def lw4t_c41 (x0 x1 x2 x3 f0 f1 f2 f3 : Int) : Bool := BE.ev (lw4t_R x0 x1 x2 x3 f0 f1 f2 f3) (.cm .ne (.wr lw4t_q19) (.k (0)))
def lw4t_c42 (x0 x1 x2 x3 f0 f1 f2 f3 : Int) : Bool := BE.ev (lw4t_R x0 x1 x2 x3 f0 f1 f2 f3) (.cm .ne (.wr lw4t_q23) (.k (0)))
def lw4t_c43 (x0 x1 x2 x3 f0 f1 f2 f3 : Int) : Bool := BE.ev (lw4t_R x0 x1 x2 x3 f0 f1 f2 f3) (.cm .ne lw4t_q27 (.k (0)))
def lw4t_c44 (x0 x1 x2 x3 f0 f1 f2 f3 : Int) : Bool := BE.ev (lw4t_R x0 x1 x2 x3 f0 f1 f2 f3) (.cm .ne lw4t_q29 (.k (0)))
def lw4t_c45 (x0 x1 x2 x3 f0 f1 f2 f3 : Int) : Bool := BE.ev (lw4t_R x0 x1 x2 x3 f0 f1 f2 f3) (.cm .ne lw4t_q31 (.k (0)))
def lw4t_c46 (x0 x1 x2 x3 f0 f1 f2 f3 : Int) : Bool := BE.ev (lw4t_R x0 x1 x2 x3 f0 f1 f2 f3) (.cm .ne lw4t_q33 (.k (0)))
theorem lw4t_c1_ff (x0 x1 x2 x3 f0 f1 f2 f3 : Int) (hpre : True) : lw4t_c1 x0 x1 x2 x3 f0 f1 f2 f3 = false :=
  BE.tri_ok (lw4t_hr x0 x1 x2 x3 f0 f1 f2 f3 hpre) (e := (.cm .lt (.v 8) (.k (-100)))) (by kernel_rfl) (by kernel_rfl)
theorem lw4t_c2_ff (x0 x1 x2 x3 f0 f1 f2 f3 : Int) (hpre : True) : lw4t_c2 x0 x1 x2 x3 f0 f1 f2 f3 = false :=
  BE.tri_ok (lw4t_hr x0 x1 x2 x3 f0 f1 f2 f3 hpre) (e := (.cm .gt (.v 8) (.k (100)))) (by kernel_rfl) (by kernel_rfl)
theorem lw4t_c3_ff (x0 x1 x2 x3 f0 f1 f2 f3 : Int) (hpre : True) : lw4t_c3 x0 x1 x2 x3 f0 f1 f2 f3 = false :=
  BE.tri_ok (lw4t_hr x0 x1 x2 x3 f0 f1 f2 f3 hpre) (e := (.cm .lt (.v 9) (.k (-100)))) (by kernel_rfl) (by kernel_rfl)
theorem lw4t_c4_ff (x0 x1 x2 x3 f0 f1 f2 f3 : Int) (hpre : True) : lw4t_c4 x0 x1 x2 x3 f0 f1 f2 f3 = false :=
  BE.tri_ok (lw4t_hr x0 x1 x2 x3 f0 f1 f2 f3 hpre) (e := (.cm .gt (.v 9) (.k (100)))) (by kernel_rfl) (by kernel_rfl)
theorem lw4t_c5_ff (x0 x1 x2 x3 f0 f1 f2 f3 : Int) (hpre : True) : lw4t_c5 x0 x1 x2 x3 f0 f1 f2 f3 = false :=
  BE.tri_ok (lw4t_hr x0 x1 x2 x3 f0 f1 f2 f3 hpre) (e := (.cm .lt (.v 10) (.k (-100)))) (by kernel_rfl) (by kernel_rfl)
theorem lw4t_c6_ff (x0 x1 x2 x3 f0 f1 f2 f3 : Int) (hpre : True) : lw4t_c6 x0 x1 x2 x3 f0 f1 f2 f3 = false :=
  BE.tri_ok (lw4t_hr x0 x1 x2 x3 f0 f1 f2 f3 hpre) (e := (.cm .gt (.v 10) (.k (100)))) (by kernel_rfl) (by kernel_rfl)
theorem lw4t_c7_ff (x0 x1 x2 x3 f0 f1 f2 f3 : Int) (hpre : True) : lw4t_c7 x0 x1 x2 x3 f0 f1 f2 f3 = false :=
  BE.tri_ok (lw4t_hr x0 x1 x2 x3 f0 f1 f2 f3 hpre) (e := (.cm .lt (.v 11) (.k (-100)))) (by kernel_rfl) (by kernel_rfl)
theorem lw4t_c8_ff (x0 x1 x2 x3 f0 f1 f2 f3 : Int) (hpre : True) : lw4t_c8 x0 x1 x2 x3 f0 f1 f2 f3 = false :=
  BE.tri_ok (lw4t_hr x0 x1 x2 x3 f0 f1 f2 f3 hpre) (e := (.cm .gt (.v 11) (.k (100)))) (by kernel_rfl) (by kernel_rfl)
theorem lw4t_c21_ff (x0 x1 x2 x3 f0 f1 f2 f3 : Int) (hpre : True) : lw4t_c21 x0 x1 x2 x3 f0 f1 f2 f3 = false :=
  BE.tri_ok (lw4t_hr x0 x1 x2 x3 f0 f1 f2 f3 hpre) (e := (.cm .lt (.v 12) (.k (-1000)))) (by kernel_rfl) (by kernel_rfl)
theorem lw4t_c22_ff (x0 x1 x2 x3 f0 f1 f2 f3 : Int) (hpre : True) : lw4t_c22 x0 x1 x2 x3 f0 f1 f2 f3 = false :=
  BE.tri_ok (lw4t_hr x0 x1 x2 x3 f0 f1 f2 f3 hpre) (e := (.cm .gt (.v 12) (.k (1000)))) (by kernel_rfl) (by kernel_rfl)
theorem lw4t_c23_ff (x0 x1 x2 x3 f0 f1 f2 f3 : Int) (hpre : True) : lw4t_c23 x0 x1 x2 x3 f0 f1 f2 f3 = false :=
  BE.tri_ok (lw4t_hr x0 x1 x2 x3 f0 f1 f2 f3 hpre) (e := (.cm .lt (.v 13) (.k (-1000)))) (by kernel_rfl) (by kernel_rfl)
theorem lw4t_c24_ff (x0 x1 x2 x3 f0 f1 f2 f3 : Int) (hpre : True) : lw4t_c24 x0 x1 x2 x3 f0 f1 f2 f3 = false :=
  BE.tri_ok (lw4t_hr x0 x1 x2 x3 f0 f1 f2 f3 hpre) (e := (.cm .gt (.v 13) (.k (1000)))) (by kernel_rfl) (by kernel_rfl)
theorem lw4t_c25_ff (x0 x1 x2 x3 f0 f1 f2 f3 : Int) (hpre : True) : lw4t_c25 x0 x1 x2 x3 f0 f1 f2 f3 = false :=
  BE.tri_ok (lw4t_hr x0 x1 x2 x3 f0 f1 f2 f3 hpre) (e := (.cm .lt (.v 14) (.k (-1000)))) (by kernel_rfl) (by kernel_rfl)
theorem lw4t_c26_ff (x0 x1 x2 x3 f0 f1 f2 f3 : Int) (hpre : True) : lw4t_c26 x0 x1 x2 x3 f0 f1 f2 f3 = false :=
  BE.tri_ok (lw4t_hr x0 x1 x2 x3 f0 f1 f2 f3 hpre) (e := (.cm .gt (.v 14) (.k (1000)))) (by kernel_rfl) (by kernel_rfl)
theorem lw4t_c27_ff (x0 x1 x2 x3 f0 f1 f2 f3 : Int) (hpre : True) : lw4t_c27 x0 x1 x2 x3 f0 f1 f2 f3 = false :=
  BE.tri_ok (lw4t_hr x0 x1 x2 x3 f0 f1 f2 f3 hpre) (e := (.cm .lt (.v 15) (.k (-1000)))) (by kernel_rfl) (by kernel_rfl)
theorem lw4t_c28_ff (x0 x1 x2 x3 f0 f1 f2 f3 : Int) (hpre : True) : lw4t_c28 x0 x1 x2 x3 f0 f1 f2 f3 = false :=
  BE.tri_ok (lw4t_hr x0 x1 x2 x3 f0 f1 f2 f3 hpre) (e := (.cm .gt (.v 15) (.k (1000)))) (by kernel_rfl) (by kernel_rfl)
theorem lw4t_c29_ff (x0 x1 x2 x3 f0 f1 f2 f3 : Int) (hpre : True) : lw4t_c29 x0 x1 x2 x3 f0 f1 f2 f3 = false :=
  BE.tri_ok (lw4t_hr x0 x1 x2 x3 f0 f1 f2 f3 hpre) (e := lw4t_q20) (by kernel_rfl) (by kernel_rfl)
theorem lw4t_c30_ff (x0 x1 x2 x3 f0 f1 f2 f3 : Int) (hpre : True) : lw4t_c30 x0 x1 x2 x3 f0 f1 f2 f3 = false :=
  BE.tri_ok (lw4t_hr x0 x1 x2 x3 f0 f1 f2 f3 hpre) (e := lw4t_q21) (by kernel_rfl) (by kernel_rfl)
theorem lw4t_c31_ff (x0 x1 x2 x3 f0 f1 f2 f3 : Int) (hpre : True) : lw4t_c31 x0 x1 x2 x3 f0 f1 f2 f3 = false :=
  BE.tri_ok (lw4t_hr x0 x1 x2 x3 f0 f1 f2 f3 hpre) (e := lw4t_q24) (by kernel_rfl) (by kernel_rfl)
theorem lw4t_c32_ff (x0 x1 x2 x3 f0 f1 f2 f3 : Int) (hpre : True) : lw4t_c32 x0 x1 x2 x3 f0 f1 f2 f3 = false :=
  BE.tri_ok (lw4t_hr x0 x1 x2 x3 f0 f1 f2 f3 hpre) (e := lw4t_q25) (by kernel_rfl) (by kernel_rfl)
def lw4t_z0 (P : Prop) (x0 x1 x2 x3 f0 f1 f2 f3 : Int) : Prop := ((((((((((((((((((((((P ∧ lw4t_h0) ∧ lw4t_h0) ∧ lw4t_h0) ∧ lw4t_h0) ∧ lw4t_h1) ∧ lw4t_h2) ∧ lw4t_h3) ∧ lw4t_h0) ∧ lw4t_h3) ∧ lw4t_h0) ∧ lw4t_h2) ∧ lw4t_h2) ∧ lw4t_h2) ∧ lw4t_h3) ∧ lw4t_h2) ∧ lw4t_h2) ∧ lw4t_h2) ∧ lw4t_h2) ∧ lw4t_h4) ∧ lw4t_h0) ∧ lw4t_h4) ∧ lw4t_h0)
theorem lw4t_z0_h {P : Prop} (h : P) (x0 x1 x2 x3 f0 f1 f2 f3 : Int) (hpre : True) : lw4t_z0 P x0 x1 x2 x3 f0 f1 f2 f3 := ⟨⟨⟨⟨⟨⟨⟨⟨⟨⟨⟨⟨⟨⟨⟨⟨⟨⟨⟨⟨⟨⟨h, lw4t_g0⟩, lw4t_g0⟩, lw4t_g0⟩, lw4t_g0⟩, lw4t_g1⟩, lw4t_g2⟩, lw4t_g3⟩, lw4t_g0⟩, lw4t_g3⟩, lw4t_g0⟩, lw4t_g2⟩, lw4t_g2⟩, lw4t_g2⟩, lw4t_g3⟩, lw4t_g2⟩, lw4t_g2⟩, lw4t_g2⟩, lw4t_g2⟩, lw4t_g4⟩, lw4t_g0⟩, lw4t_g4⟩, lw4t_g0⟩
def lw4t_z1 (P : Prop) (x0 x1 x2 x3 f0 f1 f2 f3 : Int) : Prop := ((((((((((((((((((((((((((((P ∧ (lw4t_c0 x0 x1 x2 x3 f0 f1 f2 f3 = false)) ∧ (lw4t_c0 x0 x1 x2 x3 f0 f1 f2 f3 = false)) ∧ (lw4t_c0 x0 x1 x2 x3 f0 f1 f2 f3 = false)) ∧ (lw4t_c0 x0 x1 x2 x3 f0 f1 f2 f3 = false)) ∧ (lw4t_c0 x0 x1 x2 x3 f0 f1 f2 f3 = false)) ∧ (lw4t_c0 x0 x1 x2 x3 f0 f1 f2 f3 = false)) ∧ lw4t_h2) ∧ lw4t_h6) ∧ lw4t_h0) ∧ lw4t_h6) ∧ lw4t_h0) ∧ lw4t_h0) ∧ lw4t_h0) ∧ lw4t_h0) ∧ lw4t_h0) ∧ lw4t_h0) ∧ lw4t_h0) ∧ lw4t_h2) ∧ lw4t_h7) ∧ lw4t_h0) ∧ lw4t_h7) ∧ lw4t_h0) ∧ lw4t_h0) ∧ lw4t_h0) ∧ lw4t_h0) ∧ lw4t_h0) ∧ lw4t_h0) ∧ lw4t_h0)
theorem lw4t_z1_h {P : Prop} (h : P) (x0 x1 x2 x3 f0 f1 f2 f3 : Int) (hpre : True) (k0 : (lw4t_c0 x0 x1 x2 x3 f0 f1 f2 f3 = false)) : lw4t_z1 P x0 x1 x2 x3 f0 f1 f2 f3 := ⟨⟨⟨⟨⟨⟨⟨⟨⟨⟨⟨⟨⟨⟨⟨⟨⟨⟨⟨⟨⟨⟨⟨⟨⟨⟨⟨⟨h, k0⟩, k0⟩, k0⟩, k0⟩, k0⟩, k0⟩, lw4t_g2⟩, lw4t_g6⟩, lw4t_g0⟩, lw4t_g6⟩, lw4t_g0⟩, lw4t_g0⟩, lw4t_g0⟩, lw4t_g0⟩, lw4t_g0⟩, lw4t_g0⟩, lw4t_g0⟩, lw4t_g2⟩, lw4t_g7⟩, lw4t_g0⟩, lw4t_g7⟩, lw4t_g0⟩, lw4t_g0⟩, lw4t_g0⟩, lw4t_g0⟩, lw4t_g0⟩, lw4t_g0⟩, lw4t_g0⟩
def lw4t_z2 (P : Prop) (x0 x1 x2 x3 f0 f1 f2 f3 : Int) : Prop := (((((((((((((((((((((((((((((((((((((((((((((((((((((((((P ∧ lw4t_h0) ∧ lw4t_h2) ∧ lw4t_h0) ∧ lw4t_h8) ∧ lw4t_h2) ∧ lw4t_h3) ∧ (lw4t_c1 x0 x1 x2 x3 f0 f1 f2 f3 = false)) ∧ (lw4t_c1 x0 x1 x2 x3 f0 f1 f2 f3 = false)) ∧ (lw4t_c1 x0 x1 x2 x3 f0 f1 f2 f3 = false)) ∧ (lw4t_c1 x0 x1 x2 x3 f0 f1 f2 f3 = false)) ∧ (lw4t_c2 x0 x1 x2 x3 f0 f1 f2 f3 = false)) ∧ lw4t_h0) ∧ lw4t_h2) ∧ lw4t_h4) ∧ (lw4t_c3 x0 x1 x2 x3 f0 f1 f2 f3 = false)) ∧ (lw4t_c3 x0 x1 x2 x3 f0 f1 f2 f3 = false)) ∧ (lw4t_c3 x0 x1 x2 x3 f0 f1 f2 f3 = false)) ∧ (lw4t_c3 x0 x1 x2 x3 f0 f1 f2 f3 = false)) ∧ (lw4t_c4 x0 x1 x2 x3 f0 f1 f2 f3 = false)) ∧ lw4t_h0) ∧ lw4t_h2) ∧ lw4t_h6) ∧ (lw4t_c5 x0 x1 x2 x3 f0 f1 f2 f3 = false)) ∧ (lw4t_c5 x0 x1 x2 x3 f0 f1 f2 f3 = false)) ∧ (lw4t_c5 x0 x1 x2 x3 f0 f1 f2 f3 = false)) ∧ (lw4t_c5 x0 x1 x2 x3 f0 f1 f2 f3 = false)) ∧ (lw4t_c6 x0 x1 x2 x3 f0 f1 f2 f3 = false)) ∧ lw4t_h0) ∧ lw4t_h2) ∧ lw4t_h7) ∧ (lw4t_c7 x0 x1 x2 x3 f0 f1 f2 f3 = false)) ∧ (lw4t_c7 x0 x1 x2 x3 f0 f1 f2 f3 = false)) ∧ (lw4t_c7 x0 x1 x2 x3 f0 f1 f2 f3 = false)) ∧ (lw4t_c7 x0 x1 x2 x3 f0 f1 f2 f3 = false)) ∧ (lw4t_c8 x0 x1 x2 x3 f0 f1 f2 f3 = false)) ∧ lw4t_h0) ∧ lw4t_h2) ∧ lw4t_h17) ∧ lw4t_h0) ∧ lw4t_h0) ∧ lw4t_h0) ∧ lw4t_h0) ∧ lw4t_h18) ∧ lw4t_h0) ∧ lw4t_h0) ∧ lw4t_h0) ∧ lw4t_h17) ∧ lw4t_h0) ∧ lw4t_h0) ∧ lw4t_h0) ∧ lw4t_h19) ∧ lw4t_h20) ∧ lw4t_h20) ∧ lw4t_h3) ∧ lw4t_h17) ∧ lw4t_h20) ∧ lw4t_h20)
theorem lw4t_z2_h {P : Prop} (h : P) (x0 x1 x2 x3 f0 f1 f2 f3 : Int) (hpre : True) : lw4t_z2 P x0 x1 x2 x3 f0 f1 f2 f3 := ⟨⟨⟨⟨⟨⟨⟨⟨⟨⟨⟨⟨⟨⟨⟨⟨⟨⟨⟨⟨⟨⟨⟨⟨⟨⟨⟨⟨⟨⟨⟨⟨⟨⟨⟨⟨⟨⟨⟨⟨⟨⟨⟨⟨⟨⟨⟨⟨⟨⟨⟨⟨⟨⟨⟨⟨⟨h, lw4t_g0⟩, lw4t_g2⟩, lw4t_g0⟩, lw4t_g8⟩, lw4t_g2⟩, lw4t_g3⟩, (lw4t_c1_ff x0 x1 x2 x3 f0 f1 f2 f3 hpre)⟩, (lw4t_c1_ff x0 x1 x2 x3 f0 f1 f2 f3 hpre)⟩, (lw4t_c1_ff x0 x1 x2 x3 f0 f1 f2 f3 hpre)⟩, (lw4t_c1_ff x0 x1 x2 x3 f0 f1 f2 f3 hpre)⟩, (lw4t_c2_ff x0 x1 x2 x3 f0 f1 f2 f3 hpre)⟩, lw4t_g0⟩, lw4t_g2⟩, lw4t_g4⟩, (lw4t_c3_ff x0 x1 x2 x3 f0 f1 f2 f3 hpre)⟩, (lw4t_c3_ff x0 x1 x2 x3 f0 f1 f2 f3 hpre)⟩, (lw4t_c3_ff x0 x1 x2 x3 f0 f1 f2 f3 hpre)⟩, (lw4t_c3_ff x0 x1 x2 x3 f0 f1 f2 f3 hpre)⟩, (lw4t_c4_ff x0 x1 x2 x3 f0 f1 f2 f3 hpre)⟩, lw4t_g0⟩, lw4t_g2⟩, lw4t_g6⟩, (lw4t_c5_ff x0 x1 x2 x3 f0 f1 f2 f3 hpre)⟩, (lw4t_c5_ff x0 x1 x2 x3 f0 f1 f2 f3 hpre)⟩, (lw4t_c5_ff x0 x1 x2 x3 f0 f1 f2 f3 hpre)⟩, (lw4t_c5_ff x0 x1 x2 x3 f0 f1 f2 f3 hpre)⟩, (lw4t_c6_ff x0 x1 x2 x3 f0 f1 f2 f3 hpre)⟩, lw4t_g0⟩, lw4t_g2⟩, lw4t_g7⟩, (lw4t_c7_ff x0 x1 x2 x3 f0 f1 f2 f3 hpre)⟩, (lw4t_c7_ff x0 x1 x2 x3 f0 f1 f2 f3 hpre)⟩, (lw4t_c7_ff x0 x1 x2 x3 f0 f1 f2 f3 hpre)⟩, (lw4t_c7_ff x0 x1 x2 x3 f0 f1 f2 f3 hpre)⟩, (lw4t_c8_ff x0 x1 x2 x3 f0 f1 f2 f3 hpre)⟩, lw4t_g0⟩, lw4t_g2⟩, lw4t_g17⟩, lw4t_g0⟩, lw4t_g0⟩, lw4t_g0⟩, lw4t_g0⟩, lw4t_g18⟩, lw4t_g0⟩, lw4t_g0⟩, lw4t_g0⟩, lw4t_g17⟩, lw4t_g0⟩, lw4t_g0⟩, lw4t_g0⟩, lw4t_g19⟩, lw4t_g20⟩, lw4t_g20⟩, lw4t_g3⟩, lw4t_g17⟩, lw4t_g20⟩, lw4t_g20⟩
def lw4t_z3 (P : Prop) (x0 x1 x2 x3 f0 f1 f2 f3 : Int) : Prop := ((((((((((((P ∧ (lw4t_c9 x0 x1 x2 x3 f0 f1 f2 f3 = false)) ∧ lw4t_h2) ∧ lw4t_h3) ∧ lw4t_h3) ∧ lw4t_h17) ∧ (lw4t_c10 x0 x1 x2 x3 f0 f1 f2 f3 = true)) ∧ lw4t_h0) ∧ lw4t_h0) ∧ lw4t_h0) ∧ lw4t_h0) ∧ lw4t_h23) ∧ lw4t_h2)
theorem lw4t_z3_h {P : Prop} (h : P) (x0 x1 x2 x3 f0 f1 f2 f3 : Int) (hpre : True) (k0 : (lw4t_c9 x0 x1 x2 x3 f0 f1 f2 f3 = false)) (k1 : (lw4t_c10 x0 x1 x2 x3 f0 f1 f2 f3 = true)) : lw4t_z3 P x0 x1 x2 x3 f0 f1 f2 f3 := ⟨⟨⟨⟨⟨⟨⟨⟨⟨⟨⟨⟨h, k0⟩, lw4t_g2⟩, lw4t_g3⟩, lw4t_g3⟩, lw4t_g17⟩, k1⟩, lw4t_g0⟩, lw4t_g0⟩, lw4t_g0⟩, lw4t_g0⟩, lw4t_g23⟩, lw4t_g2⟩
def lw4t_z4 (P : Prop) (x0 x1 x2 x3 f0 f1 f2 f3 : Int) : Prop := ((((((((((((P ∧ (lw4t_c0 x0 x1 x2 x3 f0 f1 f2 f3 = true)) ∧ (lw4t_c0 x0 x1 x2 x3 f0 f1 f2 f3 = true)) ∧ (lw4t_c0 x0 x1 x2 x3 f0 f1 f2 f3 = true)) ∧ lw4t_h4) ∧ (lw4t_c0 x0 x1 x2 x3 f0 f1 f2 f3 = true)) ∧ (lw4t_c0 x0 x1 x2 x3 f0 f1 f2 f3 = true)) ∧ (lw4t_c0 x0 x1 x2 x3 f0 f1 f2 f3 = true)) ∧ lw4t_h2) ∧ lw4t_h6) ∧ lw4t_h0) ∧ lw4t_h6) ∧ lw4t_h0)
theorem lw4t_z4_h {P : Prop} (h : P) (x0 x1 x2 x3 f0 f1 f2 f3 : Int) (hpre : True) (k0 : (lw4t_c0 x0 x1 x2 x3 f0 f1 f2 f3 = true)) : lw4t_z4 P x0 x1 x2 x3 f0 f1 f2 f3 := ⟨⟨⟨⟨⟨⟨⟨⟨⟨⟨⟨⟨h, k0⟩, k0⟩, k0⟩, lw4t_g4⟩, k0⟩, k0⟩, k0⟩, lw4t_g2⟩, lw4t_g6⟩, lw4t_g0⟩, lw4t_g6⟩, lw4t_g0⟩
def lw4t_z5 (P : Prop) (x0 x1 x2 x3 f0 f1 f2 f3 : Int) : Prop := (((((((((((((((((P ∧ (lw4t_c11 x0 x1 x2 x3 f0 f1 f2 f3 = false)) ∧ (lw4t_c11 x0 x1 x2 x3 f0 f1 f2 f3 = false)) ∧ (lw4t_c11 x0 x1 x2 x3 f0 f1 f2 f3 = false)) ∧ (lw4t_c11 x0 x1 x2 x3 f0 f1 f2 f3 = false)) ∧ (lw4t_c11 x0 x1 x2 x3 f0 f1 f2 f3 = false)) ∧ (lw4t_c11 x0 x1 x2 x3 f0 f1 f2 f3 = false)) ∧ lw4t_h2) ∧ lw4t_h7) ∧ lw4t_h0) ∧ lw4t_h7) ∧ lw4t_h0) ∧ lw4t_h0) ∧ lw4t_h0) ∧ lw4t_h0) ∧ lw4t_h0) ∧ lw4t_h0) ∧ lw4t_h0)
theorem lw4t_z5_h {P : Prop} (h : P) (x0 x1 x2 x3 f0 f1 f2 f3 : Int) (hpre : True) (k0 : (lw4t_c11 x0 x1 x2 x3 f0 f1 f2 f3 = false)) : lw4t_z5 P x0 x1 x2 x3 f0 f1 f2 f3 := ⟨⟨⟨⟨⟨⟨⟨⟨⟨⟨⟨⟨⟨⟨⟨⟨⟨h, k0⟩, k0⟩, k0⟩, k0⟩, k0⟩, k0⟩, lw4t_g2⟩, lw4t_g7⟩, lw4t_g0⟩, lw4t_g7⟩, lw4t_g0⟩, lw4t_g0⟩, lw4t_g0⟩, lw4t_g0⟩, lw4t_g0⟩, lw4t_g0⟩, lw4t_g0⟩
def lw4t_z6 (P : Prop) (x0 x1 x2 x3 f0 f1 f2 f3 : Int) : Prop := (((((((((((((((((((((((((((((((((P ∧ (lw4t_c9 x0 x1 x2 x3 f0 f1 f2 f3 = true)) ∧ lw4t_h19) ∧ lw4t_h2) ∧ lw4t_h17) ∧ lw4t_h3) ∧ lw4t_h3) ∧ lw4t_h7) ∧ lw4t_h3) ∧ lw4t_h2) ∧ lw4t_h17) ∧ lw4t_h4) ∧ lw4t_h3) ∧ lw4t_h6) ∧ lw4t_h4) ∧ lw4t_h2) ∧ lw4t_h17) ∧ lw4t_h6) ∧ lw4t_h3) ∧ lw4t_h4) ∧ lw4t_h6) ∧ lw4t_h2) ∧ lw4t_h17) ∧ lw4t_h7) ∧ lw4t_h3) ∧ lw4t_h3) ∧ lw4t_h7) ∧ lw4t_h0) ∧ lw4t_h27) ∧ lw4t_h27) ∧ lw4t_h3) ∧ lw4t_h7) ∧ lw4t_h27) ∧ lw4t_h27)
theorem lw4t_z6_h {P : Prop} (h : P) (x0 x1 x2 x3 f0 f1 f2 f3 : Int) (hpre : True) (k0 : (lw4t_c9 x0 x1 x2 x3 f0 f1 f2 f3 = true)) : lw4t_z6 P x0 x1 x2 x3 f0 f1 f2 f3 := ⟨⟨⟨⟨⟨⟨⟨⟨⟨⟨⟨⟨⟨⟨⟨⟨⟨⟨⟨⟨⟨⟨⟨⟨⟨⟨⟨⟨⟨⟨⟨⟨⟨h, k0⟩, lw4t_g19⟩, lw4t_g2⟩, lw4t_g17⟩, lw4t_g3⟩, lw4t_g3⟩, lw4t_g7⟩, lw4t_g3⟩, lw4t_g2⟩, lw4t_g17⟩, lw4t_g4⟩, lw4t_g3⟩, lw4t_g6⟩, lw4t_g4⟩, lw4t_g2⟩, lw4t_g17⟩, lw4t_g6⟩, lw4t_g3⟩, lw4t_g4⟩, lw4t_g6⟩, lw4t_g2⟩, lw4t_g17⟩, lw4t_g7⟩, lw4t_g3⟩, lw4t_g3⟩, lw4t_g7⟩, lw4t_g0⟩, lw4t_g27⟩, lw4t_g27⟩, lw4t_g3⟩, lw4t_g7⟩, lw4t_g27⟩, lw4t_g27⟩
def lw4t_z7 (P : Prop) (x0 x1 x2 x3 f0 f1 f2 f3 : Int) : Prop := (P ∧ (lw4t_c12 x0 x1 x2 x3 f0 f1 f2 f3 = false))
theorem lw4t_z7_h {P : Prop} (h : P) (x0 x1 x2 x3 f0 f1 f2 f3 : Int) (hpre : True) (k0 : (lw4t_c12 x0 x1 x2 x3 f0 f1 f2 f3 = false)) : lw4t_z7 P x0 x1 x2 x3 f0 f1 f2 f3 := ⟨h, k0⟩
def lw4t_z8 (P : Prop) (x0 x1 x2 x3 f0 f1 f2 f3 : Int) : Prop := (((((((((P ∧ lw4t_h2) ∧ lw4t_h3) ∧ lw4t_h3) ∧ lw4t_h17) ∧ (lw4t_c10 x0 x1 x2 x3 f0 f1 f2 f3 = false)) ∧ lw4t_h2) ∧ lw4t_h4) ∧ lw4t_h3) ∧ lw4t_h7)
theorem lw4t_z8_h {P : Prop} (h : P) (x0 x1 x2 x3 f0 f1 f2 f3 : Int) (hpre : True) (k0 : (lw4t_c10 x0 x1 x2 x3 f0 f1 f2 f3 = false)) : lw4t_z8 P x0 x1 x2 x3 f0 f1 f2 f3 := ⟨⟨⟨⟨⟨⟨⟨⟨⟨h, lw4t_g2⟩, lw4t_g3⟩, lw4t_g3⟩, lw4t_g17⟩, k0⟩, lw4t_g2⟩, lw4t_g4⟩, lw4t_g3⟩, lw4t_g7⟩
def lw4t_z9 (P : Prop) (x0 x1 x2 x3 f0 f1 f2 f3 : Int) : Prop := (((((((P ∧ (lw4t_c13 x0 x1 x2 x3 f0 f1 f2 f3 = true)) ∧ lw4t_h0) ∧ lw4t_h0) ∧ lw4t_h0) ∧ lw4t_h0) ∧ lw4t_h31) ∧ lw4t_h2)
theorem lw4t_z9_h {P : Prop} (h : P) (x0 x1 x2 x3 f0 f1 f2 f3 : Int) (hpre : True) (k0 : (lw4t_c13 x0 x1 x2 x3 f0 f1 f2 f3 = true)) : lw4t_z9 P x0 x1 x2 x3 f0 f1 f2 f3 := ⟨⟨⟨⟨⟨⟨⟨h, k0⟩, lw4t_g0⟩, lw4t_g0⟩, lw4t_g0⟩, lw4t_g0⟩, lw4t_g31⟩, lw4t_g2⟩
def lw4t_z10 (P : Prop) (x0 x1 x2 x3 f0 f1 f2 f3 : Int) : Prop := ((((((((((((P ∧ (lw4t_c11 x0 x1 x2 x3 f0 f1 f2 f3 = true)) ∧ (lw4t_c11 x0 x1 x2 x3 f0 f1 f2 f3 = true)) ∧ (lw4t_c11 x0 x1 x2 x3 f0 f1 f2 f3 = true)) ∧ lw4t_h6) ∧ (lw4t_c11 x0 x1 x2 x3 f0 f1 f2 f3 = true)) ∧ (lw4t_c11 x0 x1 x2 x3 f0 f1 f2 f3 = true)) ∧ (lw4t_c11 x0 x1 x2 x3 f0 f1 f2 f3 = true)) ∧ lw4t_h2) ∧ lw4t_h7) ∧ lw4t_h0) ∧ lw4t_h7) ∧ lw4t_h0)
theorem lw4t_z10_h {P : Prop} (h : P) (x0 x1 x2 x3 f0 f1 f2 f3 : Int) (hpre : True) (k0 : (lw4t_c11 x0 x1 x2 x3 f0 f1 f2 f3 = true)) : lw4t_z10 P x0 x1 x2 x3 f0 f1 f2 f3 := ⟨⟨⟨⟨⟨⟨⟨⟨⟨⟨⟨⟨h, k0⟩, k0⟩, k0⟩, lw4t_g6⟩, k0⟩, k0⟩, k0⟩, lw4t_g2⟩, lw4t_g7⟩, lw4t_g0⟩, lw4t_g7⟩, lw4t_g0⟩
def lw4t_z11 (P : Prop) (x0 x1 x2 x3 f0 f1 f2 f3 : Int) : Prop := ((((((P ∧ (lw4t_c14 x0 x1 x2 x3 f0 f1 f2 f3 = false)) ∧ (lw4t_c14 x0 x1 x2 x3 f0 f1 f2 f3 = false)) ∧ (lw4t_c14 x0 x1 x2 x3 f0 f1 f2 f3 = false)) ∧ (lw4t_c14 x0 x1 x2 x3 f0 f1 f2 f3 = false)) ∧ (lw4t_c14 x0 x1 x2 x3 f0 f1 f2 f3 = false)) ∧ (lw4t_c14 x0 x1 x2 x3 f0 f1 f2 f3 = false))
theorem lw4t_z11_h {P : Prop} (h : P) (x0 x1 x2 x3 f0 f1 f2 f3 : Int) (hpre : True) (k0 : (lw4t_c14 x0 x1 x2 x3 f0 f1 f2 f3 = false)) : lw4t_z11 P x0 x1 x2 x3 f0 f1 f2 f3 := ⟨⟨⟨⟨⟨⟨h, k0⟩, k0⟩, k0⟩, k0⟩, k0⟩, k0⟩
def lw4t_z12 (P : Prop) (x0 x1 x2 x3 f0 f1 f2 f3 : Int) : Prop := (((((((((((((((((((((((((((P ∧ (lw4t_c12 x0 x1 x2 x3 f0 f1 f2 f3 = true)) ∧ lw4t_h19) ∧ lw4t_h2) ∧ lw4t_h7) ∧ lw4t_h3) ∧ lw4t_h3) ∧ lw4t_h6) ∧ lw4t_h3) ∧ lw4t_h2) ∧ lw4t_h7) ∧ lw4t_h4) ∧ lw4t_h3) ∧ lw4t_h4) ∧ lw4t_h4) ∧ lw4t_h2) ∧ lw4t_h7) ∧ lw4t_h6) ∧ lw4t_h3) ∧ lw4t_h3) ∧ lw4t_h6) ∧ lw4t_h0) ∧ lw4t_h35) ∧ lw4t_h35) ∧ lw4t_h3) ∧ lw4t_h6) ∧ lw4t_h35) ∧ lw4t_h35)
theorem lw4t_z12_h {P : Prop} (h : P) (x0 x1 x2 x3 f0 f1 f2 f3 : Int) (hpre : True) (k0 : (lw4t_c12 x0 x1 x2 x3 f0 f1 f2 f3 = true)) : lw4t_z12 P x0 x1 x2 x3 f0 f1 f2 f3 := ⟨⟨⟨⟨⟨⟨⟨⟨⟨⟨⟨⟨⟨⟨⟨⟨⟨⟨⟨⟨⟨⟨⟨⟨⟨⟨⟨h, k0⟩, lw4t_g19⟩, lw4t_g2⟩, lw4t_g7⟩, lw4t_g3⟩, lw4t_g3⟩, lw4t_g6⟩, lw4t_g3⟩, lw4t_g2⟩, lw4t_g7⟩, lw4t_g4⟩, lw4t_g3⟩, lw4t_g4⟩, lw4t_g4⟩, lw4t_g2⟩, lw4t_g7⟩, lw4t_g6⟩, lw4t_g3⟩, lw4t_g3⟩, lw4t_g6⟩, lw4t_g0⟩, lw4t_g35⟩, lw4t_g35⟩, lw4t_g3⟩, lw4t_g6⟩, lw4t_g35⟩, lw4t_g35⟩
def lw4t_z13 (P : Prop) (x0 x1 x2 x3 f0 f1 f2 f3 : Int) : Prop := (P ∧ (lw4t_c15 x0 x1 x2 x3 f0 f1 f2 f3 = false))
theorem lw4t_z13_h {P : Prop} (h : P) (x0 x1 x2 x3 f0 f1 f2 f3 : Int) (hpre : True) (k0 : (lw4t_c15 x0 x1 x2 x3 f0 f1 f2 f3 = false)) : lw4t_z13 P x0 x1 x2 x3 f0 f1 f2 f3 := ⟨h, k0⟩
def lw4t_z14 (P : Prop) (x0 x1 x2 x3 f0 f1 f2 f3 : Int) : Prop := (((((P ∧ (lw4t_c13 x0 x1 x2 x3 f0 f1 f2 f3 = false)) ∧ lw4t_h2) ∧ lw4t_h6) ∧ lw4t_h3) ∧ lw4t_h6)
theorem lw4t_z14_h {P : Prop} (h : P) (x0 x1 x2 x3 f0 f1 f2 f3 : Int) (hpre : True) (k0 : (lw4t_c13 x0 x1 x2 x3 f0 f1 f2 f3 = false)) : lw4t_z14 P x0 x1 x2 x3 f0 f1 f2 f3 := ⟨⟨⟨⟨⟨h, k0⟩, lw4t_g2⟩, lw4t_g6⟩, lw4t_g3⟩, lw4t_g6⟩
def lw4t_z15 (P : Prop) (x0 x1 x2 x3 f0 f1 f2 f3 : Int) : Prop := (((((((P ∧ (lw4t_c16 x0 x1 x2 x3 f0 f1 f2 f3 = true)) ∧ lw4t_h0) ∧ lw4t_h0) ∧ lw4t_h0) ∧ lw4t_h0) ∧ lw4t_h39) ∧ lw4t_h2)
theorem lw4t_z15_h {P : Prop} (h : P) (x0 x1 x2 x3 f0 f1 f2 f3 : Int) (hpre : True) (k0 : (lw4t_c16 x0 x1 x2 x3 f0 f1 f2 f3 = true)) : lw4t_z15 P x0 x1 x2 x3 f0 f1 f2 f3 := ⟨⟨⟨⟨⟨⟨⟨h, k0⟩, lw4t_g0⟩, lw4t_g0⟩, lw4t_g0⟩, lw4t_g0⟩, lw4t_g39⟩, lw4t_g2⟩
def lw4t_z16 (P : Prop) (x0 x1 x2 x3 f0 f1 f2 f3 : Int) : Prop := (((((((P ∧ (lw4t_c14 x0 x1 x2 x3 f0 f1 f2 f3 = true)) ∧ (lw4t_c14 x0 x1 x2 x3 f0 f1 f2 f3 = true)) ∧ (lw4t_c14 x0 x1 x2 x3 f0 f1 f2 f3 = true)) ∧ lw4t_h7) ∧ (lw4t_c14 x0 x1 x2 x3 f0 f1 f2 f3 = true)) ∧ (lw4t_c14 x0 x1 x2 x3 f0 f1 f2 f3 = true)) ∧ (lw4t_c14 x0 x1 x2 x3 f0 f1 f2 f3 = true))
theorem lw4t_z16_h {P : Prop} (h : P) (x0 x1 x2 x3 f0 f1 f2 f3 : Int) (hpre : True) (k0 : (lw4t_c14 x0 x1 x2 x3 f0 f1 f2 f3 = true)) : lw4t_z16 P x0 x1 x2 x3 f0 f1 f2 f3 := ⟨⟨⟨⟨⟨⟨⟨h, k0⟩, k0⟩, k0⟩, lw4t_g7⟩, k0⟩, k0⟩, k0⟩
def lw4t_z17 (P : Prop) (x0 x1 x2 x3 f0 f1 f2 f3 : Int) : Prop := ((((((((((((((((((((P ∧ (lw4t_c15 x0 x1 x2 x3 f0 f1 f2 f3 = true)) ∧ lw4t_h19) ∧ lw4t_h2) ∧ lw4t_h6) ∧ lw4t_h3) ∧ lw4t_h3) ∧ lw4t_h4) ∧ lw4t_h3) ∧ lw4t_h2) ∧ lw4t_h6) ∧ lw4t_h4) ∧ lw4t_h3) ∧ lw4t_h3) ∧ lw4t_h4) ∧ lw4t_h0) ∧ lw4t_h42) ∧ lw4t_h42) ∧ lw4t_h42) ∧ lw4t_h42) ∧ lw4t_h0)
theorem lw4t_z17_h {P : Prop} (h : P) (x0 x1 x2 x3 f0 f1 f2 f3 : Int) (hpre : True) (k0 : (lw4t_c15 x0 x1 x2 x3 f0 f1 f2 f3 = true)) : lw4t_z17 P x0 x1 x2 x3 f0 f1 f2 f3 := ⟨⟨⟨⟨⟨⟨⟨⟨⟨⟨⟨⟨⟨⟨⟨⟨⟨⟨⟨⟨h, k0⟩, lw4t_g19⟩, lw4t_g2⟩, lw4t_g6⟩, lw4t_g3⟩, lw4t_g3⟩, lw4t_g4⟩, lw4t_g3⟩, lw4t_g2⟩, lw4t_g6⟩, lw4t_g4⟩, lw4t_g3⟩, lw4t_g3⟩, lw4t_g4⟩, lw4t_g0⟩, lw4t_g42⟩, lw4t_g42⟩, lw4t_g42⟩, lw4t_g42⟩, lw4t_g0⟩
def lw4t_z18 (P : Prop) (x0 x1 x2 x3 f0 f1 f2 f3 : Int) : Prop := (((((P ∧ (lw4t_c16 x0 x1 x2 x3 f0 f1 f2 f3 = false)) ∧ lw4t_h2) ∧ lw4t_h7) ∧ lw4t_h3) ∧ lw4t_h4)
theorem lw4t_z18_h {P : Prop} (h : P) (x0 x1 x2 x3 f0 f1 f2 f3 : Int) (hpre : True) (k0 : (lw4t_c16 x0 x1 x2 x3 f0 f1 f2 f3 = false)) : lw4t_z18 P x0 x1 x2 x3 f0 f1 f2 f3 := ⟨⟨⟨⟨⟨h, k0⟩, lw4t_g2⟩, lw4t_g7⟩, lw4t_g3⟩, lw4t_g4⟩
def lw4t_z19 (P : Prop) (x0 x1 x2 x3 f0 f1 f2 f3 : Int) : Prop := (((((((P ∧ (lw4t_c17 x0 x1 x2 x3 f0 f1 f2 f3 = true)) ∧ lw4t_h0) ∧ lw4t_h0) ∧ lw4t_h0) ∧ lw4t_h0) ∧ (lw4t_c18 x0 x1 x2 x3 f0 f1 f2 f3 = false)) ∧ (lw4t_c19 x0 x1 x2 x3 f0 f1 f2 f3 = true))
theorem lw4t_z19_h {P : Prop} (h : P) (x0 x1 x2 x3 f0 f1 f2 f3 : Int) (hpre : True) (k0 : (lw4t_c17 x0 x1 x2 x3 f0 f1 f2 f3 = true)) (k1 : (lw4t_c18 x0 x1 x2 x3 f0 f1 f2 f3 = false)) (k2 : (lw4t_c19 x0 x1 x2 x3 f0 f1 f2 f3 = true)) : lw4t_z19 P x0 x1 x2 x3 f0 f1 f2 f3 := ⟨⟨⟨⟨⟨⟨⟨h, k0⟩, lw4t_g0⟩, lw4t_g0⟩, lw4t_g0⟩, lw4t_g0⟩, k1⟩, k2⟩
def lw4t_z20 (P : Prop) (x0 x1 x2 x3 f0 f1 f2 f3 : Int) : Prop := ((((((((((((((((((((((((((((((((((((((((((((((((((((((((((((((((((((((((((((((((((((((((((((((((((((((((((((((((((((((((((((((((((((((((((((((((((((((((((((((((((((((((((((((((((((((((((((((((((((((((((((((((((((((((((((((((((((((((((((((((((((((((((((((((((((((((((((((((((((((((((((((((((((((((((((((((((((((((((((((((P ∧ (lw4t_c17 x0 x1 x2 x3 f0 f1 f2 f3 = false)) ∧ lw4t_h0) ∧ lw4t_h0) ∧ lw4t_h0) ∧ lw4t_h0) ∧ lw4t_h0) ∧ (lw4t_c20 x0 x1 x2 x3 f0 f1 f2 f3 = false)) ∧ (lw4t_c19 x0 x1 x2 x3 f0 f1 f2 f3 = false)) ∧ lw4t_h0) ∧ lw4t_h8) ∧ lw4t_h2) ∧ lw4t_h3) ∧ (lw4t_c1 x0 x1 x2 x3 f0 f1 f2 f3 = false)) ∧ (lw4t_c1 x0 x1 x2 x3 f0 f1 f2 f3 = false)) ∧ (lw4t_c1 x0 x1 x2 x3 f0 f1 f2 f3 = false)) ∧ (lw4t_c1 x0 x1 x2 x3 f0 f1 f2 f3 = false)) ∧ (lw4t_c2 x0 x1 x2 x3 f0 f1 f2 f3 = false)) ∧ lw4t_h0) ∧ lw4t_h2) ∧ lw4t_h4) ∧ (lw4t_c3 x0 x1 x2 x3 f0 f1 f2 f3 = false)) ∧ (lw4t_c3 x0 x1 x2 x3 f0 f1 f2 f3 = false)) ∧ (lw4t_c3 x0 x1 x2 x3 f0 f1 f2 f3 = false)) ∧ (lw4t_c3 x0 x1 x2 x3 f0 f1 f2 f3 = false)) ∧ (lw4t_c4 x0 x1 x2 x3 f0 f1 f2 f3 = false)) ∧ lw4t_h0) ∧ lw4t_h2) ∧ lw4t_h6) ∧ (lw4t_c5 x0 x1 x2 x3 f0 f1 f2 f3 = false)) ∧ (lw4t_c5 x0 x1 x2 x3 f0 f1 f2 f3 = false)) ∧ (lw4t_c5 x0 x1 x2 x3 f0 f1 f2 f3 = false)) ∧ (lw4t_c5 x0 x1 x2 x3 f0 f1 f2 f3 = false)) ∧ (lw4t_c6 x0 x1 x2 x3 f0 f1 f2 f3 = false)) ∧ lw4t_h0) ∧ lw4t_h2) ∧ lw4t_h7) ∧ (lw4t_c7 x0 x1 x2 x3 f0 f1 f2 f3 = false)) ∧ (lw4t_c7 x0 x1 x2 x3 f0 f1 f2 f3 = false)) ∧ (lw4t_c7 x0 x1 x2 x3 f0 f1 f2 f3 = false)) ∧ (lw4t_c7 x0 x1 x2 x3 f0 f1 f2 f3 = false)) ∧ (lw4t_c8 x0 x1 x2 x3 f0 f1 f2 f3 = false)) ∧ lw4t_h0) ∧ lw4t_h2) ∧ lw4t_h17) ∧ lw4t_h0) ∧ lw4t_h0) ∧ lw4t_h0) ∧ lw4t_h0) ∧ lw4t_h18) ∧ lw4t_h0) ∧ lw4t_h0) ∧ lw4t_h0) ∧ lw4t_h17) ∧ lw4t_h0) ∧ lw4t_h0) ∧ lw4t_h0) ∧ lw4t_h2) ∧ lw4t_h3) ∧ (lw4t_c21 x0 x1 x2 x3 f0 f1 f2 f3 = false)) ∧ (lw4t_c21 x0 x1 x2 x3 f0 f1 f2 f3 = false)) ∧ (lw4t_c21 x0 x1 x2 x3 f0 f1 f2 f3 = false)) ∧ (lw4t_c21 x0 x1 x2 x3 f0 f1 f2 f3 = false)) ∧ (lw4t_c22 x0 x1 x2 x3 f0 f1 f2 f3 = false)) ∧ lw4t_h0) ∧ lw4t_h2) ∧ lw4t_h4) ∧ (lw4t_c23 x0 x1 x2 x3 f0 f1 f2 f3 = false)) ∧ (lw4t_c23 x0 x1 x2 x3 f0 f1 f2 f3 = false)) ∧ (lw4t_c23 x0 x1 x2 x3 f0 f1 f2 f3 = false)) ∧ (lw4t_c23 x0 x1 x2 x3 f0 f1 f2 f3 = false)) ∧ (lw4t_c24 x0 x1 x2 x3 f0 f1 f2 f3 = false)) ∧ lw4t_h0) ∧ lw4t_h2) ∧ lw4t_h6) ∧ (lw4t_c25 x0 x1 x2 x3 f0 f1 f2 f3 = false)) ∧ (lw4t_c25 x0 x1 x2 x3 f0 f1 f2 f3 = false)) ∧ (lw4t_c25 x0 x1 x2 x3 f0 f1 f2 f3 = false)) ∧ (lw4t_c25 x0 x1 x2 x3 f0 f1 f2 f3 = false)) ∧ (lw4t_c26 x0 x1 x2 x3 f0 f1 f2 f3 = false)) ∧ lw4t_h0) ∧ lw4t_h2) ∧ lw4t_h7) ∧ (lw4t_c27 x0 x1 x2 x3 f0 f1 f2 f3 = false)) ∧ (lw4t_c27 x0 x1 x2 x3 f0 f1 f2 f3 = false)) ∧ (lw4t_c27 x0 x1 x2 x3 f0 f1 f2 f3 = false)) ∧ (lw4t_c27 x0 x1 x2 x3 f0 f1 f2 f3 = false)) ∧ (lw4t_c28 x0 x1 x2 x3 f0 f1 f2 f3 = false)) ∧ lw4t_h0) ∧ lw4t_h0) ∧ lw4t_h0) ∧ lw4t_h0) ∧ lw4t_h0) ∧ lw4t_h0) ∧ lw4t_h58) ∧ lw4t_h2) ∧ lw4t_h3) ∧ lw4t_h0) ∧ lw4t_h2) ∧ lw4t_h4) ∧ lw4t_h0) ∧ lw4t_h2) ∧ lw4t_h6) ∧ lw4t_h0) ∧ lw4t_h0) ∧ lw4t_h0) ∧ lw4t_h2) ∧ lw4t_h3) ∧ lw4t_h17) ∧ lw4t_h0) ∧ lw4t_h3) ∧ lw4t_h2) ∧ lw4t_h4) ∧ lw4t_h17) ∧ lw4t_h2) ∧ lw4t_h0) ∧ lw4t_h4) ∧ lw4t_h2) ∧ lw4t_h6) ∧ lw4t_h17) ∧ lw4t_h2) ∧ lw4t_h2) ∧ lw4t_h0) ∧ lw4t_h6) ∧ lw4t_h2) ∧ lw4t_h7) ∧ lw4t_h17) ∧ lw4t_h2) ∧ lw4t_h2) ∧ lw4t_h2) ∧ lw4t_h0) ∧ lw4t_h7) ∧ lw4t_h0) ∧ lw4t_h2) ∧ lw4t_h3) ∧ lw4t_h17) ∧ lw4t_h2) ∧ lw4t_h2) ∧ lw4t_h2) ∧ lw4t_h0) ∧ lw4t_h3) ∧ lw4t_h2) ∧ lw4t_h4) ∧ lw4t_h17) ∧ lw4t_h2) ∧ lw4t_h2) ∧ lw4t_h0) ∧ lw4t_h4) ∧ lw4t_h2) ∧ lw4t_h6) ∧ lw4t_h17) ∧ lw4t_h2) ∧ lw4t_h0) ∧ lw4t_h6) ∧ lw4t_h2) ∧ lw4t_h7) ∧ lw4t_h17) ∧ lw4t_h0) ∧ lw4t_h7) ∧ lw4t_h0) ∧ lw4t_h2) ∧ lw4t_h3) ∧ lw4t_h3) ∧ lw4t_h2) ∧ lw4t_h4) ∧ lw4t_h4) ∧ lw4t_h2) ∧ lw4t_h6) ∧ lw4t_h6) ∧ lw4t_h2) ∧ lw4t_h7) ∧ lw4t_h7) ∧ lw4t_h0) ∧ lw4t_h2) ∧ lw4t_h2) ∧ lw4t_h3) ∧ lw4t_h3) ∧ lw4t_h2) ∧ lw4t_h4) ∧ lw4t_h4) ∧ lw4t_h2) ∧ lw4t_h6) ∧ lw4t_h6) ∧ lw4t_h2) ∧ lw4t_h7) ∧ lw4t_h7) ∧ lw4t_h0) ∧ (lw4t_c29 x0 x1 x2 x3 f0 f1 f2 f3 = false)) ∧ (lw4t_c29 x0 x1 x2 x3 f0 f1 f2 f3 = false)) ∧ (lw4t_c29 x0 x1 x2 x3 f0 f1 f2 f3 = false)) ∧ (lw4t_c29 x0 x1 x2 x3 f0 f1 f2 f3 = false)) ∧ (lw4t_c30 x0 x1 x2 x3 f0 f1 f2 f3 = false)) ∧ lw4t_h0) ∧ lw4t_h2) ∧ lw4t_h2) ∧ lw4t_h3) ∧ lw4t_h4) ∧ lw4t_h2) ∧ lw4t_h4) ∧ lw4t_h6) ∧ lw4t_h2) ∧ lw4t_h6) ∧ lw4t_h7) ∧ lw4t_h2) ∧ lw4t_h7) ∧ lw4t_h17) ∧ lw4t_h0) ∧ (lw4t_c31 x0 x1 x2 x3 f0 f1 f2 f3 = false)) ∧ (lw4t_c31 x0 x1 x2 x3 f0 f1 f2 f3 = false)) ∧ (lw4t_c31 x0 x1 x2 x3 f0 f1 f2 f3 = false)) ∧ (lw4t_c31 x0 x1 x2 x3 f0 f1 f2 f3 = false)) ∧ (lw4t_c32 x0 x1 x2 x3 f0 f1 f2 f3 = false)) ∧ lw4t_h0) ∧ lw4t_h2) ∧ lw4t_h2) ∧ lw4t_h3) ∧ lw4t_h6) ∧ lw4t_h2) ∧ lw4t_h4) ∧ lw4t_h7) ∧ lw4t_h2) ∧ lw4t_h6) ∧ lw4t_h17) ∧ lw4t_h2) ∧ lw4t_h7) ∧ lw4t_h63) ∧ lw4t_h0) ∧ (lw4t_c33 x0 x1 x2 x3 f0 f1 f2 f3 = false)) ∧ (lw4t_c33 x0 x1 x2 x3 f0 f1 f2 f3 = false)) ∧ (lw4t_c33 x0 x1 x2 x3 f0 f1 f2 f3 = false)) ∧ (lw4t_c33 x0 x1 x2 x3 f0 f1 f2 f3 = false)) ∧ (lw4t_c34 x0 x1 x2 x3 f0 f1 f2 f3 = false)) ∧ lw4t_h0) ∧ lw4t_h2) ∧ lw4t_h2) ∧ lw4t_h3) ∧ lw4t_h7) ∧ lw4t_h2) ∧ lw4t_h4) ∧ lw4t_h17) ∧ lw4t_h2) ∧ lw4t_h6) ∧ lw4t_h63) ∧ lw4t_h2) ∧ lw4t_h7) ∧ lw4t_h66) ∧ lw4t_h0) ∧ (lw4t_c35 x0 x1 x2 x3 f0 f1 f2 f3 = false)) ∧ (lw4t_c35 x0 x1 x2 x3 f0 f1 f2 f3 = false)) ∧ (lw4t_c35 x0 x1 x2 x3 f0 f1 f2 f3 = false)) ∧ (lw4t_c35 x0 x1 x2 x3 f0 f1 f2 f3 = false)) ∧ (lw4t_c36 x0 x1 x2 x3 f0 f1 f2 f3 = false)) ∧ lw4t_h0) ∧ lw4t_h2) ∧ lw4t_h2) ∧ lw4t_h3) ∧ lw4t_h17) ∧ lw4t_h2) ∧ lw4t_h4) ∧ lw4t_h63) ∧ lw4t_h2) ∧ lw4t_h6) ∧ lw4t_h66) ∧ lw4t_h2) ∧ lw4t_h7) ∧ lw4t_h69) ∧ lw4t_h0) ∧ (lw4t_c37 x0 x1 x2 x3 f0 f1 f2 f3 = false)) ∧ (lw4t_c37 x0 x1 x2 x3 f0 f1 f2 f3 = false)) ∧ (lw4t_c37 x0 x1 x2 x3 f0 f1 f2 f3 = false)) ∧ (lw4t_c37 x0 x1 x2 x3 f0 f1 f2 f3 = false)) ∧ (lw4t_c38 x0 x1 x2 x3 f0 f1 f2 f3 = false)) ∧ lw4t_h0) ∧ lw4t_h2) ∧ lw4t_h2) ∧ lw4t_h3) ∧ lw4t_h63) ∧ lw4t_h2) ∧ lw4t_h4) ∧ lw4t_h66) ∧ lw4t_h2) ∧ lw4t_h6) ∧ lw4t_h69) ∧ lw4t_h2) ∧ lw4t_h7) ∧ lw4t_h72) ∧ lw4t_h0) ∧ (lw4t_c39 x0 x1 x2 x3 f0 f1 f2 f3 = false)) ∧ (lw4t_c39 x0 x1 x2 x3 f0 f1 f2 f3 = false)) ∧ (lw4t_c39 x0 x1 x2 x3 f0 f1 f2 f3 = false)) ∧ (lw4t_c39 x0 x1 x2 x3 f0 f1 f2 f3 = false)) ∧ (lw4t_c40 x0 x1 x2 x3 f0 f1 f2 f3 = false)) ∧ lw4t_h0) ∧ lw4t_h0) ∧ lw4t_h0) ∧ lw4t_h0) ∧ lw4t_h0) ∧ lw4t_h0) ∧ lw4t_h0) ∧ lw4t_h0) ∧ lw4t_h0) ∧ lw4t_h0) ∧ lw4t_h2) ∧ lw4t_h3) ∧ (lw4t_c41 x0 x1 x2 x3 f0 f1 f2 f3 = false)) ∧ lw4t_h2) ∧ lw4t_h4) ∧ (lw4t_c42 x0 x1 x2 x3 f0 f1 f2 f3 = false)) ∧ lw4t_h2) ∧ lw4t_h6) ∧ (lw4t_c43 x0 x1 x2 x3 f0 f1 f2 f3 = false)) ∧ lw4t_h2) ∧ lw4t_h7) ∧ (lw4t_c44 x0 x1 x2 x3 f0 f1 f2 f3 = false)) ∧ lw4t_h2) ∧ lw4t_h17) ∧ (lw4t_c45 x0 x1 x2 x3 f0 f1 f2 f3 = false)) ∧ lw4t_h2) ∧ lw4t_h63) ∧ (lw4t_c46 x0 x1 x2 x3 f0 f1 f2 f3 = false)) ∧ lw4t_h0)
theorem lw4t_z20_h {P : Prop} (h : P) (x0 x1 x2 x3 f0 f1 f2 f3 : Int) (hpre : True) (k0 : (lw4t_c17 x0 x1 x2 x3 f0 f1 f2 f3 = false)) (k1 : (lw4t_c20 x0 x1 x2 x3 f0 f1 f2 f3 = false)) (k2 : (lw4t_c19 x0 x1 x2 x3 f0 f1 f2 f3 = false)) (k3 : (lw4t_c33 x0 x1 x2 x3 f0 f1 f2 f3 = false)) (k4 : (lw4t_c34 x0 x1 x2 x3 f0 f1 f2 f3 = false)) (k5 : (lw4t_c35 x0 x1 x2 x3 f0 f1 f2 f3 = false)) (k6 : (lw4t_c36 x0 x1 x2 x3 f0 f1 f2 f3 = false)) (k7 : (lw4t_c37 x0 x1 x2 x3 f0 f1 f2 f3 = false)) (k8 : (lw4t_c38 x0 x1 x2 x3 f0 f1 f2 f3 = false)) (k9 : (lw4t_c39 x0 x1 x2 x3 f0 f1 f2 f3 = false)) (k10 : (lw4t_c40 x0 x1 x2 x3 f0 f1 f2 f3 = false)) (k11 : (lw4t_c41 x0 x1 x2 x3 f0 f1 f2 f3 = false)) (k12 : (lw4t_c42 x0 x1 x2 x3 f0 f1 f2 f3 = false)) (k13 : (lw4t_c43 x0 x1 x2 x3 f0 f1 f2 f3 = false)) (k14 : (lw4t_c44 x0 x1 x2 x3 f0 f1 f2 f3 = false)) (k15 : (lw4t_c45 x0 x1 x2 x3 f0 f1 f2 f3 = false)) (k16 : (lw4t_c46 x0 x1 x2 x3 f0 f1 f2 f3 = false)) : lw4t_z20 P x0 x1 x2 x3 f0 f1 f2 f3 := ⟨⟨⟨⟨⟨⟨⟨⟨⟨⟨⟨⟨⟨⟨⟨⟨⟨⟨⟨⟨⟨⟨⟨⟨⟨⟨⟨⟨⟨⟨⟨⟨⟨⟨⟨⟨⟨⟨⟨⟨⟨⟨⟨⟨⟨⟨⟨⟨⟨⟨⟨⟨⟨⟨⟨⟨⟨⟨⟨⟨⟨⟨⟨⟨⟨⟨⟨⟨⟨⟨⟨⟨⟨⟨⟨⟨⟨⟨⟨⟨⟨⟨⟨⟨⟨⟨⟨⟨⟨⟨⟨⟨⟨⟨⟨⟨⟨⟨⟨⟨⟨⟨⟨⟨⟨⟨⟨⟨⟨⟨⟨⟨⟨⟨⟨⟨⟨⟨⟨⟨⟨⟨⟨⟨⟨⟨⟨⟨⟨⟨⟨⟨⟨⟨⟨⟨⟨⟨⟨⟨⟨⟨⟨⟨⟨⟨⟨⟨⟨⟨⟨⟨⟨⟨⟨⟨⟨⟨⟨⟨⟨⟨⟨⟨⟨⟨⟨⟨⟨⟨⟨⟨⟨⟨⟨⟨⟨⟨⟨⟨⟨⟨⟨⟨⟨⟨⟨⟨⟨⟨⟨⟨⟨⟨⟨⟨⟨⟨⟨⟨⟨⟨⟨⟨⟨⟨⟨⟨⟨⟨⟨⟨⟨⟨⟨⟨⟨⟨⟨⟨⟨⟨⟨⟨⟨⟨⟨⟨⟨⟨⟨⟨⟨⟨⟨⟨⟨⟨⟨⟨⟨⟨⟨⟨⟨⟨⟨⟨⟨⟨⟨⟨⟨⟨⟨⟨⟨⟨⟨⟨⟨⟨⟨⟨⟨⟨⟨⟨⟨⟨⟨⟨⟨⟨⟨⟨⟨⟨⟨⟨⟨⟨⟨⟨⟨⟨⟨⟨⟨⟨⟨⟨⟨⟨⟨⟨⟨⟨⟨⟨⟨⟨⟨⟨⟨⟨⟨⟨⟨⟨⟨⟨⟨⟨⟨⟨⟨⟨⟨⟨h, k0⟩, lw4t_g0⟩, lw4t_g0⟩, lw4t_g0⟩, lw4t_g0⟩, lw4t_g0⟩, k1⟩, k2⟩, lw4t_g0⟩, lw4t_g8⟩, lw4t_g2⟩, lw4t_g3⟩, (lw4t_c1_ff x0 x1 x2 x3 f0 f1 f2 f3 hpre)⟩, (lw4t_c1_ff x0 x1 x2 x3 f0 f1 f2 f3 hpre)⟩, (lw4t_c1_ff x0 x1 x2 x3 f0 f1 f2 f3 hpre)⟩, (lw4t_c1_ff x0 x1 x2 x3 f0 f1 f2 f3 hpre)⟩, (lw4t_c2_ff x0 x1 x2 x3 f0 f1 f2 f3 hpre)⟩, lw4t_g0⟩, lw4t_g2⟩, lw4t_g4⟩, (lw4t_c3_ff x0 x1 x2 x3 f0 f1 f2 f3 hpre)⟩, (lw4t_c3_ff x0 x1 x2 x3 f0 f1 f2 f3 hpre)⟩, (lw4t_c3_ff x0 x1 x2 x3 f0 f1 f2 f3 hpre)⟩, (lw4t_c3_ff x0 x1 x2 x3 f0 f1 f2 f3 hpre)⟩, (lw4t_c4_ff x0 x1 x2 x3 f0 f1 f2 f3 hpre)⟩, lw4t_g0⟩, lw4t_g2⟩, lw4t_g6⟩, (lw4t_c5_ff x0 x1 x2 x3 f0 f1 f2 f3 hpre)⟩, (lw4t_c5_ff x0 x1 x2 x3 f0 f1 f2 f3 hpre)⟩, (lw4t_c5_ff x0 x1 x2 x3 f0 f1 f2 f3 hpre)⟩, (lw4t_c5_ff x0 x1 x2 x3 f0 f1 f2 f3 hpre)⟩, (lw4t_c6_ff x0 x1 x2 x3 f0 f1 f2 f3 hpre)⟩, lw4t_g0⟩, lw4t_g2⟩, lw4t_g7⟩, (lw4t_c7_ff x0 x1 x2 x3 f0 f1 f2 f3 hpre)⟩, (lw4t_c7_ff x0 x1 x2 x3 f0 f1 f2 f3 hpre)⟩, (lw4t_c7_ff x0 x1 x2 x3 f0 f1 f2 f3 hpre)⟩, (lw4t_c7_ff x0 x1 x2 x3 f0 f1 f2 f3 hpre)⟩, (lw4t_c8_ff x0 x1 x2 x3 f0 f1 f2 f3 hpre)⟩, lw4t_g0⟩, lw4t_g2⟩, lw4t_g17⟩, lw4t_g0⟩, lw4t_g0⟩, lw4t_g0⟩, lw4t_g0⟩, lw4t_g18⟩, lw4t_g0⟩, lw4t_g0⟩, lw4t_g0⟩, lw4t_g17⟩, lw4t_g0⟩, lw4t_g0⟩, lw4t_g0⟩, lw4t_g2⟩, lw4t_g3⟩, (lw4t_c21_ff x0 x1 x2 x3 f0 f1 f2 f3 hpre)⟩, (lw4t_c21_ff x0 x1 x2 x3 f0 f1 f2 f3 hpre)⟩, (lw4t_c21_ff x0 x1 x2 x3 f0 f1 f2 f3 hpre)⟩, (lw4t_c21_ff x0 x1 x2 x3 f0 f1 f2 f3 hpre)⟩, (lw4t_c22_ff x0 x1 x2 x3 f0 f1 f2 f3 hpre)⟩, lw4t_g0⟩, lw4t_g2⟩, lw4t_g4⟩, (lw4t_c23_ff x0 x1 x2 x3 f0 f1 f2 f3 hpre)⟩, (lw4t_c23_ff x0 x1 x2 x3 f0 f1 f2 f3 hpre)⟩, (lw4t_c23_ff x0 x1 x2 x3 f0 f1 f2 f3 hpre)⟩, (lw4t_c23_ff x0 x1 x2 x3 f0 f1 f2 f3 hpre)⟩, (lw4t_c24_ff x0 x1 x2 x3 f0 f1 f2 f3 hpre)⟩, lw4t_g0⟩, lw4t_g2⟩, lw4t_g6⟩, (lw4t_c25_ff x0 x1 x2 x3 f0 f1 f2 f3 hpre)⟩, (lw4t_c25_ff x0 x1 x2 x3 f0 f1 f2 f3 hpre)⟩, (lw4t_c25_ff x0 x1 x2 x3 f0 f1 f2 f3 hpre)⟩, (lw4t_c25_ff x0 x1 x2 x3 f0 f1 f2 f3 hpre)⟩, (lw4t_c26_ff x0 x1 x2 x3 f0 f1 f2 f3 hpre)⟩, lw4t_g0⟩, lw4t_g2⟩, lw4t_g7⟩, (lw4t_c27_ff x0 x1 x2 x3 f0 f1 f2 f3 hpre)⟩, (lw4t_c27_ff x0 x1 x2 x3 f0 f1 f2 f3 hpre)⟩, (lw4t_c27_ff x0 x1 x2 x3 f0 f1 f2 f3 hpre)⟩, (lw4t_c27_ff x0 x1 x2 x3 f0 f1 f2 f3 hpre)⟩, (lw4t_c28_ff x0 x1 x2 x3 f0 f1 f2 f3 hpre)⟩, lw4t_g0⟩, lw4t_g0⟩, lw4t_g0⟩, lw4t_g0⟩, lw4t_g0⟩, lw4t_g0⟩, lw4t_g58⟩, lw4t_g2⟩, lw4t_g3⟩, lw4t_g0⟩, lw4t_g2⟩, lw4t_g4⟩, lw4t_g0⟩, lw4t_g2⟩, lw4t_g6⟩, lw4t_g0⟩, lw4t_g0⟩, lw4t_g0⟩, lw4t_g2⟩, lw4t_g3⟩, lw4t_g17⟩, lw4t_g0⟩, lw4t_g3⟩, lw4t_g2⟩, lw4t_g4⟩, lw4t_g17⟩, lw4t_g2⟩, lw4t_g0⟩, lw4t_g4⟩, lw4t_g2⟩, lw4t_g6⟩, lw4t_g17⟩, lw4t_g2⟩, lw4t_g2⟩, lw4t_g0⟩, lw4t_g6⟩, lw4t_g2⟩, lw4t_g7⟩, lw4t_g17⟩, lw4t_g2⟩, lw4t_g2⟩, lw4t_g2⟩, lw4t_g0⟩, lw4t_g7⟩, lw4t_g0⟩, lw4t_g2⟩, lw4t_g3⟩, lw4t_g17⟩, lw4t_g2⟩, lw4t_g2⟩, lw4t_g2⟩, lw4t_g0⟩, lw4t_g3⟩, lw4t_g2⟩, lw4t_g4⟩, lw4t_g17⟩, lw4t_g2⟩, lw4t_g2⟩, lw4t_g0⟩, lw4t_g4⟩, lw4t_g2⟩, lw4t_g6⟩, lw4t_g17⟩, lw4t_g2⟩, lw4t_g0⟩, lw4t_g6⟩, lw4t_g2⟩, lw4t_g7⟩, lw4t_g17⟩, lw4t_g0⟩, lw4t_g7⟩, lw4t_g0⟩, lw4t_g2⟩, lw4t_g3⟩, lw4t_g3⟩, lw4t_g2⟩, lw4t_g4⟩, lw4t_g4⟩, lw4t_g2⟩, lw4t_g6⟩, lw4t_g6⟩, lw4t_g2⟩, lw4t_g7⟩, lw4t_g7⟩, lw4t_g0⟩, lw4t_g2⟩, lw4t_g2⟩, lw4t_g3⟩, lw4t_g3⟩, lw4t_g2⟩, lw4t_g4⟩, lw4t_g4⟩, lw4t_g2⟩, lw4t_g6⟩, lw4t_g6⟩, lw4t_g2⟩, lw4t_g7⟩, lw4t_g7⟩, lw4t_g0⟩, (lw4t_c29_ff x0 x1 x2 x3 f0 f1 f2 f3 hpre)⟩, (lw4t_c29_ff x0 x1 x2 x3 f0 f1 f2 f3 hpre)⟩, (lw4t_c29_ff x0 x1 x2 x3 f0 f1 f2 f3 hpre)⟩, (lw4t_c29_ff x0 x1 x2 x3 f0 f1 f2 f3 hpre)⟩, (lw4t_c30_ff x0 x1 x2 x3 f0 f1 f2 f3 hpre)⟩, lw4t_g0⟩, lw4t_g2⟩, lw4t_g2⟩, lw4t_g3⟩, lw4t_g4⟩, lw4t_g2⟩, lw4t_g4⟩, lw4t_g6⟩, lw4t_g2⟩, lw4t_g6⟩, lw4t_g7⟩, lw4t_g2⟩, lw4t_g7⟩, lw4t_g17⟩, lw4t_g0⟩, (lw4t_c31_ff x0 x1 x2 x3 f0 f1 f2 f3 hpre)⟩, (lw4t_c31_ff x0 x1 x2 x3 f0 f1 f2 f3 hpre)⟩, (lw4t_c31_ff x0 x1 x2 x3 f0 f1 f2 f3 hpre)⟩, (lw4t_c31_ff x0 x1 x2 x3 f0 f1 f2 f3 hpre)⟩, (lw4t_c32_ff x0 x1 x2 x3 f0 f1 f2 f3 hpre)⟩, lw4t_g0⟩, lw4t_g2⟩, lw4t_g2⟩, lw4t_g3⟩, lw4t_g6⟩, lw4t_g2⟩, lw4t_g4⟩, lw4t_g7⟩, lw4t_g2⟩, lw4t_g6⟩, lw4t_g17⟩, lw4t_g2⟩, lw4t_g7⟩, lw4t_g63⟩, lw4t_g0⟩, k3⟩, k3⟩, k3⟩, k3⟩, k4⟩, lw4t_g0⟩, lw4t_g2⟩, lw4t_g2⟩, lw4t_g3⟩, lw4t_g7⟩, lw4t_g2⟩, lw4t_g4⟩, lw4t_g17⟩, lw4t_g2⟩, lw4t_g6⟩, lw4t_g63⟩, lw4t_g2⟩, lw4t_g7⟩, lw4t_g66⟩, lw4t_g0⟩, k5⟩, k5⟩, k5⟩, k5⟩, k6⟩, lw4t_g0⟩, lw4t_g2⟩, lw4t_g2⟩, lw4t_g3⟩, lw4t_g17⟩, lw4t_g2⟩, lw4t_g4⟩, lw4t_g63⟩, lw4t_g2⟩, lw4t_g6⟩, lw4t_g66⟩, lw4t_g2⟩, lw4t_g7⟩, lw4t_g69⟩, lw4t_g0⟩, k7⟩, k7⟩, k7⟩, k7⟩, k8⟩, lw4t_g0⟩, lw4t_g2⟩, lw4t_g2⟩, lw4t_g3⟩, lw4t_g63⟩, lw4t_g2⟩, lw4t_g4⟩, lw4t_g66⟩, lw4t_g2⟩, lw4t_g6⟩, lw4t_g69⟩, lw4t_g2⟩, lw4t_g7⟩, lw4t_g72⟩, lw4t_g0⟩, k9⟩, k9⟩, k9⟩, k9⟩, k10⟩, lw4t_g0⟩, lw4t_g0⟩, lw4t_g0⟩, lw4t_g0⟩, lw4t_g0⟩, lw4t_g0⟩, lw4t_g0⟩, lw4t_g0⟩, lw4t_g0⟩, lw4t_g0⟩, lw4t_g2⟩, lw4t_g3⟩, k11⟩, lw4t_g2⟩, lw4t_g4⟩, k12⟩, lw4t_g2⟩, lw4t_g6⟩, k13⟩, lw4t_g2⟩, lw4t_g7⟩, k14⟩, lw4t_g2⟩, lw4t_g17⟩, k15⟩, lw4t_g2⟩, lw4t_g63⟩, k16⟩, lw4t_g0⟩
def lw4t_r0 (x0 x1 x2 x3 f0 f1 f2 f3 : Int) : Prop := (lw4t_z3 (lw4t_z2 (lw4t_z1 (lw4t_z0 True x0 x1 x2 x3 f0 f1 f2 f3) x0 x1 x2 x3 f0 f1 f2 f3) x0 x1 x2 x3 f0 f1 f2 f3) x0 x1 x2 x3 f0 f1 f2 f3)
theorem lw4t_o0 (x0 x1 x2 x3 f0 f1 f2 f3 : Int) (c : Nat) : obY (lw4t_e0 x0 x1 x2 x3 f0 f1 f2 f3 c) = lw4t_r0 x0 x1 x2 x3 f0 f1 f2 f3 := by kernel_rfl
theorem lw4t_g0_ (x0 x1 x2 x3 f0 f1 f2 f3 : Int) (c : Nat) : goodY (lw4t_e0 x0 x1 x2 x3 f0 f1 f2 f3 c) = true := by kernel_rfl
theorem lw4t_p0 (x0 x1 x2 x3 f0 f1 f2 f3 : Int) (c : Nat) (h : lw4t_r0 x0 x1 x2 x3 f0 f1 f2 f3) : ∃ s1 R, SndF Tryz.prog 3 #[.slice (some ⟨6, 0, none⟩) 4 c, .bool true, .agg #[.int .i16 f0, .int .i16 f1, .int .i16 f2, .int .i16 f3]] (aw3S0.push (.cells [.int .i8 x0, .int .i8 x1, .int .i8 x2, .int .i8 x3] 0 true 0 true)) (.bool true) s1 R 0 :=
  sndY (r := lw4t_e0 x0 x1 x2 x3 f0 f1 f2 f3 c) (by delta lw4t_e0; exact Eq.refl _) gfol lw4t_X (lw4t_g0_ x0 x1 x2 x3 f0 f1 f2 f3 c) ((lw4t_o0 x0 x1 x2 x3 f0 f1 f2 f3 c).symm ▸ h)
def lw4t_r1 (x0 x1 x2 x3 f0 f1 f2 f3 : Int) : Prop := (lw4t_z9 (lw4t_z8 (lw4t_z7 (lw4t_z6 (lw4t_z2 (lw4t_z5 (lw4t_z4 (lw4t_z0 True x0 x1 x2 x3 f0 f1 f2 f3) x0 x1 x2 x3 f0 f1 f2 f3) x0 x1 x2 x3 f0 f1 f2 f3) x0 x1 x2 x3 f0 f1 f2 f3) x0 x1 x2 x3 f0 f1 f2 f3) x0 x1 x2 x3 f0 f1 f2 f3) x0 x1 x2 x3 f0 f1 f2 f3) x0 x1 x2 x3 f0 f1 f2 f3)
theorem lw4t_o1 (x0 x1 x2 x3 f0 f1 f2 f3 : Int) (c : Nat) : obY (lw4t_e1 x0 x1 x2 x3 f0 f1 f2 f3 c) = lw4t_r1 x0 x1 x2 x3 f0 f1 f2 f3 := by kernel_rfl
theorem lw4t_g1_ (x0 x1 x2 x3 f0 f1 f2 f3 : Int) (c : Nat) : goodY (lw4t_e1 x0 x1 x2 x3 f0 f1 f2 f3 c) = true := by kernel_rfl
theorem lw4t_p1 (x0 x1 x2 x3 f0 f1 f2 f3 : Int) (c : Nat) (h : lw4t_r1 x0 x1 x2 x3 f0 f1 f2 f3) : ∃ s1 R, SndF Tryz.prog 3 #[.slice (some ⟨6, 0, none⟩) 4 c, .bool true, .agg #[.int .i16 f0, .int .i16 f1, .int .i16 f2, .int .i16 f3]] (aw3S0.push (.cells [.int .i8 x0, .int .i8 x1, .int .i8 x2, .int .i8 x3] 0 true 0 true)) (.bool true) s1 R 0 :=
  sndY (r := lw4t_e1 x0 x1 x2 x3 f0 f1 f2 f3 c) (by delta lw4t_e1; exact Eq.refl _) gfol lw4t_X (lw4t_g1_ x0 x1 x2 x3 f0 f1 f2 f3 c) ((lw4t_o1 x0 x1 x2 x3 f0 f1 f2 f3 c).symm ▸ h)
def lw4t_r2 (x0 x1 x2 x3 f0 f1 f2 f3 : Int) : Prop := (lw4t_z15 (lw4t_z14 (lw4t_z8 (lw4t_z13 (lw4t_z12 (lw4t_z6 (lw4t_z2 (lw4t_z11 (lw4t_z10 (lw4t_z4 (lw4t_z0 True x0 x1 x2 x3 f0 f1 f2 f3) x0 x1 x2 x3 f0 f1 f2 f3) x0 x1 x2 x3 f0 f1 f2 f3) x0 x1 x2 x3 f0 f1 f2 f3) x0 x1 x2 x3 f0 f1 f2 f3) x0 x1 x2 x3 f0 f1 f2 f3) x0 x1 x2 x3 f0 f1 f2 f3) x0 x1 x2 x3 f0 f1 f2 f3) x0 x1 x2 x3 f0 f1 f2 f3) x0 x1 x2 x3 f0 f1 f2 f3) x0 x1 x2 x3 f0 f1 f2 f3)
theorem lw4t_o2 (x0 x1 x2 x3 f0 f1 f2 f3 : Int) (c : Nat) : obY (lw4t_e2 x0 x1 x2 x3 f0 f1 f2 f3 c) = lw4t_r2 x0 x1 x2 x3 f0 f1 f2 f3 := by kernel_rfl
theorem lw4t_g2_ (x0 x1 x2 x3 f0 f1 f2 f3 : Int) (c : Nat) : goodY (lw4t_e2 x0 x1 x2 x3 f0 f1 f2 f3 c) = true := by kernel_rfl
theorem lw4t_p2 (x0 x1 x2 x3 f0 f1 f2 f3 : Int) (c : Nat) (h : lw4t_r2 x0 x1 x2 x3 f0 f1 f2 f3) : ∃ s1 R, SndF Tryz.prog 3 #[.slice (some ⟨6, 0, none⟩) 4 c, .bool true, .agg #[.int .i16 f0, .int .i16 f1, .int .i16 f2, .int .i16 f3]] (aw3S0.push (.cells [.int .i8 x0, .int .i8 x1, .int .i8 x2, .int .i8 x3] 0 true 0 true)) (.bool true) s1 R 0 :=
  sndY (r := lw4t_e2 x0 x1 x2 x3 f0 f1 f2 f3 c) (by delta lw4t_e2; exact Eq.refl _) gfol lw4t_X (lw4t_g2_ x0 x1 x2 x3 f0 f1 f2 f3 c) ((lw4t_o2 x0 x1 x2 x3 f0 f1 f2 f3 c).symm ▸ h)
def lw4t_r3 (x0 x1 x2 x3 f0 f1 f2 f3 : Int) : Prop := (lw4t_z19 (lw4t_z18 (lw4t_z14 (lw4t_z8 (lw4t_z17 (lw4t_z12 (lw4t_z6 (lw4t_z2 (lw4t_z16 (lw4t_z10 (lw4t_z4 (lw4t_z0 True x0 x1 x2 x3 f0 f1 f2 f3) x0 x1 x2 x3 f0 f1 f2 f3) x0 x1 x2 x3 f0 f1 f2 f3) x0 x1 x2 x3 f0 f1 f2 f3) x0 x1 x2 x3 f0 f1 f2 f3) x0 x1 x2 x3 f0 f1 f2 f3) x0 x1 x2 x3 f0 f1 f2 f3) x0 x1 x2 x3 f0 f1 f2 f3) x0 x1 x2 x3 f0 f1 f2 f3) x0 x1 x2 x3 f0 f1 f2 f3) x0 x1 x2 x3 f0 f1 f2 f3) x0 x1 x2 x3 f0 f1 f2 f3)
theorem lw4t_o3 (x0 x1 x2 x3 f0 f1 f2 f3 : Int) (c : Nat) : obY (lw4t_e3 x0 x1 x2 x3 f0 f1 f2 f3 c) = lw4t_r3 x0 x1 x2 x3 f0 f1 f2 f3 := by kernel_rfl
theorem lw4t_g3_ (x0 x1 x2 x3 f0 f1 f2 f3 : Int) (c : Nat) : goodY (lw4t_e3 x0 x1 x2 x3 f0 f1 f2 f3 c) = true := by kernel_rfl
theorem lw4t_p3 (x0 x1 x2 x3 f0 f1 f2 f3 : Int) (c : Nat) (h : lw4t_r3 x0 x1 x2 x3 f0 f1 f2 f3) : ∃ s1 R, SndF Tryz.prog 3 #[.slice (some ⟨6, 0, none⟩) 4 c, .bool true, .agg #[.int .i16 f0, .int .i16 f1, .int .i16 f2, .int .i16 f3]] (aw3S0.push (.cells [.int .i8 x0, .int .i8 x1, .int .i8 x2, .int .i8 x3] 0 true 0 true)) (.bool true) s1 R 0 :=
  sndY (r := lw4t_e3 x0 x1 x2 x3 f0 f1 f2 f3 c) (by delta lw4t_e3; exact Eq.refl _) gfol lw4t_X (lw4t_g3_ x0 x1 x2 x3 f0 f1 f2 f3 c) ((lw4t_o3 x0 x1 x2 x3 f0 f1 f2 f3 c).symm ▸ h)
def lw4t_r4 (x0 x1 x2 x3 f0 f1 f2 f3 : Int) : Prop := (lw4t_z20 (lw4t_z18 (lw4t_z14 (lw4t_z8 (lw4t_z17 (lw4t_z12 (lw4t_z6 (lw4t_z2 (lw4t_z16 (lw4t_z10 (lw4t_z4 (lw4t_z0 True x0 x1 x2 x3 f0 f1 f2 f3) x0 x1 x2 x3 f0 f1 f2 f3) x0 x1 x2 x3 f0 f1 f2 f3) x0 x1 x2 x3 f0 f1 f2 f3) x0 x1 x2 x3 f0 f1 f2 f3) x0 x1 x2 x3 f0 f1 f2 f3) x0 x1 x2 x3 f0 f1 f2 f3) x0 x1 x2 x3 f0 f1 f2 f3) x0 x1 x2 x3 f0 f1 f2 f3) x0 x1 x2 x3 f0 f1 f2 f3) x0 x1 x2 x3 f0 f1 f2 f3) x0 x1 x2 x3 f0 f1 f2 f3)
theorem lw4t_o4 (x0 x1 x2 x3 f0 f1 f2 f3 : Int) (c : Nat) : obY (lw4t_e4 x0 x1 x2 x3 f0 f1 f2 f3 c) = lw4t_r4 x0 x1 x2 x3 f0 f1 f2 f3 := by kernel_rfl
theorem lw4t_g4_ (x0 x1 x2 x3 f0 f1 f2 f3 : Int) (c : Nat) : goodY (lw4t_e4 x0 x1 x2 x3 f0 f1 f2 f3 c) = true := by kernel_rfl
theorem lw4t_p4 (x0 x1 x2 x3 f0 f1 f2 f3 : Int) (c : Nat) (h : lw4t_r4 x0 x1 x2 x3 f0 f1 f2 f3) : ∃ s1 R, SndF Tryz.prog 3 #[.slice (some ⟨6, 0, none⟩) 4 c, .bool true, .agg #[.int .i16 f0, .int .i16 f1, .int .i16 f2, .int .i16 f3]] (aw3S0.push (.cells [.int .i8 x0, .int .i8 x1, .int .i8 x2, .int .i8 x3] 0 true 0 true)) (.bool true) s1 R 0 :=
  sndY (r := lw4t_e4 x0 x1 x2 x3 f0 f1 f2 f3 c) (by delta lw4t_e4; exact Eq.refl _) gfol lw4t_X (lw4t_g4_ x0 x1 x2 x3 f0 f1 f2 f3 c) ((lw4t_o4 x0 x1 x2 x3 f0 f1 f2 f3 c).symm ▸ h)
theorem lw4t_any (x0 x1 x2 x3 f0 f1 f2 f3 : Int) (c : Nat) (hpre : True) : ∃ s1 R, SndF Tryz.prog 3 #[.slice (some ⟨6, 0, none⟩) 4 c, .bool true, .agg #[.int .i16 f0, .int .i16 f1, .int .i16 f2, .int .i16 f3]] (aw3S0.push (.cells [.int .i8 x0, .int .i8 x1, .int .i8 x2, .int .i8 x3] 0 true 0 true)) (.bool true) s1 R 0 := by
  rcases Bool.eq_false_or_eq_true (lw4t_c0 x0 x1 x2 x3 f0 f1 f2 f3) with h0 | h0
  ·
    rcases Bool.eq_false_or_eq_true (lw4t_c11 x0 x1 x2 x3 f0 f1 f2 f3) with h1 | h1
    ·
      rcases Bool.eq_false_or_eq_true (lw4t_c14 x0 x1 x2 x3 f0 f1 f2 f3) with h2 | h2
      ·
        have h3 : (lw4t_c1 x0 x1 x2 x3 f0 f1 f2 f3 = false) := lw4t_c1_ff x0 x1 x2 x3 f0 f1 f2 f3 hpre
        have h4 : (lw4t_c2 x0 x1 x2 x3 f0 f1 f2 f3 = false) := lw4t_c2_ff x0 x1 x2 x3 f0 f1 f2 f3 hpre
        have h5 : (lw4t_c3 x0 x1 x2 x3 f0 f1 f2 f3 = false) := lw4t_c3_ff x0 x1 x2 x3 f0 f1 f2 f3 hpre
        have h6 : (lw4t_c4 x0 x1 x2 x3 f0 f1 f2 f3 = false) := lw4t_c4_ff x0 x1 x2 x3 f0 f1 f2 f3 hpre
        have h7 : (lw4t_c5 x0 x1 x2 x3 f0 f1 f2 f3 = false) := lw4t_c5_ff x0 x1 x2 x3 f0 f1 f2 f3 hpre
        have h8 : (lw4t_c6 x0 x1 x2 x3 f0 f1 f2 f3 = false) := lw4t_c6_ff x0 x1 x2 x3 f0 f1 f2 f3 hpre
        have h9 : (lw4t_c7 x0 x1 x2 x3 f0 f1 f2 f3 = false) := lw4t_c7_ff x0 x1 x2 x3 f0 f1 f2 f3 hpre
        have h10 : (lw4t_c8 x0 x1 x2 x3 f0 f1 f2 f3 = false) := lw4t_c8_ff x0 x1 x2 x3 f0 f1 f2 f3 hpre
        have h11 : (lw4t_c9 x0 x1 x2 x3 f0 f1 f2 f3 = true) := by
          have r8 : Rg.has (0, 0) (lw4t_at0 x0) := by
            have hr : InR [(-100, 100)] [(lw4t_at0 x0)] := ⟨lw4t_rg8 x0 x1 x2 x3 f0 f1 f2 f3 hpre, trivial⟩
            have ha := BE.all_ok hr lw4t_q34 (by kernel_rfl)
            have hx : BE.ev [(lw4t_at0 x0)] (.cm .eq (.v 0) (.k (0))) = true := (show BE.ev [(lw4t_at0 x0)] (.cm .eq (.v 0) (.k (0))) = lw4t_c0 x0 x1 x2 x3 f0 f1 f2 f3 by kernel_rfl).trans h0
            have ha := orT ha hx
            exact rgB ha
          have hr : InR [(0, 0)] [(lw4t_at0 x0)] := ⟨r8, trivial⟩
          have e1 : lw4t_c9 x0 x1 x2 x3 f0 f1 f2 f3 = BE.ev [(lw4t_at0 x0)] lw4t_q35 := by kernel_rfl
          rw [e1]
          exact BE.tri_ok hr (by kernel_rfl) (by kernel_rfl)
        have h12 : (lw4t_c12 x0 x1 x2 x3 f0 f1 f2 f3 = true) := by
          have r8 : Rg.has (0, 0) (lw4t_at0 x0) := by
            have hr : InR [(-100, 100)] [(lw4t_at0 x0)] := ⟨lw4t_rg8 x0 x1 x2 x3 f0 f1 f2 f3 hpre, trivial⟩
            have ha := BE.all_ok hr lw4t_q34 (by kernel_rfl)
            have hx : BE.ev [(lw4t_at0 x0)] (.cm .eq (.v 0) (.k (0))) = true := (show BE.ev [(lw4t_at0 x0)] (.cm .eq (.v 0) (.k (0))) = lw4t_c0 x0 x1 x2 x3 f0 f1 f2 f3 by kernel_rfl).trans h0
            have ha := orT ha hx
            exact rgB ha
          have r9 : Rg.has (0, 0) (lw4t_at0 x1) := by
            have hr : InR [(-100, 100)] [(lw4t_at0 x1)] := ⟨lw4t_rg9 x0 x1 x2 x3 f0 f1 f2 f3 hpre, trivial⟩
            have ha := BE.all_ok hr lw4t_q34 (by kernel_rfl)
            have hx : BE.ev [(lw4t_at0 x1)] (.cm .eq (.v 0) (.k (0))) = true := (show BE.ev [(lw4t_at0 x1)] (.cm .eq (.v 0) (.k (0))) = lw4t_c11 x0 x1 x2 x3 f0 f1 f2 f3 by kernel_rfl).trans h1
            have ha := orT ha hx
            exact rgB ha
          have hr : InR [(0, 0), (0, 0), (-100, 100)] [(lw4t_at0 x0), (lw4t_at0 x1), (lw4t_at0 x3)] := ⟨r8, ⟨r9, ⟨lw4t_rg11 x0 x1 x2 x3 f0 f1 f2 f3 hpre, trivial⟩⟩⟩
          have e1 : lw4t_c12 x0 x1 x2 x3 f0 f1 f2 f3 = BE.ev [(lw4t_at0 x0), (lw4t_at0 x1), (lw4t_at0 x3)] (.not lw4t_q38) := by kernel_rfl
          rw [e1]
          exact BE.tri_ok hr (by kernel_rfl) (by kernel_rfl)
        have h13 : (lw4t_c15 x0 x1 x2 x3 f0 f1 f2 f3 = true) := by
          have r8 : Rg.has (0, 0) (lw4t_at0 x0) := by
            have hr : InR [(-100, 100)] [(lw4t_at0 x0)] := ⟨lw4t_rg8 x0 x1 x2 x3 f0 f1 f2 f3 hpre, trivial⟩
            have ha := BE.all_ok hr lw4t_q34 (by kernel_rfl)
            have hx : BE.ev [(lw4t_at0 x0)] (.cm .eq (.v 0) (.k (0))) = true := (show BE.ev [(lw4t_at0 x0)] (.cm .eq (.v 0) (.k (0))) = lw4t_c0 x0 x1 x2 x3 f0 f1 f2 f3 by kernel_rfl).trans h0
            have ha := orT ha hx
            exact rgB ha
          have r9 : Rg.has (0, 0) (lw4t_at0 x1) := by
            have hr : InR [(-100, 100)] [(lw4t_at0 x1)] := ⟨lw4t_rg9 x0 x1 x2 x3 f0 f1 f2 f3 hpre, trivial⟩
            have ha := BE.all_ok hr lw4t_q34 (by kernel_rfl)
            have hx : BE.ev [(lw4t_at0 x1)] (.cm .eq (.v 0) (.k (0))) = true := (show BE.ev [(lw4t_at0 x1)] (.cm .eq (.v 0) (.k (0))) = lw4t_c11 x0 x1 x2 x3 f0 f1 f2 f3 by kernel_rfl).trans h1
            have ha := orT ha hx
            exact rgB ha
          have r10 : Rg.has (0, 0) (lw4t_at0 x2) := by
            have hr : InR [(-100, 100)] [(lw4t_at0 x2)] := ⟨lw4t_rg10 x0 x1 x2 x3 f0 f1 f2 f3 hpre, trivial⟩
            have ha := BE.all_ok hr lw4t_q34 (by kernel_rfl)
            have hx : BE.ev [(lw4t_at0 x2)] (.cm .eq (.v 0) (.k (0))) = true := (show BE.ev [(lw4t_at0 x2)] (.cm .eq (.v 0) (.k (0))) = lw4t_c14 x0 x1 x2 x3 f0 f1 f2 f3 by kernel_rfl).trans h2
            have ha := orT ha hx
            exact rgB ha
          have hr : InR [(0, 0), (0, 0), (0, 0), (-100, 100)] [(lw4t_at0 x0), (lw4t_at0 x1), (lw4t_at0 x2), (lw4t_at0 x3)] := ⟨r8, ⟨r9, ⟨r10, ⟨lw4t_rg11 x0 x1 x2 x3 f0 f1 f2 f3 hpre, trivial⟩⟩⟩⟩
          have e1 : lw4t_c15 x0 x1 x2 x3 f0 f1 f2 f3 = BE.ev [(lw4t_at0 x0), (lw4t_at0 x1), (lw4t_at0 x2), (lw4t_at0 x3)] (.not lw4t_q44) := by kernel_rfl
          rw [e1]
          exact BE.tri_ok hr (by kernel_rfl) (by kernel_rfl)
        have h14 : (lw4t_c10 x0 x1 x2 x3 f0 f1 f2 f3 = false) := by
          have hz := (show lw4t_c9 x0 x1 x2 x3 f0 f1 f2 f3 = Bool.not (lw4t_c10 x0 x1 x2 x3 f0 f1 f2 f3) by kernel_rfl).symm.trans h11
          generalize lw4t_c10 x0 x1 x2 x3 f0 f1 f2 f3 = z at hz ⊢
          cases z <;> first | rfl | cases hz
        have h15 : (lw4t_c13 x0 x1 x2 x3 f0 f1 f2 f3 = false) := by
          have hz := (show lw4t_c12 x0 x1 x2 x3 f0 f1 f2 f3 = Bool.not (lw4t_c13 x0 x1 x2 x3 f0 f1 f2 f3) by kernel_rfl).symm.trans h12
          generalize lw4t_c13 x0 x1 x2 x3 f0 f1 f2 f3 = z at hz ⊢
          cases z <;> first | rfl | cases hz
        have h16 : (lw4t_c16 x0 x1 x2 x3 f0 f1 f2 f3 = false) := by
          have hz := (show lw4t_c15 x0 x1 x2 x3 f0 f1 f2 f3 = Bool.not (lw4t_c16 x0 x1 x2 x3 f0 f1 f2 f3) by kernel_rfl).symm.trans h13
          generalize lw4t_c16 x0 x1 x2 x3 f0 f1 f2 f3 = z at hz ⊢
          cases z <;> first | rfl | cases hz
        rcases Bool.eq_false_or_eq_true (lw4t_c17 x0 x1 x2 x3 f0 f1 f2 f3) with h17 | h17
        ·
          have h18 : (lw4t_c18 x0 x1 x2 x3 f0 f1 f2 f3 = false) := by
            have r8 : Rg.has (0, 0) (lw4t_at0 x0) := by
              have hr : InR [(-100, 100)] [(lw4t_at0 x0)] := ⟨lw4t_rg8 x0 x1 x2 x3 f0 f1 f2 f3 hpre, trivial⟩
              have ha := BE.all_ok hr lw4t_q34 (by kernel_rfl)
              have hx : BE.ev [(lw4t_at0 x0)] (.cm .eq (.v 0) (.k (0))) = true := (show BE.ev [(lw4t_at0 x0)] (.cm .eq (.v 0) (.k (0))) = lw4t_c0 x0 x1 x2 x3 f0 f1 f2 f3 by kernel_rfl).trans h0
              have ha := orT ha hx
              exact rgB ha
            have r9 : Rg.has (0, 0) (lw4t_at0 x1) := by
              have hr : InR [(-100, 100)] [(lw4t_at0 x1)] := ⟨lw4t_rg9 x0 x1 x2 x3 f0 f1 f2 f3 hpre, trivial⟩
              have ha := BE.all_ok hr lw4t_q34 (by kernel_rfl)
              have hx : BE.ev [(lw4t_at0 x1)] (.cm .eq (.v 0) (.k (0))) = true := (show BE.ev [(lw4t_at0 x1)] (.cm .eq (.v 0) (.k (0))) = lw4t_c11 x0 x1 x2 x3 f0 f1 f2 f3 by kernel_rfl).trans h1
              have ha := orT ha hx
              exact rgB ha
            have r10 : Rg.has (0, 0) (lw4t_at0 x2) := by
              have hr : InR [(-100, 100)] [(lw4t_at0 x2)] := ⟨lw4t_rg10 x0 x1 x2 x3 f0 f1 f2 f3 hpre, trivial⟩
              have ha := BE.all_ok hr lw4t_q34 (by kernel_rfl)
              have hx : BE.ev [(lw4t_at0 x2)] (.cm .eq (.v 0) (.k (0))) = true := (show BE.ev [(lw4t_at0 x2)] (.cm .eq (.v 0) (.k (0))) = lw4t_c14 x0 x1 x2 x3 f0 f1 f2 f3 by kernel_rfl).trans h2
              have ha := orT ha hx
              exact rgB ha
            have hr : InR [(0, 0), (0, 0), (0, 0), (-100, 100)] [(lw4t_at0 x0), (lw4t_at0 x1), (lw4t_at0 x2), (lw4t_at0 x3)] := ⟨r8, ⟨r9, ⟨r10, ⟨lw4t_rg11 x0 x1 x2 x3 f0 f1 f2 f3 hpre, trivial⟩⟩⟩⟩
            have hr2 : InR [(-100, 100)] [(lw4t_at0 x3)] := ⟨lw4t_rg11 x0 x1 x2 x3 f0 f1 f2 f3 hpre, trivial⟩
            have ha := BE.all_ok hr2 (.or (.not lw4t_q46) (.not lw4t_q47)) (by kernel_rfl)
            have hx : BE.ev [(lw4t_at0 x3)] lw4t_q46 = true := (show BE.ev [(lw4t_at0 x3)] lw4t_q46 = BE.ev [(lw4t_at0 x0), (lw4t_at0 x1), (lw4t_at0 x2), (lw4t_at0 x3)] lw4t_q49 by kernel_rfl).trans ((BE.smp_to hr lw4t_q53 lw4t_q49 (by kernel_rfl) (by kernel_rfl)).symm.trans ((show BE.ev [(lw4t_at0 x0), (lw4t_at0 x1), (lw4t_at0 x2), (lw4t_at0 x3)] lw4t_q53 = lw4t_c17 x0 x1 x2 x3 f0 f1 f2 f3 by kernel_rfl).trans h17))
            have ha := orT ha hx
            exact (show lw4t_c18 x0 x1 x2 x3 f0 f1 f2 f3 = BE.ev [(lw4t_at0 x0), (lw4t_at0 x1), (lw4t_at0 x2), (lw4t_at0 x3)] lw4t_q54 by kernel_rfl).trans ((BE.smp_to hr lw4t_q54 lw4t_q55 (by kernel_rfl) (by kernel_rfl)).trans ((show BE.ev [(lw4t_at0 x0), (lw4t_at0 x1), (lw4t_at0 x2), (lw4t_at0 x3)] lw4t_q55 = BE.ev [(lw4t_at0 x3)] lw4t_q47 by kernel_rfl).trans (notT ha)))
          have h19 : (lw4t_c19 x0 x1 x2 x3 f0 f1 f2 f3 = true) := by
            have r8 : Rg.has (0, 0) (lw4t_at0 x0) := by
              have hr : InR [(-100, 100)] [(lw4t_at0 x0)] := ⟨lw4t_rg8 x0 x1 x2 x3 f0 f1 f2 f3 hpre, trivial⟩
              have ha := BE.all_ok hr lw4t_q34 (by kernel_rfl)
              have hx : BE.ev [(lw4t_at0 x0)] (.cm .eq (.v 0) (.k (0))) = true := (show BE.ev [(lw4t_at0 x0)] (.cm .eq (.v 0) (.k (0))) = lw4t_c0 x0 x1 x2 x3 f0 f1 f2 f3 by kernel_rfl).trans h0
              have ha := orT ha hx
              exact rgB ha
            have r9 : Rg.has (0, 0) (lw4t_at0 x1) := by
              have hr : InR [(-100, 100)] [(lw4t_at0 x1)] := ⟨lw4t_rg9 x0 x1 x2 x3 f0 f1 f2 f3 hpre, trivial⟩
              have ha := BE.all_ok hr lw4t_q34 (by kernel_rfl)
              have hx : BE.ev [(lw4t_at0 x1)] (.cm .eq (.v 0) (.k (0))) = true := (show BE.ev [(lw4t_at0 x1)] (.cm .eq (.v 0) (.k (0))) = lw4t_c11 x0 x1 x2 x3 f0 f1 f2 f3 by kernel_rfl).trans h1
              have ha := orT ha hx
              exact rgB ha
            have r10 : Rg.has (0, 0) (lw4t_at0 x2) := by
              have hr : InR [(-100, 100)] [(lw4t_at0 x2)] := ⟨lw4t_rg10 x0 x1 x2 x3 f0 f1 f2 f3 hpre, trivial⟩
              have ha := BE.all_ok hr lw4t_q34 (by kernel_rfl)
              have hx : BE.ev [(lw4t_at0 x2)] (.cm .eq (.v 0) (.k (0))) = true := (show BE.ev [(lw4t_at0 x2)] (.cm .eq (.v 0) (.k (0))) = lw4t_c14 x0 x1 x2 x3 f0 f1 f2 f3 by kernel_rfl).trans h2
              have ha := orT ha hx
              exact rgB ha
            have hr : InR [(0, 0), (0, 0), (0, 0), (-100, 100)] [(lw4t_at0 x0), (lw4t_at0 x1), (lw4t_at0 x2), (lw4t_at0 x3)] := ⟨r8, ⟨r9, ⟨r10, ⟨lw4t_rg11 x0 x1 x2 x3 f0 f1 f2 f3 hpre, trivial⟩⟩⟩⟩
            have hr2 : InR [(-100, 100)] [(lw4t_at0 x3)] := ⟨lw4t_rg11 x0 x1 x2 x3 f0 f1 f2 f3 hpre, trivial⟩
            have ha := BE.all_ok hr2 (.or (.not lw4t_q46) (.not (.cm .eq (.v 0) (.k (0))))) (by kernel_rfl)
            have hx : BE.ev [(lw4t_at0 x3)] lw4t_q46 = true := (show BE.ev [(lw4t_at0 x3)] lw4t_q46 = BE.ev [(lw4t_at0 x0), (lw4t_at0 x1), (lw4t_at0 x2), (lw4t_at0 x3)] lw4t_q49 by kernel_rfl).trans ((BE.smp_to hr lw4t_q53 lw4t_q49 (by kernel_rfl) (by kernel_rfl)).symm.trans ((show BE.ev [(lw4t_at0 x0), (lw4t_at0 x1), (lw4t_at0 x2), (lw4t_at0 x3)] lw4t_q53 = lw4t_c17 x0 x1 x2 x3 f0 f1 f2 f3 by kernel_rfl).trans h17))
            have ha := orT ha hx
            exact (show lw4t_c19 x0 x1 x2 x3 f0 f1 f2 f3 = BE.ev [(lw4t_at0 x0), (lw4t_at0 x1), (lw4t_at0 x2), (lw4t_at0 x3)] (.not (.cm .eq (.v 3) (.k (0)))) by kernel_rfl).trans ((BE.smp_to hr (.not (.cm .eq (.v 3) (.k (0)))) (.not (.cm .eq (.v 3) (.k (0)))) (by kernel_rfl) (by kernel_rfl)).trans ((show BE.ev [(lw4t_at0 x0), (lw4t_at0 x1), (lw4t_at0 x2), (lw4t_at0 x3)] (.not (.cm .eq (.v 3) (.k (0)))) = BE.ev [(lw4t_at0 x3)] (.not (.cm .eq (.v 0) (.k (0)))) by kernel_rfl).trans (ha)))
          exact lw4t_p3 x0 x1 x2 x3 f0 f1 f2 f3 c (lw4t_z19_h (lw4t_z18_h (lw4t_z14_h (lw4t_z8_h (lw4t_z17_h (lw4t_z12_h (lw4t_z6_h (lw4t_z2_h (lw4t_z16_h (lw4t_z10_h (lw4t_z4_h (lw4t_z0_h trivial x0 x1 x2 x3 f0 f1 f2 f3 hpre) x0 x1 x2 x3 f0 f1 f2 f3 hpre h0) x0 x1 x2 x3 f0 f1 f2 f3 hpre h1) x0 x1 x2 x3 f0 f1 f2 f3 hpre h2) x0 x1 x2 x3 f0 f1 f2 f3 hpre) x0 x1 x2 x3 f0 f1 f2 f3 hpre h11) x0 x1 x2 x3 f0 f1 f2 f3 hpre h12) x0 x1 x2 x3 f0 f1 f2 f3 hpre h13) x0 x1 x2 x3 f0 f1 f2 f3 hpre h14) x0 x1 x2 x3 f0 f1 f2 f3 hpre h15) x0 x1 x2 x3 f0 f1 f2 f3 hpre h16) x0 x1 x2 x3 f0 f1 f2 f3 hpre h17 h18 h19)
        ·
          have h20 : (lw4t_c20 x0 x1 x2 x3 f0 f1 f2 f3 = false) := by
            have r8 : Rg.has (0, 0) (lw4t_at0 x0) := by
              have hr : InR [(-100, 100)] [(lw4t_at0 x0)] := ⟨lw4t_rg8 x0 x1 x2 x3 f0 f1 f2 f3 hpre, trivial⟩
              have ha := BE.all_ok hr lw4t_q34 (by kernel_rfl)
              have hx : BE.ev [(lw4t_at0 x0)] (.cm .eq (.v 0) (.k (0))) = true := (show BE.ev [(lw4t_at0 x0)] (.cm .eq (.v 0) (.k (0))) = lw4t_c0 x0 x1 x2 x3 f0 f1 f2 f3 by kernel_rfl).trans h0
              have ha := orT ha hx
              exact rgB ha
            have r9 : Rg.has (0, 0) (lw4t_at0 x1) := by
              have hr : InR [(-100, 100)] [(lw4t_at0 x1)] := ⟨lw4t_rg9 x0 x1 x2 x3 f0 f1 f2 f3 hpre, trivial⟩
              have ha := BE.all_ok hr lw4t_q34 (by kernel_rfl)
              have hx : BE.ev [(lw4t_at0 x1)] (.cm .eq (.v 0) (.k (0))) = true := (show BE.ev [(lw4t_at0 x1)] (.cm .eq (.v 0) (.k (0))) = lw4t_c11 x0 x1 x2 x3 f0 f1 f2 f3 by kernel_rfl).trans h1
              have ha := orT ha hx
              exact rgB ha
            have r10 : Rg.has (0, 0) (lw4t_at0 x2) := by
              have hr : InR [(-100, 100)] [(lw4t_at0 x2)] := ⟨lw4t_rg10 x0 x1 x2 x3 f0 f1 f2 f3 hpre, trivial⟩
              have ha := BE.all_ok hr lw4t_q34 (by kernel_rfl)
              have hx : BE.ev [(lw4t_at0 x2)] (.cm .eq (.v 0) (.k (0))) = true := (show BE.ev [(lw4t_at0 x2)] (.cm .eq (.v 0) (.k (0))) = lw4t_c14 x0 x1 x2 x3 f0 f1 f2 f3 by kernel_rfl).trans h2
              have ha := orT ha hx
              exact rgB ha
            have r11 : Rg.has (0, 0) (lw4t_at0 x3) := by
              have hr : InR [(0, 0), (0, 0), (0, 0), (-100, 100)] [(lw4t_at0 x0), (lw4t_at0 x1), (lw4t_at0 x2), (lw4t_at0 x3)] := ⟨r8, ⟨r9, ⟨r10, ⟨lw4t_rg11 x0 x1 x2 x3 f0 f1 f2 f3 hpre, trivial⟩⟩⟩⟩
              have ha := BE.all_ok hr lw4t_q56 (by kernel_rfl)
              have hx : BE.ev [(lw4t_at0 x0), (lw4t_at0 x1), (lw4t_at0 x2), (lw4t_at0 x3)] lw4t_q53 = false := (show BE.ev [(lw4t_at0 x0), (lw4t_at0 x1), (lw4t_at0 x2), (lw4t_at0 x3)] lw4t_q53 = lw4t_c17 x0 x1 x2 x3 f0 f1 f2 f3 by kernel_rfl).trans h17
              have ha := orT ha (notF hx)
              exact rgB ha
            have hr : InR [(0, 0)] [(lw4t_at0 x3)] := ⟨r11, trivial⟩
            have e1 : lw4t_c20 x0 x1 x2 x3 f0 f1 f2 f3 = BE.ev [(lw4t_at0 x3)] (.not (.beq (.not (.cm .ge (.k (-1)) (.k (0)))) (.cm .eq (.v 0) (.k (0))))) := by kernel_rfl
            rw [e1]
            exact BE.tri_ok hr (by kernel_rfl) (by kernel_rfl)
          have h21 : (lw4t_c19 x0 x1 x2 x3 f0 f1 f2 f3 = false) := by
            have r8 : Rg.has (0, 0) (lw4t_at0 x0) := by
              have hr : InR [(-100, 100)] [(lw4t_at0 x0)] := ⟨lw4t_rg8 x0 x1 x2 x3 f0 f1 f2 f3 hpre, trivial⟩
              have ha := BE.all_ok hr lw4t_q34 (by kernel_rfl)
              have hx : BE.ev [(lw4t_at0 x0)] (.cm .eq (.v 0) (.k (0))) = true := (show BE.ev [(lw4t_at0 x0)] (.cm .eq (.v 0) (.k (0))) = lw4t_c0 x0 x1 x2 x3 f0 f1 f2 f3 by kernel_rfl).trans h0
              have ha := orT ha hx
              exact rgB ha
            have r9 : Rg.has (0, 0) (lw4t_at0 x1) := by
              have hr : InR [(-100, 100)] [(lw4t_at0 x1)] := ⟨lw4t_rg9 x0 x1 x2 x3 f0 f1 f2 f3 hpre, trivial⟩
              have ha := BE.all_ok hr lw4t_q34 (by kernel_rfl)
              have hx : BE.ev [(lw4t_at0 x1)] (.cm .eq (.v 0) (.k (0))) = true := (show BE.ev [(lw4t_at0 x1)] (.cm .eq (.v 0) (.k (0))) = lw4t_c11 x0 x1 x2 x3 f0 f1 f2 f3 by kernel_rfl).trans h1
              have ha := orT ha hx
              exact rgB ha
            have r10 : Rg.has (0, 0) (lw4t_at0 x2) := by
              have hr : InR [(-100, 100)] [(lw4t_at0 x2)] := ⟨lw4t_rg10 x0 x1 x2 x3 f0 f1 f2 f3 hpre, trivial⟩
              have ha := BE.all_ok hr lw4t_q34 (by kernel_rfl)
              have hx : BE.ev [(lw4t_at0 x2)] (.cm .eq (.v 0) (.k (0))) = true := (show BE.ev [(lw4t_at0 x2)] (.cm .eq (.v 0) (.k (0))) = lw4t_c14 x0 x1 x2 x3 f0 f1 f2 f3 by kernel_rfl).trans h2
              have ha := orT ha hx
              exact rgB ha
            have r11 : Rg.has (0, 0) (lw4t_at0 x3) := by
              have hr : InR [(0, 0), (0, 0), (0, 0), (-100, 100)] [(lw4t_at0 x0), (lw4t_at0 x1), (lw4t_at0 x2), (lw4t_at0 x3)] := ⟨r8, ⟨r9, ⟨r10, ⟨lw4t_rg11 x0 x1 x2 x3 f0 f1 f2 f3 hpre, trivial⟩⟩⟩⟩
              have ha := BE.all_ok hr lw4t_q56 (by kernel_rfl)
              have hx : BE.ev [(lw4t_at0 x0), (lw4t_at0 x1), (lw4t_at0 x2), (lw4t_at0 x3)] lw4t_q53 = false := (show BE.ev [(lw4t_at0 x0), (lw4t_at0 x1), (lw4t_at0 x2), (lw4t_at0 x3)] lw4t_q53 = lw4t_c17 x0 x1 x2 x3 f0 f1 f2 f3 by kernel_rfl).trans h17
              have ha := orT ha (notF hx)
              exact rgB ha
            have hr : InR [(0, 0)] [(lw4t_at0 x3)] := ⟨r11, trivial⟩
            have e1 : lw4t_c19 x0 x1 x2 x3 f0 f1 f2 f3 = BE.ev [(lw4t_at0 x3)] (.not (.cm .eq (.v 0) (.k (0)))) := by kernel_rfl
            rw [e1]
            exact BE.tri_ok hr (by kernel_rfl) (by kernel_rfl)
          have h22 : (lw4t_c21 x0 x1 x2 x3 f0 f1 f2 f3 = false) := lw4t_c21_ff x0 x1 x2 x3 f0 f1 f2 f3 hpre
          have h23 : (lw4t_c22 x0 x1 x2 x3 f0 f1 f2 f3 = false) := lw4t_c22_ff x0 x1 x2 x3 f0 f1 f2 f3 hpre
          have h24 : (lw4t_c23 x0 x1 x2 x3 f0 f1 f2 f3 = false) := lw4t_c23_ff x0 x1 x2 x3 f0 f1 f2 f3 hpre
          have h25 : (lw4t_c24 x0 x1 x2 x3 f0 f1 f2 f3 = false) := lw4t_c24_ff x0 x1 x2 x3 f0 f1 f2 f3 hpre
          have h26 : (lw4t_c25 x0 x1 x2 x3 f0 f1 f2 f3 = false) := lw4t_c25_ff x0 x1 x2 x3 f0 f1 f2 f3 hpre
          have h27 : (lw4t_c26 x0 x1 x2 x3 f0 f1 f2 f3 = false) := lw4t_c26_ff x0 x1 x2 x3 f0 f1 f2 f3 hpre
          have h28 : (lw4t_c27 x0 x1 x2 x3 f0 f1 f2 f3 = false) := lw4t_c27_ff x0 x1 x2 x3 f0 f1 f2 f3 hpre
          have h29 : (lw4t_c28 x0 x1 x2 x3 f0 f1 f2 f3 = false) := lw4t_c28_ff x0 x1 x2 x3 f0 f1 f2 f3 hpre
          have h30 : (lw4t_c29 x0 x1 x2 x3 f0 f1 f2 f3 = false) := lw4t_c29_ff x0 x1 x2 x3 f0 f1 f2 f3 hpre
          have h31 : (lw4t_c30 x0 x1 x2 x3 f0 f1 f2 f3 = false) := lw4t_c30_ff x0 x1 x2 x3 f0 f1 f2 f3 hpre
          have h32 : (lw4t_c31 x0 x1 x2 x3 f0 f1 f2 f3 = false) := lw4t_c31_ff x0 x1 x2 x3 f0 f1 f2 f3 hpre
          have h33 : (lw4t_c32 x0 x1 x2 x3 f0 f1 f2 f3 = false) := lw4t_c32_ff x0 x1 x2 x3 f0 f1 f2 f3 hpre
          have h34 : (lw4t_c33 x0 x1 x2 x3 f0 f1 f2 f3 = false) := by
            have r8 : Rg.has (0, 0) (lw4t_at0 x0) := by
              have hr : InR [(-100, 100)] [(lw4t_at0 x0)] := ⟨lw4t_rg8 x0 x1 x2 x3 f0 f1 f2 f3 hpre, trivial⟩
              have ha := BE.all_ok hr lw4t_q34 (by kernel_rfl)
              have hx : BE.ev [(lw4t_at0 x0)] (.cm .eq (.v 0) (.k (0))) = true := (show BE.ev [(lw4t_at0 x0)] (.cm .eq (.v 0) (.k (0))) = lw4t_c0 x0 x1 x2 x3 f0 f1 f2 f3 by kernel_rfl).trans h0
              have ha := orT ha hx
              exact rgB ha
            have r9 : Rg.has (0, 0) (lw4t_at0 x1) := by
              have hr : InR [(-100, 100)] [(lw4t_at0 x1)] := ⟨lw4t_rg9 x0 x1 x2 x3 f0 f1 f2 f3 hpre, trivial⟩
              have ha := BE.all_ok hr lw4t_q34 (by kernel_rfl)
              have hx : BE.ev [(lw4t_at0 x1)] (.cm .eq (.v 0) (.k (0))) = true := (show BE.ev [(lw4t_at0 x1)] (.cm .eq (.v 0) (.k (0))) = lw4t_c11 x0 x1 x2 x3 f0 f1 f2 f3 by kernel_rfl).trans h1
              have ha := orT ha hx
              exact rgB ha
            have r10 : Rg.has (0, 0) (lw4t_at0 x2) := by
              have hr : InR [(-100, 100)] [(lw4t_at0 x2)] := ⟨lw4t_rg10 x0 x1 x2 x3 f0 f1 f2 f3 hpre, trivial⟩
              have ha := BE.all_ok hr lw4t_q34 (by kernel_rfl)
              have hx : BE.ev [(lw4t_at0 x2)] (.cm .eq (.v 0) (.k (0))) = true := (show BE.ev [(lw4t_at0 x2)] (.cm .eq (.v 0) (.k (0))) = lw4t_c14 x0 x1 x2 x3 f0 f1 f2 f3 by kernel_rfl).trans h2
              have ha := orT ha hx
              exact rgB ha
            have r11 : Rg.has (0, 0) (lw4t_at0 x3) := by
              have hr : InR [(0, 0), (0, 0), (0, 0), (-100, 100)] [(lw4t_at0 x0), (lw4t_at0 x1), (lw4t_at0 x2), (lw4t_at0 x3)] := ⟨r8, ⟨r9, ⟨r10, ⟨lw4t_rg11 x0 x1 x2 x3 f0 f1 f2 f3 hpre, trivial⟩⟩⟩⟩
              have ha := BE.all_ok hr lw4t_q56 (by kernel_rfl)
              have hx : BE.ev [(lw4t_at0 x0), (lw4t_at0 x1), (lw4t_at0 x2), (lw4t_at0 x3)] lw4t_q53 = false := (show BE.ev [(lw4t_at0 x0), (lw4t_at0 x1), (lw4t_at0 x2), (lw4t_at0 x3)] lw4t_q53 = lw4t_c17 x0 x1 x2 x3 f0 f1 f2 f3 by kernel_rfl).trans h17
              have ha := orT ha (notF hx)
              exact rgB ha
            have hr : InR [(0, 0), (0, 0), (0, 0), (0, 0), (-1000, 1000), (-1000, 1000), (-1000, 1000), (-1000, 1000)] [(lw4t_at0 x0), (lw4t_at0 x1), (lw4t_at0 x2), (lw4t_at0 x3), (lw4t_at1 f0), (lw4t_at1 f1), (lw4t_at1 f2), (lw4t_at1 f3)] := ⟨r8, ⟨r9, ⟨r10, ⟨r11, ⟨lw4t_rg12 x0 x1 x2 x3 f0 f1 f2 f3 hpre, ⟨lw4t_rg13 x0 x1 x2 x3 f0 f1 f2 f3 hpre, ⟨lw4t_rg14 x0 x1 x2 x3 f0 f1 f2 f3 hpre, ⟨lw4t_rg15 x0 x1 x2 x3 f0 f1 f2 f3 hpre, trivial⟩⟩⟩⟩⟩⟩⟩⟩
            have e1 : lw4t_c33 x0 x1 x2 x3 f0 f1 f2 f3 = BE.ev [(lw4t_at0 x0), (lw4t_at0 x1), (lw4t_at0 x2), (lw4t_at0 x3), (lw4t_at1 f0), (lw4t_at1 f1), (lw4t_at1 f2), (lw4t_at1 f3)] (.cm .lt lw4t_q66 (.k (-1073741824))) := by kernel_rfl
            rw [e1]
            exact BE.tri_ok hr (by kernel_rfl) (by kernel_rfl)
          have h35 : (lw4t_c34 x0 x1 x2 x3 f0 f1 f2 f3 = false) := by
            have r8 : Rg.has (0, 0) (lw4t_at0 x0) := by
              have hr : InR [(-100, 100)] [(lw4t_at0 x0)] := ⟨lw4t_rg8 x0 x1 x2 x3 f0 f1 f2 f3 hpre, trivial⟩
              have ha := BE.all_ok hr lw4t_q34 (by kernel_rfl)
              have hx : BE.ev [(lw4t_at0 x0)] (.cm .eq (.v 0) (.k (0))) = true := (show BE.ev [(lw4t_at0 x0)] (.cm .eq (.v 0) (.k (0))) = lw4t_c0 x0 x1 x2 x3 f0 f1 f2 f3 by kernel_rfl).trans h0
              have ha := orT ha hx
              exact rgB ha
            have r9 : Rg.has (0, 0) (lw4t_at0 x1) := by
              have hr : InR [(-100, 100)] [(lw4t_at0 x1)] := ⟨lw4t_rg9 x0 x1 x2 x3 f0 f1 f2 f3 hpre, trivial⟩
              have ha := BE.all_ok hr lw4t_q34 (by kernel_rfl)
              have hx : BE.ev [(lw4t_at0 x1)] (.cm .eq (.v 0) (.k (0))) = true := (show BE.ev [(lw4t_at0 x1)] (.cm .eq (.v 0) (.k (0))) = lw4t_c11 x0 x1 x2 x3 f0 f1 f2 f3 by kernel_rfl).trans h1
              have ha := orT ha hx
              exact rgB ha
            have r10 : Rg.has (0, 0) (lw4t_at0 x2) := by
              have hr : InR [(-100, 100)] [(lw4t_at0 x2)] := ⟨lw4t_rg10 x0 x1 x2 x3 f0 f1 f2 f3 hpre, trivial⟩
              have ha := BE.all_ok hr lw4t_q34 (by kernel_rfl)
              have hx : BE.ev [(lw4t_at0 x2)] (.cm .eq (.v 0) (.k (0))) = true := (show BE.ev [(lw4t_at0 x2)] (.cm .eq (.v 0) (.k (0))) = lw4t_c14 x0 x1 x2 x3 f0 f1 f2 f3 by kernel_rfl).trans h2
              have ha := orT ha hx
              exact rgB ha
            have r11 : Rg.has (0, 0) (lw4t_at0 x3) := by
              have hr : InR [(0, 0), (0, 0), (0, 0), (-100, 100)] [(lw4t_at0 x0), (lw4t_at0 x1), (lw4t_at0 x2), (lw4t_at0 x3)] := ⟨r8, ⟨r9, ⟨r10, ⟨lw4t_rg11 x0 x1 x2 x3 f0 f1 f2 f3 hpre, trivial⟩⟩⟩⟩
              have ha := BE.all_ok hr lw4t_q56 (by kernel_rfl)
              have hx : BE.ev [(lw4t_at0 x0), (lw4t_at0 x1), (lw4t_at0 x2), (lw4t_at0 x3)] lw4t_q53 = false := (show BE.ev [(lw4t_at0 x0), (lw4t_at0 x1), (lw4t_at0 x2), (lw4t_at0 x3)] lw4t_q53 = lw4t_c17 x0 x1 x2 x3 f0 f1 f2 f3 by kernel_rfl).trans h17
              have ha := orT ha (notF hx)
              exact rgB ha
            have hr : InR [(0, 0), (0, 0), (0, 0), (0, 0), (-1000, 1000), (-1000, 1000), (-1000, 1000), (-1000, 1000)] [(lw4t_at0 x0), (lw4t_at0 x1), (lw4t_at0 x2), (lw4t_at0 x3), (lw4t_at1 f0), (lw4t_at1 f1), (lw4t_at1 f2), (lw4t_at1 f3)] := ⟨r8, ⟨r9, ⟨r10, ⟨r11, ⟨lw4t_rg12 x0 x1 x2 x3 f0 f1 f2 f3 hpre, ⟨lw4t_rg13 x0 x1 x2 x3 f0 f1 f2 f3 hpre, ⟨lw4t_rg14 x0 x1 x2 x3 f0 f1 f2 f3 hpre, ⟨lw4t_rg15 x0 x1 x2 x3 f0 f1 f2 f3 hpre, trivial⟩⟩⟩⟩⟩⟩⟩⟩
            have e1 : lw4t_c34 x0 x1 x2 x3 f0 f1 f2 f3 = BE.ev [(lw4t_at0 x0), (lw4t_at0 x1), (lw4t_at0 x2), (lw4t_at0 x3), (lw4t_at1 f0), (lw4t_at1 f1), (lw4t_at1 f2), (lw4t_at1 f3)] (.cm .gt lw4t_q66 (.k (1073741824))) := by kernel_rfl
            rw [e1]
            exact BE.tri_ok hr (by kernel_rfl) (by kernel_rfl)
          have h36 : (lw4t_c35 x0 x1 x2 x3 f0 f1 f2 f3 = false) := by
            have r8 : Rg.has (0, 0) (lw4t_at0 x0) := by
              have hr : InR [(-100, 100)] [(lw4t_at0 x0)] := ⟨lw4t_rg8 x0 x1 x2 x3 f0 f1 f2 f3 hpre, trivial⟩
              have ha := BE.all_ok hr lw4t_q34 (by kernel_rfl)
              have hx : BE.ev [(lw4t_at0 x0)] (.cm .eq (.v 0) (.k (0))) = true := (show BE.ev [(lw4t_at0 x0)] (.cm .eq (.v 0) (.k (0))) = lw4t_c0 x0 x1 x2 x3 f0 f1 f2 f3 by kernel_rfl).trans h0
              have ha := orT ha hx
              exact rgB ha
            have r9 : Rg.has (0, 0) (lw4t_at0 x1) := by
              have hr : InR [(-100, 100)] [(lw4t_at0 x1)] := ⟨lw4t_rg9 x0 x1 x2 x3 f0 f1 f2 f3 hpre, trivial⟩
              have ha := BE.all_ok hr lw4t_q34 (by kernel_rfl)
              have hx : BE.ev [(lw4t_at0 x1)] (.cm .eq (.v 0) (.k (0))) = true := (show BE.ev [(lw4t_at0 x1)] (.cm .eq (.v 0) (.k (0))) = lw4t_c11 x0 x1 x2 x3 f0 f1 f2 f3 by kernel_rfl).trans h1
              have ha := orT ha hx
              exact rgB ha
            have r10 : Rg.has (0, 0) (lw4t_at0 x2) := by
              have hr : InR [(-100, 100)] [(lw4t_at0 x2)] := ⟨lw4t_rg10 x0 x1 x2 x3 f0 f1 f2 f3 hpre, trivial⟩
              have ha := BE.all_ok hr lw4t_q34 (by kernel_rfl)
              have hx : BE.ev [(lw4t_at0 x2)] (.cm .eq (.v 0) (.k (0))) = true := (show BE.ev [(lw4t_at0 x2)] (.cm .eq (.v 0) (.k (0))) = lw4t_c14 x0 x1 x2 x3 f0 f1 f2 f3 by kernel_rfl).trans h2
              have ha := orT ha hx
              exact rgB ha
            have r11 : Rg.has (0, 0) (lw4t_at0 x3) := by
              have hr : InR [(0, 0), (0, 0), (0, 0), (-100, 100)] [(lw4t_at0 x0), (lw4t_at0 x1), (lw4t_at0 x2), (lw4t_at0 x3)] := ⟨r8, ⟨r9, ⟨r10, ⟨lw4t_rg11 x0 x1 x2 x3 f0 f1 f2 f3 hpre, trivial⟩⟩⟩⟩
              have ha := BE.all_ok hr lw4t_q56 (by kernel_rfl)
              have hx : BE.ev [(lw4t_at0 x0), (lw4t_at0 x1), (lw4t_at0 x2), (lw4t_at0 x3)] lw4t_q53 = false := (show BE.ev [(lw4t_at0 x0), (lw4t_at0 x1), (lw4t_at0 x2), (lw4t_at0 x3)] lw4t_q53 = lw4t_c17 x0 x1 x2 x3 f0 f1 f2 f3 by kernel_rfl).trans h17
              have ha := orT ha (notF hx)
              exact rgB ha
            have hr : InR [(0, 0), (0, 0), (0, 0), (0, 0), (-1000, 1000), (-1000, 1000), (-1000, 1000), (-1000, 1000)] [(lw4t_at0 x0), (lw4t_at0 x1), (lw4t_at0 x2), (lw4t_at0 x3), (lw4t_at1 f0), (lw4t_at1 f1), (lw4t_at1 f2), (lw4t_at1 f3)] := ⟨r8, ⟨r9, ⟨r10, ⟨r11, ⟨lw4t_rg12 x0 x1 x2 x3 f0 f1 f2 f3 hpre, ⟨lw4t_rg13 x0 x1 x2 x3 f0 f1 f2 f3 hpre, ⟨lw4t_rg14 x0 x1 x2 x3 f0 f1 f2 f3 hpre, ⟨lw4t_rg15 x0 x1 x2 x3 f0 f1 f2 f3 hpre, trivial⟩⟩⟩⟩⟩⟩⟩⟩
            have e1 : lw4t_c35 x0 x1 x2 x3 f0 f1 f2 f3 = BE.ev [(lw4t_at0 x0), (lw4t_at0 x1), (lw4t_at0 x2), (lw4t_at0 x3), (lw4t_at1 f0), (lw4t_at1 f1), (lw4t_at1 f2), (lw4t_at1 f3)] (.cm .lt lw4t_q68 (.k (-1073741824))) := by kernel_rfl
            rw [e1]
            exact BE.tri_ok hr (by kernel_rfl) (by kernel_rfl)
          have h37 : (lw4t_c36 x0 x1 x2 x3 f0 f1 f2 f3 = false) := by
            have r8 : Rg.has (0, 0) (lw4t_at0 x0) := by
              have hr : InR [(-100, 100)] [(lw4t_at0 x0)] := ⟨lw4t_rg8 x0 x1 x2 x3 f0 f1 f2 f3 hpre, trivial⟩
              have ha := BE.all_ok hr lw4t_q34 (by kernel_rfl)
              have hx : BE.ev [(lw4t_at0 x0)] (.cm .eq (.v 0) (.k (0))) = true := (show BE.ev [(lw4t_at0 x0)] (.cm .eq (.v 0) (.k (0))) = lw4t_c0 x0 x1 x2 x3 f0 f1 f2 f3 by kernel_rfl).trans h0
              have ha := orT ha hx
              exact rgB ha
            have r9 : Rg.has (0, 0) (lw4t_at0 x1) := by
              have hr : InR [(-100, 100)] [(lw4t_at0 x1)] := ⟨lw4t_rg9 x0 x1 x2 x3 f0 f1 f2 f3 hpre, trivial⟩
              have ha := BE.all_ok hr lw4t_q34 (by kernel_rfl)
              have hx : BE.ev [(lw4t_at0 x1)] (.cm .eq (.v 0) (.k (0))) = true := (show BE.ev [(lw4t_at0 x1)] (.cm .eq (.v 0) (.k (0))) = lw4t_c11 x0 x1 x2 x3 f0 f1 f2 f3 by kernel_rfl).trans h1
              have ha := orT ha hx
              exact rgB ha
            have r10 : Rg.has (0, 0) (lw4t_at0 x2) := by
              have hr : InR [(-100, 100)] [(lw4t_at0 x2)] := ⟨lw4t_rg10 x0 x1 x2 x3 f0 f1 f2 f3 hpre, trivial⟩
              have ha := BE.all_ok hr lw4t_q34 (by kernel_rfl)
              have hx : BE.ev [(lw4t_at0 x2)] (.cm .eq (.v 0) (.k (0))) = true := (show BE.ev [(lw4t_at0 x2)] (.cm .eq (.v 0) (.k (0))) = lw4t_c14 x0 x1 x2 x3 f0 f1 f2 f3 by kernel_rfl).trans h2
              have ha := orT ha hx
              exact rgB ha
            have r11 : Rg.has (0, 0) (lw4t_at0 x3) := by
              have hr : InR [(0, 0), (0, 0), (0, 0), (-100, 100)] [(lw4t_at0 x0), (lw4t_at0 x1), (lw4t_at0 x2), (lw4t_at0 x3)] := ⟨r8, ⟨r9, ⟨r10, ⟨lw4t_rg11 x0 x1 x2 x3 f0 f1 f2 f3 hpre, trivial⟩⟩⟩⟩
              have ha := BE.all_ok hr lw4t_q56 (by kernel_rfl)
              have hx : BE.ev [(lw4t_at0 x0), (lw4t_at0 x1), (lw4t_at0 x2), (lw4t_at0 x3)] lw4t_q53 = false := (show BE.ev [(lw4t_at0 x0), (lw4t_at0 x1), (lw4t_at0 x2), (lw4t_at0 x3)] lw4t_q53 = lw4t_c17 x0 x1 x2 x3 f0 f1 f2 f3 by kernel_rfl).trans h17
              have ha := orT ha (notF hx)
              exact rgB ha
            have hr : InR [(0, 0), (0, 0), (0, 0), (0, 0), (-1000, 1000), (-1000, 1000), (-1000, 1000), (-1000, 1000)] [(lw4t_at0 x0), (lw4t_at0 x1), (lw4t_at0 x2), (lw4t_at0 x3), (lw4t_at1 f0), (lw4t_at1 f1), (lw4t_at1 f2), (lw4t_at1 f3)] := ⟨r8, ⟨r9, ⟨r10, ⟨r11, ⟨lw4t_rg12 x0 x1 x2 x3 f0 f1 f2 f3 hpre, ⟨lw4t_rg13 x0 x1 x2 x3 f0 f1 f2 f3 hpre, ⟨lw4t_rg14 x0 x1 x2 x3 f0 f1 f2 f3 hpre, ⟨lw4t_rg15 x0 x1 x2 x3 f0 f1 f2 f3 hpre, trivial⟩⟩⟩⟩⟩⟩⟩⟩
            have e1 : lw4t_c36 x0 x1 x2 x3 f0 f1 f2 f3 = BE.ev [(lw4t_at0 x0), (lw4t_at0 x1), (lw4t_at0 x2), (lw4t_at0 x3), (lw4t_at1 f0), (lw4t_at1 f1), (lw4t_at1 f2), (lw4t_at1 f3)] (.cm .gt lw4t_q68 (.k (1073741824))) := by kernel_rfl
            rw [e1]
            exact BE.tri_ok hr (by kernel_rfl) (by kernel_rfl)
          have h38 : (lw4t_c37 x0 x1 x2 x3 f0 f1 f2 f3 = false) := by
            have r8 : Rg.has (0, 0) (lw4t_at0 x0) := by
              have hr : InR [(-100, 100)] [(lw4t_at0 x0)] := ⟨lw4t_rg8 x0 x1 x2 x3 f0 f1 f2 f3 hpre, trivial⟩
              have ha := BE.all_ok hr lw4t_q34 (by kernel_rfl)
              have hx : BE.ev [(lw4t_at0 x0)] (.cm .eq (.v 0) (.k (0))) = true := (show BE.ev [(lw4t_at0 x0)] (.cm .eq (.v 0) (.k (0))) = lw4t_c0 x0 x1 x2 x3 f0 f1 f2 f3 by kernel_rfl).trans h0
              have ha := orT ha hx
              exact rgB ha
            have r9 : Rg.has (0, 0) (lw4t_at0 x1) := by
              have hr : InR [(-100, 100)] [(lw4t_at0 x1)] := ⟨lw4t_rg9 x0 x1 x2 x3 f0 f1 f2 f3 hpre, trivial⟩
              have ha := BE.all_ok hr lw4t_q34 (by kernel_rfl)
              have hx : BE.ev [(lw4t_at0 x1)] (.cm .eq (.v 0) (.k (0))) = true := (show BE.ev [(lw4t_at0 x1)] (.cm .eq (.v 0) (.k (0))) = lw4t_c11 x0 x1 x2 x3 f0 f1 f2 f3 by kernel_rfl).trans h1
              have ha := orT ha hx
              exact rgB ha
            have r10 : Rg.has (0, 0) (lw4t_at0 x2) := by
              have hr : InR [(-100, 100)] [(lw4t_at0 x2)] := ⟨lw4t_rg10 x0 x1 x2 x3 f0 f1 f2 f3 hpre, trivial⟩
              have ha := BE.all_ok hr lw4t_q34 (by kernel_rfl)
              have hx : BE.ev [(lw4t_at0 x2)] (.cm .eq (.v 0) (.k (0))) = true := (show BE.ev [(lw4t_at0 x2)] (.cm .eq (.v 0) (.k (0))) = lw4t_c14 x0 x1 x2 x3 f0 f1 f2 f3 by kernel_rfl).trans h2
              have ha := orT ha hx
              exact rgB ha
            have r11 : Rg.has (0, 0) (lw4t_at0 x3) := by
              have hr : InR [(0, 0), (0, 0), (0, 0), (-100, 100)] [(lw4t_at0 x0), (lw4t_at0 x1), (lw4t_at0 x2), (lw4t_at0 x3)] := ⟨r8, ⟨r9, ⟨r10, ⟨lw4t_rg11 x0 x1 x2 x3 f0 f1 f2 f3 hpre, trivial⟩⟩⟩⟩
              have ha := BE.all_ok hr lw4t_q56 (by kernel_rfl)
              have hx : BE.ev [(lw4t_at0 x0), (lw4t_at0 x1), (lw4t_at0 x2), (lw4t_at0 x3)] lw4t_q53 = false := (show BE.ev [(lw4t_at0 x0), (lw4t_at0 x1), (lw4t_at0 x2), (lw4t_at0 x3)] lw4t_q53 = lw4t_c17 x0 x1 x2 x3 f0 f1 f2 f3 by kernel_rfl).trans h17
              have ha := orT ha (notF hx)
              exact rgB ha
            have hr : InR [(0, 0), (0, 0), (0, 0), (0, 0), (-1000, 1000), (-1000, 1000), (-1000, 1000), (-1000, 1000)] [(lw4t_at0 x0), (lw4t_at0 x1), (lw4t_at0 x2), (lw4t_at0 x3), (lw4t_at1 f0), (lw4t_at1 f1), (lw4t_at1 f2), (lw4t_at1 f3)] := ⟨r8, ⟨r9, ⟨r10, ⟨r11, ⟨lw4t_rg12 x0 x1 x2 x3 f0 f1 f2 f3 hpre, ⟨lw4t_rg13 x0 x1 x2 x3 f0 f1 f2 f3 hpre, ⟨lw4t_rg14 x0 x1 x2 x3 f0 f1 f2 f3 hpre, ⟨lw4t_rg15 x0 x1 x2 x3 f0 f1 f2 f3 hpre, trivial⟩⟩⟩⟩⟩⟩⟩⟩
            have e1 : lw4t_c37 x0 x1 x2 x3 f0 f1 f2 f3 = BE.ev [(lw4t_at0 x0), (lw4t_at0 x1), (lw4t_at0 x2), (lw4t_at0 x3), (lw4t_at1 f0), (lw4t_at1 f1), (lw4t_at1 f2), (lw4t_at1 f3)] (.cm .lt lw4t_q70 (.k (-1073741824))) := by kernel_rfl
            rw [e1]
            exact BE.tri_ok hr (by kernel_rfl) (by kernel_rfl)
          have h39 : (lw4t_c38 x0 x1 x2 x3 f0 f1 f2 f3 = false) := by
            have r8 : Rg.has (0, 0) (lw4t_at0 x0) := by
              have hr : InR [(-100, 100)] [(lw4t_at0 x0)] := ⟨lw4t_rg8 x0 x1 x2 x3 f0 f1 f2 f3 hpre, trivial⟩
              have ha := BE.all_ok hr lw4t_q34 (by kernel_rfl)
              have hx : BE.ev [(lw4t_at0 x0)] (.cm .eq (.v 0) (.k (0))) = true := (show BE.ev [(lw4t_at0 x0)] (.cm .eq (.v 0) (.k (0))) = lw4t_c0 x0 x1 x2 x3 f0 f1 f2 f3 by kernel_rfl).trans h0
              have ha := orT ha hx
              exact rgB ha
            have r9 : Rg.has (0, 0) (lw4t_at0 x1) := by
              have hr : InR [(-100, 100)] [(lw4t_at0 x1)] := ⟨lw4t_rg9 x0 x1 x2 x3 f0 f1 f2 f3 hpre, trivial⟩
              have ha := BE.all_ok hr lw4t_q34 (by kernel_rfl)
              have hx : BE.ev [(lw4t_at0 x1)] (.cm .eq (.v 0) (.k (0))) = true := (show BE.ev [(lw4t_at0 x1)] (.cm .eq (.v 0) (.k (0))) = lw4t_c11 x0 x1 x2 x3 f0 f1 f2 f3 by kernel_rfl).trans h1
              have ha := orT ha hx
              exact rgB ha
            have r10 : Rg.has (0, 0) (lw4t_at0 x2) := by
              have hr : InR [(-100, 100)] [(lw4t_at0 x2)] := ⟨lw4t_rg10 x0 x1 x2 x3 f0 f1 f2 f3 hpre, trivial⟩
              have ha := BE.all_ok hr lw4t_q34 (by kernel_rfl)
              have hx : BE.ev [(lw4t_at0 x2)] (.cm .eq (.v 0) (.k (0))) = true := (show BE.ev [(lw4t_at0 x2)] (.cm .eq (.v 0) (.k (0))) = lw4t_c14 x0 x1 x2 x3 f0 f1 f2 f3 by kernel_rfl).trans h2
              have ha := orT ha hx
              exact rgB ha
            have r11 : Rg.has (0, 0) (lw4t_at0 x3) := by
              have hr : InR [(0, 0), (0, 0), (0, 0), (-100, 100)] [(lw4t_at0 x0), (lw4t_at0 x1), (lw4t_at0 x2), (lw4t_at0 x3)] := ⟨r8, ⟨r9, ⟨r10, ⟨lw4t_rg11 x0 x1 x2 x3 f0 f1 f2 f3 hpre, trivial⟩⟩⟩⟩
              have ha := BE.all_ok hr lw4t_q56 (by kernel_rfl)
              have hx : BE.ev [(lw4t_at0 x0), (lw4t_at0 x1), (lw4t_at0 x2), (lw4t_at0 x3)] lw4t_q53 = false := (show BE.ev [(lw4t_at0 x0), (lw4t_at0 x1), (lw4t_at0 x2), (lw4t_at0 x3)] lw4t_q53 = lw4t_c17 x0 x1 x2 x3 f0 f1 f2 f3 by kernel_rfl).trans h17
              have ha := orT ha (notF hx)
              exact rgB ha
            have hr : InR [(0, 0), (0, 0), (0, 0), (0, 0), (-1000, 1000), (-1000, 1000), (-1000, 1000), (-1000, 1000)] [(lw4t_at0 x0), (lw4t_at0 x1), (lw4t_at0 x2), (lw4t_at0 x3), (lw4t_at1 f0), (lw4t_at1 f1), (lw4t_at1 f2), (lw4t_at1 f3)] := ⟨r8, ⟨r9, ⟨r10, ⟨r11, ⟨lw4t_rg12 x0 x1 x2 x3 f0 f1 f2 f3 hpre, ⟨lw4t_rg13 x0 x1 x2 x3 f0 f1 f2 f3 hpre, ⟨lw4t_rg14 x0 x1 x2 x3 f0 f1 f2 f3 hpre, ⟨lw4t_rg15 x0 x1 x2 x3 f0 f1 f2 f3 hpre, trivial⟩⟩⟩⟩⟩⟩⟩⟩
            have e1 : lw4t_c38 x0 x1 x2 x3 f0 f1 f2 f3 = BE.ev [(lw4t_at0 x0), (lw4t_at0 x1), (lw4t_at0 x2), (lw4t_at0 x3), (lw4t_at1 f0), (lw4t_at1 f1), (lw4t_at1 f2), (lw4t_at1 f3)] (.cm .gt lw4t_q70 (.k (1073741824))) := by kernel_rfl
            rw [e1]
            exact BE.tri_ok hr (by kernel_rfl) (by kernel_rfl)
          have h40 : (lw4t_c39 x0 x1 x2 x3 f0 f1 f2 f3 = false) := by
            have r8 : Rg.has (0, 0) (lw4t_at0 x0) := by
              have hr : InR [(-100, 100)] [(lw4t_at0 x0)] := ⟨lw4t_rg8 x0 x1 x2 x3 f0 f1 f2 f3 hpre, trivial⟩
              have ha := BE.all_ok hr lw4t_q34 (by kernel_rfl)
              have hx : BE.ev [(lw4t_at0 x0)] (.cm .eq (.v 0) (.k (0))) = true := (show BE.ev [(lw4t_at0 x0)] (.cm .eq (.v 0) (.k (0))) = lw4t_c0 x0 x1 x2 x3 f0 f1 f2 f3 by kernel_rfl).trans h0
              have ha := orT ha hx
              exact rgB ha
            have r9 : Rg.has (0, 0) (lw4t_at0 x1) := by
              have hr : InR [(-100, 100)] [(lw4t_at0 x1)] := ⟨lw4t_rg9 x0 x1 x2 x3 f0 f1 f2 f3 hpre, trivial⟩
              have ha := BE.all_ok hr lw4t_q34 (by kernel_rfl)
              have hx : BE.ev [(lw4t_at0 x1)] (.cm .eq (.v 0) (.k (0))) = true := (show BE.ev [(lw4t_at0 x1)] (.cm .eq (.v 0) (.k (0))) = lw4t_c11 x0 x1 x2 x3 f0 f1 f2 f3 by kernel_rfl).trans h1
              have ha := orT ha hx
              exact rgB ha
            have r10 : Rg.has (0, 0) (lw4t_at0 x2) := by
              have hr : InR [(-100, 100)] [(lw4t_at0 x2)] := ⟨lw4t_rg10 x0 x1 x2 x3 f0 f1 f2 f3 hpre, trivial⟩
              have ha := BE.all_ok hr lw4t_q34 (by kernel_rfl)
              have hx : BE.ev [(lw4t_at0 x2)] (.cm .eq (.v 0) (.k (0))) = true := (show BE.ev [(lw4t_at0 x2)] (.cm .eq (.v 0) (.k (0))) = lw4t_c14 x0 x1 x2 x3 f0 f1 f2 f3 by kernel_rfl).trans h2
              have ha := orT ha hx
              exact rgB ha
            have r11 : Rg.has (0, 0) (lw4t_at0 x3) := by
              have hr : InR [(0, 0), (0, 0), (0, 0), (-100, 100)] [(lw4t_at0 x0), (lw4t_at0 x1), (lw4t_at0 x2), (lw4t_at0 x3)] := ⟨r8, ⟨r9, ⟨r10, ⟨lw4t_rg11 x0 x1 x2 x3 f0 f1 f2 f3 hpre, trivial⟩⟩⟩⟩
              have ha := BE.all_ok hr lw4t_q56 (by kernel_rfl)
              have hx : BE.ev [(lw4t_at0 x0), (lw4t_at0 x1), (lw4t_at0 x2), (lw4t_at0 x3)] lw4t_q53 = false := (show BE.ev [(lw4t_at0 x0), (lw4t_at0 x1), (lw4t_at0 x2), (lw4t_at0 x3)] lw4t_q53 = lw4t_c17 x0 x1 x2 x3 f0 f1 f2 f3 by kernel_rfl).trans h17
              have ha := orT ha (notF hx)
              exact rgB ha
            have hr : InR [(0, 0), (0, 0), (0, 0), (0, 0), (-1000, 1000), (-1000, 1000), (-1000, 1000), (-1000, 1000)] [(lw4t_at0 x0), (lw4t_at0 x1), (lw4t_at0 x2), (lw4t_at0 x3), (lw4t_at1 f0), (lw4t_at1 f1), (lw4t_at1 f2), (lw4t_at1 f3)] := ⟨r8, ⟨r9, ⟨r10, ⟨r11, ⟨lw4t_rg12 x0 x1 x2 x3 f0 f1 f2 f3 hpre, ⟨lw4t_rg13 x0 x1 x2 x3 f0 f1 f2 f3 hpre, ⟨lw4t_rg14 x0 x1 x2 x3 f0 f1 f2 f3 hpre, ⟨lw4t_rg15 x0 x1 x2 x3 f0 f1 f2 f3 hpre, trivial⟩⟩⟩⟩⟩⟩⟩⟩
            have e1 : lw4t_c39 x0 x1 x2 x3 f0 f1 f2 f3 = BE.ev [(lw4t_at0 x0), (lw4t_at0 x1), (lw4t_at0 x2), (lw4t_at0 x3), (lw4t_at1 f0), (lw4t_at1 f1), (lw4t_at1 f2), (lw4t_at1 f3)] (.cm .lt lw4t_q72 (.k (-1073741824))) := by kernel_rfl
            rw [e1]
            exact BE.tri_ok hr (by kernel_rfl) (by kernel_rfl)
          have h41 : (lw4t_c40 x0 x1 x2 x3 f0 f1 f2 f3 = false) := by
            have r8 : Rg.has (0, 0) (lw4t_at0 x0) := by
              have hr : InR [(-100, 100)] [(lw4t_at0 x0)] := ⟨lw4t_rg8 x0 x1 x2 x3 f0 f1 f2 f3 hpre, trivial⟩
              have ha := BE.all_ok hr lw4t_q34 (by kernel_rfl)
              have hx : BE.ev [(lw4t_at0 x0)] (.cm .eq (.v 0) (.k (0))) = true := (show BE.ev [(lw4t_at0 x0)] (.cm .eq (.v 0) (.k (0))) = lw4t_c0 x0 x1 x2 x3 f0 f1 f2 f3 by kernel_rfl).trans h0
              have ha := orT ha hx
              exact rgB ha
            have r9 : Rg.has (0, 0) (lw4t_at0 x1) := by
              have hr : InR [(-100, 100)] [(lw4t_at0 x1)] := ⟨lw4t_rg9 x0 x1 x2 x3 f0 f1 f2 f3 hpre, trivial⟩
              have ha := BE.all_ok hr lw4t_q34 (by kernel_rfl)
              have hx : BE.ev [(lw4t_at0 x1)] (.cm .eq (.v 0) (.k (0))) = true := (show BE.ev [(lw4t_at0 x1)] (.cm .eq (.v 0) (.k (0))) = lw4t_c11 x0 x1 x2 x3 f0 f1 f2 f3 by kernel_rfl).trans h1
              have ha := orT ha hx
              exact rgB ha
            have r10 : Rg.has (0, 0) (lw4t_at0 x2) := by
              have hr : InR [(-100, 100)] [(lw4t_at0 x2)] := ⟨lw4t_rg10 x0 x1 x2 x3 f0 f1 f2 f3 hpre, trivial⟩
              have ha := BE.all_ok hr lw4t_q34 (by kernel_rfl)
              have hx : BE.ev [(lw4t_at0 x2)] (.cm .eq (.v 0) (.k (0))) = true := (show BE.ev [(lw4t_at0 x2)] (.cm .eq (.v 0) (.k (0))) = lw4t_c14 x0 x1 x2 x3 f0 f1 f2 f3 by kernel_rfl).trans h2
              have ha := orT ha hx
              exact rgB ha
            have r11 : Rg.has (0, 0) (lw4t_at0 x3) := by
              have hr : InR [(0, 0), (0, 0), (0, 0), (-100, 100)] [(lw4t_at0 x0), (lw4t_at0 x1), (lw4t_at0 x2), (lw4t_at0 x3)] := ⟨r8, ⟨r9, ⟨r10, ⟨lw4t_rg11 x0 x1 x2 x3 f0 f1 f2 f3 hpre, trivial⟩⟩⟩⟩
              have ha := BE.all_ok hr lw4t_q56 (by kernel_rfl)
              have hx : BE.ev [(lw4t_at0 x0), (lw4t_at0 x1), (lw4t_at0 x2), (lw4t_at0 x3)] lw4t_q53 = false := (show BE.ev [(lw4t_at0 x0), (lw4t_at0 x1), (lw4t_at0 x2), (lw4t_at0 x3)] lw4t_q53 = lw4t_c17 x0 x1 x2 x3 f0 f1 f2 f3 by kernel_rfl).trans h17
              have ha := orT ha (notF hx)
              exact rgB ha
            have hr : InR [(0, 0), (0, 0), (0, 0), (0, 0), (-1000, 1000), (-1000, 1000), (-1000, 1000), (-1000, 1000)] [(lw4t_at0 x0), (lw4t_at0 x1), (lw4t_at0 x2), (lw4t_at0 x3), (lw4t_at1 f0), (lw4t_at1 f1), (lw4t_at1 f2), (lw4t_at1 f3)] := ⟨r8, ⟨r9, ⟨r10, ⟨r11, ⟨lw4t_rg12 x0 x1 x2 x3 f0 f1 f2 f3 hpre, ⟨lw4t_rg13 x0 x1 x2 x3 f0 f1 f2 f3 hpre, ⟨lw4t_rg14 x0 x1 x2 x3 f0 f1 f2 f3 hpre, ⟨lw4t_rg15 x0 x1 x2 x3 f0 f1 f2 f3 hpre, trivial⟩⟩⟩⟩⟩⟩⟩⟩
            have e1 : lw4t_c40 x0 x1 x2 x3 f0 f1 f2 f3 = BE.ev [(lw4t_at0 x0), (lw4t_at0 x1), (lw4t_at0 x2), (lw4t_at0 x3), (lw4t_at1 f0), (lw4t_at1 f1), (lw4t_at1 f2), (lw4t_at1 f3)] (.cm .gt lw4t_q72 (.k (1073741824))) := by kernel_rfl
            rw [e1]
            exact BE.tri_ok hr (by kernel_rfl) (by kernel_rfl)
          have h42 : (lw4t_c41 x0 x1 x2 x3 f0 f1 f2 f3 = false) := by
            have r8 : Rg.has (0, 0) (lw4t_at0 x0) := by
              have hr : InR [(-100, 100)] [(lw4t_at0 x0)] := ⟨lw4t_rg8 x0 x1 x2 x3 f0 f1 f2 f3 hpre, trivial⟩
              have ha := BE.all_ok hr lw4t_q34 (by kernel_rfl)
              have hx : BE.ev [(lw4t_at0 x0)] (.cm .eq (.v 0) (.k (0))) = true := (show BE.ev [(lw4t_at0 x0)] (.cm .eq (.v 0) (.k (0))) = lw4t_c0 x0 x1 x2 x3 f0 f1 f2 f3 by kernel_rfl).trans h0
              have ha := orT ha hx
              exact rgB ha
            have r9 : Rg.has (0, 0) (lw4t_at0 x1) := by
              have hr : InR [(-100, 100)] [(lw4t_at0 x1)] := ⟨lw4t_rg9 x0 x1 x2 x3 f0 f1 f2 f3 hpre, trivial⟩
              have ha := BE.all_ok hr lw4t_q34 (by kernel_rfl)
              have hx : BE.ev [(lw4t_at0 x1)] (.cm .eq (.v 0) (.k (0))) = true := (show BE.ev [(lw4t_at0 x1)] (.cm .eq (.v 0) (.k (0))) = lw4t_c11 x0 x1 x2 x3 f0 f1 f2 f3 by kernel_rfl).trans h1
              have ha := orT ha hx
              exact rgB ha
            have r10 : Rg.has (0, 0) (lw4t_at0 x2) := by
              have hr : InR [(-100, 100)] [(lw4t_at0 x2)] := ⟨lw4t_rg10 x0 x1 x2 x3 f0 f1 f2 f3 hpre, trivial⟩
              have ha := BE.all_ok hr lw4t_q34 (by kernel_rfl)
              have hx : BE.ev [(lw4t_at0 x2)] (.cm .eq (.v 0) (.k (0))) = true := (show BE.ev [(lw4t_at0 x2)] (.cm .eq (.v 0) (.k (0))) = lw4t_c14 x0 x1 x2 x3 f0 f1 f2 f3 by kernel_rfl).trans h2
              have ha := orT ha hx
              exact rgB ha
            have r11 : Rg.has (0, 0) (lw4t_at0 x3) := by
              have hr : InR [(0, 0), (0, 0), (0, 0), (-100, 100)] [(lw4t_at0 x0), (lw4t_at0 x1), (lw4t_at0 x2), (lw4t_at0 x3)] := ⟨r8, ⟨r9, ⟨r10, ⟨lw4t_rg11 x0 x1 x2 x3 f0 f1 f2 f3 hpre, trivial⟩⟩⟩⟩
              have ha := BE.all_ok hr lw4t_q56 (by kernel_rfl)
              have hx : BE.ev [(lw4t_at0 x0), (lw4t_at0 x1), (lw4t_at0 x2), (lw4t_at0 x3)] lw4t_q53 = false := (show BE.ev [(lw4t_at0 x0), (lw4t_at0 x1), (lw4t_at0 x2), (lw4t_at0 x3)] lw4t_q53 = lw4t_c17 x0 x1 x2 x3 f0 f1 f2 f3 by kernel_rfl).trans h17
              have ha := orT ha (notF hx)
              exact rgB ha
            have hr : InR [(0, 0), (0, 0), (0, 0), (0, 0), (-1000, 1000), (-1000, 1000), (-1000, 1000), (-1000, 1000)] [(lw4t_at0 x0), (lw4t_at0 x1), (lw4t_at0 x2), (lw4t_at0 x3), (lw4t_at1 f0), (lw4t_at1 f1), (lw4t_at1 f2), (lw4t_at1 f3)] := ⟨r8, ⟨r9, ⟨r10, ⟨r11, ⟨lw4t_rg12 x0 x1 x2 x3 f0 f1 f2 f3 hpre, ⟨lw4t_rg13 x0 x1 x2 x3 f0 f1 f2 f3 hpre, ⟨lw4t_rg14 x0 x1 x2 x3 f0 f1 f2 f3 hpre, ⟨lw4t_rg15 x0 x1 x2 x3 f0 f1 f2 f3 hpre, trivial⟩⟩⟩⟩⟩⟩⟩⟩
            have e1 : lw4t_c41 x0 x1 x2 x3 f0 f1 f2 f3 = BE.ev [(lw4t_at0 x0), (lw4t_at0 x1), (lw4t_at0 x2), (lw4t_at0 x3), (lw4t_at1 f0), (lw4t_at1 f1), (lw4t_at1 f2), (lw4t_at1 f3)] (.cm .ne (.wr lw4t_q63) (.k (0))) := by kernel_rfl
            rw [e1]
            exact BE.tri_ok hr (by kernel_rfl) (by kernel_rfl)
          have h43 : (lw4t_c42 x0 x1 x2 x3 f0 f1 f2 f3 = false) := by
            have r8 : Rg.has (0, 0) (lw4t_at0 x0) := by
              have hr : InR [(-100, 100)] [(lw4t_at0 x0)] := ⟨lw4t_rg8 x0 x1 x2 x3 f0 f1 f2 f3 hpre, trivial⟩
              have ha := BE.all_ok hr lw4t_q34 (by kernel_rfl)
              have hx : BE.ev [(lw4t_at0 x0)] (.cm .eq (.v 0) (.k (0))) = true := (show BE.ev [(lw4t_at0 x0)] (.cm .eq (.v 0) (.k (0))) = lw4t_c0 x0 x1 x2 x3 f0 f1 f2 f3 by kernel_rfl).trans h0
              have ha := orT ha hx
              exact rgB ha
            have r9 : Rg.has (0, 0) (lw4t_at0 x1) := by
              have hr : InR [(-100, 100)] [(lw4t_at0 x1)] := ⟨lw4t_rg9 x0 x1 x2 x3 f0 f1 f2 f3 hpre, trivial⟩
              have ha := BE.all_ok hr lw4t_q34 (by kernel_rfl)
              have hx : BE.ev [(lw4t_at0 x1)] (.cm .eq (.v 0) (.k (0))) = true := (show BE.ev [(lw4t_at0 x1)] (.cm .eq (.v 0) (.k (0))) = lw4t_c11 x0 x1 x2 x3 f0 f1 f2 f3 by kernel_rfl).trans h1
              have ha := orT ha hx
              exact rgB ha
            have r10 : Rg.has (0, 0) (lw4t_at0 x2) := by
              have hr : InR [(-100, 100)] [(lw4t_at0 x2)] := ⟨lw4t_rg10 x0 x1 x2 x3 f0 f1 f2 f3 hpre, trivial⟩
              have ha := BE.all_ok hr lw4t_q34 (by kernel_rfl)
              have hx : BE.ev [(lw4t_at0 x2)] (.cm .eq (.v 0) (.k (0))) = true := (show BE.ev [(lw4t_at0 x2)] (.cm .eq (.v 0) (.k (0))) = lw4t_c14 x0 x1 x2 x3 f0 f1 f2 f3 by kernel_rfl).trans h2
              have ha := orT ha hx
              exact rgB ha
            have r11 : Rg.has (0, 0) (lw4t_at0 x3) := by
              have hr : InR [(0, 0), (0, 0), (0, 0), (-100, 100)] [(lw4t_at0 x0), (lw4t_at0 x1), (lw4t_at0 x2), (lw4t_at0 x3)] := ⟨r8, ⟨r9, ⟨r10, ⟨lw4t_rg11 x0 x1 x2 x3 f0 f1 f2 f3 hpre, trivial⟩⟩⟩⟩
              have ha := BE.all_ok hr lw4t_q56 (by kernel_rfl)
              have hx : BE.ev [(lw4t_at0 x0), (lw4t_at0 x1), (lw4t_at0 x2), (lw4t_at0 x3)] lw4t_q53 = false := (show BE.ev [(lw4t_at0 x0), (lw4t_at0 x1), (lw4t_at0 x2), (lw4t_at0 x3)] lw4t_q53 = lw4t_c17 x0 x1 x2 x3 f0 f1 f2 f3 by kernel_rfl).trans h17
              have ha := orT ha (notF hx)
              exact rgB ha
            have hr : InR [(0, 0), (0, 0), (0, 0), (0, 0), (-1000, 1000), (-1000, 1000), (-1000, 1000), (-1000, 1000)] [(lw4t_at0 x0), (lw4t_at0 x1), (lw4t_at0 x2), (lw4t_at0 x3), (lw4t_at1 f0), (lw4t_at1 f1), (lw4t_at1 f2), (lw4t_at1 f3)] := ⟨r8, ⟨r9, ⟨r10, ⟨r11, ⟨lw4t_rg12 x0 x1 x2 x3 f0 f1 f2 f3 hpre, ⟨lw4t_rg13 x0 x1 x2 x3 f0 f1 f2 f3 hpre, ⟨lw4t_rg14 x0 x1 x2 x3 f0 f1 f2 f3 hpre, ⟨lw4t_rg15 x0 x1 x2 x3 f0 f1 f2 f3 hpre, trivial⟩⟩⟩⟩⟩⟩⟩⟩
            have e1 : lw4t_c42 x0 x1 x2 x3 f0 f1 f2 f3 = BE.ev [(lw4t_at0 x0), (lw4t_at0 x1), (lw4t_at0 x2), (lw4t_at0 x3), (lw4t_at1 f0), (lw4t_at1 f1), (lw4t_at1 f2), (lw4t_at1 f3)] (.cm .ne (.wr lw4t_q65) (.k (0))) := by kernel_rfl
            rw [e1]
            exact BE.tri_ok hr (by kernel_rfl) (by kernel_rfl)
          have h44 : (lw4t_c43 x0 x1 x2 x3 f0 f1 f2 f3 = false) := by
            have r8 : Rg.has (0, 0) (lw4t_at0 x0) := by
              have hr : InR [(-100, 100)] [(lw4t_at0 x0)] := ⟨lw4t_rg8 x0 x1 x2 x3 f0 f1 f2 f3 hpre, trivial⟩
              have ha := BE.all_ok hr lw4t_q34 (by kernel_rfl)
              have hx : BE.ev [(lw4t_at0 x0)] (.cm .eq (.v 0) (.k (0))) = true := (show BE.ev [(lw4t_at0 x0)] (.cm .eq (.v 0) (.k (0))) = lw4t_c0 x0 x1 x2 x3 f0 f1 f2 f3 by kernel_rfl).trans h0
              have ha := orT ha hx
              exact rgB ha
            have r9 : Rg.has (0, 0) (lw4t_at0 x1) := by
              have hr : InR [(-100, 100)] [(lw4t_at0 x1)] := ⟨lw4t_rg9 x0 x1 x2 x3 f0 f1 f2 f3 hpre, trivial⟩
              have ha := BE.all_ok hr lw4t_q34 (by kernel_rfl)
              have hx : BE.ev [(lw4t_at0 x1)] (.cm .eq (.v 0) (.k (0))) = true := (show BE.ev [(lw4t_at0 x1)] (.cm .eq (.v 0) (.k (0))) = lw4t_c11 x0 x1 x2 x3 f0 f1 f2 f3 by kernel_rfl).trans h1
              have ha := orT ha hx
              exact rgB ha
            have r10 : Rg.has (0, 0) (lw4t_at0 x2) := by
              have hr : InR [(-100, 100)] [(lw4t_at0 x2)] := ⟨lw4t_rg10 x0 x1 x2 x3 f0 f1 f2 f3 hpre, trivial⟩
              have ha := BE.all_ok hr lw4t_q34 (by kernel_rfl)
              have hx : BE.ev [(lw4t_at0 x2)] (.cm .eq (.v 0) (.k (0))) = true := (show BE.ev [(lw4t_at0 x2)] (.cm .eq (.v 0) (.k (0))) = lw4t_c14 x0 x1 x2 x3 f0 f1 f2 f3 by kernel_rfl).trans h2
              have ha := orT ha hx
              exact rgB ha
            have r11 : Rg.has (0, 0) (lw4t_at0 x3) := by
              have hr : InR [(0, 0), (0, 0), (0, 0), (-100, 100)] [(lw4t_at0 x0), (lw4t_at0 x1), (lw4t_at0 x2), (lw4t_at0 x3)] := ⟨r8, ⟨r9, ⟨r10, ⟨lw4t_rg11 x0 x1 x2 x3 f0 f1 f2 f3 hpre, trivial⟩⟩⟩⟩
              have ha := BE.all_ok hr lw4t_q56 (by kernel_rfl)
              have hx : BE.ev [(lw4t_at0 x0), (lw4t_at0 x1), (lw4t_at0 x2), (lw4t_at0 x3)] lw4t_q53 = false := (show BE.ev [(lw4t_at0 x0), (lw4t_at0 x1), (lw4t_at0 x2), (lw4t_at0 x3)] lw4t_q53 = lw4t_c17 x0 x1 x2 x3 f0 f1 f2 f3 by kernel_rfl).trans h17
              have ha := orT ha (notF hx)
              exact rgB ha
            have hr : InR [(0, 0), (0, 0), (0, 0), (0, 0), (-1000, 1000), (-1000, 1000), (-1000, 1000), (-1000, 1000)] [(lw4t_at0 x0), (lw4t_at0 x1), (lw4t_at0 x2), (lw4t_at0 x3), (lw4t_at1 f0), (lw4t_at1 f1), (lw4t_at1 f2), (lw4t_at1 f3)] := ⟨r8, ⟨r9, ⟨r10, ⟨r11, ⟨lw4t_rg12 x0 x1 x2 x3 f0 f1 f2 f3 hpre, ⟨lw4t_rg13 x0 x1 x2 x3 f0 f1 f2 f3 hpre, ⟨lw4t_rg14 x0 x1 x2 x3 f0 f1 f2 f3 hpre, ⟨lw4t_rg15 x0 x1 x2 x3 f0 f1 f2 f3 hpre, trivial⟩⟩⟩⟩⟩⟩⟩⟩
            have e1 : lw4t_c43 x0 x1 x2 x3 f0 f1 f2 f3 = BE.ev [(lw4t_at0 x0), (lw4t_at0 x1), (lw4t_at0 x2), (lw4t_at0 x3), (lw4t_at1 f0), (lw4t_at1 f1), (lw4t_at1 f2), (lw4t_at1 f3)] (.cm .ne lw4t_q66 (.k (0))) := by kernel_rfl
            rw [e1]
            exact BE.tri_ok hr (by kernel_rfl) (by kernel_rfl)
          have h45 : (lw4t_c44 x0 x1 x2 x3 f0 f1 f2 f3 = false) := by
            have r8 : Rg.has (0, 0) (lw4t_at0 x0) := by
              have hr : InR [(-100, 100)] [(lw4t_at0 x0)] := ⟨lw4t_rg8 x0 x1 x2 x3 f0 f1 f2 f3 hpre, trivial⟩
              have ha := BE.all_ok hr lw4t_q34 (by kernel_rfl)
              have hx : BE.ev [(lw4t_at0 x0)] (.cm .eq (.v 0) (.k (0))) = true := (show BE.ev [(lw4t_at0 x0)] (.cm .eq (.v 0) (.k (0))) = lw4t_c0 x0 x1 x2 x3 f0 f1 f2 f3 by kernel_rfl).trans h0
              have ha := orT ha hx
              exact rgB ha
            have r9 : Rg.has (0, 0) (lw4t_at0 x1) := by
              have hr : InR [(-100, 100)] [(lw4t_at0 x1)] := ⟨lw4t_rg9 x0 x1 x2 x3 f0 f1 f2 f3 hpre, trivial⟩
              have ha := BE.all_ok hr lw4t_q34 (by kernel_rfl)
              have hx : BE.ev [(lw4t_at0 x1)] (.cm .eq (.v 0) (.k (0))) = true := (show BE.ev [(lw4t_at0 x1)] (.cm .eq (.v 0) (.k (0))) = lw4t_c11 x0 x1 x2 x3 f0 f1 f2 f3 by kernel_rfl).trans h1
              have ha := orT ha hx
              exact rgB ha
            have r10 : Rg.has (0, 0) (lw4t_at0 x2) := by
              have hr : InR [(-100, 100)] [(lw4t_at0 x2)] := ⟨lw4t_rg10 x0 x1 x2 x3 f0 f1 f2 f3 hpre, trivial⟩
              have ha := BE.all_ok hr lw4t_q34 (by kernel_rfl)
              have hx : BE.ev [(lw4t_at0 x2)] (.cm .eq (.v 0) (.k (0))) = true := (show BE.ev [(lw4t_at0 x2)] (.cm .eq (.v 0) (.k (0))) = lw4t_c14 x0 x1 x2 x3 f0 f1 f2 f3 by kernel_rfl).trans h2
              have ha := orT ha hx
              exact rgB ha
            have r11 : Rg.has (0, 0) (lw4t_at0 x3) := by
              have hr : InR [(0, 0), (0, 0), (0, 0), (-100, 100)] [(lw4t_at0 x0), (lw4t_at0 x1), (lw4t_at0 x2), (lw4t_at0 x3)] := ⟨r8, ⟨r9, ⟨r10, ⟨lw4t_rg11 x0 x1 x2 x3 f0 f1 f2 f3 hpre, trivial⟩⟩⟩⟩
              have ha := BE.all_ok hr lw4t_q56 (by kernel_rfl)
              have hx : BE.ev [(lw4t_at0 x0), (lw4t_at0 x1), (lw4t_at0 x2), (lw4t_at0 x3)] lw4t_q53 = false := (show BE.ev [(lw4t_at0 x0), (lw4t_at0 x1), (lw4t_at0 x2), (lw4t_at0 x3)] lw4t_q53 = lw4t_c17 x0 x1 x2 x3 f0 f1 f2 f3 by kernel_rfl).trans h17
              have ha := orT ha (notF hx)
              exact rgB ha
            have hr : InR [(0, 0), (0, 0), (0, 0), (0, 0), (-1000, 1000), (-1000, 1000), (-1000, 1000), (-1000, 1000)] [(lw4t_at0 x0), (lw4t_at0 x1), (lw4t_at0 x2), (lw4t_at0 x3), (lw4t_at1 f0), (lw4t_at1 f1), (lw4t_at1 f2), (lw4t_at1 f3)] := ⟨r8, ⟨r9, ⟨r10, ⟨r11, ⟨lw4t_rg12 x0 x1 x2 x3 f0 f1 f2 f3 hpre, ⟨lw4t_rg13 x0 x1 x2 x3 f0 f1 f2 f3 hpre, ⟨lw4t_rg14 x0 x1 x2 x3 f0 f1 f2 f3 hpre, ⟨lw4t_rg15 x0 x1 x2 x3 f0 f1 f2 f3 hpre, trivial⟩⟩⟩⟩⟩⟩⟩⟩
            have e1 : lw4t_c44 x0 x1 x2 x3 f0 f1 f2 f3 = BE.ev [(lw4t_at0 x0), (lw4t_at0 x1), (lw4t_at0 x2), (lw4t_at0 x3), (lw4t_at1 f0), (lw4t_at1 f1), (lw4t_at1 f2), (lw4t_at1 f3)] (.cm .ne lw4t_q68 (.k (0))) := by kernel_rfl
            rw [e1]
            exact BE.tri_ok hr (by kernel_rfl) (by kernel_rfl)
          have h46 : (lw4t_c45 x0 x1 x2 x3 f0 f1 f2 f3 = false) := by
            have r8 : Rg.has (0, 0) (lw4t_at0 x0) := by
              have hr : InR [(-100, 100)] [(lw4t_at0 x0)] := ⟨lw4t_rg8 x0 x1 x2 x3 f0 f1 f2 f3 hpre, trivial⟩
              have ha := BE.all_ok hr lw4t_q34 (by kernel_rfl)
              have hx : BE.ev [(lw4t_at0 x0)] (.cm .eq (.v 0) (.k (0))) = true := (show BE.ev [(lw4t_at0 x0)] (.cm .eq (.v 0) (.k (0))) = lw4t_c0 x0 x1 x2 x3 f0 f1 f2 f3 by kernel_rfl).trans h0
              have ha := orT ha hx
              exact rgB ha
            have r9 : Rg.has (0, 0) (lw4t_at0 x1) := by
              have hr : InR [(-100, 100)] [(lw4t_at0 x1)] := ⟨lw4t_rg9 x0 x1 x2 x3 f0 f1 f2 f3 hpre, trivial⟩
              have ha := BE.all_ok hr lw4t_q34 (by kernel_rfl)
              have hx : BE.ev [(lw4t_at0 x1)] (.cm .eq (.v 0) (.k (0))) = true := (show BE.ev [(lw4t_at0 x1)] (.cm .eq (.v 0) (.k (0))) = lw4t_c11 x0 x1 x2 x3 f0 f1 f2 f3 by kernel_rfl).trans h1
              have ha := orT ha hx
              exact rgB ha
            have r10 : Rg.has (0, 0) (lw4t_at0 x2) := by
              have hr : InR [(-100, 100)] [(lw4t_at0 x2)] := ⟨lw4t_rg10 x0 x1 x2 x3 f0 f1 f2 f3 hpre, trivial⟩
              have ha := BE.all_ok hr lw4t_q34 (by kernel_rfl)
              have hx : BE.ev [(lw4t_at0 x2)] (.cm .eq (.v 0) (.k (0))) = true := (show BE.ev [(lw4t_at0 x2)] (.cm .eq (.v 0) (.k (0))) = lw4t_c14 x0 x1 x2 x3 f0 f1 f2 f3 by kernel_rfl).trans h2
              have ha := orT ha hx
              exact rgB ha
            have r11 : Rg.has (0, 0) (lw4t_at0 x3) := by
              have hr : InR [(0, 0), (0, 0), (0, 0), (-100, 100)] [(lw4t_at0 x0), (lw4t_at0 x1), (lw4t_at0 x2), (lw4t_at0 x3)] := ⟨r8, ⟨r9, ⟨r10, ⟨lw4t_rg11 x0 x1 x2 x3 f0 f1 f2 f3 hpre, trivial⟩⟩⟩⟩
              have ha := BE.all_ok hr lw4t_q56 (by kernel_rfl)
              have hx : BE.ev [(lw4t_at0 x0), (lw4t_at0 x1), (lw4t_at0 x2), (lw4t_at0 x3)] lw4t_q53 = false := (show BE.ev [(lw4t_at0 x0), (lw4t_at0 x1), (lw4t_at0 x2), (lw4t_at0 x3)] lw4t_q53 = lw4t_c17 x0 x1 x2 x3 f0 f1 f2 f3 by kernel_rfl).trans h17
              have ha := orT ha (notF hx)
              exact rgB ha
            have hr : InR [(0, 0), (0, 0), (0, 0), (0, 0), (-1000, 1000), (-1000, 1000), (-1000, 1000), (-1000, 1000)] [(lw4t_at0 x0), (lw4t_at0 x1), (lw4t_at0 x2), (lw4t_at0 x3), (lw4t_at1 f0), (lw4t_at1 f1), (lw4t_at1 f2), (lw4t_at1 f3)] := ⟨r8, ⟨r9, ⟨r10, ⟨r11, ⟨lw4t_rg12 x0 x1 x2 x3 f0 f1 f2 f3 hpre, ⟨lw4t_rg13 x0 x1 x2 x3 f0 f1 f2 f3 hpre, ⟨lw4t_rg14 x0 x1 x2 x3 f0 f1 f2 f3 hpre, ⟨lw4t_rg15 x0 x1 x2 x3 f0 f1 f2 f3 hpre, trivial⟩⟩⟩⟩⟩⟩⟩⟩
            have e1 : lw4t_c45 x0 x1 x2 x3 f0 f1 f2 f3 = BE.ev [(lw4t_at0 x0), (lw4t_at0 x1), (lw4t_at0 x2), (lw4t_at0 x3), (lw4t_at1 f0), (lw4t_at1 f1), (lw4t_at1 f2), (lw4t_at1 f3)] (.cm .ne lw4t_q70 (.k (0))) := by kernel_rfl
            rw [e1]
            exact BE.tri_ok hr (by kernel_rfl) (by kernel_rfl)
          have h47 : (lw4t_c46 x0 x1 x2 x3 f0 f1 f2 f3 = false) := by
            have r8 : Rg.has (0, 0) (lw4t_at0 x0) := by
              have hr : InR [(-100, 100)] [(lw4t_at0 x0)] := ⟨lw4t_rg8 x0 x1 x2 x3 f0 f1 f2 f3 hpre, trivial⟩
              have ha := BE.all_ok hr lw4t_q34 (by kernel_rfl)
              have hx : BE.ev [(lw4t_at0 x0)] (.cm .eq (.v 0) (.k (0))) = true := (show BE.ev [(lw4t_at0 x0)] (.cm .eq (.v 0) (.k (0))) = lw4t_c0 x0 x1 x2 x3 f0 f1 f2 f3 by kernel_rfl).trans h0
              have ha := orT ha hx
              exact rgB ha
            have r9 : Rg.has (0, 0) (lw4t_at0 x1) := by
              have hr : InR [(-100, 100)] [(lw4t_at0 x1)] := ⟨lw4t_rg9 x0 x1 x2 x3 f0 f1 f2 f3 hpre, trivial⟩
              have ha := BE.all_ok hr lw4t_q34 (by kernel_rfl)
              have hx : BE.ev [(lw4t_at0 x1)] (.cm .eq (.v 0) (.k (0))) = true := (show BE.ev [(lw4t_at0 x1)] (.cm .eq (.v 0) (.k (0))) = lw4t_c11 x0 x1 x2 x3 f0 f1 f2 f3 by kernel_rfl).trans h1
              have ha := orT ha hx
              exact rgB ha
            have r10 : Rg.has (0, 0) (lw4t_at0 x2) := by
              have hr : InR [(-100, 100)] [(lw4t_at0 x2)] := ⟨lw4t_rg10 x0 x1 x2 x3 f0 f1 f2 f3 hpre, trivial⟩
              have ha := BE.all_ok hr lw4t_q34 (by kernel_rfl)
              have hx : BE.ev [(lw4t_at0 x2)] (.cm .eq (.v 0) (.k (0))) = true := (show BE.ev [(lw4t_at0 x2)] (.cm .eq (.v 0) (.k (0))) = lw4t_c14 x0 x1 x2 x3 f0 f1 f2 f3 by kernel_rfl).trans h2
              have ha := orT ha hx
              exact rgB ha
            have r11 : Rg.has (0, 0) (lw4t_at0 x3) := by
              have hr : InR [(0, 0), (0, 0), (0, 0), (-100, 100)] [(lw4t_at0 x0), (lw4t_at0 x1), (lw4t_at0 x2), (lw4t_at0 x3)] := ⟨r8, ⟨r9, ⟨r10, ⟨lw4t_rg11 x0 x1 x2 x3 f0 f1 f2 f3 hpre, trivial⟩⟩⟩⟩
              have ha := BE.all_ok hr lw4t_q56 (by kernel_rfl)
              have hx : BE.ev [(lw4t_at0 x0), (lw4t_at0 x1), (lw4t_at0 x2), (lw4t_at0 x3)] lw4t_q53 = false := (show BE.ev [(lw4t_at0 x0), (lw4t_at0 x1), (lw4t_at0 x2), (lw4t_at0 x3)] lw4t_q53 = lw4t_c17 x0 x1 x2 x3 f0 f1 f2 f3 by kernel_rfl).trans h17
              have ha := orT ha (notF hx)
              exact rgB ha
            have hr : InR [(0, 0), (0, 0), (0, 0), (0, 0), (-1000, 1000), (-1000, 1000), (-1000, 1000), (-1000, 1000)] [(lw4t_at0 x0), (lw4t_at0 x1), (lw4t_at0 x2), (lw4t_at0 x3), (lw4t_at1 f0), (lw4t_at1 f1), (lw4t_at1 f2), (lw4t_at1 f3)] := ⟨r8, ⟨r9, ⟨r10, ⟨r11, ⟨lw4t_rg12 x0 x1 x2 x3 f0 f1 f2 f3 hpre, ⟨lw4t_rg13 x0 x1 x2 x3 f0 f1 f2 f3 hpre, ⟨lw4t_rg14 x0 x1 x2 x3 f0 f1 f2 f3 hpre, ⟨lw4t_rg15 x0 x1 x2 x3 f0 f1 f2 f3 hpre, trivial⟩⟩⟩⟩⟩⟩⟩⟩
            have e1 : lw4t_c46 x0 x1 x2 x3 f0 f1 f2 f3 = BE.ev [(lw4t_at0 x0), (lw4t_at0 x1), (lw4t_at0 x2), (lw4t_at0 x3), (lw4t_at1 f0), (lw4t_at1 f1), (lw4t_at1 f2), (lw4t_at1 f3)] (.cm .ne lw4t_q72 (.k (0))) := by kernel_rfl
            rw [e1]
            exact BE.tri_ok hr (by kernel_rfl) (by kernel_rfl)
          exact lw4t_p4 x0 x1 x2 x3 f0 f1 f2 f3 c (lw4t_z20_h (lw4t_z18_h (lw4t_z14_h (lw4t_z8_h (lw4t_z17_h (lw4t_z12_h (lw4t_z6_h (lw4t_z2_h (lw4t_z16_h (lw4t_z10_h (lw4t_z4_h (lw4t_z0_h trivial x0 x1 x2 x3 f0 f1 f2 f3 hpre) x0 x1 x2 x3 f0 f1 f2 f3 hpre h0) x0 x1 x2 x3 f0 f1 f2 f3 hpre h1) x0 x1 x2 x3 f0 f1 f2 f3 hpre h2) x0 x1 x2 x3 f0 f1 f2 f3 hpre) x0 x1 x2 x3 f0 f1 f2 f3 hpre h11) x0 x1 x2 x3 f0 f1 f2 f3 hpre h12) x0 x1 x2 x3 f0 f1 f2 f3 hpre h13) x0 x1 x2 x3 f0 f1 f2 f3 hpre h14) x0 x1 x2 x3 f0 f1 f2 f3 hpre h15) x0 x1 x2 x3 f0 f1 f2 f3 hpre h16) x0 x1 x2 x3 f0 f1 f2 f3 hpre h17 h20 h21 h34 h35 h36 h37 h38 h39 h40 h41 h42 h43 h44 h45 h46 h47)
      ·
        have h48 : (lw4t_c1 x0 x1 x2 x3 f0 f1 f2 f3 = false) := lw4t_c1_ff x0 x1 x2 x3 f0 f1 f2 f3 hpre
        have h49 : (lw4t_c2 x0 x1 x2 x3 f0 f1 f2 f3 = false) := lw4t_c2_ff x0 x1 x2 x3 f0 f1 f2 f3 hpre
        have h50 : (lw4t_c3 x0 x1 x2 x3 f0 f1 f2 f3 = false) := lw4t_c3_ff x0 x1 x2 x3 f0 f1 f2 f3 hpre
        have h51 : (lw4t_c4 x0 x1 x2 x3 f0 f1 f2 f3 = false) := lw4t_c4_ff x0 x1 x2 x3 f0 f1 f2 f3 hpre
        have h52 : (lw4t_c5 x0 x1 x2 x3 f0 f1 f2 f3 = false) := lw4t_c5_ff x0 x1 x2 x3 f0 f1 f2 f3 hpre
        have h53 : (lw4t_c6 x0 x1 x2 x3 f0 f1 f2 f3 = false) := lw4t_c6_ff x0 x1 x2 x3 f0 f1 f2 f3 hpre
        have h54 : (lw4t_c7 x0 x1 x2 x3 f0 f1 f2 f3 = false) := lw4t_c7_ff x0 x1 x2 x3 f0 f1 f2 f3 hpre
        have h55 : (lw4t_c8 x0 x1 x2 x3 f0 f1 f2 f3 = false) := lw4t_c8_ff x0 x1 x2 x3 f0 f1 f2 f3 hpre
        have h56 : (lw4t_c9 x0 x1 x2 x3 f0 f1 f2 f3 = true) := by
          have r8 : Rg.has (0, 0) (lw4t_at0 x0) := by
            have hr : InR [(-100, 100)] [(lw4t_at0 x0)] := ⟨lw4t_rg8 x0 x1 x2 x3 f0 f1 f2 f3 hpre, trivial⟩
            have ha := BE.all_ok hr lw4t_q34 (by kernel_rfl)
            have hx : BE.ev [(lw4t_at0 x0)] (.cm .eq (.v 0) (.k (0))) = true := (show BE.ev [(lw4t_at0 x0)] (.cm .eq (.v 0) (.k (0))) = lw4t_c0 x0 x1 x2 x3 f0 f1 f2 f3 by kernel_rfl).trans h0
            have ha := orT ha hx
            exact rgB ha
          have hr : InR [(0, 0)] [(lw4t_at0 x0)] := ⟨r8, trivial⟩
          have e1 : lw4t_c9 x0 x1 x2 x3 f0 f1 f2 f3 = BE.ev [(lw4t_at0 x0)] lw4t_q35 := by kernel_rfl
          rw [e1]
          exact BE.tri_ok hr (by kernel_rfl) (by kernel_rfl)
        have h57 : (lw4t_c12 x0 x1 x2 x3 f0 f1 f2 f3 = true) := by
          have r8 : Rg.has (0, 0) (lw4t_at0 x0) := by
            have hr : InR [(-100, 100)] [(lw4t_at0 x0)] := ⟨lw4t_rg8 x0 x1 x2 x3 f0 f1 f2 f3 hpre, trivial⟩
            have ha := BE.all_ok hr lw4t_q34 (by kernel_rfl)
            have hx : BE.ev [(lw4t_at0 x0)] (.cm .eq (.v 0) (.k (0))) = true := (show BE.ev [(lw4t_at0 x0)] (.cm .eq (.v 0) (.k (0))) = lw4t_c0 x0 x1 x2 x3 f0 f1 f2 f3 by kernel_rfl).trans h0
            have ha := orT ha hx
            exact rgB ha
          have r9 : Rg.has (0, 0) (lw4t_at0 x1) := by
            have hr : InR [(-100, 100)] [(lw4t_at0 x1)] := ⟨lw4t_rg9 x0 x1 x2 x3 f0 f1 f2 f3 hpre, trivial⟩
            have ha := BE.all_ok hr lw4t_q34 (by kernel_rfl)
            have hx : BE.ev [(lw4t_at0 x1)] (.cm .eq (.v 0) (.k (0))) = true := (show BE.ev [(lw4t_at0 x1)] (.cm .eq (.v 0) (.k (0))) = lw4t_c11 x0 x1 x2 x3 f0 f1 f2 f3 by kernel_rfl).trans h1
            have ha := orT ha hx
            exact rgB ha
          have hr : InR [(0, 0), (0, 0), (-100, 100)] [(lw4t_at0 x0), (lw4t_at0 x1), (lw4t_at0 x3)] := ⟨r8, ⟨r9, ⟨lw4t_rg11 x0 x1 x2 x3 f0 f1 f2 f3 hpre, trivial⟩⟩⟩
          have e1 : lw4t_c12 x0 x1 x2 x3 f0 f1 f2 f3 = BE.ev [(lw4t_at0 x0), (lw4t_at0 x1), (lw4t_at0 x3)] (.not lw4t_q38) := by kernel_rfl
          rw [e1]
          exact BE.tri_ok hr (by kernel_rfl) (by kernel_rfl)
        have h58 : (lw4t_c15 x0 x1 x2 x3 f0 f1 f2 f3 = false) := by
          have r8 : Rg.has (0, 0) (lw4t_at0 x0) := by
            have hr : InR [(-100, 100)] [(lw4t_at0 x0)] := ⟨lw4t_rg8 x0 x1 x2 x3 f0 f1 f2 f3 hpre, trivial⟩
            have ha := BE.all_ok hr lw4t_q34 (by kernel_rfl)
            have hx : BE.ev [(lw4t_at0 x0)] (.cm .eq (.v 0) (.k (0))) = true := (show BE.ev [(lw4t_at0 x0)] (.cm .eq (.v 0) (.k (0))) = lw4t_c0 x0 x1 x2 x3 f0 f1 f2 f3 by kernel_rfl).trans h0
            have ha := orT ha hx
            exact rgB ha
          have r9 : Rg.has (0, 0) (lw4t_at0 x1) := by
            have hr : InR [(-100, 100)] [(lw4t_at0 x1)] := ⟨lw4t_rg9 x0 x1 x2 x3 f0 f1 f2 f3 hpre, trivial⟩
            have ha := BE.all_ok hr lw4t_q34 (by kernel_rfl)
            have hx : BE.ev [(lw4t_at0 x1)] (.cm .eq (.v 0) (.k (0))) = true := (show BE.ev [(lw4t_at0 x1)] (.cm .eq (.v 0) (.k (0))) = lw4t_c11 x0 x1 x2 x3 f0 f1 f2 f3 by kernel_rfl).trans h1
            have ha := orT ha hx
            exact rgB ha
          have hr : InR [(0, 0), (0, 0), (-100, 100), (-100, 100)] [(lw4t_at0 x0), (lw4t_at0 x1), (lw4t_at0 x2), (lw4t_at0 x3)] := ⟨r8, ⟨r9, ⟨lw4t_rg10 x0 x1 x2 x3 f0 f1 f2 f3 hpre, ⟨lw4t_rg11 x0 x1 x2 x3 f0 f1 f2 f3 hpre, trivial⟩⟩⟩⟩
          have hr2 : InR [(-100, 100)] [(lw4t_at0 x2)] := ⟨lw4t_rg10 x0 x1 x2 x3 f0 f1 f2 f3 hpre, trivial⟩
          have ha := BE.all_ok hr2 (.or (.cm .eq (.v 0) (.k (0))) (.not (.not lw4t_q74))) (by kernel_rfl)
          have hx : BE.ev [(lw4t_at0 x2)] (.cm .eq (.v 0) (.k (0))) = false := (show BE.ev [(lw4t_at0 x2)] (.cm .eq (.v 0) (.k (0))) = BE.ev [(lw4t_at0 x0), (lw4t_at0 x1), (lw4t_at0 x2), (lw4t_at0 x3)] (.cm .eq (.v 2) (.k (0))) by kernel_rfl).trans ((BE.smp_to hr (.cm .eq (.v 2) (.k (0))) (.cm .eq (.v 2) (.k (0))) (by kernel_rfl) (by kernel_rfl)).symm.trans ((show BE.ev [(lw4t_at0 x0), (lw4t_at0 x1), (lw4t_at0 x2), (lw4t_at0 x3)] (.cm .eq (.v 2) (.k (0))) = lw4t_c14 x0 x1 x2 x3 f0 f1 f2 f3 by kernel_rfl).trans h2))
          have ha := orF ha hx
          exact (show lw4t_c15 x0 x1 x2 x3 f0 f1 f2 f3 = BE.ev [(lw4t_at0 x0), (lw4t_at0 x1), (lw4t_at0 x2), (lw4t_at0 x3)] (.not lw4t_q44) by kernel_rfl).trans ((BE.smp_to hr (.not lw4t_q44) (.not lw4t_q76) (by kernel_rfl) (by kernel_rfl)).trans ((show BE.ev [(lw4t_at0 x0), (lw4t_at0 x1), (lw4t_at0 x2), (lw4t_at0 x3)] (.not lw4t_q76) = BE.ev [(lw4t_at0 x2)] (.not lw4t_q74) by kernel_rfl).trans (notT ha)))
        have h59 : (lw4t_c10 x0 x1 x2 x3 f0 f1 f2 f3 = false) := by
          have hz := (show lw4t_c9 x0 x1 x2 x3 f0 f1 f2 f3 = Bool.not (lw4t_c10 x0 x1 x2 x3 f0 f1 f2 f3) by kernel_rfl).symm.trans h56
          generalize lw4t_c10 x0 x1 x2 x3 f0 f1 f2 f3 = z at hz ⊢
          cases z <;> first | rfl | cases hz
        have h60 : (lw4t_c13 x0 x1 x2 x3 f0 f1 f2 f3 = false) := by
          have hz := (show lw4t_c12 x0 x1 x2 x3 f0 f1 f2 f3 = Bool.not (lw4t_c13 x0 x1 x2 x3 f0 f1 f2 f3) by kernel_rfl).symm.trans h57
          generalize lw4t_c13 x0 x1 x2 x3 f0 f1 f2 f3 = z at hz ⊢
          cases z <;> first | rfl | cases hz
        have h61 : (lw4t_c16 x0 x1 x2 x3 f0 f1 f2 f3 = true) := by
          have hz := (show lw4t_c15 x0 x1 x2 x3 f0 f1 f2 f3 = Bool.not (lw4t_c16 x0 x1 x2 x3 f0 f1 f2 f3) by kernel_rfl).symm.trans h58
          generalize lw4t_c16 x0 x1 x2 x3 f0 f1 f2 f3 = z at hz ⊢
          cases z <;> first | rfl | cases hz
        exact lw4t_p2 x0 x1 x2 x3 f0 f1 f2 f3 c (lw4t_z15_h (lw4t_z14_h (lw4t_z8_h (lw4t_z13_h (lw4t_z12_h (lw4t_z6_h (lw4t_z2_h (lw4t_z11_h (lw4t_z10_h (lw4t_z4_h (lw4t_z0_h trivial x0 x1 x2 x3 f0 f1 f2 f3 hpre) x0 x1 x2 x3 f0 f1 f2 f3 hpre h0) x0 x1 x2 x3 f0 f1 f2 f3 hpre h1) x0 x1 x2 x3 f0 f1 f2 f3 hpre h2) x0 x1 x2 x3 f0 f1 f2 f3 hpre) x0 x1 x2 x3 f0 f1 f2 f3 hpre h56) x0 x1 x2 x3 f0 f1 f2 f3 hpre h57) x0 x1 x2 x3 f0 f1 f2 f3 hpre h58) x0 x1 x2 x3 f0 f1 f2 f3 hpre h59) x0 x1 x2 x3 f0 f1 f2 f3 hpre h60) x0 x1 x2 x3 f0 f1 f2 f3 hpre h61)
    ·
      have h62 : (lw4t_c1 x0 x1 x2 x3 f0 f1 f2 f3 = false) := lw4t_c1_ff x0 x1 x2 x3 f0 f1 f2 f3 hpre
      have h63 : (lw4t_c2 x0 x1 x2 x3 f0 f1 f2 f3 = false) := lw4t_c2_ff x0 x1 x2 x3 f0 f1 f2 f3 hpre
      have h64 : (lw4t_c3 x0 x1 x2 x3 f0 f1 f2 f3 = false) := lw4t_c3_ff x0 x1 x2 x3 f0 f1 f2 f3 hpre
      have h65 : (lw4t_c4 x0 x1 x2 x3 f0 f1 f2 f3 = false) := lw4t_c4_ff x0 x1 x2 x3 f0 f1 f2 f3 hpre
      have h66 : (lw4t_c5 x0 x1 x2 x3 f0 f1 f2 f3 = false) := lw4t_c5_ff x0 x1 x2 x3 f0 f1 f2 f3 hpre
      have h67 : (lw4t_c6 x0 x1 x2 x3 f0 f1 f2 f3 = false) := lw4t_c6_ff x0 x1 x2 x3 f0 f1 f2 f3 hpre
      have h68 : (lw4t_c7 x0 x1 x2 x3 f0 f1 f2 f3 = false) := lw4t_c7_ff x0 x1 x2 x3 f0 f1 f2 f3 hpre
      have h69 : (lw4t_c8 x0 x1 x2 x3 f0 f1 f2 f3 = false) := lw4t_c8_ff x0 x1 x2 x3 f0 f1 f2 f3 hpre
      have h70 : (lw4t_c9 x0 x1 x2 x3 f0 f1 f2 f3 = true) := by
        have r8 : Rg.has (0, 0) (lw4t_at0 x0) := by
          have hr : InR [(-100, 100)] [(lw4t_at0 x0)] := ⟨lw4t_rg8 x0 x1 x2 x3 f0 f1 f2 f3 hpre, trivial⟩
          have ha := BE.all_ok hr lw4t_q34 (by kernel_rfl)
          have hx : BE.ev [(lw4t_at0 x0)] (.cm .eq (.v 0) (.k (0))) = true := (show BE.ev [(lw4t_at0 x0)] (.cm .eq (.v 0) (.k (0))) = lw4t_c0 x0 x1 x2 x3 f0 f1 f2 f3 by kernel_rfl).trans h0
          have ha := orT ha hx
          exact rgB ha
        have hr : InR [(0, 0)] [(lw4t_at0 x0)] := ⟨r8, trivial⟩
        have e1 : lw4t_c9 x0 x1 x2 x3 f0 f1 f2 f3 = BE.ev [(lw4t_at0 x0)] lw4t_q35 := by kernel_rfl
        rw [e1]
        exact BE.tri_ok hr (by kernel_rfl) (by kernel_rfl)
      have h71 : (lw4t_c12 x0 x1 x2 x3 f0 f1 f2 f3 = false) := by
        have r8 : Rg.has (0, 0) (lw4t_at0 x0) := by
          have hr : InR [(-100, 100)] [(lw4t_at0 x0)] := ⟨lw4t_rg8 x0 x1 x2 x3 f0 f1 f2 f3 hpre, trivial⟩
          have ha := BE.all_ok hr lw4t_q34 (by kernel_rfl)
          have hx : BE.ev [(lw4t_at0 x0)] (.cm .eq (.v 0) (.k (0))) = true := (show BE.ev [(lw4t_at0 x0)] (.cm .eq (.v 0) (.k (0))) = lw4t_c0 x0 x1 x2 x3 f0 f1 f2 f3 by kernel_rfl).trans h0
          have ha := orT ha hx
          exact rgB ha
        have hr : InR [(0, 0), (-100, 100), (-100, 100)] [(lw4t_at0 x0), (lw4t_at0 x1), (lw4t_at0 x3)] := ⟨r8, ⟨lw4t_rg9 x0 x1 x2 x3 f0 f1 f2 f3 hpre, ⟨lw4t_rg11 x0 x1 x2 x3 f0 f1 f2 f3 hpre, trivial⟩⟩⟩
        have hr2 : InR [(-100, 100)] [(lw4t_at0 x1)] := ⟨lw4t_rg9 x0 x1 x2 x3 f0 f1 f2 f3 hpre, trivial⟩
        have ha := BE.all_ok hr2 (.or (.cm .eq (.v 0) (.k (0))) (.not (.not (.cm .ge lw4t_q77 (.k (1)))))) (by kernel_rfl)
        have hx : BE.ev [(lw4t_at0 x1)] (.cm .eq (.v 0) (.k (0))) = false := (show BE.ev [(lw4t_at0 x1)] (.cm .eq (.v 0) (.k (0))) = BE.ev [(lw4t_at0 x0), (lw4t_at0 x1), (lw4t_at0 x3)] (.cm .eq (.v 1) (.k (0))) by kernel_rfl).trans ((BE.smp_to hr (.cm .eq (.v 1) (.k (0))) (.cm .eq (.v 1) (.k (0))) (by kernel_rfl) (by kernel_rfl)).symm.trans ((show BE.ev [(lw4t_at0 x0), (lw4t_at0 x1), (lw4t_at0 x3)] (.cm .eq (.v 1) (.k (0))) = lw4t_c11 x0 x1 x2 x3 f0 f1 f2 f3 by kernel_rfl).trans h1))
        have ha := orF ha hx
        exact (show lw4t_c12 x0 x1 x2 x3 f0 f1 f2 f3 = BE.ev [(lw4t_at0 x0), (lw4t_at0 x1), (lw4t_at0 x3)] (.not lw4t_q38) by kernel_rfl).trans ((BE.smp_to hr (.not lw4t_q38) (.not (.cm .ge lw4t_q78 (.k (1)))) (by kernel_rfl) (by kernel_rfl)).trans ((show BE.ev [(lw4t_at0 x0), (lw4t_at0 x1), (lw4t_at0 x3)] (.not (.cm .ge lw4t_q78 (.k (1)))) = BE.ev [(lw4t_at0 x1)] (.not (.cm .ge lw4t_q77 (.k (1)))) by kernel_rfl).trans (notT ha)))
      have h72 : (lw4t_c10 x0 x1 x2 x3 f0 f1 f2 f3 = false) := by
        have hz := (show lw4t_c9 x0 x1 x2 x3 f0 f1 f2 f3 = Bool.not (lw4t_c10 x0 x1 x2 x3 f0 f1 f2 f3) by kernel_rfl).symm.trans h70
        generalize lw4t_c10 x0 x1 x2 x3 f0 f1 f2 f3 = z at hz ⊢
        cases z <;> first | rfl | cases hz
      have h73 : (lw4t_c13 x0 x1 x2 x3 f0 f1 f2 f3 = true) := by
        have hz := (show lw4t_c12 x0 x1 x2 x3 f0 f1 f2 f3 = Bool.not (lw4t_c13 x0 x1 x2 x3 f0 f1 f2 f3) by kernel_rfl).symm.trans h71
        generalize lw4t_c13 x0 x1 x2 x3 f0 f1 f2 f3 = z at hz ⊢
        cases z <;> first | rfl | cases hz
      exact lw4t_p1 x0 x1 x2 x3 f0 f1 f2 f3 c (lw4t_z9_h (lw4t_z8_h (lw4t_z7_h (lw4t_z6_h (lw4t_z2_h (lw4t_z5_h (lw4t_z4_h (lw4t_z0_h trivial x0 x1 x2 x3 f0 f1 f2 f3 hpre) x0 x1 x2 x3 f0 f1 f2 f3 hpre h0) x0 x1 x2 x3 f0 f1 f2 f3 hpre h1) x0 x1 x2 x3 f0 f1 f2 f3 hpre) x0 x1 x2 x3 f0 f1 f2 f3 hpre h70) x0 x1 x2 x3 f0 f1 f2 f3 hpre h71) x0 x1 x2 x3 f0 f1 f2 f3 hpre h72) x0 x1 x2 x3 f0 f1 f2 f3 hpre h73)
  ·
    have h74 : (lw4t_c1 x0 x1 x2 x3 f0 f1 f2 f3 = false) := lw4t_c1_ff x0 x1 x2 x3 f0 f1 f2 f3 hpre
    have h75 : (lw4t_c2 x0 x1 x2 x3 f0 f1 f2 f3 = false) := lw4t_c2_ff x0 x1 x2 x3 f0 f1 f2 f3 hpre
    have h76 : (lw4t_c3 x0 x1 x2 x3 f0 f1 f2 f3 = false) := lw4t_c3_ff x0 x1 x2 x3 f0 f1 f2 f3 hpre
    have h77 : (lw4t_c4 x0 x1 x2 x3 f0 f1 f2 f3 = false) := lw4t_c4_ff x0 x1 x2 x3 f0 f1 f2 f3 hpre
    have h78 : (lw4t_c5 x0 x1 x2 x3 f0 f1 f2 f3 = false) := lw4t_c5_ff x0 x1 x2 x3 f0 f1 f2 f3 hpre
    have h79 : (lw4t_c6 x0 x1 x2 x3 f0 f1 f2 f3 = false) := lw4t_c6_ff x0 x1 x2 x3 f0 f1 f2 f3 hpre
    have h80 : (lw4t_c7 x0 x1 x2 x3 f0 f1 f2 f3 = false) := lw4t_c7_ff x0 x1 x2 x3 f0 f1 f2 f3 hpre
    have h81 : (lw4t_c8 x0 x1 x2 x3 f0 f1 f2 f3 = false) := lw4t_c8_ff x0 x1 x2 x3 f0 f1 f2 f3 hpre
    have h82 : (lw4t_c9 x0 x1 x2 x3 f0 f1 f2 f3 = false) := by
      have hr : InR [(-100, 100)] [(lw4t_at0 x0)] := ⟨lw4t_rg8 x0 x1 x2 x3 f0 f1 f2 f3 hpre, trivial⟩
      have hr2 : InR [(-100, 100)] [(lw4t_at0 x0)] := ⟨lw4t_rg8 x0 x1 x2 x3 f0 f1 f2 f3 hpre, trivial⟩
      have ha := BE.all_ok hr2 (.or (.cm .eq (.v 0) (.k (0))) (.not lw4t_q79)) (by kernel_rfl)
      have hx : BE.ev [(lw4t_at0 x0)] (.cm .eq (.v 0) (.k (0))) = false := (show BE.ev [(lw4t_at0 x0)] (.cm .eq (.v 0) (.k (0))) = BE.ev [(lw4t_at0 x0)] (.cm .eq (.v 0) (.k (0))) by kernel_rfl).trans ((BE.smp_to hr (.cm .eq (.v 0) (.k (0))) (.cm .eq (.v 0) (.k (0))) (by kernel_rfl) (by kernel_rfl)).symm.trans ((show BE.ev [(lw4t_at0 x0)] (.cm .eq (.v 0) (.k (0))) = lw4t_c0 x0 x1 x2 x3 f0 f1 f2 f3 by kernel_rfl).trans h0))
      have ha := orF ha hx
      exact (show lw4t_c9 x0 x1 x2 x3 f0 f1 f2 f3 = BE.ev [(lw4t_at0 x0)] lw4t_q35 by kernel_rfl).trans ((BE.smp_to hr lw4t_q35 lw4t_q79 (by kernel_rfl) (by kernel_rfl)).trans ((show BE.ev [(lw4t_at0 x0)] lw4t_q79 = BE.ev [(lw4t_at0 x0)] lw4t_q79 by kernel_rfl).trans (notT ha)))
    have h83 : (lw4t_c10 x0 x1 x2 x3 f0 f1 f2 f3 = true) := by
      have hz := (show lw4t_c9 x0 x1 x2 x3 f0 f1 f2 f3 = Bool.not (lw4t_c10 x0 x1 x2 x3 f0 f1 f2 f3) by kernel_rfl).symm.trans h82
      generalize lw4t_c10 x0 x1 x2 x3 f0 f1 f2 f3 = z at hz ⊢
      cases z <;> first | rfl | cases hz
    exact lw4t_p0 x0 x1 x2 x3 f0 f1 f2 f3 c (lw4t_z3_h (lw4t_z2_h (lw4t_z1_h (lw4t_z0_h trivial x0 x1 x2 x3 f0 f1 f2 f3 hpre) x0 x1 x2 x3 f0 f1 f2 f3 hpre h0) x0 x1 x2 x3 f0 f1 f2 f3 hpre) x0 x1 x2 x3 f0 f1 f2 f3 hpre h82 h83)
end Go.Proofs.YtencngffhbhifaaGreatDoor
end
section
namespace Go.Proofs.YtencngffhbhifaaGreatDoor
set_option linter.all false
open Go.ChangeShapes Go.WideShapes Go.RowKit
namespace Mini

def pairsK (g : TypeId → Option (List IntKind)) (P : Program) : Nat → List (Nat × TypeId) → Option (List IntKind)
  | _, [] => some []
  | off, x :: l => match g x.2 with
    | some ks => match (x.1 == off) && (P.cellsOf x.2 == ks.length) with
      | true => match pairsK g P (off + ks.length) l with
        | some r => some (ks ++ r)
        | none => none
      | false => none
    | none => none
def kindsT (P : Program) : Nat → TypeId → Option (List IntKind)
  | 0, _ => none
  | n + 1, t => match P.underlying t with
    | some (.int k) => some [k]
    | some (.array m e) => match pairsK (kindsT P n) P 0 ((List.range m).map fun i => (i * P.cellsOf e, e)) with
      | some ks => match P.cellsOf t == ks.length with
        | true => some ks
        | false => none
      | none => none
    | some (.struct fs) => match pairsK (kindsT P n) P 0 (fs.toList.map fun f => (f.offset, f.type)) with
      | some ks => match P.cellsOf t == ks.length with
        | true => some ks
        | false => none
      | none => none
    | _ => none
def wfs : List IntKind → List Int → Bool
  | k :: ks, n :: ns => (Lit.int k n).wf && wfs ks ns
  | _, _ => true
theorem backI_length : ∀ (ks : List IntKind) (ns : List Int), ns.length = ks.length → (backI ks ns).length = ks.length
  | [], [], _ => rfl
  | k :: ks, n :: ns, h => by simp only [backI, List.length_cons, backI_length ks ns (by simpa using h)]
  | [], n :: ns, h => by cases h
  | k :: ks, [], h => by cases h
theorem backI_append : ∀ (ks ks' : List IntKind) (ns ns' : List Int), ns.length = ks.length → backI (ks ++ ks') (ns ++ ns') = backI ks ns ++ backI ks' ns'
  | [], ks', [], ns', _ => rfl
  | k :: ks, ks', n :: ns, ns', h => by
    show Value.int k n :: backI (ks ++ ks') (ns ++ ns') = _
    rw [backI_append ks ks' ns ns' (by simpa using h)]
    rfl
  | [], ks', n :: ns, ns', h => by cases h
  | k :: ks, ks', [], ns', h => by cases h
theorem wfs_append : ∀ (ks ks' : List IntKind) (ns ns' : List Int), ns.length = ks.length → wfs ks ns = true → wfs ks' ns' = true → wfs (ks ++ ks') (ns ++ ns') = true
  | [], ks', [], ns', _, _, h => h
  | k :: ks, ks', n :: ns, ns', h, h1, h2 => by
    simp only [wfs, Bool.and_eq_true] at h1
    show ((Lit.int k n).wf && wfs (ks ++ ks') (ns ++ ns')) = true
    rw [h1.1, wfs_append ks ks' ns ns' (by simpa using h) h1.2 h2]
    rfl
  | [], ks', n :: ns, ns', h, _, _ => by cases h
  | k :: ks, ks', [], ns', h, _, _ => by cases h
theorem mapM_map' {α β γ : Type} (f : α → β) (g : β → Option γ) : ∀ l : List α, (l.map f).mapM g = l.mapM fun a => g (f a)
  | [] => rfl
  | a :: l => by simp [List.mapM_cons, mapM_map' f g l]

section
variable {H : Type} {enc : TypeId × Value → H} {P : Program}

def Flat (enc : TypeId × Value → H) (P : Program) (fuel : Nat) (t : TypeId) (cs : List Value) (d : DataW H) (ks : List IntKind) : Prop :=
  ∃ ns, ns.length = ks.length ∧ cs = backI ks ns ∧ wfs ks ns = true ∧ ∀ w b sp held, DataW.trod enc P w b sp held fuel t cs = some (d, [])
theorem flat_pairs {n fuel : Nat} (IH : ∀ (t : TypeId) (ks : List IntKind), kindsT P n t = some ks → ∀ (cs : List Value) (d : DataW H) (p : List MemPlace) w b sp held, DataW.trod enc P w b sp held fuel t cs = some (d, p) → p = [] ∧ Flat enc P fuel t cs d ks) :
    ∀ (L : List (Nat × TypeId)) (off : Nat) (ks : List IntKind) (cs : List Value) (xs : List (DataW H × List MemPlace)) (w : World) (b : Nat) (sp : Nat → Bool) (held : Bool), pairsK (kindsT P n) P off L = some ks → off + ks.length ≤ cs.length →
      L.mapM (fun x => DataW.trod enc P w b sp held fuel x.2 ((cs.drop x.1).take (P.cellsOf x.2))) = some xs →
      xs.flatMap (·.2) = [] ∧ ∃ ns, ns.length = ks.length ∧ (cs.drop off).take ks.length = backI ks ns ∧ wfs ks ns = true ∧ ∀ w b sp held, L.mapM (fun x => DataW.trod enc P w b sp held fuel x.2 ((cs.drop x.1).take (P.cellsOf x.2))) = some xs
  | [], off, ks, cs, xs, w, b, sp, held, hk, hl, hm => by
    cases hk
    simp at hm
    subst hm
    exact ⟨rfl, [], rfl, by simp [backI], rfl, fun _ _ _ _ => rfl⟩
  | x :: L, off, ks, cs, xs, w, b, sp, held, hk, hl, hm => by
    simp only [pairsK] at hk
    split at hk
    · rename_i ks1 hk1
      split at hk
      · rename_i hc
        simp only [Bool.and_eq_true, beq_iff_eq] at hc
        obtain ⟨hx, hcell⟩ := hc
        split at hk
        · rename_i r hr
          cases hk
          simp only [List.length_append] at hl
          simp only [List.mapM_cons, Option.bind_eq_bind, Option.bind_eq_some_iff, Option.pure_def, Option.some.injEq] at hm
          obtain ⟨y, hy, ys, hys, rfl⟩ := hm
          obtain ⟨d, p⟩ := y
          obtain ⟨rfl, ns1, l1, c1, f1, t1⟩ := IH x.2 ks1 hk1 _ d p w b sp held hy
          obtain ⟨e2, ns2, l2, c2, f2, t2⟩ := flat_pairs IH L (off + ks1.length) r cs ys w b sp held hr (by omega) hys
          refine ⟨by simpa using e2, ns1 ++ ns2, by simp [l1, l2], ?_, wfs_append _ _ _ _ l1 f1 f2, fun w' b' sp' held' => ?_⟩
          · rw [backI_append _ _ _ _ l1, ← c2, List.length_append, List.take_add, List.drop_drop]
            rw [hx, hcell] at c1
            rw [c1]
          · simp only [List.mapM_cons, Option.bind_eq_bind, Option.pure_def]
            rw [t1 w' b' sp' held', t2 w' b' sp' held']
            rfl
        · cases hk
      · cases hk
    · cases hk
theorem open_kinds : ∀ (n : Nat) (t : TypeId) (ks : List IntKind), kindsT P n t = some ks → ∀ (fuel : Nat) (cs : List Value) (d : DataW H) (p : List MemPlace) w b sp held, DataW.trod enc P w b sp held fuel t cs = some (d, p) → p = [] ∧ Flat enc P fuel t cs d ks
  | 0, t, ks, hk, fuel, cs, d, p, w, b, sp, held, h => by cases hk
  | n + 1, t, ks, hk, fuel, cs, d, p, w, b, sp, held, h => by
    cases fuel with
    | zero => simp [DataW.trod] at h
    | succ fuel =>
      simp only [kindsT] at hk
      split at hk
      · rename_i k ht
        cases hk
        obtain ⟨z, rfl, hx, hw⟩ := DataW.trod_int ht h
        cases hx
        refine ⟨rfl, [z], rfl, rfl, by simp [wfs, hw], fun w' b' sp' held' => ?_⟩
        simp [DataW.trod, ht, hw]
      · rename_i m e ht
        split at hk
        · rename_i ks' hk'
          split at hk
          · rename_i hc
            cases hk
            have hc := beq_iff_eq.1 hc
            simp only [DataW.trod, ht] at h
            split at h
            · rename_i hl
              obtain ⟨xs, hm, hx⟩ := Option.map_eq_some_iff.1 h
              have hm2 : ((List.range m).map fun i => (i * P.cellsOf e, e)).mapM (fun x => DataW.trod enc P w b sp held fuel x.2 ((cs.drop x.1).take (P.cellsOf x.2))) = some xs := by rw [mapM_map']; exact hm
              obtain ⟨e1, ns, l1, c1, f1, t1⟩ := flat_pairs (fun t ks hk cs d p w b sp held h => open_kinds n t ks hk fuel cs d p w b sp held h) _ 0 ks cs xs w b sp held hk' (by omega) hm2
              simp only [Prod.mk.injEq] at hx
              obtain ⟨rfl, rfl⟩ := hx
              refine ⟨e1, ns, l1, ?_, f1, fun w' b' sp' held' => ?_⟩
              · rw [← c1, List.drop_zero, List.take_of_length_le (by omega)]
              · have := t1 w' b' sp' held'
                rw [mapM_map'] at this
                simp only [DataW.trod, ht, if_pos hl]
                rw [this]
                simp [e1]
            · cases h
          · cases hk
        · cases hk
      · rename_i fs ht
        split at hk
        · rename_i ks' hk'
          split at hk
          · rename_i hc
            cases hk
            have hc := beq_iff_eq.1 hc
            simp only [DataW.trod, ht] at h
            split at h
            · rename_i hl
              obtain ⟨xs, hm, hx⟩ := Option.map_eq_some_iff.1 h
              have hm2 : (fs.toList.map fun f => (f.offset, f.type)).mapM (fun x => DataW.trod enc P w b sp held fuel x.2 ((cs.drop x.1).take (P.cellsOf x.2))) = some xs := by rw [mapM_map']; exact hm
              obtain ⟨e1, ns, l1, c1, f1, t1⟩ := flat_pairs (fun t ks hk cs d p w b sp held h => open_kinds n t ks hk fuel cs d p w b sp held h) _ 0 ks cs xs w b sp held hk' (by omega) hm2
              simp only [Prod.mk.injEq] at hx
              obtain ⟨rfl, rfl⟩ := hx
              refine ⟨e1, ns, l1, ?_, f1, fun w' b' sp' held' => ?_⟩
              · rw [← c1, List.drop_zero, List.take_of_length_le (by omega)]
              · have := t1 w' b' sp' held'
                rw [mapM_map'] at this
                simp only [DataW.trod, ht, if_pos hl]
                rw [this]
                simp [e1]
            · cases h
          · cases hk
        · cases hk
      · cases hk
def isRow (P : Program) (t : TypeId) : Bool := match P.underlying t with
  | some (.struct _) | some (.array _ _) => true
  | _ => false
theorem open_agg {w : World} {base b0 n : Nat} {spare : Nat → Bool} {held : Bool} {r : Reach} {t : TypeId} {v : Value} {d : DataW H} {ps : List MemPlace} {ks : List IntKind} (hr : isRow P t = true) (hk : kindsT P n t = some ks) (hval : Value.okWide P w r b0 t v) (hd : DataW.Trod enc P w base spare held t v d ps) :
    ∃ ns, ns.length = ks.length ∧ v = .agg (backI ks ns).toArray ∧ ps = [] ∧ wfs ks ns = true ∧ ∀ w b sp held, DataW.Trod enc P w b sp held t v d [] := by
  obtain ⟨cs, rfl⟩ : ∃ cs, v = .agg cs := by
    unfold isRow at hr
    unfold Value.okWide at hval
    split at hr
    · rename_i h; rw [h] at hval; obtain ⟨cs, h1, _⟩ := hval; exact ⟨cs, h1⟩
    · rename_i h; rw [h] at hval; obtain ⟨cs, h1, _⟩ := hval; exact ⟨cs, h1⟩
    · cases hr
  obtain ⟨fuel, hf⟩ := hd
  obtain ⟨rfl, ns, l1, c1, f1, t1⟩ := open_kinds n t ks hk fuel _ d ps w base spare held hf
  refine ⟨ns, l1, ?_, rfl, f1, fun w b sp held => ⟨fuel, t1 w b sp held⟩⟩
  congr 1
  apply Array.ext'
  simpa [Value.cells] using c1
theorem open_num {w : World} {base b0 : Nat} {spare : Nat → Bool} {held : Bool} {r : Reach} {t : TypeId} {k : IntKind} {v : Value} {d : DataW H} {ps : List MemPlace} (ht : P.underlying t = some (.int k)) (hval : Value.okWide P w r b0 t v) (hd : DataW.Trod enc P w base spare held t v d ps) :
    ∃ n, v = .int k n ∧ ps = [] ∧ (Lit.int k n).wf = true ∧ ∀ w b sp held, DataW.Trod enc P w b sp held t v d [] := by
  obtain ⟨n, rfl, rfl, rfl, hw⟩ := open_int ht hval hd
  exact ⟨n, rfl, rfl, hw, fun w b sp held => shut_int ht hw⟩
end
theorem bounds_i64 {n : Int} (h : (Lit.int .i64 n).wf = true) : -9223372036854775808 ≤ n ∧ n ≤ 9223372036854775807 := by
  simp [Lit.wf, IntKind.min, IntKind.max, IntKind.signed, IntKind.bits] at h
  omega
end Mini
end Go.Proofs.YtencngffhbhifaaGreatDoor
end
section
namespace Go.Proofs.YtencngffhbhifaaGreatDoor
set_option linter.all false
open Go.ChangeShapes Go.WideShapes Go.ChangeAt Go.RowKit

section
variable {H : Type} {enc : TypeId × Value → H} {P : Program}
theorem post_below {f : Func} {s : ChangeSpec} {W W' : World} {args : Array Value} {v : Value} {ds gs : List (DataW H)} {ps pa pv : List MemPlace} {apart fresh handsOn again : Bool} (hw : DataW.Whole enc P f.params.toList s.vars apart W args.toList ds gs ps)
    (ok : ∀ (j : Nat) (t : TypeId) (r : Value), f.resultTypes[j]? = some t → (v.resultList f.resultTypes.size)[j]? = some r → Value.okWide P W' .any 0 t r)
    (res : ∀ (b : Nat) (sp : Nat → Bool) (hd : Bool), DataW.TrodAll enc P W' b sp hd f.resultTypes.toList (v.resultList f.resultTypes.size) (s.fn H (ds ++ gs)).results [])
    (arg : ∀ sp : Nat → Bool, (∀ p ∈ ps, sp p.block = true) → DataW.TrodAll enc P W' 0 sp true f.params.toList args.toList (s.fn H (ds ++ gs)).args pa)
    (vrs : ∀ sp : Nat → Bool, (∀ p ∈ ps, sp p.block = true) → DataW.TrodVars enc P W' sp s.vars (s.fn H (ds ++ gs)).vars pv)
    (hps : ps = pa ++ pv) (hb : Below W.heap.size W W') : s.post enc P f apart fresh handsOn again W args v W' := by
  have hb' := hb
  have lt : ∀ p ∈ ps, p.block < W.heap.size := fun p hp => hw.lt p hp
  have old : ∀ p ∈ ps, (fun b => decide (b < W.heap.size)) p.block = true := fun p hp => by simpa using lt p hp
  have whole := hw
  obtain ⟨_, _, _, _, _, hz, hn⟩ := hw
  subst hps
  refine ⟨ds, gs, pa ++ pv, [], pa, pv, whole, res _ _ _, arg _ old, vrs _ old, World.keptBut_mono (fun p hp => ⟨hp, Or.inr (List.mem_append.1 hp)⟩) (hb'.frame (· ∈ pa ++ pv)), fun _ => ⟨ok, _, _, ([] ++ pa) ++ pv, ⟨[] ++ pa, pv, trodAll_append (arg _ (fun _ _ => rfl)) (res _ _ _), vrs _ (fun _ _ => rfl), rfl, fun b off hp => ?_, fun ha => ?_⟩, fun p hp _ => ?_⟩⟩
  · have hin : MemPlace.cell b off ∈ pa ++ pv := by simpa using hp
    exact (hb'.frozen (lt _ hin)).trans (hz b off hin)
  · simpa using hn ha
  · simpa using hp
end

section
open Go.Lib

theorem trod_lit {H : Type} {enc : TypeId × Value → H} {P : Program} {w : World} {base : Nat} {sp : Nat → Bool} {held : Bool} {fuel : Nat} {t : TypeId} {k : IntKind} {z : Int} {cs : List Value} {p : List MemPlace}
    (ht : P.underlying t = some (.int k)) (h : DataW.trod enc P w base sp held fuel t cs = some (.lit (.int k z), p)) : cs = [.int k z] := by
  obtain ⟨z', hc, hd, _⟩ := DataW.trod_int ht h
  cases hd
  exact hc
theorem cells_of_pairs {H : Type} {enc : TypeId × Value → H} {P : Program} {w : World} {base : Nat} {sp : Nat → Bool} {held : Bool} {fuel : Nat} {t e : TypeId} {n : Nat} {k : IntKind} {cs : List Value} {zs : List (Int × Int)} {p : List MemPlace} {fs : Array Field} {f0 f1 : Field}
    (ht : P.underlying t = some (.array n e)) (he : P.underlying e = some (.struct fs)) (hfs : fs.toList = [f0, f1]) (h0 : f0.offset = 0) (h1 : f1.offset = 1) (k0 : P.underlying f0.type = some (.int k)) (k1 : P.underlying f1.type = some (.int k))
    (c0 : P.cellsOf f0.type = 1) (c1 : P.cellsOf f1.type = 1) (hce : P.cellsOf e = 2)
    (h : DataW.trod enc P w base sp held fuel t cs = some (.agg (zs.map fun z => .agg [.lit (.int k z.1), .lit (.int k z.2)]), p)) :
    ∀ (i : Nat) (z : Int × Int), zs[i]? = some z → cs[i * 2]? = some (.int k z.1) ∧ cs[i * 2 + 1]? = some (.int k z.2) := by
  cases fuel with
  | zero => simp [DataW.trod] at h
  | succ fuel =>
    simp only [DataW.trod, ht, hce] at h
    split at h
    · rename_i hl
      obtain ⟨xs, hm, hx⟩ := Option.map_eq_some_iff.1 h
      have hxs : xs.map (·.1) = zs.map fun z => (DataW.agg [.lit (.int k z.1), .lit (.int k z.2)] : DataW H) := by
        have := congrArg Prod.fst hx
        simpa using this
      have hxl : xs.length = n := by simpa using mapM_length hm
      have hzl : zs.length = n := by
        have := congrArg List.length hxs
        simp at this
        omega
      intro i z hz
      have hi : i < n := by
        have := (List.getElem?_eq_some_iff.1 hz).1
        omega
      obtain ⟨b, hb, hf⟩ := mapM_at hm i i (by simp [hi])
      have h2 : (xs.map (·.1))[i]? = some b.1 := by simp [hb]
      rw [hxs] at h2
      simp only [List.getElem?_map, hz, Option.map_some, Option.some.injEq] at h2
      cases fuel with
      | zero => simp [DataW.trod] at hf
      | succ fuel =>
        simp only [DataW.trod, he] at hf
        split at hf
        · obtain ⟨ys, hy, hyb⟩ := Option.map_eq_some_iff.1 hf
          rw [hfs] at hy
          simp only [List.mapM_cons, List.mapM_nil, Option.bind_eq_bind, Option.bind_eq_some_iff, Option.pure_def, Option.some.injEq] at hy
          obtain ⟨y0, e0, l1, ⟨y1, e1, l2, rfl, rfl⟩, rfl⟩ := hy
          have hb1 := congrArg Prod.fst hyb
          simp only [List.map_cons, List.map_nil] at hb1
          rw [← h2] at hb1
          simp only [DataW.agg.injEq, List.cons.injEq, and_true] at hb1
          obtain ⟨q0, q1⟩ := hb1
          obtain ⟨d0, p0⟩ := y0
          obtain ⟨d1, p1⟩ := y1
          simp only at q0 q1
          subst q0 q1
          have g0 := trod_lit k0 e0
          have g1 := trod_lit k1 e1
          rw [h0, c0] at g0
          rw [h1, c1] at g1
          have a0 := congrArg (·[0]?) g0
          have a1 := congrArg (·[0]?) g1
          simp [List.getElem?_take, List.getElem?_drop] at a0 a1
          exact ⟨by simpa using a0, by simpa using a1⟩
        · cases hf
    · cases h
end
theorem pairs_of_laid {P : Program} {W : World} {name : String} {k : IntKind} {zs : List (Int × Int)} {g : Nat} {t e : TypeId} {n : Nat} {fs : Array Field} {f0 f1 : Field}
    (hg : P.globalNamed name = some g) (hty : (P.globals[g]?).map (·.type) = some t) (ht : P.underlying t = some (.array n e)) (he : P.underlying e = some (.struct fs)) (hfs : fs.toList = [f0, f1]) (h0 : f0.offset = 0) (h1 : f1.offset = 1) (k0 : P.underlying f0.type = some (.int k)) (k1 : P.underlying f1.type = some (.int k))
    (c0 : P.cellsOf f0.type = 1) (c1 : P.cellsOf f1.type = 1) (hce : P.cellsOf e = 2)
    (h : laidMet P [(name, .agg (zs.map fun z => .agg [.lit (.int k z.1), .lit (.int k z.2)]))] W) (i : Nat) (z : Int × Int) (hz : zs[i]? = some z) :
    W.cell? ⟨g, i * 2, none⟩ = some (.int k z.1) ∧ W.cell? ⟨g, i * 2 + 1, none⟩ = some (.int k z.2) := by
  obtain ⟨ps, ⟨g', t', cs, fuel, p, q, hg', ht', hvar, hd, _, _⟩, _⟩ := h
  obtain rfl := Option.some.inj (hg.symm.trans hg')
  obtain rfl := Option.some.inj (hty.symm.trans ht')
  obtain ⟨a, b⟩ := cells_of_pairs ht he hfs h0 h1 k0 k1 c0 c1 hce hd i z hz
  have r0 := World.var?_cell hg hvar (i * 2)
  have r1 := World.var?_cell hg hvar (i * 2 + 1)
  constructor
  · rw [r0]; simpa using a
  · rw [r1]; simpa using b
end Go.Proofs.YtencngffhbhifaaGreatDoor
end
section
namespace Go.Proofs.YtencngffhbhifaaGreatDoor
set_option linter.all false
open Go.ChangeShapes Go.WideShapes Go.ChangeAt Go.RowKit Go.Lib
theorem trod_pair {H : Type} {enc : TypeId × Value → H} {P : Program} {w : World} {base : Nat} {sp : Nat → Bool} {held : Bool} {fuel : Nat} {e : TypeId} {k : IntKind} {cs : List Value} {x y : Int} {p : List MemPlace} {fs : Array Field} {f0 f1 : Field}
    (he : P.underlying e = some (.struct fs)) (hfs : fs.toList = [f0, f1]) (h0 : f0.offset = 0) (h1 : f1.offset = 1) (k0 : P.underlying f0.type = some (.int k)) (k1 : P.underlying f1.type = some (.int k))
    (c0 : P.cellsOf f0.type = 1) (c1 : P.cellsOf f1.type = 1) (h : DataW.trod enc P w base sp held fuel e cs = some (.agg [.lit (.int k x), .lit (.int k y)], p)) : cs[0]? = some (.int k x) ∧ cs[1]? = some (.int k y) := by
  cases fuel with
  | zero => simp [DataW.trod] at h
  | succ fuel =>
    simp only [DataW.trod, he] at h
    split at h
    · obtain ⟨ys, hy, hyb⟩ := Option.map_eq_some_iff.1 h
      rw [hfs] at hy
      simp only [List.mapM_cons, List.mapM_nil, Option.bind_eq_bind, Option.bind_eq_some_iff, Option.pure_def, Option.some.injEq] at hy
      obtain ⟨y0, e0, l1, ⟨y1, e1, l2, rfl, rfl⟩, rfl⟩ := hy
      have hb1 := congrArg Prod.fst hyb
      simp only [List.map_cons, List.map_nil] at hb1
      simp only [DataW.agg.injEq, List.cons.injEq, and_true] at hb1
      obtain ⟨q0, q1⟩ := hb1
      obtain ⟨d0, p0⟩ := y0
      obtain ⟨d1, p1⟩ := y1
      simp only at q0 q1
      subst q0 q1
      have g0 := trod_lit k0 e0
      have g1 := trod_lit k1 e1
      rw [h0, c0] at g0
      rw [h1, c1] at g1
      have a0 := congrArg (·[0]?) g0
      have a1 := congrArg (·[0]?) g1
      simp [List.getElem?_take, List.getElem?_drop] at a0 a1
      exact ⟨by simpa using a0, by simpa using a1⟩
    · cases h
def quadD {H : Type} (k : IntKind) (z : Int × Int × Int × Int) : DataW H := .agg [.agg [.lit (.int k z.1), .lit (.int k z.2.1)], .agg [.lit (.int k z.2.2.1), .lit (.int k z.2.2.2)]]
theorem trod_quad {H : Type} {enc : TypeId × Value → H} {P : Program} {w : World} {base : Nat} {sp : Nat → Bool} {held : Bool} {fuel : Nat} {t e : TypeId} {k : IntKind} {cs : List Value} {z : Int × Int × Int × Int} {p : List MemPlace} {gs : Array Field} {g0 g1 : Field} {fs : Array Field} {f0 f1 : Field}
    (ht : P.underlying t = some (.struct gs)) (hgs : gs.toList = [g0, g1]) (o0 : g0.offset = 0) (o1 : g1.offset = 2) (t0 : g0.type = e) (t1 : g1.type = e) (ce : P.cellsOf e = 2)
    (he : P.underlying e = some (.struct fs)) (hfs : fs.toList = [f0, f1]) (h0 : f0.offset = 0) (h1 : f1.offset = 1) (k0 : P.underlying f0.type = some (.int k)) (k1 : P.underlying f1.type = some (.int k))
    (c0 : P.cellsOf f0.type = 1) (c1 : P.cellsOf f1.type = 1) (h : DataW.trod enc P w base sp held fuel t cs = some (quadD k z, p)) :
    cs[0]? = some (.int k z.1) ∧ cs[1]? = some (.int k z.2.1) ∧ cs[2]? = some (.int k z.2.2.1) ∧ cs[3]? = some (.int k z.2.2.2) := by
  unfold quadD at h
  cases fuel with
  | zero => simp [DataW.trod] at h
  | succ fuel =>
    simp only [DataW.trod, ht] at h
    split at h
    · obtain ⟨ys, hy, hyb⟩ := Option.map_eq_some_iff.1 h
      rw [hgs] at hy
      simp only [List.mapM_cons, List.mapM_nil, Option.bind_eq_bind, Option.bind_eq_some_iff, Option.pure_def, Option.some.injEq] at hy
      obtain ⟨y0, e0, l1, ⟨y1, e1, l2, rfl, rfl⟩, rfl⟩ := hy
      have hb1 := congrArg Prod.fst hyb
      simp only [List.map_cons, List.map_nil] at hb1
      simp only [DataW.agg.injEq, List.cons.injEq, and_true] at hb1
      obtain ⟨q0, q1⟩ := hb1
      obtain ⟨d0, p0⟩ := y0
      obtain ⟨d1, p1⟩ := y1
      simp only at q0 q1
      subst q0 q1
      rw [t0] at e0
      rw [t1] at e1
      have a := trod_pair he hfs h0 h1 k0 k1 c0 c1 e0
      have b := trod_pair he hfs h0 h1 k0 k1 c0 c1 e1
      rw [o0, ce] at a
      rw [o1, ce] at b
      simp [List.getElem?_take, List.getElem?_drop] at a b
      exact ⟨by simpa using a.1, by simpa using a.2, by simpa using b.1, by simpa using b.2⟩
    · cases h
theorem cells_of_quads {H : Type} {enc : TypeId × Value → H} {P : Program} {w : World} {base : Nat} {sp : Nat → Bool} {held : Bool} {fuel : Nat} {u t e : TypeId} {n : Nat} {k : IntKind} {cs : List Value} {zs : List (Int × Int × Int × Int)} {p : List MemPlace} {gs : Array Field} {g0 g1 : Field} {fs : Array Field} {f0 f1 : Field}
    (hu : P.underlying u = some (.array n t)) (ht : P.underlying t = some (.struct gs)) (hgs : gs.toList = [g0, g1]) (o0 : g0.offset = 0) (o1 : g1.offset = 2) (t0 : g0.type = e) (t1 : g1.type = e) (ce : P.cellsOf e = 2) (ct : P.cellsOf t = 4)
    (he : P.underlying e = some (.struct fs)) (hfs : fs.toList = [f0, f1]) (h0 : f0.offset = 0) (h1 : f1.offset = 1) (k0 : P.underlying f0.type = some (.int k)) (k1 : P.underlying f1.type = some (.int k))
    (c0 : P.cellsOf f0.type = 1) (c1 : P.cellsOf f1.type = 1)
    (h : DataW.trod enc P w base sp held fuel u cs = some (.agg (zs.map (quadD k)), p)) :
    ∀ (i : Nat) (z : Int × Int × Int × Int), zs[i]? = some z → cs[i * 4]? = some (.int k z.1) ∧ cs[i * 4 + 1]? = some (.int k z.2.1) ∧ cs[i * 4 + 2]? = some (.int k z.2.2.1) ∧ cs[i * 4 + 3]? = some (.int k z.2.2.2) := by
  cases fuel with
  | zero => simp [DataW.trod] at h
  | succ fuel =>
    simp only [DataW.trod, hu, ct] at h
    split at h
    · rename_i hl
      obtain ⟨xs, hm, hx⟩ := Option.map_eq_some_iff.1 h
      have hxs : xs.map (·.1) = zs.map (quadD (H := H) k) := by
        have := congrArg Prod.fst hx
        simpa using this
      have hxl : xs.length = n := by simpa using mapM_length hm
      have hzl : zs.length = n := by
        have := congrArg List.length hxs
        simp at this
        omega
      intro i z hz
      have hi : i < n := by
        have := (List.getElem?_eq_some_iff.1 hz).1
        omega
      obtain ⟨b, hb, hf⟩ := mapM_at hm i i (by simp [hi])
      have h2 : (xs.map (·.1))[i]? = some b.1 := by simp [hb]
      rw [hxs] at h2
      simp only [List.getElem?_map, hz, Option.map_some, Option.some.injEq] at h2
      obtain ⟨bd, bp⟩ := b
      simp only at h2
      subst h2
      have a := trod_quad ht hgs o0 o1 t0 t1 ce he hfs h0 h1 k0 k1 c0 c1 hf
      simp [List.getElem?_take, List.getElem?_drop] at a
      exact ⟨by simpa using a.1, by simpa using a.2.1, by simpa using a.2.2.1, by simpa using a.2.2.2⟩
    · cases h
theorem quads_of_laid {P : Program} {W : World} {name : String} {k : IntKind} {zs : List (Int × Int × Int × Int)} {g : Nat} {u t e : TypeId} {n : Nat} {gs : Array Field} {g0 g1 : Field} {fs : Array Field} {f0 f1 : Field}
    (hg : P.globalNamed name = some g) (hty : (P.globals[g]?).map (·.type) = some u)
    (hu : P.underlying u = some (.array n t)) (ht : P.underlying t = some (.struct gs)) (hgs : gs.toList = [g0, g1]) (o0 : g0.offset = 0) (o1 : g1.offset = 2) (t0 : g0.type = e) (t1 : g1.type = e) (ce : P.cellsOf e = 2) (ct : P.cellsOf t = 4)
    (he : P.underlying e = some (.struct fs)) (hfs : fs.toList = [f0, f1]) (h0 : f0.offset = 0) (h1 : f1.offset = 1) (k0 : P.underlying f0.type = some (.int k)) (k1 : P.underlying f1.type = some (.int k))
    (c0 : P.cellsOf f0.type = 1) (c1 : P.cellsOf f1.type = 1)
    (h : laidMet P [(name, .agg (zs.map (quadD k)))] W) (i : Nat) (z : Int × Int × Int × Int) (hz : zs[i]? = some z) :
    W.cell? ⟨g, i * 4, none⟩ = some (.int k z.1) ∧ W.cell? ⟨g, i * 4 + 1, none⟩ = some (.int k z.2.1) ∧ W.cell? ⟨g, i * 4 + 2, none⟩ = some (.int k z.2.2.1) ∧ W.cell? ⟨g, i * 4 + 3, none⟩ = some (.int k z.2.2.2) := by
  obtain ⟨ps, ⟨g', t', cs, fuel, p, q, hg', ht', hvar, hd, _, _⟩, _⟩ := h
  obtain rfl := Option.some.inj (hg.symm.trans hg')
  obtain rfl := Option.some.inj (hty.symm.trans ht')
  obtain ⟨a, b, c, d⟩ := cells_of_quads hu ht hgs o0 o1 t0 t1 ce ct he hfs h0 h1 k0 k1 c0 c1 hd i z hz
  have r0 := World.var?_cell hg hvar (i * 4)
  have r1 := World.var?_cell hg hvar (i * 4 + 1)
  have r2 := World.var?_cell hg hvar (i * 4 + 2)
  have r3 := World.var?_cell hg hvar (i * 4 + 3)
  exact ⟨by rw [r0]; simpa using a, by rw [r1]; simpa using b, by rw [r2]; simpa using c, by rw [r3]; simpa using d⟩
end Go.Proofs.YtencngffhbhifaaGreatDoor
end
section
namespace Go.Proofs.YtencngffhbhifaaGreatDoor
set_option linter.all false
namespace Mini
variable {P : Program} {rd : Option Nat} {s s1 : St} {R W : Nat}

theorem snd_rounds {c : Code} {A : Nat → Act} {S : Nat → St} {e : Exit} {a1 : Act} : ∀ (m i : Nat), (∀ k, i ≤ k → k < i + m → SndC P rd c (A k) (S k) .normal (A (k + 1)) (S (k + 1)) R W) →
    SndC P rd c (A (i + m)) (S (i + m)) e a1 s1 R W → e ≠ .normal → Snd P rd (LoopFrom P c) (A i) (S i) e a1 s1 R W
  | 0, i, _, h, he => snd_from_stop he h
  | m + 1, i, hs, h, he => by
    have ih := snd_rounds (A := A) (S := S) m (i + 1) (fun k h1 h2 => hs k (by omega) (by omega)) (by rw [show i + 1 + m = i + (m + 1) from by omega]; exact h) he
    have := snd_from_on (hs i (Nat.le_refl _) (by omega)) ih
    rwa [Nat.or_self, Nat.or_self] at this
theorem sndC_rounds {c : Code} {A : Nat → Act} {S : Nat → St} {e : Exit} {a1 : Act} (m : Nat) (hs : ∀ k, k < m → SndC P rd c (A k) (S k) .normal (A (k + 1)) (S (k + 1)) R W)
    (h : SndC P rd c (A m) (S m) e a1 s1 R W) (he : e ≠ .normal) : SndC P rd (.loop c) (A 0) (S 0) e a1 s1 R W :=
  sndC_loop (snd_rounds m 0 (fun k _ h2 => hs k (by omega)) (by rw [Nat.zero_add]; exact h) he)
theorem Snd.widen {T : Tr} {a a1 : Act} {e : Exit} {R2 W2 : Nat} (h : Snd P rd T a s e a1 s1 R W) (hW : W2 = W) (hR : ∀ b, R.testBit b = true → (R2 ||| W2).testBit b = true) : Snd P rd T a s e a1 s1 R2 W2 := by
  subst hW
  refine ⟨h.1, fun n ro ρ C a' w Q hp ha hQ => h.2 n ro ρ C a' w Q ⟨hp.glob, hp.round, fun b hb hlt => hp.agree b ?_ hlt, hp.free, hp.rel⟩ ha hQ⟩
  simp only [or_bit, Bool.or_eq_true] at hb ⊢
  rcases hb with k | k
  · have := hR b k; simpa only [or_bit, Bool.or_eq_true] using this
  · exact .inr k

def Tfn (P : Program) (f : FuncId) : Tr := fun F n Q a w => CallsIn F n P f a.tmps w fun en w' => ∃ v, en = .returned v ∧ Q .normal ⟨#[v], []⟩ w'
theorem sndF_snd {f : FuncId} {args : Array Value} {v : Value} (h : SndF P f args s v s1 R W) : Snd P none (Tfn P f) ⟨args, []⟩ s .normal ⟨#[v], []⟩ s1 R W := by
  refine ⟨h.1, fun n ro ρ C a' w Q hp ha hQ => ?_⟩
  have hro : ro = none := by
    have := hp.round
    cases ro with
    | none => rfl
    | some l => exact this.elim
  subst hro
  refine h.2 n ρ C a'.tmps w _ hp ha.tmps fun ρ1 v' w1 p1 r1 hv => ⟨v', rfl, hQ ρ1 _ w1 p1 r1 ⟨⟨rfl, fun i x x' h1 h2 => ?_⟩, trivial⟩⟩
  cases i with
  | zero => simp at h1 h2; subst h1 h2; exact hv
  | succ i => simp at h1
theorem snd_sndF {f : FuncId} {args : Array Value} {v : Value} (h : Snd P none (Tfn P f) ⟨args, []⟩ s .normal ⟨#[v], []⟩ s1 R W) : SndF P f args s v s1 R W := by
  refine ⟨h.1, fun n ρ C args' w Q hp ha hQ => ?_⟩
  have := h.2 n none ρ C ⟨args', []⟩ w (fun e a w' => e = .normal ∧ ∃ v', a = ⟨#[v'], []⟩ ∧ Q (.returned v') w') hp ⟨ha, trivial⟩ fun ρ1 a1' w1 p1 r1 ha1 => by
    obtain ⟨t, d⟩ := a1'
    have hd : d = [] := by
      have := ha1.defs
      cases d with
      | nil => rfl
      | cons x xs => exact this.elim
    subst hd
    have hs : t.size = 1 := ha1.tmps.1.symm
    have ht : t = #[t[0]'(by omega)] := by
      apply Array.ext
      · simp [hs]
      · intro i h1 h2
        have : i = 0 := by omega
        subst this; rfl
    refine ⟨rfl, t[0]'(by omega), by rw [← ht], hQ ρ1 _ w1 p1 r1 (ha1.tmps.2 0 _ _ rfl (Array.getElem?_eq_getElem (show 0 < t.size by omega)))⟩
  exact this.mono fun en w' ⟨v', e, _, x, hx, hq⟩ => by
    have hx := congrArg Act.tmps hx
    simp at hx
    rw [e, hx]; exact hq
theorem SndF.embed {f : FuncId} {args args2 : Array Value} {v v2 : Value} {s0 s01 : St} {R0 W0 : Nat} {ι : Nat → Nat} {κ : Nat → Option Nat} (h : SndF P f args s0 v s01 R0 W0) (E : Emb P s0 s01 R0 W0 s s1 R W ι κ)
    (ha : WVs (fun x y => y < s0.next ∧ x = ι y) args2 args) (hv : WV (fun y z => κ y = some z) v v2) : SndF P f args2 s v2 s1 R W :=
  snd_sndF ((sndF_snd h).embed E (.inl ⟨rfl, rfl⟩) ⟨ha, rfl, rfl⟩ ⟨⟨rfl, fun i x u h1 h2 => by
    cases i with
    | zero => simp at h1 h2; subst h1 h2; exact hv
    | succ i => simp at h1⟩, rfl, rfl⟩)

def keepB (N : Nat → Bool) : Nat → Value → Bool
  | _, .bool _ | _, .int _ _ | _, .float _ _ | _, .complex _ _ _ | _, .string _ | _, .pointer none | _, .slice none _ _ | _, .map none | _, .nilFunc | _, .nilIface | _, .chan _ => true
  | _, .pointer (some ⟨b, _, none⟩) => N b
  | _, .slice (some ⟨b, _, none⟩) _ _ => N b
  | _, .map (some b) => N b
  | n + 1, .func (.yield l) azz bs => match azz.toList, bs.toList with
    | [], [] => N l
    | _, _ => false
  | n + 1, .func fn azz bs => plainFn fn && azz.toList.all (keepB N n) && bs.toList.all (keepB N n)
  | n + 1, .iface _ v => keepB N n v
  | n + 1, .agg cs => cs.toList.all (keepB N n)
  | n + 1, .tuple cs => cs.toList.all (keepB N n)
  | _, _ => false
theorem keep_wv {f : Nm} {N : Nat → Bool} (hN : ∀ b, N b = true → f b b) : ∀ (n : Nat) {v : Value}, keepB N n v = true → WV f v v := by
  have arr : ∀ (n : Nat) (cs : Array Value), cs.toList.all (keepB N n) = true → (∀ {v : Value}, keepB N n v = true → WV f v v) → ∀ (ρ ρ' : Ren), RenOk f ρ ρ' → ∀ (cs' : Array Value),
      (∀ (i : Nat) (v v' : Value), cs[i]? = some v → cs'[i]? = some v' → VR ρ v v') → ∀ (i : Nat) (v v' : Value), cs[i]? = some v → cs'[i]? = some v' → VR ρ' v v' := fun n cs hc ih ρ ρ' hr cs' h i v v' h1 h2 => by
    refine ih ?_ ρ ρ' hr v' (h i v v' h1 h2)
    rw [List.all_eq_true] at hc
    exact hc _ (by rw [Array.mem_toList_iff]; exact Array.mem_of_getElem? h1)
  intro n
  induction n with
  | zero =>
    intro v hk ρ ρ' hr v' hv
    cases hv with
    | bool b => exact .bool b
    | int k n => exact .int k n
    | float k n => exact .float k n
    | complex k a b => exact .complex k a b
    | string s => exact .string s
    | ptr0 => exact .ptr0
    | ptr b o L h => exact .ptr b o L (hr b b L (hN b (by simpa [keepB] using hk)) h)
    | slice0 n c => exact .slice0 n c
    | empty a a' => exact .empty a a'
    | slice b o n c c' L h hc => exact .slice b o n c c' L (hr b b L (hN b (by simpa [keepB] using hk)) h) hc
    | map0 => exact .map0
    | map b L h => exact .map b L (hr b b L (hN b (by simpa [keepB] using hk)) h)
    | nilFunc => exact .nilFunc
    | nilIface => exact .nilIface
    | junk r v' => exact .junk r v'
    | _ => simp [keepB] at hk
  | succ n ih =>
    intro v hk ρ ρ' hr v' hv
    cases hv with
    | bool b => exact .bool b
    | int k n => exact .int k n
    | float k n => exact .float k n
    | complex k a b => exact .complex k a b
    | string s => exact .string s
    | ptr0 => exact .ptr0
    | ptr b o L h => exact .ptr b o L (hr b b L (hN b (by simpa [keepB] using hk)) h)
    | slice0 n c => exact .slice0 n c
    | empty a a' => exact .empty a a'
    | slice b o n c c' L h hc => exact .slice b o n c c' L (hr b b L (hN b (by simpa [keepB] using hk)) h) hc
    | map0 => exact .map0
    | map b L h => exact .map b L (hr b b L (hN b (by simpa [keepB] using hk)) h)
    | func fn azz bs as' bs' hf h1 h2 h3 h4 =>
      have hk' : (plainFn fn && azz.toList.all (keepB N n) && bs.toList.all (keepB N n)) = true := by
        cases fn <;> first | (simp only [keepB] at hk; exact hk) | (simp [plainFn] at hf)
      simp only [Bool.and_eq_true] at hk'
      exact .func fn azz bs as' bs' hf h1 h2 (arr n azz hk'.1.2 ih ρ ρ' hr as' h3) (arr n bs hk'.2 ih ρ ρ' hr bs' h4)
    | yield l L h => exact .yield l L (hr l l L (hN l (by simpa [keepB] using hk)) h)
    | nilFunc => exact .nilFunc
    | nilIface => exact .nilIface
    | iface t v v' h => simp only [keepB] at hk; exact .iface t v v' (ih hk ρ ρ' hr v' h)
    | agg cs cs' h1 h2 => simp only [keepB] at hk; exact .agg cs cs' h1 (arr n cs hk ih ρ ρ' hr cs' h2)
    | tuple cs cs' h1 h2 => simp only [keepB] at hk; exact .tuple cs cs' h1 (arr n cs hk ih ρ ρ' hr cs' h2)
    | junk r v' => exact .junk r v'
theorem junk_wv {f : Nm} (v : Value) (r) : WV f v (.chan r) := fun ρ ρ' _ v' _ => .junk r v'
def keepO (N : Nat → Bool) : MObj → Prop
  | .hole => True
  | .cells c _ _ _ _ => c.all (keepB N 8) = true
  | .rows _ _ g _ _ _ _ => ∀ i k, keepB N 8 (g i k) = true
  | .iter _ _ => True
  | .marks => True
  | _ => False
theorem keep_wo {f : Nm} {N : Nat → Bool} (hN : ∀ b, N b = true → f b b) {o : MObj} (h : keepO N o) : WO f o o := by
  refine ⟨id, fun _ h => h, fun ρ ρ' hr L o' ho => ?_⟩
  cases o with
  | hole => trivial
  | cells c e opn sz ro =>
    cases o' <;> simp only [OR] at ho ⊢
    obtain ⟨h1, h2, h3, h4, h5, h6, h7⟩ := ho
    exact ⟨h1, h2, h3, h4, h5, fun i v hi => let ⟨v', a, b⟩ := h6 i v hi; ⟨v', a, keep_wv hN 8 (List.all_eq_true.1 h v (List.mem_of_getElem? hi)) ρ ρ' hr v' b⟩, h7⟩
  | rows n k g e opn sz ro =>
    cases o' <;> simp only [OR] at ho ⊢
    obtain ⟨h1, h2, h3, h4, h5, h6, h7⟩ := ho
    refine ⟨h1, h2, h3, h4, h5, fun i v hi => let ⟨v', a, b⟩ := h6 i v hi; ⟨v', a, keep_wv hN 8 ?_ ρ ρ' hr v' b⟩, h7⟩
    have hlt : i < n * k := by
      have := (List.getElem?_eq_some_iff.1 hi).1
      rwa [rowsL_len] at this
    rw [rowsL_at hlt] at hi
    cases hi
    exact h _ _
  | iter s p => cases o' <;> simp only [OR] at ho ⊢; exact ho
  | marks => cases o' <;> simp only [OR] at ho ⊢; exact ho
  | map es k => exact h.elim
  | loop l => exact h.elim
  | miter m si sn la => exact h.elim

structure Fits (N : Nat → Bool) (a a2 : MA) : Prop where
  n : a2.n = a.n
  d : a.defers = []
  d2 : a2.defers = []
  tmps : ∀ t, t < a.n → (∃ r, a2.get t = .chan r) ∨ (a2.get t = a.get t ∧ keepB N 8 (a.get t) = true)
theorem Fits.wa {f : Nm} {N : Nat → Bool} (hN : ∀ b, N b = true → f b b) {a a2 : MA} (h : Fits N a a2) : WA f a.act a2.act := by
  refine ⟨⟨?_, fun i v u h1 h2 => ?_⟩, h.d, h.d2⟩
  · show a.tmps.size = a2.tmps.size
    rw [a.tmps_size, a2.tmps_size, h.n]
  · have hi : i < a.n := by
      have := (Array.getElem?_eq_some_iff.1 h1).1
      have h3 : i < a.tmps.size := this
      rwa [a.tmps_size] at h3
    have e1 : a.tmps[i]? = some v := h1
    have e2 : a2.tmps[i]? = some u := h2
    rw [a.tmps_at i hi] at e1
    rw [a2.tmps_at i (h.n ▸ hi)] at e2
    cases e1
    cases e2
    rcases h.tmps i hi with ⟨r, hr⟩ | ⟨hr, hk⟩
    · rw [hr]; exact junk_wv _ r
    · rw [hr]; exact keep_wv hN 8 hk
theorem Snd.forget {T : Tr} {a a1 a2 : MA} {e : Exit} {s2 : St} (h : Snd P none T a.act s e a1.act s1 R W) (hg : P.globals.size ≤ s.next) (ha : Fits (fun b => Nat.ble (b + 1) s.next) a a)
    (ha1 : Fits (fun b => Nat.ble (b + 1) s.next) a1 a2) (hn : s2.next = s.next) (hr : ∀ b, b < s.next → (R ||| W).testBit b = true → keepO (fun b => Nat.ble (b + 1) s.next) (s.get b))
    (hw : ∀ b, b < s.next → W.testBit b = true → s.get b ≠ .hole ∧ roO (s.get b) = false ∧ s2.get b = s1.get b ∧ keepO (fun b => Nat.ble (b + 1) s.next) (s1.get b)) (hs : ∀ b, b < s.next → W.testBit b = false → s2.get b = s.get b) :
    Snd P none T a.act s e a2.act s2 R W := by
  have hN : ∀ b, Nat.ble (b + 1) s.next = true → b < s.next ∧ b = id b := fun b hb => ⟨Nat.le_of_ble_eq_true hb, rfl⟩
  have hK : ∀ b, Nat.ble (b + 1) s.next = true → (fun y z => (if y < s.next then some y else none) = some z) b b := fun b hb => if_pos (Nat.le_of_ble_eq_true hb)
  refine h.embed (ι := id) (κ := fun b => if b < s.next then some b else none) ⟨fun g hg' => ⟨by omega, rfl⟩, fun b hb => hb, fun b b' _ _ e => e, fun b _ hb => hb, fun b hb hb' => ⟨hb', (hw b hb hb').1, (hw b hb hb').2.1⟩, fun b hb hb' => keep_wo hN (hr b hb hb'), ⟨by rw [hn]; exact Nat.le_refl _, hs⟩, fun b hb => if_pos hb, fun b x hb hx => ?_, fun b b' x h1 h2 => ?_, fun x hx hxw => ⟨x, hx, rfl, hxw, ?_⟩, fun x h1 h2 => ?_⟩ (.inl ⟨rfl, rfl⟩) ?_ ?_
  · rw [if_neg (by omega)] at hx; cases hx
  · split at h1
    · split at h2
      · cases h1; cases h2; rfl
      · cases h2
    · cases h1
  · rw [(hw x hx hxw).2.2.1]
    exact keep_wo hK (hw x hx hxw).2.2.2
  · omega
  · exact ha.wa hN
  · exact ha1.wa hK

def theLoop : Code → Option Code
  | .loop x => some x
  | .seq a b => match theLoop a with
    | some x => some x
    | none => theLoop b
  | .block _ a => theLoop a
  | .scope a => theLoop a
  | .cond _ a b => match theLoop a with
    | some x => some x
    | none => theLoop b
  | _ => none
def loopOf (P : Program) (f : FuncId) : Code := (theLoop (bodyOf P f)).getD .skip
def lessL (a a2 : MA) : Nat → Prop
  | 0 => True
  | n + 1 => lessL a a2 n ∧ (match a2.get n with
    | .chan _ => True
    | v => v = a.get n)
theorem lessL_at {a a2 : MA} : ∀ (n : Nat), lessL a a2 n → ∀ t, t < n → (∃ r, a2.get t = .chan r) ∨ a2.get t = a.get t
  | 0, h, t, ht => by omega
  | n + 1, h, t, ht => by
    rcases Nat.lt_or_ge t n with c | c
    · exact lessL_at n h.1 t c
    · have : t = n := by omega
      subst this
      have h2 := h.2
      split at h2
      · rename_i r hr; exact .inl ⟨r, hr⟩
      · exact .inr h2
theorem less_of {a a2 : MA} (hn : a2.n = a.n) (hd : a2.defers = a.defers) (h : lessL a a2 a.n) : Less a a2 := ⟨hn, hd, lessL_at _ h⟩
end Mini
end Go.Proofs.YtencngffhbhifaaGreatDoor
end
section
namespace Go.Proofs.YtencngffhbhifaaGreatDoor
set_option linter.all false
namespace Mini
variable {P : Program} {rd : Option Nat} {s s1 : St} {R W : Nat}

theorem ground_wv {f : Nm} {n : Nat} {v : Value} (h : ground n v = true) : WV f v v := fun ρ ρ' _ v' hv => by
  have e := ground_eq n h hv
  subst e
  exact ground_refl n h
theorem wo_rows {f : Nm} {o : MObj} {n k : Nat} {G : Nat → Nat → Value} {e : TypeId} {opn : Bool} {sz : Nat} {ro : Bool} (h : nrm o = .cells (rowsL n k G) e opn sz ro) (hg : ∀ i j, i < n → j < k → ground 8 (G i j) = true) :
    WO f o (.rows n k G e opn sz ro) := by
  refine ⟨fun _ e => ?_, fun _ hr => by rw [nrm_ro (show nrm o = nrm (.rows n k G e opn sz ro) from h)] at hr; exact hr, fun ρ ρ' hr L o' ho => ?_⟩
  · subst e; simp [nrm] at h
  · have h1 : OR ρ L (.rows n k G e opn sz ro) o' := or_congr (show nrm o = nrm (.rows n k G e opn sz ro) from h) ho
    cases o' <;> simp only [OR] at h1 ⊢
    obtain ⟨k1, k2, k3, k4, k5, k6, k7⟩ := h1
    refine ⟨k1, k2, k3, k4, k5, fun i v hi => ?_, k7⟩
    obtain ⟨v', a, b⟩ := k6 i v hi
    refine ⟨v', a, ?_⟩
    have hlt : i < n * k := by
      have := (List.getElem?_eq_some_iff.1 hi).1
      rwa [rowsL_len] at this
    have hv := hi
    rw [rowsL_at hlt] at hv
    cases hv
    have hk : 0 < k := by
      rcases Nat.eq_zero_or_pos k with z | z
      · subst z; simp at hlt
      · exact z
    exact ground_wv (f := f) (hg _ _ ((Nat.div_lt_iff_lt_mul hk).2 hlt) (Nat.mod_lt _ hk)) ρ ρ' hr v' b
theorem SndF.row {f : FuncId} {args args2 : Array Value} {v : Value} {o : MObj} {N b : Nat} (hN : N = P.globals.size) (h : SndF P f args ((noTabs N).push o) v ((noTabs N).push o) (2 ^ N) 0) (hv : ground 8 v = true)
    (hb : N ≤ b) (hbs : b < s.next) (ho : ∀ f : Nm, WO f (s.get b) o) (ha : ∀ f : Nm, (∀ x, x < N → f x x) → f b N → WVs f args2 args) : SndF P f args2 s v s (2 ^ b) 0 := by
  have hn : ((noTabs N).push o).next = N + 1 := rfl
  have hbit : ∀ {m x : Nat}, (2 ^ m).testBit x = true → x = m := fun hx => bit_iff.1 hx
  refine h.embed (ι := fun x => if x = N then b else x) (κ := fun x => if x = N then some b else if x < N then some x else none) ⟨fun g hg => ⟨by rw [hn]; omega, if_neg (by omega)⟩, fun x hx => ?_, fun x y hx hy e => ?_, fun x _ hx => ?_, fun x _ hx => ?_, fun x hx hbx => ?_, Stat.refl s, fun x hx => ?_, fun x y hx hk => ?_, fun x y z h1 h2 => ?_, fun x _ hx => ?_, fun x h1 h2 => ?_⟩ ?_ ?_
  · rw [hn] at hx
    show (if x = N then b else x) < s.next
    split <;> omega
  · rw [hn] at hx hy
    have e : (if x = N then b else x) = (if y = N then b else y) := e
    split at e <;> split at e <;> omega
  · have hx : (2 ^ N ||| 0).testBit x = true := hx
    rw [Nat.or_zero] at hx
    have := hbit hx
    subst this
    show (2 ^ b ||| 0).testBit (if x = x then b else x) = true
    rw [if_pos rfl, Nat.or_zero]; exact bit_self b
  · simp at hx
  · have hbx : (2 ^ N ||| 0).testBit x = true := hbx
    rw [Nat.or_zero] at hbx
    have := hbit hbx
    subst this
    show WO _ (s.get (if x = x then b else x)) _
    rw [if_pos rfl, show ((noTabs x).push o).get x = o from (noTabs x).get_push_new o]
    exact ho _
  · rw [hn] at hx
    show (if x = N then some b else if x < N then some x else none) = some (if x = N then b else x)
    split
    · rfl
    · rw [if_pos (by omega)]
  · rw [hn] at hx
    have hk : (if x = N then some b else if x < N then some x else none) = some y := hk
    rw [if_neg (by omega), if_neg (by omega)] at hk
    cases hk
  · have h1 : (if x = N then some b else if x < N then some x else none) = some z := h1
    have h2 : (if y = N then some b else if y < N then some y else none) = some z := h2
    split at h1 <;> split at h2
    · omega
    · split at h2
      · cases h1; cases h2; omega
      · cases h2
    · split at h1
      · cases h1; cases h2; omega
      · cases h1
    · split at h1
      · split at h2
        · cases h1; cases h2; rfl
        · cases h2
      · cases h1
  · simp at hx
  · omega
  · refine ha _ (fun x hx => ⟨by rw [hn]; omega, (if_neg (by omega)).symm⟩) ⟨by rw [hn]; omega, (if_pos rfl).symm⟩
  · exact ground_wv hv

theorem SndF.rows {f : FuncId} {args args2 : Array Value} {v : Value} {s0 : St} {N R0 : Nat} {bs : List Nat} (hN : N = P.globals.size) (h : SndF P f args s0 v s0 R0 0) (hv : ground 8 v = true) (hn : s0.next = N + bs.length)
    (hb : ∀ b, b ∈ bs → N ≤ b ∧ b < s.next) (hd : bs.Nodup) (hNs : N ≤ s.next) (hR0 : ∀ x, R0.testBit x = true → x < N + bs.length → N ≤ x) (hR : ∀ b, b ∈ bs → R.testBit b = true)
    (ho : ∀ (f : Nm) (j : Nat) (hj : j < bs.length), WO f (s.get bs[j]) (s0.get (N + j))) (ha : ∀ f : Nm, (∀ x, x < N → f x x) → (∀ (j : Nat) (hj : j < bs.length), f bs[j] (N + j)) → WVs f args2 args) : SndF P f args2 s v s R 0 := by
  have hι : ∀ x (hx : x < N + bs.length), (if x < N then x else bs.getD (x - N) 0) = if hc : x < N then x else bs[x - N]'(by omega) := fun x hx => by
    split
    · rfl
    · simp [List.getD, List.getElem?_eq_getElem (show x - N < bs.length by omega)]
  refine h.embed (ι := fun x => if x < N then x else bs.getD (x - N) 0) (κ := fun x => if x < N + bs.length then some (if x < N then x else bs.getD (x - N) 0) else none) ⟨fun g hg => ⟨by rw [hn]; omega, if_pos (by omega)⟩, fun x hx => ?_, fun x y hx hy e => ?_, fun x hx hbx => ?_, fun x _ hx => ?_, fun x hx hbx => ?_, Stat.refl s, fun x hx => if_pos (by rw [hn] at hx; exact hx), fun x y hx hk => ?_, fun x y z h1 h2 => ?_, fun x _ hx => ?_, fun x h1 h2 => ?_⟩ ?_ ?_
  · rw [hn] at hx
    show (if x < N then x else bs.getD (x - N) 0) < s.next
    rw [hι x hx]
    split
    · omega
    · exact (hb _ (List.getElem_mem _)).2
  · rw [hn] at hx hy
    have e : (if x < N then x else bs.getD (x - N) 0) = (if y < N then y else bs.getD (y - N) 0) := e
    rw [hι x hx, hι y hy] at e
    split at e <;> split at e
    · exact e
    · have := (hb _ (List.getElem_mem (show y - N < bs.length by omega))).1; omega
    · have := (hb _ (List.getElem_mem (show x - N < bs.length by omega))).1; omega
    · have := (List.getElem_inj (i := x - N) (j := y - N) hd).1 e
      omega
  · rw [hn] at hx
    have hbx : (R0 ||| 0).testBit x = true := hbx
    rw [Nat.or_zero] at hbx
    have hNx := hR0 x hbx hx
    show (R ||| 0).testBit (if x < N then x else bs.getD (x - N) 0) = true
    rw [Nat.or_zero, hι x hx, dif_neg (by omega)]
    exact hR _ (List.getElem_mem _)
  · simp at hx
  · rw [hn] at hx
    have hbx : (R0 ||| 0).testBit x = true := hbx
    rw [Nat.or_zero] at hbx
    have hNx := hR0 x hbx hx
    show WO _ (s.get (if x < N then x else bs.getD (x - N) 0)) _
    rw [hι x hx, dif_neg (by omega)]
    have := ho (fun x_1 y => y < s0.next ∧ x_1 = if y < N then y else bs.getD (y - N) 0) (x - N) (by omega)
    rw [show N + (x - N) = x from by omega] at this
    exact this
  · rw [hn] at hx
    have hk : (if x < N + bs.length then some (if x < N then x else bs.getD (x - N) 0) else none) = some y := hk
    rw [if_neg (by omega)] at hk
    cases hk
  · have h1 : (if x < N + bs.length then some (if x < N then x else bs.getD (x - N) 0) else none) = some z := h1
    have h2 : (if y < N + bs.length then some (if y < N then y else bs.getD (y - N) 0) else none) = some z := h2
    split at h1
    · split at h2
      · rename_i hx hy
        have e := (Option.some.inj h1).trans (Option.some.inj h2).symm
        rw [hι x hx, hι y hy] at e
        split at e <;> split at e
        · exact e
        · have := (hb _ (List.getElem_mem (show y - N < bs.length by omega))).1; omega
        · have := (hb _ (List.getElem_mem (show x - N < bs.length by omega))).1; omega
        · have := (List.getElem_inj (i := x - N) (j := y - N) hd).1 e
          omega
      · cases h2
    · cases h1
  · simp at hx
  · omega
  · refine ha _ (fun x hx => ⟨by rw [hn]; omega, (if_pos hx).symm⟩) fun j hj => ⟨by rw [hn]; omega, ?_⟩
    show bs[j] = (if N + j < N then N + j else bs.getD (N + j - N) 0)
    rw [hι (N + j) (by omega), dif_neg (by omega)]
    simp
  · exact ground_wv hv
theorem SndF.rowsNew {f : FuncId} {args args2 : Array Value} {v v2 : Value} {s0 : St} {o1 o2 : MObj} {N R0 : Nat} {bs : List Nat} (hN : N = P.globals.size) (h : SndF P f args s0 v (s0.push o1) R0 0) (hn : s0.next = N + bs.length)
    (hb : ∀ b, b ∈ bs → N ≤ b ∧ b < s.next) (hd : bs.Nodup) (hNs : N ≤ s.next) (hR0 : ∀ x, R0.testBit x = true → x < N + bs.length → N ≤ x) (hR : ∀ b, b ∈ bs → R.testBit b = true)
    (ho : ∀ (f : Nm) (j : Nat) (hj : j < bs.length), WO f (s.get bs[j]) (s0.get (N + j))) (ha : ∀ f : Nm, (∀ x, x < N → f x x) → (∀ (j : Nat) (hj : j < bs.length), f bs[j] (N + j)) → WVs f args2 args) (hv : ∀ f : Nm, (∀ x, x < N → f x x) → (∀ (j : Nat) (hj : j < bs.length), f (N + j) bs[j]) → f (N + bs.length) s.next → WV f v v2 ∧ WO f o1 o2) : SndF P f args2 s v2 (s.push o2) R 0 := by
  have hι : ∀ x (hx : x < N + bs.length), (if x < N then x else bs.getD (x - N) 0) = if hc : x < N then x else bs[x - N]'(by omega) := fun x hx => by
    split
    · rfl
    · simp [List.getD, List.getElem?_eq_getElem (show x - N < bs.length by omega)]
  have hK1 : ∀ x, x < N → (fun y z => (if y < N + bs.length then some (if y < N then y else bs.getD (y - N) 0) else if y = N + bs.length then some s.next else none) = some z) x x := fun x hx => by
    show (if x < N + bs.length then some (if x < N then x else bs.getD (x - N) 0) else _) = some x
    rw [if_pos (by omega), if_pos hx]
  have hK2 : ∀ (j : Nat) (hj : j < bs.length), (fun y z => (if y < N + bs.length then some (if y < N then y else bs.getD (y - N) 0) else if y = N + bs.length then some s.next else none) = some z) (N + j) bs[j] := fun j hj => by
    show (if N + j < N + bs.length then some (if N + j < N then N + j else bs.getD (N + j - N) 0) else _) = some bs[j]
    rw [if_pos (by omega), hι (N + j) (by omega), dif_neg (by omega)]
    simp
  have hK3 : (fun y z => (if y < N + bs.length then some (if y < N then y else bs.getD (y - N) 0) else if y = N + bs.length then some s.next else none) = some z) (N + bs.length) s.next := by
    show (if N + bs.length < N + bs.length then _ else if N + bs.length = N + bs.length then some s.next else none) = some s.next
    rw [if_neg (Nat.lt_irrefl _), if_pos rfl]
  refine h.embed (ι := fun x => if x < N then x else bs.getD (x - N) 0) (κ := fun x => if x < N + bs.length then some (if x < N then x else bs.getD (x - N) 0) else if x = N + bs.length then some s.next else none) ⟨fun g hg => ⟨by rw [hn]; omega, if_pos (by omega)⟩, fun x hx => ?_, fun x y hx hy e => ?_, fun x hx hbx => ?_, fun x _ hx => ?_, fun x hx hbx => ?_, stat_push s _, fun x hx => if_pos (by rw [hn] at hx; exact hx), fun x y hx hk => ?_, fun x y z h1 h2 => ?_, fun x _ hx => ?_, fun x h1 h2 => ?_⟩ ?_ ?_
  · rw [hn] at hx
    show (if x < N then x else bs.getD (x - N) 0) < s.next
    rw [hι x hx]
    split
    · omega
    · exact (hb _ (List.getElem_mem _)).2
  · rw [hn] at hx hy
    have e : (if x < N then x else bs.getD (x - N) 0) = (if y < N then y else bs.getD (y - N) 0) := e
    rw [hι x hx, hι y hy] at e
    split at e <;> split at e
    · exact e
    · have := (hb _ (List.getElem_mem (show y - N < bs.length by omega))).1; omega
    · have := (hb _ (List.getElem_mem (show x - N < bs.length by omega))).1; omega
    · have := (List.getElem_inj (i := x - N) (j := y - N) hd).1 e
      omega
  · rw [hn] at hx
    have hbx : (R0 ||| 0).testBit x = true := hbx
    rw [Nat.or_zero] at hbx
    have hNx := hR0 x hbx hx
    show (R ||| 0).testBit (if x < N then x else bs.getD (x - N) 0) = true
    rw [Nat.or_zero, hι x hx, dif_neg (by omega)]
    exact hR _ (List.getElem_mem _)
  · simp at hx
  · rw [hn] at hx
    have hbx : (R0 ||| 0).testBit x = true := hbx
    rw [Nat.or_zero] at hbx
    have hNx := hR0 x hbx hx
    show WO _ (s.get (if x < N then x else bs.getD (x - N) 0)) _
    rw [hι x hx, dif_neg (by omega)]
    have := ho (fun x_1 y => y < s0.next ∧ x_1 = if y < N then y else bs.getD (y - N) 0) (x - N) (by omega)
    rw [show N + (x - N) = x from by omega] at this
    exact this
  · rw [hn] at hx
    have hk : (if x < N + bs.length then some (if x < N then x else bs.getD (x - N) 0) else if x = N + bs.length then some s.next else none) = some y := hk
    rw [if_neg (by omega)] at hk
    split at hk
    · cases hk; exact ⟨Nat.le_refl _, Nat.lt_succ_self _⟩
    · cases hk
  · have h1 : (if x < N + bs.length then some (if x < N then x else bs.getD (x - N) 0) else if x = N + bs.length then some s.next else none) = some z := h1
    have h2 : (if y < N + bs.length then some (if y < N then y else bs.getD (y - N) 0) else if y = N + bs.length then some s.next else none) = some z := h2
    have hlt : ∀ x (hx : x < N + bs.length), (if x < N then x else bs.getD (x - N) 0) < s.next := fun x hx => by
      rw [hι x hx]
      split
      · omega
      · exact (hb _ (List.getElem_mem _)).2
    split at h1
    · rename_i hx
      split at h2
      · rename_i hy
        have e := (Option.some.inj h1).trans (Option.some.inj h2).symm
        rw [hι x hx, hι y hy] at e
        split at e <;> split at e
        · exact e
        · have := (hb _ (List.getElem_mem (show y - N < bs.length by omega))).1; omega
        · have := (hb _ (List.getElem_mem (show x - N < bs.length by omega))).1; omega
        · have := (List.getElem_inj (i := x - N) (j := y - N) hd).1 e
          omega
      · split at h2
        · have e := (Option.some.inj h1).trans (Option.some.inj h2).symm
          have := hlt x hx
          omega
        · cases h2
    · split at h1
      · split at h2
        · rename_i hy
          have e := (Option.some.inj h1).trans (Option.some.inj h2).symm
          have := hlt y hy
          omega
        · split at h2
          · omega
          · cases h2
      · cases h1
  · simp at hx
  · have e : x = s.next := by have : (s.push o2).next = s.next + 1 := rfl; omega
    subst e
    refine .inr ⟨N + bs.length, by rw [hn]; exact Nat.le_refl _, by show N + bs.length < s0.next + 1; rw [hn]; omega, ?_, ?_⟩
    · show (if N + bs.length < N + bs.length then _ else if N + bs.length = N + bs.length then some s.next else none) = some s.next
      rw [if_neg (Nat.lt_irrefl _), if_pos rfl]
    · rw [St.get_push_new s, show (s0.push o1).get (N + bs.length) = o1 from hn ▸ St.get_push_new s0 o1]
      exact (hv _ hK1 hK2 hK3).2
  · refine ha _ (fun x hx => ⟨by rw [hn]; omega, (if_pos hx).symm⟩) fun j hj => ⟨by rw [hn]; omega, ?_⟩
    show bs[j] = (if N + j < N then N + j else bs.getD (N + j - N) 0)
    rw [hι (N + j) (by omega), dif_neg (by omega)]
    simp
  · exact (hv _ hK1 hK2 hK3).1
theorem rowsL_congr {n k : Nat} {G G' : Nat → Nat → Value} (h : ∀ i j, i < n → j < k → G i j = G' i j) : rowsL n k G = rowsL n k G' := by
  unfold rowsL
  apply List.map_congr_left
  intro j hj
  have hlt : j < n * k := by simpa using hj
  have hk : 0 < k := by
    rcases Nat.eq_zero_or_pos k with z | z
    · subst z; simp at hlt
    · exact z
  exact h _ _ ((Nat.div_lt_iff_lt_mul hk).2 hlt) (Nat.mod_lt _ hk)
theorem rowsL_cells {cs : List Value} {n : Nat} {G : Nat → Nat → Value} (hl : cs.length = n) (h : ∀ i, i < n → cs.getD i undef = G i 0) : cs = rowsL n 1 G := by
  apply List.ext_getElem?
  intro i
  rcases Nat.lt_or_ge i n with c | c
  · rw [rowsL_at (by omega), Nat.div_one, Nat.mod_one, ← h i c]
    simp [List.getD, List.getElem?_eq_getElem (show i < cs.length by omega)]
  · rw [List.getElem?_eq_none (by omega), List.getElem?_eq_none (by rw [rowsL_len]; omega)]
theorem slice_wv {f : Nm} {b N n c : Nat} (h : f b N) : WV f (.slice (some ⟨b, 0, none⟩) n c) (.slice (some ⟨N, 0, none⟩) n c) := fun ρ ρ' hr v' hv => by
  generalize hx : Value.slice (some ⟨b, 0, none⟩) n c = x at hv
  cases hv with
  | slice b' o n' c1 c' L h1 hc => cases hx; exact .slice N 0 n c c' L (hr b N L h h1) hc
  | empty a a' => cases hx; exact .empty _ _
  | _ => cases hx
theorem func_wv {f : Nm} {g : FuncId} : WV f (.func (.func g) #[] #[]) (.func (.func g) #[] #[]) := ground_wv (n := 8) rfl
theorem wvs_two {f : Nm} {a b a2 b2 : Value} (h1 : WV f a a2) (h2 : WV f b b2) : WVs f #[a, b] #[a2, b2] := ⟨rfl, fun i v u e1 e2 => by
  match i, e1, e2 with
  | 0, e1, e2 => simp at e1 e2; subst e1 e2; exact h1
  | 1, e1, e2 => simp at e1 e2; subst e1 e2; exact h2
  | i + 2, e1, e2 => simp at e1⟩
def gI : Value → Int
  | .int _ x => x
  | _ => 0

theorem SndF.mask {f : FuncId} {args : Array Value} {v : Value} {R2 W2 : Nat} (h : SndF P f args s v s1 R W) (hR : ∀ b, b < s.next → R.testBit b = true → R2.testBit b = true) (hW : ∀ b, b < s.next → W2.testBit b = W.testBit b) : SndF P f args s v s1 R2 W2 := by
  have hu : ∀ C, upd C s s1 W2 = upd C s s1 W := fun C => by
    funext b
    unfold upd
    have : ((s.next ≤ b ∧ b < s1.next) ∨ (W2.testBit b = true ∧ b < s.next)) ↔ ((s.next ≤ b ∧ b < s1.next) ∨ (W.testBit b = true ∧ b < s.next)) :=
      ⟨fun k => k.imp id fun ⟨k1, k2⟩ => ⟨hW b k2 ▸ k1, k2⟩, fun k => k.imp id fun ⟨k1, k2⟩ => ⟨(hW b k2).symm ▸ k1, k2⟩⟩
    by_cases c : (s.next ≤ b ∧ b < s1.next) ∨ (W.testBit b = true ∧ b < s.next)
    · rw [if_pos c, if_pos (this.2 c)]
    · rw [if_neg c, if_neg (fun k => c (this.1 k))]
  refine ⟨⟨h.1.1, fun b hb hw => h.1.2 b hb ((hW b hb).symm.trans hw)⟩, fun n ρ C args' w Q hp ha hQ => ?_⟩
  refine h.2 n ρ C args' w Q ⟨hp.glob, hp.round, fun b hb hlt => hp.agree b ?_ hlt, hp.free, hp.rel⟩ ha fun ρ1 v' w1 p1 r1 hv => hQ ρ1 v' w1 ⟨p1.sub, p1.dom, fun b L a c => (p1.fresh b L a c).imp id fun ⟨b0, L0, x1, x2, x3⟩ => ⟨b0, L0, (hW b0 x2).trans x1, x2, x3⟩, p1.size, fun x hx hf => p1.frame x hx fun b L a c => hf b L ((hW b c).trans a) c, p1.os, p1.tape, p1.output⟩ (by rw [hu]; exact r1) hv
  simp only [or_bit, Bool.or_eq_true] at hb ⊢
  rcases hb with k | k
  · exact .inl (hR b hlt k)
  · exact .inr ((hW b hlt).trans k)
def fitsL (N : Nat → Bool) (a a2 : MA) : Nat → Prop
  | 0 => True
  | n + 1 => fitsL N a a2 n ∧ (match a2.get n with
    | .chan _ => True
    | v => v = a.get n ∧ keepB N 8 v = true)
theorem fitsL_at {N : Nat → Bool} {a a2 : MA} : ∀ (n : Nat), fitsL N a a2 n → ∀ t, t < n → (∃ r, a2.get t = .chan r) ∨ (a2.get t = a.get t ∧ keepB N 8 (a.get t) = true)
  | 0, h, t, ht => by omega
  | n + 1, h, t, ht => by
    rcases Nat.lt_or_ge t n with c | c
    · exact fitsL_at n h.1 t c
    · have : t = n := by omega
      subst this
      have h2 := h.2
      split at h2
      · rename_i r hr; exact .inl ⟨r, hr⟩
      · exact .inr ⟨h2.1, h2.1 ▸ h2.2⟩
theorem fits_of {N : Nat → Bool} {a a2 : MA} (hn : a2.n = a.n) (hd : a.defers = []) (hd2 : a2.defers = []) (h : fitsL N a a2 a.n) : Fits N a a2 := ⟨hn, hd, hd2, fitsL_at _ h⟩

theorem Snd.wide {T : Tr} {a a1 : Act} {e : Exit} {R2 W2 : Nat} (h : Snd P rd T a s e a1 s1 R W) (hR : ∀ b, R.testBit b = true → (R2 ||| W2).testBit b = true) (hW : ∀ b, W.testBit b = true → W2.testBit b = true) : Snd P rd T a s e a1 s1 R2 W2 := by
  have hW' : ∀ b, W2.testBit b = false → W.testBit b = false := fun b hb => by
    cases hw : W.testBit b with
    | false => rfl
    | true => rw [hW b hw] at hb; cases hb
  refine ⟨⟨h.1.1, fun b hb hw => h.1.2 b hb (hW' b hw)⟩, fun n ro ρ C a' w Q hp ha hQ => ?_⟩
  have hu : upd C s s1 W2 = upd C s s1 W := by
    funext b
    unfold upd
    by_cases c : (s.next ≤ b ∧ b < s1.next) ∨ (W.testBit b = true ∧ b < s.next)
    · rw [if_pos c, if_pos (c.imp id fun ⟨k1, k2⟩ => ⟨hW b k1, k2⟩)]
    · rw [if_neg c]
      by_cases c2 : (s.next ≤ b ∧ b < s1.next) ∨ (W2.testBit b = true ∧ b < s.next)
      · rw [if_pos c2]
        rcases c2 with k | ⟨k1, k2⟩
        · exact absurd (.inl k) c
        · rw [hp.agree b (by rw [or_bit, k1]; simp) k2]
          refine h.1.2 b k2 ?_
          cases hw : W.testBit b with
          | false => rfl
          | true => exact absurd (.inr ⟨hw, k2⟩) c
      · rw [if_neg c2]
  refine h.2 n ro ρ C a' w Q ⟨hp.glob, hp.round, fun b hb hlt => hp.agree b ?_ hlt, hp.free, hp.rel⟩ ha fun ρ1 a1' w1 p1 r1 ha1 => hQ ρ1 a1' w1 ⟨p1.sub, p1.dom, fun b L a c => (p1.fresh b L a c).imp id fun ⟨b0, L0, x1, x2, x3⟩ => ⟨b0, L0, hW b0 x1, x2, x3⟩, p1.size, fun x hx hf => p1.frame x hx fun b L a c => hf b L (hW b a) c, p1.os, p1.tape, p1.output⟩ (by rw [hu]; exact r1) ha1
  simp only [or_bit, Bool.or_eq_true] at hb hR ⊢
  rcases hb with k | k
  · exact hR b k
  · exact .inr (hW b k)

def rowOf (k : IntKind) (s : St) (b n : Nat) : Option ((Nat → Int) × TypeId × Bool × Nat × Bool × Prop) := match s.get b with
  | .rows n' 1 G e opn sz ro => some (fun i => gI (G i 0), e, opn, sz, ro, n' = n ∧ ∀ i, i < n → G i 0 = .int k (gI (G i 0)))
  | .cells cs e opn sz ro => some (fun i => gI (cs.getD i undef), e, opn, sz, ro, cs.length = n ∧ ∀ i, i < n → cs.getD i undef = .int k (gI (cs.getD i undef)))
  | _ => none
theorem rowOf_wo {k : IntKind} {b n : Nat} {g : Nat → Int} {e : TypeId} {opn : Bool} {sz : Nat} {ro : Bool} {p : Prop} (h : rowOf k s b n = some (g, e, opn, sz, ro, p)) (hp : p) : b < s.next ∧ ∀ f : Nm, WO f (s.get b) (.rows n 1 (fun i _ => .int k (g i)) e opn sz ro) := by
  unfold rowOf at h
  split at h
  · rename_i n' G e' opn' sz' ro' ho
    cases h
    obtain ⟨rfl, hg⟩ := hp
    refine ⟨St.lt_of_live (by rw [ho]; simp), fun f => ?_⟩
    rw [ho]
    refine wo_rows (congrArg (fun l => MObj.cells l e opn sz ro) (rowsL_congr fun i j hi hj => ?_)) fun i j _ _ => rfl
    have : j = 0 := by omega
    subst this
    exact hg i hi
  · rename_i cs e' opn' sz' ro' ho
    cases h
    obtain ⟨hl, hg⟩ := hp
    refine ⟨St.lt_of_live (by rw [ho]; simp), fun f => ?_⟩
    rw [ho]
    exact wo_rows (congrArg (fun l => MObj.cells l e opn sz ro) (rowsL_cells hl fun i hi => hg i hi)) fun i j _ _ => rfl
  · cases h
end Mini
end Go.Proofs.YtencngffhbhifaaGreatDoor
end
section
namespace Go.Proofs.YtencngffhbhifaaGreatDoor
set_option linter.all false
open Go.RowKit
namespace Mini
variable {P : Program} {s s1 : St} {R W : Nat}

def rhoX (P : Program) (w : World) (ext : Nat → Option Loc) : Ren := fun b =>
  if b < P.globals.size then some ⟨b, 0, true, 0, match w.heap[b]? with | some (.cells cs _ _) => cs.size | _ => 0⟩ else ext b
theorem calls_ofX {f : FuncId} {args args' : Array Value} {v : Value} {w : World} {ext : Nat → Option Loc} (h : SndF P f args s v s1 R W) (hg : ground 8 v = true) (hn : P.globals.size ≤ s.next)
    (hh : ∀ b, b < P.globals.size → s.get b = .hole ∨ ∃ c e, s.get b = .cells c e true 0 true ∧ c ≠ [] ∧ c.all (ground 8) = true ∧ ∀ (i : Nat) (v : Value), c[i]? = some v → w.cell? ⟨b, i, none⟩ = some v)
    (hx : ∀ b, P.globals.size ≤ b → b < s.next → s.get b ≠ .hole → ∃ L o', ext b = some L ∧ (roO (s.get b) = false → P.globals.size ≤ L.blk) ∧ w.heap[L.blk]? = some o' ∧ OR (rhoX P w ext) L (s.get b) o')
    (hb : ∀ b, s.next ≤ b → ext b = none) (hi : ∀ b b' L L', P.globals.size ≤ b → P.globals.size ≤ b' → s.get b ≠ .hole → s.get b' ≠ .hole → (roO (s.get b) && roO (s.get b')) = false → ext b = some L → ext b' = some L' → L.blk = L'.blk → b = b')
    (ha : VRs (rhoX P w ext) args args') (hw : ∀ b, b < s.next → W.testBit b = false) : Calls P f args' w fun e w' => e = .returned v ∧ Below w.heap.size w w' := by
  have hG : Glob P (rhoX P w ext) := fun g hg => ⟨_, if_pos hg, rfl, rfl⟩
  have hlt : ∀ b, s.get b ≠ .hole → b < s.next := fun b hb => St.lt_of_live hb
  have hblk : ∀ b L, s.get b ≠ .hole → rhoX P w ext b = some L → (b < P.globals.size ∧ L.blk = b) ∨ (P.globals.size ≤ b ∧ ext b = some L ∧ (roO (s.get b) = false → P.globals.size ≤ L.blk)) := fun b L hb hL => by
    unfold rhoX at hL
    split at hL
    · rename_i c; cases hL; exact .inl ⟨c, rfl⟩
    · rename_i c
      obtain ⟨L2, o2, e1, e2, _⟩ := hx b (by omega) (hlt b hb) hb
      rw [hL] at e1
      cases e1
      exact .inr ⟨by omega, hL, e2⟩
  have hp : Pre P none s s1 R W none (rhoX P w ext) s.get w := by
    refine ⟨hG, trivial, fun _ _ _ => rfl, fun b h1 h2 => ⟨?_, St.get_beyond s b h1⟩, fun b hb => ?_, fun b b' L L' h1 h2 hq e1 e2 he => ?_⟩
    · show (if b < P.globals.size then _ else ext b) = none
      rw [if_neg (by omega)]
      exact hb b h1
    · by_cases c : b < P.globals.size
      · rcases hh b c with k | ⟨cs0, e, k1, k2, k3, k4⟩
        · exact absurd k hb
        · obtain ⟨cs, e', fr, q1, q2, q3⟩ := cells_of k2 k4
          refine ⟨_, .cells cs e' fr, if_pos c, q1, ?_⟩
          rw [k1]
          refine ⟨rfl, rfl, fun h => (by cases h), ?_, ?_, fun i u hi => ⟨u, by simpa using q3 i u hi, ground_refl 8 (List.all_eq_true.1 k3 u (List.mem_of_getElem? hi))⟩, fun h => (by cases h), fun h => (by cases h)⟩
          · simp only [q1]
          · simp only [q1, Nat.zero_add]; exact q2
      · obtain ⟨L, o', e1, _, e3, e4⟩ := hx b (by omega) (hlt b hb) hb
        exact ⟨L, o', by show (if b < P.globals.size then _ else ext b) = _; rw [if_neg c]; exact e1, e3, e4⟩
    · have htab : ∀ b, b < P.globals.size → s.get b ≠ .hole → roO (s.get b) = true := fun b hb hn => by
        rcases hh b hb with k | ⟨c, e, k1, _⟩
        · exact absurd k hn
        · rw [k1]; rfl
      rcases hblk b L h1 e1 with ⟨a1, a2⟩ | ⟨a1, a2, a3⟩ <;> rcases hblk b' L' h2 e2 with ⟨c1, c2⟩ | ⟨c1, c2, c3⟩
      · omega
      · rw [htab b a1 h1, Bool.true_and] at hq
        have := c3 hq
        omega
      · rw [htab b' c1 h2, Bool.and_true] at hq
        have := a3 hq
        omega
      · exact hi b b' L L' a1 c1 h1 h2 hq a2 c2 he
  refine callsIn_wide.1 (h.2 0 (rhoX P w ext) s.get args' w _ hp ha fun ρ1 v' w1 p1 _ hv => ?_)
  have hv' := ground_eq 8 hg hv
  subst hv'
  refine ⟨rfl, p1.os, p1.tape, p1.output, p1.size, fun k hk => p1.frame k hk fun b L hb hlt hL => ?_⟩
  have := hw b hlt
  rw [hb] at this
  cases this
theorem or_read {ρ : Ren} {n k : Nat} {g : Nat → Nat → Value} {e : TypeId} {cs : Array Value} {e' : TypeId} {fr : Nat × Nat} {blk base : Nat} (hl : base + n * k ≤ cs.size) (hg : ∀ i j, i < n → j < k → ground 8 (g i j) = true)
    (h : ∀ i j, i < n → j < k → cs[base + (i * k + j)]? = some (g i j)) : OR ρ ⟨blk, base, true, 0, cs.size⟩ (.rows n k g e true 0 true) (.cells cs e' fr) := by
  refine ⟨rfl, rfl, fun h => (by cases h), rfl, by rw [rowsL_len]; exact hl, fun i v hi => ?_, fun h => (by cases h), fun h => (by cases h)⟩
  have hlt : i < n * k := by
    have := (List.getElem?_eq_some_iff.1 hi).1
    rwa [rowsL_len] at this
  rw [rowsL_at hlt] at hi
  cases hi
  have hk : 0 < k := by
    rcases Nat.eq_zero_or_pos k with z | z
    · subst z; simp at hlt
    · exact z
  have h1 := (Nat.div_lt_iff_lt_mul hk).2 hlt
  have h2 := Nat.mod_lt i hk
  have h3 := h _ _ h1 h2
  rw [Nat.mul_comm, Nat.div_add_mod] at h3
  exact ⟨_, h3, ground_refl 8 (hg _ _ h1 h2)⟩
end Mini
end Go.Proofs.YtencngffhbhifaaGreatDoor
end
section
namespace Go.Proofs.YtencngffhbhifaaGreatDoor
set_option linter.all false
open Go.ChangeShapes Go.WideShapes Go.ChangeAt Go.RowKit Go.Lib Go.Deep
namespace Mini
def RowsAt (W : World) (ks : List IntKind) (v : Value) : Prop := v = .slice none 0 0 ∨ ∃ (b off len cap : Nat) (g : Nat → Nat → Int), v = .slice (some ⟨b, off, none⟩) len cap ∧ len ≤ cap ∧ cap ≤ maxLen ∧
  ∀ i j, i < len → j < ks.length → W.cell? ⟨b, off + (i * ks.length + j), none⟩ = some (.int (ks.getD j .i64) (g i j)) ∧ (Lit.int (ks.getD j .i64) (g i j)).wf = true
theorem wfs_at : ∀ {ks : List IntKind} {ns : List Int} {j : Nat}, ns.length = ks.length → wfs ks ns = true → j < ks.length → (Lit.int (ks.getD j .i64) (ns.getD j 0)).wf = true
  | [], _, j, _, _, h => absurd h (by simp)
  | k :: ks, [], j, h, _, _ => by cases h
  | k :: ks, n :: ns, 0, _, h, _ => by simp only [wfs, Bool.and_eq_true] at h; exact h.1
  | k :: ks, n :: ns, j + 1, hl, h, hj => by
    simp only [wfs, Bool.and_eq_true] at h
    have := wfs_at (ks := ks) (ns := ns) (j := j) (by simpa using hl) h.2 (by simpa using hj)
    simpa using this
theorem backI_at : ∀ {ks : List IntKind} {ns : List Int} {j : Nat}, ns.length = ks.length → j < ks.length → (backI ks ns)[j]? = some (.int (ks.getD j .i64) (ns.getD j 0))
  | [], _, j, _, h => absurd h (by simp)
  | k :: ks, [], j, h, _ => by cases h
  | k :: ks, n :: ns, 0, _, _ => rfl
  | k :: ks, n :: ns, j + 1, hl, hj => by
    have := backI_at (ks := ks) (ns := ns) (j := j) (by simpa using hl) (by simpa using hj)
    simpa [backI] using this
theorem rows_of {H : Type} {enc : TypeId × Value → H} {P : Program} {W : World} {base m : Nat} {t e : TypeId} {v : Value} {d : DataW H} {p : List MemPlace} {ks : List IntKind} (ht : P.underlying t = some (.slice e)) (hk : kindsT P m e = some ks) (hc : P.cellsOf e = ks.length)
    (hv : Value.okWide P W .any base t v) (h : DataW.Trod enc P W 0 (fun _ => true) true t v d p) : RowsAt W ks v := by
  obtain ⟨a, len, cap, rfl⟩ := okWide_slice ht hv
  obtain ⟨fuel, hf⟩ := h
  rcases open_slice ht hf with ⟨hcs, _⟩ | ⟨a', len', cap', m', n, D, Pl, hcs, _, hl, hmx, hm, _, hx⟩
  · left
    simpa [Value.cells] using hcs
  · right
    have hcs : Value.slice a len cap = .slice (some a') len' cap' := by simpa [Value.cells] using hcs
    cases hcs
    simp only [Value.okWide, ht, Cell.okWide, Cell.ok, World.has] at hv
    obtain ⟨b, off, spot⟩ := a'
    have hs : spot = none := hv.2.2.2.1
    subst hs
    have hm' : len ≤ m' := by rw [hm]; exact hl
    have z0 : ∀ i, ∃ ns : List Int, i < len → ns.length = ks.length ∧ wfs ks ns = true ∧ ∀ j, j < ks.length → W.cell? ⟨b, off + (i * ks.length + j), none⟩ = (backI ks ns)[j]? := fun i => by
      by_cases hi : i < len
      · obtain ⟨cs', q1, q2⟩ := hx i (by omega)
        rw [hc] at q1
        obtain ⟨_, hlen, hcell⟩ := World.cells?_some q1
        obtain ⟨_, ns, l1, c1, f1, _⟩ := open_kinds m e ks hk n cs' (D i) (Pl i) W 0 (fun _ => true) true q2
        refine ⟨ns, fun _ => ⟨l1, f1, fun j hj => ?_⟩⟩
        have h2 := hcell j hj
        rw [Go.WideShapes.add_plain, Go.WideShapes.add_plain] at h2
        rw [← c1, ← h2]
        congr 2
        omega
      · exact ⟨[], fun h => absurd h hi⟩
    refine ⟨b, off, len, cap, fun i j => (Classical.choose (z0 i)).getD j 0, rfl, hl, hmx, fun i j hi hj => ?_⟩
    obtain ⟨e1, e2, e3⟩ := Classical.choose_spec (z0 i) hi
    exact ⟨(e3 j hj).trans (backI_at e1 hj), wfs_at e1 e2 hj⟩
def extAt (N b off sz : Nat) : Nat → Option Mini.Loc := fun x => if x = N then some ⟨b, off, true, 0, sz⟩ else none
theorem cell_obj {W : World} {b off : Nat} {v : Value} (h : W.cell? ⟨b, off, none⟩ = some v) : ∃ cs e fr, W.heap[b]? = some (.cells cs e fr) ∧ cs[off]? = some v := by
  unfold World.cell? at h
  split at h
  · rename_i c e fr hc
    exact ⟨c, e, fr, hc, by simpa using h⟩
  · cases h
theorem vrs_one {ρ : Ren} {pre post : List Value} {u u' : Value} (h1 : pre.all (ground 8) = true) (h2 : post.all (ground 8) = true) (hu : VR ρ u u') : VRs ρ (pre ++ u :: post).toArray (pre ++ u' :: post).toArray := by
  refine ⟨by simp, fun i x x' e1 e2 => ?_⟩
  simp only [List.getElem?_toArray] at e1 e2
  rw [List.all_eq_true] at h1 h2
  rcases Nat.lt_trichotomy i pre.length with c | c | c
  · rw [List.getElem?_append_left c] at e1 e2
    rw [e1] at e2
    cases e2
    exact ground_refl 8 (h1 _ (List.mem_of_getElem? e1))
  · rw [List.getElem?_append_right (by omega)] at e1 e2
    rw [c, Nat.sub_self] at e1 e2
    cases e1
    cases e2
    exact hu
  · rw [List.getElem?_append_right (by omega)] at e1 e2
    obtain ⟨q, hq⟩ : ∃ q, i - pre.length = q + 1 := ⟨i - pre.length - 1, by omega⟩
    rw [hq] at e1 e2
    simp only [List.getElem?_cons_succ] at e1 e2
    rw [e1] at e2
    cases e2
    exact ground_refl 8 (h2 _ (List.mem_of_getElem? e1))
theorem calls_row1 {P : Program} {f : FuncId} {S0 : St} {W : World} {ks : List IntKind} {pre post : List Value} {v0 : Value} {G : (Nat → Nat → Int) → Nat → Nat → Value} (hh : Holds P S0 W) (hn : S0.next = P.globals.size) (hw0 : ∀ b, b < P.globals.size → b < S0.next)
    (hp1 : pre.all (ground 8) = true) (hp2 : post.all (ground 8) = true) (hG : ∀ g i j, j < ks.length → G g i j = .int (ks.getD j .i64) (g i j)) (hk : 0 < ks.length) (hv : RowsAt W ks v0)
    (hnil : ∃ s1 R, SndF P f (pre ++ .slice none 0 0 :: post).toArray S0 (.bool true) s1 R 0)
    (hemp : ∀ c, ∃ s1 R, SndF P f (pre ++ .slice (some ⟨S0.next, 0, none⟩) 0 c :: post).toArray (S0.push .hole) (.bool true) s1 R 0)
    (hrow : ∀ n c g, 0 < n → n ≤ c → c ≤ maxLen → (∀ i j, i < n → j < ks.length → (Lit.int (ks.getD j .i64) (g i j)).wf = true) → ∃ s1 R, SndF P f (pre ++ .slice (some ⟨S0.next, 0, none⟩) n c :: post).toArray (S0.push (.rows n ks.length (G g) 0 true 0 true)) (.bool true) s1 R 0) :
    Calls P f (pre ++ v0 :: post).toArray W fun e W' => e = .returned (.bool true) ∧ Below W.heap.size W W' := by
  have hold : ∀ (o : MObj) b, b < P.globals.size → (S0.push o).get b = S0.get b := fun o b hb => St.get_push_old S0 o b (hw0 b hb)
  have hnx : ∀ o : MObj, (S0.push o).next = S0.next + 1 := fun o => rfl
  have hnew : ∀ o : MObj, (S0.push o).get S0.next = o := fun o => St.get_push_new S0 o
  rcases hv with rfl | ⟨b, off, len, cap, g, rfl, hl, hmx, hc⟩
  · obtain ⟨s1, R, h⟩ := hnil
    exact calls_of h rfl (by simp only [List.all_append, List.all_cons, hp1, hp2, ground, Bool.and_self]) (fun b _ => by simp) hh
  · rcases Nat.eq_zero_or_pos len with z | z
    · subst z
      obtain ⟨s1, R, h⟩ := hemp cap
      refine calls_ofX (ext := extAt S0.next b off 0) h rfl (by rw [hnx]; omega) (fun x hx => by rw [hold _ x hx]; exact hh.holds x hx) (fun x h1 h2 h3 => ?_) (fun x hx => if_neg (by rw [hnx] at hx; omega)) (fun x y L L' h1 h2 h3 h4 _ h5 h6 _ => ?_) (vrs_one hp1 hp2 ?_) (fun x _ => by simp)
      · rw [hnx] at h2
        have : x = S0.next := by omega
        subst this
        exact absurd (hnew _) h3
      · unfold extAt at h5 h6
        split at h5
        · split at h6
          · omega
          · cases h6
        · cases h5
      · exact .slice S0.next 0 0 cap cap ⟨b, off, true, 0, 0⟩ (by unfold rhoX; rw [if_neg (by omega)]; exact if_pos rfl) (.inl rfl)
    · obtain ⟨s1, R, h⟩ := hrow len cap g z hl hmx (fun i j hi hj => (hc i j hi hj).2)
      have c0 := (hc 0 0 z hk).1
      obtain ⟨cs, e', fr, ho, _⟩ := cell_obj c0
      have hcs : ∀ i j, i < len → j < ks.length → cs[off + (i * ks.length + j)]? = some (G g i j) := fun i j hi hj => by
        obtain ⟨c1, e1, f1, o1, r1⟩ := cell_obj (hc i j hi hj).1
        rw [ho] at o1
        cases o1
        rw [hG g i j hj]
        exact r1
      have hsize : off + len * ks.length ≤ cs.size := by
        have := (Array.getElem?_eq_some_iff.1 (hcs (len - 1) (ks.length - 1) (by omega) (by omega))).1
        have e1 : (len - 1) * ks.length + ks.length = len * ks.length := by
          obtain ⟨q, rfl⟩ : ∃ q, len = q + 1 := ⟨len - 1, by omega⟩
          simp [Nat.succ_mul]
        omega
      refine calls_ofX (ext := extAt S0.next b off cs.size) h rfl (by rw [hnx]; omega) (fun x hx => by rw [hold _ x hx]; exact hh.holds x hx) (fun x h1 h2 h3 => ?_) (fun x hx => if_neg (by rw [hnx] at hx; omega)) (fun x y L L' h1 h2 h3 h4 _ h5 h6 _ => ?_) (vrs_one hp1 hp2 ?_) (fun x _ => by simp)
      · rw [hnx] at h2
        have : x = S0.next := by omega
        subst this
        have hr := hnew (.rows len ks.length (G g) 0 true 0 true)
        refine ⟨⟨b, off, true, 0, cs.size⟩, .cells cs e' fr, if_pos rfl, fun h => ?_, ho, ?_⟩
        · rw [hr] at h; cases h
        · rw [hr]
          exact or_read hsize (fun i j _ hj => by rw [hG g i j hj]; rfl) fun i j hi hj => hcs i j hi hj
      · unfold extAt at h5 h6
        split at h5
        · split at h6
          · omega
          · cases h6
        · cases h5
      · exact .slice S0.next 0 len cap cap ⟨b, off, true, 0, cs.size⟩ (by unfold rhoX; rw [if_neg (by omega)]; exact if_pos rfl) (.inl rfl)
theorem calls_row1o {P : Program} {f : FuncId} {S0 : St} {W : World} {ks : List IntKind} {pre post : List Value} {v0 : Value} {G : (Nat → Nat → Int) → Nat → Nat → Value} (hh : Holds P S0 W) (hn : S0.next = P.globals.size) (hw0 : ∀ b, b < P.globals.size → b < S0.next)
    (hp1 : pre.all (ground 8) = true) (hp2 : post.all (ground 8) = true) (hG : ∀ g i j, j < ks.length → G g i j = .int (ks.getD j .i64) (g i j)) (hk : 0 < ks.length) (hv : RowsAt W ks v0)
    (hnil : ∃ s1 R, SndF P f (pre ++ .slice none 0 0 :: post).toArray S0 (.bool true) s1 R 0)
    (hemp : ∀ c, ∃ s1 R, SndF P f (pre ++ .slice (some ⟨S0.next, 0, none⟩) 0 c :: post).toArray (S0.push .hole) (.bool true) s1 R 0)
    (hrow : ∀ n c g, 0 < n → n ≤ c → c ≤ maxLen → (∀ i j, i < n → j < ks.length → (Lit.int (ks.getD j .i64) (g i j)).wf = true) → ∃ o s1 R, (o = .rows n ks.length (G g) 0 true 0 true ∨ o = .cells (rowsL n ks.length (G g)) 0 true 0 true) ∧ SndF P f (pre ++ .slice (some ⟨S0.next, 0, none⟩) n c :: post).toArray (S0.push o) (.bool true) s1 R 0) :
    Calls P f (pre ++ v0 :: post).toArray W fun e W' => e = .returned (.bool true) ∧ Below W.heap.size W W' := by
  have hold : ∀ (o : MObj) b, b < P.globals.size → (S0.push o).get b = S0.get b := fun o b hb => St.get_push_old S0 o b (hw0 b hb)
  have hnx : ∀ o : MObj, (S0.push o).next = S0.next + 1 := fun o => rfl
  have hnew : ∀ o : MObj, (S0.push o).get S0.next = o := fun o => St.get_push_new S0 o
  rcases hv with rfl | ⟨b, off, len, cap, g, rfl, hl, hmx, hc⟩
  · obtain ⟨s1, R, h⟩ := hnil
    exact calls_of h rfl (by simp only [List.all_append, List.all_cons, hp1, hp2, ground, Bool.and_self]) (fun b _ => by simp) hh
  · rcases Nat.eq_zero_or_pos len with z | z
    · subst z
      obtain ⟨s1, R, h⟩ := hemp cap
      refine calls_ofX (ext := extAt S0.next b off 0) h rfl (by rw [hnx]; omega) (fun x hx => by rw [hold _ x hx]; exact hh.holds x hx) (fun x h1 h2 h3 => ?_) (fun x hx => if_neg (by rw [hnx] at hx; omega)) (fun x y L L' h1 h2 h3 h4 _ h5 h6 _ => ?_) (vrs_one hp1 hp2 ?_) (fun x _ => by simp)
      · rw [hnx] at h2
        have : x = S0.next := by omega
        subst this
        exact absurd (hnew _) h3
      · unfold extAt at h5 h6
        split at h5
        · split at h6
          · omega
          · cases h6
        · cases h5
      · exact .slice S0.next 0 0 cap cap ⟨b, off, true, 0, 0⟩ (by unfold rhoX; rw [if_neg (by omega)]; exact if_pos rfl) (.inl rfl)
    · obtain ⟨o, s1, R, hobj, h⟩ := hrow len cap g z hl hmx (fun i j hi hj => (hc i j hi hj).2)
      have c0 := (hc 0 0 z hk).1
      obtain ⟨cs, e', fr, ho, _⟩ := cell_obj c0
      have hcs : ∀ i j, i < len → j < ks.length → cs[off + (i * ks.length + j)]? = some (G g i j) := fun i j hi hj => by
        obtain ⟨c1, e1, f1, o1, r1⟩ := cell_obj (hc i j hi hj).1
        rw [ho] at o1
        cases o1
        rw [hG g i j hj]
        exact r1
      have hsize : off + len * ks.length ≤ cs.size := by
        have := (Array.getElem?_eq_some_iff.1 (hcs (len - 1) (ks.length - 1) (by omega) (by omega))).1
        have e1 : (len - 1) * ks.length + ks.length = len * ks.length := by
          obtain ⟨q, rfl⟩ : ∃ q, len = q + 1 := ⟨len - 1, by omega⟩
          simp [Nat.succ_mul]
        omega
      refine calls_ofX (ext := extAt S0.next b off cs.size) h rfl (by rw [hnx]; omega) (fun x hx => by rw [hold _ x hx]; exact hh.holds x hx) (fun x h1 h2 h3 => ?_) (fun x hx => if_neg (by rw [hnx] at hx; omega)) (fun x y L L' h1 h2 h3 h4 _ h5 h6 _ => ?_) (vrs_one hp1 hp2 ?_) (fun x _ => by simp)
      · rw [hnx] at h2
        have : x = S0.next := by omega
        subst this
        have hr := hnew o
        have hro := or_read (ρ := rhoX P W (extAt S0.next b off cs.size)) (e := 0) (blk := b) (e' := e') (fr := fr) hsize (fun i j _ hj => by rw [hG g i j hj]; rfl) fun i j hi hj => hcs i j hi hj
        refine ⟨⟨b, off, true, 0, cs.size⟩, .cells cs e' fr, if_pos rfl, fun h => ?_, ho, ?_⟩
        · rw [hr] at h
          rcases hobj with rfl | rfl <;> cases h
        · rw [hr]
          rcases hobj with rfl | rfl
          · exact hro
          · exact Mini.or_congr (show nrm (.rows len ks.length (G g) 0 true 0 true) = nrm (.cells (rowsL len ks.length (G g)) 0 true 0 true) from rfl) hro
      · unfold extAt at h5 h6
        split at h5
        · split at h6
          · omega
          · cases h6
        · cases h5
      · exact .slice S0.next 0 len cap cap ⟨b, off, true, 0, cs.size⟩ (by unfold rhoX; rw [if_neg (by omega)]; exact if_pos rfl) (.inl rfl)
end Mini
end Go.Proofs.YtencngffhbhifaaGreatDoor
end
section
set_option linter.all false
set_option maxRecDepth 1000000
open Go.RowKit
namespace Go.Proofs.YtencngffhbhifaaGreatDoor
open Mini
noncomputable def lwX : CallS := tabT aw3S0 4
noncomputable def lwS (n : Nat) (g : Nat → Nat → Int) : St := aw3S0.push (.rows n 1 (fun i j => .int .i8 (g i j)) 0 true 0 true)
noncomputable def lw_nil (b : Bool) (f0 f1 f2 f3 : Int) : Option OutS := evFS Tryz.prog lwX 1000 3 #[.slice none 0 0, .bool b, .agg #[.int .i16 f0, .int .i16 f1, .int .i16 f2, .int .i16 f3]] aw3S0 ⟨[0, 0, 0, 1, 1], True⟩
noncomputable def lw_emp (c : Nat) (b : Bool) (f0 f1 f2 f3 : Int) : Option OutS := evFS Tryz.prog lwX 1000 3 #[.slice (some ⟨6, 0, none⟩) 0 c, .bool b, .agg #[.int .i16 f0, .int .i16 f1, .int .i16 f2, .int .i16 f3]] (aw3S0.push .hole) ⟨[0, 0, 0, 1, 1], True⟩
noncomputable def lw_many (n c : Nat) (g : Nat → Nat → Int) (b : Bool) (f0 f1 f2 f3 : Int) : Option OutS := evFS Tryz.prog lwX 1000 3 #[.slice (some ⟨6, 0, none⟩) n c, .bool b, .agg #[.int .i16 f0, .int .i16 f1, .int .i16 f2, .int .i16 f3]] (lwS n g) ⟨[1, 1, 1, 0, 1], True⟩
theorem lwX_ok : FOkS Tryz.prog lwX := tabT_ok (by kernel_rfl) aw3_calls
theorem lwm : Tryz.prog.follows .mixedOrders = true := by kernel_rfl
section
variable (n c : Nat) (g : Nat → Nat → Int) (b : Bool) (f0 f1 f2 f3 : Int)
theorem lw_nil_o : obY (lw_nil b f0 f1 f2 f3) = ((((((True ∧ ((decide ((((0 : Nat)) : Int) < (1 : Int))) = true)) ∧ ((decide ((((0 : Nat)) : Int) < (1 : Int))) = true)) ∧ ((decide ((((0 : Nat)) : Int) < (1 : Int))) = true)) ∧ ((decide ((((0 : Nat)) : Int) < (1 : Int))) = true)) ∧ (true = true))) := by kernel_rfl
theorem lw_nil_g : goodY (lw_nil b f0 f1 f2 f3) = true := by kernel_rfl
theorem lw_emp_o : obY (lw_emp c b f0 f1 f2 f3) = ((((((True ∧ ((decide ((((0 : Nat)) : Int) < (1 : Int))) = true)) ∧ ((decide ((((0 : Nat)) : Int) < (1 : Int))) = true)) ∧ ((decide ((((0 : Nat)) : Int) < (1 : Int))) = true)) ∧ ((decide ((((0 : Nat)) : Int) < (1 : Int))) = true)) ∧ (true = true))) := by kernel_rfl
theorem lw_emp_g : goodY (lw_emp c b f0 f1 f2 f3) = true := by kernel_rfl
theorem lw_many_o : obY (lw_many n c g b f0 f1 f2 f3) = ((((((True ∧ ((decide ((((n : Nat)) : Int) < (1 : Int))) = false)) ∧ ((decide ((((n : Nat)) : Int) < (1 : Int))) = false)) ∧ ((decide ((((n : Nat)) : Int) < (1 : Int))) = false)) ∧ ((decide ((((n : Nat)) : Int) < (1 : Int))) = false)) ∧ ((decide ((((n : Nat)) : Int) > (4 : Int))) = true))) := by kernel_rfl
theorem lw_many_g : goodY (lw_many n c g b f0 f1 f2 f3) = true := by kernel_rfl
end
theorem awn : aw3S0.next = Tryz.prog.globals.size := by kernel_rfl
theorem lw_calls {W : World} (hh : Holds Tryz.prog aw3S0 W) (v0 : Value) (b : Bool) (f0 f1 f2 f3 : Int) (hv : RowsAt W [.i8] v0) :
    Calls Tryz.prog 3 #[v0, .bool b, .agg #[.int .i16 f0, .int .i16 f1, .int .i16 f2, .int .i16 f3]] W fun e W' => e = .returned (.bool true) ∧ Below W.heap.size W W' := by
  refine calls_row1o (pre := []) (post := [.bool b, .agg #[.int .i16 f0, .int .i16 f1, .int .i16 f2, .int .i16 f3]]) (G := fun g i j => .int .i8 (g i j)) hh awn (fun b hb => by rw [awn]; exact hb) rfl (by cases b <;> rfl) (fun g i j hj => ?_) (by decide) hv ?_ (fun c => ?_) (fun n c g h0 _ _ _ => ?_)
  · match j, hj with
    | 0, _ => rfl
  · exact sndY (r := lw_nil b f0 f1 f2 f3) (by delta lw_nil; exact Eq.refl _) lwm lwX_ok (lw_nil_g b f0 f1 f2 f3) ((lw_nil_o b f0 f1 f2 f3).symm ▸ (by
      repeat' apply And.intro
      all_goals first | trivial | rfl | decide))
  · exact sndY (r := lw_emp c b f0 f1 f2 f3) (by delta lw_emp; exact Eq.refl _) lwm lwX_ok (lw_emp_g c b f0 f1 f2 f3) ((lw_emp_o c b f0 f1 f2 f3).symm ▸ (by
      repeat' apply And.intro
      all_goals first | trivial | rfl | decide))
  · match n, h0 with
    | 1, _ =>
      refine ⟨.cells (rowsL 1 [IntKind.i8].length fun i j => .int .i8 (g i j)) 0 true 0 true, ?_⟩
      cases b
      · obtain ⟨s1, R, h⟩ := lw1f_any (g 0 0) f0 f1 f2 f3 c trivial
        exact ⟨s1, R, .inr rfl, h⟩
      · obtain ⟨s1, R, h⟩ := lw1t_any (g 0 0) f0 f1 f2 f3 c trivial
        exact ⟨s1, R, .inr rfl, h⟩
    | 2, _ =>
      refine ⟨.cells (rowsL 2 [IntKind.i8].length fun i j => .int .i8 (g i j)) 0 true 0 true, ?_⟩
      cases b
      · obtain ⟨s1, R, h⟩ := lw2f_any (g 0 0) (g 1 0) f0 f1 f2 f3 c trivial
        exact ⟨s1, R, .inr rfl, h⟩
      · obtain ⟨s1, R, h⟩ := lw2t_any (g 0 0) (g 1 0) f0 f1 f2 f3 c trivial
        exact ⟨s1, R, .inr rfl, h⟩
    | 3, _ =>
      refine ⟨.cells (rowsL 3 [IntKind.i8].length fun i j => .int .i8 (g i j)) 0 true 0 true, ?_⟩
      cases b
      · obtain ⟨s1, R, h⟩ := lw3f_any (g 0 0) (g 1 0) (g 2 0) f0 f1 f2 f3 c trivial
        exact ⟨s1, R, .inr rfl, h⟩
      · obtain ⟨s1, R, h⟩ := lw3t_any (g 0 0) (g 1 0) (g 2 0) f0 f1 f2 f3 c trivial
        exact ⟨s1, R, .inr rfl, h⟩
    | 4, _ =>
      refine ⟨.cells (rowsL 4 [IntKind.i8].length fun i j => .int .i8 (g i j)) 0 true 0 true, ?_⟩
      cases b
      · obtain ⟨s1, R, h⟩ := lw4f_any (g 0 0) (g 1 0) (g 2 0) (g 3 0) f0 f1 f2 f3 c trivial
        exact ⟨s1, R, .inr rfl, h⟩
      · obtain ⟨s1, R, h⟩ := lw4t_any (g 0 0) (g 1 0) (g 2 0) (g 3 0) f0 f1 f2 f3 c trivial
        exact ⟨s1, R, .inr rfl, h⟩
    | n + 5, _ =>
      refine ⟨.rows (n + 5) [IntKind.i8].length (fun i j => .int .i8 (g i j)) 0 true 0 true, ?_⟩
      obtain ⟨s1, R, h⟩ := sndY (r := lw_many (n + 5) c g b f0 f1 f2 f3) (by delta lw_many; exact Eq.refl _) lwm lwX_ok (lw_many_g (n + 5) c g b f0 f1 f2 f3) ((lw_many_o (n + 5) c g b f0 f1 f2 f3).symm ▸ (by
        repeat' apply And.intro
        all_goals first | trivial | rfl | exact decide_eq_true (by omega) | exact decide_eq_false (by omega)))
      exact ⟨s1, R, .inl rfl, h⟩
end Go.Proofs.YtencngffhbhifaaGreatDoor
end
section
namespace Go.Proofs.YtencngffhbhifaaGreatDoor
set_option linter.all false
open Go.ChangeShapes Go.WideShapes Go.ChangeAt Go.RowKit
section
open Go.Lib
theorem cells_of_strs {H : Type} {enc : TypeId × Value → H} {P : Program} {w : World} {base : Nat} {sp : Nat → Bool} {held : Bool} {fuel : Nat} {t e : TypeId} {n : Nat} {cs : List Value} {zs : List (List UInt8)} {p : List MemPlace}
    (ht : P.underlying t = some (.array n e)) (he : P.underlying e = some .string) (hce : P.cellsOf e = 1)
    (h : DataW.trod enc P w base sp held fuel t cs = some (.agg (zs.map fun z => .lit (.string z)), p)) (i : Nat) (z : List UInt8) (hz : zs[i]? = some z) : cs[i]? = some (.string ⟨z.toArray⟩) := by
  cases fuel with
  | zero => simp [DataW.trod] at h
  | succ fuel =>
    simp only [DataW.trod, ht, hce, Nat.mul_one] at h
    split at h
    · rename_i hl
      obtain ⟨xs, hm, hx⟩ := Option.map_eq_some_iff.1 h
      have hxs : xs.map (·.1) = zs.map fun z => (DataW.lit (.string z) : DataW H) := by
        have := congrArg Prod.fst hx
        simpa using this
      have hxl : xs.length = n := by simpa using mapM_length hm
      have hzl : zs.length = n := by
        have := congrArg List.length hxs
        simp at this
        omega
      have hi : i < n := by
        have := (List.getElem?_eq_some_iff.1 hz).1
        omega
      obtain ⟨b, hb, hf⟩ := mapM_at hm i i (by simp [hi])
      obtain ⟨s, hc, rfl, _⟩ := DataW.trod_string he hf
      have h1 : cs[i]? = some (.string s) := by
        have := congrArg (·[0]?) hc
        simpa [List.getElem?_take, List.getElem?_drop] using this
      have h2 : (xs.map (·.1))[i]? = some (DataW.lit (.string s.data.toList) : DataW H) := by simp [hb]
      rw [hxs] at h2
      simp only [List.getElem?_map, hz, Option.map_some, Option.some.injEq, DataW.lit.injEq, Lit.string.injEq] at h2
      subst h2
      exact h1
    · cases h
end
theorem strs_of_laid {P : Program} {W : World} {name : String} {zs : List (List UInt8)} {g : Nat} {t e : TypeId} {n : Nat}
    (hg : P.globalNamed name = some g) (hty : (P.globals[g]?).map (·.type) = some t) (ht : P.underlying t = some (.array n e)) (he : P.underlying e = some .string) (hce : P.cellsOf e = 1)
    (h : laidMet P [(name, .agg (zs.map fun z => .lit (.string z)))] W) (i : Nat) (z : List UInt8) (hz : zs[i]? = some z) : W.cell? ⟨g, i, none⟩ = some (.string ⟨z.toArray⟩) := by
  obtain ⟨ps, ⟨g', t', cs, fuel, p, q, hg', ht', hvar, hd, _, _⟩, _⟩ := h
  obtain rfl := Option.some.inj (hg.symm.trans hg')
  obtain rfl := Option.some.inj (hty.symm.trans ht')
  have r0 := World.var?_cell hg hvar i
  rw [r0]
  simpa using cells_of_strs ht he hce hd i z hz
end Go.Proofs.YtencngffhbhifaaGreatDoor
end
