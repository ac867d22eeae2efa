/-
  The contract of bipole.harmonic.sign.
  The contract of bipole.harmonic.Strength.
  The contract of bipole.harmonic.strength.
  The contract of bipole.harmonic.Turned.
  The contract of bipole.harmonic.turned.
  The contract of bipole.harmonic.Product.
  The contract of bipole.harmonic.checkNumber.
  The contract of bipole.phasor.CheckEisen.
  The contract of bipole.check.Range.
  Contracts: what is answered.
  The small worlds between the steps.
-/
import Derived.Test.YtgnmhapgciejfaaGreatDoorGHN1
import Derived.Test.YtgnmhapgciejfaaGreatDoorProg
import Derived.Test.YtgnmhapgciejfaaGreatDoorGHN3
import Derived.Test.YtgnmhapgciejfaaGreatDoorGHN2
section
set_option linter.all false
set_option maxRecDepth 1000000
namespace Go.Proofs.YtgnmhapgciejfaaGreatDoor
open Mini
noncomputable def awB : Code := bodyOf Tryz.prog 30
noncomputable def awA0 : MA := ⟨317, .leaf, []⟩
noncomputable def awH0 : Tri := (.node .leaf (.node (.one (.cells [.int .i64 (1), .int .i64 (0), .int .i64 (0), .int .i64 (0), .int .i64 (0), .int .i64 (0), .int .i64 (0), .int .i64 (-1), .int .i64 (1), .int .i64 (1), .int .i64 (0), .int .i64 (0), .int .i64 (0), .int .i64 (0), .int .i64 (1), .int .i64 (0), .int .i64 (0), .int .i64 (1), .int .i64 (0), .int .i64 (0), .int .i64 (0), .int .i64 (0), .int .i64 (1), .int .i64 (1), .int .i64 (-1), .int .i64 (0), .int .i64 (0), .int .i64 (0), .int .i64 (0), .int .i64 (0), .int .i64 (0), .int .i64 (1), .int .i64 (-1), .int .i64 (-1), .int .i64 (0), .int .i64 (0), .int .i64 (0), .int .i64 (0), .int .i64 (-1), .int .i64 (0), .int .i64 (0), .int .i64 (-1), .int .i64 (0), .int .i64 (0), .int .i64 (0), .int .i64 (0), .int .i64 (-1), .int .i64 (-1)] 70 true 0 true)) (.one (.cells [.int .u64 (1), .int .u64 (10), .int .u64 (100), .int .u64 (1000), .int .u64 (10000), .int .u64 (100000), .int .u64 (1000000), .int .u64 (10000000), .int .u64 (100000000), .int .u64 (1000000000), .int .u64 (10000000000), .int .u64 (100000000000), .int .u64 (1000000000000), .int .u64 (10000000000000), .int .u64 (100000000000000), .int .u64 (1000000000000000), .int .u64 (10000000000000000), .int .u64 (100000000000000000), .int .u64 (1000000000000000000), .int .u64 (10000000000000000000)] 328 true 0 true))))
noncomputable def awH1 : Tri := (.node (.node (.node (.node (.node (.node (.node (.node (.node (.node (.node (.node (.node (.node (.node (.node (.node (.node (.node (.node awH0 .leaf) .leaf) .leaf) .leaf) .leaf) .leaf) .leaf) .leaf) .leaf) .leaf) .leaf) .leaf) .leaf) .leaf) .leaf) .leaf) .leaf) .leaf) .leaf) .leaf)
noncomputable def awS0 : St := ⟨7, awH1, []⟩
noncomputable def awA1 : MA := ⟨317, (.node (.node (.node (.node (.node (.node (.node (.node (.node (.one (.bool false)) .leaf) .leaf) .leaf) .leaf) .leaf) .leaf) .leaf) .leaf) .leaf), []⟩
noncomputable def awS1 : St := ⟨7, awH1, []⟩
noncomputable def awH2 : TV := (.node (.one (.bool false)) (.one (.pointer (some ⟨7, 0, none⟩))))
noncomputable def awH3 : TV := (.one (.agg #[.int .i64 (0), .int .i64 (-1)]))
noncomputable def awH4 : TV := (.one (.agg #[.int .i64 (0), .int .i64 (0), .int .i64 (0), .int .i64 (-1)]))
noncomputable def awA2 : MA := ⟨317, (.node (.node (.node (.node (.node (.node (.node (.node awH2 .leaf) .leaf) .leaf) .leaf) (.node (.node .leaf (.node .leaf (.node (.node awH3 awH4) .leaf))) .leaf)) .leaf) .leaf) .leaf), []⟩
noncomputable def awH5 : Tri := (.node (.node (.node awH0 (.node .leaf (.node .leaf (.one (.cells [.int .i64 (0), .int .i64 (0), .int .i64 (0), .int .i64 (-1)] 51 false 0 false))))) .leaf) .leaf)
noncomputable def awS2 : St := ⟨8, (.node (.node (.node (.node (.node (.node (.node (.node (.node (.node (.node (.node (.node (.node (.node (.node (.node awH5 .leaf) .leaf) .leaf) .leaf) .leaf) .leaf) .leaf) .leaf) .leaf) .leaf) .leaf) .leaf) .leaf) .leaf) .leaf) .leaf) .leaf), []⟩
noncomputable def awH6 : TV := (.node (.one (.pointer (some ⟨50, 0, none⟩))) (.one (.int .i64 (0))))
noncomputable def awH7 : TV := (.one (.tuple #[.agg #[.int .i64 (1), .int .i64 (1), .int .i64 (0), .int .i64 (0)], .int .i64 (0)]))
noncomputable def awH8 : TV := (.node (.node awH3 awH4) (.node awH7 awH4))
noncomputable def awH9 : TV := (.one (.agg #[.int .i64 (1), .int .i64 (1), .int .i64 (0), .int .i64 (0)]))
noncomputable def awH10 : TV := (.node (.node awH4 awH7) (.node awH9 (.one (.int .i64 (0)))))
noncomputable def awA3 : MA := ⟨317, (.node (.node (.node (.node (.node (.node (.node (.node awH2 awH6) .leaf) .leaf) .leaf) (.node (.node .leaf (.node .leaf awH8)) (.node (.node awH10 .leaf) .leaf))) .leaf) .leaf) .leaf), []⟩
noncomputable def awH11 : Tri := (.node awH5 (.node .leaf (.node (.node (.node .leaf (.node (.one (.cells [.int .i64 (1), .int .i64 (1), .int .i64 (0), .int .i64 (0)] 51 false 0 false)) .leaf)) .leaf) .leaf)))
noncomputable def awS3 : St := ⟨51, (.node (.node (.node (.node (.node (.node (.node (.node (.node (.node (.node (.node (.node (.node (.node (.node awH11 .leaf) .leaf) .leaf) .leaf) .leaf) .leaf) .leaf) .leaf) .leaf) .leaf) .leaf) .leaf) .leaf) .leaf) .leaf) .leaf), []⟩
noncomputable def awH12 : TV := (.node (.one (.pointer (some ⟨71, 0, none⟩))) (.one (.int .i64 (0))))
noncomputable def awH13 : TV := (.one (.tuple #[.agg #[.int .i64 (2), .int .i64 (-1)], .int .i64 (0)]))
noncomputable def awH14 : TV := (.one (.agg #[.int .i64 (1), .int .i64 (0)]))
noncomputable def awH15 : TV := (.node awH10 (.node (.node awH13 awH14) (.node (.one (.agg #[.int .i64 (0), .int .i64 (1)])) (.one (.agg #[.int .i64 (1), .int .i64 (0), .int .i64 (0), .int .i64 (1)])))))
noncomputable def awH16 : TV := (.one (.agg #[.int .i64 (2), .int .i64 (-1)]))
noncomputable def awA4 : MA := ⟨317, (.node (.node (.node (.node (.node (.node (.node (.node awH2 awH6) (.node awH12 .leaf)) .leaf) .leaf) (.node (.node .leaf (.node .leaf awH8)) (.node awH15 (.node (.node (.node awH13 awH16) (.node (.one (.int .i64 (0))) .leaf)) .leaf)))) .leaf) .leaf) .leaf), []⟩
noncomputable def awH17 : Tri := (.node (.node .leaf (.node .leaf (.node .leaf (.one (.cells [.int .i64 (2), .int .i64 (-1)] 55 false 0 false))))) .leaf)
noncomputable def awS4 : St := ⟨72, (.node (.node (.node (.node (.node (.node (.node (.node (.node (.node (.node (.node (.node (.node (.node (.node awH11 (.node (.node awH17 .leaf) .leaf)) .leaf) .leaf) .leaf) .leaf) .leaf) .leaf) .leaf) .leaf) .leaf) .leaf) .leaf) .leaf) .leaf) .leaf) .leaf), []⟩
noncomputable def awH18 : TV := (.node awH12 (.node (.one (.pointer (some ⟨92, 0, none⟩))) (.one (.int .i64 (0)))))
noncomputable def awH19 : TV := (.one (.tuple #[.agg #[.int .i64 (2), .int .i64 (1)], .int .i64 (0)]))
noncomputable def awH20 : TV := (.node awH15 (.node (.node (.node awH13 awH16) (.node (.one (.int .i64 (0))) awH19)) (.node (.node awH14 awH3) (.node (.one (.agg #[.int .i64 (1), .int .i64 (0), .int .i64 (0), .int .i64 (-1)])) awH19))))
noncomputable def awH21 : TV := (.node (.node .leaf (.node .leaf awH8)) awH20)
noncomputable def awH22 : TV := (.one (.agg #[.int .i64 (2), .int .i64 (1)]))
noncomputable def awA5 : MA := ⟨317, (.node (.node (.node (.node (.node (.node (.node (.node awH2 awH6) awH18) .leaf) .leaf) awH21) (.node (.node (.node (.node (.node (.node awH22 (.one (.int .i64 (0)))) .leaf) .leaf) .leaf) .leaf) .leaf)) .leaf) .leaf), []⟩
noncomputable def awH23 : Tri := (.node awH17 (.node .leaf (.node .leaf (.node (.node (.one (.cells [.int .i64 (2), .int .i64 (1)] 55 false 0 false)) .leaf) .leaf))))
noncomputable def awH24 : Tri := (.node (.node (.node (.node (.node (.node (.node (.node (.node (.node (.node (.node (.node (.node (.node (.node awH11 (.node awH23 .leaf)) .leaf) .leaf) .leaf) .leaf) .leaf) .leaf) .leaf) .leaf) .leaf) .leaf) .leaf) .leaf) .leaf) .leaf) .leaf)
noncomputable def awS5 : St := ⟨93, awH24, []⟩
noncomputable def awH25 : TV := (.node (.one (.int .i64 (1))) (.one (.int .i64 (0))))
noncomputable def awH26 : TV := (.one (.tuple #[.int .i64 (1), .int .i64 (0)]))
noncomputable def awH27 : TV := (.node (.node awH22 (.one (.int .i64 (0)))) (.node awH26 (.one (.agg #[.int .i64 (7), .int .i64 (-4)]))))
noncomputable def awA6 : MA := ⟨317, (.node (.node (.node (.node (.node (.node (.node (.node awH2 awH6) awH18) (.node (.node awH25 .leaf) .leaf)) .leaf) awH21) (.node (.node (.node (.node awH27 (.node (.node awH26 (.one (.int .i64 (1)))) (.node (.one (.int .i64 (0))) .leaf))) .leaf) .leaf) .leaf)) .leaf) .leaf), []⟩
noncomputable def awS6 : St := ⟨96, awH24, []⟩
noncomputable def awH28 : TV := (.node (.one (.int .i64 (-1))) (.one (.int .i64 (0))))
noncomputable def awH29 : TV := (.one (.tuple #[.int .i64 (-1), .int .i64 (0)]))
noncomputable def awH30 : TV := (.node awH27 (.node (.node awH26 (.one (.int .i64 (1)))) (.node (.one (.int .i64 (0))) awH29)))
noncomputable def awH31 : TV := (.node (.node (.one (.agg #[.int .i64 (12), .int .i64 (-7)])) awH29) awH28)
noncomputable def awA7 : MA := ⟨317, (.node (.node (.node (.node (.node (.node (.node (.node awH2 awH6) awH18) (.node (.node awH25 awH28) .leaf)) .leaf) awH21) (.node (.node (.node awH30 (.node awH31 .leaf)) .leaf) .leaf)) .leaf) .leaf), []⟩
noncomputable def awS7 : St := ⟨100, awH24, []⟩
noncomputable def awH32 : TV := (.node (.one (.pointer (some ⟨104, 0, none⟩))) (.one (.int .i64 (0))))
noncomputable def awH33 : TV := (.one (.tuple #[.agg #[.int .i64 (0), .int .i64 (0), .int .i64 (0), .int .i64 (0), .int .i64 (-2), .int .i64 (-4), .int .i64 (-4), .int .i64 (-2), .int .i64 (0), .int .i64 (0), .int .i64 (0), .int .i64 (0), .int .i64 (0), .int .i64 (0), .int .i64 (0), .int .i64 (0), .int .i64 (0), .int .i64 (0), .int .i64 (0), .int .i64 (0), .int .i64 (2), .int .i64 (4), .int .i64 (-2), .int .i64 (2), .int .i64 (0), .int .i64 (0), .int .i64 (0), .int .i64 (0), .int .i64 (-2), .int .i64 (-4), .int .i64 (4), .int .i64 (2), .int .i64 (0), .int .i64 (0), .int .i64 (0), .int .i64 (0), .int .i64 (0), .int .i64 (0), .int .i64 (0), .int .i64 (0), .int .i64 (0), .int .i64 (0), .int .i64 (0), .int .i64 (0), .int .i64 (2), .int .i64 (4), .int .i64 (2), .int .i64 (-2)], .int .i64 (0)]))
noncomputable def awH34 : TV := (.one (.agg #[.int .i64 (0), .int .i64 (1), .int .i64 (1), .int .i64 (1), .int .i64 (1), .int .i64 (0), .int .i64 (0), .int .i64 (-1), .int .i64 (-1), .int .i64 (-1), .int .i64 (-1), .int .i64 (0)]))
noncomputable def awH35 : TV := (.node awH30 (.node awH31 (.node (.node awH33 awH34) (.node awH33 (.one (.agg #[.int .i64 (0), .int .i64 (0), .int .i64 (0), .int .i64 (0), .int .i64 (-2), .int .i64 (-4), .int .i64 (-4), .int .i64 (-2), .int .i64 (0), .int .i64 (0), .int .i64 (0), .int .i64 (0), .int .i64 (0), .int .i64 (0), .int .i64 (0), .int .i64 (0), .int .i64 (0), .int .i64 (0), .int .i64 (0), .int .i64 (0), .int .i64 (2), .int .i64 (4), .int .i64 (-2), .int .i64 (2), .int .i64 (0), .int .i64 (0), .int .i64 (0), .int .i64 (0), .int .i64 (-2), .int .i64 (-4), .int .i64 (4), .int .i64 (2), .int .i64 (0), .int .i64 (0), .int .i64 (0), .int .i64 (0), .int .i64 (0), .int .i64 (0), .int .i64 (0), .int .i64 (0), .int .i64 (0), .int .i64 (0), .int .i64 (0), .int .i64 (0), .int .i64 (2), .int .i64 (4), .int .i64 (2), .int .i64 (-2)]))))))
noncomputable def awH36 : TV := (.node (.node (.one (.int .i64 (0))) .leaf) .leaf)
noncomputable def awA8 : MA := ⟨317, (.node (.node (.node (.node (.node (.node (.node (.node awH2 awH6) awH18) (.node (.node awH25 awH28) (.node awH32 .leaf))) .leaf) awH21) (.node (.node awH35 (.node (.node awH36 .leaf) .leaf)) .leaf)) .leaf) .leaf), []⟩
noncomputable def awH37 : Tri := (.one (.cells [.int .i64 (0), .int .i64 (0), .int .i64 (0), .int .i64 (0), .int .i64 (-2), .int .i64 (-4), .int .i64 (-4), .int .i64 (-2), .int .i64 (0), .int .i64 (0), .int .i64 (0), .int .i64 (0), .int .i64 (0), .int .i64 (0), .int .i64 (0), .int .i64 (0), .int .i64 (0), .int .i64 (0), .int .i64 (0), .int .i64 (0), .int .i64 (2), .int .i64 (4), .int .i64 (-2), .int .i64 (2), .int .i64 (0), .int .i64 (0), .int .i64 (0), .int .i64 (0), .int .i64 (-2), .int .i64 (-4), .int .i64 (4), .int .i64 (2), .int .i64 (0), .int .i64 (0), .int .i64 (0), .int .i64 (0), .int .i64 (0), .int .i64 (0), .int .i64 (0), .int .i64 (0), .int .i64 (0), .int .i64 (0), .int .i64 (0), .int .i64 (0), .int .i64 (2), .int .i64 (4), .int .i64 (2), .int .i64 (-2)] 70 false 0 false))
noncomputable def awS8 : St := ⟨105, (.node (.node (.node (.node (.node (.node (.node (.node (.node (.node (.node (.node (.node (.node (.node (.node awH11 (.node awH23 (.node (.node .leaf (.node (.node (.node awH37 .leaf) .leaf) .leaf)) .leaf))) .leaf) .leaf) .leaf) .leaf) .leaf) .leaf) .leaf) .leaf) .leaf) .leaf) .leaf) .leaf) .leaf) .leaf) .leaf), []⟩
noncomputable def awH38 : TV := (.one (.slice (some ⟨118, 0, none⟩) 4 4))
noncomputable def awH39 : TV := (.node (.node awH25 awH28) (.node awH32 (.node awH38 (.one (.int .i64 (0))))))
noncomputable def awH40 : TV := (.node (.node (.node awH2 awH6) awH18) awH39)
noncomputable def awH41 : TV := (.one (.tuple #[.slice (some ⟨118, 0, none⟩) 4 4, .int .i64 (0)]))
noncomputable def awH42 : TV := (.node (.node (.one (.int .i64 (0))) awH41) (.node awH34 awH41))
noncomputable def awA9 : MA := ⟨317, (.node (.node (.node (.node (.node awH40 .leaf) awH21) (.node (.node awH35 (.node (.node awH42 (.node (.node awH38 (.one (.int .i64 (0)))) .leaf)) .leaf)) .leaf)) .leaf) .leaf), []⟩
noncomputable def awH43 : Tri := (.one (.cells [.int .i64 (0), .int .i64 (1), .int .i64 (1), .int .i64 (1), .int .i64 (1), .int .i64 (0), .int .i64 (0), .int .i64 (-1), .int .i64 (-1), .int .i64 (-1), .int .i64 (-1), .int .i64 (0)] 69 false 0 false))
noncomputable def awH44 : Tri := (.node .leaf (.node (.node (.node awH37 .leaf) (.node awH43 .leaf)) (.node .leaf (.node awH37 (.one (.cells [.int .i64 (2)] 3 false 0 false))))))
noncomputable def awH45 : Tri := (.one (.cells [.int .i64 (3)] 3 false 0 false))
noncomputable def awH46 : Tri := (.one (.cells [.int .i64 (4)] 3 false 0 false))
noncomputable def awH47 : Tri := (.node (.node (.node (.one (.hole)) awH45) (.node (.one (.hole)) awH46)) (.node (.node (.one (.hole)) (.one (.cells [.int .i64 (6)] 3 false 0 false))) (.node (.one (.cells [.int .i64 (2), .int .i64 (3), .int .i64 (4), .int .i64 (6)] 3 true 1 false)) .leaf)))
noncomputable def awS9 : St := ⟨119, (.node (.node (.node (.node (.node (.node (.node (.node (.node (.node (.node (.node (.node (.node (.node (.node awH11 (.node awH23 (.node awH44 (.node awH47 .leaf)))) .leaf) .leaf) .leaf) .leaf) .leaf) .leaf) .leaf) .leaf) .leaf) .leaf) .leaf) .leaf) .leaf) .leaf) .leaf), []⟩
noncomputable def awH48 : TV := (.one (.slice (some ⟨211, 0, none⟩) 1 1))
noncomputable def awH49 : TV := (.one (.tuple #[.slice (some ⟨211, 0, none⟩) 1 1, .int .i64 (0)]))
noncomputable def awH50 : TV := (.node awH42 (.node (.node awH38 (.one (.int .i64 (0)))) (.node awH49 awH34)))
noncomputable def awH51 : TV := (.node (.node (.one (.agg #[.int .i64 (18), .int .i64 (18), .int .i64 (18), .int .i64 (18), .int .i64 (18), .int .i64 (18), .int .i64 (18)])) awH49) (.node awH48 (.one (.int .i64 (0)))))
noncomputable def awA10 : MA := ⟨317, (.node (.node (.node (.node (.node awH40 (.node (.node (.node (.node awH48 (.one (.int .i64 (0)))) .leaf) .leaf) .leaf)) awH21) (.node (.node awH35 (.node awH50 (.node awH51 .leaf))) .leaf)) .leaf) .leaf), []⟩
noncomputable def awH52 : Tri := (.one (.cells [.int .i64 (18), .int .i64 (18), .int .i64 (18), .int .i64 (18), .int .i64 (18), .int .i64 (18), .int .i64 (18)] 144 false 0 false))
noncomputable def awH53 : Tri := (.one (.cells [.int .i64 (0), .int .i64 (0)] 26 false 0 false))
noncomputable def awH54 : Tri := (.one (.cells [.int .i64 (5)] 3 false 0 false))
noncomputable def awH55 : Tri := (.node (.node awH11 (.node awH23 (.node awH44 (.node awH47 (.node (.node (.node .leaf awH43) (.node awH52 .leaf)) (.node (.node .leaf awH53) (.node awH37 awH52))))))) (.node (.node (.node (.node .leaf (.node (.node .leaf (.node (.one (.cells [.int .i64 (24), .int .i64 (12)] 55 false 0 false)) .leaf)) .leaf)) .leaf) .leaf) (.node (.node .leaf (.node (.node (.node .leaf (.node awH54 (.one (.cells [.int .i64 (5)] 3 true 1 false)))) .leaf) .leaf)) .leaf)))
noncomputable def awH56 : Tri := (.node (.node (.node (.node (.node (.node (.node (.node (.node (.node (.node (.node (.node (.node awH55 .leaf) .leaf) .leaf) .leaf) .leaf) .leaf) .leaf) .leaf) .leaf) .leaf) .leaf) .leaf) .leaf) .leaf)
noncomputable def awS10 : St := ⟨230, awH56, []⟩
noncomputable def awH57 : TV := (.node (.one (.slice none 0 0)) (.one (.int .i64 (0))))
noncomputable def awH58 : TV := (.node (.node awH48 (.one (.int .i64 (0)))) awH57)
noncomputable def awH59 : TV := (.one (.tuple #[.slice none 0 0, .int .i64 (0)]))
noncomputable def awH60 : TV := (.one (.agg #[.int .i64 (19), .int .i64 (19), .int .i64 (19), .int .i64 (19), .int .i64 (19), .int .i64 (19), .int .i64 (19)]))
noncomputable def awH61 : TV := (.node awH35 (.node awH50 (.node awH51 (.node (.node awH59 awH34) (.node awH60 awH59)))))
noncomputable def awA11 : MA := ⟨317, (.node (.node (.node (.node (.node awH40 (.node (.node awH58 .leaf) .leaf)) awH21) (.node awH61 (.node (.node (.node (.node awH57 .leaf) .leaf) .leaf) .leaf))) .leaf) .leaf), []⟩
noncomputable def awS11 : St := ⟨340, awH56, []⟩
noncomputable def awH62 : TV := (.one (.slice (some ⟨396, 0, none⟩) 1 1))
noncomputable def awH63 : TV := (.one (.tuple #[.slice (some ⟨396, 0, none⟩) 1 1, .int .i64 (0)]))
noncomputable def awH64 : TV := (.one (.agg #[.int .i64 (1), .int .i64 (1), .int .i64 (1), .int .i64 (1), .int .i64 (1), .int .i64 (1), .int .i64 (-1), .int .i64 (-1), .int .i64 (-1), .int .i64 (-1), .int .i64 (-1), .int .i64 (-1)]))
noncomputable def awH65 : TV := (.node (.node awH57 (.node awH63 awH64)) (.node (.node (.one (.agg #[.int .i64 (34), .int .i64 (34), .int .i64 (34), .int .i64 (34), .int .i64 (34), .int .i64 (34), .int .i64 (34)])) awH63) (.node awH62 (.one (.int .i64 (0))))))
noncomputable def awA12 : MA := ⟨317, (.node (.node (.node (.node (.node awH40 (.node (.node awH58 (.node (.node awH62 (.one (.int .i64 (0)))) .leaf)) .leaf)) awH21) (.node awH61 (.node (.node awH65 .leaf) .leaf))) .leaf) .leaf), []⟩
noncomputable def awH66 : Tri := (.one (.cells [.int .i64 (34), .int .i64 (34), .int .i64 (34), .int .i64 (34), .int .i64 (34), .int .i64 (34), .int .i64 (34)] 144 false 0 false))
noncomputable def awH67 : Tri := (.node (.node awH55 (.node (.node .leaf (.node (.node .leaf (.node (.node .leaf (.node .leaf (.node (.one (.cells [.int .i64 (1), .int .i64 (1), .int .i64 (1), .int .i64 (1), .int .i64 (1), .int .i64 (1), .int .i64 (-1), .int .i64 (-1), .int .i64 (-1), .int .i64 (-1), .int .i64 (-1), .int .i64 (-1)] 69 false 0 false)) awH66))) (.node (.node .leaf (.node awH53 (.one (.cells [.int .i64 (0), .int .i64 (0), .int .i64 (0), .int .i64 (0), .int .i64 (0), .int .i64 (-4), .int .i64 (-4), .int .i64 (0), .int .i64 (0), .int .i64 (0), .int .i64 (0), .int .i64 (0), .int .i64 (2), .int .i64 (0), .int .i64 (-2), .int .i64 (0), .int .i64 (0), .int .i64 (0), .int .i64 (0), .int .i64 (0), .int .i64 (4), .int .i64 (4), .int .i64 (-4), .int .i64 (0), .int .i64 (0), .int .i64 (0), .int .i64 (0), .int .i64 (0), .int .i64 (0), .int .i64 (-4), .int .i64 (4), .int .i64 (0), .int .i64 (0), .int .i64 (0), .int .i64 (0), .int .i64 (0), .int .i64 (2), .int .i64 (0), .int .i64 (2), .int .i64 (0), .int .i64 (0), .int .i64 (0), .int .i64 (0), .int .i64 (0), .int .i64 (4), .int .i64 (4), .int .i64 (4), .int .i64 (0)] 70 false 0 false)))) (.node (.node awH66 .leaf) .leaf)))) (.node (.node (.node .leaf (.node .leaf (.node .leaf (.one (.cells [.int .i64 (32), .int .i64 (16)] 55 false 0 false))))) .leaf) .leaf))) (.node (.node (.node (.node .leaf (.node (.node .leaf (.node .leaf awH45)) (.node (.node (.one (.cells [.int .i64 (3)] 3 true 1 false)) .leaf) .leaf))) .leaf) .leaf) .leaf))) .leaf)
noncomputable def awH68 : Tri := (.node (.node (.node (.node (.node (.node (.node (.node (.node (.node (.node (.node awH67 .leaf) .leaf) .leaf) .leaf) .leaf) .leaf) .leaf) .leaf) .leaf) .leaf) .leaf) .leaf)
noncomputable def awS12 : St := ⟨451, awH68, []⟩
noncomputable def awH69 : TV := (.node awH58 (.node (.node awH62 (.one (.int .i64 (0)))) awH57))
noncomputable def awH70 : TV := (.node (.node awH59 awH64) (.node (.one (.agg #[.int .i64 (35), .int .i64 (35), .int .i64 (35), .int .i64 (35), .int .i64 (35), .int .i64 (35), .int .i64 (35)])) awH59))
noncomputable def awA13 : MA := ⟨317, (.node (.node (.node (.node (.node awH40 (.node awH69 .leaf)) awH21) (.node awH61 (.node (.node awH65 (.node awH70 (.node awH57 .leaf))) .leaf))) .leaf) .leaf), []⟩
noncomputable def awS13 : St := ⟨561, awH68, []⟩
noncomputable def awH71 : TV := (.node (.one (.pointer (some ⟨1141, 0, none⟩))) (.one (.int .i64 (0))))
noncomputable def awH72 : TV := (.node (.node awH40 (.node awH69 (.node (.node awH71 .leaf) .leaf))) awH21)
noncomputable def awH73 : TV := (.one (.tuple #[.agg #[.int .i64 (0), .int .i64 (1), .int .i64 (1)], .int .i64 (0)]))
noncomputable def awH74 : TV := (.node awH65 (.node awH70 (.node awH57 (.node awH73 awH60))))
noncomputable def awH75 : TV := (.one (.agg #[.int .i64 (0), .int .i64 (1), .int .i64 (1)]))
noncomputable def awA14 : MA := ⟨317, (.node (.node (.node awH72 (.node awH61 (.node awH74 (.node (.node (.node (.node awH73 awH75) (.node (.one (.int .i64 (0))) .leaf)) .leaf) .leaf)))) .leaf) .leaf), []⟩
noncomputable def awH76 : Tri := (.node .leaf (.one (.cells [.int .i64 (0), .int .i64 (1), .int .i64 (1)] 146 false 0 false)))
noncomputable def awS14 : St := ⟨1142, (.node (.node (.node (.node (.node (.node (.node (.node (.node (.node (.node (.node awH67 (.node (.node (.node (.node .leaf (.node .leaf (.node .leaf (.node (.node .leaf (.node awH76 .leaf)) .leaf)))) .leaf) .leaf) .leaf)) .leaf) .leaf) .leaf) .leaf) .leaf) .leaf) .leaf) .leaf) .leaf) .leaf) .leaf), []⟩
noncomputable def awH77 : TV := (.node (.one (.int .i64 (0))) (.one (.int .i64 (0))))
noncomputable def awH78 : TV := (.node (.node awH77 awH77) (.node awH77 awH77))
noncomputable def awH79 : TV := (.node awH61 (.node awH74 (.node (.node (.node (.node awH73 awH75) awH77) (.node awH77 awH77)) awH78)))
noncomputable def awH80 : TV := (.node (.one (.bool false)) (.one (.bool false)))
noncomputable def awH81 : TV := (.one (.agg #[.int .i64 (1), .int .i64 (1)]))
noncomputable def awH82 : TV := (.one (.agg #[.int .i64 (-2), .int .i64 (-4), .int .i64 (-4), .int .i64 (-2)]))
noncomputable def awH83 : TV := (.one (.agg #[.int .i64 (0), .int .i64 (0), .int .i64 (0), .int .i64 (0)]))
noncomputable def awH84 : TV := (.node (.one (.bool true)) (.one (.bool false)))
noncomputable def awH85 : TV := (.node (.node (.node awH78 (.node (.node awH77 awH80) (.node (.node awH9 awH81) (.node awH9 (.one (.bool false)))))) (.node (.node (.node awH80 (.node awH16 awH16)) (.node awH80 (.node (.one (.bool false)) awH22))) (.node (.node (.node awH22 (.one (.bool false))) awH80) (.node (.node (.one (.int .i64 (1))) (.one (.bool false))) awH80)))) (.node (.node (.node (.node (.node (.one (.int .i64 (-1))) (.one (.bool false))) awH80) (.node (.node (.one (.pointer (some ⟨104, 4, none⟩))) awH82) (.node (.one (.agg #[.int .i64 (-2), .int .i64 (-4)])) (.one (.agg #[.int .i64 (-4), .int .i64 (-2)]))))) (.node (.node (.node awH82 (.one (.bool false))) awH80) (.node (.node (.one (.pointer (some ⟨104, 12, none⟩))) awH83) (.node awH83 (.one (.bool false)))))) (.node (.node (.node awH80 (.node awH38 (.one (.slice (some ⟨1142, 0, none⟩) 4 4)))) (.node awH84 awH80)) (.node (.node (.node awH48 (.one (.slice (some ⟨1143, 0, none⟩) 1 1))) awH84) (.node awH80 awH57)))))
noncomputable def awH86 : TV := (.node (.node (.node awH80 (.node (.one (.bool false)) awH62)) (.node (.node (.one (.slice (some ⟨1144, 0, none⟩) 1 1)) (.one (.bool true))) awH80)) (.node (.node (.node (.one (.bool false)) (.one (.slice none 0 0))) (.node (.one (.int .i64 (0))) (.one (.bool false)))) (.node awH80 (.node awH75 awH75))))
noncomputable def awA15 : MA := ⟨317, (.node (.node (.node awH72 awH79) (.node awH85 (.node (.node awH86 (.node (.node (.node awH80 .leaf) .leaf) .leaf)) .leaf))) .leaf), []⟩
noncomputable def awH87 : Tri := (.node .leaf (.node awH76 (.node (.one (.cells [.int .i64 (2), .int .i64 (3), .int .i64 (4), .int .i64 (6)] 3 false 0 false)) awH54)))
noncomputable def awS15 : St := ⟨1145, (.node (.node (.node (.node (.node (.node (.node (.node (.node (.node (.node (.node awH67 (.node (.node (.node (.node .leaf (.node .leaf (.node .leaf (.node awH87 (.node (.node (.node awH45 .leaf) .leaf) .leaf))))) .leaf) .leaf) .leaf)) .leaf) .leaf) .leaf) .leaf) .leaf) .leaf) .leaf) .leaf) .leaf) .leaf) .leaf), []⟩
noncomputable def awH88 : TV := (.node awH71 (.node (.one (.pointer (some ⟨1170, 0, none⟩))) (.one (.int .i64 (0)))))
noncomputable def awH89 : TV := (.one (.tuple #[.agg #[.int .i64 (43), .int .i64 (280)], .int .i64 (0)]))
noncomputable def awH90 : TV := (.node awH80 (.node awH89 (.one (.agg #[.slice (some ⟨1146, 0, none⟩) 2 2]))))
noncomputable def awH91 : TV := (.one (.agg #[.int .i64 (43), .int .i64 (280)]))
noncomputable def awA16 : MA := ⟨317, (.node (.node (.node (.node (.node awH40 (.node awH69 (.node awH88 .leaf))) awH21) awH79) (.node awH85 (.node (.node awH86 (.node (.node awH90 (.node (.node awH89 awH91) (.node (.one (.int .i64 (0))) .leaf))) .leaf)) .leaf))) .leaf), []⟩
noncomputable def awH92 : Tri := (.one (.cells [.int .i64 (1), .int .i64 (9), .int .i64 (1), .int .i64 (36)] 225 false 0 false))
noncomputable def awH93 : Tri := (.node .leaf (.node .leaf (.node .leaf (.node awH87 (.node (.node (.node awH45 (.one (.cells [.slice (some ⟨1146, 0, none⟩) 2 2] 153 false 0 false))) (.node awH92 .leaf)) .leaf)))))
noncomputable def awH94 : Tri := (.one (.cells [.int .i64 (43), .int .i64 (280)] 41 false 0 false))
noncomputable def awS16 : St := ⟨1171, (.node (.node (.node (.node (.node (.node (.node (.node (.node (.node (.node (.node awH67 (.node (.node (.node awH93 (.node (.node (.node .leaf (.node (.node (.node .leaf (.node awH94 .leaf)) .leaf) .leaf)) .leaf) .leaf)) .leaf) .leaf)) .leaf) .leaf) .leaf) .leaf) .leaf) .leaf) .leaf) .leaf) .leaf) .leaf) .leaf), []⟩
noncomputable def awH95 : TV := (.node (.one (.pointer (some ⟨1196, 0, none⟩))) (.one (.int .i64 (0))))
noncomputable def awH96 : TV := (.one (.tuple #[.agg #[.int .i64 (-13), .int .i64 (35)], .int .i64 (0)]))
noncomputable def awH97 : TV := (.node awH90 (.node (.node awH89 awH91) (.node (.one (.int .i64 (0))) awH96)))
noncomputable def awH98 : TV := (.one (.agg #[.int .i64 (-13), .int .i64 (35)]))
noncomputable def awH99 : TV := (.node (.node (.one (.agg #[.slice (some ⟨1172, 0, none⟩) 2 2])) awH96) (.node awH98 (.one (.int .i64 (0)))))
noncomputable def awA17 : MA := ⟨317, (.node (.node (.node (.node (.node awH40 (.node awH69 (.node awH88 (.node awH95 .leaf)))) awH21) awH79) (.node awH85 (.node (.node awH86 (.node awH97 (.node awH99 .leaf))) .leaf))) .leaf), []⟩
noncomputable def awH100 : Tri := (.node .leaf (.node (.node (.node .leaf (.node awH94 (.one (.cells [.slice (some ⟨1172, 0, none⟩) 2 2] 153 false 0 false)))) (.node (.node awH92 .leaf) .leaf)) .leaf))
noncomputable def awH101 : Tri := (.one (.cells [.int .i64 (-13), .int .i64 (35)] 41 false 0 false))
noncomputable def awS17 : St := ⟨1197, (.node (.node (.node (.node (.node (.node (.node (.node (.node (.node (.node (.node awH67 (.node (.node (.node awH93 (.node (.node awH100 (.node (.node .leaf (.node .leaf (.node (.node awH101 .leaf) .leaf))) .leaf)) .leaf)) .leaf) .leaf)) .leaf) .leaf) .leaf) .leaf) .leaf) .leaf) .leaf) .leaf) .leaf) .leaf) .leaf), []⟩
noncomputable def awH102 : TV := (.one (.slice (some ⟨1278, 0, none⟩) 1 1))
noncomputable def awH103 : TV := (.node awH69 (.node awH88 (.node awH95 (.node awH102 (.one (.int .i64 (0)))))))
noncomputable def awH104 : TV := (.one (.tuple #[.slice (some ⟨1278, 0, none⟩) 1 1, .int .i64 (0)]))
noncomputable def awH105 : TV := (.node awH86 (.node awH97 (.node awH99 (.node (.node awH104 (.one (.agg #[.slice (some ⟨1198, 0, none⟩) 2 2]))) (.node awH104 awH102)))))
noncomputable def awA18 : MA := ⟨317, (.node (.node (.node (.node (.node awH40 awH103) awH21) awH79) (.node awH85 (.node awH105 (.node (.node (.node awH36 .leaf) .leaf) .leaf)))) .leaf), []⟩
noncomputable def awH106 : Tri := (.one (.cells [.slice (some ⟨1198, 0, none⟩) 2 2] 153 false 0 false))
noncomputable def awH107 : Tri := (.node awH93 (.node (.node awH100 (.node (.node .leaf (.node .leaf (.node (.node awH101 awH106) (.node awH92 awH106)))) .leaf)) (.node .leaf (.node .leaf (.node .leaf (.node .leaf (.node (.node .leaf awH46) (.node (.one (.cells [.int .i64 (4)] 3 true 1 false)) .leaf))))))))
noncomputable def awS18 : St := ⟨1434, (.node (.node (.node (.node (.node (.node (.node (.node (.node (.node (.node (.node awH67 (.node (.node awH107 .leaf) .leaf)) .leaf) .leaf) .leaf) .leaf) .leaf) .leaf) .leaf) .leaf) .leaf) .leaf) .leaf), []⟩
noncomputable def awH108 : TV := (.node (.one (.bool true)) (.one (.int .i64 (0))))
noncomputable def awH109 : TV := (.one (.tuple #[.bool true, .int .i64 (0)]))
noncomputable def awH110 : TV := (.node (.node (.one (.int .i64 (0))) awH109) (.node (.one (.agg #[.slice (some ⟨1435, 0, none⟩) 2 2])) (.one (.slice (some ⟨1436, 0, none⟩) 4 4))))
noncomputable def awA19 : MA := ⟨317, (.node (.node (.node (.node (.node awH40 awH103) (.node (.node (.node (.node awH108 .leaf) .leaf) (.node .leaf awH8)) awH20)) awH79) (.node awH85 (.node awH105 (.node (.node (.node awH110 (.node (.node awH109 (.one (.bool true))) (.node (.one (.int .i64 (0))) .leaf))) .leaf) .leaf)))) .leaf), []⟩
noncomputable def awH111 : Tri := (.one (.cells [.int .i64 (0), .int .i64 (-1), .int .i64 (2), .int .i64 (-1), .int .i64 (2), .int .i64 (0), .int .i64 (0), .int .i64 (0)] 105 false 0 false))
noncomputable def awH112 : Tri := (.node awH107 (.node .leaf (.node (.node (.node .leaf (.node .leaf (.node (.node .leaf (.node (.one (.cells [.slice (some ⟨1435, 0, none⟩) 2 2] 153 false 0 false)) awH92)) (.node (.node awH111 .leaf) .leaf)))) .leaf) .leaf)))
noncomputable def awS19 : St := ⟨1754, (.node (.node (.node (.node (.node (.node (.node (.node (.node (.node (.node (.node awH67 (.node awH112 .leaf)) .leaf) .leaf) .leaf) .leaf) .leaf) .leaf) .leaf) .leaf) .leaf) .leaf) .leaf), []⟩
noncomputable def awH113 : TV := (.node awH108 (.node (.one (.bool false)) (.one (.int .i64 (0)))))
noncomputable def awH114 : TV := (.one (.tuple #[.bool false, .int .i64 (0)]))
noncomputable def awH115 : TV := (.node awH110 (.node (.node awH109 (.one (.bool true))) (.node (.one (.int .i64 (0))) awH114)))
noncomputable def awH116 : TV := (.node (.node (.one (.agg #[.slice (some ⟨1755, 0, none⟩) 2 2])) (.one (.slice (some ⟨1756, 0, none⟩) 4 4))) (.node awH114 (.one (.bool false))))
noncomputable def awA20 : MA := ⟨317, (.node (.node (.node (.node (.node awH40 awH103) (.node (.node (.node awH113 .leaf) (.node .leaf awH8)) awH20)) awH79) (.node awH85 (.node awH105 (.node (.node awH115 (.node awH116 awH36)) .leaf)))) .leaf), []⟩
noncomputable def awH117 : Tri := (.node awH67 (.node awH112 (.node (.node .leaf (.node .leaf (.node (.node .leaf (.node .leaf (.node (.node .leaf (.node (.one (.cells [.slice (some ⟨1755, 0, none⟩) 2 2] 153 false 0 false)) awH92)) (.node (.node awH111 .leaf) .leaf)))) .leaf))) .leaf)))
noncomputable def awS20 : St := ⟨2063, (.node (.node (.node (.node (.node (.node (.node (.node (.node (.node (.node awH117 .leaf) .leaf) .leaf) .leaf) .leaf) .leaf) .leaf) .leaf) .leaf) .leaf) .leaf), []⟩
noncomputable def awH118 : TV := (.node (.one (.int .i64 (2))) (.one (.int .i64 (0))))
noncomputable def awH119 : TV := (.one (.tuple #[.int .i64 (2), .int .i64 (0)]))
noncomputable def awH120 : TV := (.node awH115 (.node awH116 (.node (.node (.one (.int .i64 (0))) awH119) (.node (.one (.agg #[.slice (some ⟨2064, 0, none⟩) 2 2])) (.one (.slice (some ⟨2065, 0, none⟩) 4 4))))))
noncomputable def awA21 : MA := ⟨317, (.node (.node (.node (.node (.node awH40 awH103) (.node (.node (.node awH113 (.node awH118 .leaf)) (.node .leaf awH8)) awH20)) awH79) (.node awH85 (.node awH105 (.node awH120 (.node (.node (.node (.node awH119 (.one (.int .i64 (2)))) (.node (.one (.int .i64 (0))) .leaf)) .leaf) .leaf))))) .leaf), []⟩
noncomputable def awH121 : Tri := (.node (.node (.node (.node (.node .leaf (.node .leaf (.node .leaf (.node .leaf (.one (.cells [.slice (some ⟨2064, 0, none⟩) 2 2] 153 false 0 false)))))) (.node (.node (.node (.node awH92 awH111) .leaf) .leaf) .leaf)) .leaf) .leaf) .leaf)
noncomputable def awS21 : St := ⟨2371, (.node (.node (.node (.node (.node (.node (.node (.node (.node (.node (.node awH117 (.node (.node (.node awH121 .leaf) .leaf) .leaf)) .leaf) .leaf) .leaf) .leaf) .leaf) .leaf) .leaf) .leaf) .leaf) .leaf), []⟩
noncomputable def awH122 : TV := (.node (.node (.node awH119 (.one (.int .i64 (2)))) (.node (.one (.int .i64 (0))) awH29)) (.node (.node (.one (.agg #[.slice (some ⟨2372, 0, none⟩) 2 2])) (.one (.slice (some ⟨2373, 0, none⟩) 4 4))) (.node (.one (.slice (some ⟨2374, 0, none⟩) 1 1)) awH29)))
noncomputable def awA22 : MA := ⟨317, (.node (.node (.node (.node (.node awH40 awH103) (.node (.node (.node awH113 (.node awH118 awH28)) (.node .leaf awH8)) awH20)) awH79) (.node awH85 (.node awH105 (.node awH120 (.node awH122 (.node (.node awH28 .leaf) .leaf)))))) .leaf), []⟩
noncomputable def awH123 : Tri := (.node awH121 (.node (.node .leaf (.node (.node (.node (.node (.node .leaf (.node .leaf (.one (.cells [.slice (some ⟨2372, 0, none⟩) 2 2] 153 false 0 false)))) (.node (.node awH92 awH111) (.node awH54 .leaf))) .leaf) .leaf) .leaf)) .leaf))
noncomputable def awS22 : St := ⟨2837, (.node (.node (.node (.node (.node (.node (.node (.node (.node (.node (.node awH117 (.node (.node awH123 .leaf) .leaf)) .leaf) .leaf) .leaf) .leaf) .leaf) .leaf) .leaf) .leaf) .leaf) .leaf), []⟩
noncomputable def awH124 : TV := (.node awH85 (.node awH105 (.node awH120 (.node awH122 (.node (.node awH28 (.node awH119 (.one (.slice (some ⟨2837, 0, none⟩) 4 4)))) (.node (.node awH81 awH119) awH118))))))
noncomputable def awA23 : MA := ⟨317, (.node (.node (.node (.node (.node awH40 awH103) (.node (.node (.node awH113 (.node awH118 awH28)) (.node (.node awH118 .leaf) awH8)) awH20)) awH79) awH124) .leaf), []⟩
noncomputable def awH125 : Tri := (.node awH123 (.node .leaf (.node (.node (.node (.node .leaf (.node (.node .leaf (.node (.node .leaf awH111) .leaf)) .leaf)) .leaf) .leaf) .leaf)))
noncomputable def awS23 : St := ⟨3103, (.node (.node (.node (.node (.node (.node (.node (.node (.node (.node (.node awH117 (.node awH125 .leaf)) .leaf) .leaf) .leaf) .leaf) .leaf) .leaf) .leaf) .leaf) .leaf) .leaf), []⟩
noncomputable def awH126 : TV := (.one (.string ⟨#[98, 114, 97, 110, 99, 104, 32, 49, 32, 57, 10, 98, 114, 97, 110, 99, 104, 32, 49, 32, 51, 54, 10]⟩))
noncomputable def awH127 : TV := (.node (.node (.node awH113 (.node awH118 awH28)) (.node (.node awH118 (.node awH126 (.one (.int .i64 (0))))) awH8)) awH20)
noncomputable def awH128 : TV := (.one (.tuple #[.string ⟨#[98, 114, 97, 110, 99, 104, 32, 49, 32, 57, 10, 98, 114, 97, 110, 99, 104, 32, 49, 32, 51, 54, 10]⟩, .int .i64 (0)]))
noncomputable def awH129 : TV := (.node (.node awH128 (.one (.agg #[.slice (some ⟨3104, 0, none⟩) 2 2]))) (.node awH128 awH126))
noncomputable def awA24 : MA := ⟨317, (.node (.node (.node (.node (.node awH40 awH103) awH127) awH79) awH124) (.node (.node (.node (.node (.node (.node awH129 awH36) .leaf) .leaf) .leaf) .leaf) .leaf)), []⟩
noncomputable def awH130 : Tri := (.node .leaf (.node .leaf (.node .leaf (.node .leaf (.node .leaf (.one (.cells [.slice (some ⟨3104, 0, none⟩) 2 2] 153 false 0 false)))))))
noncomputable def awH131 : Tri := (.node (.node (.node (.node awH92 .leaf) .leaf) .leaf) .leaf)
noncomputable def awS24 : St := ⟨3123, (.node (.node (.node (.node (.node (.node (.node (.node (.node (.node (.node awH117 (.node awH125 (.node (.node (.node (.node (.node awH130 (.node awH131 .leaf)) .leaf) .leaf) .leaf) .leaf))) .leaf) .leaf) .leaf) .leaf) .leaf) .leaf) .leaf) .leaf) .leaf) .leaf), []⟩
noncomputable def awH132 : TV := (.node (.one (.bool true)) (.one (.bool true)))
noncomputable def awH133 : TV := (.node awH132 (.node (.one (.int .i64 (2))) (.one (.bool true))))
noncomputable def awH134 : TV := (.node (.node (.node (.node (.node (.node (.node (.node (.node (.one (.bool true)) (.one (.pointer (some ⟨7, 0, none⟩)))) awH6) awH18) awH39) awH103) awH127) awH79) awH124) (.node (.node (.node (.node (.node (.node awH129 (.node awH77 awH77)) awH78) (.node (.node (.node awH77 awH77) (.node awH77 awH132)) (.node (.node (.node awH91 awH91) awH132) (.node (.node (.one (.bool true)) awH98) (.node awH98 (.one (.bool true))))))) (.node (.node (.node (.node awH132 (.node awH102 (.one (.slice (some ⟨3123, 0, none⟩) 1 1)))) (.node awH132 awH132)) (.node (.node awH132 (.node (.one (.bool false)) (.one (.bool true)))) awH133)) (.node (.node (.node awH132 (.node (.one (.int .i64 (-1))) (.one (.bool true)))) awH133) (.node (.node awH132 (.node awH126 (.one (.bool true)))) (.node (.node (.one (.bool true)) .leaf) .leaf))))) .leaf) .leaf))
noncomputable def awA25 : MA := ⟨317, awH134, []⟩
noncomputable def awH135 : Tri := (.node (.node (.node (.node (.node (.node (.node (.node (.node (.node (.node awH117 (.node awH125 (.node (.node (.node (.node (.node awH130 (.node awH131 (.node (.node (.node .leaf (.node .leaf awH46)) .leaf) .leaf))) .leaf) .leaf) .leaf) .leaf))) .leaf) .leaf) .leaf) .leaf) .leaf) .leaf) .leaf) .leaf) .leaf) .leaf)
noncomputable def awS25 : St := ⟨3124, awH135, []⟩
noncomputable def awA26 : MA := ⟨317, awH134, []⟩
noncomputable def awS26 : St := ⟨3124, awH135, []⟩
def awR0 : Nat := 0
def awW0 : Nat := 0
def awRR0 : Nat := 13082107126060400460126094382040050290346010312543271343406150500049095192258132774768969173572526895148799071804480399941953434753608399335806503485524302865538131524944896216346674179932853872756786471765510405513236148624550049113343406602036223132670929509481682144520241092531265173286923426768948774661319199607336189475760842766333903816884786135044126184171406737695416855441990595567353758502540855459448729392160166735822709448742639753754827938647969777165285881897835654843719952795696376042771539513172673434727678441190607421612835885547117415436180246488759863551439275425010564969775758784981112608803273856349144566200909571940280247651615764028121871435330409104141683286942028087066623736070515990810176727719055348003531668466375875545717509319398784947410436106408218954764192166304514084776110389698891430711337851800469795635559007107621212318871294786657235029912791463417111207270842054091282415442473643177043558655
def awWW0 : Nat := 12476033876379748650436537811686148864650169717821233634667631623415207811960884945024517898715871574020027550093489051769548418171134821274920513549515140478862638069180048491552559957095824996440317656168211815369965710892195222708698798028209285364255035235236187862188991370824686725010892928052102469133662542797125237307713942418588383577982988740386013006205198292592449387550210041670239147036820172600261246171767469741424000776785940348331326553484035287009536226910552942548714239053502911872334645254717123854565104720057389958047937528114536888606877570494782690859526865132490552755527634659379094608175156341337897815431642377037398469534882605427994769386433647458273186635477156918307732976058273516771793228840217123365407952126070401141428173247377627148927481543363903891431260339323151647474509953997375743732515083743060935608348701283045300127799174515669373599874553594471387692783746186006345732703465192292480
def awR1 : Nat := 0
def awW1 : Nat := 128
def awRR1 : Nat := 13082107126060400460126094382040050290346010312543271343406150500049095192258132774768969173572526895148799071804480399941953434753608399335806503485524302865538131524944896216346674179932853872756786471765510405513236148624550049113343406602036223132670929509481682144520241092531265173286923426768948774661319199607336189475760842766333903816884786135044126184171406737695416855441990595567353758502540855459448729392160166735822709448742639753754827938647969777165285881897835654843719952795696376042771539513172673434727678441190607421612835885547117415436180246488759863551439275425010564969775758784981112608803273856349144566200909571940280247651615764028121871435330409104141683286942028087066623736070515990810176727719055348003531668466375875545717509319398784947410436106408218954764192166304514084776110389698891430711337851800469795635559007107621212318871294786657235029912791463417111207270842054091282415442473643177043558655
def awWW1 : Nat := 12476033876379748650436537811686148864650169717821233634667631623415207811960884945024517898715871574020027550093489051769548418171134821274920513549515140478862638069180048491552559957095824996440317656168211815369965710892195222708698798028209285364255035235236187862188991370824686725010892928052102469133662542797125237307713942418588383577982988740386013006205198292592449387550210041670239147036820172600261246171767469741424000776785940348331326553484035287009536226910552942548714239053502911872334645254717123854565104720057389958047937528114536888606877570494782690859526865132490552755527634659379094608175156341337897815431642377037398469534882605427994769386433647458273186635477156918307732976058273516771793228840217123365407952126070401141428173247377627148927481543363903891431260339323151647474509953997375743732515083743060935608348701283045300127799174515669373599874553594471387692783746186006345732703465192292480
def awR2 : Nat := 128
def awW2 : Nat := 1125899906842624
def awRR2 : Nat := 13082107126060400460126094382040050290346010312543271343406150500049095192258132774768969173572526895148799071804480399941953434753608399335806503485524302865538131524944896216346674179932853872756786471765510405513236148624550049113343406602036223132670929509481682144520241092531265173286923426768948774661319199607336189475760842766333903816884786135044126184171406737695416855441990595567353758502540855459448729392160166735822709448742639753754827938647969777165285881897835654843719952795696376042771539513172673434727678441190607421612835885547117415436180246488759863551439275425010564969775758784981112608803273856349144566200909571940280247651615764028121871435330409104141683286942028087066623736070515990810176727719055348003531668466375875545717509319398784947410436106408218954764192166304514084776110389698891430711337851800469795635559007107621212318871294786657235029912791463417111207270842054091282415442473643177043558655
def awWW2 : Nat := 12476033876379748650436537811686148864650169717821233634667631623415207811960884945024517898715871574020027550093489051769548418171134821274920513549515140478862638069180048491552559957095824996440317656168211815369965710892195222708698798028209285364255035235236187862188991370824686725010892928052102469133662542797125237307713942418588383577982988740386013006205198292592449387550210041670239147036820172600261246171767469741424000776785940348331326553484035287009536226910552942548714239053502911872334645254717123854565104720057389958047937528114536888606877570494782690859526865132490552755527634659379094608175156341337897815431642377037398469534882605427994769386433647458273186635477156918307732976058273516771793228840217123365407952126070401141428173247377627148927481543363903891431260339323151647474509953997375743732515083743060935608348701283045300127799174515669373599874553594471387692783746186006345732703465192292352
def awR3 : Nat := 0
def awW3 : Nat := 2361183241434822606848
def awRR3 : Nat := 13082107126060400460126094382040050290346010312543271343406150500049095192258132774768969173572526895148799071804480399941953434753608399335806503485524302865538131524944896216346674179932853872756786471765510405513236148624550049113343406602036223132670929509481682144520241092531265173286923426768948774661319199607336189475760842766333903816884786135044126184171406737695416855441990595567353758502540855459448729392160166735822709448742639753754827938647969777165285881897835654843719952795696376042771539513172673434727678441190607421612835885547117415436180246488759863551439275425010564969775758784981112608803273856349144566200909571940280247651615764028121871435330409104141683286942028087066623736070515990810176727719055348003531668466375875545717509319398784947410436106408218954764192166304514084776110389698891430711337851800469795635559007107621212318871294786657235029912791463417111207270842054091282415442473643177043558527
def awWW3 : Nat := 12476033876379748650436537811686148864650169717821233634667631623415207811960884945024517898715871574020027550093489051769548418171134821274920513549515140478862638069180048491552559957095824996440317656168211815369965710892195222708698798028209285364255035235236187862188991370824686725010892928052102469133662542797125237307713942418588383577982988740386013006205198292592449387550210041670239147036820172600261246171767469741424000776785940348331326553484035287009536226910552942548714239053502911872334645254717123854565104720057389958047937528114536888606877570494782690859526865132490552755527634659379094608175156341337897815431642377037398469534882605427994769386433647458273186635477156918307732976058273516771793228840217123365407952126070401141428173247377627148927481543363903891431260339323151647474509953997375743732515083743060935608348701283045300127799174515669373599874553594471387692783746186006345731577565285449728
def awR4 : Nat := 0
def awW4 : Nat := 4951760157141521099596496896
def awRR4 : Nat := 13082107126060400460126094382040050290346010312543271343406150500049095192258132774768969173572526895148799071804480399941953434753608399335806503485524302865538131524944896216346674179932853872756786471765510405513236148624550049113343406602036223132670929509481682144520241092531265173286923426768948774661319199607336189475760842766333903816884786135044126184171406737695416855441990595567353758502540855459448729392160166735822709448742639753754827938647969777165285881897835654843719952795696376042771539513172673434727678441190607421612835885547117415436180246488759863551439275425010564969775758784981112608803273856349144566200909571940280247651615764028121871435330409104141683286942028087066623736070515990810176727719055348003531668466375875545717509319398784947410436106408218954764192166304514084776110389698891430711337851800469795635559007107621212318871294786657235029912791463417111207270842054091282415442473643177043558527
def awWW4 : Nat := 12476033876379748650436537811686148864650169717821233634667631623415207811960884945024517898715871574020027550093489051769548418171134821274920513549515140478862638069180048491552559957095824996440317656168211815369965710892195222708698798028209285364255035235236187862188991370824686725010892928052102469133662542797125237307713942418588383577982988740386013006205198292592449387550210041670239147036820172600261246171767469741424000776785940348331326553484035287009536226910552942548714239053502911872334645254717123854565104720057389958047937528114536888606877570494782690859526865132490552755527634659379094608175156341337897815431642377037398469534882605427994769386433647458273186635477156918307732976058273516771793228840217123365407952126070401141428173247377627148927481543363903891431260339323151647474509953997375743732515083743060935608348701283045300127799174515669373599874553594471387692783746186003984548336130462842880
def awR5 : Nat := 0
def awW5 : Nat := 0
def awRR5 : Nat := 13082107126060400460126094382040050290346010312543271343406150500049095192258132774768969173572526895148799071804480399941953434753608399335806503485524302865538131524944896216346674179932853872756786471765510405513236148624550049113343406602036223132670929509481682144520241092531265173286923426768948774661319199607336189475760842766333903816884786135044126184171406737695416855441990595567353758502540855459448729392160166735822709448742639753754827938647969777165285881897835654843719952795696376042771539513172673434727678441190607421612835885547117415436180246488759863551439275425010564969775758784981112608803273856349144566200909571940280247651615764028121871435330409104141683286942028087066623736070515990810176727719055348003531668466375875545717509319398784947410436106408218954764192166304514084776110389698891430711337851800469795635559007107621212318871294786657235029912791463417111207270842054091282415442473643177043558527
def awWW5 : Nat := 12476033876379748650436537811686148864650169717821233634667631623415207811960884945024517898715871574020027550093489051769548418171134821274920513549515140478862638069180048491552559957095824996440317656168211815369965710892195222708698798028209285364255035235236187862188991370824686725010892928052102469133662542797125237307713942418588383577982988740386013006205198292592449387550210041670239147036820172600261246171767469741424000776785940348331326553484035287009536226910552942548714239053502911872334645254717123854565104720057389958047937528114536888606877570494782690859526865132490552755527634659379094608175156341337897815431642377037398469534882605427994769386433647458273186635477156918307732976058273516771793228840217123365407952126070401141428173247377627148927481543363903891431260339323151647474509953997375743732515083743060935608348701283045300127799174515669373599874553594471387692783741234243827406815030866345984
def awR6 : Nat := 0
def awW6 : Nat := 0
def awRR6 : Nat := 13082107126060400460126094382040050290346010312543271343406150500049095192258132774768969173572526895148799071804480399941953434753608399335806503485524302865538131524944896216346674179932853872756786471765510405513236148624550049113343406602036223132670929509481682144520241092531265173286923426768948774661319199607336189475760842766333903816884786135044126184171406737695416855441990595567353758502540855459448729392160166735822709448742639753754827938647969777165285881897835654843719952795696376042771539513172673434727678441190607421612835885547117415436180246488759863551439275425010564969775758784981112608803273856349144566200909571940280247651615764028121871435330409104141683286942028087066623736070515990810176727719055348003531668466375875545717509319398784947410436106408218954764192166304514084776110389698891430711337851800469795635559007107621212318871294786657235029912791463417111207270842054091282415442473643177043558527
def awWW6 : Nat := 12476033876379748650436537811686148864650169717821233634667631623415207811960884945024517898715871574020027550093489051769548418171134821274920513549515140478862638069180048491552559957095824996440317656168211815369965710892195222708698798028209285364255035235236187862188991370824686725010892928052102469133662542797125237307713942418588383577982988740386013006205198292592449387550210041670239147036820172600261246171767469741424000776785940348331326553484035287009536226910552942548714239053502911872334645254717123854565104720057389958047937528114536888606877570494782690859526865132490552755527634659379094608175156341337897815431642377037398469534882605427994769386433647458273186635477156918307732976058273516771793228840217123365407952126070401141428173247377627148927481543363903891431260339323151647474509953997375743732515083743060935608348701283045300127799174515669373599874553594471387692783741234243827406815030866345984
def awR7 : Nat := 127
def awW7 : Nat := 20282409603651670423947251286016
def awRR7 : Nat := 13082107126060400460126094382040050290346010312543271343406150500049095192258132774768969173572526895148799071804480399941953434753608399335806503485524302865538131524944896216346674179932853872756786471765510405513236148624550049113343406602036223132670929509481682144520241092531265173286923426768948774661319199607336189475760842766333903816884786135044126184171406737695416855441990595567353758502540855459448729392160166735822709448742639753754827938647969777165285881897835654843719952795696376042771539513172673434727678441190607421612835885547117415436180246488759863551439275425010564969775758784981112608803273856349144566200909571940280247651615764028121871435330409104141683286942028087066623736070515990810176727719055348003531668466375875545717509319398784947410436106408218954764192166304514084776110389698891430711337851800469795635559007107621212318871294786657235029912791463417111207270842054091282415442473643177043558527
def awWW7 : Nat := 12476033876379748650436537811686148864650169717821233634667631623415207811960884945024517898715871574020027550093489051769548418171134821274920513549515140478862638069180048491552559957095824996440317656168211815369965710892195222708698798028209285364255035235236187862188991370824686725010892928052102469133662542797125237307713942418588383577982988740386013006205198292592449387550210041670239147036820172600261246171767469741424000776785940348331326553484035287009536226910552942548714239053502911872334645254717123854565104720057389958047937528114536888606877570494782690859526865132490552755527634659379094608175156341337897815431642377037398469534882605427994769386433647458273186635477156918307732976058273516771793228840217123365407952126070401141428173247377627148927481543363903891431260339323151647474509953997375743732515083743060935608348701283045300127799174515669373599874553594471387692783741234243827406815030866345984
def awR8 : Nat := 222051820340778487801374507079303295
def awW8 : Nat := 110336308243865087106273046995927040
def awRR8 : Nat := 13082107126060400460126094382040050290346010312543271343406150500049095192258132774768969173572526895148799071804480399941953434753608399335806503485524302865538131524944896216346674179932853872756786471765510405513236148624550049113343406602036223132670929509481682144520241092531265173286923426768948774661319199607336189475760842766333903816884786135044126184171406737695416855441990595567353758502540855459448729392160166735822709448742639753754827938647969777165285881897835654843719952795696376042771539513172673434727678441190607421612835885547117415436180246488759863551439275425010564969775758784981112608803273856349144566200909571940280247651615764028121871435330409104141683286942028087066623736070515990810176727719055348003531668466375875545717509319398784947410436106408218954764192166304514084776110389698891430711337851800469795635559007107621212318871294786657235029912791463417111207270842054091282415442473643177043558527
def awWW8 : Nat := 12476033876379748650436537811686148864650169717821233634667631623415207811960884945024517898715871574020027550093489051769548418171134821274920513549515140478862638069180048491552559957095824996440317656168211815369965710892195222708698798028209285364255035235236187862188991370824686725010892928052102469133662542797125237307713942418588383577982988740386013006205198292592449387550210041670239147036820172600261246171767469741424000776785940348331326553484035287009536226910552942548714239053502911872334645254717123854565104720057389958047937528114536888606877570494782690859526865132490552755527634659379094608175156341337897815431642377037398469534882605427994769386433647458273186635477156918307732976058273516771793228840217123365407952126070401141428173247377627148927481543363903891431260339323151647474509953997375743732515083743060935608348701283045300127799174515669373599874553594471387692763458824640175736391083615059968
def awR9 : Nat := 1645504557321206042155317937423516576499973129107213858476392575
def awW9 : Nat := 348449143727040986586495598010130648530944
def awRR9 : Nat := 13082107126060400460126094382040050290346010312543271343406150500049095192258132774768969173572526895148799071804480399941953434753608399335806503485524302865538131524944896216346674179932853872756786471765510405513236148624550049113343406602036223132670929509481682144520241092531265173286923426768948774661319199607336189475760842766333903816884786135044126184171406737695416855441990595567353758502540855459448729392160166735822709448742639753754827938647969777165285881897835654843719952795696376042771539513172673434727678441190607421612835885547117415436180246488759863551439275425010564969775758784981112608803273856349144566200909571940280247651615764028121871435330409104141683286942028087066623736070515990810176727719055348003531668466375875545717509319398784947410436106408218954764192166304514084776110389698891430711337851800469795635559007107621212318871294786657235029912791463417111207270620002270941636954672268669964255359
def awWW9 : Nat := 12476033876379748650436537811686148864650169717821233634667631623415207811960884945024517898715871574020027550093489051769548418171134821274920513549515140478862638069180048491552559957095824996440317656168211815369965710892195222708698798028209285364255035235236187862188991370824686725010892928052102469133662542797125237307713942418588383577982988740386013006205198292592449387550210041670239147036820172600261246171767469741424000776785940348331326553484035287009536226910552942548714239053502911872334645254717123854565104720057389958047937528114536888606877570494782690859526865132490552755527634659379094608175156341337897815431642377037398469534882605427994769386433647458273186635477156918307732976058273516771793228840217123365407952126070401141428173247377627148927481543363903891431260339323151647474509953997375743732515083743060935608348701283045300127799174515669373599874553594471387582427150580775088630118036619132928
def awR10 : Nat := 127
def awW10 : Nat := 0
def awRR10 : Nat := 13082107126060400460126094382040050290346010312543271343406150500049095192258132774768969173572526895148799071804480399941953434753608399335806503485524302865538131524944896216346674179932853872756786471765510405513236148624550049113343406602036223132670929509481682144520241092531265173286923426768948774661319199607336189475760842766333903816884786135044126184171406737695416855441990595567353758502540855459448729392160166735822709448742639753754827938647969777165285881897835654843719952795696376042771539513172673434727678441190607421612835885547117415436180246488759863551439275425010564969775758784981112608803273856349144566200909571940280247651615764028121871435330409104141683286942028087066623736070515990810176727719055348003531668466375875545717509319398784947410436106408218954764192166304514084776110389698891430711337851800469795635559007107621212318871294786655589525355470257374955889333196485694441663825565054811487862911
def awWW10 : Nat := 12476033876379748650436537811686148864650169717821233634667631623415207811960884945024517898715871574020027550093489051769548418171134821274920513549515140478862638069180048491552559957095824996440317656168211815369965710892195222708698798028209285364255035235236187862188991370824686725010892928052102469133662542797125237307713942418588383577982988740386013006205198292592449387550210041670239147036820172600261246171767469741424000776785940348331326553484035287009536226910552942548714239053502911872334645254717123854565104720057389958047937528114536888606877570494782690859526865132490552755527634659379094608175156341337897815431642377037398469534882605427994769386433647458273186635477156918307732976058273516771793228840217123365407952126070401141428173247377627148927481543363903891431260339323151647474509953997375743732515083743060935608348701283045300127799174515669373599874553594122938438700109594188593032107905970601984
def awR11 : Nat := 80695308691391195000715792528975717794647036023969012007340992766034937668778835188994464385771031935211263414937583743
def awW11 : Nat := 1174271291386916613944740298394668513687841274454159935353645485766104512557304221731849499192384351515967488
def awRR11 : Nat := 13082107126060400460126094382040050290346010312543271343406150500049095192258132774768969173572526895148799071804480399941953434753608399335806503485524302865538131524944896216346674179932853872756786471765510405513236148624550049113343406602036223132670929509481682144520241092531265173286923426768948774661319199607336189475760842766333903816884786135044126184171406737695416855441990595567353758502540855459448729392160166735822709448742639753754827938647969777165285881897835654843719952795696376042771539513172673434727678441190607421612835885547117415436180246488759863551439275425010564969775758784981112608803273856349144566200909571940280247651615764028121871435330409104141683286942028087066623736070515990810176727719055348003531668466375875545717509319398784947410436106408218954764192166304514084776110389698891430711337851800469795635559007107621212318871294786655589525355470257374955889333196485694441663825565054811487862911
def awWW11 : Nat := 12476033876379748650436537811686148864650169717821233634667631623415207811960884945024517898715871574020027550093489051769548418171134821274920513549515140478862638069180048491552559957095824996440317656168211815369965710892195222708698798028209285364255035235236187862188991370824686725010892928052102469133662542797125237307713942418588383577982988740386013006205198292592449387550210041670239147036820172600261246171767469741424000776785940348331326553484035287009536226910552942548714239053502911872334645254717123854565104720057389958047937528114536888606877570494782690859526865132490552755527634659379094608175156341337897815431642377037398469534882605427994769386433647458273186635477156918307732976058273516771793228840217123365407952126070401141428173247377627148927481543363903891431260339323151647474509953997375743732515083743060935608348701283045300127799174515669373599874553594122938438700109594188593032107905970601984
def awR12 : Nat := 127
def awW12 : Nat := 0
def awRR12 : Nat := 13082107126060400460126094382040050290346010312543271343406150500049095192258132774768969173572526895148799071804480399941953434753608399335806503485524302865538131524944896216346674179932853872756786471765510405513236148624550049113343406602036223132670929509481682144520241092531265173286923426768948774661319199607336189475760842766333903816884786135044126184171406737695416855441990595567353758502540855459448729392160166735822709448742639753754827938647969777165285881897835654843719952795696376042771539513172673434727678441190607421612835885547117415436180246488759863551439275425010564969775758784981112608803273856349144566200909571940280247651615764028121871435330409104141683286942028087066623736070515990810176727719055348003531668466375875545717509319398784947410436106408218954764192166304514084776110389698810735402646460605469079843030031389826565282847325774648248532589435319706177054144202021308670631890353791396550279295
def awWW12 : Nat := 12476033876379748650436537811686148864650169717821233634667631623415207811960884945024517898715871574020027550093489051769548418171134821274920513549515140478862638069180048491552559957095824996440317656168211815369965710892195222708698798028209285364255035235236187862188991370824686725010892928052102469133662542797125237307713942418588383577982988740386013006205198292592449387550210041670239147036820172600261246171767469741424000776785940348331326553484035287009536226910552942548714239053502911872334645254717123854565104720057389958047937528114536888606877570494782690859526865132490552755527634659379094608175156341337897815431642377037398469534882605427994769386433647458273186635477156918307732976058273516771793228840217123365407952126070401141428173247377627148927481543363903891431260339323151647474509953997375742558243792356144321663608402888376786439957900061509438246229067828018425881395887862339093839723554454634496
def awR13 : Nat := 127
def awW13 : Nat := 29869300533616733140640817245705921293523346554414452661228221470175633689498026524309992157303697164216720950621830589133036625173357495434733211372173157073273668443105772486870011326667946484185572662178626915082088758825602391889183658279443370529736250961852912046691798146247876952203635599887659783917258902914469991828456112504598167552
def awRR13 : Nat := 13082107126060400460126094382040050290346010312543271343406150500049095192258132774768969173572526895148799071804480399941953434753608399335806503485524302865538131524944896216346674179932853872756786471765510405513236148624550049113343406602036223132670929509481682144520241092531265173286923426768948774661319199607336189475760842766333903816884786135044126184171406737695416855441990595567353758502540855459448729392160166735822709448742639753754827938647969777165285881897835654843719952795696376042771539513172673434727678441190607421612835885547117415436180246488759863551439275425010564969775758784981112608803273856349144566200909571940280247651615764028121871435330409104141683286942028087066623736070515990810176727719055348003531668466375875545717509319398784947410436106408218954764192166304514084776110389698810735402646460605469079843030031389826565282847325774648248532589435319706177054144202021308670631890353791396550279295
def awWW13 : Nat := 12476033876379748650436537811686148864650169717821233634667631623415207811960884945024517898715871574020027550093489051769548418171134821274920513549515140478862638069180048491552559957095824996440317656168211815369965710892195222708698798028209285364255035235236187862188991370824686725010892928052102469133662542797125237307713942418588383577982988740386013006205198292592449387550210041670239147036820172600261246171767469741424000776785940348331326553484035287009536226910552942548714239053502911872334645254717123854565104720057389958047937528114536888606877570494782690859526865132490552755527634659379094608175156341337897815431642377037398469534882605427994769386433647458273186635477156918307732976058273516771793228840217123365407952126070401141428173247377627148927481543363903891431260339323151647474509953997375742558243792356144321663608402888376786439957900061509438246229067828018425881395887862339093839723554454634496
def awR14 : Nat := 448039508004250997109612258685588819402850198316216789918423322052634505342470397864649882359555457463250814259327458836995549377600362431520998170582597356099105026646586587303050169900019197262783589932679403726231331382384197268955135305978504052894293952669939287312428798663273361501952966886775259271788683406593331558761075059690613768192
def awW14 : Nat := 0
def awRR14 : Nat := 13082107126060400460126094382040050290346010312543271343406150500049095192258132774768969173572526895148799071804480399941953434753608399335806503485524302865538131524944896216346674179932853872756786471765510405513236148624550049113343406602036223132670929509481682144520241092531265173286923426768948774661319199607336189475760842766333903816884786135044126184171406737695416855441990595567353758502540855459448729392160166735822709448742639753754827938647969777165285881897835654843719952795696376042771539513172673434727678441190607421612835885547117415436180246488759863551439275425010564969775758784981112608803273856349144566200909571940280247651615764028121871435330409104141683286942028087066623736070515990810176727719055348003531668466375875545717509319398784947410436106408218954764192166304514084776110389698810735402646460605469079843030031389826565282847325774648248532589435319706177054144202021308670631890353791396550279168
def awWW14 : Nat := 12476033876379748650436537811686148864650169717821233634667631623415207811960884945024517898715871574020027550093489051769548418171134821274920513549515140478862638069180048491552559957095824996440317656168211815369965710892195222708698798028209285364255035235236187862188991370824686725010892928052102469133662542797125237307713942418588383577982988740386013006205198292592449387550210041670239147036820172600261246171767469741424000776785940348331326553484035287009536226910552942548714239053502911872334645254717123854565104720057389958047937528114536888606877570494782690859526865132490522886227101042645953967357910635416604292085087962584737241313412429794305271359909337466115882938312940197357111145469140480146619871344782390154035778968997127472985067474890757137600813596879718318769081712408069558715684351605486558899964348985614585412646549976330094641811652184557234610629180168234508622492973392347265383611049856466944
def awR15 : Nat := 1433726425613603190750759227793884222089120634611893727738954630568430417095905273166879623550577463882402605629847868278385758008321159780867194145864311539517136085269077079369760543680061431240907487784574091923940260423628914810680815597413281785427340046168939778241206311019898093705774508794607669628028427339894559607765893400220712042496
def awW15 : Nat := 16035959096193710717544190069380541979948839454334089696845664880482716781868869354274920049164357874383999369877384365446640088414808599449800982621798756214618198375014511277182770796318731576819045719355269933665898188129069346292565703782919645659747352649130865490009805000764777417359377489485524603939938262423953409141095649927616022480741728256
def awRR15 : Nat := 13082107126060400460126094382040050290346010312543271343406150500049095192258132774768969173572526895148799071804480399941953434753608399335806503485524302865538131524944896216346674179932853872756786471765510405513236148624550049113343406602036223132670929509481682144520241092531265173286923426768948774661319199607336189475760842766333903816884786135044126184171406737695416855441990595567353758502540855459448729392160166735822709448742639753754827938647969777165285881897835654843719952795696376042771539513172673434727678441190607421612835885547117415436180246488759863551439275425010564969327719276976861611693661597663555746798059373624063457733192441975487366092860011239491800927386570623815809476743057153814627350118692916482533497883778519446612482672812197644360266206389021691980602233625110358544779007314613466447511154626965026948736078719887277970418527111374887030636468432930917782355518614715339073129278731705936510976
def awWW15 : Nat := 12476033876379748650436537811686148864650169717821233634667631623415207811960884945024517898715871574020027550093489051769548418171134821274920513549515140478862638069180048491552559957095824996440317656168211815369965710892195222708698798028209285364255035235236187862188991370824686725010892928052102469133662542797125237307713942418588383577982988740386013006205198292592449387550210041670239147036820172600261246171767469741424000776785940348331326553484035287009536226910552942548714239053502911872334645254717123854565104720057389958047937528114536888606877570494782690859526865132490522886227101042645953967357910635416604292085087962584737241313412429794305271359909337466115882938312940197357111145469140480146619871344782390154035778968997127472985067474890757137600813596879718318769081712408069558715684351605486558899964348985614585412646549976330094641811652184557234610629180168234508622492973392347265383611049856466944
def awR16 : Nat := 96215751709709413078058758914764796291924592547763268957286533804987039554352381933838973961226900145149068454459094932984103973717335580056486333996404245559086111215814897124942466038391302100791411834316644032847205280893895230497564601335886679131920545040105100602179273522176042464360077525364130034424290318486865775057454684033909334443026284544
def awW16 : Nat := 1076154998096026650199015465356209355978677393898740636029416953453890894864955619329803428190244206239364897489187084056484868950377365886507168969832656166175967486673869835326924868513325458041254891789994977661673782945000129206916696026232240023508175363290562970371361362462843343691841703066545500614459181021405399676386144781983993496881039260656861184
def awRR16 : Nat := 13082107126060400460126094382040050290346010312543271343406150500049095192258132774768969173572526895148799071804480399941953434753608399335806503485524302865538131524944896216346674179932853872756786471765510405513236148624550049113343406602036223132670929509481682144520241092531265173286923426768948774661319199607336189475760842766333903816884786135044126184171406737695416855441990595567353758502540855459448729392160166735822709448742639753754827938647969777165285881897835654843719952795696376042771539513172673434727678441190607421612835885547117415436180246488759863551439275425010564967893992851363258420942902369869671524708938739012169729994237811407056948996954738072612177376809106741413203846895188875428869341797533135615339352019466979929476397403735118274599722526327590451073114449051018434604518583685698655766695557213683241521396032550947499729212216091476793324861959638323248154327091274820779465363385331485224468480
def awWW16 : Nat := 12476033876379748650436537811686148864650169717821233634667631623415207811960884945024517898715871574020027550093489051769548418171134821274920513549515140478862638069180048491552559957095824996440317656168211815369965710892195222708698798028209285364255035235236187862188991370824686725010892928052102469133662542797125237307713942418588383577982988740386013006205198292592449387550210041670239147036820172600261246171767469741424000776785940348331326553484035287009536226910552942548714239053502911872334645254717123854565104720057389958047937528114536888606877570494782690859526849096531426692516383498455884586815930686577149957995391116919856758596630560924950996439860173108241498938943062812991664505380725671547170070362160591397821160770622112961707884704094438406023994551160363048835415814219940489369391785901703639254304601632965454547156540171329329864394292807067749086025240229972084669083832296697337767588569114738688
def awR17 : Nat := 2601983048666099770481325148010545722185606370772160247385826220035054282522021591085274211081185882738022376287540333488247517136635019193424291663230709655309429245005952474070972414480933586610260629231831907851156837445568486391201077773584174783431145877329835490355365789542867673171287583228994010325475253136461048198564845360556892494662043416510726379228811601961174198910976
def awW17 : Nat := 2152309932048218827258422212006579435447490593181086240216654602050092586405218202424685567154505771660796364878995198473573115911352082628123951235341089668082437933956998860110584987065006890488308383052382065778918210658530071151236571720754745823091897971967429247339322323472837672599655096559705984319498339093283920361528439525664864304489188892629532672
def awRR17 : Nat := 13082107126060400460126094382040050290346010312543271343406150500049095192258132774768969173572526895148799071804480399941953434753608399335806503485524302865538131524944896216346674179932853872756786471765510405513236148624550049113343406602036223132670929509481682144520241092531265173286923426768948774661319199607336189475760842766333903816884786135044126184171406737695416855441990595567353758502540855459448729392160166735822709448742639753754827938647969777165285881897835654843719952795696376042771539513172673434727678441190607421612835885547117415436180246488759863551439275424914349216184283438285199662028137573577746932161175470054883196189250771852704567063115764111385277231660038286954108913911084901711533761741046801618935106460380868713661500278792652236208420425536178616756470416203813153710623353188134054430808878081762696481290931948768226207036173627116715799497829603898957835840225499763324781329475997042198183936
def awWW17 : Nat := 12476033876379748650436537811686148864650169717821233634667631623415207811960884945024517898715871574020027550093489051769548418171134821274920513549515140478862638069180048491552559957095824996440317656168211815369965710892195222708698798028209285364255035235236187862188991370824686725010892928052102469133662542797125237307713942418588383577982988740386013006205198292592449387550210041670239147036820172600261246171767469741424000776785940348331326553484035287009536226910552942548714239053502911872334645254717123854565104720057389958047937528114536888606877570494782689783371851000504776493500918142246528608138536787836513928578437663028961893641011231121522806195653933743344009751859006328122714128014839164378200237705994415430334486900786786036839371378636397151132204556182701375052470814090733572673365553661680131078941311069995083185794077327985638022691226261567134626844218824572408282939050312703840886549308457877504
def awR18 : Nat := 3327452175191164356773405382964209737879723545558155811182896735013404524539257367207218901344049054481539812996210100289006529337345882721508180478919122209679647825412004633497575113876485990661727177718396764209212240800725863242819282740008541271207881502264108388450193049282512692288101950887093694609026405791110259666437276543347538190667342623847600997653068341792001469053243142247327786970040273320480843726460851782156288
def awW18 : Nat := 475350310741594908110486483280601391125674792222593687311842390716200646362751052458174128763435579211648544713744300041286647048192268960215454354131303172811378260773143519071082159125212284380246739674056680601316034400103694748974183248572648753029697357466301198350027578468930384612585992983870527801289486541587179952348182363335362598666763231978228713950438334541714495579034734606761112424291467617211549103780121683165184
def awRR18 : Nat := 13082107126060400460126094382040050290346010312543271343406150500049095192258132774768969173572526895148799071804480399941953434753608399335806503485524302865538131524944896216346674179932853872756786471765510405513236148624550049113343406602036223132670929509481682144520241092531265173286923426768948774661319199607336189475760842766333903816884786135044126184171406737695416855441990595567353758502540855459448729392160166735822709448742639753754827938647969777165285881897835654843719952795696376042771539513172673434727678441190607421612835885547117412834197197822660093070114127414368627030577912666124952276201917538523464410139584384780672115003368033830328279522782275863868140596640844862662445683201429592282288755788572730646520625526794258453032268446884801079370974857049787415678696832029029722564746023352643699065019335214089525193707702954757900731783037166068517234652469047006463173796808989036945552517874035867999272960
def awWW18 : Nat := 12476033876379748650436537811686148864650169717821233634667631623415207811960884945024517898715871574020027550093489051769548418171134821274920513549515140478862638069180048491552559957095824996440317656168211815369965710892195222708698798028209285364255035235236187862188991370824686725010892928052102469133662542797125237307713942418588383577982988740386013006205198292592449387550210041670239147036820172600261246171767469741424000776785940348331326553484035287009536226910552942548714239053502911872334645254717123854565104720057389958047937528114536888606877570494782687631061918952285949235078706135667093160647943606750273711923835612936375488422808806435955651689882272946979130756660532755006802775932211040426964896616326332992400529901926675451852306371745908842749152174116922456841812284019582336101644798915857039180969343640747743863470604490313038367594666555582815128505125540652046754499524647839536397360415828344832
def awR19 : Nat := 7107394708855159969442897699724037048658703670006149944354280292522917548741079239436322348683937949874040618137507322541147146115192448996433241674221821197046227596453733210537469904826808755193113062357040284698447222023180517981607009984287006971149305163515406967312110146474621669377438304573132128065588892555323371561334022615309263227160938681829261129236684525672963993188525744922071700701521909590091305590748188987682044031979991087072755065023707122275903212231606191941699388054393635473986098487324669221575589888
def awW19 : Nat := 1015342101265022852777556814246291006951243381429449992050611470360416792677297034205188906954848278553434374019643903220163878016456064142347605953460260171006603942350533315791067129260972679313301866051005754956921031717597216854515287140612429567307043594787915281044587163782088809911062614939018875437941270365046195937333431802187037603880134097404180161319526360810423427598360820703153100100217415655727329370106884141097434861711427298153250723574815303182271887461658027420242769722056233639140871212474952745939369984
def awRR19 : Nat := 13082107126060400460126094382040050290346010312543271343406150500049095192258132774768969173572526895148799071804480399941953434753608399335806503485524302865538131524944896216346674179932853872756786471765510405513236148624550049113343406602036223132670929509481682144520241092531265173286923426768948774661319199607336189475760842766333903816884786135044126184171406737695416855441990595567353758502540855459448729392160166735822709448742639753754827938647969777165285881897835654843719952795696376042771536185720498243563321667785224457403098005823571854678386014925925079665589588157001419811676568617070470736388921328423175403610247038897950606822889114708118599874956863859234643021526968376671783956023711195518079543547772004783277806244054249911761060565382536970982524664000504902986408730078142628870136996946852588805352897937546177655517035612134053130785384097726725233183415803864215846009838948763625071674147575016217116672
def awWW19 : Nat := 12476033876379748650436537811686148864650169717821233634667631623415207811960884945024517898715871574020027550093489051769548418171134821274920513549515140478862638069180048491552559957095824996440317656168211815369965710892195222708698798028209285364255035235236187862188991370824686725010892928052102469133662542797125237307713942418588383577982988740386013006205198292592449387550210041670239147036820172600261246171767469741424000776785940348331326553484035287009536226910552942548714239053502911871859294943975528946454618236776788566922262735891943201295035179778582041268310866494111820471643126924018548446903643565463626663731566652720921134291505633624577390916738753875896971631448248374760063101875530439110930496512631584018217281329277922422154948905444710492721573705186537844255819300149054534812158257328677086832786980305385145196707372512084324417156332013868319549470390933890934330208057030627987293580294145179648
def awR20 : Nat := 7412745584613033610608775555340358900878826493968658865353930112783895297132961341518001270969479798647063371004421280119483167999703005517106940041793961389077828127002033279541293359193376841648452516861983882541057491943369549189377774726982310077860135598956679505517380607698123510915165939101450656109474622135588565711087036776643034692452130234279010448393654750914713463978695793018529714996813490326130040046525906993256479393910342330968502543732998491949953181056229096425917635365716599252180985382980710745549110669425737415639324300565743578277649283417132473795124571348489503944045067477890405945002950656
def awW20 : Nat := 1058963654944719087229825079334336985839832356281236980764847158969127899590423048788285895852782828378151910143488754302783309714243286502443848577399137341296832589571719039934470479884768120235493216694569126077293927420481364169911110675283187153980019371279525643645340086814017644416452277014492950872782088876512652244441005253806147813207447176325572921199093535844959066282670827574075673570973355760875720006646558141893782770558620332995500363390428355992850454436604156632273947909388085607454426483282958677935587238489391059377046328652249082611092754773876067685017795906927071992006438211127200849286135808
def awRR20 : Nat := 13082107126060400460126094382040050290346010312543271343406150500049095192258132774768969173572526895148799071804480399941953434753608399335806503485524302865538131524944896216346674179932853872756786471765510405513236148624550049113343406602036223132670929509481682144520241092531265173286923426768948774661319199607336189475760842766333903816884786135044126184171406737695416855441990595567353758502540855459441621997451311575853266551042915716706169234977963627220931601605312737294978873556260053694087598235846457625425814345244077311287905556827138613004164193728878852069135854946463949906849759861877357674031881043724728181587066520916343596838602107736969294711441456891922532875052346707294345651450579067452490650992448633221943783628744986684600121883553275841745840138327540909797882985156070928168615087356761283214604708949864133623537044525061298065761676975450822020951809611922516457955445313289638973186822905794641526784
def awWW20 : Nat := 12476033876379748650436537811686148864650169717821233634667631623415207811960884945024517898715871574020027550093489051769548418171134821274920513549515140478862638069180048491552559957095824996440317656168211815369965710892195222708698798028209285364255035235236187862188991370824686725010892928052102469133662542797125237307713942418588383577982988740386013006205198292592449387550210041670239147036820171584919144906744616963867186530494933397087945124034043236398065866493760265251680033864595957023580741509601509302551398072898772110858120388285989741034864173174639690734995075426982559498963813622152497441148686644431909066514712137433780521861938326580982603001457709288733189542638337312145124083000092497840565450316694250586415094291674042288057544725283390966360763281758939483435116147048954317396502529999306979948645882870523433769409219261360749601853149741980857891442970691121212273974417889756774818627548205809664
def awR21 : Nat := 8283444720971718452521051115520927961090852491864003003092919882486324608249001970071093091800309567918201993254809759624055287605852146000149790502488049592870665488610408708593215812878399662959274738837204011270795228582236378347699677641833821989998499898984031309516415541835875618758988481831792831365920378066047581942656167419804439338113969875747260832372609774926808641378513416922941913013676519106095667044815470832147652990955991478454240437134915085720060660760597326212646170800097233721683898720140704247367544065509775962536044422440960409355039726384253580720195615666105563262841420042572551679613486652840087865786545057683786537996458350221695491358011731781627937219066582264642156928664862720
def awW21 : Nat := 552229648064781230168070074368061864072723499457600200206194658832421640549933464671406206120020637861213466216987317308270352507056809733343319366832536639524711032574027247239547720858559977530618315922480267418053015238815758556513311842788921465999899993265602087301094369455725041250599232122119522091061358537736505462843744494653629289207597991716484055491507318328453909425234227794862794200911767940406377802987698055476510199397066098563616029142327672381337377384039821747509744720006482248112259914676046949824502937700651730835736294829397360623669315092283572048013041044407037550856094669504836778640899110189339191052436337178919102533097223348113032757200782118775195814604438817642810461910990848
def awRR21 : Nat := 13082107126060400460126094382040050290346010312543271343406150500049095192258132774768969173572526895148799071804480399941953434753608399335806503485524302865538131524944896216346674179932853872756786471765510405513236148624550049113343406602036223132670929509481682144520241092531265173286923426768948774661319199607328776730176229732723295041329445776143247357677438078830062925329206700270220797161022854188472142198804248204848845270923432548706466229460856687179137640216234909167976840276718760334894221394198005108563830462703019819344536007637760838277181883651018716470179175440946569299151636350962191734930430387615253559451477955205256560061959073044517164477162446443528878124137633243315649858432049352455677160666318593175417876635488507290689779552584773298012841646377587728741653888730153292802898488104580297831623998204315022954111307109421973765195933397173172737534677138127391886606955809345593905708932499849638576128
def awWW21 : Nat := 12476033876379748650436537811686148864650169717821233634667631623415207811960884945024517898715871574020027550093489051769548418171134821274920513549515140478862638069180048491552559957095824996440317656168211815369965710892195222708698798028209285364255035235236187862188991370824686725010892928052102469133662541738161582362994855188763304243646002900553656724968217527745290418422310451247190358750924318802090766754834473475112883747185219153801442680185465837260724569661170693532640099394116072255460506016384814733425320778971351629493950477175314457847710193155268411209351430086895745481319397169875482948197813862343032553862467696428526715714125119133806277428536510195197344583572054641317550007326521524484804574596687604028273200508903483667724549224920000538004770431304502879278483873101044929310895075572823696989967947283284944378349842215032097352770538649226084015375285673325305346902425883318563691426698919673856
def awR22 : Nat := 105219854936995934452603354999743526492123976138019578171626308287266377352825361002150149122982412681270793814394624178303028364412874041971003374077995494366788354378169357104198997433067038911582235821091432765436669387989579287389161163006437822834444270025269910200235776071318075196382930259457989564199652461453757238378887501050487782387577687525573507239558317138980227132772406404630743067001686278852337378207853349376463358338002917272372662182513051519849066165863688366041566353454584791714421779377269000636078784010026997351223012869842174297591952940471986762448235910515398477414498900989214666309246892994167162044938007320079187313765664080559947323650948967931115247605104153584927342795882837036823940926221770001836357459432780523250483927628677894780735207148047069529524981965706941795480003697771073564223521347407061888083689472
def awW22 : Nat := 0
def awRR22 : Nat := 13082107126060400460126094382040050290346010312543271343406150500049095192258132774768969173572526895148799071804480399941953434753608399335806503485524302865538131524944896216346674179932853872756786471765510405513236148624541765668622434883583702081555408581520591292028377089528172253404437102160699772691248106515528467162258027739468485281705390488537395211677288288327574875736336034781610388452429638375593742535844973466011641259652637320124229851113157009537303818226236409268992808967202344793058345775439016626732037631337099441278488425695104670857377444312904746594431914608573959524224827709583678318007488474601577040345382288160441089229811420053561172998708206006393963038417572582555052532219403181655579926944634694455277172388120963225180003590048728875571881237022548002357400308009957677136792924841738877789051446524701536301271219243635428707512146859176714387312981646769380154825327872126527323444290342920973713408
def awWW22 : Nat := 12476033876379748650436537811686148864650169717821233634667631623415207811960884945024517898715871574020027550093489051769548418171134821274920513549515140478862638069180048491552559957095824996440317656168211815369965710339965574643917567860139210996193171162512688404588791164630027892589252378118637797727456421717523721149528638201445995973293495843743923381648850695208650893711277877219943119203203460242113236136518550994845465694169980338042886166873623048339258569761177427930552798299746616530419255417152692613903229717612813892988487633430819804218420985557276694725295938579577417027409971935647688085403612950575092147484664708730471239203925722067707713812507367867524963246194670601495802497581801518002556462336772927981323376005965783015993713488625171140644146761989410595706435860060000522273344219478154192153189306384174755039158789778694918433668005552002735902342528472543186571706611278879746048616237008683008
def awR23 : Nat := 37428101629139245951309613435058446593950509153463700904002894870245623435882654835073553696147614722060082650280467155308645254513404463824761540648545421436587914207540145474657679871287474989320952968504635446109897131019896723931752703580417632988579513487538065213766373493890083677767757134355913393182369265152571163448585914604337987919880487531231770144946552085625952681133833631659829357609610380726339708409555652984536397082509941014128658500620869145017775709283532283791658394899239849591257766251458077841709689152838441678965462900292459412655262956671830084175887815738732251082229915806943064256210838851725276442453994126191413717611777166203123141437522103602574889738584011804487407492745404554007669387010318783943970128017897349047981140465875513421932440285968231787119307580180001566820032658434462576459567919152524265117476369336084755301004016656008207707027585417629559715119833836639238145848711026049024
def awW23 : Nat := 12476033876379748650436537811686148864650169717821233634667631623415207811960884945024517898715871574020027550093489051769548418171134821274920513549515140478862638069180048491552559957095824996440317656168211815369965710339965574643917567860139210996193171162512688404588791164630027892589252378118637797727456421717523721149528638201445995973293495843743923381648850695208650893711277877219943119203203460242113236136518550994845465694169980338042886166873623048339258569761177427930552798299746616530419255417152692613903229717612813892988487633430819804218420985557276694725295938579577417027409971935647688085403612950575092147484664708730471239203925722067707713812507367867524963246194670601495802497581801518002556462336772927981323376005965783015993713488625171140644146761989410595706435860060000522273344219478154192153189306384174755039158789778694918433668005552002735902342528472543186571706611278879746048616237008683008
def awRR23 : Nat := 13082107126060400460126094382040050290346010312543271343406150500049095192258132774768863953717589899214346468449480656415461310777470379757634877177237036488185306163942746067223691767251583078942391847587207377148823274582570762294544439389216913727177239224416392294595310050616590017583345669395263103303258527228139305999251589916634041011680120578337159435605970213131191945476878045217410735990975881137214855034794485683624063572127063812884671533974176782404531411821605666201991122688350007414850492426062553268394034714064726779095975374175255604691513755946863180240977329816859537744847558708947599533997461477250354027475540113862849136289339433291112937088192807528979464137428357916245805639225236019610641919624555507141511508307561015901529054622117613627966777083437620659561517470973133736210571154839902520329618666001451052373642541348854693500364099789647189405347274704973900151127556798562303802096883281032890023936
def awWW23 : Nat := 12476033876379748650436537811686148864650169717821233634667631623415207811960884945024517898715871574020027550093489051769548418171134821274920513549515140478862638069180048491552559957095824996440317656168211815369965710339965574643917567860139210996193171162512688404588791164630027892589252378118637797727456421717523721149528638201445995973293495843743923381648850695208650893711277877219943119203203460242113236136518550994845465694169980338042886166873623048339258569761177427930552798299746616530419255417152692613903229717612813892988487633430819804218420985557276694725295938579577417027409971935647688085403612950575092147484664708730471239203925722067707713812507367867524963246194670601495802497581801518002556462336772927981323376005965783015993713488625171140644146761989410595706435860060000522273344219478154192153189306384174755039158789778694918433668005552002735902342528472543186571706611278879746048616237008683008
def awR24 : Nat := 13082069697958771320880143072426615231899416362034117879705246497154224946634696892114028880163893751599624408366830375948306002132215866353171052415696387942763869576028538527078217109571711791467402526634238872513377164685439742397820507636513333309544250644902904756530096284243096127499667901638128747389865344858874153428088141330719436673692200697849628203835825266579106319524196911383779076161618271526834128695086076127971079035729981302943657405315676161535386394045896382669707331029955108175000901168296301810316193004375573940654296408712355312232101100683906508410893153929043799012596476479031792590933205266411502302199097659868722944875621821513946733965051370006875861562538619332234001151817743274206087911955168496822727564337432998004180006640977147752453355150997334691329730351665553556209004334807244085867042206433531899849377423872485357415608798785630533397139567677388482521567841678728467162858737432321863974912
def awW24 : Nat := 0
def awRR24 : Nat := 13082069697958771320880143072426615231899416362034117879705246497154224946634696892114028880163893751599624408366830375948306002132215866353171052415696387942763869576028538527078217109571711791467402526634238872513377164685439742397820507636513333309544250644902904756530096284243096127499667901638128747389865344858874153428088141330719436673692200697849628203835825266579106319524196911383779076161618271526834128695086076127971079035729981302943657405315676161535386394045896382669707331029955108175000901168296301810316193004375573940654296408712355312232101100683906508410893153929043799012596476479031792590933205266411502302199097659868722944875621821513946733965051370006875861562538619332234001151817743274206087911955168496822727564337432998004180006640977147752453355150997334691329730351665553556209004334807244085867042206433531899849377423872485357415608798785630533397139567677388482521567841678728467162858737432321863974912
def awWW24 : Nat := 0
def awR25 : Nat := 0
def awW25 : Nat := 0
end Go.Proofs.YtgnmhapgciejfaaGreatDoor
end
section
set_option linter.all false
set_option maxRecDepth 1000000
open Go.RowKit
namespace Go.Proofs.YtgnmhapgciejfaaGreatDoor
open Mini

theorem root00 {a b c d : Int} (h : cn a b c d = 0) : Pl.parts a b 1073741824 = 0 := by
  have := cn0.1 h
  rw [parts_eq]
  unfold B4 at this
  split <;> omega

noncomputable def x_lNum : CallS := bothX (bothX (kAllT T0 [c_hTurn]) (kAll [c_hProd, c_hStr, c_hSign, c_rcheckCyclo, c_rcheckRoot, c_rrange, c_rproduct, c_rturned, c_rstrength, c_rsign])) (tabX awS0 30)
noncomputable def lNum_e0 (a b c d e f g k n : Int) : Option OutS := evFS Tryz.prog x_lNum 1000 4 #[.agg #[.int .i64 a, .int .i64 b, .int .i64 c, .int .i64 d], .agg #[.int .i64 e, .int .i64 f, .int .i64 g, .int .i64 k], .int .i64 n] awS0 ⟨[1, 0, 0, 1, 1, 0, 0, 1, 0, 0, 1, 1, 0, 0, 1, 1, 1, 1, 1, 1, 1, 1, 1, 1, 1, 1, 1, 1, 1, 1, 1, 1, 1, 1, 1, 1, 1, 1, 1, 1, 1, 1, 1, 1, 1, 1, 1, 1, 1], True⟩
noncomputable def lNum_e1 (a b c d e f g k n : Int) : Option OutS := evFS Tryz.prog x_lNum 1000 4 #[.agg #[.int .i64 a, .int .i64 b, .int .i64 c, .int .i64 d], .agg #[.int .i64 e, .int .i64 f, .int .i64 g, .int .i64 k], .int .i64 n] awS0 ⟨[1, 0, 0, 1, 1, 0, 0, 1, 0, 0, 1, 1, 1, 1, 1, 0, 1, 1, 1, 1, 1, 1, 1, 1, 1, 1, 1, 1, 1, 1, 1, 1, 1, 1, 1, 1, 1, 1, 1, 1, 1, 1, 1, 1, 1, 1, 1, 1, 1], True⟩
noncomputable def lNum_e2 (a b c d e f g k n : Int) : Option OutS := evFS Tryz.prog x_lNum 1000 4 #[.agg #[.int .i64 a, .int .i64 b, .int .i64 c, .int .i64 d], .agg #[.int .i64 e, .int .i64 f, .int .i64 g, .int .i64 k], .int .i64 n] awS0 ⟨[1, 0, 0, 1, 1, 1, 1, 1, 0, 0, 1, 1, 0, 0, 0, 1, 1, 1, 1, 1, 1, 1, 1, 1, 1, 1, 1, 1, 1, 1, 1, 1, 1, 1, 1, 1, 1, 1, 1, 1, 1, 1, 1, 1, 1, 1, 1, 1, 1], True⟩
noncomputable def lNum_e3 (a b c d e f g k n : Int) : Option OutS := evFS Tryz.prog x_lNum 1000 4 #[.agg #[.int .i64 a, .int .i64 b, .int .i64 c, .int .i64 d], .agg #[.int .i64 e, .int .i64 f, .int .i64 g, .int .i64 k], .int .i64 n] awS0 ⟨[1, 0, 0, 1, 1, 1, 1, 1, 0, 0, 1, 1, 1, 1, 0, 0, 1, 1, 1, 1, 1, 1, 1, 1, 1, 1, 1, 1, 1, 1, 1, 1, 1, 1, 1, 1, 1, 1, 1, 1, 1, 1, 1, 1, 1, 1, 1, 1, 1], True⟩
noncomputable def lNum_e4 (a b c d e f g k n : Int) : Option OutS := evFS Tryz.prog x_lNum 1000 4 #[.agg #[.int .i64 a, .int .i64 b, .int .i64 c, .int .i64 d], .agg #[.int .i64 e, .int .i64 f, .int .i64 g, .int .i64 k], .int .i64 n] awS0 ⟨[1, 0, 1, 0, 1, 0, 1, 0, 0, 0, 0, 1, 1, 1, 1, 1, 1, 1, 1, 1, 1, 1, 1, 1, 1, 1, 1, 1, 1, 1, 1, 1, 1, 1, 1, 1, 1, 1, 1, 1, 1, 1, 1], True⟩
noncomputable def lNum_e5 (a b c d e f g k n : Int) : Option OutS := evFS Tryz.prog x_lNum 1000 4 #[.agg #[.int .i64 a, .int .i64 b, .int .i64 c, .int .i64 d], .agg #[.int .i64 e, .int .i64 f, .int .i64 g, .int .i64 k], .int .i64 n] awS0 ⟨[1, 0, 1, 0, 1, 0, 1, 0, 0, 0, 0, 0, 1, 1, 1, 1, 1, 1, 1, 1, 1, 1, 1, 1, 1, 1, 1, 1, 1, 1, 1, 1, 1, 1, 1, 1, 1, 1, 1, 1, 1, 1, 1], True⟩
end Go.Proofs.YtgnmhapgciejfaaGreatDoor
end
section
set_option linter.all false
set_option maxRecDepth 1000000
set_option maxHeartbeats 2000000
open Go.RowKit
namespace Go.Proofs.YtgnmhapgciejfaaGreatDoor
open Mini

def range_val (n lo hi : Int) : Value := .int .i64 (Pl.cr n lo hi)
theorem range_X : FOkS Tryz.prog x_range := noXS_ok
theorem range_args (n lo hi : Int) : (#[.int .i64 n, .int .i64 lo, .int .i64 hi] : Array Value).toList.all (ground 8) = true := by kernel_rfl
def range_c0 (n lo hi : Int) : Bool := (decide (n < lo))
theorem range_g1 : (true = true) := by first | rfl | trivial | decide | omega
def range_c1 (n lo hi : Int) : Bool := (decide (n > hi))
def range_w0 (n lo hi : Int) : Value := .int .i64 (3 : Int)
def range_r0 (n lo hi : Int) : Prop := (((((True ∧ (range_c0 n lo hi = true)) ∧ (range_c0 n lo hi = true)) ∧ (range_c0 n lo hi = true)) ∧ (range_c0 n lo hi = true)) ∧ ((true = true)))
theorem range_o0 (n lo hi : Int) : obOf (range_e0 n lo hi) = range_r0 n lo hi := by kernel_rfl
theorem range_v0 (n lo hi : Int) : resOf (range_e0 n lo hi) = range_w0 n lo hi := by kernel_rfl
theorem range_k0 (n lo hi : Int) : cleanOf Tryz.prog.globals.size (range_e0 n lo hi) = true := by kernel_rfl
theorem range_q0 (n lo hi : Int) : range_e0 n lo hi = evFS Tryz.prog x_range 1000 72 #[.int .i64 n, .int .i64 lo, .int .i64 hi] (noTabs 7) ⟨[0, 0, 0, 1, 1], True⟩ := by
  delta range_e0
  exact Eq.refl _
theorem range_p0 (n lo hi : Int) (h : range_r0 n lo hi) (w : World) : Calls Tryz.prog 72 #[.int .i64 n, .int .i64 lo, .int .i64 hi] w fun en w' => en = .returned (range_w0 n lo hi) ∧ Below w.heap.size w w' := by
  have hv := range_v0 n lo hi
  have hc := range_k0 n lo hi
  have he := range_q0 n lo hi
  have ho := range_o0 n lo hi
  generalize range_e0 n lo hi = r at *
  exact calls_way he gfol range_X hv rfl (range_args n lo hi) hc ho h (bl w)
def range_w1 (n lo hi : Int) : Value := .int .i64 (0 : Int)
def range_r1 (n lo hi : Int) : Prop := (((((True ∧ (range_c0 n lo hi = false)) ∧ (range_c0 n lo hi = false)) ∧ (range_c0 n lo hi = false)) ∧ (range_c0 n lo hi = false)) ∧ (range_c1 n lo hi = false))
theorem range_o1 (n lo hi : Int) : obOf (range_e1 n lo hi) = range_r1 n lo hi := by kernel_rfl
theorem range_v1 (n lo hi : Int) : resOf (range_e1 n lo hi) = range_w1 n lo hi := by kernel_rfl
theorem range_k1 (n lo hi : Int) : cleanOf Tryz.prog.globals.size (range_e1 n lo hi) = true := by kernel_rfl
theorem range_q1 (n lo hi : Int) : range_e1 n lo hi = evFS Tryz.prog x_range 1000 72 #[.int .i64 n, .int .i64 lo, .int .i64 hi] (noTabs 7) ⟨[1, 1, 1, 0, 0], True⟩ := by
  delta range_e1
  exact Eq.refl _
theorem range_p1 (n lo hi : Int) (h : range_r1 n lo hi) (w : World) : Calls Tryz.prog 72 #[.int .i64 n, .int .i64 lo, .int .i64 hi] w fun en w' => en = .returned (range_w1 n lo hi) ∧ Below w.heap.size w w' := by
  have hv := range_v1 n lo hi
  have hc := range_k1 n lo hi
  have he := range_q1 n lo hi
  have ho := range_o1 n lo hi
  generalize range_e1 n lo hi = r at *
  exact calls_way he gfol range_X hv rfl (range_args n lo hi) hc ho h (bl w)
def range_w2 (n lo hi : Int) : Value := .int .i64 (3 : Int)
def range_r2 (n lo hi : Int) : Prop := (((((True ∧ (range_c0 n lo hi = false)) ∧ (range_c0 n lo hi = false)) ∧ (range_c0 n lo hi = false)) ∧ (range_c0 n lo hi = false)) ∧ (range_c1 n lo hi = true))
theorem range_o2 (n lo hi : Int) : obOf (range_e2 n lo hi) = range_r2 n lo hi := by kernel_rfl
theorem range_v2 (n lo hi : Int) : resOf (range_e2 n lo hi) = range_w2 n lo hi := by kernel_rfl
theorem range_k2 (n lo hi : Int) : cleanOf Tryz.prog.globals.size (range_e2 n lo hi) = true := by kernel_rfl
theorem range_q2 (n lo hi : Int) : range_e2 n lo hi = evFS Tryz.prog x_range 1000 72 #[.int .i64 n, .int .i64 lo, .int .i64 hi] (noTabs 7) ⟨[1, 1, 1, 0, 1], True⟩ := by
  delta range_e2
  exact Eq.refl _
theorem range_p2 (n lo hi : Int) (h : range_r2 n lo hi) (w : World) : Calls Tryz.prog 72 #[.int .i64 n, .int .i64 lo, .int .i64 hi] w fun en w' => en = .returned (range_w2 n lo hi) ∧ Below w.heap.size w w' := by
  have hv := range_v2 n lo hi
  have hc := range_k2 n lo hi
  have he := range_q2 n lo hi
  have ho := range_o2 n lo hi
  generalize range_e2 n lo hi = r at *
  exact calls_way he gfol range_X hv rfl (range_args n lo hi) hc ho h (bl w)
theorem range_any (n lo hi : Int) (hpre : True) (w : World) : Calls Tryz.prog 72 #[.int .i64 n, .int .i64 lo, .int .i64 hi] w fun en w' => en = .returned (range_val n lo hi) ∧ Below w.heap.size w w' := by
  rcases Bool.eq_false_or_eq_true (range_c0 n lo hi) with h0 | h0
  ·
    unfold range_c0 at h0
    have hp := range_p0 n lo hi ⟨⟨⟨⟨⟨trivial, h0⟩, h0⟩, h0⟩, h0⟩, range_g1⟩ w
    have hv : range_w0 n lo hi = (range_val n lo hi) := by
      clear hp
      unfold range_w0 range_val
      first | rfl | ((try simp only [bne_iff_ne, ne_eq, decide_eq_true_eq, decide_eq_false_iff_not, Bool.not_eq_true', Bool.not_eq_false', beq_iff_eq, beq_eq_false_iff_ne, bne_eq_false_iff_eq, Bool.and_eq_true, Bool.not_eq_true, Bool.not_eq_false, Pl.cr, parts_eq, cn, two, cz] at *); grind)
    exact hv ▸ hp
  ·
    unfold range_c0 at h0
    rcases Bool.eq_false_or_eq_true (range_c1 n lo hi) with h1 | h1
    ·
      unfold range_c1 at h1
      have hp := range_p2 n lo hi ⟨⟨⟨⟨⟨trivial, h0⟩, h0⟩, h0⟩, h0⟩, h1⟩ w
      have hv : range_w2 n lo hi = (range_val n lo hi) := by
        clear hp
        unfold range_w2 range_val
        first | rfl | ((try simp only [bne_iff_ne, ne_eq, decide_eq_true_eq, decide_eq_false_iff_not, Bool.not_eq_true', Bool.not_eq_false', beq_iff_eq, beq_eq_false_iff_ne, bne_eq_false_iff_eq, Bool.and_eq_true, Bool.not_eq_true, Bool.not_eq_false, Pl.cr, parts_eq, cn, two, cz] at *); grind)
      exact hv ▸ hp
    ·
      unfold range_c1 at h1
      have hp := range_p1 n lo hi ⟨⟨⟨⟨⟨trivial, h0⟩, h0⟩, h0⟩, h0⟩, h1⟩ w
      have hv : range_w1 n lo hi = (range_val n lo hi) := by
        clear hp
        unfold range_w1 range_val
        first | rfl | ((try simp only [bne_iff_ne, ne_eq, decide_eq_true_eq, decide_eq_false_iff_not, Bool.not_eq_true', Bool.not_eq_false', beq_iff_eq, beq_eq_false_iff_ne, bne_eq_false_iff_eq, Bool.and_eq_true, Bool.not_eq_true, Bool.not_eq_false, Pl.cr, parts_eq, cn, two, cz] at *); grind)
      exact hv ▸ hp
theorem k_range : ConOk Tryz.prog c_range := fun ns hl => by
  have hl0 : ns.length = 3 := hl
  clear hl
  obtain ⟨n, ns0, rfl, hl1⟩ := len_cons hl0
  obtain ⟨lo, ns1, rfl, hl2⟩ := len_cons hl1
  obtain ⟨hi, ns2, rfl, hl3⟩ := len_cons hl2
  obtain rfl := len_nil hl3
  exact ⟨rfl, fun h w => range_any n lo hi h w⟩
end Go.Proofs.YtgnmhapgciejfaaGreatDoor
end
section
set_option linter.all false
set_option maxRecDepth 1000000
set_option maxHeartbeats 2000000
open Go.RowKit
namespace Go.Proofs.YtgnmhapgciejfaaGreatDoor
open Mini

def checkEisen_val (a b : Int) : Value := .int .i64 (Pl.parts a b 1048576)
theorem checkEisen_X : FOkS Tryz.prog x_checkEisen := kAll_ok _ ⟨k_range, trivial⟩
theorem checkEisen_args (a b : Int) : (#[.agg #[.int .i64 a, .int .i64 b]] : Array Value).toList.all (ground 8) = true := by kernel_rfl
theorem checkEisen_g0 : True := by first | rfl | trivial | decide | omega
theorem checkEisen_g1 : (true = true) := by first | rfl | trivial | decide | omega
theorem checkEisen_g2 : ((0 : Int) = (0 : Int)) := by first | rfl | trivial | decide | omega
def checkEisen_c0 (a b : Int) : Bool := ((Pl.cr a (-1048576 : Int) (1048576 : Int)) != (0 : Int))
theorem checkEisen_g4 : ((1 : Int) = (1 : Int)) := by first | rfl | trivial | decide | omega
def checkEisen_c1 (a b : Int) : Bool := ((Pl.cr b (-1048576 : Int) (1048576 : Int)) != (0 : Int))
theorem checkEisen_g6 : (false = false) := by first | rfl | trivial | decide | omega
def checkEisen_w0 (a b : Int) : Value := .int .i64 (0 : Int)
def checkEisen_r0 (a b : Int) : Prop := (((((((((True ∧ (True)) ∧ (True)) ∧ ((true = true))) ∧ (((0 : Int) = (0 : Int)))) ∧ (checkEisen_c0 a b = false)) ∧ ((true = true))) ∧ (((1 : Int) = (1 : Int)))) ∧ (checkEisen_c1 a b = false)) ∧ ((false = false)))
theorem checkEisen_o0 (a b : Int) : obOf (checkEisen_e0 a b) = checkEisen_r0 a b := by kernel_rfl
theorem checkEisen_v0 (a b : Int) : resOf (checkEisen_e0 a b) = checkEisen_w0 a b := by kernel_rfl
theorem checkEisen_k0 (a b : Int) : cleanOf Tryz.prog.globals.size (checkEisen_e0 a b) = true := by kernel_rfl
theorem checkEisen_q0 (a b : Int) : checkEisen_e0 a b = evFS Tryz.prog x_checkEisen 1000 134 #[.agg #[.int .i64 a, .int .i64 b]] (noTabs 7) ⟨[1, 0, 0, 1, 1, 0, 0], True⟩ := by
  delta checkEisen_e0
  exact Eq.refl _
theorem checkEisen_p0 (a b : Int) (h : checkEisen_r0 a b) (w : World) : Calls Tryz.prog 134 #[.agg #[.int .i64 a, .int .i64 b]] w fun en w' => en = .returned (checkEisen_w0 a b) ∧ Below w.heap.size w w' := by
  have hv := checkEisen_v0 a b
  have hc := checkEisen_k0 a b
  have he := checkEisen_q0 a b
  have ho := checkEisen_o0 a b
  generalize checkEisen_e0 a b = r at *
  exact calls_way he gfol checkEisen_X hv rfl (checkEisen_args a b) hc ho h (bl w)
def checkEisen_w1 (a b : Int) : Value := .int .i64 (Pl.cr a (-1048576 : Int) (1048576 : Int))
def checkEisen_r1 (a b : Int) : Prop := (((((True ∧ (True)) ∧ (True)) ∧ ((true = true))) ∧ (((0 : Int) = (0 : Int)))) ∧ (checkEisen_c0 a b = true))
theorem checkEisen_o1 (a b : Int) : obOf (checkEisen_e1 a b) = checkEisen_r1 a b := by kernel_rfl
theorem checkEisen_v1 (a b : Int) : resOf (checkEisen_e1 a b) = checkEisen_w1 a b := by kernel_rfl
theorem checkEisen_k1 (a b : Int) : cleanOf Tryz.prog.globals.size (checkEisen_e1 a b) = true := by kernel_rfl
theorem checkEisen_q1 (a b : Int) : checkEisen_e1 a b = evFS Tryz.prog x_checkEisen 1000 134 #[.agg #[.int .i64 a, .int .i64 b]] (noTabs 7) ⟨[1, 0, 1], True⟩ := by
  delta checkEisen_e1
  exact Eq.refl _
theorem checkEisen_p1 (a b : Int) (h : checkEisen_r1 a b) (w : World) : Calls Tryz.prog 134 #[.agg #[.int .i64 a, .int .i64 b]] w fun en w' => en = .returned (checkEisen_w1 a b) ∧ Below w.heap.size w w' := by
  have hv := checkEisen_v1 a b
  have hc := checkEisen_k1 a b
  have he := checkEisen_q1 a b
  have ho := checkEisen_o1 a b
  generalize checkEisen_e1 a b = r at *
  exact calls_way he gfol checkEisen_X hv rfl (checkEisen_args a b) hc ho h (bl w)
def checkEisen_w2 (a b : Int) : Value := .int .i64 (Pl.cr b (-1048576 : Int) (1048576 : Int))
def checkEisen_r2 (a b : Int) : Prop := ((((((((True ∧ (True)) ∧ (True)) ∧ ((true = true))) ∧ (((0 : Int) = (0 : Int)))) ∧ (checkEisen_c0 a b = false)) ∧ ((true = true))) ∧ (((1 : Int) = (1 : Int)))) ∧ (checkEisen_c1 a b = true))
theorem checkEisen_o2 (a b : Int) : obOf (checkEisen_e2 a b) = checkEisen_r2 a b := by kernel_rfl
theorem checkEisen_v2 (a b : Int) : resOf (checkEisen_e2 a b) = checkEisen_w2 a b := by kernel_rfl
theorem checkEisen_k2 (a b : Int) : cleanOf Tryz.prog.globals.size (checkEisen_e2 a b) = true := by kernel_rfl
theorem checkEisen_q2 (a b : Int) : checkEisen_e2 a b = evFS Tryz.prog x_checkEisen 1000 134 #[.agg #[.int .i64 a, .int .i64 b]] (noTabs 7) ⟨[1, 0, 0, 1, 1, 1], True⟩ := by
  delta checkEisen_e2
  exact Eq.refl _
theorem checkEisen_p2 (a b : Int) (h : checkEisen_r2 a b) (w : World) : Calls Tryz.prog 134 #[.agg #[.int .i64 a, .int .i64 b]] w fun en w' => en = .returned (checkEisen_w2 a b) ∧ Below w.heap.size w w' := by
  have hv := checkEisen_v2 a b
  have hc := checkEisen_k2 a b
  have he := checkEisen_q2 a b
  have ho := checkEisen_o2 a b
  generalize checkEisen_e2 a b = r at *
  exact calls_way he gfol checkEisen_X hv rfl (checkEisen_args a b) hc ho h (bl w)
theorem checkEisen_any (a b : Int) (hpre : True) (w : World) : Calls Tryz.prog 134 #[.agg #[.int .i64 a, .int .i64 b]] w fun en w' => en = .returned (checkEisen_val a b) ∧ Below w.heap.size w w' := by
  rcases Bool.eq_false_or_eq_true (checkEisen_c0 a b) with h0 | h0
  ·
    unfold checkEisen_c0 at h0
    have hp := checkEisen_p1 a b ⟨⟨⟨⟨⟨trivial, checkEisen_g0⟩, checkEisen_g0⟩, checkEisen_g1⟩, checkEisen_g2⟩, h0⟩ w
    have hv : checkEisen_w1 a b = (checkEisen_val a b) := by
      clear hp
      unfold checkEisen_w1 checkEisen_val
      first | rfl | ((try simp only [bne_iff_ne, ne_eq, decide_eq_true_eq, decide_eq_false_iff_not, Bool.not_eq_true', Bool.not_eq_false', beq_iff_eq, beq_eq_false_iff_ne, bne_eq_false_iff_eq, Bool.and_eq_true, Bool.not_eq_true, Bool.not_eq_false, Pl.cr, parts_eq, cn, two, cz] at *); grind)
    exact hv ▸ hp
  ·
    unfold checkEisen_c0 at h0
    rcases Bool.eq_false_or_eq_true (checkEisen_c1 a b) with h1 | h1
    ·
      unfold checkEisen_c1 at h1
      have hp := checkEisen_p2 a b ⟨⟨⟨⟨⟨⟨⟨⟨trivial, checkEisen_g0⟩, checkEisen_g0⟩, checkEisen_g1⟩, checkEisen_g2⟩, h0⟩, checkEisen_g1⟩, checkEisen_g4⟩, h1⟩ w
      have hv : checkEisen_w2 a b = (checkEisen_val a b) := by
        clear hp
        unfold checkEisen_w2 checkEisen_val
        first | rfl | ((try simp only [bne_iff_ne, ne_eq, decide_eq_true_eq, decide_eq_false_iff_not, Bool.not_eq_true', Bool.not_eq_false', beq_iff_eq, beq_eq_false_iff_ne, bne_eq_false_iff_eq, Bool.and_eq_true, Bool.not_eq_true, Bool.not_eq_false, Pl.cr, parts_eq, cn, two, cz] at *); grind)
      exact hv ▸ hp
    ·
      unfold checkEisen_c1 at h1
      have hp := checkEisen_p0 a b ⟨⟨⟨⟨⟨⟨⟨⟨⟨trivial, checkEisen_g0⟩, checkEisen_g0⟩, checkEisen_g1⟩, checkEisen_g2⟩, h0⟩, checkEisen_g1⟩, checkEisen_g4⟩, h1⟩, checkEisen_g6⟩ w
      have hv : checkEisen_w0 a b = (checkEisen_val a b) := by
        clear hp
        unfold checkEisen_w0 checkEisen_val
        first | rfl | ((try simp only [bne_iff_ne, ne_eq, decide_eq_true_eq, decide_eq_false_iff_not, Bool.not_eq_true', Bool.not_eq_false', beq_iff_eq, beq_eq_false_iff_ne, bne_eq_false_iff_eq, Bool.and_eq_true, Bool.not_eq_true, Bool.not_eq_false, Pl.cr, parts_eq, cn, two, cz] at *); grind)
      exact hv ▸ hp
theorem k_checkEisen : ConOk Tryz.prog c_checkEisen := fun ns hl => by
  have hl0 : ns.length = 2 := hl
  clear hl
  obtain ⟨a, ns0, rfl, hl1⟩ := len_cons hl0
  obtain ⟨b, ns1, rfl, hl2⟩ := len_cons hl1
  obtain rfl := len_nil hl2
  exact ⟨rfl, fun h w => checkEisen_any a b h w⟩
end Go.Proofs.YtgnmhapgciejfaaGreatDoor
end
section
set_option linter.all false
set_option maxRecDepth 1000000
set_option maxHeartbeats 2000000
open Go.RowKit
namespace Go.Proofs.YtgnmhapgciejfaaGreatDoor
open Mini

def checkNumber_val (a b c d : Int) : Value := .int .i64 (cn a b c d)
theorem checkNumber_X : FOkS Tryz.prog x_checkNumber := kAll_ok _ ⟨k_checkEisen, trivial⟩
theorem checkNumber_args (a b c d : Int) : (#[.agg #[.int .i64 a, .int .i64 b, .int .i64 c, .int .i64 d]] : Array Value).toList.all (ground 8) = true := by kernel_rfl
theorem checkNumber_g0 : True := by first | rfl | trivial | decide | omega
theorem checkNumber_g1 : (true = true) := by first | rfl | trivial | decide | omega
theorem checkNumber_g2 : ((0 : Int) = (0 : Int)) := by first | rfl | trivial | decide | omega
def checkNumber_c0 (a b c d : Int) : Bool := ((Pl.parts a b (1048576 : Int)) != (0 : Int))
theorem checkNumber_g4 : ((1 : Int) = (1 : Int)) := by first | rfl | trivial | decide | omega
def checkNumber_c1 (a b c d : Int) : Bool := ((Pl.parts c d (1048576 : Int)) != (0 : Int))
theorem checkNumber_g7 : (false = false) := by first | rfl | trivial | decide | omega
def checkNumber_w0 (a b c d : Int) : Value := .int .i64 (Pl.parts c d (1048576 : Int))
def checkNumber_r0 (a b c d : Int) : Prop := ((((((((True ∧ (True)) ∧ (True)) ∧ ((true = true))) ∧ (((0 : Int) = (0 : Int)))) ∧ (checkNumber_c0 a b c d = false)) ∧ ((true = true))) ∧ (((1 : Int) = (1 : Int)))) ∧ (checkNumber_c1 a b c d = true))
theorem checkNumber_o0 (a b c d : Int) : obOf (checkNumber_e0 a b c d) = checkNumber_r0 a b c d := by kernel_rfl
theorem checkNumber_v0 (a b c d : Int) : resOf (checkNumber_e0 a b c d) = checkNumber_w0 a b c d := by kernel_rfl
theorem checkNumber_k0 (a b c d : Int) : cleanOf Tryz.prog.globals.size (checkNumber_e0 a b c d) = true := by kernel_rfl
theorem checkNumber_q0 (a b c d : Int) : checkNumber_e0 a b c d = evFS Tryz.prog x_checkNumber 1000 67 #[.agg #[.int .i64 a, .int .i64 b, .int .i64 c, .int .i64 d]] (noTabs 7) ⟨[1, 0, 0, 1, 1, 1], True⟩ := by
  delta checkNumber_e0
  exact Eq.refl _
theorem checkNumber_p0 (a b c d : Int) (h : checkNumber_r0 a b c d) (w : World) : Calls Tryz.prog 67 #[.agg #[.int .i64 a, .int .i64 b, .int .i64 c, .int .i64 d]] w fun en w' => en = .returned (checkNumber_w0 a b c d) ∧ Below w.heap.size w w' := by
  have hv := checkNumber_v0 a b c d
  have hc := checkNumber_k0 a b c d
  have he := checkNumber_q0 a b c d
  have ho := checkNumber_o0 a b c d
  generalize checkNumber_e0 a b c d = r at *
  exact calls_way he gfol checkNumber_X hv rfl (checkNumber_args a b c d) hc ho h (bl w)
def checkNumber_w1 (a b c d : Int) : Value := .int .i64 (0 : Int)
def checkNumber_r1 (a b c d : Int) : Prop := (((((((((True ∧ (True)) ∧ (True)) ∧ ((true = true))) ∧ (((0 : Int) = (0 : Int)))) ∧ (checkNumber_c0 a b c d = false)) ∧ ((true = true))) ∧ (((1 : Int) = (1 : Int)))) ∧ (checkNumber_c1 a b c d = false)) ∧ ((false = false)))
theorem checkNumber_o1 (a b c d : Int) : obOf (checkNumber_e1 a b c d) = checkNumber_r1 a b c d := by kernel_rfl
theorem checkNumber_v1 (a b c d : Int) : resOf (checkNumber_e1 a b c d) = checkNumber_w1 a b c d := by kernel_rfl
theorem checkNumber_k1 (a b c d : Int) : cleanOf Tryz.prog.globals.size (checkNumber_e1 a b c d) = true := by kernel_rfl
theorem checkNumber_q1 (a b c d : Int) : checkNumber_e1 a b c d = evFS Tryz.prog x_checkNumber 1000 67 #[.agg #[.int .i64 a, .int .i64 b, .int .i64 c, .int .i64 d]] (noTabs 7) ⟨[1, 0, 0, 1, 1, 0, 0], True⟩ := by
  delta checkNumber_e1
  exact Eq.refl _
theorem checkNumber_p1 (a b c d : Int) (h : checkNumber_r1 a b c d) (w : World) : Calls Tryz.prog 67 #[.agg #[.int .i64 a, .int .i64 b, .int .i64 c, .int .i64 d]] w fun en w' => en = .returned (checkNumber_w1 a b c d) ∧ Below w.heap.size w w' := by
  have hv := checkNumber_v1 a b c d
  have hc := checkNumber_k1 a b c d
  have he := checkNumber_q1 a b c d
  have ho := checkNumber_o1 a b c d
  generalize checkNumber_e1 a b c d = r at *
  exact calls_way he gfol checkNumber_X hv rfl (checkNumber_args a b c d) hc ho h (bl w)
def checkNumber_w2 (a b c d : Int) : Value := .int .i64 (Pl.parts a b (1048576 : Int))
def checkNumber_r2 (a b c d : Int) : Prop := (((((True ∧ (True)) ∧ (True)) ∧ ((true = true))) ∧ (((0 : Int) = (0 : Int)))) ∧ (checkNumber_c0 a b c d = true))
theorem checkNumber_o2 (a b c d : Int) : obOf (checkNumber_e2 a b c d) = checkNumber_r2 a b c d := by kernel_rfl
theorem checkNumber_v2 (a b c d : Int) : resOf (checkNumber_e2 a b c d) = checkNumber_w2 a b c d := by kernel_rfl
theorem checkNumber_k2 (a b c d : Int) : cleanOf Tryz.prog.globals.size (checkNumber_e2 a b c d) = true := by kernel_rfl
theorem checkNumber_q2 (a b c d : Int) : checkNumber_e2 a b c d = evFS Tryz.prog x_checkNumber 1000 67 #[.agg #[.int .i64 a, .int .i64 b, .int .i64 c, .int .i64 d]] (noTabs 7) ⟨[1, 0, 1], True⟩ := by
  delta checkNumber_e2
  exact Eq.refl _
theorem checkNumber_p2 (a b c d : Int) (h : checkNumber_r2 a b c d) (w : World) : Calls Tryz.prog 67 #[.agg #[.int .i64 a, .int .i64 b, .int .i64 c, .int .i64 d]] w fun en w' => en = .returned (checkNumber_w2 a b c d) ∧ Below w.heap.size w w' := by
  have hv := checkNumber_v2 a b c d
  have hc := checkNumber_k2 a b c d
  have he := checkNumber_q2 a b c d
  have ho := checkNumber_o2 a b c d
  generalize checkNumber_e2 a b c d = r at *
  exact calls_way he gfol checkNumber_X hv rfl (checkNumber_args a b c d) hc ho h (bl w)
theorem checkNumber_any (a b c d : Int) (hpre : True) (w : World) : Calls Tryz.prog 67 #[.agg #[.int .i64 a, .int .i64 b, .int .i64 c, .int .i64 d]] w fun en w' => en = .returned (checkNumber_val a b c d) ∧ Below w.heap.size w w' := by
  rcases Bool.eq_false_or_eq_true (checkNumber_c0 a b c d) with h0 | h0
  ·
    unfold checkNumber_c0 at h0
    have hp := checkNumber_p2 a b c d ⟨⟨⟨⟨⟨trivial, checkNumber_g0⟩, checkNumber_g0⟩, checkNumber_g1⟩, checkNumber_g2⟩, h0⟩ w
    have hv : checkNumber_w2 a b c d = (checkNumber_val a b c d) := by
      clear hp
      unfold checkNumber_w2 checkNumber_val
      first | rfl | ((try simp only [bne_iff_ne, ne_eq, decide_eq_true_eq, decide_eq_false_iff_not, Bool.not_eq_true', Bool.not_eq_false', beq_iff_eq, beq_eq_false_iff_ne, bne_eq_false_iff_eq, Bool.and_eq_true, Bool.not_eq_true, Bool.not_eq_false, Pl.cr, parts_eq, cn, two, cz] at *); grind)
    exact hv ▸ hp
  ·
    unfold checkNumber_c0 at h0
    rcases Bool.eq_false_or_eq_true (checkNumber_c1 a b c d) with h1 | h1
    ·
      unfold checkNumber_c1 at h1
      have hp := checkNumber_p0 a b c d ⟨⟨⟨⟨⟨⟨⟨⟨trivial, checkNumber_g0⟩, checkNumber_g0⟩, checkNumber_g1⟩, checkNumber_g2⟩, h0⟩, checkNumber_g1⟩, checkNumber_g4⟩, h1⟩ w
      have hv : checkNumber_w0 a b c d = (checkNumber_val a b c d) := by
        clear hp
        unfold checkNumber_w0 checkNumber_val
        first | rfl | ((try simp only [bne_iff_ne, ne_eq, decide_eq_true_eq, decide_eq_false_iff_not, Bool.not_eq_true', Bool.not_eq_false', beq_iff_eq, beq_eq_false_iff_ne, bne_eq_false_iff_eq, Bool.and_eq_true, Bool.not_eq_true, Bool.not_eq_false, Pl.cr, parts_eq, cn, two, cz] at *); grind)
      exact hv ▸ hp
    ·
      unfold checkNumber_c1 at h1
      have hp := checkNumber_p1 a b c d ⟨⟨⟨⟨⟨⟨⟨⟨⟨trivial, checkNumber_g0⟩, checkNumber_g0⟩, checkNumber_g1⟩, checkNumber_g2⟩, h0⟩, checkNumber_g1⟩, checkNumber_g4⟩, h1⟩, checkNumber_g7⟩ w
      have hv : checkNumber_w1 a b c d = (checkNumber_val a b c d) := by
        clear hp
        unfold checkNumber_w1 checkNumber_val
        first | rfl | ((try simp only [bne_iff_ne, ne_eq, decide_eq_true_eq, decide_eq_false_iff_not, Bool.not_eq_true', Bool.not_eq_false', beq_iff_eq, beq_eq_false_iff_ne, bne_eq_false_iff_eq, Bool.and_eq_true, Bool.not_eq_true, Bool.not_eq_false, Pl.cr, parts_eq, cn, two, cz] at *); grind)
      exact hv ▸ hp
theorem k_checkNumber : ConOk Tryz.prog c_checkNumber := fun ns hl => by
  have hl0 : ns.length = 4 := hl
  clear hl
  obtain ⟨a, ns0, rfl, hl1⟩ := len_cons hl0
  obtain ⟨b, ns1, rfl, hl2⟩ := len_cons hl1
  obtain ⟨c, ns2, rfl, hl3⟩ := len_cons hl2
  obtain ⟨d, ns3, rfl, hl4⟩ := len_cons hl3
  obtain rfl := len_nil hl4
  exact ⟨rfl, fun h w => checkNumber_any a b c d h w⟩
end Go.Proofs.YtgnmhapgciejfaaGreatDoor
end
section
set_option linter.all false
set_option maxRecDepth 1000000
set_option maxHeartbeats 2000000
open Go.RowKit
namespace Go.Proofs.YtgnmhapgciejfaaGreatDoor
open Mini

def hProd_val (a b c d e f g k : Int) : Value := .tuple #[.agg #[.int .i64 (cz (two (cn a b c d) (cn e f g k)) (p1 a b c d e f g k)), .int .i64 (cz (two (cn a b c d) (cn e f g k)) (p2 a b c d e f g k)), .int .i64 (cz (two (cn a b c d) (cn e f g k)) (p3 a b c d e f g k)), .int .i64 (cz (two (cn a b c d) (cn e f g k)) (p4 a b c d e f g k))], .int .i64 (two (cn a b c d) (cn e f g k))]
theorem hProd_X : FOkS Tryz.prog x_hProd := kAll_ok _ ⟨k_checkNumber, k_product, trivial⟩
theorem hProd_args (a b c d e f g k : Int) : (#[.agg #[.int .i64 a, .int .i64 b, .int .i64 c, .int .i64 d], .agg #[.int .i64 e, .int .i64 f, .int .i64 g, .int .i64 k]] : Array Value).toList.all (ground 8) = true := by kernel_rfl
theorem hProd_g0 : True := by first | rfl | trivial | decide | omega
theorem hProd_g1 : (true = true) := by first | rfl | trivial | decide | omega
theorem hProd_g2 : ((0 : Int) = (0 : Int)) := by first | rfl | trivial | decide | omega
def hProd_c0 (a b c d e f g k : Int) : Bool := ((cn a b c d) != (0 : Int))
theorem hProd_g4 : ((1 : Int) = (1 : Int)) := by first | rfl | trivial | decide | omega
def hProd_c1 (a b c d e f g k : Int) : Bool := ((cn e f g k) != (0 : Int))
theorem hProd_g6 : (false = false) := by first | rfl | trivial | decide | omega
def hProd_b7 (a b c d e f g k : Int) : Prop := ((B4 (16777216 : Int) a b c d) ∧ (B4 (1048576 : Int) e f g k))
def hProd_w0 (a b c d e f g k : Int) : Value := .tuple #[.agg #[.int .i64 (p1 a b c d e f g k), .int .i64 (p2 a b c d e f g k), .int .i64 (p3 a b c d e f g k), .int .i64 (p4 a b c d e f g k)], .int .i64 (0 : Int)]
def hProd_r0 (a b c d e f g k : Int) : Prop := (((((((((((True ∧ (True)) ∧ (True)) ∧ ((true = true))) ∧ (((0 : Int) = (0 : Int)))) ∧ (hProd_c0 a b c d e f g k = false)) ∧ ((true = true))) ∧ (((1 : Int) = (1 : Int)))) ∧ (hProd_c1 a b c d e f g k = false)) ∧ ((false = false))) ∧ ((false = false))) ∧ (hProd_b7 a b c d e f g k))
theorem hProd_o0 (a b c d e f g k : Int) : obOf (hProd_e0 a b c d e f g k) = hProd_r0 a b c d e f g k := by kernel_rfl
theorem hProd_v0 (a b c d e f g k : Int) : resOf (hProd_e0 a b c d e f g k) = hProd_w0 a b c d e f g k := by kernel_rfl
theorem hProd_k0 (a b c d e f g k : Int) : cleanOf Tryz.prog.globals.size (hProd_e0 a b c d e f g k) = true := by kernel_rfl
theorem hProd_q0 (a b c d e f g k : Int) : hProd_e0 a b c d e f g k = evFS Tryz.prog x_hProd 1000 18 #[.agg #[.int .i64 a, .int .i64 b, .int .i64 c, .int .i64 d], .agg #[.int .i64 e, .int .i64 f, .int .i64 g, .int .i64 k]] (noTabs 7) ⟨[1, 0, 0, 1, 1, 0, 0, 0], True⟩ := by
  delta hProd_e0
  exact Eq.refl _
theorem hProd_p0 (a b c d e f g k : Int) (h : hProd_r0 a b c d e f g k) (w : World) : Calls Tryz.prog 18 #[.agg #[.int .i64 a, .int .i64 b, .int .i64 c, .int .i64 d], .agg #[.int .i64 e, .int .i64 f, .int .i64 g, .int .i64 k]] w fun en w' => en = .returned (hProd_w0 a b c d e f g k) ∧ Below w.heap.size w w' := by
  have hv := hProd_v0 a b c d e f g k
  have hc := hProd_k0 a b c d e f g k
  have he := hProd_q0 a b c d e f g k
  have ho := hProd_o0 a b c d e f g k
  generalize hProd_e0 a b c d e f g k = r at *
  exact calls_way he gfol hProd_X hv rfl (hProd_args a b c d e f g k) hc ho h (bl w)
def hProd_w1 (a b c d e f g k : Int) : Value := .tuple #[.agg #[.int .i64 (0 : Int), .int .i64 (0 : Int), .int .i64 (0 : Int), .int .i64 (0 : Int)], .int .i64 (cn e f g k)]
def hProd_r1 (a b c d e f g k : Int) : Prop := (((((((((True ∧ (True)) ∧ (True)) ∧ ((true = true))) ∧ (((0 : Int) = (0 : Int)))) ∧ (hProd_c0 a b c d e f g k = false)) ∧ ((true = true))) ∧ (((1 : Int) = (1 : Int)))) ∧ (hProd_c1 a b c d e f g k = true)) ∧ (hProd_c1 a b c d e f g k = true))
theorem hProd_o1 (a b c d e f g k : Int) : obOf (hProd_e1 a b c d e f g k) = hProd_r1 a b c d e f g k := by kernel_rfl
theorem hProd_v1 (a b c d e f g k : Int) : resOf (hProd_e1 a b c d e f g k) = hProd_w1 a b c d e f g k := by kernel_rfl
theorem hProd_k1 (a b c d e f g k : Int) : cleanOf Tryz.prog.globals.size (hProd_e1 a b c d e f g k) = true := by kernel_rfl
theorem hProd_q1 (a b c d e f g k : Int) : hProd_e1 a b c d e f g k = evFS Tryz.prog x_hProd 1000 18 #[.agg #[.int .i64 a, .int .i64 b, .int .i64 c, .int .i64 d], .agg #[.int .i64 e, .int .i64 f, .int .i64 g, .int .i64 k]] (noTabs 7) ⟨[1, 0, 0, 1, 1, 1, 1], True⟩ := by
  delta hProd_e1
  exact Eq.refl _
theorem hProd_p1 (a b c d e f g k : Int) (h : hProd_r1 a b c d e f g k) (w : World) : Calls Tryz.prog 18 #[.agg #[.int .i64 a, .int .i64 b, .int .i64 c, .int .i64 d], .agg #[.int .i64 e, .int .i64 f, .int .i64 g, .int .i64 k]] w fun en w' => en = .returned (hProd_w1 a b c d e f g k) ∧ Below w.heap.size w w' := by
  have hv := hProd_v1 a b c d e f g k
  have hc := hProd_k1 a b c d e f g k
  have he := hProd_q1 a b c d e f g k
  have ho := hProd_o1 a b c d e f g k
  generalize hProd_e1 a b c d e f g k = r at *
  exact calls_way he gfol hProd_X hv rfl (hProd_args a b c d e f g k) hc ho h (bl w)
def hProd_w2 (a b c d e f g k : Int) : Value := .tuple #[.agg #[.int .i64 (0 : Int), .int .i64 (0 : Int), .int .i64 (0 : Int), .int .i64 (0 : Int)], .int .i64 (cn a b c d)]
def hProd_r2 (a b c d e f g k : Int) : Prop := ((((((True ∧ (True)) ∧ (True)) ∧ ((true = true))) ∧ (((0 : Int) = (0 : Int)))) ∧ (hProd_c0 a b c d e f g k = true)) ∧ (hProd_c0 a b c d e f g k = true))
theorem hProd_o2 (a b c d e f g k : Int) : obOf (hProd_e2 a b c d e f g k) = hProd_r2 a b c d e f g k := by kernel_rfl
theorem hProd_v2 (a b c d e f g k : Int) : resOf (hProd_e2 a b c d e f g k) = hProd_w2 a b c d e f g k := by kernel_rfl
theorem hProd_k2 (a b c d e f g k : Int) : cleanOf Tryz.prog.globals.size (hProd_e2 a b c d e f g k) = true := by kernel_rfl
theorem hProd_q2 (a b c d e f g k : Int) : hProd_e2 a b c d e f g k = evFS Tryz.prog x_hProd 1000 18 #[.agg #[.int .i64 a, .int .i64 b, .int .i64 c, .int .i64 d], .agg #[.int .i64 e, .int .i64 f, .int .i64 g, .int .i64 k]] (noTabs 7) ⟨[1, 0, 1, 1], True⟩ := by
  delta hProd_e2
  exact Eq.refl _
theorem hProd_p2 (a b c d e f g k : Int) (h : hProd_r2 a b c d e f g k) (w : World) : Calls Tryz.prog 18 #[.agg #[.int .i64 a, .int .i64 b, .int .i64 c, .int .i64 d], .agg #[.int .i64 e, .int .i64 f, .int .i64 g, .int .i64 k]] w fun en w' => en = .returned (hProd_w2 a b c d e f g k) ∧ Below w.heap.size w w' := by
  have hv := hProd_v2 a b c d e f g k
  have hc := hProd_k2 a b c d e f g k
  have he := hProd_q2 a b c d e f g k
  have ho := hProd_o2 a b c d e f g k
  generalize hProd_e2 a b c d e f g k = r at *
  exact calls_way he gfol hProd_X hv rfl (hProd_args a b c d e f g k) hc ho h (bl w)
theorem hProd_any (a b c d e f g k : Int) (hpre : True) (w : World) : Calls Tryz.prog 18 #[.agg #[.int .i64 a, .int .i64 b, .int .i64 c, .int .i64 d], .agg #[.int .i64 e, .int .i64 f, .int .i64 g, .int .i64 k]] w fun en w' => en = .returned (hProd_val a b c d e f g k) ∧ Below w.heap.size w w' := by
  rcases Bool.eq_false_or_eq_true (hProd_c0 a b c d e f g k) with h0 | h0
  ·
    unfold hProd_c0 at h0
    have hp := hProd_p2 a b c d e f g k ⟨⟨⟨⟨⟨⟨trivial, hProd_g0⟩, hProd_g0⟩, hProd_g1⟩, hProd_g2⟩, h0⟩, h0⟩ w
    have hv : hProd_w2 a b c d e f g k = (hProd_val a b c d e f g k) := by
      clear hp
      unfold hProd_w2 hProd_val
      (try simp only [bne_eq_false_iff_eq, bne_iff_ne, ne_eq, beq_iff_eq, beq_eq_false_iff_ne] at *); simp [cz, two, *]
    exact hv ▸ hp
  ·
    unfold hProd_c0 at h0
    rcases Bool.eq_false_or_eq_true (hProd_c1 a b c d e f g k) with h1 | h1
    ·
      unfold hProd_c1 at h1
      have hp := hProd_p1 a b c d e f g k ⟨⟨⟨⟨⟨⟨⟨⟨⟨trivial, hProd_g0⟩, hProd_g0⟩, hProd_g1⟩, hProd_g2⟩, h0⟩, hProd_g1⟩, hProd_g4⟩, h1⟩, h1⟩ w
      have hv : hProd_w1 a b c d e f g k = (hProd_val a b c d e f g k) := by
        clear hp
        unfold hProd_w1 hProd_val
        (try simp only [bne_eq_false_iff_eq, bne_iff_ne, ne_eq, beq_iff_eq, beq_eq_false_iff_ne] at *); simp [cz, two, *]
      exact hv ▸ hp
    ·
      unfold hProd_c1 at h1
      have h2 : (hProd_b7 a b c d e f g k) := by
        unfold hProd_b7
        first | rfl | trivial | ((try simp only [bne_eq_false_iff_eq, bne_iff_ne, ne_eq, beq_iff_eq, beq_eq_false_iff_ne] at *) <;> first | assumption | exact ⟨b16of (by assumption), b4of (by assumption)⟩ | exact ⟨b4of (by assumption), cr0.1 (by assumption)⟩ | exact b4of (by assumption) | exact root0 (by assumption) | exact root1 (by assumption) (by assumption) | (simp [cz, two, *]; done))
      unfold hProd_b7 at h2
      have hp := hProd_p0 a b c d e f g k ⟨⟨⟨⟨⟨⟨⟨⟨⟨⟨⟨trivial, hProd_g0⟩, hProd_g0⟩, hProd_g1⟩, hProd_g2⟩, h0⟩, hProd_g1⟩, hProd_g4⟩, h1⟩, hProd_g6⟩, hProd_g6⟩, h2⟩ w
      have hv : hProd_w0 a b c d e f g k = (hProd_val a b c d e f g k) := by
        clear hp
        unfold hProd_w0 hProd_val
        (try simp only [bne_eq_false_iff_eq, bne_iff_ne, ne_eq, beq_iff_eq, beq_eq_false_iff_ne] at *); simp [cz, two, *]
      exact hv ▸ hp
theorem k_hProd : ConOk Tryz.prog c_hProd := fun ns hl => by
  have hl0 : ns.length = 8 := hl
  clear hl
  obtain ⟨a, ns0, rfl, hl1⟩ := len_cons hl0
  obtain ⟨b, ns1, rfl, hl2⟩ := len_cons hl1
  obtain ⟨c, ns2, rfl, hl3⟩ := len_cons hl2
  obtain ⟨d, ns3, rfl, hl4⟩ := len_cons hl3
  obtain ⟨e, ns4, rfl, hl5⟩ := len_cons hl4
  obtain ⟨f, ns5, rfl, hl6⟩ := len_cons hl5
  obtain ⟨g, ns6, rfl, hl7⟩ := len_cons hl6
  obtain ⟨k, ns7, rfl, hl8⟩ := len_cons hl7
  obtain rfl := len_nil hl8
  exact ⟨rfl, fun h w => hProd_any a b c d e f g k h w⟩
end Go.Proofs.YtgnmhapgciejfaaGreatDoor
end
section
set_option linter.all false
set_option maxRecDepth 1000000
set_option maxHeartbeats 2000000
open Go.RowKit
namespace Go.Proofs.YtgnmhapgciejfaaGreatDoor
open Mini

def turned_val (a b c d n : Int) : Value := .agg #[.int .i64 ((tn a b c d n).1), .int .i64 ((tn a b c d n).2.1), .int .i64 ((tn a b c d n).2.2.1), .int .i64 ((tn a b c d n).2.2.2)]
theorem turned_X : FOkS Tryz.prog x_turned := kAll_ok _ ⟨k_product, trivial⟩
theorem turned_args (a b c d n : Int) : (#[.agg #[.int .i64 a, .int .i64 b, .int .i64 c, .int .i64 d], .int .i64 n] : Array Value).toList.all (ground 8) = true := by kernel_rfl
def turned_b0 (a b c d n : Int) : Prop := ((Int.tmod (IntKind.i64.wrap ((Int.tmod n (12 : Int)) + (12 : Int))) (12 : Int)) = (10 : Int))
def turned_b1 (a b c d n : Int) : Prop := ((B4 (16777216 : Int) a b c d) ∧ (B4 (1048576 : Int) (0 : Int) (-1 : Int) (0 : Int) (0 : Int)))
def turned_b2 (a b c d n : Int) : Prop := ((Int.tmod (IntKind.i64.wrap ((Int.tmod n (12 : Int)) + (12 : Int))) (12 : Int)) = (11 : Int))
def turned_b3 (a b c d n : Int) : Prop := ((B4 (16777216 : Int) a b c d) ∧ (B4 (1048576 : Int) (0 : Int) (0 : Int) (-1 : Int) (-1 : Int)))
def turned_b4 (a b c d n : Int) : Prop := ((Int.tmod (IntKind.i64.wrap ((Int.tmod n (12 : Int)) + (12 : Int))) (12 : Int)) = (0 : Int))
def turned_b5 (a b c d n : Int) : Prop := ((B4 (16777216 : Int) a b c d) ∧ (B4 (1048576 : Int) (1 : Int) (0 : Int) (0 : Int) (0 : Int)))
def turned_b6 (a b c d n : Int) : Prop := ((Int.tmod (IntKind.i64.wrap ((Int.tmod n (12 : Int)) + (12 : Int))) (12 : Int)) = (1 : Int))
def turned_b7 (a b c d n : Int) : Prop := ((B4 (16777216 : Int) a b c d) ∧ (B4 (1048576 : Int) (0 : Int) (0 : Int) (0 : Int) (-1 : Int)))
def turned_b8 (a b c d n : Int) : Prop := ((Int.tmod (IntKind.i64.wrap ((Int.tmod n (12 : Int)) + (12 : Int))) (12 : Int)) = (2 : Int))
def turned_b9 (a b c d n : Int) : Prop := ((B4 (16777216 : Int) a b c d) ∧ (B4 (1048576 : Int) (1 : Int) (1 : Int) (0 : Int) (0 : Int)))
def turned_b10 (a b c d n : Int) : Prop := ((Int.tmod (IntKind.i64.wrap ((Int.tmod n (12 : Int)) + (12 : Int))) (12 : Int)) = (3 : Int))
def turned_b11 (a b c d n : Int) : Prop := ((B4 (16777216 : Int) a b c d) ∧ (B4 (1048576 : Int) (0 : Int) (0 : Int) (1 : Int) (0 : Int)))
def turned_b12 (a b c d n : Int) : Prop := ((Int.tmod (IntKind.i64.wrap ((Int.tmod n (12 : Int)) + (12 : Int))) (12 : Int)) = (4 : Int))
def turned_b13 (a b c d n : Int) : Prop := ((B4 (16777216 : Int) a b c d) ∧ (B4 (1048576 : Int) (0 : Int) (1 : Int) (0 : Int) (0 : Int)))
def turned_b14 (a b c d n : Int) : Prop := ((Int.tmod (IntKind.i64.wrap ((Int.tmod n (12 : Int)) + (12 : Int))) (12 : Int)) = (5 : Int))
def turned_b15 (a b c d n : Int) : Prop := ((B4 (16777216 : Int) a b c d) ∧ (B4 (1048576 : Int) (0 : Int) (0 : Int) (1 : Int) (1 : Int)))
def turned_b16 (a b c d n : Int) : Prop := ((Int.tmod (IntKind.i64.wrap ((Int.tmod n (12 : Int)) + (12 : Int))) (12 : Int)) = (6 : Int))
def turned_b17 (a b c d n : Int) : Prop := ((B4 (16777216 : Int) a b c d) ∧ (B4 (1048576 : Int) (-1 : Int) (0 : Int) (0 : Int) (0 : Int)))
def turned_b18 (a b c d n : Int) : Prop := ((Int.tmod (IntKind.i64.wrap ((Int.tmod n (12 : Int)) + (12 : Int))) (12 : Int)) = (7 : Int))
def turned_b19 (a b c d n : Int) : Prop := ((B4 (16777216 : Int) a b c d) ∧ (B4 (1048576 : Int) (0 : Int) (0 : Int) (0 : Int) (1 : Int)))
def turned_b20 (a b c d n : Int) : Prop := ((Int.tmod (IntKind.i64.wrap ((Int.tmod n (12 : Int)) + (12 : Int))) (12 : Int)) = (8 : Int))
def turned_b21 (a b c d n : Int) : Prop := ((B4 (16777216 : Int) a b c d) ∧ (B4 (1048576 : Int) (-1 : Int) (-1 : Int) (0 : Int) (0 : Int)))
def turned_b22 (a b c d n : Int) : Prop := ((Int.tmod (IntKind.i64.wrap ((Int.tmod n (12 : Int)) + (12 : Int))) (12 : Int)) = (9 : Int))
def turned_b23 (a b c d n : Int) : Prop := ((B4 (16777216 : Int) a b c d) ∧ (B4 (1048576 : Int) (0 : Int) (0 : Int) (-1 : Int) (0 : Int)))
def turned_w0 (a b c d n : Int) : Value := .agg #[.int .i64 (p1 a b c d (0 : Int) (-1 : Int) (0 : Int) (0 : Int)), .int .i64 (p2 a b c d (0 : Int) (-1 : Int) (0 : Int) (0 : Int)), .int .i64 (p3 a b c d (0 : Int) (-1 : Int) (0 : Int) (0 : Int)), .int .i64 (p4 a b c d (0 : Int) (-1 : Int) (0 : Int) (0 : Int))]
def turned_r0 (a b c d n : Int) : Prop := ((True ∧ (turned_b0 a b c d n)) ∧ (turned_b1 a b c d n))
theorem turned_o0 (a b c d n : Int) : obOf (turned_e0 a b c d n) = turned_r0 a b c d n := by kernel_rfl
theorem turned_v0 (a b c d n : Int) : resOf (turned_e0 a b c d n) = turned_w0 a b c d n := by kernel_rfl
theorem turned_k0 (a b c d n : Int) : cleanOf Tryz.prog.globals.size (turned_e0 a b c d n) = true := by kernel_rfl
theorem turned_q0 (a b c d n : Int) : turned_e0 a b c d n = evFS Tryz.prog x_turned 1000 70 #[.agg #[.int .i64 a, .int .i64 b, .int .i64 c, .int .i64 d], .int .i64 n] T0 ⟨[10], True⟩ := by
  delta turned_e0
  exact Eq.refl _
theorem turned_p0 (a b c d n : Int) (h : turned_r0 a b c d n) (w : World) (hh : Holds Tryz.prog T0 w) : Calls Tryz.prog 70 #[.agg #[.int .i64 a, .int .i64 b, .int .i64 c, .int .i64 d], .int .i64 n] w fun en w' => en = .returned (turned_w0 a b c d n) ∧ Below w.heap.size w w' := by
  have hv := turned_v0 a b c d n
  have hc := turned_k0 a b c d n
  have he := turned_q0 a b c d n
  have ho := turned_o0 a b c d n
  generalize turned_e0 a b c d n = r at *
  exact calls_way he gfol turned_X hv rfl (turned_args a b c d n) hc ho h hh
def turned_w1 (a b c d n : Int) : Value := .agg #[.int .i64 (p1 a b c d (0 : Int) (0 : Int) (-1 : Int) (-1 : Int)), .int .i64 (p2 a b c d (0 : Int) (0 : Int) (-1 : Int) (-1 : Int)), .int .i64 (p3 a b c d (0 : Int) (0 : Int) (-1 : Int) (-1 : Int)), .int .i64 (p4 a b c d (0 : Int) (0 : Int) (-1 : Int) (-1 : Int))]
def turned_r1 (a b c d n : Int) : Prop := ((True ∧ (turned_b2 a b c d n)) ∧ (turned_b3 a b c d n))
theorem turned_o1 (a b c d n : Int) : obOf (turned_e1 a b c d n) = turned_r1 a b c d n := by kernel_rfl
theorem turned_v1 (a b c d n : Int) : resOf (turned_e1 a b c d n) = turned_w1 a b c d n := by kernel_rfl
theorem turned_k1 (a b c d n : Int) : cleanOf Tryz.prog.globals.size (turned_e1 a b c d n) = true := by kernel_rfl
theorem turned_q1 (a b c d n : Int) : turned_e1 a b c d n = evFS Tryz.prog x_turned 1000 70 #[.agg #[.int .i64 a, .int .i64 b, .int .i64 c, .int .i64 d], .int .i64 n] T0 ⟨[11], True⟩ := by
  delta turned_e1
  exact Eq.refl _
theorem turned_p1 (a b c d n : Int) (h : turned_r1 a b c d n) (w : World) (hh : Holds Tryz.prog T0 w) : Calls Tryz.prog 70 #[.agg #[.int .i64 a, .int .i64 b, .int .i64 c, .int .i64 d], .int .i64 n] w fun en w' => en = .returned (turned_w1 a b c d n) ∧ Below w.heap.size w w' := by
  have hv := turned_v1 a b c d n
  have hc := turned_k1 a b c d n
  have he := turned_q1 a b c d n
  have ho := turned_o1 a b c d n
  generalize turned_e1 a b c d n = r at *
  exact calls_way he gfol turned_X hv rfl (turned_args a b c d n) hc ho h hh
def turned_w2 (a b c d n : Int) : Value := .agg #[.int .i64 (p1 a b c d (1 : Int) (0 : Int) (0 : Int) (0 : Int)), .int .i64 (p2 a b c d (1 : Int) (0 : Int) (0 : Int) (0 : Int)), .int .i64 (p3 a b c d (1 : Int) (0 : Int) (0 : Int) (0 : Int)), .int .i64 (p4 a b c d (1 : Int) (0 : Int) (0 : Int) (0 : Int))]
def turned_r2 (a b c d n : Int) : Prop := ((True ∧ (turned_b4 a b c d n)) ∧ (turned_b5 a b c d n))
theorem turned_o2 (a b c d n : Int) : obOf (turned_e2 a b c d n) = turned_r2 a b c d n := by kernel_rfl
theorem turned_v2 (a b c d n : Int) : resOf (turned_e2 a b c d n) = turned_w2 a b c d n := by kernel_rfl
theorem turned_k2 (a b c d n : Int) : cleanOf Tryz.prog.globals.size (turned_e2 a b c d n) = true := by kernel_rfl
theorem turned_q2 (a b c d n : Int) : turned_e2 a b c d n = evFS Tryz.prog x_turned 1000 70 #[.agg #[.int .i64 a, .int .i64 b, .int .i64 c, .int .i64 d], .int .i64 n] T0 ⟨[0], True⟩ := by
  delta turned_e2
  exact Eq.refl _
theorem turned_p2 (a b c d n : Int) (h : turned_r2 a b c d n) (w : World) (hh : Holds Tryz.prog T0 w) : Calls Tryz.prog 70 #[.agg #[.int .i64 a, .int .i64 b, .int .i64 c, .int .i64 d], .int .i64 n] w fun en w' => en = .returned (turned_w2 a b c d n) ∧ Below w.heap.size w w' := by
  have hv := turned_v2 a b c d n
  have hc := turned_k2 a b c d n
  have he := turned_q2 a b c d n
  have ho := turned_o2 a b c d n
  generalize turned_e2 a b c d n = r at *
  exact calls_way he gfol turned_X hv rfl (turned_args a b c d n) hc ho h hh
def turned_w3 (a b c d n : Int) : Value := .agg #[.int .i64 (p1 a b c d (0 : Int) (0 : Int) (0 : Int) (-1 : Int)), .int .i64 (p2 a b c d (0 : Int) (0 : Int) (0 : Int) (-1 : Int)), .int .i64 (p3 a b c d (0 : Int) (0 : Int) (0 : Int) (-1 : Int)), .int .i64 (p4 a b c d (0 : Int) (0 : Int) (0 : Int) (-1 : Int))]
def turned_r3 (a b c d n : Int) : Prop := ((True ∧ (turned_b6 a b c d n)) ∧ (turned_b7 a b c d n))
theorem turned_o3 (a b c d n : Int) : obOf (turned_e3 a b c d n) = turned_r3 a b c d n := by kernel_rfl
theorem turned_v3 (a b c d n : Int) : resOf (turned_e3 a b c d n) = turned_w3 a b c d n := by kernel_rfl
theorem turned_k3 (a b c d n : Int) : cleanOf Tryz.prog.globals.size (turned_e3 a b c d n) = true := by kernel_rfl
theorem turned_q3 (a b c d n : Int) : turned_e3 a b c d n = evFS Tryz.prog x_turned 1000 70 #[.agg #[.int .i64 a, .int .i64 b, .int .i64 c, .int .i64 d], .int .i64 n] T0 ⟨[1], True⟩ := by
  delta turned_e3
  exact Eq.refl _
theorem turned_p3 (a b c d n : Int) (h : turned_r3 a b c d n) (w : World) (hh : Holds Tryz.prog T0 w) : Calls Tryz.prog 70 #[.agg #[.int .i64 a, .int .i64 b, .int .i64 c, .int .i64 d], .int .i64 n] w fun en w' => en = .returned (turned_w3 a b c d n) ∧ Below w.heap.size w w' := by
  have hv := turned_v3 a b c d n
  have hc := turned_k3 a b c d n
  have he := turned_q3 a b c d n
  have ho := turned_o3 a b c d n
  generalize turned_e3 a b c d n = r at *
  exact calls_way he gfol turned_X hv rfl (turned_args a b c d n) hc ho h hh
def turned_w4 (a b c d n : Int) : Value := .agg #[.int .i64 (p1 a b c d (1 : Int) (1 : Int) (0 : Int) (0 : Int)), .int .i64 (p2 a b c d (1 : Int) (1 : Int) (0 : Int) (0 : Int)), .int .i64 (p3 a b c d (1 : Int) (1 : Int) (0 : Int) (0 : Int)), .int .i64 (p4 a b c d (1 : Int) (1 : Int) (0 : Int) (0 : Int))]
def turned_r4 (a b c d n : Int) : Prop := ((True ∧ (turned_b8 a b c d n)) ∧ (turned_b9 a b c d n))
theorem turned_o4 (a b c d n : Int) : obOf (turned_e4 a b c d n) = turned_r4 a b c d n := by kernel_rfl
theorem turned_v4 (a b c d n : Int) : resOf (turned_e4 a b c d n) = turned_w4 a b c d n := by kernel_rfl
theorem turned_k4 (a b c d n : Int) : cleanOf Tryz.prog.globals.size (turned_e4 a b c d n) = true := by kernel_rfl
theorem turned_q4 (a b c d n : Int) : turned_e4 a b c d n = evFS Tryz.prog x_turned 1000 70 #[.agg #[.int .i64 a, .int .i64 b, .int .i64 c, .int .i64 d], .int .i64 n] T0 ⟨[2], True⟩ := by
  delta turned_e4
  exact Eq.refl _
theorem turned_p4 (a b c d n : Int) (h : turned_r4 a b c d n) (w : World) (hh : Holds Tryz.prog T0 w) : Calls Tryz.prog 70 #[.agg #[.int .i64 a, .int .i64 b, .int .i64 c, .int .i64 d], .int .i64 n] w fun en w' => en = .returned (turned_w4 a b c d n) ∧ Below w.heap.size w w' := by
  have hv := turned_v4 a b c d n
  have hc := turned_k4 a b c d n
  have he := turned_q4 a b c d n
  have ho := turned_o4 a b c d n
  generalize turned_e4 a b c d n = r at *
  exact calls_way he gfol turned_X hv rfl (turned_args a b c d n) hc ho h hh
def turned_w5 (a b c d n : Int) : Value := .agg #[.int .i64 (p1 a b c d (0 : Int) (0 : Int) (1 : Int) (0 : Int)), .int .i64 (p2 a b c d (0 : Int) (0 : Int) (1 : Int) (0 : Int)), .int .i64 (p3 a b c d (0 : Int) (0 : Int) (1 : Int) (0 : Int)), .int .i64 (p4 a b c d (0 : Int) (0 : Int) (1 : Int) (0 : Int))]
def turned_r5 (a b c d n : Int) : Prop := ((True ∧ (turned_b10 a b c d n)) ∧ (turned_b11 a b c d n))
theorem turned_o5 (a b c d n : Int) : obOf (turned_e5 a b c d n) = turned_r5 a b c d n := by kernel_rfl
theorem turned_v5 (a b c d n : Int) : resOf (turned_e5 a b c d n) = turned_w5 a b c d n := by kernel_rfl
theorem turned_k5 (a b c d n : Int) : cleanOf Tryz.prog.globals.size (turned_e5 a b c d n) = true := by kernel_rfl
theorem turned_q5 (a b c d n : Int) : turned_e5 a b c d n = evFS Tryz.prog x_turned 1000 70 #[.agg #[.int .i64 a, .int .i64 b, .int .i64 c, .int .i64 d], .int .i64 n] T0 ⟨[3], True⟩ := by
  delta turned_e5
  exact Eq.refl _
theorem turned_p5 (a b c d n : Int) (h : turned_r5 a b c d n) (w : World) (hh : Holds Tryz.prog T0 w) : Calls Tryz.prog 70 #[.agg #[.int .i64 a, .int .i64 b, .int .i64 c, .int .i64 d], .int .i64 n] w fun en w' => en = .returned (turned_w5 a b c d n) ∧ Below w.heap.size w w' := by
  have hv := turned_v5 a b c d n
  have hc := turned_k5 a b c d n
  have he := turned_q5 a b c d n
  have ho := turned_o5 a b c d n
  generalize turned_e5 a b c d n = r at *
  exact calls_way he gfol turned_X hv rfl (turned_args a b c d n) hc ho h hh
def turned_w6 (a b c d n : Int) : Value := .agg #[.int .i64 (p1 a b c d (0 : Int) (1 : Int) (0 : Int) (0 : Int)), .int .i64 (p2 a b c d (0 : Int) (1 : Int) (0 : Int) (0 : Int)), .int .i64 (p3 a b c d (0 : Int) (1 : Int) (0 : Int) (0 : Int)), .int .i64 (p4 a b c d (0 : Int) (1 : Int) (0 : Int) (0 : Int))]
def turned_r6 (a b c d n : Int) : Prop := ((True ∧ (turned_b12 a b c d n)) ∧ (turned_b13 a b c d n))
theorem turned_o6 (a b c d n : Int) : obOf (turned_e6 a b c d n) = turned_r6 a b c d n := by kernel_rfl
theorem turned_v6 (a b c d n : Int) : resOf (turned_e6 a b c d n) = turned_w6 a b c d n := by kernel_rfl
theorem turned_k6 (a b c d n : Int) : cleanOf Tryz.prog.globals.size (turned_e6 a b c d n) = true := by kernel_rfl
theorem turned_q6 (a b c d n : Int) : turned_e6 a b c d n = evFS Tryz.prog x_turned 1000 70 #[.agg #[.int .i64 a, .int .i64 b, .int .i64 c, .int .i64 d], .int .i64 n] T0 ⟨[4], True⟩ := by
  delta turned_e6
  exact Eq.refl _
theorem turned_p6 (a b c d n : Int) (h : turned_r6 a b c d n) (w : World) (hh : Holds Tryz.prog T0 w) : Calls Tryz.prog 70 #[.agg #[.int .i64 a, .int .i64 b, .int .i64 c, .int .i64 d], .int .i64 n] w fun en w' => en = .returned (turned_w6 a b c d n) ∧ Below w.heap.size w w' := by
  have hv := turned_v6 a b c d n
  have hc := turned_k6 a b c d n
  have he := turned_q6 a b c d n
  have ho := turned_o6 a b c d n
  generalize turned_e6 a b c d n = r at *
  exact calls_way he gfol turned_X hv rfl (turned_args a b c d n) hc ho h hh
def turned_w7 (a b c d n : Int) : Value := .agg #[.int .i64 (p1 a b c d (0 : Int) (0 : Int) (1 : Int) (1 : Int)), .int .i64 (p2 a b c d (0 : Int) (0 : Int) (1 : Int) (1 : Int)), .int .i64 (p3 a b c d (0 : Int) (0 : Int) (1 : Int) (1 : Int)), .int .i64 (p4 a b c d (0 : Int) (0 : Int) (1 : Int) (1 : Int))]
def turned_r7 (a b c d n : Int) : Prop := ((True ∧ (turned_b14 a b c d n)) ∧ (turned_b15 a b c d n))
theorem turned_o7 (a b c d n : Int) : obOf (turned_e7 a b c d n) = turned_r7 a b c d n := by kernel_rfl
theorem turned_v7 (a b c d n : Int) : resOf (turned_e7 a b c d n) = turned_w7 a b c d n := by kernel_rfl
theorem turned_k7 (a b c d n : Int) : cleanOf Tryz.prog.globals.size (turned_e7 a b c d n) = true := by kernel_rfl
theorem turned_q7 (a b c d n : Int) : turned_e7 a b c d n = evFS Tryz.prog x_turned 1000 70 #[.agg #[.int .i64 a, .int .i64 b, .int .i64 c, .int .i64 d], .int .i64 n] T0 ⟨[5], True⟩ := by
  delta turned_e7
  exact Eq.refl _
theorem turned_p7 (a b c d n : Int) (h : turned_r7 a b c d n) (w : World) (hh : Holds Tryz.prog T0 w) : Calls Tryz.prog 70 #[.agg #[.int .i64 a, .int .i64 b, .int .i64 c, .int .i64 d], .int .i64 n] w fun en w' => en = .returned (turned_w7 a b c d n) ∧ Below w.heap.size w w' := by
  have hv := turned_v7 a b c d n
  have hc := turned_k7 a b c d n
  have he := turned_q7 a b c d n
  have ho := turned_o7 a b c d n
  generalize turned_e7 a b c d n = r at *
  exact calls_way he gfol turned_X hv rfl (turned_args a b c d n) hc ho h hh
def turned_w8 (a b c d n : Int) : Value := .agg #[.int .i64 (p1 a b c d (-1 : Int) (0 : Int) (0 : Int) (0 : Int)), .int .i64 (p2 a b c d (-1 : Int) (0 : Int) (0 : Int) (0 : Int)), .int .i64 (p3 a b c d (-1 : Int) (0 : Int) (0 : Int) (0 : Int)), .int .i64 (p4 a b c d (-1 : Int) (0 : Int) (0 : Int) (0 : Int))]
def turned_r8 (a b c d n : Int) : Prop := ((True ∧ (turned_b16 a b c d n)) ∧ (turned_b17 a b c d n))
theorem turned_o8 (a b c d n : Int) : obOf (turned_e8 a b c d n) = turned_r8 a b c d n := by kernel_rfl
theorem turned_v8 (a b c d n : Int) : resOf (turned_e8 a b c d n) = turned_w8 a b c d n := by kernel_rfl
theorem turned_k8 (a b c d n : Int) : cleanOf Tryz.prog.globals.size (turned_e8 a b c d n) = true := by kernel_rfl
theorem turned_q8 (a b c d n : Int) : turned_e8 a b c d n = evFS Tryz.prog x_turned 1000 70 #[.agg #[.int .i64 a, .int .i64 b, .int .i64 c, .int .i64 d], .int .i64 n] T0 ⟨[6], True⟩ := by
  delta turned_e8
  exact Eq.refl _
theorem turned_p8 (a b c d n : Int) (h : turned_r8 a b c d n) (w : World) (hh : Holds Tryz.prog T0 w) : Calls Tryz.prog 70 #[.agg #[.int .i64 a, .int .i64 b, .int .i64 c, .int .i64 d], .int .i64 n] w fun en w' => en = .returned (turned_w8 a b c d n) ∧ Below w.heap.size w w' := by
  have hv := turned_v8 a b c d n
  have hc := turned_k8 a b c d n
  have he := turned_q8 a b c d n
  have ho := turned_o8 a b c d n
  generalize turned_e8 a b c d n = r at *
  exact calls_way he gfol turned_X hv rfl (turned_args a b c d n) hc ho h hh
def turned_w9 (a b c d n : Int) : Value := .agg #[.int .i64 (p1 a b c d (0 : Int) (0 : Int) (0 : Int) (1 : Int)), .int .i64 (p2 a b c d (0 : Int) (0 : Int) (0 : Int) (1 : Int)), .int .i64 (p3 a b c d (0 : Int) (0 : Int) (0 : Int) (1 : Int)), .int .i64 (p4 a b c d (0 : Int) (0 : Int) (0 : Int) (1 : Int))]
def turned_r9 (a b c d n : Int) : Prop := ((True ∧ (turned_b18 a b c d n)) ∧ (turned_b19 a b c d n))
theorem turned_o9 (a b c d n : Int) : obOf (turned_e9 a b c d n) = turned_r9 a b c d n := by kernel_rfl
theorem turned_v9 (a b c d n : Int) : resOf (turned_e9 a b c d n) = turned_w9 a b c d n := by kernel_rfl
theorem turned_k9 (a b c d n : Int) : cleanOf Tryz.prog.globals.size (turned_e9 a b c d n) = true := by kernel_rfl
theorem turned_q9 (a b c d n : Int) : turned_e9 a b c d n = evFS Tryz.prog x_turned 1000 70 #[.agg #[.int .i64 a, .int .i64 b, .int .i64 c, .int .i64 d], .int .i64 n] T0 ⟨[7], True⟩ := by
  delta turned_e9
  exact Eq.refl _
theorem turned_p9 (a b c d n : Int) (h : turned_r9 a b c d n) (w : World) (hh : Holds Tryz.prog T0 w) : Calls Tryz.prog 70 #[.agg #[.int .i64 a, .int .i64 b, .int .i64 c, .int .i64 d], .int .i64 n] w fun en w' => en = .returned (turned_w9 a b c d n) ∧ Below w.heap.size w w' := by
  have hv := turned_v9 a b c d n
  have hc := turned_k9 a b c d n
  have he := turned_q9 a b c d n
  have ho := turned_o9 a b c d n
  generalize turned_e9 a b c d n = r at *
  exact calls_way he gfol turned_X hv rfl (turned_args a b c d n) hc ho h hh
def turned_w10 (a b c d n : Int) : Value := .agg #[.int .i64 (p1 a b c d (-1 : Int) (-1 : Int) (0 : Int) (0 : Int)), .int .i64 (p2 a b c d (-1 : Int) (-1 : Int) (0 : Int) (0 : Int)), .int .i64 (p3 a b c d (-1 : Int) (-1 : Int) (0 : Int) (0 : Int)), .int .i64 (p4 a b c d (-1 : Int) (-1 : Int) (0 : Int) (0 : Int))]
def turned_r10 (a b c d n : Int) : Prop := ((True ∧ (turned_b20 a b c d n)) ∧ (turned_b21 a b c d n))
theorem turned_o10 (a b c d n : Int) : obOf (turned_e10 a b c d n) = turned_r10 a b c d n := by kernel_rfl
theorem turned_v10 (a b c d n : Int) : resOf (turned_e10 a b c d n) = turned_w10 a b c d n := by kernel_rfl
theorem turned_k10 (a b c d n : Int) : cleanOf Tryz.prog.globals.size (turned_e10 a b c d n) = true := by kernel_rfl
theorem turned_q10 (a b c d n : Int) : turned_e10 a b c d n = evFS Tryz.prog x_turned 1000 70 #[.agg #[.int .i64 a, .int .i64 b, .int .i64 c, .int .i64 d], .int .i64 n] T0 ⟨[8], True⟩ := by
  delta turned_e10
  exact Eq.refl _
theorem turned_p10 (a b c d n : Int) (h : turned_r10 a b c d n) (w : World) (hh : Holds Tryz.prog T0 w) : Calls Tryz.prog 70 #[.agg #[.int .i64 a, .int .i64 b, .int .i64 c, .int .i64 d], .int .i64 n] w fun en w' => en = .returned (turned_w10 a b c d n) ∧ Below w.heap.size w w' := by
  have hv := turned_v10 a b c d n
  have hc := turned_k10 a b c d n
  have he := turned_q10 a b c d n
  have ho := turned_o10 a b c d n
  generalize turned_e10 a b c d n = r at *
  exact calls_way he gfol turned_X hv rfl (turned_args a b c d n) hc ho h hh
def turned_w11 (a b c d n : Int) : Value := .agg #[.int .i64 (p1 a b c d (0 : Int) (0 : Int) (-1 : Int) (0 : Int)), .int .i64 (p2 a b c d (0 : Int) (0 : Int) (-1 : Int) (0 : Int)), .int .i64 (p3 a b c d (0 : Int) (0 : Int) (-1 : Int) (0 : Int)), .int .i64 (p4 a b c d (0 : Int) (0 : Int) (-1 : Int) (0 : Int))]
def turned_r11 (a b c d n : Int) : Prop := ((True ∧ (turned_b22 a b c d n)) ∧ (turned_b23 a b c d n))
theorem turned_o11 (a b c d n : Int) : obOf (turned_e11 a b c d n) = turned_r11 a b c d n := by kernel_rfl
theorem turned_v11 (a b c d n : Int) : resOf (turned_e11 a b c d n) = turned_w11 a b c d n := by kernel_rfl
theorem turned_k11 (a b c d n : Int) : cleanOf Tryz.prog.globals.size (turned_e11 a b c d n) = true := by kernel_rfl
theorem turned_q11 (a b c d n : Int) : turned_e11 a b c d n = evFS Tryz.prog x_turned 1000 70 #[.agg #[.int .i64 a, .int .i64 b, .int .i64 c, .int .i64 d], .int .i64 n] T0 ⟨[9], True⟩ := by
  delta turned_e11
  exact Eq.refl _
theorem turned_p11 (a b c d n : Int) (h : turned_r11 a b c d n) (w : World) (hh : Holds Tryz.prog T0 w) : Calls Tryz.prog 70 #[.agg #[.int .i64 a, .int .i64 b, .int .i64 c, .int .i64 d], .int .i64 n] w fun en w' => en = .returned (turned_w11 a b c d n) ∧ Below w.heap.size w w' := by
  have hv := turned_v11 a b c d n
  have hc := turned_k11 a b c d n
  have he := turned_q11 a b c d n
  have ho := turned_o11 a b c d n
  generalize turned_e11 a b c d n = r at *
  exact calls_way he gfol turned_X hv rfl (turned_args a b c d n) hc ho h hh
theorem turned_any (a b c d n : Int) (hpre : B4 1048576 a b c d) (w : World) (hh : Holds Tryz.prog T0 w) : Calls Tryz.prog 70 #[.agg #[.int .i64 a, .int .i64 b, .int .i64 c, .int .i64 d], .int .i64 n] w fun en w' => en = .returned (turned_val a b c d n) ∧ Below w.heap.size w w' := by
  have t12 : n.tmod 12 = n % 12 ∨ (n.tmod 12 = n % 12 - 12 ∧ n % 12 ≠ 0) := by
    have h := Int.tmod_eq_emod (a := n) (b := 12)
    split at h
    · exact .inl (by omega)
    · rename_i hc
      have h2 : ¬ (12 : Int) ∣ n := fun g => hc (.inr g)
      exact .inr ⟨by simpa using h, by omega⟩
  have r12 : (n.tmod 12 + 12).tmod 12 = n % 12 := by
    rw [Int.tmod_eq_emod_of_nonneg (by omega)]; omega
  obtain ⟨q1, q2, q3, q4, q5, q6, q7, q8⟩ := hpre
  have h0 : ((Int.tmod (IntKind.i64.wrap ((Int.tmod n (12 : Int)) + (12 : Int))) (12 : Int)) = (10 : Int)) ∨ ((Int.tmod (IntKind.i64.wrap ((Int.tmod n (12 : Int)) + (12 : Int))) (12 : Int)) = (11 : Int)) ∨ ((Int.tmod (IntKind.i64.wrap ((Int.tmod n (12 : Int)) + (12 : Int))) (12 : Int)) = (0 : Int)) ∨ ((Int.tmod (IntKind.i64.wrap ((Int.tmod n (12 : Int)) + (12 : Int))) (12 : Int)) = (1 : Int)) ∨ ((Int.tmod (IntKind.i64.wrap ((Int.tmod n (12 : Int)) + (12 : Int))) (12 : Int)) = (2 : Int)) ∨ ((Int.tmod (IntKind.i64.wrap ((Int.tmod n (12 : Int)) + (12 : Int))) (12 : Int)) = (3 : Int)) ∨ ((Int.tmod (IntKind.i64.wrap ((Int.tmod n (12 : Int)) + (12 : Int))) (12 : Int)) = (4 : Int)) ∨ ((Int.tmod (IntKind.i64.wrap ((Int.tmod n (12 : Int)) + (12 : Int))) (12 : Int)) = (5 : Int)) ∨ ((Int.tmod (IntKind.i64.wrap ((Int.tmod n (12 : Int)) + (12 : Int))) (12 : Int)) = (6 : Int)) ∨ ((Int.tmod (IntKind.i64.wrap ((Int.tmod n (12 : Int)) + (12 : Int))) (12 : Int)) = (7 : Int)) ∨ ((Int.tmod (IntKind.i64.wrap ((Int.tmod n (12 : Int)) + (12 : Int))) (12 : Int)) = (8 : Int)) ∨ ((Int.tmod (IntKind.i64.wrap ((Int.tmod n (12 : Int)) + (12 : Int))) (12 : Int)) = (9 : Int)) := by
    first | rfl | trivial | decide | (unfold B4; omega) | (constructor <;> unfold B4 <;> omega) | ((try simp (disch := omega) only [wi, r12, decide_eq_true_eq, decide_eq_false_iff_not] at *); omega)
  rcases h0 with h0 | h0 | h0 | h0 | h0 | h0 | h0 | h0 | h0 | h0 | h0 | h0
  ·
    have h1 : (turned_b1 a b c d n) := by
      unfold turned_b1
      first | rfl | trivial | decide | (unfold B4; omega) | (constructor <;> unfold B4 <;> omega) | ((try simp (disch := omega) only [wi, r12, decide_eq_true_eq, decide_eq_false_iff_not] at *); omega)
    unfold turned_b1 at h1
    have hp := turned_p0 a b c d n ⟨⟨trivial, h0⟩, h1⟩ w hh
    have hv : turned_w0 a b c d n = (turned_val a b c d n) := by
      clear hp hh
      unfold turned_w0 turned_val
      (try simp (disch := omega) only [wi, r12, decide_eq_true_eq, decide_eq_false_iff_not] at *)
      simp only [tn, *, Int.reduceEq, ↓reduceIte]
      (try simp only [p1, p2, p3, p4, Int.mul_one, Int.mul_zero, Int.mul_neg, Int.sub_zero, Int.zero_sub, Int.add_zero, Int.zero_add, Int.neg_neg, Int.neg_zero] at *)
      all_goals (first | rfl | (simp only [Value.agg.injEq, Value.tuple.injEq, Array.mk.injEq, List.cons.injEq, Value.int.injEq, true_and, and_true]; omega))
    exact hv ▸ hp
  ·
    have h2 : (turned_b3 a b c d n) := by
      unfold turned_b3
      first | rfl | trivial | decide | (unfold B4; omega) | (constructor <;> unfold B4 <;> omega) | ((try simp (disch := omega) only [wi, r12, decide_eq_true_eq, decide_eq_false_iff_not] at *); omega)
    unfold turned_b3 at h2
    have hp := turned_p1 a b c d n ⟨⟨trivial, h0⟩, h2⟩ w hh
    have hv : turned_w1 a b c d n = (turned_val a b c d n) := by
      clear hp hh
      unfold turned_w1 turned_val
      (try simp (disch := omega) only [wi, r12, decide_eq_true_eq, decide_eq_false_iff_not] at *)
      simp only [tn, *, Int.reduceEq, ↓reduceIte]
      (try simp only [p1, p2, p3, p4, Int.mul_one, Int.mul_zero, Int.mul_neg, Int.sub_zero, Int.zero_sub, Int.add_zero, Int.zero_add, Int.neg_neg, Int.neg_zero] at *)
      all_goals (first | rfl | (simp only [Value.agg.injEq, Value.tuple.injEq, Array.mk.injEq, List.cons.injEq, Value.int.injEq, true_and, and_true]; omega))
    exact hv ▸ hp
  ·
    have h3 : (turned_b5 a b c d n) := by
      unfold turned_b5
      first | rfl | trivial | decide | (unfold B4; omega) | (constructor <;> unfold B4 <;> omega) | ((try simp (disch := omega) only [wi, r12, decide_eq_true_eq, decide_eq_false_iff_not] at *); omega)
    unfold turned_b5 at h3
    have hp := turned_p2 a b c d n ⟨⟨trivial, h0⟩, h3⟩ w hh
    have hv : turned_w2 a b c d n = (turned_val a b c d n) := by
      clear hp hh
      unfold turned_w2 turned_val
      (try simp (disch := omega) only [wi, r12, decide_eq_true_eq, decide_eq_false_iff_not] at *)
      simp only [tn, *, Int.reduceEq, ↓reduceIte]
      (try simp only [p1, p2, p3, p4, Int.mul_one, Int.mul_zero, Int.mul_neg, Int.sub_zero, Int.zero_sub, Int.add_zero, Int.zero_add, Int.neg_neg, Int.neg_zero] at *)
      all_goals (first | rfl | (simp only [Value.agg.injEq, Value.tuple.injEq, Array.mk.injEq, List.cons.injEq, Value.int.injEq, true_and, and_true]; omega))
    exact hv ▸ hp
  ·
    have h4 : (turned_b7 a b c d n) := by
      unfold turned_b7
      first | rfl | trivial | decide | (unfold B4; omega) | (constructor <;> unfold B4 <;> omega) | ((try simp (disch := omega) only [wi, r12, decide_eq_true_eq, decide_eq_false_iff_not] at *); omega)
    unfold turned_b7 at h4
    have hp := turned_p3 a b c d n ⟨⟨trivial, h0⟩, h4⟩ w hh
    have hv : turned_w3 a b c d n = (turned_val a b c d n) := by
      clear hp hh
      unfold turned_w3 turned_val
      (try simp (disch := omega) only [wi, r12, decide_eq_true_eq, decide_eq_false_iff_not] at *)
      simp only [tn, *, Int.reduceEq, ↓reduceIte]
      (try simp only [p1, p2, p3, p4, Int.mul_one, Int.mul_zero, Int.mul_neg, Int.sub_zero, Int.zero_sub, Int.add_zero, Int.zero_add, Int.neg_neg, Int.neg_zero] at *)
      all_goals (first | rfl | (simp only [Value.agg.injEq, Value.tuple.injEq, Array.mk.injEq, List.cons.injEq, Value.int.injEq, true_and, and_true]; omega))
    exact hv ▸ hp
  ·
    have h5 : (turned_b9 a b c d n) := by
      unfold turned_b9
      first | rfl | trivial | decide | (unfold B4; omega) | (constructor <;> unfold B4 <;> omega) | ((try simp (disch := omega) only [wi, r12, decide_eq_true_eq, decide_eq_false_iff_not] at *); omega)
    unfold turned_b9 at h5
    have hp := turned_p4 a b c d n ⟨⟨trivial, h0⟩, h5⟩ w hh
    have hv : turned_w4 a b c d n = (turned_val a b c d n) := by
      clear hp hh
      unfold turned_w4 turned_val
      (try simp (disch := omega) only [wi, r12, decide_eq_true_eq, decide_eq_false_iff_not] at *)
      simp only [tn, *, Int.reduceEq, ↓reduceIte]
      (try simp only [p1, p2, p3, p4, Int.mul_one, Int.mul_zero, Int.mul_neg, Int.sub_zero, Int.zero_sub, Int.add_zero, Int.zero_add, Int.neg_neg, Int.neg_zero] at *)
      all_goals (first | rfl | (simp only [Value.agg.injEq, Value.tuple.injEq, Array.mk.injEq, List.cons.injEq, Value.int.injEq, true_and, and_true]; omega))
    exact hv ▸ hp
  ·
    have h6 : (turned_b11 a b c d n) := by
      unfold turned_b11
      first | rfl | trivial | decide | (unfold B4; omega) | (constructor <;> unfold B4 <;> omega) | ((try simp (disch := omega) only [wi, r12, decide_eq_true_eq, decide_eq_false_iff_not] at *); omega)
    unfold turned_b11 at h6
    have hp := turned_p5 a b c d n ⟨⟨trivial, h0⟩, h6⟩ w hh
    have hv : turned_w5 a b c d n = (turned_val a b c d n) := by
      clear hp hh
      unfold turned_w5 turned_val
      (try simp (disch := omega) only [wi, r12, decide_eq_true_eq, decide_eq_false_iff_not] at *)
      simp only [tn, *, Int.reduceEq, ↓reduceIte]
      (try simp only [p1, p2, p3, p4, Int.mul_one, Int.mul_zero, Int.mul_neg, Int.sub_zero, Int.zero_sub, Int.add_zero, Int.zero_add, Int.neg_neg, Int.neg_zero] at *)
      all_goals (first | rfl | (simp only [Value.agg.injEq, Value.tuple.injEq, Array.mk.injEq, List.cons.injEq, Value.int.injEq, true_and, and_true]; omega))
    exact hv ▸ hp
  ·
    have h7 : (turned_b13 a b c d n) := by
      unfold turned_b13
      first | rfl | trivial | decide | (unfold B4; omega) | (constructor <;> unfold B4 <;> omega) | ((try simp (disch := omega) only [wi, r12, decide_eq_true_eq, decide_eq_false_iff_not] at *); omega)
    unfold turned_b13 at h7
    have hp := turned_p6 a b c d n ⟨⟨trivial, h0⟩, h7⟩ w hh
    have hv : turned_w6 a b c d n = (turned_val a b c d n) := by
      clear hp hh
      unfold turned_w6 turned_val
      (try simp (disch := omega) only [wi, r12, decide_eq_true_eq, decide_eq_false_iff_not] at *)
      simp only [tn, *, Int.reduceEq, ↓reduceIte]
      (try simp only [p1, p2, p3, p4, Int.mul_one, Int.mul_zero, Int.mul_neg, Int.sub_zero, Int.zero_sub, Int.add_zero, Int.zero_add, Int.neg_neg, Int.neg_zero] at *)
      all_goals (first | rfl | (simp only [Value.agg.injEq, Value.tuple.injEq, Array.mk.injEq, List.cons.injEq, Value.int.injEq, true_and, and_true]; omega))
    exact hv ▸ hp
  ·
    have h8 : (turned_b15 a b c d n) := by
      unfold turned_b15
      first | rfl | trivial | decide | (unfold B4; omega) | (constructor <;> unfold B4 <;> omega) | ((try simp (disch := omega) only [wi, r12, decide_eq_true_eq, decide_eq_false_iff_not] at *); omega)
    unfold turned_b15 at h8
    have hp := turned_p7 a b c d n ⟨⟨trivial, h0⟩, h8⟩ w hh
    have hv : turned_w7 a b c d n = (turned_val a b c d n) := by
      clear hp hh
      unfold turned_w7 turned_val
      (try simp (disch := omega) only [wi, r12, decide_eq_true_eq, decide_eq_false_iff_not] at *)
      simp only [tn, *, Int.reduceEq, ↓reduceIte]
      (try simp only [p1, p2, p3, p4, Int.mul_one, Int.mul_zero, Int.mul_neg, Int.sub_zero, Int.zero_sub, Int.add_zero, Int.zero_add, Int.neg_neg, Int.neg_zero] at *)
      all_goals (first | rfl | (simp only [Value.agg.injEq, Value.tuple.injEq, Array.mk.injEq, List.cons.injEq, Value.int.injEq, true_and, and_true]; omega))
    exact hv ▸ hp
  ·
    have h9 : (turned_b17 a b c d n) := by
      unfold turned_b17
      first | rfl | trivial | decide | (unfold B4; omega) | (constructor <;> unfold B4 <;> omega) | ((try simp (disch := omega) only [wi, r12, decide_eq_true_eq, decide_eq_false_iff_not] at *); omega)
    unfold turned_b17 at h9
    have hp := turned_p8 a b c d n ⟨⟨trivial, h0⟩, h9⟩ w hh
    have hv : turned_w8 a b c d n = (turned_val a b c d n) := by
      clear hp hh
      unfold turned_w8 turned_val
      (try simp (disch := omega) only [wi, r12, decide_eq_true_eq, decide_eq_false_iff_not] at *)
      simp only [tn, *, Int.reduceEq, ↓reduceIte]
      (try simp only [p1, p2, p3, p4, Int.mul_one, Int.mul_zero, Int.mul_neg, Int.sub_zero, Int.zero_sub, Int.add_zero, Int.zero_add, Int.neg_neg, Int.neg_zero] at *)
      all_goals (first | rfl | (simp only [Value.agg.injEq, Value.tuple.injEq, Array.mk.injEq, List.cons.injEq, Value.int.injEq, true_and, and_true]; omega))
    exact hv ▸ hp
  ·
    have h10 : (turned_b19 a b c d n) := by
      unfold turned_b19
      first | rfl | trivial | decide | (unfold B4; omega) | (constructor <;> unfold B4 <;> omega) | ((try simp (disch := omega) only [wi, r12, decide_eq_true_eq, decide_eq_false_iff_not] at *); omega)
    unfold turned_b19 at h10
    have hp := turned_p9 a b c d n ⟨⟨trivial, h0⟩, h10⟩ w hh
    have hv : turned_w9 a b c d n = (turned_val a b c d n) := by
      clear hp hh
      unfold turned_w9 turned_val
      (try simp (disch := omega) only [wi, r12, decide_eq_true_eq, decide_eq_false_iff_not] at *)
      simp only [tn, *, Int.reduceEq, ↓reduceIte]
      (try simp only [p1, p2, p3, p4, Int.mul_one, Int.mul_zero, Int.mul_neg, Int.sub_zero, Int.zero_sub, Int.add_zero, Int.zero_add, Int.neg_neg, Int.neg_zero] at *)
      all_goals (first | rfl | (simp only [Value.agg.injEq, Value.tuple.injEq, Array.mk.injEq, List.cons.injEq, Value.int.injEq, true_and, and_true]; omega))
    exact hv ▸ hp
  ·
    have h11 : (turned_b21 a b c d n) := by
      unfold turned_b21
      first | rfl | trivial | decide | (unfold B4; omega) | (constructor <;> unfold B4 <;> omega) | ((try simp (disch := omega) only [wi, r12, decide_eq_true_eq, decide_eq_false_iff_not] at *); omega)
    unfold turned_b21 at h11
    have hp := turned_p10 a b c d n ⟨⟨trivial, h0⟩, h11⟩ w hh
    have hv : turned_w10 a b c d n = (turned_val a b c d n) := by
      clear hp hh
      unfold turned_w10 turned_val
      (try simp (disch := omega) only [wi, r12, decide_eq_true_eq, decide_eq_false_iff_not] at *)
      simp only [tn, *, Int.reduceEq, ↓reduceIte]
      (try simp only [p1, p2, p3, p4, Int.mul_one, Int.mul_zero, Int.mul_neg, Int.sub_zero, Int.zero_sub, Int.add_zero, Int.zero_add, Int.neg_neg, Int.neg_zero] at *)
      all_goals (first | rfl | (simp only [Value.agg.injEq, Value.tuple.injEq, Array.mk.injEq, List.cons.injEq, Value.int.injEq, true_and, and_true]; omega))
    exact hv ▸ hp
  ·
    have h12 : (turned_b23 a b c d n) := by
      unfold turned_b23
      first | rfl | trivial | decide | (unfold B4; omega) | (constructor <;> unfold B4 <;> omega) | ((try simp (disch := omega) only [wi, r12, decide_eq_true_eq, decide_eq_false_iff_not] at *); omega)
    unfold turned_b23 at h12
    have hp := turned_p11 a b c d n ⟨⟨trivial, h0⟩, h12⟩ w hh
    have hv : turned_w11 a b c d n = (turned_val a b c d n) := by
      clear hp hh
      unfold turned_w11 turned_val
      (try simp (disch := omega) only [wi, r12, decide_eq_true_eq, decide_eq_false_iff_not] at *)
      simp only [tn, *, Int.reduceEq, ↓reduceIte]
      (try simp only [p1, p2, p3, p4, Int.mul_one, Int.mul_zero, Int.mul_neg, Int.sub_zero, Int.zero_sub, Int.add_zero, Int.zero_add, Int.neg_neg, Int.neg_zero] at *)
      all_goals (first | rfl | (simp only [Value.agg.injEq, Value.tuple.injEq, Array.mk.injEq, List.cons.injEq, Value.int.injEq, true_and, and_true]; omega))
    exact hv ▸ hp
theorem k_turned : ConOkT Tryz.prog T0 c_turned := fun ns hl => by
  have hl0 : ns.length = 5 := hl
  clear hl
  obtain ⟨a, ns0, rfl, hl1⟩ := len_cons hl0
  obtain ⟨b, ns1, rfl, hl2⟩ := len_cons hl1
  obtain ⟨c, ns2, rfl, hl3⟩ := len_cons hl2
  obtain ⟨d, ns3, rfl, hl4⟩ := len_cons hl3
  obtain ⟨n, ns4, rfl, hl5⟩ := len_cons hl4
  obtain rfl := len_nil hl5
  exact ⟨rfl, fun h w hh => turned_any a b c d n h w hh⟩
end Go.Proofs.YtgnmhapgciejfaaGreatDoor
end
section
set_option linter.all false
set_option maxRecDepth 1000000
set_option maxHeartbeats 2000000
open Go.RowKit
namespace Go.Proofs.YtgnmhapgciejfaaGreatDoor
open Mini

def hTurn_val (a b c d n : Int) : Value := .tuple #[.agg #[.int .i64 (cz (two (cn a b c d) (Pl.cr n (-100000) 100000)) ((tn a b c d n).1)), .int .i64 (cz (two (cn a b c d) (Pl.cr n (-100000) 100000)) ((tn a b c d n).2.1)), .int .i64 (cz (two (cn a b c d) (Pl.cr n (-100000) 100000)) ((tn a b c d n).2.2.1)), .int .i64 (cz (two (cn a b c d) (Pl.cr n (-100000) 100000)) ((tn a b c d n).2.2.2))], .int .i64 (two (cn a b c d) (Pl.cr n (-100000) 100000))]
theorem hTurn_X : FOkS Tryz.prog x_hTurn := bothX_ok (kAllT_ok (by kernel_rfl) _ ⟨k_turned, trivial⟩) (kAll_ok _ ⟨k_checkNumber, k_range, trivial⟩)
theorem hTurn_args (a b c d n : Int) : (#[.agg #[.int .i64 a, .int .i64 b, .int .i64 c, .int .i64 d], .int .i64 n] : Array Value).toList.all (ground 8) = true := by kernel_rfl
theorem hTurn_g0 : True := by first | rfl | trivial | decide | omega
theorem hTurn_g1 : (true = true) := by first | rfl | trivial | decide | omega
theorem hTurn_g2 : ((0 : Int) = (0 : Int)) := by first | rfl | trivial | decide | omega
def hTurn_c0 (a b c d n : Int) : Bool := ((cn a b c d) != (0 : Int))
theorem hTurn_g4 : ((1 : Int) = (1 : Int)) := by first | rfl | trivial | decide | omega
def hTurn_c1 (a b c d n : Int) : Bool := ((Pl.cr n (-100000 : Int) (100000 : Int)) != (0 : Int))
theorem hTurn_g6 : (false = false) := by first | rfl | trivial | decide | omega
def hTurn_b7 (a b c d n : Int) : Prop := (((-1048576 : Int) ≤ a) ∧ ((a ≤ (1048576 : Int)) ∧ (((-1048576 : Int) ≤ b) ∧ ((b ≤ (1048576 : Int)) ∧ (((-1048576 : Int) ≤ c) ∧ ((c ≤ (1048576 : Int)) ∧ (((-1048576 : Int) ≤ d) ∧ (d ≤ (1048576 : Int)))))))))
def hTurn_w0 (a b c d n : Int) : Value := .tuple #[.agg #[.int .i64 (tn a b c d n).1, .int .i64 ((tn a b c d n).2).1, .int .i64 (((tn a b c d n).2).2).1, .int .i64 (((tn a b c d n).2).2).2], .int .i64 (0 : Int)]
def hTurn_r0 (a b c d n : Int) : Prop := (((((((((((True ∧ (True)) ∧ (True)) ∧ ((true = true))) ∧ (((0 : Int) = (0 : Int)))) ∧ (hTurn_c0 a b c d n = false)) ∧ ((true = true))) ∧ (((1 : Int) = (1 : Int)))) ∧ (hTurn_c1 a b c d n = false)) ∧ ((false = false))) ∧ ((false = false))) ∧ (hTurn_b7 a b c d n))
theorem hTurn_o0 (a b c d n : Int) : obOf (hTurn_e0 a b c d n) = hTurn_r0 a b c d n := by kernel_rfl
theorem hTurn_v0 (a b c d n : Int) : resOf (hTurn_e0 a b c d n) = hTurn_w0 a b c d n := by kernel_rfl
theorem hTurn_k0 (a b c d n : Int) : cleanOf Tryz.prog.globals.size (hTurn_e0 a b c d n) = true := by kernel_rfl
theorem hTurn_q0 (a b c d n : Int) : hTurn_e0 a b c d n = evFS Tryz.prog x_hTurn 1000 19 #[.agg #[.int .i64 a, .int .i64 b, .int .i64 c, .int .i64 d], .int .i64 n] T0 ⟨[1, 0, 0, 1, 1, 0, 0, 0], True⟩ := by
  delta hTurn_e0
  exact Eq.refl _
theorem hTurn_p0 (a b c d n : Int) (h : hTurn_r0 a b c d n) (w : World) (hh : Holds Tryz.prog T0 w) : Calls Tryz.prog 19 #[.agg #[.int .i64 a, .int .i64 b, .int .i64 c, .int .i64 d], .int .i64 n] w fun en w' => en = .returned (hTurn_w0 a b c d n) ∧ Below w.heap.size w w' := by
  have hv := hTurn_v0 a b c d n
  have hc := hTurn_k0 a b c d n
  have he := hTurn_q0 a b c d n
  have ho := hTurn_o0 a b c d n
  generalize hTurn_e0 a b c d n = r at *
  exact calls_way he gfol hTurn_X hv rfl (hTurn_args a b c d n) hc ho h hh
def hTurn_w1 (a b c d n : Int) : Value := .tuple #[.agg #[.int .i64 (0 : Int), .int .i64 (0 : Int), .int .i64 (0 : Int), .int .i64 (0 : Int)], .int .i64 (Pl.cr n (-100000 : Int) (100000 : Int))]
def hTurn_r1 (a b c d n : Int) : Prop := (((((((((True ∧ (True)) ∧ (True)) ∧ ((true = true))) ∧ (((0 : Int) = (0 : Int)))) ∧ (hTurn_c0 a b c d n = false)) ∧ ((true = true))) ∧ (((1 : Int) = (1 : Int)))) ∧ (hTurn_c1 a b c d n = true)) ∧ (hTurn_c1 a b c d n = true))
theorem hTurn_o1 (a b c d n : Int) : obOf (hTurn_e1 a b c d n) = hTurn_r1 a b c d n := by kernel_rfl
theorem hTurn_v1 (a b c d n : Int) : resOf (hTurn_e1 a b c d n) = hTurn_w1 a b c d n := by kernel_rfl
theorem hTurn_k1 (a b c d n : Int) : cleanOf Tryz.prog.globals.size (hTurn_e1 a b c d n) = true := by kernel_rfl
theorem hTurn_q1 (a b c d n : Int) : hTurn_e1 a b c d n = evFS Tryz.prog x_hTurn 1000 19 #[.agg #[.int .i64 a, .int .i64 b, .int .i64 c, .int .i64 d], .int .i64 n] T0 ⟨[1, 0, 0, 1, 1, 1, 1], True⟩ := by
  delta hTurn_e1
  exact Eq.refl _
theorem hTurn_p1 (a b c d n : Int) (h : hTurn_r1 a b c d n) (w : World) (hh : Holds Tryz.prog T0 w) : Calls Tryz.prog 19 #[.agg #[.int .i64 a, .int .i64 b, .int .i64 c, .int .i64 d], .int .i64 n] w fun en w' => en = .returned (hTurn_w1 a b c d n) ∧ Below w.heap.size w w' := by
  have hv := hTurn_v1 a b c d n
  have hc := hTurn_k1 a b c d n
  have he := hTurn_q1 a b c d n
  have ho := hTurn_o1 a b c d n
  generalize hTurn_e1 a b c d n = r at *
  exact calls_way he gfol hTurn_X hv rfl (hTurn_args a b c d n) hc ho h hh
def hTurn_w2 (a b c d n : Int) : Value := .tuple #[.agg #[.int .i64 (0 : Int), .int .i64 (0 : Int), .int .i64 (0 : Int), .int .i64 (0 : Int)], .int .i64 (cn a b c d)]
def hTurn_r2 (a b c d n : Int) : Prop := ((((((True ∧ (True)) ∧ (True)) ∧ ((true = true))) ∧ (((0 : Int) = (0 : Int)))) ∧ (hTurn_c0 a b c d n = true)) ∧ (hTurn_c0 a b c d n = true))
theorem hTurn_o2 (a b c d n : Int) : obOf (hTurn_e2 a b c d n) = hTurn_r2 a b c d n := by kernel_rfl
theorem hTurn_v2 (a b c d n : Int) : resOf (hTurn_e2 a b c d n) = hTurn_w2 a b c d n := by kernel_rfl
theorem hTurn_k2 (a b c d n : Int) : cleanOf Tryz.prog.globals.size (hTurn_e2 a b c d n) = true := by kernel_rfl
theorem hTurn_q2 (a b c d n : Int) : hTurn_e2 a b c d n = evFS Tryz.prog x_hTurn 1000 19 #[.agg #[.int .i64 a, .int .i64 b, .int .i64 c, .int .i64 d], .int .i64 n] T0 ⟨[1, 0, 1, 1], True⟩ := by
  delta hTurn_e2
  exact Eq.refl _
theorem hTurn_p2 (a b c d n : Int) (h : hTurn_r2 a b c d n) (w : World) (hh : Holds Tryz.prog T0 w) : Calls Tryz.prog 19 #[.agg #[.int .i64 a, .int .i64 b, .int .i64 c, .int .i64 d], .int .i64 n] w fun en w' => en = .returned (hTurn_w2 a b c d n) ∧ Below w.heap.size w w' := by
  have hv := hTurn_v2 a b c d n
  have hc := hTurn_k2 a b c d n
  have he := hTurn_q2 a b c d n
  have ho := hTurn_o2 a b c d n
  generalize hTurn_e2 a b c d n = r at *
  exact calls_way he gfol hTurn_X hv rfl (hTurn_args a b c d n) hc ho h hh
theorem hTurn_any (a b c d n : Int) (hpre : True) (w : World) (hh : Holds Tryz.prog T0 w) : Calls Tryz.prog 19 #[.agg #[.int .i64 a, .int .i64 b, .int .i64 c, .int .i64 d], .int .i64 n] w fun en w' => en = .returned (hTurn_val a b c d n) ∧ Below w.heap.size w w' := by
  rcases Bool.eq_false_or_eq_true (hTurn_c0 a b c d n) with h0 | h0
  ·
    unfold hTurn_c0 at h0
    have hp := hTurn_p2 a b c d n ⟨⟨⟨⟨⟨⟨trivial, hTurn_g0⟩, hTurn_g0⟩, hTurn_g1⟩, hTurn_g2⟩, h0⟩, h0⟩ w hh
    have hv : hTurn_w2 a b c d n = (hTurn_val a b c d n) := by
      clear hp hh
      unfold hTurn_w2 hTurn_val
      (try simp only [bne_eq_false_iff_eq, bne_iff_ne, ne_eq, beq_iff_eq, beq_eq_false_iff_ne] at *); simp [cz, two, *]
    exact hv ▸ hp
  ·
    unfold hTurn_c0 at h0
    rcases Bool.eq_false_or_eq_true (hTurn_c1 a b c d n) with h1 | h1
    ·
      unfold hTurn_c1 at h1
      have hp := hTurn_p1 a b c d n ⟨⟨⟨⟨⟨⟨⟨⟨⟨trivial, hTurn_g0⟩, hTurn_g0⟩, hTurn_g1⟩, hTurn_g2⟩, h0⟩, hTurn_g1⟩, hTurn_g4⟩, h1⟩, h1⟩ w hh
      have hv : hTurn_w1 a b c d n = (hTurn_val a b c d n) := by
        clear hp hh
        unfold hTurn_w1 hTurn_val
        (try simp only [bne_eq_false_iff_eq, bne_iff_ne, ne_eq, beq_iff_eq, beq_eq_false_iff_ne] at *); simp [cz, two, *]
      exact hv ▸ hp
    ·
      unfold hTurn_c1 at h1
      have h2 : (hTurn_b7 a b c d n) := by
        unfold hTurn_b7
        first | rfl | trivial | ((try simp only [bne_eq_false_iff_eq, bne_iff_ne, ne_eq, beq_iff_eq, beq_eq_false_iff_ne] at *) <;> first | assumption | exact ⟨b16of (by assumption), b4of (by assumption)⟩ | exact ⟨b4of (by assumption), cr0.1 (by assumption)⟩ | exact b4of (by assumption) | exact root0 (by assumption) | exact root1 (by assumption) (by assumption) | (simp [cz, two, *]; done))
      unfold hTurn_b7 at h2
      have hp := hTurn_p0 a b c d n ⟨⟨⟨⟨⟨⟨⟨⟨⟨⟨⟨trivial, hTurn_g0⟩, hTurn_g0⟩, hTurn_g1⟩, hTurn_g2⟩, h0⟩, hTurn_g1⟩, hTurn_g4⟩, h1⟩, hTurn_g6⟩, hTurn_g6⟩, h2⟩ w hh
      have hv : hTurn_w0 a b c d n = (hTurn_val a b c d n) := by
        clear hp hh
        unfold hTurn_w0 hTurn_val
        (try simp only [bne_eq_false_iff_eq, bne_iff_ne, ne_eq, beq_iff_eq, beq_eq_false_iff_ne] at *); simp [cz, two, *]
      exact hv ▸ hp
theorem k_hTurn : ConOkT Tryz.prog T0 c_hTurn := fun ns hl => by
  have hl0 : ns.length = 5 := hl
  clear hl
  obtain ⟨a, ns0, rfl, hl1⟩ := len_cons hl0
  obtain ⟨b, ns1, rfl, hl2⟩ := len_cons hl1
  obtain ⟨c, ns2, rfl, hl3⟩ := len_cons hl2
  obtain ⟨d, ns3, rfl, hl4⟩ := len_cons hl3
  obtain ⟨n, ns4, rfl, hl5⟩ := len_cons hl4
  obtain rfl := len_nil hl5
  exact ⟨rfl, fun h w hh => hTurn_any a b c d n h w hh⟩
end Go.Proofs.YtgnmhapgciejfaaGreatDoor
end
section
set_option linter.all false
set_option maxRecDepth 1000000
set_option maxHeartbeats 2000000
open Go.RowKit
namespace Go.Proofs.YtgnmhapgciejfaaGreatDoor
open Mini

def strength_val (a b c d : Int) : Value := .agg #[.int .i64 (sA a b c d), .int .i64 (sB a b c d)]
theorem strength_X : FOkS Tryz.prog x_strength := noXS_ok
theorem strength_args (a b c d : Int) : (#[.agg #[.int .i64 a, .int .i64 b, .int .i64 c, .int .i64 d]] : Array Value).toList.all (ground 8) = true := by kernel_rfl
def strength_w0 (a b c d : Int) : Value := .agg #[.int .i64 (IntKind.i64.wrap ((IntKind.i64.wrap ((IntKind.i64.wrap ((IntKind.i64.wrap (a * a)) - (IntKind.i64.wrap (a * b)))) + (IntKind.i64.wrap (b * b)))) + (IntKind.i64.wrap ((IntKind.i64.wrap ((IntKind.i64.wrap (c * c)) - (IntKind.i64.wrap (c * d)))) + (IntKind.i64.wrap (d * d)))))), .int .i64 (IntKind.i64.wrap ((0 : Int) - (IntKind.i64.wrap ((IntKind.i64.wrap ((IntKind.i64.wrap (c * (IntKind.i64.wrap ((0 : Int) - b)))) + (IntKind.i64.wrap (d * (IntKind.i64.wrap (a - b)))))) - (IntKind.i64.wrap (d * (IntKind.i64.wrap ((0 : Int) - b))))))))]
def strength_r0 (a b c d : Int) : Prop := True
theorem strength_o0 (a b c d : Int) : obOf (strength_e0 a b c d) = strength_r0 a b c d := by kernel_rfl
theorem strength_v0 (a b c d : Int) : resOf (strength_e0 a b c d) = strength_w0 a b c d := by kernel_rfl
theorem strength_k0 (a b c d : Int) : cleanOf Tryz.prog.globals.size (strength_e0 a b c d) = true := by kernel_rfl
theorem strength_q0 (a b c d : Int) : strength_e0 a b c d = evFS Tryz.prog x_strength 1000 71 #[.agg #[.int .i64 a, .int .i64 b, .int .i64 c, .int .i64 d]] (noTabs 7) ⟨[], True⟩ := by
  delta strength_e0
  exact Eq.refl _
theorem strength_p0 (a b c d : Int) (h : strength_r0 a b c d) (w : World) : Calls Tryz.prog 71 #[.agg #[.int .i64 a, .int .i64 b, .int .i64 c, .int .i64 d]] w fun en w' => en = .returned (strength_w0 a b c d) ∧ Below w.heap.size w w' := by
  have hv := strength_v0 a b c d
  have hc := strength_k0 a b c d
  have he := strength_q0 a b c d
  have ho := strength_o0 a b c d
  generalize strength_e0 a b c d = r at *
  exact calls_way he gfol strength_X hv rfl (strength_args a b c d) hc ho h (bl w)
theorem strength_any (a b c d : Int) (hpre : B4 1048576 a b c d) (w : World) : Calls Tryz.prog 71 #[.agg #[.int .i64 a, .int .i64 b, .int .i64 c, .int .i64 d]] w fun en w' => en = .returned (strength_val a b c d) ∧ Below w.heap.size w w' := by
  obtain ⟨q1, q2, q3, q4, q5, q6, q7, q8⟩ := hpre
  have b_aa := bd 1048576 1048576 a a (by omega) (by omega) ⟨by omega, by omega⟩ ⟨by omega, by omega⟩
  have b_ab := bd 1048576 1048576 a b (by omega) (by omega) ⟨by omega, by omega⟩ ⟨by omega, by omega⟩
  have b_bb := bd 1048576 1048576 b b (by omega) (by omega) ⟨by omega, by omega⟩ ⟨by omega, by omega⟩
  have b_cc := bd 1048576 1048576 c c (by omega) (by omega) ⟨by omega, by omega⟩ ⟨by omega, by omega⟩
  have b_cd := bd 1048576 1048576 c d (by omega) (by omega) ⟨by omega, by omega⟩ ⟨by omega, by omega⟩
  have b_dd := bd 1048576 1048576 d d (by omega) (by omega) ⟨by omega, by omega⟩ ⟨by omega, by omega⟩
  have b_cb := bd 1048576 1048576 c b (by omega) (by omega) ⟨by omega, by omega⟩ ⟨by omega, by omega⟩
  have b_da := bd 1048576 1048576 d a (by omega) (by omega) ⟨by omega, by omega⟩ ⟨by omega, by omega⟩
  have b_db := bd 1048576 1048576 d b (by omega) (by omega) ⟨by omega, by omega⟩ ⟨by omega, by omega⟩
  have b_ac := bd 1048576 1048576 a c (by omega) (by omega) ⟨by omega, by omega⟩ ⟨by omega, by omega⟩
  have b_ad := bd 1048576 1048576 a d (by omega) (by omega) ⟨by omega, by omega⟩ ⟨by omega, by omega⟩
  have b_ca := bd 1048576 1048576 c a (by omega) (by omega) ⟨by omega, by omega⟩ ⟨by omega, by omega⟩
  have b_bc := bd 1048576 1048576 b c (by omega) (by omega) ⟨by omega, by omega⟩ ⟨by omega, by omega⟩
  have b_bd := bd 1048576 1048576 b d (by omega) (by omega) ⟨by omega, by omega⟩ ⟨by omega, by omega⟩
  have hp := strength_p0 a b c d trivial w
  have hv : strength_w0 a b c d = (strength_val a b c d) := by
    clear hp
    unfold strength_w0 strength_val
    (try simp (disch := omega) only [wi, Int.mul_sub, Int.mul_zero])
    simp only [sA, sB]
    first | rfl | (simp only [Value.agg.injEq, Array.mk.injEq, List.cons.injEq, Value.int.injEq, true_and, and_true]; grind)
  exact hv ▸ hp
theorem k_strength : ConOk Tryz.prog c_strength := fun ns hl => by
  have hl0 : ns.length = 4 := hl
  clear hl
  obtain ⟨a, ns0, rfl, hl1⟩ := len_cons hl0
  obtain ⟨b, ns1, rfl, hl2⟩ := len_cons hl1
  obtain ⟨c, ns2, rfl, hl3⟩ := len_cons hl2
  obtain ⟨d, ns3, rfl, hl4⟩ := len_cons hl3
  obtain rfl := len_nil hl4
  exact ⟨rfl, fun h w => strength_any a b c d h w⟩
end Go.Proofs.YtgnmhapgciejfaaGreatDoor
end
section
set_option linter.all false
set_option maxRecDepth 1000000
set_option maxHeartbeats 2000000
open Go.RowKit
namespace Go.Proofs.YtgnmhapgciejfaaGreatDoor
open Mini

def hStr_val (a b c d : Int) : Value := .tuple #[.agg #[.int .i64 (cz (cn a b c d) (sA a b c d)), .int .i64 (cz (cn a b c d) (sB a b c d))], .int .i64 (cn a b c d)]
theorem hStr_X : FOkS Tryz.prog x_hStr := kAll_ok _ ⟨k_checkNumber, k_strength, trivial⟩
theorem hStr_args (a b c d : Int) : (#[.agg #[.int .i64 a, .int .i64 b, .int .i64 c, .int .i64 d]] : Array Value).toList.all (ground 8) = true := by kernel_rfl
theorem hStr_g0 : True := by first | rfl | trivial | decide | omega
def hStr_c0 (a b c d : Int) : Bool := ((cn a b c d) != (0 : Int))
def hStr_b2 (a b c d : Int) : Prop := (((-1048576 : Int) ≤ a) ∧ ((a ≤ (1048576 : Int)) ∧ (((-1048576 : Int) ≤ b) ∧ ((b ≤ (1048576 : Int)) ∧ (((-1048576 : Int) ≤ c) ∧ ((c ≤ (1048576 : Int)) ∧ (((-1048576 : Int) ≤ d) ∧ (d ≤ (1048576 : Int)))))))))
def hStr_w0 (a b c d : Int) : Value := .tuple #[.agg #[.int .i64 (sA a b c d), .int .i64 (sB a b c d)], .int .i64 (0 : Int)]
def hStr_r0 (a b c d : Int) : Prop := (((True ∧ (True)) ∧ (hStr_c0 a b c d = false)) ∧ (hStr_b2 a b c d))
theorem hStr_o0 (a b c d : Int) : obOf (hStr_e0 a b c d) = hStr_r0 a b c d := by kernel_rfl
theorem hStr_v0 (a b c d : Int) : resOf (hStr_e0 a b c d) = hStr_w0 a b c d := by kernel_rfl
theorem hStr_k0 (a b c d : Int) : cleanOf Tryz.prog.globals.size (hStr_e0 a b c d) = true := by kernel_rfl
theorem hStr_q0 (a b c d : Int) : hStr_e0 a b c d = evFS Tryz.prog x_hStr 1000 20 #[.agg #[.int .i64 a, .int .i64 b, .int .i64 c, .int .i64 d]] (noTabs 7) ⟨[0], True⟩ := by
  delta hStr_e0
  exact Eq.refl _
theorem hStr_p0 (a b c d : Int) (h : hStr_r0 a b c d) (w : World) : Calls Tryz.prog 20 #[.agg #[.int .i64 a, .int .i64 b, .int .i64 c, .int .i64 d]] w fun en w' => en = .returned (hStr_w0 a b c d) ∧ Below w.heap.size w w' := by
  have hv := hStr_v0 a b c d
  have hc := hStr_k0 a b c d
  have he := hStr_q0 a b c d
  have ho := hStr_o0 a b c d
  generalize hStr_e0 a b c d = r at *
  exact calls_way he gfol hStr_X hv rfl (hStr_args a b c d) hc ho h (bl w)
def hStr_w1 (a b c d : Int) : Value := .tuple #[.agg #[.int .i64 (0 : Int), .int .i64 (0 : Int)], .int .i64 (cn a b c d)]
def hStr_r1 (a b c d : Int) : Prop := ((True ∧ (True)) ∧ (hStr_c0 a b c d = true))
theorem hStr_o1 (a b c d : Int) : obOf (hStr_e1 a b c d) = hStr_r1 a b c d := by kernel_rfl
theorem hStr_v1 (a b c d : Int) : resOf (hStr_e1 a b c d) = hStr_w1 a b c d := by kernel_rfl
theorem hStr_k1 (a b c d : Int) : cleanOf Tryz.prog.globals.size (hStr_e1 a b c d) = true := by kernel_rfl
theorem hStr_q1 (a b c d : Int) : hStr_e1 a b c d = evFS Tryz.prog x_hStr 1000 20 #[.agg #[.int .i64 a, .int .i64 b, .int .i64 c, .int .i64 d]] (noTabs 7) ⟨[1], True⟩ := by
  delta hStr_e1
  exact Eq.refl _
theorem hStr_p1 (a b c d : Int) (h : hStr_r1 a b c d) (w : World) : Calls Tryz.prog 20 #[.agg #[.int .i64 a, .int .i64 b, .int .i64 c, .int .i64 d]] w fun en w' => en = .returned (hStr_w1 a b c d) ∧ Below w.heap.size w w' := by
  have hv := hStr_v1 a b c d
  have hc := hStr_k1 a b c d
  have he := hStr_q1 a b c d
  have ho := hStr_o1 a b c d
  generalize hStr_e1 a b c d = r at *
  exact calls_way he gfol hStr_X hv rfl (hStr_args a b c d) hc ho h (bl w)
theorem hStr_any (a b c d : Int) (hpre : True) (w : World) : Calls Tryz.prog 20 #[.agg #[.int .i64 a, .int .i64 b, .int .i64 c, .int .i64 d]] w fun en w' => en = .returned (hStr_val a b c d) ∧ Below w.heap.size w w' := by
  rcases Bool.eq_false_or_eq_true (hStr_c0 a b c d) with h0 | h0
  ·
    unfold hStr_c0 at h0
    have hp := hStr_p1 a b c d ⟨⟨trivial, hStr_g0⟩, h0⟩ w
    have hv : hStr_w1 a b c d = (hStr_val a b c d) := by
      clear hp
      unfold hStr_w1 hStr_val
      (try simp only [bne_eq_false_iff_eq, bne_iff_ne, ne_eq, beq_iff_eq, beq_eq_false_iff_ne] at *); simp [cz, two, *]
    exact hv ▸ hp
  ·
    unfold hStr_c0 at h0
    have h1 : (hStr_b2 a b c d) := by
      unfold hStr_b2
      first | rfl | trivial | ((try simp only [bne_eq_false_iff_eq, bne_iff_ne, ne_eq, beq_iff_eq, beq_eq_false_iff_ne] at *) <;> first | assumption | exact ⟨b16of (by assumption), b4of (by assumption)⟩ | exact ⟨b4of (by assumption), cr0.1 (by assumption)⟩ | exact b4of (by assumption) | exact root0 (by assumption) | exact root1 (by assumption) (by assumption) | (simp [cz, two, *]; done))
    unfold hStr_b2 at h1
    have hp := hStr_p0 a b c d ⟨⟨⟨trivial, hStr_g0⟩, h0⟩, h1⟩ w
    have hv : hStr_w0 a b c d = (hStr_val a b c d) := by
      clear hp
      unfold hStr_w0 hStr_val
      (try simp only [bne_eq_false_iff_eq, bne_iff_ne, ne_eq, beq_iff_eq, beq_eq_false_iff_ne] at *); simp [cz, two, *]
    exact hv ▸ hp
theorem k_hStr : ConOk Tryz.prog c_hStr := fun ns hl => by
  have hl0 : ns.length = 4 := hl
  clear hl
  obtain ⟨a, ns0, rfl, hl1⟩ := len_cons hl0
  obtain ⟨b, ns1, rfl, hl2⟩ := len_cons hl1
  obtain ⟨c, ns2, rfl, hl3⟩ := len_cons hl2
  obtain ⟨d, ns3, rfl, hl4⟩ := len_cons hl3
  obtain rfl := len_nil hl4
  exact ⟨rfl, fun h w => hStr_any a b c d h w⟩
end Go.Proofs.YtgnmhapgciejfaaGreatDoor
end
section
set_option linter.all false
set_option maxRecDepth 1000000
set_option maxHeartbeats 2000000
open Go.RowKit
namespace Go.Proofs.YtgnmhapgciejfaaGreatDoor
open Mini

def sign_val (a b : Int) : Value := .int .i64 (sgn a b)
theorem sign_X : FOkS Tryz.prog x_sign := noXS_ok
theorem sign_args (a b : Int) : (#[.agg #[.int .i64 a, .int .i64 b]] : Array Value).toList.all (ground 8) = true := by kernel_rfl
def sign_c0 (a b : Int) : Bool := (a != a)
theorem sign_g1 : (false = false) := by first | rfl | trivial | decide | omega
def sign_c1 (a b : Int) : Bool := (decide (a < (0 : Int)))
def sign_c2 (a b : Int) : Bool := (b != b)
def sign_c3 (a b : Int) : Bool := (decide (b < (0 : Int)))
theorem sign_g5 : (true = true) := by first | rfl | trivial | decide | omega
theorem sign_g6 : ((0 : Int) = (0 : Int)) := by first | rfl | trivial | decide | omega
def sign_c4 (a b : Int) : Bool := (decide (b > (0 : Int)))
theorem sign_g9 : ((1 : Int) = (1 : Int)) := by first | rfl | trivial | decide | omega
def sign_c5 (a b : Int) : Bool := (decide ((IntKind.i64.wrap (a * a)) > (IntKind.i64.wrap ((IntKind.i64.wrap ((3 : Int) * b)) * b))))
def sign_c6 (a b : Int) : Bool := (decide (a > (0 : Int)))
def sign_w0 (a b : Int) : Value := .int .i64 (-1 : Int)
def sign_r0 (a b : Int) : Prop := (((((((((((((((((((((((True ∧ (sign_c0 a b = false)) ∧ ((false = false))) ∧ (sign_c1 a b = true)) ∧ (sign_c2 a b = false)) ∧ ((false = false))) ∧ (sign_c3 a b = true)) ∧ ((false = false))) ∧ ((false = false))) ∧ ((false = false))) ∧ ((false = false))) ∧ ((false = false))) ∧ ((false = false))) ∧ ((false = false))) ∧ ((false = false))) ∧ ((false = false))) ∧ ((false = false))) ∧ ((false = false))) ∧ ((false = false))) ∧ ((false = false))) ∧ ((false = false))) ∧ ((true = true))) ∧ (((0 : Int) = (0 : Int)))) ∧ ((true = true)))
theorem sign_o0 (a b : Int) : obOf (sign_e0 a b) = sign_r0 a b := by kernel_rfl
theorem sign_v0 (a b : Int) : resOf (sign_e0 a b) = sign_w0 a b := by kernel_rfl
theorem sign_k0 (a b : Int) : cleanOf Tryz.prog.globals.size (sign_e0 a b) = true := by kernel_rfl
theorem sign_q0 (a b : Int) : sign_e0 a b = evFS Tryz.prog x_sign 1000 73 #[.agg #[.int .i64 a, .int .i64 b]] (noTabs 7) ⟨[0, 0, 1, 0, 0, 1, 0, 0, 0, 0, 0, 0, 0, 0, 0, 0, 0, 0, 0, 0, 1, 0, 1], True⟩ := by
  delta sign_e0
  exact Eq.refl _
theorem sign_p0 (a b : Int) (h : sign_r0 a b) (w : World) : Calls Tryz.prog 73 #[.agg #[.int .i64 a, .int .i64 b]] w fun en w' => en = .returned (sign_w0 a b) ∧ Below w.heap.size w w' := by
  have hv := sign_v0 a b
  have hc := sign_k0 a b
  have he := sign_q0 a b
  have ho := sign_o0 a b
  generalize sign_e0 a b = r at *
  exact calls_way he gfol sign_X hv rfl (sign_args a b) hc ho h (bl w)
def sign_w1 (a b : Int) : Value := .int .i64 (-1 : Int)
def sign_r1 (a b : Int) : Prop := (((((((((((((((((((((((((((True ∧ (sign_c0 a b = false)) ∧ ((false = false))) ∧ (sign_c1 a b = true)) ∧ (sign_c2 a b = false)) ∧ ((false = false))) ∧ (sign_c3 a b = false)) ∧ (sign_c4 a b = false)) ∧ ((false = false))) ∧ ((false = false))) ∧ ((false = false))) ∧ ((false = false))) ∧ ((false = false))) ∧ ((false = false))) ∧ ((false = false))) ∧ ((false = false))) ∧ ((false = false))) ∧ ((false = false))) ∧ ((false = false))) ∧ ((false = false))) ∧ ((false = false))) ∧ ((false = false))) ∧ ((true = true))) ∧ (((0 : Int) = (0 : Int)))) ∧ ((false = false))) ∧ ((true = true))) ∧ (((1 : Int) = (1 : Int)))) ∧ ((true = true)))
theorem sign_o1 (a b : Int) : obOf (sign_e1 a b) = sign_r1 a b := by kernel_rfl
theorem sign_v1 (a b : Int) : resOf (sign_e1 a b) = sign_w1 a b := by kernel_rfl
theorem sign_k1 (a b : Int) : cleanOf Tryz.prog.globals.size (sign_e1 a b) = true := by kernel_rfl
theorem sign_q1 (a b : Int) : sign_e1 a b = evFS Tryz.prog x_sign 1000 73 #[.agg #[.int .i64 a, .int .i64 b]] (noTabs 7) ⟨[0, 0, 1, 0, 0, 0, 0, 0, 0, 0, 0, 0, 0, 0, 0, 0, 0, 0, 0, 0, 0, 1, 0, 0, 1, 1, 1], True⟩ := by
  delta sign_e1
  exact Eq.refl _
theorem sign_p1 (a b : Int) (h : sign_r1 a b) (w : World) : Calls Tryz.prog 73 #[.agg #[.int .i64 a, .int .i64 b]] w fun en w' => en = .returned (sign_w1 a b) ∧ Below w.heap.size w w' := by
  have hv := sign_v1 a b
  have hc := sign_k1 a b
  have he := sign_q1 a b
  have ho := sign_o1 a b
  generalize sign_e1 a b = r at *
  exact calls_way he gfol sign_X hv rfl (sign_args a b) hc ho h (bl w)
def sign_w2 (a b : Int) : Value := .int .i64 (-1 : Int)
def sign_r2 (a b : Int) : Prop := (((((((((((((((((((((True ∧ (sign_c0 a b = false)) ∧ ((false = false))) ∧ (sign_c1 a b = true)) ∧ (sign_c2 a b = false)) ∧ ((false = false))) ∧ (sign_c3 a b = false)) ∧ (sign_c4 a b = true)) ∧ ((true = true))) ∧ ((true = true))) ∧ ((true = true))) ∧ ((true = true))) ∧ ((true = true))) ∧ ((true = true))) ∧ ((true = true))) ∧ ((true = true))) ∧ ((true = true))) ∧ ((true = true))) ∧ ((true = true))) ∧ ((true = true))) ∧ ((true = true))) ∧ (sign_c5 a b = true))
theorem sign_o2 (a b : Int) : obOf (sign_e2 a b) = sign_r2 a b := by kernel_rfl
theorem sign_v2 (a b : Int) : resOf (sign_e2 a b) = sign_w2 a b := by kernel_rfl
theorem sign_k2 (a b : Int) : cleanOf Tryz.prog.globals.size (sign_e2 a b) = true := by kernel_rfl
theorem sign_q2 (a b : Int) : sign_e2 a b = evFS Tryz.prog x_sign 1000 73 #[.agg #[.int .i64 a, .int .i64 b]] (noTabs 7) ⟨[0, 0, 1, 0, 0, 0, 1, 1, 1, 1, 1, 1, 1, 1, 1, 1, 1, 1, 1, 1, 1], True⟩ := by
  delta sign_e2
  exact Eq.refl _
theorem sign_p2 (a b : Int) (h : sign_r2 a b) (w : World) : Calls Tryz.prog 73 #[.agg #[.int .i64 a, .int .i64 b]] w fun en w' => en = .returned (sign_w2 a b) ∧ Below w.heap.size w w' := by
  have hv := sign_v2 a b
  have hc := sign_k2 a b
  have he := sign_q2 a b
  have ho := sign_o2 a b
  generalize sign_e2 a b = r at *
  exact calls_way he gfol sign_X hv rfl (sign_args a b) hc ho h (bl w)
def sign_w3 (a b : Int) : Value := .int .i64 (1 : Int)
def sign_r3 (a b : Int) : Prop := ((((((((((((((((((((((((True ∧ (sign_c0 a b = false)) ∧ ((false = false))) ∧ (sign_c1 a b = true)) ∧ (sign_c2 a b = false)) ∧ ((false = false))) ∧ (sign_c3 a b = false)) ∧ (sign_c4 a b = true)) ∧ ((true = true))) ∧ ((true = true))) ∧ ((true = true))) ∧ ((true = true))) ∧ ((true = true))) ∧ ((true = true))) ∧ ((true = true))) ∧ ((true = true))) ∧ ((true = true))) ∧ ((true = true))) ∧ ((true = true))) ∧ ((true = true))) ∧ ((true = true))) ∧ (sign_c5 a b = false)) ∧ ((true = true))) ∧ (((0 : Int) = (0 : Int)))) ∧ ((true = true)))
theorem sign_o3 (a b : Int) : obOf (sign_e3 a b) = sign_r3 a b := by kernel_rfl
theorem sign_v3 (a b : Int) : resOf (sign_e3 a b) = sign_w3 a b := by kernel_rfl
theorem sign_k3 (a b : Int) : cleanOf Tryz.prog.globals.size (sign_e3 a b) = true := by kernel_rfl
theorem sign_q3 (a b : Int) : sign_e3 a b = evFS Tryz.prog x_sign 1000 73 #[.agg #[.int .i64 a, .int .i64 b]] (noTabs 7) ⟨[0, 0, 1, 0, 0, 0, 1, 1, 1, 1, 1, 1, 1, 1, 1, 1, 1, 1, 1, 1, 0, 1, 0, 1], True⟩ := by
  delta sign_e3
  exact Eq.refl _
theorem sign_p3 (a b : Int) (h : sign_r3 a b) (w : World) : Calls Tryz.prog 73 #[.agg #[.int .i64 a, .int .i64 b]] w fun en w' => en = .returned (sign_w3 a b) ∧ Below w.heap.size w w' := by
  have hv := sign_v3 a b
  have hc := sign_k3 a b
  have he := sign_q3 a b
  have ho := sign_o3 a b
  generalize sign_e3 a b = r at *
  exact calls_way he gfol sign_X hv rfl (sign_args a b) hc ho h (bl w)
def sign_w4 (a b : Int) : Value := .int .i64 (-1 : Int)
def sign_r4 (a b : Int) : Prop := ((((((((((((((((((((((((True ∧ (sign_c0 a b = false)) ∧ ((false = false))) ∧ (sign_c1 a b = false)) ∧ (sign_c6 a b = false)) ∧ (sign_c2 a b = false)) ∧ ((false = false))) ∧ (sign_c3 a b = true)) ∧ ((false = false))) ∧ ((false = false))) ∧ ((false = false))) ∧ ((false = false))) ∧ ((false = false))) ∧ ((false = false))) ∧ ((false = false))) ∧ ((false = false))) ∧ ((false = false))) ∧ ((false = false))) ∧ ((false = false))) ∧ ((false = false))) ∧ ((false = false))) ∧ ((false = false))) ∧ ((true = true))) ∧ (((0 : Int) = (0 : Int)))) ∧ ((true = true)))
theorem sign_o4 (a b : Int) : obOf (sign_e4 a b) = sign_r4 a b := by kernel_rfl
theorem sign_v4 (a b : Int) : resOf (sign_e4 a b) = sign_w4 a b := by kernel_rfl
theorem sign_k4 (a b : Int) : cleanOf Tryz.prog.globals.size (sign_e4 a b) = true := by kernel_rfl
theorem sign_q4 (a b : Int) : sign_e4 a b = evFS Tryz.prog x_sign 1000 73 #[.agg #[.int .i64 a, .int .i64 b]] (noTabs 7) ⟨[0, 0, 0, 0, 0, 0, 1, 0, 0, 0, 0, 0, 0, 0, 0, 0, 0, 0, 0, 0, 0, 1, 0, 1], True⟩ := by
  delta sign_e4
  exact Eq.refl _
theorem sign_p4 (a b : Int) (h : sign_r4 a b) (w : World) : Calls Tryz.prog 73 #[.agg #[.int .i64 a, .int .i64 b]] w fun en w' => en = .returned (sign_w4 a b) ∧ Below w.heap.size w w' := by
  have hv := sign_v4 a b
  have hc := sign_k4 a b
  have he := sign_q4 a b
  have ho := sign_o4 a b
  generalize sign_e4 a b = r at *
  exact calls_way he gfol sign_X hv rfl (sign_args a b) hc ho h (bl w)
def sign_w5 (a b : Int) : Value := .int .i64 (0 : Int)
def sign_r5 (a b : Int) : Prop := (((((((((((((((((((((((((((((True ∧ (sign_c0 a b = false)) ∧ ((false = false))) ∧ (sign_c1 a b = false)) ∧ (sign_c6 a b = false)) ∧ (sign_c2 a b = false)) ∧ ((false = false))) ∧ (sign_c3 a b = false)) ∧ (sign_c4 a b = false)) ∧ ((true = true))) ∧ ((true = true))) ∧ ((true = true))) ∧ ((true = true))) ∧ ((true = true))) ∧ ((true = true))) ∧ ((true = true))) ∧ ((true = true))) ∧ ((true = true))) ∧ ((true = true))) ∧ ((true = true))) ∧ ((true = true))) ∧ ((true = true))) ∧ (sign_c5 a b = false)) ∧ ((true = true))) ∧ (((0 : Int) = (0 : Int)))) ∧ ((false = false))) ∧ ((true = true))) ∧ (((1 : Int) = (1 : Int)))) ∧ ((false = false))) ∧ ((false = false)))
theorem sign_o5 (a b : Int) : obOf (sign_e5 a b) = sign_r5 a b := by kernel_rfl
theorem sign_v5 (a b : Int) : resOf (sign_e5 a b) = sign_w5 a b := by kernel_rfl
theorem sign_k5 (a b : Int) : cleanOf Tryz.prog.globals.size (sign_e5 a b) = true := by kernel_rfl
theorem sign_q5 (a b : Int) : sign_e5 a b = evFS Tryz.prog x_sign 1000 73 #[.agg #[.int .i64 a, .int .i64 b]] (noTabs 7) ⟨[0, 0, 0, 0, 0, 0, 0, 0, 1, 1, 1, 1, 1, 1, 1, 1, 1, 1, 1, 1, 1, 0, 1, 0, 0, 1, 1, 0, 0], True⟩ := by
  delta sign_e5
  exact Eq.refl _
theorem sign_p5 (a b : Int) (h : sign_r5 a b) (w : World) : Calls Tryz.prog 73 #[.agg #[.int .i64 a, .int .i64 b]] w fun en w' => en = .returned (sign_w5 a b) ∧ Below w.heap.size w w' := by
  have hv := sign_v5 a b
  have hc := sign_k5 a b
  have he := sign_q5 a b
  have ho := sign_o5 a b
  generalize sign_e5 a b = r at *
  exact calls_way he gfol sign_X hv rfl (sign_args a b) hc ho h (bl w)
def sign_w6 (a b : Int) : Value := .int .i64 (1 : Int)
def sign_r6 (a b : Int) : Prop := (((((((((((((((((((((((((True ∧ (sign_c0 a b = false)) ∧ ((false = false))) ∧ (sign_c1 a b = false)) ∧ (sign_c6 a b = false)) ∧ (sign_c2 a b = false)) ∧ ((false = false))) ∧ (sign_c3 a b = false)) ∧ (sign_c4 a b = true)) ∧ ((false = false))) ∧ ((false = false))) ∧ ((false = false))) ∧ ((false = false))) ∧ ((false = false))) ∧ ((false = false))) ∧ ((false = false))) ∧ ((false = false))) ∧ ((false = false))) ∧ ((false = false))) ∧ ((false = false))) ∧ ((false = false))) ∧ ((false = false))) ∧ ((false = false))) ∧ ((true = true))) ∧ (((0 : Int) = (0 : Int)))) ∧ ((true = true)))
theorem sign_o6 (a b : Int) : obOf (sign_e6 a b) = sign_r6 a b := by kernel_rfl
theorem sign_v6 (a b : Int) : resOf (sign_e6 a b) = sign_w6 a b := by kernel_rfl
theorem sign_k6 (a b : Int) : cleanOf Tryz.prog.globals.size (sign_e6 a b) = true := by kernel_rfl
theorem sign_q6 (a b : Int) : sign_e6 a b = evFS Tryz.prog x_sign 1000 73 #[.agg #[.int .i64 a, .int .i64 b]] (noTabs 7) ⟨[0, 0, 0, 0, 0, 0, 0, 1, 0, 0, 0, 0, 0, 0, 0, 0, 0, 0, 0, 0, 0, 0, 1, 0, 1], True⟩ := by
  delta sign_e6
  exact Eq.refl _
theorem sign_p6 (a b : Int) (h : sign_r6 a b) (w : World) : Calls Tryz.prog 73 #[.agg #[.int .i64 a, .int .i64 b]] w fun en w' => en = .returned (sign_w6 a b) ∧ Below w.heap.size w w' := by
  have hv := sign_v6 a b
  have hc := sign_k6 a b
  have he := sign_q6 a b
  have ho := sign_o6 a b
  generalize sign_e6 a b = r at *
  exact calls_way he gfol sign_X hv rfl (sign_args a b) hc ho h (bl w)
def sign_w7 (a b : Int) : Value := .int .i64 (-1 : Int)
def sign_r7 (a b : Int) : Prop := ((((((((((((((((((((((((True ∧ (sign_c0 a b = false)) ∧ ((false = false))) ∧ (sign_c1 a b = false)) ∧ (sign_c6 a b = true)) ∧ (sign_c2 a b = false)) ∧ ((false = false))) ∧ (sign_c3 a b = true)) ∧ ((true = true))) ∧ ((true = true))) ∧ ((true = true))) ∧ ((true = true))) ∧ ((true = true))) ∧ ((true = true))) ∧ ((true = true))) ∧ ((true = true))) ∧ ((true = true))) ∧ ((true = true))) ∧ ((true = true))) ∧ ((true = true))) ∧ ((true = true))) ∧ (sign_c5 a b = false)) ∧ ((true = true))) ∧ (((0 : Int) = (0 : Int)))) ∧ ((true = true)))
theorem sign_o7 (a b : Int) : obOf (sign_e7 a b) = sign_r7 a b := by kernel_rfl
theorem sign_v7 (a b : Int) : resOf (sign_e7 a b) = sign_w7 a b := by kernel_rfl
theorem sign_k7 (a b : Int) : cleanOf Tryz.prog.globals.size (sign_e7 a b) = true := by kernel_rfl
theorem sign_q7 (a b : Int) : sign_e7 a b = evFS Tryz.prog x_sign 1000 73 #[.agg #[.int .i64 a, .int .i64 b]] (noTabs 7) ⟨[0, 0, 0, 1, 0, 0, 1, 1, 1, 1, 1, 1, 1, 1, 1, 1, 1, 1, 1, 1, 0, 1, 0, 1], True⟩ := by
  delta sign_e7
  exact Eq.refl _
theorem sign_p7 (a b : Int) (h : sign_r7 a b) (w : World) : Calls Tryz.prog 73 #[.agg #[.int .i64 a, .int .i64 b]] w fun en w' => en = .returned (sign_w7 a b) ∧ Below w.heap.size w w' := by
  have hv := sign_v7 a b
  have hc := sign_k7 a b
  have he := sign_q7 a b
  have ho := sign_o7 a b
  generalize sign_e7 a b = r at *
  exact calls_way he gfol sign_X hv rfl (sign_args a b) hc ho h (bl w)
def sign_w8 (a b : Int) : Value := .int .i64 (1 : Int)
def sign_r8 (a b : Int) : Prop := ((((((((((((((((((((((((((((True ∧ (sign_c0 a b = false)) ∧ ((false = false))) ∧ (sign_c1 a b = false)) ∧ (sign_c6 a b = true)) ∧ (sign_c2 a b = false)) ∧ ((false = false))) ∧ (sign_c3 a b = false)) ∧ (sign_c4 a b = false)) ∧ ((false = false))) ∧ ((false = false))) ∧ ((false = false))) ∧ ((false = false))) ∧ ((false = false))) ∧ ((false = false))) ∧ ((false = false))) ∧ ((false = false))) ∧ ((false = false))) ∧ ((false = false))) ∧ ((false = false))) ∧ ((false = false))) ∧ ((false = false))) ∧ ((false = false))) ∧ ((true = true))) ∧ (((0 : Int) = (0 : Int)))) ∧ ((false = false))) ∧ ((true = true))) ∧ (((1 : Int) = (1 : Int)))) ∧ ((true = true)))
theorem sign_o8 (a b : Int) : obOf (sign_e8 a b) = sign_r8 a b := by kernel_rfl
theorem sign_v8 (a b : Int) : resOf (sign_e8 a b) = sign_w8 a b := by kernel_rfl
theorem sign_k8 (a b : Int) : cleanOf Tryz.prog.globals.size (sign_e8 a b) = true := by kernel_rfl
theorem sign_q8 (a b : Int) : sign_e8 a b = evFS Tryz.prog x_sign 1000 73 #[.agg #[.int .i64 a, .int .i64 b]] (noTabs 7) ⟨[0, 0, 0, 1, 0, 0, 0, 0, 0, 0, 0, 0, 0, 0, 0, 0, 0, 0, 0, 0, 0, 0, 1, 0, 0, 1, 1, 1], True⟩ := by
  delta sign_e8
  exact Eq.refl _
theorem sign_p8 (a b : Int) (h : sign_r8 a b) (w : World) : Calls Tryz.prog 73 #[.agg #[.int .i64 a, .int .i64 b]] w fun en w' => en = .returned (sign_w8 a b) ∧ Below w.heap.size w w' := by
  have hv := sign_v8 a b
  have hc := sign_k8 a b
  have he := sign_q8 a b
  have ho := sign_o8 a b
  generalize sign_e8 a b = r at *
  exact calls_way he gfol sign_X hv rfl (sign_args a b) hc ho h (bl w)
def sign_w9 (a b : Int) : Value := .int .i64 (1 : Int)
def sign_r9 (a b : Int) : Prop := (((((((((((((((((((((((((True ∧ (sign_c0 a b = false)) ∧ ((false = false))) ∧ (sign_c1 a b = false)) ∧ (sign_c6 a b = true)) ∧ (sign_c2 a b = false)) ∧ ((false = false))) ∧ (sign_c3 a b = false)) ∧ (sign_c4 a b = true)) ∧ ((false = false))) ∧ ((false = false))) ∧ ((false = false))) ∧ ((false = false))) ∧ ((false = false))) ∧ ((false = false))) ∧ ((false = false))) ∧ ((false = false))) ∧ ((false = false))) ∧ ((false = false))) ∧ ((false = false))) ∧ ((false = false))) ∧ ((false = false))) ∧ ((false = false))) ∧ ((true = true))) ∧ (((0 : Int) = (0 : Int)))) ∧ ((true = true)))
theorem sign_o9 (a b : Int) : obOf (sign_e9 a b) = sign_r9 a b := by kernel_rfl
theorem sign_v9 (a b : Int) : resOf (sign_e9 a b) = sign_w9 a b := by kernel_rfl
theorem sign_k9 (a b : Int) : cleanOf Tryz.prog.globals.size (sign_e9 a b) = true := by kernel_rfl
theorem sign_q9 (a b : Int) : sign_e9 a b = evFS Tryz.prog x_sign 1000 73 #[.agg #[.int .i64 a, .int .i64 b]] (noTabs 7) ⟨[0, 0, 0, 1, 0, 0, 0, 1, 0, 0, 0, 0, 0, 0, 0, 0, 0, 0, 0, 0, 0, 0, 1, 0, 1], True⟩ := by
  delta sign_e9
  exact Eq.refl _
theorem sign_p9 (a b : Int) (h : sign_r9 a b) (w : World) : Calls Tryz.prog 73 #[.agg #[.int .i64 a, .int .i64 b]] w fun en w' => en = .returned (sign_w9 a b) ∧ Below w.heap.size w w' := by
  have hv := sign_v9 a b
  have hc := sign_k9 a b
  have he := sign_q9 a b
  have ho := sign_o9 a b
  generalize sign_e9 a b = r at *
  exact calls_way he gfol sign_X hv rfl (sign_args a b) hc ho h (bl w)
def sign_w10 (a b : Int) : Value := .int .i64 (1 : Int)
def sign_r10 (a b : Int) : Prop := (((((((((((((((((((((True ∧ (sign_c0 a b = false)) ∧ ((false = false))) ∧ (sign_c1 a b = false)) ∧ (sign_c6 a b = true)) ∧ (sign_c2 a b = false)) ∧ ((false = false))) ∧ (sign_c3 a b = true)) ∧ ((true = true))) ∧ ((true = true))) ∧ ((true = true))) ∧ ((true = true))) ∧ ((true = true))) ∧ ((true = true))) ∧ ((true = true))) ∧ ((true = true))) ∧ ((true = true))) ∧ ((true = true))) ∧ ((true = true))) ∧ ((true = true))) ∧ ((true = true))) ∧ (sign_c5 a b = true))
theorem sign_o10 (a b : Int) : obOf (sign_e10 a b) = sign_r10 a b := by kernel_rfl
theorem sign_v10 (a b : Int) : resOf (sign_e10 a b) = sign_w10 a b := by kernel_rfl
theorem sign_k10 (a b : Int) : cleanOf Tryz.prog.globals.size (sign_e10 a b) = true := by kernel_rfl
theorem sign_q10 (a b : Int) : sign_e10 a b = evFS Tryz.prog x_sign 1000 73 #[.agg #[.int .i64 a, .int .i64 b]] (noTabs 7) ⟨[0, 0, 0, 1, 0, 0, 1, 1, 1, 1, 1, 1, 1, 1, 1, 1, 1, 1, 1, 1, 1], True⟩ := by
  delta sign_e10
  exact Eq.refl _
theorem sign_p10 (a b : Int) (h : sign_r10 a b) (w : World) : Calls Tryz.prog 73 #[.agg #[.int .i64 a, .int .i64 b]] w fun en w' => en = .returned (sign_w10 a b) ∧ Below w.heap.size w w' := by
  have hv := sign_v10 a b
  have hc := sign_k10 a b
  have he := sign_q10 a b
  have ho := sign_o10 a b
  generalize sign_e10 a b = r at *
  exact calls_way he gfol sign_X hv rfl (sign_args a b) hc ho h (bl w)
theorem sign_any (a b : Int) (hpre : -1500000000 ≤ a ∧ a ≤ 1500000000 ∧ -1500000000 ≤ b ∧ b ≤ 1500000000) (w : World) : Calls Tryz.prog 73 #[.agg #[.int .i64 a, .int .i64 b]] w fun en w' => en = .returned (sign_val a b) ∧ Below w.heap.size w w' := by
  obtain ⟨q1, q2, q3, q4⟩ := hpre
  have b_aa := bd 1500000000 1500000000 a a (by omega) (by omega) ⟨by omega, by omega⟩ ⟨by omega, by omega⟩
  have b_bb := bd 1500000000 1500000000 b b (by omega) (by omega) ⟨by omega, by omega⟩ ⟨by omega, by omega⟩
  have b_3 : 3 * b * b = 3 * (b * b) := Int.mul_assoc 3 b b
  have n3 := @no3 a b
  have z1 : a * a = 0 ↔ a = 0 := ⟨fun g => by rcases Int.mul_eq_zero.1 g with g | g <;> exact g, fun g => by rw [g, Int.zero_mul]⟩
  have z2 : b * b = 0 ↔ b = 0 := ⟨fun g => by rcases Int.mul_eq_zero.1 g with g | g <;> exact g, fun g => by rw [g, Int.zero_mul]⟩
  have z3 : 0 ≤ a * a := by rcases Int.le_total 0 a with g | g; exact Int.mul_nonneg g g; exact Int.mul_nonneg_of_nonpos_of_nonpos g g
  have z4 : 0 ≤ b * b := by rcases Int.le_total 0 b with g | g; exact Int.mul_nonneg g g; exact Int.mul_nonneg_of_nonpos_of_nonpos g g
  have h0 : (sign_c0 a b = false) := by
    unfold sign_c0
    first | rfl | trivial | decide | assumption | ((try simp only [bne_iff_ne, ne_eq, decide_eq_true_eq, decide_eq_false_iff_not, Bool.not_eq_true', Bool.not_eq_false', beq_iff_eq, beq_eq_false_iff_ne, bne_eq_false_iff_eq, Bool.and_eq_true, Bool.not_eq_true, Bool.not_eq_false, Pl.cr, parts_eq, cn, two, cz] at *) <;> first | omega | grind)
  unfold sign_c0 at h0
  rcases Bool.eq_false_or_eq_true (sign_c1 a b) with h1 | h1
  ·
    unfold sign_c1 at h1
    have h2 : (sign_c2 a b = false) := by
      unfold sign_c2
      first | rfl | trivial | decide | assumption | ((try simp only [bne_iff_ne, ne_eq, decide_eq_true_eq, decide_eq_false_iff_not, Bool.not_eq_true', Bool.not_eq_false', beq_iff_eq, beq_eq_false_iff_ne, bne_eq_false_iff_eq, Bool.and_eq_true, Bool.not_eq_true, Bool.not_eq_false, Pl.cr, parts_eq, cn, two, cz] at *) <;> first | omega | grind)
    unfold sign_c2 at h2
    rcases Bool.eq_false_or_eq_true (sign_c3 a b) with h3 | h3
    ·
      unfold sign_c3 at h3
      have hp := sign_p0 a b ⟨⟨⟨⟨⟨⟨⟨⟨⟨⟨⟨⟨⟨⟨⟨⟨⟨⟨⟨⟨⟨⟨⟨trivial, h0⟩, sign_g1⟩, h1⟩, h2⟩, sign_g1⟩, h3⟩, sign_g1⟩, sign_g1⟩, sign_g1⟩, sign_g1⟩, sign_g1⟩, sign_g1⟩, sign_g1⟩, sign_g1⟩, sign_g1⟩, sign_g1⟩, sign_g1⟩, sign_g1⟩, sign_g1⟩, sign_g1⟩, sign_g5⟩, sign_g6⟩, sign_g5⟩ w
      have hv : sign_w0 a b = (sign_val a b) := by
        clear hp
        unfold sign_w0 sign_val
        (try simp (disch := omega) only [wi, decide_eq_true_eq, decide_eq_false_iff_not, beq_iff_eq, bne_iff_ne, ne_eq, beq_eq_false_iff_ne, bne_eq_false_iff_eq, Bool.and_eq_true, Bool.or_eq_true] at *)
        all_goals (first | rfl | (unfold sgn; (try simp only [Value.int.injEq, true_and]); (repeat' split) <;> first | omega | rfl | (exfalso; omega) | grind))
      exact hv ▸ hp
    ·
      unfold sign_c3 at h3
      rcases Bool.eq_false_or_eq_true (sign_c4 a b) with h4 | h4
      ·
        unfold sign_c4 at h4
        rcases Bool.eq_false_or_eq_true (sign_c5 a b) with h5 | h5
        ·
          unfold sign_c5 at h5
          have hp := sign_p2 a b ⟨⟨⟨⟨⟨⟨⟨⟨⟨⟨⟨⟨⟨⟨⟨⟨⟨⟨⟨⟨⟨trivial, h0⟩, sign_g1⟩, h1⟩, h2⟩, sign_g1⟩, h3⟩, h4⟩, sign_g5⟩, sign_g5⟩, sign_g5⟩, sign_g5⟩, sign_g5⟩, sign_g5⟩, sign_g5⟩, sign_g5⟩, sign_g5⟩, sign_g5⟩, sign_g5⟩, sign_g5⟩, sign_g5⟩, h5⟩ w
          have hv : sign_w2 a b = (sign_val a b) := by
            clear hp
            unfold sign_w2 sign_val
            (try simp (disch := omega) only [wi, decide_eq_true_eq, decide_eq_false_iff_not, beq_iff_eq, bne_iff_ne, ne_eq, beq_eq_false_iff_ne, bne_eq_false_iff_eq, Bool.and_eq_true, Bool.or_eq_true] at *)
            all_goals (first | rfl | (unfold sgn; (try simp only [Value.int.injEq, true_and]); (repeat' split) <;> first | omega | rfl | (exfalso; omega) | grind))
          exact hv ▸ hp
        ·
          unfold sign_c5 at h5
          have hp := sign_p3 a b ⟨⟨⟨⟨⟨⟨⟨⟨⟨⟨⟨⟨⟨⟨⟨⟨⟨⟨⟨⟨⟨⟨⟨⟨trivial, h0⟩, sign_g1⟩, h1⟩, h2⟩, sign_g1⟩, h3⟩, h4⟩, sign_g5⟩, sign_g5⟩, sign_g5⟩, sign_g5⟩, sign_g5⟩, sign_g5⟩, sign_g5⟩, sign_g5⟩, sign_g5⟩, sign_g5⟩, sign_g5⟩, sign_g5⟩, sign_g5⟩, h5⟩, sign_g5⟩, sign_g6⟩, sign_g5⟩ w
          have hv : sign_w3 a b = (sign_val a b) := by
            clear hp
            unfold sign_w3 sign_val
            (try simp (disch := omega) only [wi, decide_eq_true_eq, decide_eq_false_iff_not, beq_iff_eq, bne_iff_ne, ne_eq, beq_eq_false_iff_ne, bne_eq_false_iff_eq, Bool.and_eq_true, Bool.or_eq_true] at *)
            all_goals (first | rfl | (unfold sgn; (try simp only [Value.int.injEq, true_and]); (repeat' split) <;> first | omega | rfl | (exfalso; omega) | grind))
          exact hv ▸ hp
      ·
        unfold sign_c4 at h4
        have hp := sign_p1 a b ⟨⟨⟨⟨⟨⟨⟨⟨⟨⟨⟨⟨⟨⟨⟨⟨⟨⟨⟨⟨⟨⟨⟨⟨⟨⟨⟨trivial, h0⟩, sign_g1⟩, h1⟩, h2⟩, sign_g1⟩, h3⟩, h4⟩, sign_g1⟩, sign_g1⟩, sign_g1⟩, sign_g1⟩, sign_g1⟩, sign_g1⟩, sign_g1⟩, sign_g1⟩, sign_g1⟩, sign_g1⟩, sign_g1⟩, sign_g1⟩, sign_g1⟩, sign_g1⟩, sign_g5⟩, sign_g6⟩, sign_g1⟩, sign_g5⟩, sign_g9⟩, sign_g5⟩ w
        have hv : sign_w1 a b = (sign_val a b) := by
          clear hp
          unfold sign_w1 sign_val
          (try simp (disch := omega) only [wi, decide_eq_true_eq, decide_eq_false_iff_not, beq_iff_eq, bne_iff_ne, ne_eq, beq_eq_false_iff_ne, bne_eq_false_iff_eq, Bool.and_eq_true, Bool.or_eq_true] at *)
          all_goals (first | rfl | (unfold sgn; (try simp only [Value.int.injEq, true_and]); (repeat' split) <;> first | omega | rfl | (exfalso; omega) | grind))
        exact hv ▸ hp
  ·
    unfold sign_c1 at h1
    rcases Bool.eq_false_or_eq_true (sign_c6 a b) with h6 | h6
    ·
      unfold sign_c6 at h6
      have h7 : (sign_c2 a b = false) := by
        unfold sign_c2
        first | rfl | trivial | decide | assumption | ((try simp only [bne_iff_ne, ne_eq, decide_eq_true_eq, decide_eq_false_iff_not, Bool.not_eq_true', Bool.not_eq_false', beq_iff_eq, beq_eq_false_iff_ne, bne_eq_false_iff_eq, Bool.and_eq_true, Bool.not_eq_true, Bool.not_eq_false, Pl.cr, parts_eq, cn, two, cz] at *) <;> first | omega | grind)
      unfold sign_c2 at h7
      rcases Bool.eq_false_or_eq_true (sign_c3 a b) with h8 | h8
      ·
        unfold sign_c3 at h8
        rcases Bool.eq_false_or_eq_true (sign_c5 a b) with h9 | h9
        ·
          unfold sign_c5 at h9
          have hp := sign_p10 a b ⟨⟨⟨⟨⟨⟨⟨⟨⟨⟨⟨⟨⟨⟨⟨⟨⟨⟨⟨⟨⟨trivial, h0⟩, sign_g1⟩, h1⟩, h6⟩, h7⟩, sign_g1⟩, h8⟩, sign_g5⟩, sign_g5⟩, sign_g5⟩, sign_g5⟩, sign_g5⟩, sign_g5⟩, sign_g5⟩, sign_g5⟩, sign_g5⟩, sign_g5⟩, sign_g5⟩, sign_g5⟩, sign_g5⟩, h9⟩ w
          have hv : sign_w10 a b = (sign_val a b) := by
            clear hp
            unfold sign_w10 sign_val
            (try simp (disch := omega) only [wi, decide_eq_true_eq, decide_eq_false_iff_not, beq_iff_eq, bne_iff_ne, ne_eq, beq_eq_false_iff_ne, bne_eq_false_iff_eq, Bool.and_eq_true, Bool.or_eq_true] at *)
            all_goals (first | rfl | (unfold sgn; (try simp only [Value.int.injEq, true_and]); (repeat' split) <;> first | omega | rfl | (exfalso; omega) | grind))
          exact hv ▸ hp
        ·
          unfold sign_c5 at h9
          have hp := sign_p7 a b ⟨⟨⟨⟨⟨⟨⟨⟨⟨⟨⟨⟨⟨⟨⟨⟨⟨⟨⟨⟨⟨⟨⟨⟨trivial, h0⟩, sign_g1⟩, h1⟩, h6⟩, h7⟩, sign_g1⟩, h8⟩, sign_g5⟩, sign_g5⟩, sign_g5⟩, sign_g5⟩, sign_g5⟩, sign_g5⟩, sign_g5⟩, sign_g5⟩, sign_g5⟩, sign_g5⟩, sign_g5⟩, sign_g5⟩, sign_g5⟩, h9⟩, sign_g5⟩, sign_g6⟩, sign_g5⟩ w
          have hv : sign_w7 a b = (sign_val a b) := by
            clear hp
            unfold sign_w7 sign_val
            (try simp (disch := omega) only [wi, decide_eq_true_eq, decide_eq_false_iff_not, beq_iff_eq, bne_iff_ne, ne_eq, beq_eq_false_iff_ne, bne_eq_false_iff_eq, Bool.and_eq_true, Bool.or_eq_true] at *)
            all_goals (first | rfl | (unfold sgn; (try simp only [Value.int.injEq, true_and]); (repeat' split) <;> first | omega | rfl | (exfalso; omega) | grind))
          exact hv ▸ hp
      ·
        unfold sign_c3 at h8
        rcases Bool.eq_false_or_eq_true (sign_c4 a b) with h10 | h10
        ·
          unfold sign_c4 at h10
          have hp := sign_p9 a b ⟨⟨⟨⟨⟨⟨⟨⟨⟨⟨⟨⟨⟨⟨⟨⟨⟨⟨⟨⟨⟨⟨⟨⟨⟨trivial, h0⟩, sign_g1⟩, h1⟩, h6⟩, h7⟩, sign_g1⟩, h8⟩, h10⟩, sign_g1⟩, sign_g1⟩, sign_g1⟩, sign_g1⟩, sign_g1⟩, sign_g1⟩, sign_g1⟩, sign_g1⟩, sign_g1⟩, sign_g1⟩, sign_g1⟩, sign_g1⟩, sign_g1⟩, sign_g1⟩, sign_g5⟩, sign_g6⟩, sign_g5⟩ w
          have hv : sign_w9 a b = (sign_val a b) := by
            clear hp
            unfold sign_w9 sign_val
            (try simp (disch := omega) only [wi, decide_eq_true_eq, decide_eq_false_iff_not, beq_iff_eq, bne_iff_ne, ne_eq, beq_eq_false_iff_ne, bne_eq_false_iff_eq, Bool.and_eq_true, Bool.or_eq_true] at *)
            all_goals (first | rfl | (unfold sgn; (try simp only [Value.int.injEq, true_and]); (repeat' split) <;> first | omega | rfl | (exfalso; omega) | grind))
          exact hv ▸ hp
        ·
          unfold sign_c4 at h10
          have hp := sign_p8 a b ⟨⟨⟨⟨⟨⟨⟨⟨⟨⟨⟨⟨⟨⟨⟨⟨⟨⟨⟨⟨⟨⟨⟨⟨⟨⟨⟨⟨trivial, h0⟩, sign_g1⟩, h1⟩, h6⟩, h7⟩, sign_g1⟩, h8⟩, h10⟩, sign_g1⟩, sign_g1⟩, sign_g1⟩, sign_g1⟩, sign_g1⟩, sign_g1⟩, sign_g1⟩, sign_g1⟩, sign_g1⟩, sign_g1⟩, sign_g1⟩, sign_g1⟩, sign_g1⟩, sign_g1⟩, sign_g5⟩, sign_g6⟩, sign_g1⟩, sign_g5⟩, sign_g9⟩, sign_g5⟩ w
          have hv : sign_w8 a b = (sign_val a b) := by
            clear hp
            unfold sign_w8 sign_val
            (try simp (disch := omega) only [wi, decide_eq_true_eq, decide_eq_false_iff_not, beq_iff_eq, bne_iff_ne, ne_eq, beq_eq_false_iff_ne, bne_eq_false_iff_eq, Bool.and_eq_true, Bool.or_eq_true] at *)
            all_goals (first | rfl | (unfold sgn; (try simp only [Value.int.injEq, true_and]); (repeat' split) <;> first | omega | rfl | (exfalso; omega) | grind))
          exact hv ▸ hp
    ·
      unfold sign_c6 at h6
      have h11 : (sign_c2 a b = false) := by
        unfold sign_c2
        first | rfl | trivial | decide | assumption | ((try simp only [bne_iff_ne, ne_eq, decide_eq_true_eq, decide_eq_false_iff_not, Bool.not_eq_true', Bool.not_eq_false', beq_iff_eq, beq_eq_false_iff_ne, bne_eq_false_iff_eq, Bool.and_eq_true, Bool.not_eq_true, Bool.not_eq_false, Pl.cr, parts_eq, cn, two, cz] at *) <;> first | omega | grind)
      unfold sign_c2 at h11
      rcases Bool.eq_false_or_eq_true (sign_c3 a b) with h12 | h12
      ·
        unfold sign_c3 at h12
        have hp := sign_p4 a b ⟨⟨⟨⟨⟨⟨⟨⟨⟨⟨⟨⟨⟨⟨⟨⟨⟨⟨⟨⟨⟨⟨⟨⟨trivial, h0⟩, sign_g1⟩, h1⟩, h6⟩, h11⟩, sign_g1⟩, h12⟩, sign_g1⟩, sign_g1⟩, sign_g1⟩, sign_g1⟩, sign_g1⟩, sign_g1⟩, sign_g1⟩, sign_g1⟩, sign_g1⟩, sign_g1⟩, sign_g1⟩, sign_g1⟩, sign_g1⟩, sign_g1⟩, sign_g5⟩, sign_g6⟩, sign_g5⟩ w
        have hv : sign_w4 a b = (sign_val a b) := by
          clear hp
          unfold sign_w4 sign_val
          (try simp (disch := omega) only [wi, decide_eq_true_eq, decide_eq_false_iff_not, beq_iff_eq, bne_iff_ne, ne_eq, beq_eq_false_iff_ne, bne_eq_false_iff_eq, Bool.and_eq_true, Bool.or_eq_true] at *)
          all_goals (first | rfl | (unfold sgn; (try simp only [Value.int.injEq, true_and]); (repeat' split) <;> first | omega | rfl | (exfalso; omega) | grind))
        exact hv ▸ hp
      ·
        unfold sign_c3 at h12
        rcases Bool.eq_false_or_eq_true (sign_c4 a b) with h13 | h13
        ·
          unfold sign_c4 at h13
          have hp := sign_p6 a b ⟨⟨⟨⟨⟨⟨⟨⟨⟨⟨⟨⟨⟨⟨⟨⟨⟨⟨⟨⟨⟨⟨⟨⟨⟨trivial, h0⟩, sign_g1⟩, h1⟩, h6⟩, h11⟩, sign_g1⟩, h12⟩, h13⟩, sign_g1⟩, sign_g1⟩, sign_g1⟩, sign_g1⟩, sign_g1⟩, sign_g1⟩, sign_g1⟩, sign_g1⟩, sign_g1⟩, sign_g1⟩, sign_g1⟩, sign_g1⟩, sign_g1⟩, sign_g1⟩, sign_g5⟩, sign_g6⟩, sign_g5⟩ w
          have hv : sign_w6 a b = (sign_val a b) := by
            clear hp
            unfold sign_w6 sign_val
            (try simp (disch := omega) only [wi, decide_eq_true_eq, decide_eq_false_iff_not, beq_iff_eq, bne_iff_ne, ne_eq, beq_eq_false_iff_ne, bne_eq_false_iff_eq, Bool.and_eq_true, Bool.or_eq_true] at *)
            all_goals (first | rfl | (unfold sgn; (try simp only [Value.int.injEq, true_and]); (repeat' split) <;> first | omega | rfl | (exfalso; omega) | grind))
          exact hv ▸ hp
        ·
          unfold sign_c4 at h13
          have h14 : (sign_c5 a b = false) := by
            unfold sign_c5
            first | rfl | trivial | decide | assumption | ((try simp only [bne_iff_ne, ne_eq, decide_eq_true_eq, decide_eq_false_iff_not, Bool.not_eq_true', Bool.not_eq_false', beq_iff_eq, beq_eq_false_iff_ne, bne_eq_false_iff_eq, Bool.and_eq_true, Bool.not_eq_true, Bool.not_eq_false, Pl.cr, parts_eq, cn, two, cz] at *) <;> first | omega | grind)
          unfold sign_c5 at h14
          have hp := sign_p5 a b ⟨⟨⟨⟨⟨⟨⟨⟨⟨⟨⟨⟨⟨⟨⟨⟨⟨⟨⟨⟨⟨⟨⟨⟨⟨⟨⟨⟨⟨trivial, h0⟩, sign_g1⟩, h1⟩, h6⟩, h11⟩, sign_g1⟩, h12⟩, h13⟩, sign_g5⟩, sign_g5⟩, sign_g5⟩, sign_g5⟩, sign_g5⟩, sign_g5⟩, sign_g5⟩, sign_g5⟩, sign_g5⟩, sign_g5⟩, sign_g5⟩, sign_g5⟩, sign_g5⟩, h14⟩, sign_g5⟩, sign_g6⟩, sign_g1⟩, sign_g5⟩, sign_g9⟩, sign_g1⟩, sign_g1⟩ w
          have hv : sign_w5 a b = (sign_val a b) := by
            clear hp
            unfold sign_w5 sign_val
            (try simp (disch := omega) only [wi, decide_eq_true_eq, decide_eq_false_iff_not, beq_iff_eq, bne_iff_ne, ne_eq, beq_eq_false_iff_ne, bne_eq_false_iff_eq, Bool.and_eq_true, Bool.or_eq_true] at *)
            all_goals (first | rfl | (unfold sgn; (try simp only [Value.int.injEq, true_and]); (repeat' split) <;> first | omega | rfl | (exfalso; omega) | grind))
          exact hv ▸ hp
theorem k_sign : ConOk Tryz.prog c_sign := fun ns hl => by
  have hl0 : ns.length = 2 := hl
  clear hl
  obtain ⟨a, ns0, rfl, hl1⟩ := len_cons hl0
  obtain ⟨b, ns1, rfl, hl2⟩ := len_cons hl1
  obtain rfl := len_nil hl2
  exact ⟨rfl, fun h w => sign_any a b h w⟩
end Go.Proofs.YtgnmhapgciejfaaGreatDoor
end
