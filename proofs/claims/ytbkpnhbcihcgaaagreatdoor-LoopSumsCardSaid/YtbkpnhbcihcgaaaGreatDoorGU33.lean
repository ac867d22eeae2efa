/-
  The contract of bipole.bipolelaw03.LoopSums.
-/
import Derived.Test.YtbkpnhbcihcgaaaGreatDoorGU22
import Derived.Test.YtbkpnhbcihcgaaaGreatDoorGU23
import Derived.Test.YtbkpnhbcihcgaaaGreatDoorGU24
import Derived.Test.YtbkpnhbcihcgaaaGreatDoorGU25
import Derived.Test.YtbkpnhbcihcgaaaGreatDoorGU26
import Derived.Test.YtbkpnhbcihcgaaaGreatDoorGU32
set_option linter.all false
set_option maxRecDepth 1000000
set_option maxHeartbeats 2000000
open Go.RowKit
namespace Go.Proofs.YtbkpnhbcihcgaaaGreatDoor
open Mini
theorem P_any (y : LV) (hpre : P_pre y) (w : World) (hh : Holds Tryz.prog aw3S0 w) : Calls Tryz.prog 10 #[.agg #[.int .i8 y.a0, .int .i8 y.a1, .int .i8 y.a2], .agg #[.int .i8 y.b0, .int .i8 y.b1, .int .i8 y.b2], .agg #[.int .i8 y.z0, .int .i8 y.z1]] w fun en w' => en = .returned (.bool true) ∧ Below w.heap.size w w' := by
  have hg0 : (P_c0 y = false) := (show P_c0 y = BE.ev (LS_R y) (.cm .eq (.v 14) (.k (0))) by kernel_rfl).trans (beq_eq_false_iff_ne.2 hpre.2.2.2.2.1)
  have hg1 : (P_c1 y = false) := (show P_c1 y = BE.ev (LS_R y) (.cm .eq (.v 17) (.k (0))) by kernel_rfl).trans (beq_eq_false_iff_ne.2 hpre.2.2.2.2.2)
  have h6 := P_t0 y hpre
  rcases Bool.eq_false_or_eq_true (P_c19 y) with h17 | h17
  ·
    rcases Bool.eq_false_or_eq_true (P_c27 y) with h18 | h18
    ·
      rcases Bool.eq_false_or_eq_true (P_c103 y) with h19 | h19
      ·
        rcases Bool.eq_false_or_eq_true (P_c104 y) with h20 | h20
        ·
          have h21 := P_t1 y hpre h20 h19 h18
          have h71 := P_t2 y hpre hg0 hg1 h20 h19 h18 (P_c83_ff y hpre) (P_c81_ff y hpre) (P_c82_ff y hpre) (P_c79_ff y hpre) (P_c80_ff y hpre) (P_c77_ff y hpre) (P_c78_ff y hpre) h21 h6 h17
          have hp := P_p10 y (cjD_i (P_tT y hpre) (And.intro (And.intro (And.intro (And.intro (And.intro (And.intro (cjD_i (P_tT y hpre) (And.intro (cjD_i (P_tT y hpre) (And.intro (cjD_i (P_tT y hpre) (And.intro (cjD_i (P_tT y hpre) (And.intro (cjD_i (P_tT y hpre) (And.intro (cjD_i (P_tT y hpre) (And.intro (cjD_i (P_tT y hpre) (And.intro (cjD_i (P_tT y hpre) (And.intro (cjD_i (P_tT y hpre) (And.intro (cjD_i (P_tT y hpre) (And.intro (And.intro (And.intro (And.intro (cjD_i (P_tT y hpre) (And.intro (cjD_i (P_tT y hpre) (And.intro (cjD_i (P_tT y hpre) (And.intro (And.intro (cjD_i (P_tT y hpre) (And.intro (And.intro (cjD_i (P_tT y hpre) (And.intro (cjD_i (P_tT y hpre) (And.intro (cjD_i (P_tT y hpre) trivial) hg0)) hg1)) hg0) h6)) hg1) h6)) hg0)) hg1)) h17) h17) h17) h17)) hg0)) hg1)) h18)) h19)) h20)) h21)) hg0)) hg0)) hg0)) h71) h71) h71) h71) h71) h71)) w hh
          have hv : P_w10 y = (.bool true) := by
            clear hp hh
            unfold P_w10
            rfl
          exact hv ▸ hp
        ·
          have h74 := P_t3 y hpre h19 h18
          have h124 := P_t4 y hpre hg0 hg1 h20 h19 h18 (P_c83_ff y hpre) (P_c81_ff y hpre) (P_c82_ff y hpre) (P_c79_ff y hpre) (P_c80_ff y hpre) (P_c77_ff y hpre) (P_c78_ff y hpre) h74 h6 h17
          have hp := P_p20 y (cjD_i (P_tT y hpre) (And.intro (And.intro (And.intro (And.intro (And.intro (And.intro (cjD_i (P_tT y hpre) (And.intro (cjD_i (P_tT y hpre) (And.intro (cjD_i (P_tT y hpre) (And.intro (cjD_i (P_tT y hpre) (And.intro (cjD_i (P_tT y hpre) (And.intro (And.intro (cjD_i (P_tT y hpre) (And.intro (cjD_i (P_tT y hpre) (And.intro (cjD_i (P_tT y hpre) (And.intro (cjD_i (P_tT y hpre) (And.intro (cjD_i (P_tT y hpre) (And.intro (cjD_i (P_tT y hpre) (And.intro (And.intro (And.intro (And.intro (cjD_i (P_tT y hpre) (And.intro (cjD_i (P_tT y hpre) (And.intro (cjD_i (P_tT y hpre) (And.intro (And.intro (cjD_i (P_tT y hpre) (And.intro (And.intro (cjD_i (P_tT y hpre) (And.intro (cjD_i (P_tT y hpre) (And.intro (cjD_i (P_tT y hpre) trivial) hg0)) hg1)) hg0) h6)) hg1) h6)) hg0)) hg1)) h17) h17) h17) h17)) hg0)) hg1)) h18)) h19)) h20)) h20) h6)) h74)) hg0)) hg0)) hg0)) h124) h124) h124) h124) h124) h124)) w hh
          have hv : P_w20 y = (.bool true) := by
            clear hp hh
            unfold P_w20
            rfl
          exact hv ▸ hp
      ·
        have h129 := P_t5 y hpre h18
        have h179 := P_t6 y hpre hg0 hg1 h19 h18 (P_c83_ff y hpre) (P_c81_ff y hpre) (P_c82_ff y hpre) (P_c79_ff y hpre) (P_c80_ff y hpre) (P_c77_ff y hpre) (P_c78_ff y hpre) h129 h6 h17
        have hp := P_p18 y (cjD_i (P_tT y hpre) (And.intro (And.intro (And.intro (And.intro (And.intro (And.intro (cjD_i (P_tT y hpre) (And.intro (cjD_i (P_tT y hpre) (And.intro (cjD_i (P_tT y hpre) (And.intro (cjD_i (P_tT y hpre) (And.intro (cjD_i (P_tT y hpre) (And.intro (And.intro (cjD_i (P_tT y hpre) (And.intro (cjD_i (P_tT y hpre) (And.intro (cjD_i (P_tT y hpre) (And.intro (cjD_i (P_tT y hpre) (And.intro (cjD_i (P_tT y hpre) (And.intro (And.intro (And.intro (And.intro (cjD_i (P_tT y hpre) (And.intro (cjD_i (P_tT y hpre) (And.intro (cjD_i (P_tT y hpre) (And.intro (And.intro (cjD_i (P_tT y hpre) (And.intro (And.intro (cjD_i (P_tT y hpre) (And.intro (cjD_i (P_tT y hpre) (And.intro (cjD_i (P_tT y hpre) trivial) hg0)) hg1)) hg0) h6)) hg1) h6)) hg0)) hg1)) h17) h17) h17) h17)) hg0)) hg1)) h18)) h19)) h19) h6)) h129)) hg0)) hg0)) hg0)) h179) h179) h179) h179) h179) h179)) w hh
        have hv : P_w18 y = (.bool true) := by
          clear hp hh
          unfold P_w18
          rfl
        exact hv ▸ hp
    ·
      have h186 := P_t7 y hpre
      rcases Bool.eq_false_or_eq_true (P_c84 y) with h236 | h236
      ·
        have hp := P_p15 y (cjD_i (P_tT y hpre) (And.intro (And.intro (And.intro (And.intro (And.intro (And.intro (cjD_i (P_tT y hpre) (And.intro (cjD_i (P_tT y hpre) (And.intro (cjD_i (P_tT y hpre) (And.intro (cjD_i (P_tT y hpre) (And.intro (cjD_i (P_tT y hpre) (And.intro (And.intro (cjD_i (P_tT y hpre) (And.intro (cjD_i (P_tT y hpre) (And.intro (cjD_i (P_tT y hpre) (And.intro (cjD_i (P_tT y hpre) (And.intro (And.intro (And.intro (And.intro (cjD_i (P_tT y hpre) (And.intro (cjD_i (P_tT y hpre) (And.intro (cjD_i (P_tT y hpre) (And.intro (And.intro (cjD_i (P_tT y hpre) (And.intro (And.intro (cjD_i (P_tT y hpre) (And.intro (cjD_i (P_tT y hpre) (And.intro (cjD_i (P_tT y hpre) trivial) hg0)) hg1)) hg0) h6)) hg1) h6)) hg0)) hg1)) h17) h17) h17) h17)) hg0)) hg1)) h18)) h18) h6)) h186)) hg0)) hg0)) hg0)) h236) h236) h236) h236) h236) h236)) w hh
        have hv : P_w15 y = (.bool true) := by
          clear hp hh
          unfold P_w15
          rfl
        exact hv ▸ hp
      ·
        have h239 := P_t8 y hpre h236 hg0 hg1 h18 (P_c83_ff y hpre) (P_c81_ff y hpre) (P_c82_ff y hpre) (P_c79_ff y hpre) (P_c80_ff y hpre) (P_c77_ff y hpre) (P_c78_ff y hpre) h186 h6 h17
        rcases Bool.eq_false_or_eq_true (P_c88 y) with h240 | h240
        ·
          have hp := P_p22 y (cjD_i (P_tT y hpre) (And.intro (And.intro (And.intro (And.intro (And.intro (cjD_i (P_tT y hpre) (And.intro (And.intro (cjD_i (P_tT y hpre) (And.intro (And.intro (cjD_i (P_tT y hpre) (And.intro (And.intro (cjD_i (P_tT y hpre) (And.intro (cjD_i (P_tT y hpre) (And.intro (cjD_i (P_tT y hpre) (And.intro (cjD_i (P_tT y hpre) (And.intro (cjD_i (P_tT y hpre) (And.intro (And.intro (cjD_i (P_tT y hpre) (And.intro (cjD_i (P_tT y hpre) (And.intro (cjD_i (P_tT y hpre) (And.intro (cjD_i (P_tT y hpre) (And.intro (And.intro (And.intro (And.intro (cjD_i (P_tT y hpre) (And.intro (cjD_i (P_tT y hpre) (And.intro (cjD_i (P_tT y hpre) (And.intro (And.intro (cjD_i (P_tT y hpre) (And.intro (And.intro (cjD_i (P_tT y hpre) (And.intro (cjD_i (P_tT y hpre) (And.intro (cjD_i (P_tT y hpre) trivial) hg0)) hg1)) hg0) h6)) hg1) h6)) hg0)) hg1)) h17) h17) h17) h17)) hg0)) hg1)) h18)) h18) h6)) h186)) hg0)) hg0)) hg0)) h236) h236)) h236) h236)) h236) h236)) h239) h239) h239) h239) h240)) w hh
          have hv : P_w22 y = (.bool true) := by
            clear hp hh
            unfold P_w22
            rfl
          exact hv ▸ hp
        ·
          have h247 := P_t9 y hpre h239
          have h248 := P_t10 y hpre h240
          have h250 := P_t11 y hpre h236
          have h251 := P_t12 y hpre h236
          have h252 := P_t13 y hpre h236
          have h253 := P_t14 y hpre h236
          have h254 := P_t15 y hpre h236
          have hp := P_p16 y (cjD_i (P_tT y hpre) (And.intro (cjD_i (P_tT y hpre) (And.intro (cjD_i (P_tT y hpre) (And.intro (cjD_i (P_tT y hpre) (And.intro (cjD_i (P_tT y hpre) (And.intro (cjD_i (P_tT y hpre) (And.intro (And.intro (And.intro (And.intro (And.intro (cjD_i (P_tT y hpre) (And.intro (And.intro (And.intro (And.intro (And.intro (cjD_i (P_tT y hpre) (And.intro (cjD_i (P_tT y hpre) (And.intro (And.intro (And.intro (And.intro (And.intro (cjD_i (P_tT y hpre) (And.intro (And.intro (cjD_i (P_tT y hpre) (And.intro (And.intro (cjD_i (P_tT y hpre) (And.intro (And.intro (cjD_i (P_tT y hpre) (And.intro (cjD_i (P_tT y hpre) (And.intro (cjD_i (P_tT y hpre) (And.intro (cjD_i (P_tT y hpre) (And.intro (cjD_i (P_tT y hpre) (And.intro (And.intro (cjD_i (P_tT y hpre) (And.intro (cjD_i (P_tT y hpre) (And.intro (cjD_i (P_tT y hpre) (And.intro (cjD_i (P_tT y hpre) (And.intro (And.intro (And.intro (And.intro (cjD_i (P_tT y hpre) (And.intro (cjD_i (P_tT y hpre) (And.intro (cjD_i (P_tT y hpre) (And.intro (And.intro (cjD_i (P_tT y hpre) (And.intro (And.intro (cjD_i (P_tT y hpre) (And.intro (cjD_i (P_tT y hpre) (And.intro (cjD_i (P_tT y hpre) trivial) hg0)) hg1)) hg0) h6)) hg1) h6)) hg0)) hg1)) h17) h17) h17) h17)) hg0)) hg1)) h18)) h18) h6)) h186)) hg0)) hg0)) hg0)) h236) h236)) h236) h236)) h236) h236)) h239) h239) h239) h239) h240)) hg0)) h239) h239) h239) h239) h240)) h247) h247) h247) h247) h248)) h250)) h251)) h252)) h253)) h254)) w hh
          have hv : P_w16 y = (.bool true) := by
            clear hp hh
            unfold P_w16
            rfl
          exact hv ▸ hp
  ·
    rcases Bool.eq_false_or_eq_true (P_c20 y) with h255 | h255
    ·
      rcases Bool.eq_false_or_eq_true (P_c27 y) with h256 | h256
      ·
        have h257 := P_t16 y hpre h255
        have h262 := P_t5 y hpre h256
        have h312 := P_t17 y hpre hg0 hg1 h257 h256 (P_c83_ff y hpre) (P_c81_ff y hpre) (P_c82_ff y hpre) (P_c79_ff y hpre) (P_c80_ff y hpre) (P_c77_ff y hpre) (P_c78_ff y hpre) h262 h6 h17 h255
        have hp := P_p14 y (cjD_i (P_tT y hpre) (And.intro (And.intro (And.intro (And.intro (And.intro (And.intro (cjD_i (P_tT y hpre) (And.intro (cjD_i (P_tT y hpre) (And.intro (cjD_i (P_tT y hpre) (And.intro (cjD_i (P_tT y hpre) (And.intro (cjD_i (P_tT y hpre) (And.intro (And.intro (cjD_i (P_tT y hpre) (And.intro (cjD_i (P_tT y hpre) (And.intro (cjD_i (P_tT y hpre) (And.intro (cjD_i (P_tT y hpre) (And.intro (cjD_i (P_tT y hpre) (And.intro (And.intro (And.intro (And.intro (And.intro (cjD_i (P_tT y hpre) (And.intro (cjD_i (P_tT y hpre) (And.intro (cjD_i (P_tT y hpre) (And.intro (And.intro (cjD_i (P_tT y hpre) (And.intro (And.intro (cjD_i (P_tT y hpre) (And.intro (cjD_i (P_tT y hpre) (And.intro (cjD_i (P_tT y hpre) trivial) hg0)) hg1)) hg0) h6)) hg1) h6)) hg0)) hg1)) h17) h17) h17) h17) h255)) hg0)) hg1)) h256)) h257)) h257) h6)) h262)) hg0)) hg0)) hg0)) h312) h312) h312) h312) h312) h312)) w hh
        have hv : P_w14 y = (.bool true) := by
          clear hp hh
          unfold P_w14
          rfl
        exact hv ▸ hp
      ·
        have h319 := P_t7 y hpre
        rcases Bool.eq_false_or_eq_true (P_c84 y) with h369 | h369
        ·
          have hp := P_p13 y (cjD_i (P_tT y hpre) (And.intro (And.intro (And.intro (And.intro (And.intro (And.intro (cjD_i (P_tT y hpre) (And.intro (cjD_i (P_tT y hpre) (And.intro (cjD_i (P_tT y hpre) (And.intro (cjD_i (P_tT y hpre) (And.intro (cjD_i (P_tT y hpre) (And.intro (And.intro (cjD_i (P_tT y hpre) (And.intro (cjD_i (P_tT y hpre) (And.intro (cjD_i (P_tT y hpre) (And.intro (cjD_i (P_tT y hpre) (And.intro (And.intro (And.intro (And.intro (And.intro (cjD_i (P_tT y hpre) (And.intro (cjD_i (P_tT y hpre) (And.intro (cjD_i (P_tT y hpre) (And.intro (And.intro (cjD_i (P_tT y hpre) (And.intro (And.intro (cjD_i (P_tT y hpre) (And.intro (cjD_i (P_tT y hpre) (And.intro (cjD_i (P_tT y hpre) trivial) hg0)) hg1)) hg0) h6)) hg1) h6)) hg0)) hg1)) h17) h17) h17) h17) h255)) hg0)) hg1)) h256)) h256) h6)) h319)) hg0)) hg0)) hg0)) h369) h369) h369) h369) h369) h369)) w hh
          have hv : P_w13 y = (.bool true) := by
            clear hp hh
            unfold P_w13
            rfl
          exact hv ▸ hp
        ·
          rcases Bool.eq_false_or_eq_true (P_c87 y) with h372 | h372
          ·
            have hp := P_p23 y (cjD_i (P_tT y hpre) (And.intro (And.intro (And.intro (And.intro (cjD_i (P_tT y hpre) (And.intro (And.intro (cjD_i (P_tT y hpre) (And.intro (And.intro (cjD_i (P_tT y hpre) (And.intro (And.intro (cjD_i (P_tT y hpre) (And.intro (cjD_i (P_tT y hpre) (And.intro (cjD_i (P_tT y hpre) (And.intro (cjD_i (P_tT y hpre) (And.intro (cjD_i (P_tT y hpre) (And.intro (And.intro (cjD_i (P_tT y hpre) (And.intro (cjD_i (P_tT y hpre) (And.intro (cjD_i (P_tT y hpre) (And.intro (cjD_i (P_tT y hpre) (And.intro (And.intro (And.intro (And.intro (And.intro (cjD_i (P_tT y hpre) (And.intro (cjD_i (P_tT y hpre) (And.intro (cjD_i (P_tT y hpre) (And.intro (And.intro (cjD_i (P_tT y hpre) (And.intro (And.intro (cjD_i (P_tT y hpre) (And.intro (cjD_i (P_tT y hpre) (And.intro (cjD_i (P_tT y hpre) trivial) hg0)) hg1)) hg0) h6)) hg1) h6)) hg0)) hg1)) h17) h17) h17) h17) h255)) hg0)) hg1)) h256)) h256) h6)) h319)) hg0)) hg0)) hg0)) h369) h369)) h369) h369)) h369) h369)) h372) h372) h372) h372)) w hh
            have hv : P_w23 y = (.bool true) := by
              clear hp hh
              unfold P_w23
              rfl
            exact hv ▸ hp
          ·
            have h373 := P_t18 y hpre h369 hg0 hg1 h256 (P_c83_ff y hpre) (P_c81_ff y hpre) (P_c82_ff y hpre) (P_c79_ff y hpre) (P_c80_ff y hpre) (P_c77_ff y hpre) (P_c78_ff y hpre) h319 h6 h372 h17 h255
            have h380 := P_t9 y hpre h372
            have h381 := P_t10 y hpre h373
            have h383 := P_t11 y hpre h369
            have h384 := P_t12 y hpre h369
            have h385 := P_t13 y hpre h369
            have h386 := P_t14 y hpre h369
            have h387 := P_t15 y hpre h369
            have hp := P_p21 y (cjD_i (P_tT y hpre) (And.intro (cjD_i (P_tT y hpre) (And.intro (cjD_i (P_tT y hpre) (And.intro (cjD_i (P_tT y hpre) (And.intro (cjD_i (P_tT y hpre) (And.intro (cjD_i (P_tT y hpre) (And.intro (And.intro (And.intro (And.intro (And.intro (cjD_i (P_tT y hpre) (And.intro (And.intro (And.intro (And.intro (And.intro (cjD_i (P_tT y hpre) (And.intro (cjD_i (P_tT y hpre) (And.intro (And.intro (And.intro (And.intro (And.intro (cjD_i (P_tT y hpre) (And.intro (And.intro (cjD_i (P_tT y hpre) (And.intro (And.intro (cjD_i (P_tT y hpre) (And.intro (And.intro (cjD_i (P_tT y hpre) (And.intro (cjD_i (P_tT y hpre) (And.intro (cjD_i (P_tT y hpre) (And.intro (cjD_i (P_tT y hpre) (And.intro (cjD_i (P_tT y hpre) (And.intro (And.intro (cjD_i (P_tT y hpre) (And.intro (cjD_i (P_tT y hpre) (And.intro (cjD_i (P_tT y hpre) (And.intro (cjD_i (P_tT y hpre) (And.intro (And.intro (And.intro (And.intro (And.intro (cjD_i (P_tT y hpre) (And.intro (cjD_i (P_tT y hpre) (And.intro (cjD_i (P_tT y hpre) (And.intro (And.intro (cjD_i (P_tT y hpre) (And.intro (And.intro (cjD_i (P_tT y hpre) (And.intro (cjD_i (P_tT y hpre) (And.intro (cjD_i (P_tT y hpre) trivial) hg0)) hg1)) hg0) h6)) hg1) h6)) hg0)) hg1)) h17) h17) h17) h17) h255)) hg0)) hg1)) h256)) h256) h6)) h319)) hg0)) hg0)) hg0)) h369) h369)) h369) h369)) h369) h369)) h372) h372) h372) h372) h373)) hg0)) h372) h372) h372) h372) h373)) h380) h380) h380) h380) h381)) h383)) h384)) h385)) h386)) h387)) w hh
            have hv : P_w21 y = (.bool true) := by
              clear hp hh
              unfold P_w21
              rfl
            exact hv ▸ hp
    ·
      have h392 := P_t19 y hpre hg0 hg1
      have h393 := P_t20 y hpre
      rcases Bool.eq_false_or_eq_true (P_c27 y) with h394 | h394
      ·
        rcases Bool.eq_false_or_eq_true (P_c103 y) with h395 | h395
        ·
          rcases Bool.eq_false_or_eq_true (P_c104 y) with h396 | h396
          ·
            have h397 := P_t1 y hpre h396 h395 h394
            rcases Bool.eq_false_or_eq_true (P_c84 y) with h447 | h447
            ·
              have hp := P_p3 y (cjD_i (P_tT y hpre) (And.intro (And.intro (And.intro (And.intro (And.intro (And.intro (cjD_i (P_tT y hpre) (And.intro (cjD_i (P_tT y hpre) (And.intro (cjD_i (P_tT y hpre) (And.intro (cjD_i (P_tT y hpre) (And.intro (cjD_i (P_tT y hpre) (And.intro (cjD_i (P_tT y hpre) (And.intro (cjD_i (P_tT y hpre) (And.intro (cjD_i (P_tT y hpre) (And.intro (cjD_i (P_tT y hpre) (And.intro (cjD_i (P_tT y hpre) (And.intro (cjD_i (P_tT y hpre) (And.intro (And.intro (cjD_i (P_tT y hpre) (And.intro (And.intro (And.intro (And.intro (And.intro (cjD_i (P_tT y hpre) (And.intro (And.intro (And.intro (And.intro (And.intro (cjD_i (P_tT y hpre) (And.intro (cjD_i (P_tT y hpre) (And.intro (cjD_i (P_tT y hpre) (And.intro (And.intro (cjD_i (P_tT y hpre) (And.intro (And.intro (cjD_i (P_tT y hpre) (And.intro (cjD_i (P_tT y hpre) (And.intro (cjD_i (P_tT y hpre) trivial) hg0)) hg1)) hg0) h6)) hg1) h6)) hg0)) hg1)) h17) h17) h17) h17) h255)) h17) h17) h17) h17) h255)) h392) h6)) h393)) hg0)) hg1)) h394)) h395)) h396)) h397)) hg0)) hg0)) hg0)) h447) h447) h447) h447) h447) h447)) w hh
              have hv : P_w3 y = (.bool true) := by
                clear hp hh
                unfold P_w3
                rfl
              exact hv ▸ hp
            ·
              have h450 := P_t21 y hpre h447 hg0 hg1 h392 h396 h395 h394 (P_c83_ff y hpre) (P_c81_ff y hpre) (P_c82_ff y hpre) (P_c79_ff y hpre) (P_c80_ff y hpre) (P_c77_ff y hpre) (P_c78_ff y hpre) h397 h393 h6 h17 h255
              rcases Bool.eq_false_or_eq_true (P_c88 y) with h451 | h451
              ·
                have hp := P_p12 y (cjD_i (P_tT y hpre) (And.intro (And.intro (And.intro (And.intro (And.intro (cjD_i (P_tT y hpre) (And.intro (And.intro (cjD_i (P_tT y hpre) (And.intro (And.intro (cjD_i (P_tT y hpre) (And.intro (And.intro (cjD_i (P_tT y hpre) (And.intro (cjD_i (P_tT y hpre) (And.intro (cjD_i (P_tT y hpre) (And.intro (cjD_i (P_tT y hpre) (And.intro (cjD_i (P_tT y hpre) (And.intro (cjD_i (P_tT y hpre) (And.intro (cjD_i (P_tT y hpre) (And.intro (cjD_i (P_tT y hpre) (And.intro (cjD_i (P_tT y hpre) (And.intro (cjD_i (P_tT y hpre) (And.intro (cjD_i (P_tT y hpre) (And.intro (And.intro (cjD_i (P_tT y hpre) (And.intro (And.intro (And.intro (And.intro (And.intro (cjD_i (P_tT y hpre) (And.intro (And.intro (And.intro (And.intro (And.intro (cjD_i (P_tT y hpre) (And.intro (cjD_i (P_tT y hpre) (And.intro (cjD_i (P_tT y hpre) (And.intro (And.intro (cjD_i (P_tT y hpre) (And.intro (And.intro (cjD_i (P_tT y hpre) (And.intro (cjD_i (P_tT y hpre) (And.intro (cjD_i (P_tT y hpre) trivial) hg0)) hg1)) hg0) h6)) hg1) h6)) hg0)) hg1)) h17) h17) h17) h17) h255)) h17) h17) h17) h17) h255)) h392) h6)) h393)) hg0)) hg1)) h394)) h395)) h396)) h397)) hg0)) hg0)) hg0)) h447) h447)) h447) h447)) h447) h447)) h450) h450) h450) h450) h451)) w hh
                have hv : P_w12 y = (.bool true) := by
                  clear hp hh
                  unfold P_w12
                  rfl
                exact hv ▸ hp
              ·
                have h458 := P_t9 y hpre h450
                have h459 := P_t10 y hpre h451
                have h461 := P_t11 y hpre h447
                have h462 := P_t12 y hpre h447
                have h463 := P_t13 y hpre h447
                have h464 := P_t14 y hpre h447
                have h465 := P_t15 y hpre h447
                have hp := P_p11 y (cjD_i (P_tT y hpre) (And.intro (cjD_i (P_tT y hpre) (And.intro (cjD_i (P_tT y hpre) (And.intro (cjD_i (P_tT y hpre) (And.intro (cjD_i (P_tT y hpre) (And.intro (cjD_i (P_tT y hpre) (And.intro (And.intro (And.intro (And.intro (And.intro (cjD_i (P_tT y hpre) (And.intro (And.intro (And.intro (And.intro (And.intro (cjD_i (P_tT y hpre) (And.intro (cjD_i (P_tT y hpre) (And.intro (And.intro (And.intro (And.intro (And.intro (cjD_i (P_tT y hpre) (And.intro (And.intro (cjD_i (P_tT y hpre) (And.intro (And.intro (cjD_i (P_tT y hpre) (And.intro (And.intro (cjD_i (P_tT y hpre) (And.intro (cjD_i (P_tT y hpre) (And.intro (cjD_i (P_tT y hpre) (And.intro (cjD_i (P_tT y hpre) (And.intro (cjD_i (P_tT y hpre) (And.intro (cjD_i (P_tT y hpre) (And.intro (cjD_i (P_tT y hpre) (And.intro (cjD_i (P_tT y hpre) (And.intro (cjD_i (P_tT y hpre) (And.intro (cjD_i (P_tT y hpre) (And.intro (cjD_i (P_tT y hpre) (And.intro (And.intro (cjD_i (P_tT y hpre) (And.intro (And.intro (And.intro (And.intro (And.intro (cjD_i (P_tT y hpre) (And.intro (And.intro (And.intro (And.intro (And.intro (cjD_i (P_tT y hpre) (And.intro (cjD_i (P_tT y hpre) (And.intro (cjD_i (P_tT y hpre) (And.intro (And.intro (cjD_i (P_tT y hpre) (And.intro (And.intro (cjD_i (P_tT y hpre) (And.intro (cjD_i (P_tT y hpre) (And.intro (cjD_i (P_tT y hpre) trivial) hg0)) hg1)) hg0) h6)) hg1) h6)) hg0)) hg1)) h17) h17) h17) h17) h255)) h17) h17) h17) h17) h255)) h392) h6)) h393)) hg0)) hg1)) h394)) h395)) h396)) h397)) hg0)) hg0)) hg0)) h447) h447)) h447) h447)) h447) h447)) h450) h450) h450) h450) h451)) hg0)) h450) h450) h450) h450) h451)) h458) h458) h458) h458) h459)) h461)) h462)) h463)) h464)) h465)) w hh
                have hv : P_w11 y = (.bool true) := by
                  clear hp hh
                  unfold P_w11
                  rfl
                exact hv ▸ hp
          ·
            have h468 := P_t3 y hpre h395 h394
            rcases Bool.eq_false_or_eq_true (P_c84 y) with h518 | h518
            ·
              have hp := P_p2 y (cjD_i (P_tT y hpre) (And.intro (And.intro (And.intro (And.intro (And.intro (And.intro (cjD_i (P_tT y hpre) (And.intro (cjD_i (P_tT y hpre) (And.intro (cjD_i (P_tT y hpre) (And.intro (cjD_i (P_tT y hpre) (And.intro (cjD_i (P_tT y hpre) (And.intro (And.intro (cjD_i (P_tT y hpre) (And.intro (cjD_i (P_tT y hpre) (And.intro (cjD_i (P_tT y hpre) (And.intro (cjD_i (P_tT y hpre) (And.intro (cjD_i (P_tT y hpre) (And.intro (cjD_i (P_tT y hpre) (And.intro (cjD_i (P_tT y hpre) (And.intro (And.intro (cjD_i (P_tT y hpre) (And.intro (And.intro (And.intro (And.intro (And.intro (cjD_i (P_tT y hpre) (And.intro (And.intro (And.intro (And.intro (And.intro (cjD_i (P_tT y hpre) (And.intro (cjD_i (P_tT y hpre) (And.intro (cjD_i (P_tT y hpre) (And.intro (And.intro (cjD_i (P_tT y hpre) (And.intro (And.intro (cjD_i (P_tT y hpre) (And.intro (cjD_i (P_tT y hpre) (And.intro (cjD_i (P_tT y hpre) trivial) hg0)) hg1)) hg0) h6)) hg1) h6)) hg0)) hg1)) h17) h17) h17) h17) h255)) h17) h17) h17) h17) h255)) h392) h6)) h393)) hg0)) hg1)) h394)) h395)) h396)) h396) h6)) h468)) hg0)) hg0)) hg0)) h518) h518) h518) h518) h518) h518)) w hh
              have hv : P_w2 y = (.bool true) := by
                clear hp hh
                unfold P_w2
                rfl
              exact hv ▸ hp
            ·
              have h521 := P_t22 y hpre h518 hg0 hg1 h392 h396 h395 h394 (P_c83_ff y hpre) (P_c81_ff y hpre) (P_c82_ff y hpre) (P_c79_ff y hpre) (P_c80_ff y hpre) (P_c77_ff y hpre) (P_c78_ff y hpre) h468 h393 h6 h17 h255
              rcases Bool.eq_false_or_eq_true (P_c88 y) with h522 | h522
              ·
                have hp := P_p19 y (cjD_i (P_tT y hpre) (And.intro (And.intro (And.intro (And.intro (And.intro (cjD_i (P_tT y hpre) (And.intro (And.intro (cjD_i (P_tT y hpre) (And.intro (And.intro (cjD_i (P_tT y hpre) (And.intro (And.intro (cjD_i (P_tT y hpre) (And.intro (cjD_i (P_tT y hpre) (And.intro (cjD_i (P_tT y hpre) (And.intro (cjD_i (P_tT y hpre) (And.intro (cjD_i (P_tT y hpre) (And.intro (And.intro (cjD_i (P_tT y hpre) (And.intro (cjD_i (P_tT y hpre) (And.intro (cjD_i (P_tT y hpre) (And.intro (cjD_i (P_tT y hpre) (And.intro (cjD_i (P_tT y hpre) (And.intro (cjD_i (P_tT y hpre) (And.intro (cjD_i (P_tT y hpre) (And.intro (And.intro (cjD_i (P_tT y hpre) (And.intro (And.intro (And.intro (And.intro (And.intro (cjD_i (P_tT y hpre) (And.intro (And.intro (And.intro (And.intro (And.intro (cjD_i (P_tT y hpre) (And.intro (cjD_i (P_tT y hpre) (And.intro (cjD_i (P_tT y hpre) (And.intro (And.intro (cjD_i (P_tT y hpre) (And.intro (And.intro (cjD_i (P_tT y hpre) (And.intro (cjD_i (P_tT y hpre) (And.intro (cjD_i (P_tT y hpre) trivial) hg0)) hg1)) hg0) h6)) hg1) h6)) hg0)) hg1)) h17) h17) h17) h17) h255)) h17) h17) h17) h17) h255)) h392) h6)) h393)) hg0)) hg1)) h394)) h395)) h396)) h396) h6)) h468)) hg0)) hg0)) hg0)) h518) h518)) h518) h518)) h518) h518)) h521) h521) h521) h521) h522)) w hh
                have hv : P_w19 y = (.bool true) := by
                  clear hp hh
                  unfold P_w19
                  rfl
                exact hv ▸ hp
              ·
                have h529 := P_t9 y hpre h521
                have h530 := P_t10 y hpre h522
                have h532 := P_t11 y hpre h518
                have h533 := P_t12 y hpre h518
                have h534 := P_t13 y hpre h518
                have h535 := P_t14 y hpre h518
                have h536 := P_t15 y hpre h518
                have hp := P_p5 y (cjD_i (P_tT y hpre) (And.intro (cjD_i (P_tT y hpre) (And.intro (cjD_i (P_tT y hpre) (And.intro (cjD_i (P_tT y hpre) (And.intro (cjD_i (P_tT y hpre) (And.intro (cjD_i (P_tT y hpre) (And.intro (And.intro (And.intro (And.intro (And.intro (cjD_i (P_tT y hpre) (And.intro (And.intro (And.intro (And.intro (And.intro (cjD_i (P_tT y hpre) (And.intro (cjD_i (P_tT y hpre) (And.intro (And.intro (And.intro (And.intro (And.intro (cjD_i (P_tT y hpre) (And.intro (And.intro (cjD_i (P_tT y hpre) (And.intro (And.intro (cjD_i (P_tT y hpre) (And.intro (And.intro (cjD_i (P_tT y hpre) (And.intro (cjD_i (P_tT y hpre) (And.intro (cjD_i (P_tT y hpre) (And.intro (cjD_i (P_tT y hpre) (And.intro (cjD_i (P_tT y hpre) (And.intro (And.intro (cjD_i (P_tT y hpre) (And.intro (cjD_i (P_tT y hpre) (And.intro (cjD_i (P_tT y hpre) (And.intro (cjD_i (P_tT y hpre) (And.intro (cjD_i (P_tT y hpre) (And.intro (cjD_i (P_tT y hpre) (And.intro (cjD_i (P_tT y hpre) (And.intro (And.intro (cjD_i (P_tT y hpre) (And.intro (And.intro (And.intro (And.intro (And.intro (cjD_i (P_tT y hpre) (And.intro (And.intro (And.intro (And.intro (And.intro (cjD_i (P_tT y hpre) (And.intro (cjD_i (P_tT y hpre) (And.intro (cjD_i (P_tT y hpre) (And.intro (And.intro (cjD_i (P_tT y hpre) (And.intro (And.intro (cjD_i (P_tT y hpre) (And.intro (cjD_i (P_tT y hpre) (And.intro (cjD_i (P_tT y hpre) trivial) hg0)) hg1)) hg0) h6)) hg1) h6)) hg0)) hg1)) h17) h17) h17) h17) h255)) h17) h17) h17) h17) h255)) h392) h6)) h393)) hg0)) hg1)) h394)) h395)) h396)) h396) h6)) h468)) hg0)) hg0)) hg0)) h518) h518)) h518) h518)) h518) h518)) h521) h521) h521) h521) h522)) hg0)) h521) h521) h521) h521) h522)) h529) h529) h529) h529) h530)) h532)) h533)) h534)) h535)) h536)) w hh
                have hv : P_w5 y = (.bool true) := by
                  clear hp hh
                  unfold P_w5
                  rfl
                exact hv ▸ hp
        ·
          have h541 := P_t5 y hpre h394
          rcases Bool.eq_false_or_eq_true (P_c84 y) with h591 | h591
          ·
            have hp := P_p4 y (cjD_i (P_tT y hpre) (And.intro (And.intro (And.intro (And.intro (And.intro (And.intro (cjD_i (P_tT y hpre) (And.intro (cjD_i (P_tT y hpre) (And.intro (cjD_i (P_tT y hpre) (And.intro (cjD_i (P_tT y hpre) (And.intro (cjD_i (P_tT y hpre) (And.intro (And.intro (cjD_i (P_tT y hpre) (And.intro (cjD_i (P_tT y hpre) (And.intro (cjD_i (P_tT y hpre) (And.intro (cjD_i (P_tT y hpre) (And.intro (cjD_i (P_tT y hpre) (And.intro (cjD_i (P_tT y hpre) (And.intro (And.intro (cjD_i (P_tT y hpre) (And.intro (And.intro (And.intro (And.intro (And.intro (cjD_i (P_tT y hpre) (And.intro (And.intro (And.intro (And.intro (And.intro (cjD_i (P_tT y hpre) (And.intro (cjD_i (P_tT y hpre) (And.intro (cjD_i (P_tT y hpre) (And.intro (And.intro (cjD_i (P_tT y hpre) (And.intro (And.intro (cjD_i (P_tT y hpre) (And.intro (cjD_i (P_tT y hpre) (And.intro (cjD_i (P_tT y hpre) trivial) hg0)) hg1)) hg0) h6)) hg1) h6)) hg0)) hg1)) h17) h17) h17) h17) h255)) h17) h17) h17) h17) h255)) h392) h6)) h393)) hg0)) hg1)) h394)) h395)) h395) h6)) h541)) hg0)) hg0)) hg0)) h591) h591) h591) h591) h591) h591)) w hh
            have hv : P_w4 y = (.bool true) := by
              clear hp hh
              unfold P_w4
              rfl
            exact hv ▸ hp
          ·
            rcases Bool.eq_false_or_eq_true (P_c87 y) with h594 | h594
            ·
              have hp := P_p9 y (cjD_i (P_tT y hpre) (And.intro (And.intro (And.intro (And.intro (cjD_i (P_tT y hpre) (And.intro (And.intro (cjD_i (P_tT y hpre) (And.intro (And.intro (cjD_i (P_tT y hpre) (And.intro (And.intro (cjD_i (P_tT y hpre) (And.intro (cjD_i (P_tT y hpre) (And.intro (cjD_i (P_tT y hpre) (And.intro (cjD_i (P_tT y hpre) (And.intro (cjD_i (P_tT y hpre) (And.intro (And.intro (cjD_i (P_tT y hpre) (And.intro (cjD_i (P_tT y hpre) (And.intro (cjD_i (P_tT y hpre) (And.intro (cjD_i (P_tT y hpre) (And.intro (cjD_i (P_tT y hpre) (And.intro (cjD_i (P_tT y hpre) (And.intro (And.intro (cjD_i (P_tT y hpre) (And.intro (And.intro (And.intro (And.intro (And.intro (cjD_i (P_tT y hpre) (And.intro (And.intro (And.intro (And.intro (And.intro (cjD_i (P_tT y hpre) (And.intro (cjD_i (P_tT y hpre) (And.intro (cjD_i (P_tT y hpre) (And.intro (And.intro (cjD_i (P_tT y hpre) (And.intro (And.intro (cjD_i (P_tT y hpre) (And.intro (cjD_i (P_tT y hpre) (And.intro (cjD_i (P_tT y hpre) trivial) hg0)) hg1)) hg0) h6)) hg1) h6)) hg0)) hg1)) h17) h17) h17) h17) h255)) h17) h17) h17) h17) h255)) h392) h6)) h393)) hg0)) hg1)) h394)) h395)) h395) h6)) h541)) hg0)) hg0)) hg0)) h591) h591)) h591) h591)) h591) h591)) h594) h594) h594) h594)) w hh
              have hv : P_w9 y = (.bool true) := by
                clear hp hh
                unfold P_w9
                rfl
              exact hv ▸ hp
            ·
              rcases Bool.eq_false_or_eq_true (P_c88 y) with h595 | h595
              ·
                have hp := P_p17 y (cjD_i (P_tT y hpre) (And.intro (And.intro (And.intro (And.intro (And.intro (cjD_i (P_tT y hpre) (And.intro (And.intro (cjD_i (P_tT y hpre) (And.intro (And.intro (cjD_i (P_tT y hpre) (And.intro (And.intro (cjD_i (P_tT y hpre) (And.intro (cjD_i (P_tT y hpre) (And.intro (cjD_i (P_tT y hpre) (And.intro (cjD_i (P_tT y hpre) (And.intro (cjD_i (P_tT y hpre) (And.intro (And.intro (cjD_i (P_tT y hpre) (And.intro (cjD_i (P_tT y hpre) (And.intro (cjD_i (P_tT y hpre) (And.intro (cjD_i (P_tT y hpre) (And.intro (cjD_i (P_tT y hpre) (And.intro (cjD_i (P_tT y hpre) (And.intro (And.intro (cjD_i (P_tT y hpre) (And.intro (And.intro (And.intro (And.intro (And.intro (cjD_i (P_tT y hpre) (And.intro (And.intro (And.intro (And.intro (And.intro (cjD_i (P_tT y hpre) (And.intro (cjD_i (P_tT y hpre) (And.intro (cjD_i (P_tT y hpre) (And.intro (And.intro (cjD_i (P_tT y hpre) (And.intro (And.intro (cjD_i (P_tT y hpre) (And.intro (cjD_i (P_tT y hpre) (And.intro (cjD_i (P_tT y hpre) trivial) hg0)) hg1)) hg0) h6)) hg1) h6)) hg0)) hg1)) h17) h17) h17) h17) h255)) h17) h17) h17) h17) h255)) h392) h6)) h393)) hg0)) hg1)) h394)) h395)) h395) h6)) h541)) hg0)) hg0)) hg0)) h591) h591)) h591) h591)) h591) h591)) h594) h594) h594) h594) h595)) w hh
                have hv : P_w17 y = (.bool true) := by
                  clear hp hh
                  unfold P_w17
                  rfl
                exact hv ▸ hp
              ·
                have h602 := P_t9 y hpre h594
                have h603 := P_t10 y hpre h595
                have h605 := P_t11 y hpre h591
                have h606 := P_t12 y hpre h591
                have h607 := P_t13 y hpre h591
                have h608 := P_t14 y hpre h591
                have h609 := P_t15 y hpre h591
                have hp := P_p6 y (cjD_i (P_tT y hpre) (And.intro (cjD_i (P_tT y hpre) (And.intro (cjD_i (P_tT y hpre) (And.intro (cjD_i (P_tT y hpre) (And.intro (cjD_i (P_tT y hpre) (And.intro (cjD_i (P_tT y hpre) (And.intro (And.intro (And.intro (And.intro (And.intro (cjD_i (P_tT y hpre) (And.intro (And.intro (And.intro (And.intro (And.intro (cjD_i (P_tT y hpre) (And.intro (cjD_i (P_tT y hpre) (And.intro (And.intro (And.intro (And.intro (And.intro (cjD_i (P_tT y hpre) (And.intro (And.intro (cjD_i (P_tT y hpre) (And.intro (And.intro (cjD_i (P_tT y hpre) (And.intro (And.intro (cjD_i (P_tT y hpre) (And.intro (cjD_i (P_tT y hpre) (And.intro (cjD_i (P_tT y hpre) (And.intro (cjD_i (P_tT y hpre) (And.intro (cjD_i (P_tT y hpre) (And.intro (And.intro (cjD_i (P_tT y hpre) (And.intro (cjD_i (P_tT y hpre) (And.intro (cjD_i (P_tT y hpre) (And.intro (cjD_i (P_tT y hpre) (And.intro (cjD_i (P_tT y hpre) (And.intro (cjD_i (P_tT y hpre) (And.intro (And.intro (cjD_i (P_tT y hpre) (And.intro (And.intro (And.intro (And.intro (And.intro (cjD_i (P_tT y hpre) (And.intro (And.intro (And.intro (And.intro (And.intro (cjD_i (P_tT y hpre) (And.intro (cjD_i (P_tT y hpre) (And.intro (cjD_i (P_tT y hpre) (And.intro (And.intro (cjD_i (P_tT y hpre) (And.intro (And.intro (cjD_i (P_tT y hpre) (And.intro (cjD_i (P_tT y hpre) (And.intro (cjD_i (P_tT y hpre) trivial) hg0)) hg1)) hg0) h6)) hg1) h6)) hg0)) hg1)) h17) h17) h17) h17) h255)) h17) h17) h17) h17) h255)) h392) h6)) h393)) hg0)) hg1)) h394)) h395)) h395) h6)) h541)) hg0)) hg0)) hg0)) h591) h591)) h591) h591)) h591) h591)) h594) h594) h594) h594) h595)) hg0)) h594) h594) h594) h594) h595)) h602) h602) h602) h602) h603)) h605)) h606)) h607)) h608)) h609)) w hh
                have hv : P_w6 y = (.bool true) := by
                  clear hp hh
                  unfold P_w6
                  rfl
                exact hv ▸ hp
      ·
        have h616 := P_t7 y hpre
        rcases Bool.eq_false_or_eq_true (P_c84 y) with h666 | h666
        ·
          have hp := P_p1 y (cjD_i (P_tT y hpre) (And.intro (And.intro (And.intro (And.intro (And.intro (And.intro (cjD_i (P_tT y hpre) (And.intro (cjD_i (P_tT y hpre) (And.intro (cjD_i (P_tT y hpre) (And.intro (cjD_i (P_tT y hpre) (And.intro (cjD_i (P_tT y hpre) (And.intro (And.intro (cjD_i (P_tT y hpre) (And.intro (cjD_i (P_tT y hpre) (And.intro (cjD_i (P_tT y hpre) (And.intro (cjD_i (P_tT y hpre) (And.intro (cjD_i (P_tT y hpre) (And.intro (And.intro (cjD_i (P_tT y hpre) (And.intro (And.intro (And.intro (And.intro (And.intro (cjD_i (P_tT y hpre) (And.intro (And.intro (And.intro (And.intro (And.intro (cjD_i (P_tT y hpre) (And.intro (cjD_i (P_tT y hpre) (And.intro (cjD_i (P_tT y hpre) (And.intro (And.intro (cjD_i (P_tT y hpre) (And.intro (And.intro (cjD_i (P_tT y hpre) (And.intro (cjD_i (P_tT y hpre) (And.intro (cjD_i (P_tT y hpre) trivial) hg0)) hg1)) hg0) h6)) hg1) h6)) hg0)) hg1)) h17) h17) h17) h17) h255)) h17) h17) h17) h17) h255)) h392) h6)) h393)) hg0)) hg1)) h394)) h394) h6)) h616)) hg0)) hg0)) hg0)) h666) h666) h666) h666) h666) h666)) w hh
          have hv : P_w1 y = (.bool true) := by
            clear hp hh
            unfold P_w1
            rfl
          exact hv ▸ hp
        ·
          rcases Bool.eq_false_or_eq_true (P_c87 y) with h669 | h669
          ·
            have hp := P_p8 y (cjD_i (P_tT y hpre) (And.intro (And.intro (And.intro (And.intro (cjD_i (P_tT y hpre) (And.intro (And.intro (cjD_i (P_tT y hpre) (And.intro (And.intro (cjD_i (P_tT y hpre) (And.intro (And.intro (cjD_i (P_tT y hpre) (And.intro (cjD_i (P_tT y hpre) (And.intro (cjD_i (P_tT y hpre) (And.intro (cjD_i (P_tT y hpre) (And.intro (cjD_i (P_tT y hpre) (And.intro (And.intro (cjD_i (P_tT y hpre) (And.intro (cjD_i (P_tT y hpre) (And.intro (cjD_i (P_tT y hpre) (And.intro (cjD_i (P_tT y hpre) (And.intro (cjD_i (P_tT y hpre) (And.intro (And.intro (cjD_i (P_tT y hpre) (And.intro (And.intro (And.intro (And.intro (And.intro (cjD_i (P_tT y hpre) (And.intro (And.intro (And.intro (And.intro (And.intro (cjD_i (P_tT y hpre) (And.intro (cjD_i (P_tT y hpre) (And.intro (cjD_i (P_tT y hpre) (And.intro (And.intro (cjD_i (P_tT y hpre) (And.intro (And.intro (cjD_i (P_tT y hpre) (And.intro (cjD_i (P_tT y hpre) (And.intro (cjD_i (P_tT y hpre) trivial) hg0)) hg1)) hg0) h6)) hg1) h6)) hg0)) hg1)) h17) h17) h17) h17) h255)) h17) h17) h17) h17) h255)) h392) h6)) h393)) hg0)) hg1)) h394)) h394) h6)) h616)) hg0)) hg0)) hg0)) h666) h666)) h666) h666)) h666) h666)) h669) h669) h669) h669)) w hh
            have hv : P_w8 y = (.bool true) := by
              clear hp hh
              unfold P_w8
              rfl
            exact hv ▸ hp
          ·
            rcases Bool.eq_false_or_eq_true (P_c88 y) with h670 | h670
            ·
              have hp := P_p7 y (cjD_i (P_tT y hpre) (And.intro (And.intro (And.intro (And.intro (And.intro (cjD_i (P_tT y hpre) (And.intro (And.intro (cjD_i (P_tT y hpre) (And.intro (And.intro (cjD_i (P_tT y hpre) (And.intro (And.intro (cjD_i (P_tT y hpre) (And.intro (cjD_i (P_tT y hpre) (And.intro (cjD_i (P_tT y hpre) (And.intro (cjD_i (P_tT y hpre) (And.intro (cjD_i (P_tT y hpre) (And.intro (And.intro (cjD_i (P_tT y hpre) (And.intro (cjD_i (P_tT y hpre) (And.intro (cjD_i (P_tT y hpre) (And.intro (cjD_i (P_tT y hpre) (And.intro (cjD_i (P_tT y hpre) (And.intro (And.intro (cjD_i (P_tT y hpre) (And.intro (And.intro (And.intro (And.intro (And.intro (cjD_i (P_tT y hpre) (And.intro (And.intro (And.intro (And.intro (And.intro (cjD_i (P_tT y hpre) (And.intro (cjD_i (P_tT y hpre) (And.intro (cjD_i (P_tT y hpre) (And.intro (And.intro (cjD_i (P_tT y hpre) (And.intro (And.intro (cjD_i (P_tT y hpre) (And.intro (cjD_i (P_tT y hpre) (And.intro (cjD_i (P_tT y hpre) trivial) hg0)) hg1)) hg0) h6)) hg1) h6)) hg0)) hg1)) h17) h17) h17) h17) h255)) h17) h17) h17) h17) h255)) h392) h6)) h393)) hg0)) hg1)) h394)) h394) h6)) h616)) hg0)) hg0)) hg0)) h666) h666)) h666) h666)) h666) h666)) h669) h669) h669) h669) h670)) w hh
              have hv : P_w7 y = (.bool true) := by
                clear hp hh
                unfold P_w7
                rfl
              exact hv ▸ hp
            ·
              have h677 := P_t9 y hpre h669
              have h678 := P_t10 y hpre h670
              have h680 := P_t11 y hpre h666
              have h681 := P_t12 y hpre h666
              have h682 := P_t13 y hpre h666
              have h683 := P_t14 y hpre h666
              have h684 := P_t15 y hpre h666
              have hp := P_p0 y (cjD_i (P_tT y hpre) (And.intro (cjD_i (P_tT y hpre) (And.intro (cjD_i (P_tT y hpre) (And.intro (cjD_i (P_tT y hpre) (And.intro (cjD_i (P_tT y hpre) (And.intro (cjD_i (P_tT y hpre) (And.intro (And.intro (And.intro (And.intro (And.intro (cjD_i (P_tT y hpre) (And.intro (And.intro (And.intro (And.intro (And.intro (cjD_i (P_tT y hpre) (And.intro (cjD_i (P_tT y hpre) (And.intro (And.intro (And.intro (And.intro (And.intro (cjD_i (P_tT y hpre) (And.intro (And.intro (cjD_i (P_tT y hpre) (And.intro (And.intro (cjD_i (P_tT y hpre) (And.intro (And.intro (cjD_i (P_tT y hpre) (And.intro (cjD_i (P_tT y hpre) (And.intro (cjD_i (P_tT y hpre) (And.intro (cjD_i (P_tT y hpre) (And.intro (cjD_i (P_tT y hpre) (And.intro (And.intro (cjD_i (P_tT y hpre) (And.intro (cjD_i (P_tT y hpre) (And.intro (cjD_i (P_tT y hpre) (And.intro (cjD_i (P_tT y hpre) (And.intro (cjD_i (P_tT y hpre) (And.intro (And.intro (cjD_i (P_tT y hpre) (And.intro (And.intro (And.intro (And.intro (And.intro (cjD_i (P_tT y hpre) (And.intro (And.intro (And.intro (And.intro (And.intro (cjD_i (P_tT y hpre) (And.intro (cjD_i (P_tT y hpre) (And.intro (cjD_i (P_tT y hpre) (And.intro (And.intro (cjD_i (P_tT y hpre) (And.intro (And.intro (cjD_i (P_tT y hpre) (And.intro (cjD_i (P_tT y hpre) (And.intro (cjD_i (P_tT y hpre) trivial) hg0)) hg1)) hg0) h6)) hg1) h6)) hg0)) hg1)) h17) h17) h17) h17) h255)) h17) h17) h17) h17) h255)) h392) h6)) h393)) hg0)) hg1)) h394)) h394) h6)) h616)) hg0)) hg0)) hg0)) h666) h666)) h666) h666)) h666) h666)) h669) h669) h669) h669) h670)) hg0)) h669) h669) h669) h669) h670)) h677) h677) h677) h677) h678)) h680)) h681)) h682)) h683)) h684)) w hh
              have hv : P_w0 y = (.bool true) := by
                clear hp hh
                unfold P_w0
                rfl
              exact hv ▸ hp
end Go.Proofs.YtbkpnhbcihcgaaaGreatDoor
