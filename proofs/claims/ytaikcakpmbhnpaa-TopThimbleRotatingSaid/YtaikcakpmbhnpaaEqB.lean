/-
  Equality of twelve bytes.
-/
import Derived.Test.YtaikcakpmbhnpaaEq
namespace Go.Proofs.Ytaikcakpmbhnpaa
set_option linter.all false
open Go.RowKit
theorem size_byte (w : World) : (sizeOf 5).run Try.prog w = .ok 1 w := by kernel_rfl
set_option maxRecDepth 100000 in
set_option maxHeartbeats 2000000 in
/-- Two arrays of twelve bytes. -/
theorem eq_b12 (a0 a1 a2 a3 a4 a5 a6 a7 a8 a9 a10 a11 b0 b1 b2 b3 b4 b5 b6 b7 b8 b9 b10 b11 : Int) (w : World) :
    (Op.equalIn 10000 76 (.agg #[.int .u8 a0, .int .u8 a1, .int .u8 a2, .int .u8 a3, .int .u8 a4, .int .u8 a5, .int .u8 a6, .int .u8 a7, .int .u8 a8, .int .u8 a9, .int .u8 a10, .int .u8 a11]) (.agg #[.int .u8 b0, .int .u8 b1, .int .u8 b2, .int .u8 b3, .int .u8 b4, .int .u8 b5, .int .u8 b6, .int .u8 b7, .int .u8 b8, .int .u8 b9, .int .u8 b10, .int .u8 b11])).run Try.prog w =
      .ok (a0 == b0 && (a1 == b1 && (a2 == b2 && (a3 == b3 && (a4 == b4 && (a5 == b5 && (a6 == b6 && (a7 == b7 && (a8 == b8 && (a9 == b9 && (a10 == b10 && (a11 == b11)))))))))))) w := by
  rw [run_equalIn_array 9999 76 5 12 1 _ _ w Try.underlying76 size_byte]
  rw [show List.range' 0 12 = [0, 1, 2, 3, 4, 5, 6, 7, 8, 9, 10, 11] from rfl]
  rcases Decidable.em (a0 = b0) with rfl | h0
  rotate_left
  · simp [eqElems, go_sem, h0]
  rcases Decidable.em (a1 = b1) with rfl | h1
  rotate_left
  · simp [eqElems, go_sem, h1]
  rcases Decidable.em (a2 = b2) with rfl | h2
  rotate_left
  · simp [eqElems, go_sem, h2]
  rcases Decidable.em (a3 = b3) with rfl | h3
  rotate_left
  · simp [eqElems, go_sem, h3]
  rcases Decidable.em (a4 = b4) with rfl | h4
  rotate_left
  · simp [eqElems, go_sem, h4]
  rcases Decidable.em (a5 = b5) with rfl | h5
  rotate_left
  · simp [eqElems, go_sem, h5]
  rcases Decidable.em (a6 = b6) with rfl | h6
  rotate_left
  · simp [eqElems, go_sem, h6]
  rcases Decidable.em (a7 = b7) with rfl | h7
  rotate_left
  · simp [eqElems, go_sem, h7]
  rcases Decidable.em (a8 = b8) with rfl | h8
  rotate_left
  · simp [eqElems, go_sem, h8]
  rcases Decidable.em (a9 = b9) with rfl | h9
  rotate_left
  · simp [eqElems, go_sem, h9]
  rcases Decidable.em (a10 = b10) with rfl | h10
  rotate_left
  · simp [eqElems, go_sem, h10]
  rcases Decidable.em (a11 = b11) with rfl | h11
  rotate_left
  · simp [eqElems, go_sem, h11]
  simp [eqElems, go_sem]

end Go.Proofs.Ytaikcakpmbhnpaa
