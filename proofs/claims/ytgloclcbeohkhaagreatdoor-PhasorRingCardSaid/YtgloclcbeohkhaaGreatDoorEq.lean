/-
  Equality of arrays, element by element.
-/
import Derived.Test.YtgloclcbeohkhaaGreatDoorCore
import Derived.Laws.StructEq
namespace Go.Proofs.YtgloclcbeohkhaaGreatDoor
set_option linter.all false
open Go.RowKit

def eqElems (d : Nat) (e : TypeId) (n : Nat) (xs ys : Array Value) : List Nat → Sem Bool
  | [] => pure true
  | i :: is => do
    let a ← part e xs (i * n)
    let b ← part e ys (i * n)
    let r ← Op.equalIn d e a b
    if (!r) = true then pure false else eqElems d e n xs ys is

theorem run_equalIn_array {P : Program} (d : Nat) (t e : TypeId) (len n : Nat) (xs ys : Array Value) (w : World) (ht : P.underlying t = some (.array len e)) (hs : ∀ w : World, (sizeOf e).run P w = .ok n w) :
    (Op.equalIn (d + 1) t (.agg xs) (.agg ys)).run P w = (eqElems d e n xs ys (List.range' 0 len)).run P w := by
  simp only [Op.equalIn, Sem.run_bind, run_underlying ht, Result.andThen_ok, hs]
  rw [Std.Legacy.Range.forIn_eq_forIn_range']
  simp only [Std.Legacy.Range.size, Nat.sub_zero, Nat.add_sub_cancel, Nat.div_one]
  generalize List.range' 0 len = is
  induction is generalizing w with
  | nil => simp [eqElems]
  | cons i is ih =>
    simp only [List.forIn_cons, eqElems, Sem.run_bind, Sem.run_ite]
    generalize (part e xs (i * n)).run P w = r1
    cases r1 with
    | ok a w1 =>
      simp only [Result.andThen_ok]
      generalize (part e ys (i * n)).run P w1 = r2
      cases r2 with
      | ok b w2 =>
        simp only [Result.andThen_ok]
        generalize (Op.equalIn d e a b).run P w2 = r3
        cases r3 with
        | ok r w3 =>
          cases r
          · simp only [Result.andThen_ok, Bool.not_false, if_true, Sem.run_pure]
          · simp only [Result.andThen_ok, Bool.not_true, Bool.false_eq_true, if_false, Sem.run_pure]
            exact ih w3
        | halt x w3 => simp [Result.andThen]
      | halt x w2 => simp [Result.andThen]
    | halt x w1 => simp [Result.andThen]

theorem size_eisen (w : World) : (sizeOf 23).run Tryz.prog w = .ok 2 w := by kernel_rfl

set_option maxRecDepth 100000 in
set_option maxHeartbeats 1000000 in
/-- Two arrays of 3 numbers. -/
theorem eq_three (t : TypeId) (ht : Tryz.prog.underlying t = some (.array 3 23)) (a0 a1 a2 a3 a4 a5 b0 b1 b2 b3 b4 b5 : Int) (w : World) :
    (Op.equalIn 10000 t (.agg #[.int .i64 a0, .int .i64 a1, .int .i64 a2, .int .i64 a3, .int .i64 a4, .int .i64 a5]) (.agg #[.int .i64 b0, .int .i64 b1, .int .i64 b2, .int .i64 b3, .int .i64 b4, .int .i64 b5])).run Tryz.prog w =
      .ok (a0 == b0 && (a1 == b1 && (a2 == b2 && (a3 == b3 && (a4 == b4 && (a5 == b5)))))) w := by
  rw [run_equalIn_array 9999 t 23 3 2 _ _ w ht size_eisen]
  rw [show List.range' 0 3 = [0, 1, 2] from rfl]
  rcases Decidable.em (a0 = b0) with rfl | h0
  rotate_left
  · simp [eqElems, go_sem, h0]
  rcases Decidable.em (a1 = b1) with rfl | h1
  rotate_left
  · simp [eqElems, go_sem, h1]
  rcases Decidable.em (a2 = b2) with rfl | h2
  rotate_left
  · simp [eqElems, go_sem, h2]
  rcases Decidable.em (a3 = b3) with rfl | h3
  rotate_left
  · simp [eqElems, go_sem, h3]
  rcases Decidable.em (a4 = b4) with rfl | h4
  rotate_left
  · simp [eqElems, go_sem, h4]
  rcases Decidable.em (a5 = b5) with rfl | h5
  rotate_left
  · simp [eqElems, go_sem, h5]
  simp [eqElems, go_sem]

set_option maxRecDepth 100000 in
set_option maxHeartbeats 1000000 in
/-- Two arrays of 6 numbers. -/
theorem eq_six (t : TypeId) (ht : Tryz.prog.underlying t = some (.array 6 23)) (a0 a1 a2 a3 a4 a5 a6 a7 a8 a9 a10 a11 b0 b1 b2 b3 b4 b5 b6 b7 b8 b9 b10 b11 : Int) (w : World) :
    (Op.equalIn 10000 t (.agg #[.int .i64 a0, .int .i64 a1, .int .i64 a2, .int .i64 a3, .int .i64 a4, .int .i64 a5, .int .i64 a6, .int .i64 a7, .int .i64 a8, .int .i64 a9, .int .i64 a10, .int .i64 a11]) (.agg #[.int .i64 b0, .int .i64 b1, .int .i64 b2, .int .i64 b3, .int .i64 b4, .int .i64 b5, .int .i64 b6, .int .i64 b7, .int .i64 b8, .int .i64 b9, .int .i64 b10, .int .i64 b11])).run Tryz.prog w =
      .ok (a0 == b0 && (a1 == b1 && (a2 == b2 && (a3 == b3 && (a4 == b4 && (a5 == b5 && (a6 == b6 && (a7 == b7 && (a8 == b8 && (a9 == b9 && (a10 == b10 && (a11 == b11)))))))))))) w := by
  rw [run_equalIn_array 9999 t 23 6 2 _ _ w ht size_eisen]
  rw [show List.range' 0 6 = [0, 1, 2, 3, 4, 5] from rfl]
  rcases Decidable.em (a0 = b0) with rfl | h0
  rotate_left
  · simp [eqElems, go_sem, h0]
  rcases Decidable.em (a1 = b1) with rfl | h1
  rotate_left
  · simp [eqElems, go_sem, h1]
  rcases Decidable.em (a2 = b2) with rfl | h2
  rotate_left
  · simp [eqElems, go_sem, h2]
  rcases Decidable.em (a3 = b3) with rfl | h3
  rotate_left
  · simp [eqElems, go_sem, h3]
  rcases Decidable.em (a4 = b4) with rfl | h4
  rotate_left
  · simp [eqElems, go_sem, h4]
  rcases Decidable.em (a5 = b5) with rfl | h5
  rotate_left
  · simp [eqElems, go_sem, h5]
  rcases Decidable.em (a6 = b6) with rfl | h6
  rotate_left
  · simp [eqElems, go_sem, h6]
  rcases Decidable.em (a7 = b7) with rfl | h7
  rotate_left
  · simp [eqElems, go_sem, h7]
  rcases Decidable.em (a8 = b8) with rfl | h8
  rotate_left
  · simp [eqElems, go_sem, h8]
  rcases Decidable.em (a9 = b9) with rfl | h9
  rotate_left
  · simp [eqElems, go_sem, h9]
  rcases Decidable.em (a10 = b10) with rfl | h10
  rotate_left
  · simp [eqElems, go_sem, h10]
  rcases Decidable.em (a11 = b11) with rfl | h11
  rotate_left
  · simp [eqElems, go_sem, h11]
  simp [eqElems, go_sem]

end Go.Proofs.YtgloclcbeohkhaaGreatDoor
