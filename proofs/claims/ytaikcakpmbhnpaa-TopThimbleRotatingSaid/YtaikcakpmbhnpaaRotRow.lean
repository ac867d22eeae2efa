/-
  TopThimbleRotating: for every voltage, current and number of sixths the law returns true and leaves its arguments as they were. No condition.
-/
import Derived.Test.YtaikcakpmbhnpaaRot
import Derived.Test.YtaikcakpmbhnpaaPost
namespace Go.Proofs.Ytaikcakpmbhnpaa.rotating
set_option linter.all false
open Go.ChangeShapes Go.WideShapes Go.ChangeAt Go.RowKit

theorem own : ownKnob Try.prog.godebug = none := by kernel_rfl
theorem cellsE : Try.prog.cellsOf 30 = 1 := by kernel_rfl
theorem cellsA : Try.prog.cellsOf 35 = 2 := by kernel_rfl

set_option maxRecDepth 100000 in
theorem contract (H : Type) (enc : TypeId × Value → H) (W : World) (base : Nat) (args : Array Value) (ds gs : List (DataW H)) (before : List MemPlace)
    (hval : ∀ (j : Nat) t v, Try.f4.params[j]? = some t → args[j]? = some v → Value.okWide Try.prog W .any base t v)
    (hW : DataW.Whole enc Try.prog Try.f4.params.toList Rows.topThimbleRotatingSpec.vars false W args.toList ds gs before) :
    Calls Try.prog 4 args W fun e W' => ∃ v, e = .returned v ∧ Rows.topThimbleRotatingSpec.post enc Try.prog Try.f4 false true false false W args v W' := by
  have hW' := hW
  obtain ⟨p, q, hA0, hV, rfl, hfz, hnd⟩ := hW
  have hA : DataW.TrodAll enc Try.prog W 0 (fun _ => true) true Try.f4.params.toList args.toList ds p := hA0
  rw [Try.params4] at hA hval
  obtain ⟨v0, v1, v2, d0, d1, d2, p0, p1, p2, rfl, rfl, rfl, h0, h1, h2⟩ := trodAll_three hA
  obtain ⟨rfl, rfl⟩ := trodVars_none hV
  obtain ⟨x0, x1, rfl, rfl, rfl, wx0, wx1⟩ := open_arr2 Try.underlying35 Try.underlying30 cellsA cellsE (hval 0 35 v0 rfl rfl) h0
  obtain ⟨y0, y1, rfl, rfl, rfl, wy0, wy1⟩ := open_arr2 Try.underlying35 Try.underlying30 cellsA cellsE (hval 1 35 v1 rfl rfl) h1
  obtain ⟨s, rfl, rfl, rfl, ws⟩ := open_int Try.underlying30 (hval 2 30 v2 rfl rfl) h2
  clear hA0
  simp only [List.append_nil] at hW'
  refine (rotating_any x0 x1 y0 y1 s W (bounds_i8 wx0) (bounds_i8 wx1) (bounds_i8 wy0) (bounds_i8 wy1) (bounds_i8 ws)).mono fun e W' ⟨he, hb⟩ => ?_
  subst he
  exact ⟨_, rfl, post_bw (pa := []) (pv := []) hW' (ok_one (by kernel_rfl) rfl (okWide_bool_mk Try.underlying4 _)) (fun _ _ _ => trodAll_cons_mk (shut_bool Try.underlying4 _) trodAll_mk0)
    (fun sp _ => trodAll_cons_mk (shut_arr2 Try.underlying35 Try.underlying30 cellsA cellsE wx0 wx1) (trodAll_cons_mk (shut_arr2 Try.underlying35 Try.underlying30 cellsA cellsE wy0 wy1) (trodAll_cons_mk (shut_int Try.underlying30 ws) trodAll_mk0)))
    (fun _ _ => rfl) rfl hb⟩

set_option maxRecDepth 100000 in
theorem lifted (os : Os) (started : os.Started) (H : Type) (enc : TypeId × Value → H) :
    ReturnsInHanded {} Try.checked os 4 .any (Rows.topThimbleRotatingSpec.pre6 enc Try.prog Try.f4 Rows.topThimbleRotatingRow.domain false) (Rows.topThimbleRotatingSpec.post enc Try.prog Try.f4 false true false false) := by
  refine returnsInHanded_of_change (C := Try.checked) own started (by kernel_rfl) Try.func4
    (ChangeSpec.witness6 (enc := enc) (C := Try.checked) false ⟨#[], #[.agg #[.int .i8 0, .int .i8 0], .agg #[.int .i8 0, .int .i8 0], .int .i8 0], []⟩ 8 (by kernel_rfl) (by kernel_rfl) (by kernel_rfl) (by kernel_rfl)) ?_
  intro W base args ds gs before hval hW _ _
  exact contract H enc W base args ds gs before hval hW

theorem proved : Rows.TopThimbleRotatingSaid :=
  OpenClaim.holds_of_wide 4 Try.f4 rfl rfl rfl rfl rfl rfl rfl ⟨rfl, rfl, rfl, rfl, rfl⟩ rfl rfl rfl rfl rfl (by kernel_rfl) Try.func4 (by kernel_rfl)
    (of_decide_eq_true (by kernel_rfl)) (by unfold Func.isWrapper; first | (rw [if_pos (by decide +kernel)]; kernel_rfl) | (rw [if_neg (by decide +kernel)]; exact ⟨rfl, rfl⟩))
    (fun os started H enc _ => lifted os started H enc)
end Go.Proofs.Ytaikcakpmbhnpaa.rotating
