/- What the reckoner gathers for PhasorRing, and that it holds. -/
import Derived.Test.YtgloclcbeohkhaaGreatDoorRingT
import Derived.Test.YtgloclcbeohkhaaGreatDooraw
set_option linter.all false
set_option maxRecDepth 1000000
open Go.RowKit
namespace Go.Proofs.YtgloclcbeohkhaaGreatDoor
open Mini
theorem ro0 (A B C D E F N : Int) (h : Bnd A B C D E F N) : True := by
  trivial
theorem ro1 (A B C D E F N : Int) (h : Bnd A B C D E F N) : (0 : Int) = Int.ofNat 0 := by
  decide
theorem ro2 (A B C D E F N : Int) (h : Bnd A B C D E F N) : (1 : Int) = Int.ofNat 1 := by
  decide
theorem ro3 (A B C D E F N : Int) (h : Bnd A B C D E F N) : (2 : Int) = Int.ofNat 2 := by
  decide
theorem ro4 (A B C D E F N : Int) (h : Bnd A B C D E F N) : Pl.inB 1048576 (A, B) ∧ Pl.inB 1048576 (C, D) ∧ Pl.inB 1048576 (Pl.add (A, B) (C, D)) := by
  obtain ⟨hA, hC, hE, hN⟩ := h
  have w3 : IntKind.i64.wrap (N + 3) = N + 3 := IntWalk.i64_in _ (by omega)
  have w6 : IntKind.i64.wrap (N + 6) = N + 6 := IntWalk.i64_in _ (by omega)
  have w2 : IntKind.i64.wrap (N + 2) = N + 2 := IntWalk.i64_in _ (by omega)
  have wm : IntKind.i64.wrap (0 - 1048576) = -1048576 := by decide
  have hS := addB hA hC
  have hS' := addB hC hA
  have hM := mulB hA hC
  have hM' := mulB hC hA
  have hSE := mulB hS hE
  have hAE := mulB hA hE
  have hCE := mulB hC hE
  have hAC := addB hAE hCE
  have hT := turnB hA N
  have hT3 := turnB hA (N + 3)
  have hT6 := turnB hA (N + 6)
  have hC2 := turnB hC 2
  have hTC := mulB hT hC2
  have hMT := turnB hM (N + 2)
  have h11 : Pl.inB 1 (1, 1) := by decide
  have hA1 := mulB hA h11
  have hT1 := turnB hA 1
  try simp only [w3, w6, w2]
  refine ⟨?_, ?_, ?_⟩ <;> first | omega | exact up hA (by decide) | exact up hC (by decide) | exact up hE (by decide) | exact up hS (by decide) | exact up hS' (by decide) | exact up hM (by decide) | exact up hM' (by decide) | exact up hSE (by decide) | exact up hAE (by decide) | exact up hCE (by decide) | exact up hAC (by decide) | exact up hT (by decide) | exact up hT3 (by decide) | exact up hT6 (by decide) | exact up hC2 (by decide) | exact up hTC (by decide) | exact up hMT (by decide) | exact up h11 (by decide) | exact up hA1 (by decide) | exact up hT1 (by decide)
theorem ro5 (A B C D E F N : Int) (h : Bnd A B C D E F N) : Pl.inB 1048576 (C, D) ∧ Pl.inB 1048576 (A, B) ∧ Pl.inB 1048576 (Pl.add (C, D) (A, B)) := by
  obtain ⟨hA, hC, hE, hN⟩ := h
  have w3 : IntKind.i64.wrap (N + 3) = N + 3 := IntWalk.i64_in _ (by omega)
  have w6 : IntKind.i64.wrap (N + 6) = N + 6 := IntWalk.i64_in _ (by omega)
  have w2 : IntKind.i64.wrap (N + 2) = N + 2 := IntWalk.i64_in _ (by omega)
  have wm : IntKind.i64.wrap (0 - 1048576) = -1048576 := by decide
  have hS := addB hA hC
  have hS' := addB hC hA
  have hM := mulB hA hC
  have hM' := mulB hC hA
  have hSE := mulB hS hE
  have hAE := mulB hA hE
  have hCE := mulB hC hE
  have hAC := addB hAE hCE
  have hT := turnB hA N
  have hT3 := turnB hA (N + 3)
  have hT6 := turnB hA (N + 6)
  have hC2 := turnB hC 2
  have hTC := mulB hT hC2
  have hMT := turnB hM (N + 2)
  have h11 : Pl.inB 1 (1, 1) := by decide
  have hA1 := mulB hA h11
  have hT1 := turnB hA 1
  try simp only [w3, w6, w2]
  refine ⟨?_, ?_, ?_⟩ <;> first | omega | exact up hA (by decide) | exact up hC (by decide) | exact up hE (by decide) | exact up hS (by decide) | exact up hS' (by decide) | exact up hM (by decide) | exact up hM' (by decide) | exact up hSE (by decide) | exact up hAE (by decide) | exact up hCE (by decide) | exact up hAC (by decide) | exact up hT (by decide) | exact up hT3 (by decide) | exact up hT6 (by decide) | exact up hC2 (by decide) | exact up hTC (by decide) | exact up hMT (by decide) | exact up h11 (by decide) | exact up hA1 (by decide) | exact up hT1 (by decide)
theorem ro6 (A B C D E F N : Int) (h : Bnd A B C D E F N) : Pl.inB 1048576 (A, B) ∧ Pl.inB 1048576 (C, D) ∧ Pl.inB 1048576 (Pl.mul (A, B) (C, D)) := by
  obtain ⟨hA, hC, hE, hN⟩ := h
  have w3 : IntKind.i64.wrap (N + 3) = N + 3 := IntWalk.i64_in _ (by omega)
  have w6 : IntKind.i64.wrap (N + 6) = N + 6 := IntWalk.i64_in _ (by omega)
  have w2 : IntKind.i64.wrap (N + 2) = N + 2 := IntWalk.i64_in _ (by omega)
  have wm : IntKind.i64.wrap (0 - 1048576) = -1048576 := by decide
  have hS := addB hA hC
  have hS' := addB hC hA
  have hM := mulB hA hC
  have hM' := mulB hC hA
  have hSE := mulB hS hE
  have hAE := mulB hA hE
  have hCE := mulB hC hE
  have hAC := addB hAE hCE
  have hT := turnB hA N
  have hT3 := turnB hA (N + 3)
  have hT6 := turnB hA (N + 6)
  have hC2 := turnB hC 2
  have hTC := mulB hT hC2
  have hMT := turnB hM (N + 2)
  have h11 : Pl.inB 1 (1, 1) := by decide
  have hA1 := mulB hA h11
  have hT1 := turnB hA 1
  try simp only [w3, w6, w2]
  refine ⟨?_, ?_, ?_⟩ <;> first | omega | exact up hA (by decide) | exact up hC (by decide) | exact up hE (by decide) | exact up hS (by decide) | exact up hS' (by decide) | exact up hM (by decide) | exact up hM' (by decide) | exact up hSE (by decide) | exact up hAE (by decide) | exact up hCE (by decide) | exact up hAC (by decide) | exact up hT (by decide) | exact up hT3 (by decide) | exact up hT6 (by decide) | exact up hC2 (by decide) | exact up hTC (by decide) | exact up hMT (by decide) | exact up h11 (by decide) | exact up hA1 (by decide) | exact up hT1 (by decide)
theorem ro7 (A B C D E F N : Int) (h : Bnd A B C D E F N) : Pl.inB 1048576 (C, D) ∧ Pl.inB 1048576 (A, B) ∧ Pl.inB 1048576 (Pl.mul (C, D) (A, B)) := by
  obtain ⟨hA, hC, hE, hN⟩ := h
  have w3 : IntKind.i64.wrap (N + 3) = N + 3 := IntWalk.i64_in _ (by omega)
  have w6 : IntKind.i64.wrap (N + 6) = N + 6 := IntWalk.i64_in _ (by omega)
  have w2 : IntKind.i64.wrap (N + 2) = N + 2 := IntWalk.i64_in _ (by omega)
  have wm : IntKind.i64.wrap (0 - 1048576) = -1048576 := by decide
  have hS := addB hA hC
  have hS' := addB hC hA
  have hM := mulB hA hC
  have hM' := mulB hC hA
  have hSE := mulB hS hE
  have hAE := mulB hA hE
  have hCE := mulB hC hE
  have hAC := addB hAE hCE
  have hT := turnB hA N
  have hT3 := turnB hA (N + 3)
  have hT6 := turnB hA (N + 6)
  have hC2 := turnB hC 2
  have hTC := mulB hT hC2
  have hMT := turnB hM (N + 2)
  have h11 : Pl.inB 1 (1, 1) := by decide
  have hA1 := mulB hA h11
  have hT1 := turnB hA 1
  try simp only [w3, w6, w2]
  refine ⟨?_, ?_, ?_⟩ <;> first | omega | exact up hA (by decide) | exact up hC (by decide) | exact up hE (by decide) | exact up hS (by decide) | exact up hS' (by decide) | exact up hM (by decide) | exact up hM' (by decide) | exact up hSE (by decide) | exact up hAE (by decide) | exact up hCE (by decide) | exact up hAC (by decide) | exact up hT (by decide) | exact up hT3 (by decide) | exact up hT6 (by decide) | exact up hC2 (by decide) | exact up hTC (by decide) | exact up hMT (by decide) | exact up h11 (by decide) | exact up hA1 (by decide) | exact up hT1 (by decide)
theorem ro8 (A B C D E F N : Int) (h : Bnd A B C D E F N) : (IntKind.i64.wrap (IntKind.i64.wrap (IntKind.i64.wrap (0 + 0) + 0) + 0) != 0) = false := by
  decide
theorem ro9 (A B C D E F N : Int) (h : Bnd A B C D E F N) : (!((Pl.add (A, B) (C, D)).fst == (Pl.add (C, D) (A, B)).fst && ((Pl.add (A, B) (C, D)).snd == (Pl.add (C, D) (A, B)).snd && true))) = false := by
  obtain ⟨hA, hC, hE, hN⟩ := h
  have w3 : IntKind.i64.wrap (N + 3) = N + 3 := IntWalk.i64_in _ (by omega)
  have w6 : IntKind.i64.wrap (N + 6) = N + 6 := IntWalk.i64_in _ (by omega)
  have w2 : IntKind.i64.wrap (N + 2) = N + 2 := IntWalk.i64_in _ (by omega)
  have wm : IntKind.i64.wrap (0 - 1048576) = -1048576 := by decide
  have hS := addB hA hC
  have hS' := addB hC hA
  have hM := mulB hA hC
  have hM' := mulB hC hA
  have hSE := mulB hS hE
  have hAE := mulB hA hE
  have hCE := mulB hC hE
  have hAC := addB hAE hCE
  have hT := turnB hA N
  have hT3 := turnB hA (N + 3)
  have hT6 := turnB hA (N + 6)
  have hC2 := turnB hC 2
  have hTC := mulB hT hC2
  have hMT := turnB hM (N + 2)
  have h11 : Pl.inB 1 (1, 1) := by decide
  have hA1 := mulB hA h11
  have hT1 := turnB hA 1
  obtain ⟨s1, s2, s3, s4⟩ := hS
  obtain ⟨t1, t2, t3, t4⟩ := hT
  try simp only [w3, w6, w2]
  first | decide | exact eqP (add_comm' (A, B) (C, D)) | exact eqP (mul_comm' (A, B) (C, D)) | exact eqP (mul_add' (A, B) (C, D) (E, F)) | exact eqP (turn_add6 (A, B) N) | exact eqT (mul_turn2 (A, B) (C, D) N) | exact eqT (mul_one1 (A, B)) | exact eqPW (p := Pl.add (A, B) (C, D)) rfl ⟨by simp only [Pl.add] at s1 s2; omega, by simp only [Pl.add] at s1 s2; omega⟩ ⟨by simp only [Pl.add] at s3 s4; omega, by simp only [Pl.add] at s3 s4; omega⟩ | exact eqPW (p := Pl.turn (A, B) (N + 3)) (by rw [turn_add3]; simp) ⟨by omega, by omega⟩ ⟨by omega, by omega⟩
theorem ro10 (A B C D E F N : Int) (h : Bnd A B C D E F N) : (!((Pl.mul (A, B) (C, D)).fst == (Pl.mul (C, D) (A, B)).fst && ((Pl.mul (A, B) (C, D)).snd == (Pl.mul (C, D) (A, B)).snd && true))) = false := by
  obtain ⟨hA, hC, hE, hN⟩ := h
  have w3 : IntKind.i64.wrap (N + 3) = N + 3 := IntWalk.i64_in _ (by omega)
  have w6 : IntKind.i64.wrap (N + 6) = N + 6 := IntWalk.i64_in _ (by omega)
  have w2 : IntKind.i64.wrap (N + 2) = N + 2 := IntWalk.i64_in _ (by omega)
  have wm : IntKind.i64.wrap (0 - 1048576) = -1048576 := by decide
  have hS := addB hA hC
  have hS' := addB hC hA
  have hM := mulB hA hC
  have hM' := mulB hC hA
  have hSE := mulB hS hE
  have hAE := mulB hA hE
  have hCE := mulB hC hE
  have hAC := addB hAE hCE
  have hT := turnB hA N
  have hT3 := turnB hA (N + 3)
  have hT6 := turnB hA (N + 6)
  have hC2 := turnB hC 2
  have hTC := mulB hT hC2
  have hMT := turnB hM (N + 2)
  have h11 : Pl.inB 1 (1, 1) := by decide
  have hA1 := mulB hA h11
  have hT1 := turnB hA 1
  obtain ⟨s1, s2, s3, s4⟩ := hS
  obtain ⟨t1, t2, t3, t4⟩ := hT
  try simp only [w3, w6, w2]
  first | decide | exact eqP (add_comm' (A, B) (C, D)) | exact eqP (mul_comm' (A, B) (C, D)) | exact eqP (mul_add' (A, B) (C, D) (E, F)) | exact eqP (turn_add6 (A, B) N) | exact eqT (mul_turn2 (A, B) (C, D) N) | exact eqT (mul_one1 (A, B)) | exact eqPW (p := Pl.add (A, B) (C, D)) rfl ⟨by simp only [Pl.add] at s1 s2; omega, by simp only [Pl.add] at s1 s2; omega⟩ ⟨by simp only [Pl.add] at s3 s4; omega, by simp only [Pl.add] at s3 s4; omega⟩ | exact eqPW (p := Pl.turn (A, B) (N + 3)) (by rw [turn_add3]; simp) ⟨by omega, by omega⟩ ⟨by omega, by omega⟩
theorem ro11 (A B C D E F N : Int) (h : Bnd A B C D E F N) : (!((Pl.add (A, B) (C, D)).fst == IntKind.i64.wrap (A + C) && ((Pl.add (A, B) (C, D)).snd == IntKind.i64.wrap (B + D) && true))) = false := by
  obtain ⟨hA, hC, hE, hN⟩ := h
  have w3 : IntKind.i64.wrap (N + 3) = N + 3 := IntWalk.i64_in _ (by omega)
  have w6 : IntKind.i64.wrap (N + 6) = N + 6 := IntWalk.i64_in _ (by omega)
  have w2 : IntKind.i64.wrap (N + 2) = N + 2 := IntWalk.i64_in _ (by omega)
  have wm : IntKind.i64.wrap (0 - 1048576) = -1048576 := by decide
  have hS := addB hA hC
  have hS' := addB hC hA
  have hM := mulB hA hC
  have hM' := mulB hC hA
  have hSE := mulB hS hE
  have hAE := mulB hA hE
  have hCE := mulB hC hE
  have hAC := addB hAE hCE
  have hT := turnB hA N
  have hT3 := turnB hA (N + 3)
  have hT6 := turnB hA (N + 6)
  have hC2 := turnB hC 2
  have hTC := mulB hT hC2
  have hMT := turnB hM (N + 2)
  have h11 : Pl.inB 1 (1, 1) := by decide
  have hA1 := mulB hA h11
  have hT1 := turnB hA 1
  obtain ⟨s1, s2, s3, s4⟩ := hS
  obtain ⟨t1, t2, t3, t4⟩ := hT
  try simp only [w3, w6, w2]
  first | decide | exact eqP (add_comm' (A, B) (C, D)) | exact eqP (mul_comm' (A, B) (C, D)) | exact eqP (mul_add' (A, B) (C, D) (E, F)) | exact eqP (turn_add6 (A, B) N) | exact eqT (mul_turn2 (A, B) (C, D) N) | exact eqT (mul_one1 (A, B)) | exact eqPW (p := Pl.add (A, B) (C, D)) rfl ⟨by simp only [Pl.add] at s1 s2; omega, by simp only [Pl.add] at s1 s2; omega⟩ ⟨by simp only [Pl.add] at s3 s4; omega, by simp only [Pl.add] at s3 s4; omega⟩ | exact eqPW (p := Pl.turn (A, B) (N + 3)) (by rw [turn_add3]; simp) ⟨by omega, by omega⟩ ⟨by omega, by omega⟩
theorem ro12 (A B C D E F N : Int) (h : Bnd A B C D E F N) : Pl.inB 1048576 ((Pl.add (A, B) (C, D)).fst, (Pl.add (A, B) (C, D)).snd) ∧ Pl.inB 1048576 (E, F) ∧ Pl.inB 1048576 (Pl.mul ((Pl.add (A, B) (C, D)).fst, (Pl.add (A, B) (C, D)).snd) (E, F)) := by
  obtain ⟨hA, hC, hE, hN⟩ := h
  have w3 : IntKind.i64.wrap (N + 3) = N + 3 := IntWalk.i64_in _ (by omega)
  have w6 : IntKind.i64.wrap (N + 6) = N + 6 := IntWalk.i64_in _ (by omega)
  have w2 : IntKind.i64.wrap (N + 2) = N + 2 := IntWalk.i64_in _ (by omega)
  have wm : IntKind.i64.wrap (0 - 1048576) = -1048576 := by decide
  have hS := addB hA hC
  have hS' := addB hC hA
  have hM := mulB hA hC
  have hM' := mulB hC hA
  have hSE := mulB hS hE
  have hAE := mulB hA hE
  have hCE := mulB hC hE
  have hAC := addB hAE hCE
  have hT := turnB hA N
  have hT3 := turnB hA (N + 3)
  have hT6 := turnB hA (N + 6)
  have hC2 := turnB hC 2
  have hTC := mulB hT hC2
  have hMT := turnB hM (N + 2)
  have h11 : Pl.inB 1 (1, 1) := by decide
  have hA1 := mulB hA h11
  have hT1 := turnB hA 1
  try simp only [w3, w6, w2]
  refine ⟨?_, ?_, ?_⟩ <;> first | omega | exact up hA (by decide) | exact up hC (by decide) | exact up hE (by decide) | exact up hS (by decide) | exact up hS' (by decide) | exact up hM (by decide) | exact up hM' (by decide) | exact up hSE (by decide) | exact up hAE (by decide) | exact up hCE (by decide) | exact up hAC (by decide) | exact up hT (by decide) | exact up hT3 (by decide) | exact up hT6 (by decide) | exact up hC2 (by decide) | exact up hTC (by decide) | exact up hMT (by decide) | exact up h11 (by decide) | exact up hA1 (by decide) | exact up hT1 (by decide)
theorem ro13 (A B C D E F N : Int) (h : Bnd A B C D E F N) : Pl.inB 1048576 (A, B) ∧ Pl.inB 1048576 (E, F) ∧ Pl.inB 1048576 (Pl.mul (A, B) (E, F)) := by
  obtain ⟨hA, hC, hE, hN⟩ := h
  have w3 : IntKind.i64.wrap (N + 3) = N + 3 := IntWalk.i64_in _ (by omega)
  have w6 : IntKind.i64.wrap (N + 6) = N + 6 := IntWalk.i64_in _ (by omega)
  have w2 : IntKind.i64.wrap (N + 2) = N + 2 := IntWalk.i64_in _ (by omega)
  have wm : IntKind.i64.wrap (0 - 1048576) = -1048576 := by decide
  have hS := addB hA hC
  have hS' := addB hC hA
  have hM := mulB hA hC
  have hM' := mulB hC hA
  have hSE := mulB hS hE
  have hAE := mulB hA hE
  have hCE := mulB hC hE
  have hAC := addB hAE hCE
  have hT := turnB hA N
  have hT3 := turnB hA (N + 3)
  have hT6 := turnB hA (N + 6)
  have hC2 := turnB hC 2
  have hTC := mulB hT hC2
  have hMT := turnB hM (N + 2)
  have h11 : Pl.inB 1 (1, 1) := by decide
  have hA1 := mulB hA h11
  have hT1 := turnB hA 1
  try simp only [w3, w6, w2]
  refine ⟨?_, ?_, ?_⟩ <;> first | omega | exact up hA (by decide) | exact up hC (by decide) | exact up hE (by decide) | exact up hS (by decide) | exact up hS' (by decide) | exact up hM (by decide) | exact up hM' (by decide) | exact up hSE (by decide) | exact up hAE (by decide) | exact up hCE (by decide) | exact up hAC (by decide) | exact up hT (by decide) | exact up hT3 (by decide) | exact up hT6 (by decide) | exact up hC2 (by decide) | exact up hTC (by decide) | exact up hMT (by decide) | exact up h11 (by decide) | exact up hA1 (by decide) | exact up hT1 (by decide)
theorem ro14 (A B C D E F N : Int) (h : Bnd A B C D E F N) : Pl.inB 1048576 (C, D) ∧ Pl.inB 1048576 (E, F) ∧ Pl.inB 1048576 (Pl.mul (C, D) (E, F)) := by
  obtain ⟨hA, hC, hE, hN⟩ := h
  have w3 : IntKind.i64.wrap (N + 3) = N + 3 := IntWalk.i64_in _ (by omega)
  have w6 : IntKind.i64.wrap (N + 6) = N + 6 := IntWalk.i64_in _ (by omega)
  have w2 : IntKind.i64.wrap (N + 2) = N + 2 := IntWalk.i64_in _ (by omega)
  have wm : IntKind.i64.wrap (0 - 1048576) = -1048576 := by decide
  have hS := addB hA hC
  have hS' := addB hC hA
  have hM := mulB hA hC
  have hM' := mulB hC hA
  have hSE := mulB hS hE
  have hAE := mulB hA hE
  have hCE := mulB hC hE
  have hAC := addB hAE hCE
  have hT := turnB hA N
  have hT3 := turnB hA (N + 3)
  have hT6 := turnB hA (N + 6)
  have hC2 := turnB hC 2
  have hTC := mulB hT hC2
  have hMT := turnB hM (N + 2)
  have h11 : Pl.inB 1 (1, 1) := by decide
  have hA1 := mulB hA h11
  have hT1 := turnB hA 1
  try simp only [w3, w6, w2]
  refine ⟨?_, ?_, ?_⟩ <;> first | omega | exact up hA (by decide) | exact up hC (by decide) | exact up hE (by decide) | exact up hS (by decide) | exact up hS' (by decide) | exact up hM (by decide) | exact up hM' (by decide) | exact up hSE (by decide) | exact up hAE (by decide) | exact up hCE (by decide) | exact up hAC (by decide) | exact up hT (by decide) | exact up hT3 (by decide) | exact up hT6 (by decide) | exact up hC2 (by decide) | exact up hTC (by decide) | exact up hMT (by decide) | exact up h11 (by decide) | exact up hA1 (by decide) | exact up hT1 (by decide)
theorem ro15 (A B C D E F N : Int) (h : Bnd A B C D E F N) : (IntKind.i64.wrap (IntKind.i64.wrap (0 + 0) + 0) != 0) = false := by
  decide
theorem ro16 (A B C D E F N : Int) (h : Bnd A B C D E F N) : Pl.inB 1048576 ((Pl.mul (A, B) (E, F)).fst, (Pl.mul (A, B) (E, F)).snd) ∧ Pl.inB 1048576 ((Pl.mul (C, D) (E, F)).fst, (Pl.mul (C, D) (E, F)).snd) ∧ Pl.inB 1048576 (Pl.add ((Pl.mul (A, B) (E, F)).fst, (Pl.mul (A, B) (E, F)).snd) ((Pl.mul (C, D) (E, F)).fst, (Pl.mul (C, D) (E, F)).snd)) := by
  obtain ⟨hA, hC, hE, hN⟩ := h
  have w3 : IntKind.i64.wrap (N + 3) = N + 3 := IntWalk.i64_in _ (by omega)
  have w6 : IntKind.i64.wrap (N + 6) = N + 6 := IntWalk.i64_in _ (by omega)
  have w2 : IntKind.i64.wrap (N + 2) = N + 2 := IntWalk.i64_in _ (by omega)
  have wm : IntKind.i64.wrap (0 - 1048576) = -1048576 := by decide
  have hS := addB hA hC
  have hS' := addB hC hA
  have hM := mulB hA hC
  have hM' := mulB hC hA
  have hSE := mulB hS hE
  have hAE := mulB hA hE
  have hCE := mulB hC hE
  have hAC := addB hAE hCE
  have hT := turnB hA N
  have hT3 := turnB hA (N + 3)
  have hT6 := turnB hA (N + 6)
  have hC2 := turnB hC 2
  have hTC := mulB hT hC2
  have hMT := turnB hM (N + 2)
  have h11 : Pl.inB 1 (1, 1) := by decide
  have hA1 := mulB hA h11
  have hT1 := turnB hA 1
  try simp only [w3, w6, w2]
  refine ⟨?_, ?_, ?_⟩ <;> first | omega | exact up hA (by decide) | exact up hC (by decide) | exact up hE (by decide) | exact up hS (by decide) | exact up hS' (by decide) | exact up hM (by decide) | exact up hM' (by decide) | exact up hSE (by decide) | exact up hAE (by decide) | exact up hCE (by decide) | exact up hAC (by decide) | exact up hT (by decide) | exact up hT3 (by decide) | exact up hT6 (by decide) | exact up hC2 (by decide) | exact up hTC (by decide) | exact up hMT (by decide) | exact up h11 (by decide) | exact up hA1 (by decide) | exact up hT1 (by decide)
theorem ro17 (A B C D E F N : Int) (h : Bnd A B C D E F N) : Pl.inB 1048576 (A, B) := by
  obtain ⟨hA, hC, hE, hN⟩ := h
  have w3 : IntKind.i64.wrap (N + 3) = N + 3 := IntWalk.i64_in _ (by omega)
  have w6 : IntKind.i64.wrap (N + 6) = N + 6 := IntWalk.i64_in _ (by omega)
  have w2 : IntKind.i64.wrap (N + 2) = N + 2 := IntWalk.i64_in _ (by omega)
  have wm : IntKind.i64.wrap (0 - 1048576) = -1048576 := by decide
  have hS := addB hA hC
  have hS' := addB hC hA
  have hM := mulB hA hC
  have hM' := mulB hC hA
  have hSE := mulB hS hE
  have hAE := mulB hA hE
  have hCE := mulB hC hE
  have hAC := addB hAE hCE
  have hT := turnB hA N
  have hT3 := turnB hA (N + 3)
  have hT6 := turnB hA (N + 6)
  have hC2 := turnB hC 2
  have hTC := mulB hT hC2
  have hMT := turnB hM (N + 2)
  have h11 : Pl.inB 1 (1, 1) := by decide
  have hA1 := mulB hA h11
  have hT1 := turnB hA 1
  try simp only [w3, w6, w2]
  first | omega | exact up hA (by decide) | exact up hC (by decide) | exact up hE (by decide) | exact up hS (by decide) | exact up hS' (by decide) | exact up hM (by decide) | exact up hM' (by decide) | exact up hSE (by decide) | exact up hAE (by decide) | exact up hCE (by decide) | exact up hAC (by decide) | exact up hT (by decide) | exact up hT3 (by decide) | exact up hT6 (by decide) | exact up hC2 (by decide) | exact up hTC (by decide) | exact up hMT (by decide) | exact up h11 (by decide) | exact up hA1 (by decide) | exact up hT1 (by decide)
theorem ro18 (A B C D E F N : Int) (h : Bnd A B C D E F N) : Pl.inB 1048576 (C, D) := by
  obtain ⟨hA, hC, hE, hN⟩ := h
  have w3 : IntKind.i64.wrap (N + 3) = N + 3 := IntWalk.i64_in _ (by omega)
  have w6 : IntKind.i64.wrap (N + 6) = N + 6 := IntWalk.i64_in _ (by omega)
  have w2 : IntKind.i64.wrap (N + 2) = N + 2 := IntWalk.i64_in _ (by omega)
  have wm : IntKind.i64.wrap (0 - 1048576) = -1048576 := by decide
  have hS := addB hA hC
  have hS' := addB hC hA
  have hM := mulB hA hC
  have hM' := mulB hC hA
  have hSE := mulB hS hE
  have hAE := mulB hA hE
  have hCE := mulB hC hE
  have hAC := addB hAE hCE
  have hT := turnB hA N
  have hT3 := turnB hA (N + 3)
  have hT6 := turnB hA (N + 6)
  have hC2 := turnB hC 2
  have hTC := mulB hT hC2
  have hMT := turnB hM (N + 2)
  have h11 : Pl.inB 1 (1, 1) := by decide
  have hA1 := mulB hA h11
  have hT1 := turnB hA 1
  try simp only [w3, w6, w2]
  first | omega | exact up hA (by decide) | exact up hC (by decide) | exact up hE (by decide) | exact up hS (by decide) | exact up hS' (by decide) | exact up hM (by decide) | exact up hM' (by decide) | exact up hSE (by decide) | exact up hAE (by decide) | exact up hCE (by decide) | exact up hAC (by decide) | exact up hT (by decide) | exact up hT3 (by decide) | exact up hT6 (by decide) | exact up hC2 (by decide) | exact up hTC (by decide) | exact up hMT (by decide) | exact up h11 (by decide) | exact up hA1 (by decide) | exact up hT1 (by decide)
theorem ro19 (A B C D E F N : Int) (h : Bnd A B C D E F N) : Pl.inB 1048576 ((Pl.mul (A, B) (C, D)).fst, (Pl.mul (A, B) (C, D)).snd) := by
  obtain ⟨hA, hC, hE, hN⟩ := h
  have w3 : IntKind.i64.wrap (N + 3) = N + 3 := IntWalk.i64_in _ (by omega)
  have w6 : IntKind.i64.wrap (N + 6) = N + 6 := IntWalk.i64_in _ (by omega)
  have w2 : IntKind.i64.wrap (N + 2) = N + 2 := IntWalk.i64_in _ (by omega)
  have wm : IntKind.i64.wrap (0 - 1048576) = -1048576 := by decide
  have hS := addB hA hC
  have hS' := addB hC hA
  have hM := mulB hA hC
  have hM' := mulB hC hA
  have hSE := mulB hS hE
  have hAE := mulB hA hE
  have hCE := mulB hC hE
  have hAC := addB hAE hCE
  have hT := turnB hA N
  have hT3 := turnB hA (N + 3)
  have hT6 := turnB hA (N + 6)
  have hC2 := turnB hC 2
  have hTC := mulB hT hC2
  have hMT := turnB hM (N + 2)
  have h11 : Pl.inB 1 (1, 1) := by decide
  have hA1 := mulB hA h11
  have hT1 := turnB hA 1
  try simp only [w3, w6, w2]
  first | omega | exact up hA (by decide) | exact up hC (by decide) | exact up hE (by decide) | exact up hS (by decide) | exact up hS' (by decide) | exact up hM (by decide) | exact up hM' (by decide) | exact up hSE (by decide) | exact up hAE (by decide) | exact up hCE (by decide) | exact up hAC (by decide) | exact up hT (by decide) | exact up hT3 (by decide) | exact up hT6 (by decide) | exact up hC2 (by decide) | exact up hTC (by decide) | exact up hMT (by decide) | exact up h11 (by decide) | exact up hA1 (by decide) | exact up hT1 (by decide)
theorem ro20 (A B C D E F N : Int) (h : Bnd A B C D E F N) : (!((Pl.mul ((Pl.add (A, B) (C, D)).fst, (Pl.add (A, B) (C, D)).snd) (E, F)).fst == (Pl.add ((Pl.mul (A, B) (E, F)).fst, (Pl.mul (A, B) (E, F)).snd) ((Pl.mul (C, D) (E, F)).fst, (Pl.mul (C, D) (E, F)).snd)).fst && ((Pl.mul ((Pl.add (A, B) (C, D)).fst, (Pl.add (A, B) (C, D)).snd) (E, F)).snd == (Pl.add ((Pl.mul (A, B) (E, F)).fst, (Pl.mul (A, B) (E, F)).snd) ((Pl.mul (C, D) (E, F)).fst, (Pl.mul (C, D) (E, F)).snd)).snd && true))) = false := by
  obtain ⟨hA, hC, hE, hN⟩ := h
  have w3 : IntKind.i64.wrap (N + 3) = N + 3 := IntWalk.i64_in _ (by omega)
  have w6 : IntKind.i64.wrap (N + 6) = N + 6 := IntWalk.i64_in _ (by omega)
  have w2 : IntKind.i64.wrap (N + 2) = N + 2 := IntWalk.i64_in _ (by omega)
  have wm : IntKind.i64.wrap (0 - 1048576) = -1048576 := by decide
  have hS := addB hA hC
  have hS' := addB hC hA
  have hM := mulB hA hC
  have hM' := mulB hC hA
  have hSE := mulB hS hE
  have hAE := mulB hA hE
  have hCE := mulB hC hE
  have hAC := addB hAE hCE
  have hT := turnB hA N
  have hT3 := turnB hA (N + 3)
  have hT6 := turnB hA (N + 6)
  have hC2 := turnB hC 2
  have hTC := mulB hT hC2
  have hMT := turnB hM (N + 2)
  have h11 : Pl.inB 1 (1, 1) := by decide
  have hA1 := mulB hA h11
  have hT1 := turnB hA 1
  obtain ⟨s1, s2, s3, s4⟩ := hS
  obtain ⟨t1, t2, t3, t4⟩ := hT
  try simp only [w3, w6, w2]
  first | decide | exact eqP (add_comm' (A, B) (C, D)) | exact eqP (mul_comm' (A, B) (C, D)) | exact eqP (mul_add' (A, B) (C, D) (E, F)) | exact eqP (turn_add6 (A, B) N) | exact eqT (mul_turn2 (A, B) (C, D) N) | exact eqT (mul_one1 (A, B)) | exact eqPW (p := Pl.add (A, B) (C, D)) rfl ⟨by simp only [Pl.add] at s1 s2; omega, by simp only [Pl.add] at s1 s2; omega⟩ ⟨by simp only [Pl.add] at s3 s4; omega, by simp only [Pl.add] at s3 s4; omega⟩ | exact eqPW (p := Pl.turn (A, B) (N + 3)) (by rw [turn_add3]; simp) ⟨by omega, by omega⟩ ⟨by omega, by omega⟩
theorem ro21 (A B C D E F N : Int) (h : Bnd A B C D E F N) : (IntKind.i64.wrap (Pl.norm (A, B) * Pl.norm (C, D)) != Pl.norm ((Pl.mul (A, B) (C, D)).fst, (Pl.mul (A, B) (C, D)).snd)) = false := by
  exact normMul h.a h.c
theorem ro22 (A B C D E F N : Int) (h : Bnd A B C D E F N) : decide (Pl.norm (A, B) < 0) = false := by
  simp only [decide_eq_false_iff_not]
  have := norm_nn A B
  omega
theorem ro23 (A B C D E F N : Int) (h : Bnd A B C D E F N) : (!((Pl.norm (A, B) == 0) == (A == 0 && (B == 0 && true)))) = false := by
  exact normZero A B
theorem ro24 (A B C D E F N : Int) (h : Bnd A B C D E F N) : Pl.inB 1048576 (A, B) ∧ (-1000000 ≤ IntKind.i64.wrap (N + 3) ∧ IntKind.i64.wrap (N + 3) ≤ 1000000) ∧ Pl.inB 1048576 (Pl.turn (A, B) (IntKind.i64.wrap (N + 3))) := by
  obtain ⟨hA, hC, hE, hN⟩ := h
  have w3 : IntKind.i64.wrap (N + 3) = N + 3 := IntWalk.i64_in _ (by omega)
  have w6 : IntKind.i64.wrap (N + 6) = N + 6 := IntWalk.i64_in _ (by omega)
  have w2 : IntKind.i64.wrap (N + 2) = N + 2 := IntWalk.i64_in _ (by omega)
  have wm : IntKind.i64.wrap (0 - 1048576) = -1048576 := by decide
  have hS := addB hA hC
  have hS' := addB hC hA
  have hM := mulB hA hC
  have hM' := mulB hC hA
  have hSE := mulB hS hE
  have hAE := mulB hA hE
  have hCE := mulB hC hE
  have hAC := addB hAE hCE
  have hT := turnB hA N
  have hT3 := turnB hA (N + 3)
  have hT6 := turnB hA (N + 6)
  have hC2 := turnB hC 2
  have hTC := mulB hT hC2
  have hMT := turnB hM (N + 2)
  have h11 : Pl.inB 1 (1, 1) := by decide
  have hA1 := mulB hA h11
  have hT1 := turnB hA 1
  try simp only [w3, w6, w2]
  refine ⟨?_, ⟨?_, ?_⟩, ?_⟩ <;> first | omega | exact up hA (by decide) | exact up hC (by decide) | exact up hE (by decide) | exact up hS (by decide) | exact up hS' (by decide) | exact up hM (by decide) | exact up hM' (by decide) | exact up hSE (by decide) | exact up hAE (by decide) | exact up hCE (by decide) | exact up hAC (by decide) | exact up hT (by decide) | exact up hT3 (by decide) | exact up hT6 (by decide) | exact up hC2 (by decide) | exact up hTC (by decide) | exact up hMT (by decide) | exact up h11 (by decide) | exact up hA1 (by decide) | exact up hT1 (by decide)
theorem ro25 (A B C D E F N : Int) (h : Bnd A B C D E F N) : Pl.inB 1048576 (A, B) ∧ (-1000000 ≤ N ∧ N ≤ 1000000) ∧ Pl.inB 1048576 (Pl.turn (A, B) (N)) := by
  obtain ⟨hA, hC, hE, hN⟩ := h
  have w3 : IntKind.i64.wrap (N + 3) = N + 3 := IntWalk.i64_in _ (by omega)
  have w6 : IntKind.i64.wrap (N + 6) = N + 6 := IntWalk.i64_in _ (by omega)
  have w2 : IntKind.i64.wrap (N + 2) = N + 2 := IntWalk.i64_in _ (by omega)
  have wm : IntKind.i64.wrap (0 - 1048576) = -1048576 := by decide
  have hS := addB hA hC
  have hS' := addB hC hA
  have hM := mulB hA hC
  have hM' := mulB hC hA
  have hSE := mulB hS hE
  have hAE := mulB hA hE
  have hCE := mulB hC hE
  have hAC := addB hAE hCE
  have hT := turnB hA N
  have hT3 := turnB hA (N + 3)
  have hT6 := turnB hA (N + 6)
  have hC2 := turnB hC 2
  have hTC := mulB hT hC2
  have hMT := turnB hM (N + 2)
  have h11 : Pl.inB 1 (1, 1) := by decide
  have hA1 := mulB hA h11
  have hT1 := turnB hA 1
  try simp only [w3, w6, w2]
  refine ⟨?_, ⟨?_, ?_⟩, ?_⟩ <;> first | omega | exact up hA (by decide) | exact up hC (by decide) | exact up hE (by decide) | exact up hS (by decide) | exact up hS' (by decide) | exact up hM (by decide) | exact up hM' (by decide) | exact up hSE (by decide) | exact up hAE (by decide) | exact up hCE (by decide) | exact up hAC (by decide) | exact up hT (by decide) | exact up hT3 (by decide) | exact up hT6 (by decide) | exact up hC2 (by decide) | exact up hTC (by decide) | exact up hMT (by decide) | exact up h11 (by decide) | exact up hA1 (by decide) | exact up hT1 (by decide)
theorem ro26 (A B C D E F N : Int) (h : Bnd A B C D E F N) : Pl.inB 1048576 (A, B) ∧ (-1000000 ≤ IntKind.i64.wrap (N + 6) ∧ IntKind.i64.wrap (N + 6) ≤ 1000000) ∧ Pl.inB 1048576 (Pl.turn (A, B) (IntKind.i64.wrap (N + 6))) := by
  obtain ⟨hA, hC, hE, hN⟩ := h
  have w3 : IntKind.i64.wrap (N + 3) = N + 3 := IntWalk.i64_in _ (by omega)
  have w6 : IntKind.i64.wrap (N + 6) = N + 6 := IntWalk.i64_in _ (by omega)
  have w2 : IntKind.i64.wrap (N + 2) = N + 2 := IntWalk.i64_in _ (by omega)
  have wm : IntKind.i64.wrap (0 - 1048576) = -1048576 := by decide
  have hS := addB hA hC
  have hS' := addB hC hA
  have hM := mulB hA hC
  have hM' := mulB hC hA
  have hSE := mulB hS hE
  have hAE := mulB hA hE
  have hCE := mulB hC hE
  have hAC := addB hAE hCE
  have hT := turnB hA N
  have hT3 := turnB hA (N + 3)
  have hT6 := turnB hA (N + 6)
  have hC2 := turnB hC 2
  have hTC := mulB hT hC2
  have hMT := turnB hM (N + 2)
  have h11 : Pl.inB 1 (1, 1) := by decide
  have hA1 := mulB hA h11
  have hT1 := turnB hA 1
  try simp only [w3, w6, w2]
  refine ⟨?_, ⟨?_, ?_⟩, ?_⟩ <;> first | omega | exact up hA (by decide) | exact up hC (by decide) | exact up hE (by decide) | exact up hS (by decide) | exact up hS' (by decide) | exact up hM (by decide) | exact up hM' (by decide) | exact up hSE (by decide) | exact up hAE (by decide) | exact up hCE (by decide) | exact up hAC (by decide) | exact up hT (by decide) | exact up hT3 (by decide) | exact up hT6 (by decide) | exact up hC2 (by decide) | exact up hTC (by decide) | exact up hMT (by decide) | exact up h11 (by decide) | exact up hA1 (by decide) | exact up hT1 (by decide)
theorem ro27 (A B C D E F N : Int) (h : Bnd A B C D E F N) : Pl.inB 1048576 (C, D) ∧ ((-1000000 : Int) ≤ 2 ∧ (2 : Int) ≤ 1000000) ∧ Pl.inB 1048576 (Pl.turn (C, D) 2) := by
  obtain ⟨hA, hC, hE, hN⟩ := h
  have w3 : IntKind.i64.wrap (N + 3) = N + 3 := IntWalk.i64_in _ (by omega)
  have w6 : IntKind.i64.wrap (N + 6) = N + 6 := IntWalk.i64_in _ (by omega)
  have w2 : IntKind.i64.wrap (N + 2) = N + 2 := IntWalk.i64_in _ (by omega)
  have wm : IntKind.i64.wrap (0 - 1048576) = -1048576 := by decide
  have hS := addB hA hC
  have hS' := addB hC hA
  have hM := mulB hA hC
  have hM' := mulB hC hA
  have hSE := mulB hS hE
  have hAE := mulB hA hE
  have hCE := mulB hC hE
  have hAC := addB hAE hCE
  have hT := turnB hA N
  have hT3 := turnB hA (N + 3)
  have hT6 := turnB hA (N + 6)
  have hC2 := turnB hC 2
  have hTC := mulB hT hC2
  have hMT := turnB hM (N + 2)
  have h11 : Pl.inB 1 (1, 1) := by decide
  have hA1 := mulB hA h11
  have hT1 := turnB hA 1
  try simp only [w3, w6, w2]
  refine ⟨?_, ⟨?_, ?_⟩, ?_⟩ <;> first | omega | exact up hA (by decide) | exact up hC (by decide) | exact up hE (by decide) | exact up hS (by decide) | exact up hS' (by decide) | exact up hM (by decide) | exact up hM' (by decide) | exact up hSE (by decide) | exact up hAE (by decide) | exact up hCE (by decide) | exact up hAC (by decide) | exact up hT (by decide) | exact up hT3 (by decide) | exact up hT6 (by decide) | exact up hC2 (by decide) | exact up hTC (by decide) | exact up hMT (by decide) | exact up h11 (by decide) | exact up hA1 (by decide) | exact up hT1 (by decide)
theorem ro28 (A B C D E F N : Int) (h : Bnd A B C D E F N) : (!((Pl.turn (A, B) (IntKind.i64.wrap (N + 3))).fst == IntKind.i64.wrap (0 - (Pl.turn (A, B) (N)).fst) && ((Pl.turn (A, B) (IntKind.i64.wrap (N + 3))).snd == IntKind.i64.wrap (0 - (Pl.turn (A, B) (N)).snd) && true))) = false := by
  obtain ⟨hA, hC, hE, hN⟩ := h
  have w3 : IntKind.i64.wrap (N + 3) = N + 3 := IntWalk.i64_in _ (by omega)
  have w6 : IntKind.i64.wrap (N + 6) = N + 6 := IntWalk.i64_in _ (by omega)
  have w2 : IntKind.i64.wrap (N + 2) = N + 2 := IntWalk.i64_in _ (by omega)
  have wm : IntKind.i64.wrap (0 - 1048576) = -1048576 := by decide
  have hS := addB hA hC
  have hS' := addB hC hA
  have hM := mulB hA hC
  have hM' := mulB hC hA
  have hSE := mulB hS hE
  have hAE := mulB hA hE
  have hCE := mulB hC hE
  have hAC := addB hAE hCE
  have hT := turnB hA N
  have hT3 := turnB hA (N + 3)
  have hT6 := turnB hA (N + 6)
  have hC2 := turnB hC 2
  have hTC := mulB hT hC2
  have hMT := turnB hM (N + 2)
  have h11 : Pl.inB 1 (1, 1) := by decide
  have hA1 := mulB hA h11
  have hT1 := turnB hA 1
  obtain ⟨s1, s2, s3, s4⟩ := hS
  obtain ⟨t1, t2, t3, t4⟩ := hT
  try simp only [w3, w6, w2]
  first | decide | exact eqP (add_comm' (A, B) (C, D)) | exact eqP (mul_comm' (A, B) (C, D)) | exact eqP (mul_add' (A, B) (C, D) (E, F)) | exact eqP (turn_add6 (A, B) N) | exact eqT (mul_turn2 (A, B) (C, D) N) | exact eqT (mul_one1 (A, B)) | exact eqPW (p := Pl.add (A, B) (C, D)) rfl ⟨by simp only [Pl.add] at s1 s2; omega, by simp only [Pl.add] at s1 s2; omega⟩ ⟨by simp only [Pl.add] at s3 s4; omega, by simp only [Pl.add] at s3 s4; omega⟩ | exact eqPW (p := Pl.turn (A, B) (N + 3)) (by rw [turn_add3]; simp) ⟨by omega, by omega⟩ ⟨by omega, by omega⟩
theorem ro29 (A B C D E F N : Int) (h : Bnd A B C D E F N) : (!((Pl.turn (A, B) (IntKind.i64.wrap (N + 6))).fst == (Pl.turn (A, B) (N)).fst && ((Pl.turn (A, B) (IntKind.i64.wrap (N + 6))).snd == (Pl.turn (A, B) (N)).snd && true))) = false := by
  obtain ⟨hA, hC, hE, hN⟩ := h
  have w3 : IntKind.i64.wrap (N + 3) = N + 3 := IntWalk.i64_in _ (by omega)
  have w6 : IntKind.i64.wrap (N + 6) = N + 6 := IntWalk.i64_in _ (by omega)
  have w2 : IntKind.i64.wrap (N + 2) = N + 2 := IntWalk.i64_in _ (by omega)
  have wm : IntKind.i64.wrap (0 - 1048576) = -1048576 := by decide
  have hS := addB hA hC
  have hS' := addB hC hA
  have hM := mulB hA hC
  have hM' := mulB hC hA
  have hSE := mulB hS hE
  have hAE := mulB hA hE
  have hCE := mulB hC hE
  have hAC := addB hAE hCE
  have hT := turnB hA N
  have hT3 := turnB hA (N + 3)
  have hT6 := turnB hA (N + 6)
  have hC2 := turnB hC 2
  have hTC := mulB hT hC2
  have hMT := turnB hM (N + 2)
  have h11 : Pl.inB 1 (1, 1) := by decide
  have hA1 := mulB hA h11
  have hT1 := turnB hA 1
  obtain ⟨s1, s2, s3, s4⟩ := hS
  obtain ⟨t1, t2, t3, t4⟩ := hT
  try simp only [w3, w6, w2]
  first | decide | exact eqP (add_comm' (A, B) (C, D)) | exact eqP (mul_comm' (A, B) (C, D)) | exact eqP (mul_add' (A, B) (C, D) (E, F)) | exact eqP (turn_add6 (A, B) N) | exact eqT (mul_turn2 (A, B) (C, D) N) | exact eqT (mul_one1 (A, B)) | exact eqPW (p := Pl.add (A, B) (C, D)) rfl ⟨by simp only [Pl.add] at s1 s2; omega, by simp only [Pl.add] at s1 s2; omega⟩ ⟨by simp only [Pl.add] at s3 s4; omega, by simp only [Pl.add] at s3 s4; omega⟩ | exact eqPW (p := Pl.turn (A, B) (N + 3)) (by rw [turn_add3]; simp) ⟨by omega, by omega⟩ ⟨by omega, by omega⟩
theorem ro30 (A B C D E F N : Int) (h : Bnd A B C D E F N) : decide ((Pl.turn (A, B) (N)).fst < IntKind.i64.wrap (0 - 1048576)) = false := by
  obtain ⟨hA, hC, hE, hN⟩ := h
  have w3 : IntKind.i64.wrap (N + 3) = N + 3 := IntWalk.i64_in _ (by omega)
  have w6 : IntKind.i64.wrap (N + 6) = N + 6 := IntWalk.i64_in _ (by omega)
  have w2 : IntKind.i64.wrap (N + 2) = N + 2 := IntWalk.i64_in _ (by omega)
  have wm : IntKind.i64.wrap (0 - 1048576) = -1048576 := by decide
  have hS := addB hA hC
  have hS' := addB hC hA
  have hM := mulB hA hC
  have hM' := mulB hC hA
  have hSE := mulB hS hE
  have hAE := mulB hA hE
  have hCE := mulB hC hE
  have hAC := addB hAE hCE
  have hT := turnB hA N
  have hT3 := turnB hA (N + 3)
  have hT6 := turnB hA (N + 6)
  have hC2 := turnB hC 2
  have hTC := mulB hT hC2
  have hMT := turnB hM (N + 2)
  have h11 : Pl.inB 1 (1, 1) := by decide
  have hA1 := mulB hA h11
  have hT1 := turnB hA 1
  obtain ⟨t1, t2, t3, t4⟩ := hT
  try rw [wm]
  simp only [decide_eq_false_iff_not]
  omega
theorem ro31 (A B C D E F N : Int) (h : Bnd A B C D E F N) : decide ((Pl.turn (A, B) (N)).fst > 1048576) = false := by
  obtain ⟨hA, hC, hE, hN⟩ := h
  have w3 : IntKind.i64.wrap (N + 3) = N + 3 := IntWalk.i64_in _ (by omega)
  have w6 : IntKind.i64.wrap (N + 6) = N + 6 := IntWalk.i64_in _ (by omega)
  have w2 : IntKind.i64.wrap (N + 2) = N + 2 := IntWalk.i64_in _ (by omega)
  have wm : IntKind.i64.wrap (0 - 1048576) = -1048576 := by decide
  have hS := addB hA hC
  have hS' := addB hC hA
  have hM := mulB hA hC
  have hM' := mulB hC hA
  have hSE := mulB hS hE
  have hAE := mulB hA hE
  have hCE := mulB hC hE
  have hAC := addB hAE hCE
  have hT := turnB hA N
  have hT3 := turnB hA (N + 3)
  have hT6 := turnB hA (N + 6)
  have hC2 := turnB hC 2
  have hTC := mulB hT hC2
  have hMT := turnB hM (N + 2)
  have h11 : Pl.inB 1 (1, 1) := by decide
  have hA1 := mulB hA h11
  have hT1 := turnB hA 1
  obtain ⟨t1, t2, t3, t4⟩ := hT
  try rw [wm]
  simp only [decide_eq_false_iff_not]
  omega
theorem ro32 (A B C D E F N : Int) (h : Bnd A B C D E F N) : decide ((Pl.turn (A, B) (N)).snd < IntKind.i64.wrap (0 - 1048576)) = false := by
  obtain ⟨hA, hC, hE, hN⟩ := h
  have w3 : IntKind.i64.wrap (N + 3) = N + 3 := IntWalk.i64_in _ (by omega)
  have w6 : IntKind.i64.wrap (N + 6) = N + 6 := IntWalk.i64_in _ (by omega)
  have w2 : IntKind.i64.wrap (N + 2) = N + 2 := IntWalk.i64_in _ (by omega)
  have wm : IntKind.i64.wrap (0 - 1048576) = -1048576 := by decide
  have hS := addB hA hC
  have hS' := addB hC hA
  have hM := mulB hA hC
  have hM' := mulB hC hA
  have hSE := mulB hS hE
  have hAE := mulB hA hE
  have hCE := mulB hC hE
  have hAC := addB hAE hCE
  have hT := turnB hA N
  have hT3 := turnB hA (N + 3)
  have hT6 := turnB hA (N + 6)
  have hC2 := turnB hC 2
  have hTC := mulB hT hC2
  have hMT := turnB hM (N + 2)
  have h11 : Pl.inB 1 (1, 1) := by decide
  have hA1 := mulB hA h11
  have hT1 := turnB hA 1
  obtain ⟨t1, t2, t3, t4⟩ := hT
  try rw [wm]
  simp only [decide_eq_false_iff_not]
  omega
theorem ro33 (A B C D E F N : Int) (h : Bnd A B C D E F N) : decide ((Pl.turn (A, B) (N)).snd > 1048576) = false := by
  obtain ⟨hA, hC, hE, hN⟩ := h
  have w3 : IntKind.i64.wrap (N + 3) = N + 3 := IntWalk.i64_in _ (by omega)
  have w6 : IntKind.i64.wrap (N + 6) = N + 6 := IntWalk.i64_in _ (by omega)
  have w2 : IntKind.i64.wrap (N + 2) = N + 2 := IntWalk.i64_in _ (by omega)
  have wm : IntKind.i64.wrap (0 - 1048576) = -1048576 := by decide
  have hS := addB hA hC
  have hS' := addB hC hA
  have hM := mulB hA hC
  have hM' := mulB hC hA
  have hSE := mulB hS hE
  have hAE := mulB hA hE
  have hCE := mulB hC hE
  have hAC := addB hAE hCE
  have hT := turnB hA N
  have hT3 := turnB hA (N + 3)
  have hT6 := turnB hA (N + 6)
  have hC2 := turnB hC 2
  have hTC := mulB hT hC2
  have hMT := turnB hM (N + 2)
  have h11 : Pl.inB 1 (1, 1) := by decide
  have hA1 := mulB hA h11
  have hT1 := turnB hA 1
  obtain ⟨t1, t2, t3, t4⟩ := hT
  try rw [wm]
  simp only [decide_eq_false_iff_not]
  omega
theorem ro34 (A B C D E F N : Int) (h : Bnd A B C D E F N) : decide (0 < ((2 : Nat) : Int)) = true := by
  decide
theorem ro35 (A B C D E F N : Int) (h : Bnd A B C D E F N) : ((0 : Int) != 0) = false := by
  decide
theorem ro36 (A B C D E F N : Int) (h : Bnd A B C D E F N) : decide (IntKind.i64.wrap (0 + 1) < ((2 : Nat) : Int)) = true := by
  decide
theorem ro37 (A B C D E F N : Int) (h : Bnd A B C D E F N) : IntKind.i64.wrap (0 + 1) = Int.ofNat 1 := by
  decide
theorem ro38 (A B C D E F N : Int) (h : Bnd A B C D E F N) : decide (IntKind.i64.wrap (IntKind.i64.wrap (0 + 1) + 1) < ((2 : Nat) : Int)) = false := by
  decide
theorem ro39 (A B C D E F N : Int) (h : Bnd A B C D E F N) : Pl.inB 1048576 ((Pl.turn (A, B) (N)).fst, (Pl.turn (A, B) (N)).snd) := by
  obtain ⟨hA, hC, hE, hN⟩ := h
  have w3 : IntKind.i64.wrap (N + 3) = N + 3 := IntWalk.i64_in _ (by omega)
  have w6 : IntKind.i64.wrap (N + 6) = N + 6 := IntWalk.i64_in _ (by omega)
  have w2 : IntKind.i64.wrap (N + 2) = N + 2 := IntWalk.i64_in _ (by omega)
  have wm : IntKind.i64.wrap (0 - 1048576) = -1048576 := by decide
  have hS := addB hA hC
  have hS' := addB hC hA
  have hM := mulB hA hC
  have hM' := mulB hC hA
  have hSE := mulB hS hE
  have hAE := mulB hA hE
  have hCE := mulB hC hE
  have hAC := addB hAE hCE
  have hT := turnB hA N
  have hT3 := turnB hA (N + 3)
  have hT6 := turnB hA (N + 6)
  have hC2 := turnB hC 2
  have hTC := mulB hT hC2
  have hMT := turnB hM (N + 2)
  have h11 : Pl.inB 1 (1, 1) := by decide
  have hA1 := mulB hA h11
  have hT1 := turnB hA 1
  try simp only [w3, w6, w2]
  first | omega | exact up hA (by decide) | exact up hC (by decide) | exact up hE (by decide) | exact up hS (by decide) | exact up hS' (by decide) | exact up hM (by decide) | exact up hM' (by decide) | exact up hSE (by decide) | exact up hAE (by decide) | exact up hCE (by decide) | exact up hAC (by decide) | exact up hT (by decide) | exact up hT3 (by decide) | exact up hT6 (by decide) | exact up hC2 (by decide) | exact up hTC (by decide) | exact up hMT (by decide) | exact up h11 (by decide) | exact up hA1 (by decide) | exact up hT1 (by decide)
theorem ro40 (A B C D E F N : Int) (h : Bnd A B C D E F N) : Pl.inB 1048576 ((Pl.turn (A, B) (N)).fst, (Pl.turn (A, B) (N)).snd) ∧ Pl.inB 1048576 ((Pl.turn (C, D) 2).fst, (Pl.turn (C, D) 2).snd) ∧ Pl.inB 1048576 (Pl.mul ((Pl.turn (A, B) (N)).fst, (Pl.turn (A, B) (N)).snd) ((Pl.turn (C, D) 2).fst, (Pl.turn (C, D) 2).snd)) := by
  obtain ⟨hA, hC, hE, hN⟩ := h
  have w3 : IntKind.i64.wrap (N + 3) = N + 3 := IntWalk.i64_in _ (by omega)
  have w6 : IntKind.i64.wrap (N + 6) = N + 6 := IntWalk.i64_in _ (by omega)
  have w2 : IntKind.i64.wrap (N + 2) = N + 2 := IntWalk.i64_in _ (by omega)
  have wm : IntKind.i64.wrap (0 - 1048576) = -1048576 := by decide
  have hS := addB hA hC
  have hS' := addB hC hA
  have hM := mulB hA hC
  have hM' := mulB hC hA
  have hSE := mulB hS hE
  have hAE := mulB hA hE
  have hCE := mulB hC hE
  have hAC := addB hAE hCE
  have hT := turnB hA N
  have hT3 := turnB hA (N + 3)
  have hT6 := turnB hA (N + 6)
  have hC2 := turnB hC 2
  have hTC := mulB hT hC2
  have hMT := turnB hM (N + 2)
  have h11 : Pl.inB 1 (1, 1) := by decide
  have hA1 := mulB hA h11
  have hT1 := turnB hA 1
  try simp only [w3, w6, w2]
  refine ⟨?_, ?_, ?_⟩ <;> first | omega | exact up hA (by decide) | exact up hC (by decide) | exact up hE (by decide) | exact up hS (by decide) | exact up hS' (by decide) | exact up hM (by decide) | exact up hM' (by decide) | exact up hSE (by decide) | exact up hAE (by decide) | exact up hCE (by decide) | exact up hAC (by decide) | exact up hT (by decide) | exact up hT3 (by decide) | exact up hT6 (by decide) | exact up hC2 (by decide) | exact up hTC (by decide) | exact up hMT (by decide) | exact up h11 (by decide) | exact up hA1 (by decide) | exact up hT1 (by decide)
theorem ro41 (A B C D E F N : Int) (h : Bnd A B C D E F N) : Pl.inB 1048576 ((Pl.mul (A, B) (C, D)).fst, (Pl.mul (A, B) (C, D)).snd) ∧ (-1000000 ≤ IntKind.i64.wrap (N + 2) ∧ IntKind.i64.wrap (N + 2) ≤ 1000000) ∧ Pl.inB 1048576 (Pl.turn ((Pl.mul (A, B) (C, D)).fst, (Pl.mul (A, B) (C, D)).snd) (IntKind.i64.wrap (N + 2))) := by
  obtain ⟨hA, hC, hE, hN⟩ := h
  have w3 : IntKind.i64.wrap (N + 3) = N + 3 := IntWalk.i64_in _ (by omega)
  have w6 : IntKind.i64.wrap (N + 6) = N + 6 := IntWalk.i64_in _ (by omega)
  have w2 : IntKind.i64.wrap (N + 2) = N + 2 := IntWalk.i64_in _ (by omega)
  have wm : IntKind.i64.wrap (0 - 1048576) = -1048576 := by decide
  have hS := addB hA hC
  have hS' := addB hC hA
  have hM := mulB hA hC
  have hM' := mulB hC hA
  have hSE := mulB hS hE
  have hAE := mulB hA hE
  have hCE := mulB hC hE
  have hAC := addB hAE hCE
  have hT := turnB hA N
  have hT3 := turnB hA (N + 3)
  have hT6 := turnB hA (N + 6)
  have hC2 := turnB hC 2
  have hTC := mulB hT hC2
  have hMT := turnB hM (N + 2)
  have h11 : Pl.inB 1 (1, 1) := by decide
  have hA1 := mulB hA h11
  have hT1 := turnB hA 1
  try simp only [w3, w6, w2]
  refine ⟨?_, ⟨?_, ?_⟩, ?_⟩ <;> first | omega | exact up hA (by decide) | exact up hC (by decide) | exact up hE (by decide) | exact up hS (by decide) | exact up hS' (by decide) | exact up hM (by decide) | exact up hM' (by decide) | exact up hSE (by decide) | exact up hAE (by decide) | exact up hCE (by decide) | exact up hAC (by decide) | exact up hT (by decide) | exact up hT3 (by decide) | exact up hT6 (by decide) | exact up hC2 (by decide) | exact up hTC (by decide) | exact up hMT (by decide) | exact up h11 (by decide) | exact up hA1 (by decide) | exact up hT1 (by decide)
theorem ro42 (A B C D E F N : Int) (h : Bnd A B C D E F N) : Pl.inB 1048576 (A, B) ∧ Pl.inB 1048576 (1, 1) ∧ Pl.inB 1048576 (Pl.mul (A, B) (1, 1)) := by
  obtain ⟨hA, hC, hE, hN⟩ := h
  have w3 : IntKind.i64.wrap (N + 3) = N + 3 := IntWalk.i64_in _ (by omega)
  have w6 : IntKind.i64.wrap (N + 6) = N + 6 := IntWalk.i64_in _ (by omega)
  have w2 : IntKind.i64.wrap (N + 2) = N + 2 := IntWalk.i64_in _ (by omega)
  have wm : IntKind.i64.wrap (0 - 1048576) = -1048576 := by decide
  have hS := addB hA hC
  have hS' := addB hC hA
  have hM := mulB hA hC
  have hM' := mulB hC hA
  have hSE := mulB hS hE
  have hAE := mulB hA hE
  have hCE := mulB hC hE
  have hAC := addB hAE hCE
  have hT := turnB hA N
  have hT3 := turnB hA (N + 3)
  have hT6 := turnB hA (N + 6)
  have hC2 := turnB hC 2
  have hTC := mulB hT hC2
  have hMT := turnB hM (N + 2)
  have h11 : Pl.inB 1 (1, 1) := by decide
  have hA1 := mulB hA h11
  have hT1 := turnB hA 1
  try simp only [w3, w6, w2]
  refine ⟨?_, ?_, ?_⟩ <;> first | omega | exact up hA (by decide) | exact up hC (by decide) | exact up hE (by decide) | exact up hS (by decide) | exact up hS' (by decide) | exact up hM (by decide) | exact up hM' (by decide) | exact up hSE (by decide) | exact up hAE (by decide) | exact up hCE (by decide) | exact up hAC (by decide) | exact up hT (by decide) | exact up hT3 (by decide) | exact up hT6 (by decide) | exact up hC2 (by decide) | exact up hTC (by decide) | exact up hMT (by decide) | exact up h11 (by decide) | exact up hA1 (by decide) | exact up hT1 (by decide)
theorem ro43 (A B C D E F N : Int) (h : Bnd A B C D E F N) : Pl.inB 1048576 (A, B) ∧ ((-1000000 : Int) ≤ 1 ∧ (1 : Int) ≤ 1000000) ∧ Pl.inB 1048576 (Pl.turn (A, B) 1) := by
  obtain ⟨hA, hC, hE, hN⟩ := h
  have w3 : IntKind.i64.wrap (N + 3) = N + 3 := IntWalk.i64_in _ (by omega)
  have w6 : IntKind.i64.wrap (N + 6) = N + 6 := IntWalk.i64_in _ (by omega)
  have w2 : IntKind.i64.wrap (N + 2) = N + 2 := IntWalk.i64_in _ (by omega)
  have wm : IntKind.i64.wrap (0 - 1048576) = -1048576 := by decide
  have hS := addB hA hC
  have hS' := addB hC hA
  have hM := mulB hA hC
  have hM' := mulB hC hA
  have hSE := mulB hS hE
  have hAE := mulB hA hE
  have hCE := mulB hC hE
  have hAC := addB hAE hCE
  have hT := turnB hA N
  have hT3 := turnB hA (N + 3)
  have hT6 := turnB hA (N + 6)
  have hC2 := turnB hC 2
  have hTC := mulB hT hC2
  have hMT := turnB hM (N + 2)
  have h11 : Pl.inB 1 (1, 1) := by decide
  have hA1 := mulB hA h11
  have hT1 := turnB hA 1
  try simp only [w3, w6, w2]
  refine ⟨?_, ⟨?_, ?_⟩, ?_⟩ <;> first | omega | exact up hA (by decide) | exact up hC (by decide) | exact up hE (by decide) | exact up hS (by decide) | exact up hS' (by decide) | exact up hM (by decide) | exact up hM' (by decide) | exact up hSE (by decide) | exact up hAE (by decide) | exact up hCE (by decide) | exact up hAC (by decide) | exact up hT (by decide) | exact up hT3 (by decide) | exact up hT6 (by decide) | exact up hC2 (by decide) | exact up hTC (by decide) | exact up hMT (by decide) | exact up h11 (by decide) | exact up hA1 (by decide) | exact up hT1 (by decide)
theorem ro44 (A B C D E F N : Int) (h : Bnd A B C D E F N) : (IntKind.i64.wrap (IntKind.i64.wrap (IntKind.i64.wrap (IntKind.i64.wrap (0 + 0) + 0) + 0) + 0) == 0) = true := by
  decide
theorem ro45 (A B C D E F N : Int) (h : Bnd A B C D E F N) : (Pl.norm ((Pl.turn (A, B) (N)).fst, (Pl.turn (A, B) (N)).snd) == Pl.norm (A, B)) = true := by
  have := norm_turn (A, B) N
  show (Pl.norm (Pl.turn (A, B) N) == _) = true
  rw [this]
  simp
theorem ro46 (A B C D E F N : Int) (h : Bnd A B C D E F N) : ((Pl.mul ((Pl.turn (A, B) (N)).fst, (Pl.turn (A, B) (N)).snd) ((Pl.turn (C, D) 2).fst, (Pl.turn (C, D) 2).snd)).fst == (Pl.turn ((Pl.mul (A, B) (C, D)).fst, (Pl.mul (A, B) (C, D)).snd) (IntKind.i64.wrap (N + 2))).fst && ((Pl.mul ((Pl.turn (A, B) (N)).fst, (Pl.turn (A, B) (N)).snd) ((Pl.turn (C, D) 2).fst, (Pl.turn (C, D) 2).snd)).snd == (Pl.turn ((Pl.mul (A, B) (C, D)).fst, (Pl.mul (A, B) (C, D)).snd) (IntKind.i64.wrap (N + 2))).snd && true)) = true := by
  obtain ⟨hA, hC, hE, hN⟩ := h
  have w3 : IntKind.i64.wrap (N + 3) = N + 3 := IntWalk.i64_in _ (by omega)
  have w6 : IntKind.i64.wrap (N + 6) = N + 6 := IntWalk.i64_in _ (by omega)
  have w2 : IntKind.i64.wrap (N + 2) = N + 2 := IntWalk.i64_in _ (by omega)
  have wm : IntKind.i64.wrap (0 - 1048576) = -1048576 := by decide
  have hS := addB hA hC
  have hS' := addB hC hA
  have hM := mulB hA hC
  have hM' := mulB hC hA
  have hSE := mulB hS hE
  have hAE := mulB hA hE
  have hCE := mulB hC hE
  have hAC := addB hAE hCE
  have hT := turnB hA N
  have hT3 := turnB hA (N + 3)
  have hT6 := turnB hA (N + 6)
  have hC2 := turnB hC 2
  have hTC := mulB hT hC2
  have hMT := turnB hM (N + 2)
  have h11 : Pl.inB 1 (1, 1) := by decide
  have hA1 := mulB hA h11
  have hT1 := turnB hA 1
  obtain ⟨s1, s2, s3, s4⟩ := hS
  obtain ⟨t1, t2, t3, t4⟩ := hT
  try simp only [w3, w6, w2]
  first | decide | exact eqP (add_comm' (A, B) (C, D)) | exact eqP (mul_comm' (A, B) (C, D)) | exact eqP (mul_add' (A, B) (C, D) (E, F)) | exact eqP (turn_add6 (A, B) N) | exact eqT (mul_turn2 (A, B) (C, D) N) | exact eqT (mul_one1 (A, B)) | exact eqPW (p := Pl.add (A, B) (C, D)) rfl ⟨by simp only [Pl.add] at s1 s2; omega, by simp only [Pl.add] at s1 s2; omega⟩ ⟨by simp only [Pl.add] at s3 s4; omega, by simp only [Pl.add] at s3 s4; omega⟩ | exact eqPW (p := Pl.turn (A, B) (N + 3)) (by rw [turn_add3]; simp) ⟨by omega, by omega⟩ ⟨by omega, by omega⟩
theorem ro47 (A B C D E F N : Int) (h : Bnd A B C D E F N) : ((Pl.mul (A, B) (1, 1)).fst == (Pl.turn (A, B) 1).fst && ((Pl.mul (A, B) (1, 1)).snd == (Pl.turn (A, B) 1).snd && true)) = true := by
  obtain ⟨hA, hC, hE, hN⟩ := h
  have w3 : IntKind.i64.wrap (N + 3) = N + 3 := IntWalk.i64_in _ (by omega)
  have w6 : IntKind.i64.wrap (N + 6) = N + 6 := IntWalk.i64_in _ (by omega)
  have w2 : IntKind.i64.wrap (N + 2) = N + 2 := IntWalk.i64_in _ (by omega)
  have wm : IntKind.i64.wrap (0 - 1048576) = -1048576 := by decide
  have hS := addB hA hC
  have hS' := addB hC hA
  have hM := mulB hA hC
  have hM' := mulB hC hA
  have hSE := mulB hS hE
  have hAE := mulB hA hE
  have hCE := mulB hC hE
  have hAC := addB hAE hCE
  have hT := turnB hA N
  have hT3 := turnB hA (N + 3)
  have hT6 := turnB hA (N + 6)
  have hC2 := turnB hC 2
  have hTC := mulB hT hC2
  have hMT := turnB hM (N + 2)
  have h11 : Pl.inB 1 (1, 1) := by decide
  have hA1 := mulB hA h11
  have hT1 := turnB hA 1
  obtain ⟨s1, s2, s3, s4⟩ := hS
  obtain ⟨t1, t2, t3, t4⟩ := hT
  try simp only [w3, w6, w2]
  first | decide | exact eqP (add_comm' (A, B) (C, D)) | exact eqP (mul_comm' (A, B) (C, D)) | exact eqP (mul_add' (A, B) (C, D) (E, F)) | exact eqP (turn_add6 (A, B) N) | exact eqT (mul_turn2 (A, B) (C, D) N) | exact eqT (mul_one1 (A, B)) | exact eqPW (p := Pl.add (A, B) (C, D)) rfl ⟨by simp only [Pl.add] at s1 s2; omega, by simp only [Pl.add] at s1 s2; omega⟩ ⟨by simp only [Pl.add] at s3 s4; omega, by simp only [Pl.add] at s3 s4; omega⟩ | exact eqPW (p := Pl.turn (A, B) (N + 3)) (by rw [turn_add3]; simp) ⟨by omega, by omega⟩ ⟨by omega, by omega⟩
def ringOrc : List Nat := [0, 0, 1, 1, 0, 1, 2, 0, 1, 1, 1, 1, 0, 1, 1, 1, 0, 1, 1, 1, 1, 1, 1, 1, 1, 1, 1, 1, 1, 1, 0, 0, 0, 1, 1, 1, 0, 1, 1, 1, 1, 1, 0, 1, 1, 0, 1, 1, 1, 1, 1, 1, 0, 0, 1, 1, 1, 1, 1, 1, 1, 1, 1, 0, 1, 1, 1, 0, 1, 1, 1, 1, 1, 0, 0, 1, 1, 1, 0, 0, 1, 0, 0, 1, 1, 0, 0, 1, 0, 0, 1, 1, 1, 1, 1, 1, 1, 1, 1, 1, 1, 1, 1, 1]
noncomputable def ringX : CallS := bothX (knownX ringK) (tabX awS0 23)
noncomputable def ringEv (a b c d e f n : Int) : Option OutS := evFS Tryz.prog ringX 1000 6 #[.agg #[.int .i8 a, .int .i8 b, .int .i8 c, .int .i8 d, .int .i8 e, .int .i8 f], .int .i8 n] awS0 ⟨ringOrc, True⟩
def ringRhs (a b c d e f n : Int) : Prop := ((((((((((((((((((((((((((((((((((((((((((((((((((((((((((((((((((((((((((((((((((((((((((((((((((((((((((((((((((((((((((((True) ∧ ((0 : Int) = Int.ofNat 0)) ∧ ((0 : Int) = Int.ofNat 0)) ∧ ((1 : Int) = Int.ofNat 1)) ∧ ((1 : Int) = Int.ofNat 1)) ∧ ((0 : Int) = Int.ofNat 0)) ∧ ((1 : Int) = Int.ofNat 1)) ∧ ((2 : Int) = Int.ofNat 2)) ∧ ((0 : Int) = Int.ofNat 0)) ∧ ((1 : Int) = Int.ofNat 1)) ∧ (Pl.inB 1048576 ((IntKind.i64.wrap a).tmod 101, (IntKind.i64.wrap b).tmod 101) ∧ Pl.inB 1048576 ((IntKind.i64.wrap c).tmod 101, (IntKind.i64.wrap d).tmod 101) ∧ Pl.inB 1048576 (Pl.add ((IntKind.i64.wrap a).tmod 101, (IntKind.i64.wrap b).tmod 101) ((IntKind.i64.wrap c).tmod 101, (IntKind.i64.wrap d).tmod 101)))) ∧ (Pl.inB 1048576 ((IntKind.i64.wrap c).tmod 101, (IntKind.i64.wrap d).tmod 101) ∧ Pl.inB 1048576 ((IntKind.i64.wrap a).tmod 101, (IntKind.i64.wrap b).tmod 101) ∧ Pl.inB 1048576 (Pl.add ((IntKind.i64.wrap c).tmod 101, (IntKind.i64.wrap d).tmod 101) ((IntKind.i64.wrap a).tmod 101, (IntKind.i64.wrap b).tmod 101)))) ∧ (Pl.inB 1048576 ((IntKind.i64.wrap a).tmod 101, (IntKind.i64.wrap b).tmod 101) ∧ Pl.inB 1048576 ((IntKind.i64.wrap c).tmod 101, (IntKind.i64.wrap d).tmod 101) ∧ Pl.inB 1048576 (Pl.mul ((IntKind.i64.wrap a).tmod 101, (IntKind.i64.wrap b).tmod 101) ((IntKind.i64.wrap c).tmod 101, (IntKind.i64.wrap d).tmod 101)))) ∧ (Pl.inB 1048576 ((IntKind.i64.wrap c).tmod 101, (IntKind.i64.wrap d).tmod 101) ∧ Pl.inB 1048576 ((IntKind.i64.wrap a).tmod 101, (IntKind.i64.wrap b).tmod 101) ∧ Pl.inB 1048576 (Pl.mul ((IntKind.i64.wrap c).tmod 101, (IntKind.i64.wrap d).tmod 101) ((IntKind.i64.wrap a).tmod 101, (IntKind.i64.wrap b).tmod 101)))) ∧ ((IntKind.i64.wrap (IntKind.i64.wrap (IntKind.i64.wrap (0 + 0) + 0) + 0) != 0) = false)) ∧ ((IntKind.i64.wrap (IntKind.i64.wrap (IntKind.i64.wrap (0 + 0) + 0) + 0) != 0) = false)) ∧ ((IntKind.i64.wrap (IntKind.i64.wrap (IntKind.i64.wrap (0 + 0) + 0) + 0) != 0) = false)) ∧ ((IntKind.i64.wrap (IntKind.i64.wrap (IntKind.i64.wrap (0 + 0) + 0) + 0) != 0) = false)) ∧ ((!((Pl.add ((IntKind.i64.wrap a).tmod 101, (IntKind.i64.wrap b).tmod 101) ((IntKind.i64.wrap c).tmod 101, (IntKind.i64.wrap d).tmod 101)).fst == (Pl.add ((IntKind.i64.wrap c).tmod 101, (IntKind.i64.wrap d).tmod 101) ((IntKind.i64.wrap a).tmod 101, (IntKind.i64.wrap b).tmod 101)).fst && ((Pl.add ((IntKind.i64.wrap a).tmod 101, (IntKind.i64.wrap b).tmod 101) ((IntKind.i64.wrap c).tmod 101, (IntKind.i64.wrap d).tmod 101)).snd == (Pl.add ((IntKind.i64.wrap c).tmod 101, (IntKind.i64.wrap d).tmod 101) ((IntKind.i64.wrap a).tmod 101, (IntKind.i64.wrap b).tmod 101)).snd && true))) = false)) ∧ ((!((Pl.add ((IntKind.i64.wrap a).tmod 101, (IntKind.i64.wrap b).tmod 101) ((IntKind.i64.wrap c).tmod 101, (IntKind.i64.wrap d).tmod 101)).fst == (Pl.add ((IntKind.i64.wrap c).tmod 101, (IntKind.i64.wrap d).tmod 101) ((IntKind.i64.wrap a).tmod 101, (IntKind.i64.wrap b).tmod 101)).fst && ((Pl.add ((IntKind.i64.wrap a).tmod 101, (IntKind.i64.wrap b).tmod 101) ((IntKind.i64.wrap c).tmod 101, (IntKind.i64.wrap d).tmod 101)).snd == (Pl.add ((IntKind.i64.wrap c).tmod 101, (IntKind.i64.wrap d).tmod 101) ((IntKind.i64.wrap a).tmod 101, (IntKind.i64.wrap b).tmod 101)).snd && true))) = false)) ∧ ((!((Pl.add ((IntKind.i64.wrap a).tmod 101, (IntKind.i64.wrap b).tmod 101) ((IntKind.i64.wrap c).tmod 101, (IntKind.i64.wrap d).tmod 101)).fst == (Pl.add ((IntKind.i64.wrap c).tmod 101, (IntKind.i64.wrap d).tmod 101) ((IntKind.i64.wrap a).tmod 101, (IntKind.i64.wrap b).tmod 101)).fst && ((Pl.add ((IntKind.i64.wrap a).tmod 101, (IntKind.i64.wrap b).tmod 101) ((IntKind.i64.wrap c).tmod 101, (IntKind.i64.wrap d).tmod 101)).snd == (Pl.add ((IntKind.i64.wrap c).tmod 101, (IntKind.i64.wrap d).tmod 101) ((IntKind.i64.wrap a).tmod 101, (IntKind.i64.wrap b).tmod 101)).snd && true))) = false)) ∧ ((!((Pl.add ((IntKind.i64.wrap a).tmod 101, (IntKind.i64.wrap b).tmod 101) ((IntKind.i64.wrap c).tmod 101, (IntKind.i64.wrap d).tmod 101)).fst == (Pl.add ((IntKind.i64.wrap c).tmod 101, (IntKind.i64.wrap d).tmod 101) ((IntKind.i64.wrap a).tmod 101, (IntKind.i64.wrap b).tmod 101)).fst && ((Pl.add ((IntKind.i64.wrap a).tmod 101, (IntKind.i64.wrap b).tmod 101) ((IntKind.i64.wrap c).tmod 101, (IntKind.i64.wrap d).tmod 101)).snd == (Pl.add ((IntKind.i64.wrap c).tmod 101, (IntKind.i64.wrap d).tmod 101) ((IntKind.i64.wrap a).tmod 101, (IntKind.i64.wrap b).tmod 101)).snd && true))) = false)) ∧ ((!((Pl.mul ((IntKind.i64.wrap a).tmod 101, (IntKind.i64.wrap b).tmod 101) ((IntKind.i64.wrap c).tmod 101, (IntKind.i64.wrap d).tmod 101)).fst == (Pl.mul ((IntKind.i64.wrap c).tmod 101, (IntKind.i64.wrap d).tmod 101) ((IntKind.i64.wrap a).tmod 101, (IntKind.i64.wrap b).tmod 101)).fst && ((Pl.mul ((IntKind.i64.wrap a).tmod 101, (IntKind.i64.wrap b).tmod 101) ((IntKind.i64.wrap c).tmod 101, (IntKind.i64.wrap d).tmod 101)).snd == (Pl.mul ((IntKind.i64.wrap c).tmod 101, (IntKind.i64.wrap d).tmod 101) ((IntKind.i64.wrap a).tmod 101, (IntKind.i64.wrap b).tmod 101)).snd && true))) = false)) ∧ ((!((Pl.mul ((IntKind.i64.wrap a).tmod 101, (IntKind.i64.wrap b).tmod 101) ((IntKind.i64.wrap c).tmod 101, (IntKind.i64.wrap d).tmod 101)).fst == (Pl.mul ((IntKind.i64.wrap c).tmod 101, (IntKind.i64.wrap d).tmod 101) ((IntKind.i64.wrap a).tmod 101, (IntKind.i64.wrap b).tmod 101)).fst && ((Pl.mul ((IntKind.i64.wrap a).tmod 101, (IntKind.i64.wrap b).tmod 101) ((IntKind.i64.wrap c).tmod 101, (IntKind.i64.wrap d).tmod 101)).snd == (Pl.mul ((IntKind.i64.wrap c).tmod 101, (IntKind.i64.wrap d).tmod 101) ((IntKind.i64.wrap a).tmod 101, (IntKind.i64.wrap b).tmod 101)).snd && true))) = false)) ∧ ((!((Pl.mul ((IntKind.i64.wrap a).tmod 101, (IntKind.i64.wrap b).tmod 101) ((IntKind.i64.wrap c).tmod 101, (IntKind.i64.wrap d).tmod 101)).fst == (Pl.mul ((IntKind.i64.wrap c).tmod 101, (IntKind.i64.wrap d).tmod 101) ((IntKind.i64.wrap a).tmod 101, (IntKind.i64.wrap b).tmod 101)).fst && ((Pl.mul ((IntKind.i64.wrap a).tmod 101, (IntKind.i64.wrap b).tmod 101) ((IntKind.i64.wrap c).tmod 101, (IntKind.i64.wrap d).tmod 101)).snd == (Pl.mul ((IntKind.i64.wrap c).tmod 101, (IntKind.i64.wrap d).tmod 101) ((IntKind.i64.wrap a).tmod 101, (IntKind.i64.wrap b).tmod 101)).snd && true))) = false)) ∧ ((!((Pl.mul ((IntKind.i64.wrap a).tmod 101, (IntKind.i64.wrap b).tmod 101) ((IntKind.i64.wrap c).tmod 101, (IntKind.i64.wrap d).tmod 101)).fst == (Pl.mul ((IntKind.i64.wrap c).tmod 101, (IntKind.i64.wrap d).tmod 101) ((IntKind.i64.wrap a).tmod 101, (IntKind.i64.wrap b).tmod 101)).fst && ((Pl.mul ((IntKind.i64.wrap a).tmod 101, (IntKind.i64.wrap b).tmod 101) ((IntKind.i64.wrap c).tmod 101, (IntKind.i64.wrap d).tmod 101)).snd == (Pl.mul ((IntKind.i64.wrap c).tmod 101, (IntKind.i64.wrap d).tmod 101) ((IntKind.i64.wrap a).tmod 101, (IntKind.i64.wrap b).tmod 101)).snd && true))) = false)) ∧ ((!((Pl.mul ((IntKind.i64.wrap a).tmod 101, (IntKind.i64.wrap b).tmod 101) ((IntKind.i64.wrap c).tmod 101, (IntKind.i64.wrap d).tmod 101)).fst == (Pl.mul ((IntKind.i64.wrap c).tmod 101, (IntKind.i64.wrap d).tmod 101) ((IntKind.i64.wrap a).tmod 101, (IntKind.i64.wrap b).tmod 101)).fst && ((Pl.mul ((IntKind.i64.wrap a).tmod 101, (IntKind.i64.wrap b).tmod 101) ((IntKind.i64.wrap c).tmod 101, (IntKind.i64.wrap d).tmod 101)).snd == (Pl.mul ((IntKind.i64.wrap c).tmod 101, (IntKind.i64.wrap d).tmod 101) ((IntKind.i64.wrap a).tmod 101, (IntKind.i64.wrap b).tmod 101)).snd && true))) = false)) ∧ ((!((Pl.mul ((IntKind.i64.wrap a).tmod 101, (IntKind.i64.wrap b).tmod 101) ((IntKind.i64.wrap c).tmod 101, (IntKind.i64.wrap d).tmod 101)).fst == (Pl.mul ((IntKind.i64.wrap c).tmod 101, (IntKind.i64.wrap d).tmod 101) ((IntKind.i64.wrap a).tmod 101, (IntKind.i64.wrap b).tmod 101)).fst && ((Pl.mul ((IntKind.i64.wrap a).tmod 101, (IntKind.i64.wrap b).tmod 101) ((IntKind.i64.wrap c).tmod 101, (IntKind.i64.wrap d).tmod 101)).snd == (Pl.mul ((IntKind.i64.wrap c).tmod 101, (IntKind.i64.wrap d).tmod 101) ((IntKind.i64.wrap a).tmod 101, (IntKind.i64.wrap b).tmod 101)).snd && true))) = false)) ∧ ((!((Pl.mul ((IntKind.i64.wrap a).tmod 101, (IntKind.i64.wrap b).tmod 101) ((IntKind.i64.wrap c).tmod 101, (IntKind.i64.wrap d).tmod 101)).fst == (Pl.mul ((IntKind.i64.wrap c).tmod 101, (IntKind.i64.wrap d).tmod 101) ((IntKind.i64.wrap a).tmod 101, (IntKind.i64.wrap b).tmod 101)).fst && ((Pl.mul ((IntKind.i64.wrap a).tmod 101, (IntKind.i64.wrap b).tmod 101) ((IntKind.i64.wrap c).tmod 101, (IntKind.i64.wrap d).tmod 101)).snd == (Pl.mul ((IntKind.i64.wrap c).tmod 101, (IntKind.i64.wrap d).tmod 101) ((IntKind.i64.wrap a).tmod 101, (IntKind.i64.wrap b).tmod 101)).snd && true))) = false)) ∧ ((!((Pl.mul ((IntKind.i64.wrap a).tmod 101, (IntKind.i64.wrap b).tmod 101) ((IntKind.i64.wrap c).tmod 101, (IntKind.i64.wrap d).tmod 101)).fst == (Pl.mul ((IntKind.i64.wrap c).tmod 101, (IntKind.i64.wrap d).tmod 101) ((IntKind.i64.wrap a).tmod 101, (IntKind.i64.wrap b).tmod 101)).fst && ((Pl.mul ((IntKind.i64.wrap a).tmod 101, (IntKind.i64.wrap b).tmod 101) ((IntKind.i64.wrap c).tmod 101, (IntKind.i64.wrap d).tmod 101)).snd == (Pl.mul ((IntKind.i64.wrap c).tmod 101, (IntKind.i64.wrap d).tmod 101) ((IntKind.i64.wrap a).tmod 101, (IntKind.i64.wrap b).tmod 101)).snd && true))) = false)) ∧ ((!((Pl.mul ((IntKind.i64.wrap a).tmod 101, (IntKind.i64.wrap b).tmod 101) ((IntKind.i64.wrap c).tmod 101, (IntKind.i64.wrap d).tmod 101)).fst == (Pl.mul ((IntKind.i64.wrap c).tmod 101, (IntKind.i64.wrap d).tmod 101) ((IntKind.i64.wrap a).tmod 101, (IntKind.i64.wrap b).tmod 101)).fst && ((Pl.mul ((IntKind.i64.wrap a).tmod 101, (IntKind.i64.wrap b).tmod 101) ((IntKind.i64.wrap c).tmod 101, (IntKind.i64.wrap d).tmod 101)).snd == (Pl.mul ((IntKind.i64.wrap c).tmod 101, (IntKind.i64.wrap d).tmod 101) ((IntKind.i64.wrap a).tmod 101, (IntKind.i64.wrap b).tmod 101)).snd && true))) = false)) ∧ ((!((Pl.mul ((IntKind.i64.wrap a).tmod 101, (IntKind.i64.wrap b).tmod 101) ((IntKind.i64.wrap c).tmod 101, (IntKind.i64.wrap d).tmod 101)).fst == (Pl.mul ((IntKind.i64.wrap c).tmod 101, (IntKind.i64.wrap d).tmod 101) ((IntKind.i64.wrap a).tmod 101, (IntKind.i64.wrap b).tmod 101)).fst && ((Pl.mul ((IntKind.i64.wrap a).tmod 101, (IntKind.i64.wrap b).tmod 101) ((IntKind.i64.wrap c).tmod 101, (IntKind.i64.wrap d).tmod 101)).snd == (Pl.mul ((IntKind.i64.wrap c).tmod 101, (IntKind.i64.wrap d).tmod 101) ((IntKind.i64.wrap a).tmod 101, (IntKind.i64.wrap b).tmod 101)).snd && true))) = false)) ∧ ((!((Pl.mul ((IntKind.i64.wrap a).tmod 101, (IntKind.i64.wrap b).tmod 101) ((IntKind.i64.wrap c).tmod 101, (IntKind.i64.wrap d).tmod 101)).fst == (Pl.mul ((IntKind.i64.wrap c).tmod 101, (IntKind.i64.wrap d).tmod 101) ((IntKind.i64.wrap a).tmod 101, (IntKind.i64.wrap b).tmod 101)).fst && ((Pl.mul ((IntKind.i64.wrap a).tmod 101, (IntKind.i64.wrap b).tmod 101) ((IntKind.i64.wrap c).tmod 101, (IntKind.i64.wrap d).tmod 101)).snd == (Pl.mul ((IntKind.i64.wrap c).tmod 101, (IntKind.i64.wrap d).tmod 101) ((IntKind.i64.wrap a).tmod 101, (IntKind.i64.wrap b).tmod 101)).snd && true))) = false)) ∧ ((!((Pl.mul ((IntKind.i64.wrap a).tmod 101, (IntKind.i64.wrap b).tmod 101) ((IntKind.i64.wrap c).tmod 101, (IntKind.i64.wrap d).tmod 101)).fst == (Pl.mul ((IntKind.i64.wrap c).tmod 101, (IntKind.i64.wrap d).tmod 101) ((IntKind.i64.wrap a).tmod 101, (IntKind.i64.wrap b).tmod 101)).fst && ((Pl.mul ((IntKind.i64.wrap a).tmod 101, (IntKind.i64.wrap b).tmod 101) ((IntKind.i64.wrap c).tmod 101, (IntKind.i64.wrap d).tmod 101)).snd == (Pl.mul ((IntKind.i64.wrap c).tmod 101, (IntKind.i64.wrap d).tmod 101) ((IntKind.i64.wrap a).tmod 101, (IntKind.i64.wrap b).tmod 101)).snd && true))) = false)) ∧ ((!((Pl.mul ((IntKind.i64.wrap a).tmod 101, (IntKind.i64.wrap b).tmod 101) ((IntKind.i64.wrap c).tmod 101, (IntKind.i64.wrap d).tmod 101)).fst == (Pl.mul ((IntKind.i64.wrap c).tmod 101, (IntKind.i64.wrap d).tmod 101) ((IntKind.i64.wrap a).tmod 101, (IntKind.i64.wrap b).tmod 101)).fst && ((Pl.mul ((IntKind.i64.wrap a).tmod 101, (IntKind.i64.wrap b).tmod 101) ((IntKind.i64.wrap c).tmod 101, (IntKind.i64.wrap d).tmod 101)).snd == (Pl.mul ((IntKind.i64.wrap c).tmod 101, (IntKind.i64.wrap d).tmod 101) ((IntKind.i64.wrap a).tmod 101, (IntKind.i64.wrap b).tmod 101)).snd && true))) = false)) ∧ ((!((Pl.mul ((IntKind.i64.wrap a).tmod 101, (IntKind.i64.wrap b).tmod 101) ((IntKind.i64.wrap c).tmod 101, (IntKind.i64.wrap d).tmod 101)).fst == (Pl.mul ((IntKind.i64.wrap c).tmod 101, (IntKind.i64.wrap d).tmod 101) ((IntKind.i64.wrap a).tmod 101, (IntKind.i64.wrap b).tmod 101)).fst && ((Pl.mul ((IntKind.i64.wrap a).tmod 101, (IntKind.i64.wrap b).tmod 101) ((IntKind.i64.wrap c).tmod 101, (IntKind.i64.wrap d).tmod 101)).snd == (Pl.mul ((IntKind.i64.wrap c).tmod 101, (IntKind.i64.wrap d).tmod 101) ((IntKind.i64.wrap a).tmod 101, (IntKind.i64.wrap b).tmod 101)).snd && true))) = false)) ∧ ((!((Pl.add ((IntKind.i64.wrap a).tmod 101, (IntKind.i64.wrap b).tmod 101) ((IntKind.i64.wrap c).tmod 101, (IntKind.i64.wrap d).tmod 101)).fst == IntKind.i64.wrap ((IntKind.i64.wrap a).tmod 101 + (IntKind.i64.wrap c).tmod 101) && ((Pl.add ((IntKind.i64.wrap a).tmod 101, (IntKind.i64.wrap b).tmod 101) ((IntKind.i64.wrap c).tmod 101, (IntKind.i64.wrap d).tmod 101)).snd == IntKind.i64.wrap ((IntKind.i64.wrap b).tmod 101 + (IntKind.i64.wrap d).tmod 101) && true))) = false)) ∧ (Pl.inB 1048576 ((Pl.add ((IntKind.i64.wrap a).tmod 101, (IntKind.i64.wrap b).tmod 101) ((IntKind.i64.wrap c).tmod 101, (IntKind.i64.wrap d).tmod 101)).fst, (Pl.add ((IntKind.i64.wrap a).tmod 101, (IntKind.i64.wrap b).tmod 101) ((IntKind.i64.wrap c).tmod 101, (IntKind.i64.wrap d).tmod 101)).snd) ∧ Pl.inB 1048576 ((IntKind.i64.wrap e).tmod 101, (IntKind.i64.wrap f).tmod 101) ∧ Pl.inB 1048576 (Pl.mul ((Pl.add ((IntKind.i64.wrap a).tmod 101, (IntKind.i64.wrap b).tmod 101) ((IntKind.i64.wrap c).tmod 101, (IntKind.i64.wrap d).tmod 101)).fst, (Pl.add ((IntKind.i64.wrap a).tmod 101, (IntKind.i64.wrap b).tmod 101) ((IntKind.i64.wrap c).tmod 101, (IntKind.i64.wrap d).tmod 101)).snd) ((IntKind.i64.wrap e).tmod 101, (IntKind.i64.wrap f).tmod 101)))) ∧ (Pl.inB 1048576 ((IntKind.i64.wrap a).tmod 101, (IntKind.i64.wrap b).tmod 101) ∧ Pl.inB 1048576 ((IntKind.i64.wrap e).tmod 101, (IntKind.i64.wrap f).tmod 101) ∧ Pl.inB 1048576 (Pl.mul ((IntKind.i64.wrap a).tmod 101, (IntKind.i64.wrap b).tmod 101) ((IntKind.i64.wrap e).tmod 101, (IntKind.i64.wrap f).tmod 101)))) ∧ (Pl.inB 1048576 ((IntKind.i64.wrap c).tmod 101, (IntKind.i64.wrap d).tmod 101) ∧ Pl.inB 1048576 ((IntKind.i64.wrap e).tmod 101, (IntKind.i64.wrap f).tmod 101) ∧ Pl.inB 1048576 (Pl.mul ((IntKind.i64.wrap c).tmod 101, (IntKind.i64.wrap d).tmod 101) ((IntKind.i64.wrap e).tmod 101, (IntKind.i64.wrap f).tmod 101)))) ∧ ((IntKind.i64.wrap (IntKind.i64.wrap (0 + 0) + 0) != 0) = false)) ∧ (Pl.inB 1048576 ((Pl.mul ((IntKind.i64.wrap a).tmod 101, (IntKind.i64.wrap b).tmod 101) ((IntKind.i64.wrap e).tmod 101, (IntKind.i64.wrap f).tmod 101)).fst, (Pl.mul ((IntKind.i64.wrap a).tmod 101, (IntKind.i64.wrap b).tmod 101) ((IntKind.i64.wrap e).tmod 101, (IntKind.i64.wrap f).tmod 101)).snd) ∧ Pl.inB 1048576 ((Pl.mul ((IntKind.i64.wrap c).tmod 101, (IntKind.i64.wrap d).tmod 101) ((IntKind.i64.wrap e).tmod 101, (IntKind.i64.wrap f).tmod 101)).fst, (Pl.mul ((IntKind.i64.wrap c).tmod 101, (IntKind.i64.wrap d).tmod 101) ((IntKind.i64.wrap e).tmod 101, (IntKind.i64.wrap f).tmod 101)).snd) ∧ Pl.inB 1048576 (Pl.add ((Pl.mul ((IntKind.i64.wrap a).tmod 101, (IntKind.i64.wrap b).tmod 101) ((IntKind.i64.wrap e).tmod 101, (IntKind.i64.wrap f).tmod 101)).fst, (Pl.mul ((IntKind.i64.wrap a).tmod 101, (IntKind.i64.wrap b).tmod 101) ((IntKind.i64.wrap e).tmod 101, (IntKind.i64.wrap f).tmod 101)).snd) ((Pl.mul ((IntKind.i64.wrap c).tmod 101, (IntKind.i64.wrap d).tmod 101) ((IntKind.i64.wrap e).tmod 101, (IntKind.i64.wrap f).tmod 101)).fst, (Pl.mul ((IntKind.i64.wrap c).tmod 101, (IntKind.i64.wrap d).tmod 101) ((IntKind.i64.wrap e).tmod 101, (IntKind.i64.wrap f).tmod 101)).snd)))) ∧ (Pl.inB 1048576 ((IntKind.i64.wrap a).tmod 101, (IntKind.i64.wrap b).tmod 101))) ∧ (Pl.inB 1048576 ((IntKind.i64.wrap c).tmod 101, (IntKind.i64.wrap d).tmod 101))) ∧ (Pl.inB 1048576 ((Pl.mul ((IntKind.i64.wrap a).tmod 101, (IntKind.i64.wrap b).tmod 101) ((IntKind.i64.wrap c).tmod 101, (IntKind.i64.wrap d).tmod 101)).fst, (Pl.mul ((IntKind.i64.wrap a).tmod 101, (IntKind.i64.wrap b).tmod 101) ((IntKind.i64.wrap c).tmod 101, (IntKind.i64.wrap d).tmod 101)).snd))) ∧ ((IntKind.i64.wrap (IntKind.i64.wrap (IntKind.i64.wrap (0 + 0) + 0) + 0) != 0) = false)) ∧ ((IntKind.i64.wrap (IntKind.i64.wrap (IntKind.i64.wrap (0 + 0) + 0) + 0) != 0) = false)) ∧ ((IntKind.i64.wrap (IntKind.i64.wrap (IntKind.i64.wrap (0 + 0) + 0) + 0) != 0) = false)) ∧ ((IntKind.i64.wrap (IntKind.i64.wrap (IntKind.i64.wrap (0 + 0) + 0) + 0) != 0) = false)) ∧ ((!((Pl.mul ((Pl.add ((IntKind.i64.wrap a).tmod 101, (IntKind.i64.wrap b).tmod 101) ((IntKind.i64.wrap c).tmod 101, (IntKind.i64.wrap d).tmod 101)).fst, (Pl.add ((IntKind.i64.wrap a).tmod 101, (IntKind.i64.wrap b).tmod 101) ((IntKind.i64.wrap c).tmod 101, (IntKind.i64.wrap d).tmod 101)).snd) ((IntKind.i64.wrap e).tmod 101, (IntKind.i64.wrap f).tmod 101)).fst == (Pl.add ((Pl.mul ((IntKind.i64.wrap a).tmod 101, (IntKind.i64.wrap b).tmod 101) ((IntKind.i64.wrap e).tmod 101, (IntKind.i64.wrap f).tmod 101)).fst, (Pl.mul ((IntKind.i64.wrap a).tmod 101, (IntKind.i64.wrap b).tmod 101) ((IntKind.i64.wrap e).tmod 101, (IntKind.i64.wrap f).tmod 101)).snd) ((Pl.mul ((IntKind.i64.wrap c).tmod 101, (IntKind.i64.wrap d).tmod 101) ((IntKind.i64.wrap e).tmod 101, (IntKind.i64.wrap f).tmod 101)).fst, (Pl.mul ((IntKind.i64.wrap c).tmod 101, (IntKind.i64.wrap d).tmod 101) ((IntKind.i64.wrap e).tmod 101, (IntKind.i64.wrap f).tmod 101)).snd)).fst && ((Pl.mul ((Pl.add ((IntKind.i64.wrap a).tmod 101, (IntKind.i64.wrap b).tmod 101) ((IntKind.i64.wrap c).tmod 101, (IntKind.i64.wrap d).tmod 101)).fst, (Pl.add ((IntKind.i64.wrap a).tmod 101, (IntKind.i64.wrap b).tmod 101) ((IntKind.i64.wrap c).tmod 101, (IntKind.i64.wrap d).tmod 101)).snd) ((IntKind.i64.wrap e).tmod 101, (IntKind.i64.wrap f).tmod 101)).snd == (Pl.add ((Pl.mul ((IntKind.i64.wrap a).tmod 101, (IntKind.i64.wrap b).tmod 101) ((IntKind.i64.wrap e).tmod 101, (IntKind.i64.wrap f).tmod 101)).fst, (Pl.mul ((IntKind.i64.wrap a).tmod 101, (IntKind.i64.wrap b).tmod 101) ((IntKind.i64.wrap e).tmod 101, (IntKind.i64.wrap f).tmod 101)).snd) ((Pl.mul ((IntKind.i64.wrap c).tmod 101, (IntKind.i64.wrap d).tmod 101) ((IntKind.i64.wrap e).tmod 101, (IntKind.i64.wrap f).tmod 101)).fst, (Pl.mul ((IntKind.i64.wrap c).tmod 101, (IntKind.i64.wrap d).tmod 101) ((IntKind.i64.wrap e).tmod 101, (IntKind.i64.wrap f).tmod 101)).snd)).snd && true))) = false)) ∧ ((!((Pl.mul ((Pl.add ((IntKind.i64.wrap a).tmod 101, (IntKind.i64.wrap b).tmod 101) ((IntKind.i64.wrap c).tmod 101, (IntKind.i64.wrap d).tmod 101)).fst, (Pl.add ((IntKind.i64.wrap a).tmod 101, (IntKind.i64.wrap b).tmod 101) ((IntKind.i64.wrap c).tmod 101, (IntKind.i64.wrap d).tmod 101)).snd) ((IntKind.i64.wrap e).tmod 101, (IntKind.i64.wrap f).tmod 101)).fst == (Pl.add ((Pl.mul ((IntKind.i64.wrap a).tmod 101, (IntKind.i64.wrap b).tmod 101) ((IntKind.i64.wrap e).tmod 101, (IntKind.i64.wrap f).tmod 101)).fst, (Pl.mul ((IntKind.i64.wrap a).tmod 101, (IntKind.i64.wrap b).tmod 101) ((IntKind.i64.wrap e).tmod 101, (IntKind.i64.wrap f).tmod 101)).snd) ((Pl.mul ((IntKind.i64.wrap c).tmod 101, (IntKind.i64.wrap d).tmod 101) ((IntKind.i64.wrap e).tmod 101, (IntKind.i64.wrap f).tmod 101)).fst, (Pl.mul ((IntKind.i64.wrap c).tmod 101, (IntKind.i64.wrap d).tmod 101) ((IntKind.i64.wrap e).tmod 101, (IntKind.i64.wrap f).tmod 101)).snd)).fst && ((Pl.mul ((Pl.add ((IntKind.i64.wrap a).tmod 101, (IntKind.i64.wrap b).tmod 101) ((IntKind.i64.wrap c).tmod 101, (IntKind.i64.wrap d).tmod 101)).fst, (Pl.add ((IntKind.i64.wrap a).tmod 101, (IntKind.i64.wrap b).tmod 101) ((IntKind.i64.wrap c).tmod 101, (IntKind.i64.wrap d).tmod 101)).snd) ((IntKind.i64.wrap e).tmod 101, (IntKind.i64.wrap f).tmod 101)).snd == (Pl.add ((Pl.mul ((IntKind.i64.wrap a).tmod 101, (IntKind.i64.wrap b).tmod 101) ((IntKind.i64.wrap e).tmod 101, (IntKind.i64.wrap f).tmod 101)).fst, (Pl.mul ((IntKind.i64.wrap a).tmod 101, (IntKind.i64.wrap b).tmod 101) ((IntKind.i64.wrap e).tmod 101, (IntKind.i64.wrap f).tmod 101)).snd) ((Pl.mul ((IntKind.i64.wrap c).tmod 101, (IntKind.i64.wrap d).tmod 101) ((IntKind.i64.wrap e).tmod 101, (IntKind.i64.wrap f).tmod 101)).fst, (Pl.mul ((IntKind.i64.wrap c).tmod 101, (IntKind.i64.wrap d).tmod 101) ((IntKind.i64.wrap e).tmod 101, (IntKind.i64.wrap f).tmod 101)).snd)).snd && true))) = false)) ∧ ((!((Pl.mul ((Pl.add ((IntKind.i64.wrap a).tmod 101, (IntKind.i64.wrap b).tmod 101) ((IntKind.i64.wrap c).tmod 101, (IntKind.i64.wrap d).tmod 101)).fst, (Pl.add ((IntKind.i64.wrap a).tmod 101, (IntKind.i64.wrap b).tmod 101) ((IntKind.i64.wrap c).tmod 101, (IntKind.i64.wrap d).tmod 101)).snd) ((IntKind.i64.wrap e).tmod 101, (IntKind.i64.wrap f).tmod 101)).fst == (Pl.add ((Pl.mul ((IntKind.i64.wrap a).tmod 101, (IntKind.i64.wrap b).tmod 101) ((IntKind.i64.wrap e).tmod 101, (IntKind.i64.wrap f).tmod 101)).fst, (Pl.mul ((IntKind.i64.wrap a).tmod 101, (IntKind.i64.wrap b).tmod 101) ((IntKind.i64.wrap e).tmod 101, (IntKind.i64.wrap f).tmod 101)).snd) ((Pl.mul ((IntKind.i64.wrap c).tmod 101, (IntKind.i64.wrap d).tmod 101) ((IntKind.i64.wrap e).tmod 101, (IntKind.i64.wrap f).tmod 101)).fst, (Pl.mul ((IntKind.i64.wrap c).tmod 101, (IntKind.i64.wrap d).tmod 101) ((IntKind.i64.wrap e).tmod 101, (IntKind.i64.wrap f).tmod 101)).snd)).fst && ((Pl.mul ((Pl.add ((IntKind.i64.wrap a).tmod 101, (IntKind.i64.wrap b).tmod 101) ((IntKind.i64.wrap c).tmod 101, (IntKind.i64.wrap d).tmod 101)).fst, (Pl.add ((IntKind.i64.wrap a).tmod 101, (IntKind.i64.wrap b).tmod 101) ((IntKind.i64.wrap c).tmod 101, (IntKind.i64.wrap d).tmod 101)).snd) ((IntKind.i64.wrap e).tmod 101, (IntKind.i64.wrap f).tmod 101)).snd == (Pl.add ((Pl.mul ((IntKind.i64.wrap a).tmod 101, (IntKind.i64.wrap b).tmod 101) ((IntKind.i64.wrap e).tmod 101, (IntKind.i64.wrap f).tmod 101)).fst, (Pl.mul ((IntKind.i64.wrap a).tmod 101, (IntKind.i64.wrap b).tmod 101) ((IntKind.i64.wrap e).tmod 101, (IntKind.i64.wrap f).tmod 101)).snd) ((Pl.mul ((IntKind.i64.wrap c).tmod 101, (IntKind.i64.wrap d).tmod 101) ((IntKind.i64.wrap e).tmod 101, (IntKind.i64.wrap f).tmod 101)).fst, (Pl.mul ((IntKind.i64.wrap c).tmod 101, (IntKind.i64.wrap d).tmod 101) ((IntKind.i64.wrap e).tmod 101, (IntKind.i64.wrap f).tmod 101)).snd)).snd && true))) = false)) ∧ ((!((Pl.mul ((Pl.add ((IntKind.i64.wrap a).tmod 101, (IntKind.i64.wrap b).tmod 101) ((IntKind.i64.wrap c).tmod 101, (IntKind.i64.wrap d).tmod 101)).fst, (Pl.add ((IntKind.i64.wrap a).tmod 101, (IntKind.i64.wrap b).tmod 101) ((IntKind.i64.wrap c).tmod 101, (IntKind.i64.wrap d).tmod 101)).snd) ((IntKind.i64.wrap e).tmod 101, (IntKind.i64.wrap f).tmod 101)).fst == (Pl.add ((Pl.mul ((IntKind.i64.wrap a).tmod 101, (IntKind.i64.wrap b).tmod 101) ((IntKind.i64.wrap e).tmod 101, (IntKind.i64.wrap f).tmod 101)).fst, (Pl.mul ((IntKind.i64.wrap a).tmod 101, (IntKind.i64.wrap b).tmod 101) ((IntKind.i64.wrap e).tmod 101, (IntKind.i64.wrap f).tmod 101)).snd) ((Pl.mul ((IntKind.i64.wrap c).tmod 101, (IntKind.i64.wrap d).tmod 101) ((IntKind.i64.wrap e).tmod 101, (IntKind.i64.wrap f).tmod 101)).fst, (Pl.mul ((IntKind.i64.wrap c).tmod 101, (IntKind.i64.wrap d).tmod 101) ((IntKind.i64.wrap e).tmod 101, (IntKind.i64.wrap f).tmod 101)).snd)).fst && ((Pl.mul ((Pl.add ((IntKind.i64.wrap a).tmod 101, (IntKind.i64.wrap b).tmod 101) ((IntKind.i64.wrap c).tmod 101, (IntKind.i64.wrap d).tmod 101)).fst, (Pl.add ((IntKind.i64.wrap a).tmod 101, (IntKind.i64.wrap b).tmod 101) ((IntKind.i64.wrap c).tmod 101, (IntKind.i64.wrap d).tmod 101)).snd) ((IntKind.i64.wrap e).tmod 101, (IntKind.i64.wrap f).tmod 101)).snd == (Pl.add ((Pl.mul ((IntKind.i64.wrap a).tmod 101, (IntKind.i64.wrap b).tmod 101) ((IntKind.i64.wrap e).tmod 101, (IntKind.i64.wrap f).tmod 101)).fst, (Pl.mul ((IntKind.i64.wrap a).tmod 101, (IntKind.i64.wrap b).tmod 101) ((IntKind.i64.wrap e).tmod 101, (IntKind.i64.wrap f).tmod 101)).snd) ((Pl.mul ((IntKind.i64.wrap c).tmod 101, (IntKind.i64.wrap d).tmod 101) ((IntKind.i64.wrap e).tmod 101, (IntKind.i64.wrap f).tmod 101)).fst, (Pl.mul ((IntKind.i64.wrap c).tmod 101, (IntKind.i64.wrap d).tmod 101) ((IntKind.i64.wrap e).tmod 101, (IntKind.i64.wrap f).tmod 101)).snd)).snd && true))) = false)) ∧ ((!((Pl.mul ((Pl.add ((IntKind.i64.wrap a).tmod 101, (IntKind.i64.wrap b).tmod 101) ((IntKind.i64.wrap c).tmod 101, (IntKind.i64.wrap d).tmod 101)).fst, (Pl.add ((IntKind.i64.wrap a).tmod 101, (IntKind.i64.wrap b).tmod 101) ((IntKind.i64.wrap c).tmod 101, (IntKind.i64.wrap d).tmod 101)).snd) ((IntKind.i64.wrap e).tmod 101, (IntKind.i64.wrap f).tmod 101)).fst == (Pl.add ((Pl.mul ((IntKind.i64.wrap a).tmod 101, (IntKind.i64.wrap b).tmod 101) ((IntKind.i64.wrap e).tmod 101, (IntKind.i64.wrap f).tmod 101)).fst, (Pl.mul ((IntKind.i64.wrap a).tmod 101, (IntKind.i64.wrap b).tmod 101) ((IntKind.i64.wrap e).tmod 101, (IntKind.i64.wrap f).tmod 101)).snd) ((Pl.mul ((IntKind.i64.wrap c).tmod 101, (IntKind.i64.wrap d).tmod 101) ((IntKind.i64.wrap e).tmod 101, (IntKind.i64.wrap f).tmod 101)).fst, (Pl.mul ((IntKind.i64.wrap c).tmod 101, (IntKind.i64.wrap d).tmod 101) ((IntKind.i64.wrap e).tmod 101, (IntKind.i64.wrap f).tmod 101)).snd)).fst && ((Pl.mul ((Pl.add ((IntKind.i64.wrap a).tmod 101, (IntKind.i64.wrap b).tmod 101) ((IntKind.i64.wrap c).tmod 101, (IntKind.i64.wrap d).tmod 101)).fst, (Pl.add ((IntKind.i64.wrap a).tmod 101, (IntKind.i64.wrap b).tmod 101) ((IntKind.i64.wrap c).tmod 101, (IntKind.i64.wrap d).tmod 101)).snd) ((IntKind.i64.wrap e).tmod 101, (IntKind.i64.wrap f).tmod 101)).snd == (Pl.add ((Pl.mul ((IntKind.i64.wrap a).tmod 101, (IntKind.i64.wrap b).tmod 101) ((IntKind.i64.wrap e).tmod 101, (IntKind.i64.wrap f).tmod 101)).fst, (Pl.mul ((IntKind.i64.wrap a).tmod 101, (IntKind.i64.wrap b).tmod 101) ((IntKind.i64.wrap e).tmod 101, (IntKind.i64.wrap f).tmod 101)).snd) ((Pl.mul ((IntKind.i64.wrap c).tmod 101, (IntKind.i64.wrap d).tmod 101) ((IntKind.i64.wrap e).tmod 101, (IntKind.i64.wrap f).tmod 101)).fst, (Pl.mul ((IntKind.i64.wrap c).tmod 101, (IntKind.i64.wrap d).tmod 101) ((IntKind.i64.wrap e).tmod 101, (IntKind.i64.wrap f).tmod 101)).snd)).snd && true))) = false)) ∧ ((!((Pl.mul ((Pl.add ((IntKind.i64.wrap a).tmod 101, (IntKind.i64.wrap b).tmod 101) ((IntKind.i64.wrap c).tmod 101, (IntKind.i64.wrap d).tmod 101)).fst, (Pl.add ((IntKind.i64.wrap a).tmod 101, (IntKind.i64.wrap b).tmod 101) ((IntKind.i64.wrap c).tmod 101, (IntKind.i64.wrap d).tmod 101)).snd) ((IntKind.i64.wrap e).tmod 101, (IntKind.i64.wrap f).tmod 101)).fst == (Pl.add ((Pl.mul ((IntKind.i64.wrap a).tmod 101, (IntKind.i64.wrap b).tmod 101) ((IntKind.i64.wrap e).tmod 101, (IntKind.i64.wrap f).tmod 101)).fst, (Pl.mul ((IntKind.i64.wrap a).tmod 101, (IntKind.i64.wrap b).tmod 101) ((IntKind.i64.wrap e).tmod 101, (IntKind.i64.wrap f).tmod 101)).snd) ((Pl.mul ((IntKind.i64.wrap c).tmod 101, (IntKind.i64.wrap d).tmod 101) ((IntKind.i64.wrap e).tmod 101, (IntKind.i64.wrap f).tmod 101)).fst, (Pl.mul ((IntKind.i64.wrap c).tmod 101, (IntKind.i64.wrap d).tmod 101) ((IntKind.i64.wrap e).tmod 101, (IntKind.i64.wrap f).tmod 101)).snd)).fst && ((Pl.mul ((Pl.add ((IntKind.i64.wrap a).tmod 101, (IntKind.i64.wrap b).tmod 101) ((IntKind.i64.wrap c).tmod 101, (IntKind.i64.wrap d).tmod 101)).fst, (Pl.add ((IntKind.i64.wrap a).tmod 101, (IntKind.i64.wrap b).tmod 101) ((IntKind.i64.wrap c).tmod 101, (IntKind.i64.wrap d).tmod 101)).snd) ((IntKind.i64.wrap e).tmod 101, (IntKind.i64.wrap f).tmod 101)).snd == (Pl.add ((Pl.mul ((IntKind.i64.wrap a).tmod 101, (IntKind.i64.wrap b).tmod 101) ((IntKind.i64.wrap e).tmod 101, (IntKind.i64.wrap f).tmod 101)).fst, (Pl.mul ((IntKind.i64.wrap a).tmod 101, (IntKind.i64.wrap b).tmod 101) ((IntKind.i64.wrap e).tmod 101, (IntKind.i64.wrap f).tmod 101)).snd) ((Pl.mul ((IntKind.i64.wrap c).tmod 101, (IntKind.i64.wrap d).tmod 101) ((IntKind.i64.wrap e).tmod 101, (IntKind.i64.wrap f).tmod 101)).fst, (Pl.mul ((IntKind.i64.wrap c).tmod 101, (IntKind.i64.wrap d).tmod 101) ((IntKind.i64.wrap e).tmod 101, (IntKind.i64.wrap f).tmod 101)).snd)).snd && true))) = false)) ∧ ((IntKind.i64.wrap (Pl.norm ((IntKind.i64.wrap a).tmod 101, (IntKind.i64.wrap b).tmod 101) * Pl.norm ((IntKind.i64.wrap c).tmod 101, (IntKind.i64.wrap d).tmod 101)) != Pl.norm ((Pl.mul ((IntKind.i64.wrap a).tmod 101, (IntKind.i64.wrap b).tmod 101) ((IntKind.i64.wrap c).tmod 101, (IntKind.i64.wrap d).tmod 101)).fst, (Pl.mul ((IntKind.i64.wrap a).tmod 101, (IntKind.i64.wrap b).tmod 101) ((IntKind.i64.wrap c).tmod 101, (IntKind.i64.wrap d).tmod 101)).snd)) = false)) ∧ ((IntKind.i64.wrap (Pl.norm ((IntKind.i64.wrap a).tmod 101, (IntKind.i64.wrap b).tmod 101) * Pl.norm ((IntKind.i64.wrap c).tmod 101, (IntKind.i64.wrap d).tmod 101)) != Pl.norm ((Pl.mul ((IntKind.i64.wrap a).tmod 101, (IntKind.i64.wrap b).tmod 101) ((IntKind.i64.wrap c).tmod 101, (IntKind.i64.wrap d).tmod 101)).fst, (Pl.mul ((IntKind.i64.wrap a).tmod 101, (IntKind.i64.wrap b).tmod 101) ((IntKind.i64.wrap c).tmod 101, (IntKind.i64.wrap d).tmod 101)).snd)) = false)) ∧ ((IntKind.i64.wrap (Pl.norm ((IntKind.i64.wrap a).tmod 101, (IntKind.i64.wrap b).tmod 101) * Pl.norm ((IntKind.i64.wrap c).tmod 101, (IntKind.i64.wrap d).tmod 101)) != Pl.norm ((Pl.mul ((IntKind.i64.wrap a).tmod 101, (IntKind.i64.wrap b).tmod 101) ((IntKind.i64.wrap c).tmod 101, (IntKind.i64.wrap d).tmod 101)).fst, (Pl.mul ((IntKind.i64.wrap a).tmod 101, (IntKind.i64.wrap b).tmod 101) ((IntKind.i64.wrap c).tmod 101, (IntKind.i64.wrap d).tmod 101)).snd)) = false)) ∧ (decide (Pl.norm ((IntKind.i64.wrap a).tmod 101, (IntKind.i64.wrap b).tmod 101) < 0) = false)) ∧ (decide (Pl.norm ((IntKind.i64.wrap a).tmod 101, (IntKind.i64.wrap b).tmod 101) < 0) = false)) ∧ (decide (Pl.norm ((IntKind.i64.wrap a).tmod 101, (IntKind.i64.wrap b).tmod 101) < 0) = false)) ∧ (decide (Pl.norm ((IntKind.i64.wrap a).tmod 101, (IntKind.i64.wrap b).tmod 101) < 0) = false)) ∧ (decide (Pl.norm ((IntKind.i64.wrap a).tmod 101, (IntKind.i64.wrap b).tmod 101) < 0) = false)) ∧ (decide (Pl.norm ((IntKind.i64.wrap a).tmod 101, (IntKind.i64.wrap b).tmod 101) < 0) = false)) ∧ (decide (Pl.norm ((IntKind.i64.wrap a).tmod 101, (IntKind.i64.wrap b).tmod 101) < 0) = false)) ∧ ((!((Pl.norm ((IntKind.i64.wrap a).tmod 101, (IntKind.i64.wrap b).tmod 101) == 0) == ((IntKind.i64.wrap a).tmod 101 == 0 && ((IntKind.i64.wrap b).tmod 101 == 0 && true)))) = false)) ∧ (Pl.inB 1048576 ((IntKind.i64.wrap a).tmod 101, (IntKind.i64.wrap b).tmod 101) ∧ (-1000000 ≤ IntKind.i64.wrap (IntKind.i64.wrap n + 3) ∧ IntKind.i64.wrap (IntKind.i64.wrap n + 3) ≤ 1000000) ∧ Pl.inB 1048576 (Pl.turn ((IntKind.i64.wrap a).tmod 101, (IntKind.i64.wrap b).tmod 101) (IntKind.i64.wrap (IntKind.i64.wrap n + 3))))) ∧ (Pl.inB 1048576 ((IntKind.i64.wrap a).tmod 101, (IntKind.i64.wrap b).tmod 101) ∧ (-1000000 ≤ IntKind.i64.wrap n ∧ IntKind.i64.wrap n ≤ 1000000) ∧ Pl.inB 1048576 (Pl.turn ((IntKind.i64.wrap a).tmod 101, (IntKind.i64.wrap b).tmod 101) (IntKind.i64.wrap n)))) ∧ (Pl.inB 1048576 ((IntKind.i64.wrap a).tmod 101, (IntKind.i64.wrap b).tmod 101) ∧ (-1000000 ≤ IntKind.i64.wrap (IntKind.i64.wrap n + 6) ∧ IntKind.i64.wrap (IntKind.i64.wrap n + 6) ≤ 1000000) ∧ Pl.inB 1048576 (Pl.turn ((IntKind.i64.wrap a).tmod 101, (IntKind.i64.wrap b).tmod 101) (IntKind.i64.wrap (IntKind.i64.wrap n + 6))))) ∧ (Pl.inB 1048576 ((IntKind.i64.wrap c).tmod 101, (IntKind.i64.wrap d).tmod 101) ∧ ((-1000000 : Int) ≤ 2 ∧ (2 : Int) ≤ 1000000) ∧ Pl.inB 1048576 (Pl.turn ((IntKind.i64.wrap c).tmod 101, (IntKind.i64.wrap d).tmod 101) 2))) ∧ ((IntKind.i64.wrap (IntKind.i64.wrap (IntKind.i64.wrap (0 + 0) + 0) + 0) != 0) = false)) ∧ ((IntKind.i64.wrap (IntKind.i64.wrap (IntKind.i64.wrap (0 + 0) + 0) + 0) != 0) = false)) ∧ ((IntKind.i64.wrap (IntKind.i64.wrap (IntKind.i64.wrap (0 + 0) + 0) + 0) != 0) = false)) ∧ ((IntKind.i64.wrap (IntKind.i64.wrap (IntKind.i64.wrap (0 + 0) + 0) + 0) != 0) = false)) ∧ ((IntKind.i64.wrap (IntKind.i64.wrap (IntKind.i64.wrap (0 + 0) + 0) + 0) != 0) = false)) ∧ ((IntKind.i64.wrap (IntKind.i64.wrap (IntKind.i64.wrap (0 + 0) + 0) + 0) != 0) = false)) ∧ ((IntKind.i64.wrap (IntKind.i64.wrap (IntKind.i64.wrap (0 + 0) + 0) + 0) != 0) = false)) ∧ ((IntKind.i64.wrap (IntKind.i64.wrap (IntKind.i64.wrap (0 + 0) + 0) + 0) != 0) = false)) ∧ ((IntKind.i64.wrap (IntKind.i64.wrap (IntKind.i64.wrap (0 + 0) + 0) + 0) != 0) = false)) ∧ ((IntKind.i64.wrap (IntKind.i64.wrap (IntKind.i64.wrap (0 + 0) + 0) + 0) != 0) = false)) ∧ ((!((Pl.turn ((IntKind.i64.wrap a).tmod 101, (IntKind.i64.wrap b).tmod 101) (IntKind.i64.wrap (IntKind.i64.wrap n + 3))).fst == IntKind.i64.wrap (0 - (Pl.turn ((IntKind.i64.wrap a).tmod 101, (IntKind.i64.wrap b).tmod 101) (IntKind.i64.wrap n)).fst) && ((Pl.turn ((IntKind.i64.wrap a).tmod 101, (IntKind.i64.wrap b).tmod 101) (IntKind.i64.wrap (IntKind.i64.wrap n + 3))).snd == IntKind.i64.wrap (0 - (Pl.turn ((IntKind.i64.wrap a).tmod 101, (IntKind.i64.wrap b).tmod 101) (IntKind.i64.wrap n)).snd) && true))) = false)) ∧ ((!((Pl.turn ((IntKind.i64.wrap a).tmod 101, (IntKind.i64.wrap b).tmod 101) (IntKind.i64.wrap (IntKind.i64.wrap n + 3))).fst == IntKind.i64.wrap (0 - (Pl.turn ((IntKind.i64.wrap a).tmod 101, (IntKind.i64.wrap b).tmod 101) (IntKind.i64.wrap n)).fst) && ((Pl.turn ((IntKind.i64.wrap a).tmod 101, (IntKind.i64.wrap b).tmod 101) (IntKind.i64.wrap (IntKind.i64.wrap n + 3))).snd == IntKind.i64.wrap (0 - (Pl.turn ((IntKind.i64.wrap a).tmod 101, (IntKind.i64.wrap b).tmod 101) (IntKind.i64.wrap n)).snd) && true))) = false)) ∧ ((!((Pl.turn ((IntKind.i64.wrap a).tmod 101, (IntKind.i64.wrap b).tmod 101) (IntKind.i64.wrap (IntKind.i64.wrap n + 3))).fst == IntKind.i64.wrap (0 - (Pl.turn ((IntKind.i64.wrap a).tmod 101, (IntKind.i64.wrap b).tmod 101) (IntKind.i64.wrap n)).fst) && ((Pl.turn ((IntKind.i64.wrap a).tmod 101, (IntKind.i64.wrap b).tmod 101) (IntKind.i64.wrap (IntKind.i64.wrap n + 3))).snd == IntKind.i64.wrap (0 - (Pl.turn ((IntKind.i64.wrap a).tmod 101, (IntKind.i64.wrap b).tmod 101) (IntKind.i64.wrap n)).snd) && true))) = false)) ∧ ((!((Pl.turn ((IntKind.i64.wrap a).tmod 101, (IntKind.i64.wrap b).tmod 101) (IntKind.i64.wrap (IntKind.i64.wrap n + 3))).fst == IntKind.i64.wrap (0 - (Pl.turn ((IntKind.i64.wrap a).tmod 101, (IntKind.i64.wrap b).tmod 101) (IntKind.i64.wrap n)).fst) && ((Pl.turn ((IntKind.i64.wrap a).tmod 101, (IntKind.i64.wrap b).tmod 101) (IntKind.i64.wrap (IntKind.i64.wrap n + 3))).snd == IntKind.i64.wrap (0 - (Pl.turn ((IntKind.i64.wrap a).tmod 101, (IntKind.i64.wrap b).tmod 101) (IntKind.i64.wrap n)).snd) && true))) = false)) ∧ ((!((Pl.turn ((IntKind.i64.wrap a).tmod 101, (IntKind.i64.wrap b).tmod 101) (IntKind.i64.wrap (IntKind.i64.wrap n + 6))).fst == (Pl.turn ((IntKind.i64.wrap a).tmod 101, (IntKind.i64.wrap b).tmod 101) (IntKind.i64.wrap n)).fst && ((Pl.turn ((IntKind.i64.wrap a).tmod 101, (IntKind.i64.wrap b).tmod 101) (IntKind.i64.wrap (IntKind.i64.wrap n + 6))).snd == (Pl.turn ((IntKind.i64.wrap a).tmod 101, (IntKind.i64.wrap b).tmod 101) (IntKind.i64.wrap n)).snd && true))) = false)) ∧ ((!((Pl.turn ((IntKind.i64.wrap a).tmod 101, (IntKind.i64.wrap b).tmod 101) (IntKind.i64.wrap (IntKind.i64.wrap n + 6))).fst == (Pl.turn ((IntKind.i64.wrap a).tmod 101, (IntKind.i64.wrap b).tmod 101) (IntKind.i64.wrap n)).fst && ((Pl.turn ((IntKind.i64.wrap a).tmod 101, (IntKind.i64.wrap b).tmod 101) (IntKind.i64.wrap (IntKind.i64.wrap n + 6))).snd == (Pl.turn ((IntKind.i64.wrap a).tmod 101, (IntKind.i64.wrap b).tmod 101) (IntKind.i64.wrap n)).snd && true))) = false)) ∧ (decide ((Pl.turn ((IntKind.i64.wrap a).tmod 101, (IntKind.i64.wrap b).tmod 101) (IntKind.i64.wrap n)).fst < IntKind.i64.wrap (0 - 1048576)) = false)) ∧ (decide ((Pl.turn ((IntKind.i64.wrap a).tmod 101, (IntKind.i64.wrap b).tmod 101) (IntKind.i64.wrap n)).fst < IntKind.i64.wrap (0 - 1048576)) = false)) ∧ (decide ((Pl.turn ((IntKind.i64.wrap a).tmod 101, (IntKind.i64.wrap b).tmod 101) (IntKind.i64.wrap n)).fst < IntKind.i64.wrap (0 - 1048576)) = false)) ∧ (decide ((Pl.turn ((IntKind.i64.wrap a).tmod 101, (IntKind.i64.wrap b).tmod 101) (IntKind.i64.wrap n)).fst < IntKind.i64.wrap (0 - 1048576)) = false)) ∧ (decide ((Pl.turn ((IntKind.i64.wrap a).tmod 101, (IntKind.i64.wrap b).tmod 101) (IntKind.i64.wrap n)).fst > 1048576) = false)) ∧ (decide ((Pl.turn ((IntKind.i64.wrap a).tmod 101, (IntKind.i64.wrap b).tmod 101) (IntKind.i64.wrap n)).snd < IntKind.i64.wrap (0 - 1048576)) = false)) ∧ (decide ((Pl.turn ((IntKind.i64.wrap a).tmod 101, (IntKind.i64.wrap b).tmod 101) (IntKind.i64.wrap n)).snd < IntKind.i64.wrap (0 - 1048576)) = false)) ∧ (decide ((Pl.turn ((IntKind.i64.wrap a).tmod 101, (IntKind.i64.wrap b).tmod 101) (IntKind.i64.wrap n)).snd < IntKind.i64.wrap (0 - 1048576)) = false)) ∧ (decide ((Pl.turn ((IntKind.i64.wrap a).tmod 101, (IntKind.i64.wrap b).tmod 101) (IntKind.i64.wrap n)).snd < IntKind.i64.wrap (0 - 1048576)) = false)) ∧ (decide ((Pl.turn ((IntKind.i64.wrap a).tmod 101, (IntKind.i64.wrap b).tmod 101) (IntKind.i64.wrap n)).snd > 1048576) = false)) ∧ (decide (0 < ((2 : Nat) : Int)) = true)) ∧ ((0 : Int) = Int.ofNat 0)) ∧ (((0 : Int) != 0) = false)) ∧ (decide (IntKind.i64.wrap (0 + 1) < ((2 : Nat) : Int)) = true)) ∧ (IntKind.i64.wrap (0 + 1) = Int.ofNat 1)) ∧ (((0 : Int) != 0) = false)) ∧ (decide (IntKind.i64.wrap (IntKind.i64.wrap (0 + 1) + 1) < ((2 : Nat) : Int)) = false)) ∧ ((!((Pl.turn ((IntKind.i64.wrap a).tmod 101, (IntKind.i64.wrap b).tmod 101) (IntKind.i64.wrap (IntKind.i64.wrap n + 6))).fst == (Pl.turn ((IntKind.i64.wrap a).tmod 101, (IntKind.i64.wrap b).tmod 101) (IntKind.i64.wrap n)).fst && ((Pl.turn ((IntKind.i64.wrap a).tmod 101, (IntKind.i64.wrap b).tmod 101) (IntKind.i64.wrap (IntKind.i64.wrap n + 6))).snd == (Pl.turn ((IntKind.i64.wrap a).tmod 101, (IntKind.i64.wrap b).tmod 101) (IntKind.i64.wrap n)).snd && true))) = false)) ∧ ((!((Pl.turn ((IntKind.i64.wrap a).tmod 101, (IntKind.i64.wrap b).tmod 101) (IntKind.i64.wrap (IntKind.i64.wrap n + 6))).fst == (Pl.turn ((IntKind.i64.wrap a).tmod 101, (IntKind.i64.wrap b).tmod 101) (IntKind.i64.wrap n)).fst && ((Pl.turn ((IntKind.i64.wrap a).tmod 101, (IntKind.i64.wrap b).tmod 101) (IntKind.i64.wrap (IntKind.i64.wrap n + 6))).snd == (Pl.turn ((IntKind.i64.wrap a).tmod 101, (IntKind.i64.wrap b).tmod 101) (IntKind.i64.wrap n)).snd && true))) = false)) ∧ (((0 : Int) != 0) = false)) ∧ (Pl.inB 1048576 ((Pl.turn ((IntKind.i64.wrap a).tmod 101, (IntKind.i64.wrap b).tmod 101) (IntKind.i64.wrap n)).fst, (Pl.turn ((IntKind.i64.wrap a).tmod 101, (IntKind.i64.wrap b).tmod 101) (IntKind.i64.wrap n)).snd))) ∧ (Pl.inB 1048576 ((Pl.turn ((IntKind.i64.wrap a).tmod 101, (IntKind.i64.wrap b).tmod 101) (IntKind.i64.wrap n)).fst, (Pl.turn ((IntKind.i64.wrap a).tmod 101, (IntKind.i64.wrap b).tmod 101) (IntKind.i64.wrap n)).snd) ∧ Pl.inB 1048576 ((Pl.turn ((IntKind.i64.wrap c).tmod 101, (IntKind.i64.wrap d).tmod 101) 2).fst, (Pl.turn ((IntKind.i64.wrap c).tmod 101, (IntKind.i64.wrap d).tmod 101) 2).snd) ∧ Pl.inB 1048576 (Pl.mul ((Pl.turn ((IntKind.i64.wrap a).tmod 101, (IntKind.i64.wrap b).tmod 101) (IntKind.i64.wrap n)).fst, (Pl.turn ((IntKind.i64.wrap a).tmod 101, (IntKind.i64.wrap b).tmod 101) (IntKind.i64.wrap n)).snd) ((Pl.turn ((IntKind.i64.wrap c).tmod 101, (IntKind.i64.wrap d).tmod 101) 2).fst, (Pl.turn ((IntKind.i64.wrap c).tmod 101, (IntKind.i64.wrap d).tmod 101) 2).snd)))) ∧ (Pl.inB 1048576 ((Pl.mul ((IntKind.i64.wrap a).tmod 101, (IntKind.i64.wrap b).tmod 101) ((IntKind.i64.wrap c).tmod 101, (IntKind.i64.wrap d).tmod 101)).fst, (Pl.mul ((IntKind.i64.wrap a).tmod 101, (IntKind.i64.wrap b).tmod 101) ((IntKind.i64.wrap c).tmod 101, (IntKind.i64.wrap d).tmod 101)).snd) ∧ (-1000000 ≤ IntKind.i64.wrap (IntKind.i64.wrap n + 2) ∧ IntKind.i64.wrap (IntKind.i64.wrap n + 2) ≤ 1000000) ∧ Pl.inB 1048576 (Pl.turn ((Pl.mul ((IntKind.i64.wrap a).tmod 101, (IntKind.i64.wrap b).tmod 101) ((IntKind.i64.wrap c).tmod 101, (IntKind.i64.wrap d).tmod 101)).fst, (Pl.mul ((IntKind.i64.wrap a).tmod 101, (IntKind.i64.wrap b).tmod 101) ((IntKind.i64.wrap c).tmod 101, (IntKind.i64.wrap d).tmod 101)).snd) (IntKind.i64.wrap (IntKind.i64.wrap n + 2))))) ∧ (Pl.inB 1048576 ((IntKind.i64.wrap a).tmod 101, (IntKind.i64.wrap b).tmod 101) ∧ Pl.inB 1048576 (1, 1) ∧ Pl.inB 1048576 (Pl.mul ((IntKind.i64.wrap a).tmod 101, (IntKind.i64.wrap b).tmod 101) (1, 1)))) ∧ (Pl.inB 1048576 ((IntKind.i64.wrap a).tmod 101, (IntKind.i64.wrap b).tmod 101) ∧ ((-1000000 : Int) ≤ 1 ∧ (1 : Int) ≤ 1000000) ∧ Pl.inB 1048576 (Pl.turn ((IntKind.i64.wrap a).tmod 101, (IntKind.i64.wrap b).tmod 101) 1))) ∧ ((IntKind.i64.wrap (IntKind.i64.wrap (IntKind.i64.wrap (IntKind.i64.wrap (0 + 0) + 0) + 0) + 0) == 0) = true)) ∧ ((IntKind.i64.wrap (IntKind.i64.wrap (IntKind.i64.wrap (IntKind.i64.wrap (0 + 0) + 0) + 0) + 0) == 0) = true)) ∧ ((IntKind.i64.wrap (IntKind.i64.wrap (IntKind.i64.wrap (IntKind.i64.wrap (0 + 0) + 0) + 0) + 0) == 0) = true)) ∧ ((IntKind.i64.wrap (IntKind.i64.wrap (IntKind.i64.wrap (IntKind.i64.wrap (0 + 0) + 0) + 0) + 0) == 0) = true)) ∧ ((Pl.norm ((Pl.turn ((IntKind.i64.wrap a).tmod 101, (IntKind.i64.wrap b).tmod 101) (IntKind.i64.wrap n)).fst, (Pl.turn ((IntKind.i64.wrap a).tmod 101, (IntKind.i64.wrap b).tmod 101) (IntKind.i64.wrap n)).snd) == Pl.norm ((IntKind.i64.wrap a).tmod 101, (IntKind.i64.wrap b).tmod 101)) = true)) ∧ ((Pl.norm ((Pl.turn ((IntKind.i64.wrap a).tmod 101, (IntKind.i64.wrap b).tmod 101) (IntKind.i64.wrap n)).fst, (Pl.turn ((IntKind.i64.wrap a).tmod 101, (IntKind.i64.wrap b).tmod 101) (IntKind.i64.wrap n)).snd) == Pl.norm ((IntKind.i64.wrap a).tmod 101, (IntKind.i64.wrap b).tmod 101)) = true)) ∧ ((Pl.norm ((Pl.turn ((IntKind.i64.wrap a).tmod 101, (IntKind.i64.wrap b).tmod 101) (IntKind.i64.wrap n)).fst, (Pl.turn ((IntKind.i64.wrap a).tmod 101, (IntKind.i64.wrap b).tmod 101) (IntKind.i64.wrap n)).snd) == Pl.norm ((IntKind.i64.wrap a).tmod 101, (IntKind.i64.wrap b).tmod 101)) = true)) ∧ ((Pl.norm ((Pl.turn ((IntKind.i64.wrap a).tmod 101, (IntKind.i64.wrap b).tmod 101) (IntKind.i64.wrap n)).fst, (Pl.turn ((IntKind.i64.wrap a).tmod 101, (IntKind.i64.wrap b).tmod 101) (IntKind.i64.wrap n)).snd) == Pl.norm ((IntKind.i64.wrap a).tmod 101, (IntKind.i64.wrap b).tmod 101)) = true)) ∧ (((Pl.mul ((Pl.turn ((IntKind.i64.wrap a).tmod 101, (IntKind.i64.wrap b).tmod 101) (IntKind.i64.wrap n)).fst, (Pl.turn ((IntKind.i64.wrap a).tmod 101, (IntKind.i64.wrap b).tmod 101) (IntKind.i64.wrap n)).snd) ((Pl.turn ((IntKind.i64.wrap c).tmod 101, (IntKind.i64.wrap d).tmod 101) 2).fst, (Pl.turn ((IntKind.i64.wrap c).tmod 101, (IntKind.i64.wrap d).tmod 101) 2).snd)).fst == (Pl.turn ((Pl.mul ((IntKind.i64.wrap a).tmod 101, (IntKind.i64.wrap b).tmod 101) ((IntKind.i64.wrap c).tmod 101, (IntKind.i64.wrap d).tmod 101)).fst, (Pl.mul ((IntKind.i64.wrap a).tmod 101, (IntKind.i64.wrap b).tmod 101) ((IntKind.i64.wrap c).tmod 101, (IntKind.i64.wrap d).tmod 101)).snd) (IntKind.i64.wrap (IntKind.i64.wrap n + 2))).fst && ((Pl.mul ((Pl.turn ((IntKind.i64.wrap a).tmod 101, (IntKind.i64.wrap b).tmod 101) (IntKind.i64.wrap n)).fst, (Pl.turn ((IntKind.i64.wrap a).tmod 101, (IntKind.i64.wrap b).tmod 101) (IntKind.i64.wrap n)).snd) ((Pl.turn ((IntKind.i64.wrap c).tmod 101, (IntKind.i64.wrap d).tmod 101) 2).fst, (Pl.turn ((IntKind.i64.wrap c).tmod 101, (IntKind.i64.wrap d).tmod 101) 2).snd)).snd == (Pl.turn ((Pl.mul ((IntKind.i64.wrap a).tmod 101, (IntKind.i64.wrap b).tmod 101) ((IntKind.i64.wrap c).tmod 101, (IntKind.i64.wrap d).tmod 101)).fst, (Pl.mul ((IntKind.i64.wrap a).tmod 101, (IntKind.i64.wrap b).tmod 101) ((IntKind.i64.wrap c).tmod 101, (IntKind.i64.wrap d).tmod 101)).snd) (IntKind.i64.wrap (IntKind.i64.wrap n + 2))).snd && true)) = true)) ∧ (((Pl.mul ((Pl.turn ((IntKind.i64.wrap a).tmod 101, (IntKind.i64.wrap b).tmod 101) (IntKind.i64.wrap n)).fst, (Pl.turn ((IntKind.i64.wrap a).tmod 101, (IntKind.i64.wrap b).tmod 101) (IntKind.i64.wrap n)).snd) ((Pl.turn ((IntKind.i64.wrap c).tmod 101, (IntKind.i64.wrap d).tmod 101) 2).fst, (Pl.turn ((IntKind.i64.wrap c).tmod 101, (IntKind.i64.wrap d).tmod 101) 2).snd)).fst == (Pl.turn ((Pl.mul ((IntKind.i64.wrap a).tmod 101, (IntKind.i64.wrap b).tmod 101) ((IntKind.i64.wrap c).tmod 101, (IntKind.i64.wrap d).tmod 101)).fst, (Pl.mul ((IntKind.i64.wrap a).tmod 101, (IntKind.i64.wrap b).tmod 101) ((IntKind.i64.wrap c).tmod 101, (IntKind.i64.wrap d).tmod 101)).snd) (IntKind.i64.wrap (IntKind.i64.wrap n + 2))).fst && ((Pl.mul ((Pl.turn ((IntKind.i64.wrap a).tmod 101, (IntKind.i64.wrap b).tmod 101) (IntKind.i64.wrap n)).fst, (Pl.turn ((IntKind.i64.wrap a).tmod 101, (IntKind.i64.wrap b).tmod 101) (IntKind.i64.wrap n)).snd) ((Pl.turn ((IntKind.i64.wrap c).tmod 101, (IntKind.i64.wrap d).tmod 101) 2).fst, (Pl.turn ((IntKind.i64.wrap c).tmod 101, (IntKind.i64.wrap d).tmod 101) 2).snd)).snd == (Pl.turn ((Pl.mul ((IntKind.i64.wrap a).tmod 101, (IntKind.i64.wrap b).tmod 101) ((IntKind.i64.wrap c).tmod 101, (IntKind.i64.wrap d).tmod 101)).fst, (Pl.mul ((IntKind.i64.wrap a).tmod 101, (IntKind.i64.wrap b).tmod 101) ((IntKind.i64.wrap c).tmod 101, (IntKind.i64.wrap d).tmod 101)).snd) (IntKind.i64.wrap (IntKind.i64.wrap n + 2))).snd && true)) = true)) ∧ (((Pl.mul ((Pl.turn ((IntKind.i64.wrap a).tmod 101, (IntKind.i64.wrap b).tmod 101) (IntKind.i64.wrap n)).fst, (Pl.turn ((IntKind.i64.wrap a).tmod 101, (IntKind.i64.wrap b).tmod 101) (IntKind.i64.wrap n)).snd) ((Pl.turn ((IntKind.i64.wrap c).tmod 101, (IntKind.i64.wrap d).tmod 101) 2).fst, (Pl.turn ((IntKind.i64.wrap c).tmod 101, (IntKind.i64.wrap d).tmod 101) 2).snd)).fst == (Pl.turn ((Pl.mul ((IntKind.i64.wrap a).tmod 101, (IntKind.i64.wrap b).tmod 101) ((IntKind.i64.wrap c).tmod 101, (IntKind.i64.wrap d).tmod 101)).fst, (Pl.mul ((IntKind.i64.wrap a).tmod 101, (IntKind.i64.wrap b).tmod 101) ((IntKind.i64.wrap c).tmod 101, (IntKind.i64.wrap d).tmod 101)).snd) (IntKind.i64.wrap (IntKind.i64.wrap n + 2))).fst && ((Pl.mul ((Pl.turn ((IntKind.i64.wrap a).tmod 101, (IntKind.i64.wrap b).tmod 101) (IntKind.i64.wrap n)).fst, (Pl.turn ((IntKind.i64.wrap a).tmod 101, (IntKind.i64.wrap b).tmod 101) (IntKind.i64.wrap n)).snd) ((Pl.turn ((IntKind.i64.wrap c).tmod 101, (IntKind.i64.wrap d).tmod 101) 2).fst, (Pl.turn ((IntKind.i64.wrap c).tmod 101, (IntKind.i64.wrap d).tmod 101) 2).snd)).snd == (Pl.turn ((Pl.mul ((IntKind.i64.wrap a).tmod 101, (IntKind.i64.wrap b).tmod 101) ((IntKind.i64.wrap c).tmod 101, (IntKind.i64.wrap d).tmod 101)).fst, (Pl.mul ((IntKind.i64.wrap a).tmod 101, (IntKind.i64.wrap b).tmod 101) ((IntKind.i64.wrap c).tmod 101, (IntKind.i64.wrap d).tmod 101)).snd) (IntKind.i64.wrap (IntKind.i64.wrap n + 2))).snd && true)) = true)) ∧ (((Pl.mul ((Pl.turn ((IntKind.i64.wrap a).tmod 101, (IntKind.i64.wrap b).tmod 101) (IntKind.i64.wrap n)).fst, (Pl.turn ((IntKind.i64.wrap a).tmod 101, (IntKind.i64.wrap b).tmod 101) (IntKind.i64.wrap n)).snd) ((Pl.turn ((IntKind.i64.wrap c).tmod 101, (IntKind.i64.wrap d).tmod 101) 2).fst, (Pl.turn ((IntKind.i64.wrap c).tmod 101, (IntKind.i64.wrap d).tmod 101) 2).snd)).fst == (Pl.turn ((Pl.mul ((IntKind.i64.wrap a).tmod 101, (IntKind.i64.wrap b).tmod 101) ((IntKind.i64.wrap c).tmod 101, (IntKind.i64.wrap d).tmod 101)).fst, (Pl.mul ((IntKind.i64.wrap a).tmod 101, (IntKind.i64.wrap b).tmod 101) ((IntKind.i64.wrap c).tmod 101, (IntKind.i64.wrap d).tmod 101)).snd) (IntKind.i64.wrap (IntKind.i64.wrap n + 2))).fst && ((Pl.mul ((Pl.turn ((IntKind.i64.wrap a).tmod 101, (IntKind.i64.wrap b).tmod 101) (IntKind.i64.wrap n)).fst, (Pl.turn ((IntKind.i64.wrap a).tmod 101, (IntKind.i64.wrap b).tmod 101) (IntKind.i64.wrap n)).snd) ((Pl.turn ((IntKind.i64.wrap c).tmod 101, (IntKind.i64.wrap d).tmod 101) 2).fst, (Pl.turn ((IntKind.i64.wrap c).tmod 101, (IntKind.i64.wrap d).tmod 101) 2).snd)).snd == (Pl.turn ((Pl.mul ((IntKind.i64.wrap a).tmod 101, (IntKind.i64.wrap b).tmod 101) ((IntKind.i64.wrap c).tmod 101, (IntKind.i64.wrap d).tmod 101)).fst, (Pl.mul ((IntKind.i64.wrap a).tmod 101, (IntKind.i64.wrap b).tmod 101) ((IntKind.i64.wrap c).tmod 101, (IntKind.i64.wrap d).tmod 101)).snd) (IntKind.i64.wrap (IntKind.i64.wrap n + 2))).snd && true)) = true)) ∧ (((Pl.mul ((IntKind.i64.wrap a).tmod 101, (IntKind.i64.wrap b).tmod 101) (1, 1)).fst == (Pl.turn ((IntKind.i64.wrap a).tmod 101, (IntKind.i64.wrap b).tmod 101) 1).fst && ((Pl.mul ((IntKind.i64.wrap a).tmod 101, (IntKind.i64.wrap b).tmod 101) (1, 1)).snd == (Pl.turn ((IntKind.i64.wrap a).tmod 101, (IntKind.i64.wrap b).tmod 101) 1).snd && true)) = true)) ∧ (((Pl.mul ((IntKind.i64.wrap a).tmod 101, (IntKind.i64.wrap b).tmod 101) (1, 1)).fst == (Pl.turn ((IntKind.i64.wrap a).tmod 101, (IntKind.i64.wrap b).tmod 101) 1).fst && ((Pl.mul ((IntKind.i64.wrap a).tmod 101, (IntKind.i64.wrap b).tmod 101) (1, 1)).snd == (Pl.turn ((IntKind.i64.wrap a).tmod 101, (IntKind.i64.wrap b).tmod 101) 1).snd && true)) = true)
theorem ringOb_eq (a b c d e f n : Int) : obOf (ringEv a b c d e f n) = ringRhs a b c d e f n := by kernel_rfl
theorem ringOb (a b c d e f n : Int) (h : Bnd ((IntKind.i64.wrap a).tmod 101) ((IntKind.i64.wrap b).tmod 101) ((IntKind.i64.wrap c).tmod 101) ((IntKind.i64.wrap d).tmod 101) ((IntKind.i64.wrap e).tmod 101) ((IntKind.i64.wrap f).tmod 101) (IntKind.i64.wrap n)) : BoxedP (obOf (ringEv a b c d e f n)) := by
  refine ⟨?_⟩
  rw [ringOb_eq]
  unfold ringRhs
  exact ⟨⟨⟨⟨⟨⟨⟨⟨⟨⟨⟨⟨⟨⟨⟨⟨⟨⟨⟨⟨⟨⟨⟨⟨⟨⟨⟨⟨⟨⟨⟨⟨⟨⟨⟨⟨⟨⟨⟨⟨⟨⟨⟨⟨⟨⟨⟨⟨⟨⟨⟨⟨⟨⟨⟨⟨⟨⟨⟨⟨⟨⟨⟨⟨⟨⟨⟨⟨⟨⟨⟨⟨⟨⟨⟨⟨⟨⟨⟨⟨⟨⟨⟨⟨⟨⟨⟨⟨⟨⟨⟨⟨⟨⟨⟨⟨⟨⟨⟨⟨⟨⟨⟨⟨⟨⟨⟨⟨⟨⟨⟨⟨⟨⟨⟨⟨⟨⟨⟨⟨⟨⟨⟨⟨ro0 _ _ _ _ _ _ _ h, ro1 _ _ _ _ _ _ _ h⟩, ro1 _ _ _ _ _ _ _ h⟩, ro2 _ _ _ _ _ _ _ h⟩, ro2 _ _ _ _ _ _ _ h⟩, ro1 _ _ _ _ _ _ _ h⟩, ro2 _ _ _ _ _ _ _ h⟩, ro3 _ _ _ _ _ _ _ h⟩, ro1 _ _ _ _ _ _ _ h⟩, ro2 _ _ _ _ _ _ _ h⟩, ro4 _ _ _ _ _ _ _ h⟩, ro5 _ _ _ _ _ _ _ h⟩, ro6 _ _ _ _ _ _ _ h⟩, ro7 _ _ _ _ _ _ _ h⟩, ro8 _ _ _ _ _ _ _ h⟩, ro8 _ _ _ _ _ _ _ h⟩, ro8 _ _ _ _ _ _ _ h⟩, ro8 _ _ _ _ _ _ _ h⟩, ro9 _ _ _ _ _ _ _ h⟩, ro9 _ _ _ _ _ _ _ h⟩, ro9 _ _ _ _ _ _ _ h⟩, ro9 _ _ _ _ _ _ _ h⟩, ro10 _ _ _ _ _ _ _ h⟩, ro10 _ _ _ _ _ _ _ h⟩, ro10 _ _ _ _ _ _ _ h⟩, ro10 _ _ _ _ _ _ _ h⟩, ro10 _ _ _ _ _ _ _ h⟩, ro10 _ _ _ _ _ _ _ h⟩, ro10 _ _ _ _ _ _ _ h⟩, ro10 _ _ _ _ _ _ _ h⟩, ro10 _ _ _ _ _ _ _ h⟩, ro10 _ _ _ _ _ _ _ h⟩, ro10 _ _ _ _ _ _ _ h⟩, ro10 _ _ _ _ _ _ _ h⟩, ro10 _ _ _ _ _ _ _ h⟩, ro10 _ _ _ _ _ _ _ h⟩, ro11 _ _ _ _ _ _ _ h⟩, ro12 _ _ _ _ _ _ _ h⟩, ro13 _ _ _ _ _ _ _ h⟩, ro14 _ _ _ _ _ _ _ h⟩, ro15 _ _ _ _ _ _ _ h⟩, ro16 _ _ _ _ _ _ _ h⟩, ro17 _ _ _ _ _ _ _ h⟩, ro18 _ _ _ _ _ _ _ h⟩, ro19 _ _ _ _ _ _ _ h⟩, ro8 _ _ _ _ _ _ _ h⟩, ro8 _ _ _ _ _ _ _ h⟩, ro8 _ _ _ _ _ _ _ h⟩, ro8 _ _ _ _ _ _ _ h⟩, ro20 _ _ _ _ _ _ _ h⟩, ro20 _ _ _ _ _ _ _ h⟩, ro20 _ _ _ _ _ _ _ h⟩, ro20 _ _ _ _ _ _ _ h⟩, ro20 _ _ _ _ _ _ _ h⟩, ro20 _ _ _ _ _ _ _ h⟩, ro21 _ _ _ _ _ _ _ h⟩, ro21 _ _ _ _ _ _ _ h⟩, ro21 _ _ _ _ _ _ _ h⟩, ro22 _ _ _ _ _ _ _ h⟩, ro22 _ _ _ _ _ _ _ h⟩, ro22 _ _ _ _ _ _ _ h⟩, ro22 _ _ _ _ _ _ _ h⟩, ro22 _ _ _ _ _ _ _ h⟩, ro22 _ _ _ _ _ _ _ h⟩, ro22 _ _ _ _ _ _ _ h⟩, ro23 _ _ _ _ _ _ _ h⟩, ro24 _ _ _ _ _ _ _ h⟩, ro25 _ _ _ _ _ _ _ h⟩, ro26 _ _ _ _ _ _ _ h⟩, ro27 _ _ _ _ _ _ _ h⟩, ro8 _ _ _ _ _ _ _ h⟩, ro8 _ _ _ _ _ _ _ h⟩, ro8 _ _ _ _ _ _ _ h⟩, ro8 _ _ _ _ _ _ _ h⟩, ro8 _ _ _ _ _ _ _ h⟩, ro8 _ _ _ _ _ _ _ h⟩, ro8 _ _ _ _ _ _ _ h⟩, ro8 _ _ _ _ _ _ _ h⟩, ro8 _ _ _ _ _ _ _ h⟩, ro8 _ _ _ _ _ _ _ h⟩, ro28 _ _ _ _ _ _ _ h⟩, ro28 _ _ _ _ _ _ _ h⟩, ro28 _ _ _ _ _ _ _ h⟩, ro28 _ _ _ _ _ _ _ h⟩, ro29 _ _ _ _ _ _ _ h⟩, ro29 _ _ _ _ _ _ _ h⟩, ro30 _ _ _ _ _ _ _ h⟩, ro30 _ _ _ _ _ _ _ h⟩, ro30 _ _ _ _ _ _ _ h⟩, ro30 _ _ _ _ _ _ _ h⟩, ro31 _ _ _ _ _ _ _ h⟩, ro32 _ _ _ _ _ _ _ h⟩, ro32 _ _ _ _ _ _ _ h⟩, ro32 _ _ _ _ _ _ _ h⟩, ro32 _ _ _ _ _ _ _ h⟩, ro33 _ _ _ _ _ _ _ h⟩, ro34 _ _ _ _ _ _ _ h⟩, ro1 _ _ _ _ _ _ _ h⟩, ro35 _ _ _ _ _ _ _ h⟩, ro36 _ _ _ _ _ _ _ h⟩, ro37 _ _ _ _ _ _ _ h⟩, ro35 _ _ _ _ _ _ _ h⟩, ro38 _ _ _ _ _ _ _ h⟩, ro29 _ _ _ _ _ _ _ h⟩, ro29 _ _ _ _ _ _ _ h⟩, ro35 _ _ _ _ _ _ _ h⟩, ro39 _ _ _ _ _ _ _ h⟩, ro40 _ _ _ _ _ _ _ h⟩, ro41 _ _ _ _ _ _ _ h⟩, ro42 _ _ _ _ _ _ _ h⟩, ro43 _ _ _ _ _ _ _ h⟩, ro44 _ _ _ _ _ _ _ h⟩, ro44 _ _ _ _ _ _ _ h⟩, ro44 _ _ _ _ _ _ _ h⟩, ro44 _ _ _ _ _ _ _ h⟩, ro45 _ _ _ _ _ _ _ h⟩, ro45 _ _ _ _ _ _ _ h⟩, ro45 _ _ _ _ _ _ _ h⟩, ro45 _ _ _ _ _ _ _ h⟩, ro46 _ _ _ _ _ _ _ h⟩, ro46 _ _ _ _ _ _ _ h⟩, ro46 _ _ _ _ _ _ _ h⟩, ro46 _ _ _ _ _ _ _ h⟩, ro47 _ _ _ _ _ _ _ h⟩, ro47 _ _ _ _ _ _ _ h⟩
theorem ringVal (a b c d e f n : Int) : resOf (ringEv a b c d e f n) = .bool true := by kernel_rfl
theorem ringClean (a b c d e f n : Int) : cleanOf Tryz.prog.globals.size (ringEv a b c d e f n) = true := by kernel_rfl
theorem bnd_of (a b c d e f n : Int) (hn : -128 ≤ n ∧ n ≤ 127) : Bnd ((IntKind.i64.wrap a).tmod 101) ((IntKind.i64.wrap b).tmod 101) ((IntKind.i64.wrap c).tmod 101) ((IntKind.i64.wrap d).tmod 101) ((IntKind.i64.wrap e).tmod 101) ((IntKind.i64.wrap f).tmod 101) (IntKind.i64.wrap n) := by
  have hw : IntKind.i64.wrap n = n := IntWalk.i64_in _ (by omega)
  have hb : ∀ x : Int, -100 ≤ x.tmod 101 ∧ x.tmod 101 ≤ 100 := fun x => by
    have h1 := Int.tmod_lt_of_pos x (b := 101) (by omega)
    have h2 := Int.lt_tmod_of_pos x (b := 101) (by omega)
    omega
  exact ⟨⟨(hb _).1, (hb _).2, (hb _).1, (hb _).2⟩, ⟨(hb _).1, (hb _).2, (hb _).1, (hb _).2⟩, ⟨(hb _).1, (hb _).2, (hb _).1, (hb _).2⟩, by rw [hw]; exact hn⟩
theorem ringXok : FOkS Tryz.prog ringX := bothX_ok (knownX_ok ringK_ok) (tabX_ok (by kernel_rfl) aw_calls)
end Go.Proofs.YtgloclcbeohkhaaGreatDoor
