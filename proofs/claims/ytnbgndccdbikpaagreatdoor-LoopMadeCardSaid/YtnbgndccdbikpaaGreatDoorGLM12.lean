/-
  LoopMade: for all arguments the law returns true and leaves its arguments as they were, wherever the tables that its row lists are laid as the text lays them.
  Tables of strings on a row's list.
  Tables of structures of two pairs on a row's list.
  The last step of a row whose call leaves a world of which only 'Below' is known; tables of pairs on a row's list.
  Arguments that are made of integers alone (numbers, arrays and structs of them, in any depth), opened: their cells are numbers, and their data is the same in each world.
  The law LoopMade: it returns true at all numbers.
  The whole.
-/
import Derived.Test.YtnbgndccdbikpaaGreatDoorGLM4
import Derived.Test.YtnbgndccdbikpaaGreatDoorGLM5
import Derived.Test.YtnbgndccdbikpaaGreatDoorGLM6
import Derived.Test.YtnbgndccdbikpaaGreatDoorGLM7
import Derived.Test.YtnbgndccdbikpaaGreatDoorGLM8
import Derived.Test.YtnbgndccdbikpaaGreatDoorGLM9
import Derived.Test.YtnbgndccdbikpaaGreatDoorGLM10
import Derived.Test.YtnbgndccdbikpaaGreatDoorGLM11
import Derived.Test.YtnbgndccdbikpaaGreatDoorGLM3
import Derived.Test.YtnbgndccdbikpaaGreatDoorGLM2
import Derived.OpenShut
import Derived.RowKit
import Derived.WideShapes
import Derived.Below
import Derived.ChangeSame
import Derived.ProofKit
import Derived.JoinedCond
import Derived.JoinedOf
import Derived.JoinedAt
import Derived.RowKit3
import Derived.Lib.LaidTab
import Derived.LaidSub
import Derived.Test.YtnbgndccdbikpaaGreatDoorCards
import Derived.Test.YtnbgndccdbikpaaGreatDoorTie
import Derived.WalkKit
import Derived.Deep.DeepHandedRow
section
set_option linter.all false
set_option maxRecDepth 1000000
open Go.RowKit
namespace Go.Proofs.YtnbgndccdbikpaaGreatDoor
open Mini
theorem aw3X0 : FOk Tryz.prog (joinX 90) := joinX_ok fun bk o c xs sep w h1 h2 h3 h4 h5 => Tryz.strings_Join bk o c xs sep w h1 h2 h3 h4 h5
theorem aw3X : FOk Tryz.prog (joinX 90) := aw3X0
theorem aw3m : Tryz.prog.follows .mixedOrders = true := by kernel_rfl
theorem aw3g24 : SndC Tryz.prog none (dropS 24 aw3B) aw3A24.act aw3S24 .ret aw3A25.act aw3S25 aw3R24 aw3W24 := chain_last aw3m aw3X aw3c24
theorem aw3g23 : SndC Tryz.prog none (dropS 23 aw3B) aw3A23.act aw3S23 .ret aw3A25.act aw3S25 aw3RR23 aw3WW23 := by
  have h := chain_step aw3m aw3X (by kernel_rfl) aw3c23 aw3g24
  rwa [show aw3R23 ||| aw3R24 = aw3RR23 from by decide +kernel, show aw3W23 ||| aw3W24 = aw3WW23 from by decide +kernel] at h
theorem aw3g22 : SndC Tryz.prog none (dropS 22 aw3B) aw3A22.act aw3S22 .ret aw3A25.act aw3S25 aw3RR22 aw3WW22 := by
  have h := chain_step aw3m aw3X (by kernel_rfl) aw3c22 aw3g23
  rwa [show aw3R22 ||| aw3RR23 = aw3RR22 from by decide +kernel, show aw3W22 ||| aw3WW23 = aw3WW22 from by decide +kernel] at h
theorem aw3g21 : SndC Tryz.prog none (dropS 21 aw3B) aw3A21.act aw3S21 .ret aw3A25.act aw3S25 aw3RR21 aw3WW21 := by
  have h := chain_step aw3m aw3X (by kernel_rfl) aw3c21 aw3g22
  rwa [show aw3R21 ||| aw3RR22 = aw3RR21 from by decide +kernel, show aw3W21 ||| aw3WW22 = aw3WW21 from by decide +kernel] at h
theorem aw3g20 : SndC Tryz.prog none (dropS 20 aw3B) aw3A20.act aw3S20 .ret aw3A25.act aw3S25 aw3RR20 aw3WW20 := by
  have h := chain_step aw3m aw3X (by kernel_rfl) aw3c20 aw3g21
  rwa [show aw3R20 ||| aw3RR21 = aw3RR20 from by decide +kernel, show aw3W20 ||| aw3WW21 = aw3WW20 from by decide +kernel] at h
theorem aw3g19 : SndC Tryz.prog none (dropS 19 aw3B) aw3A19.act aw3S19 .ret aw3A25.act aw3S25 aw3RR19 aw3WW19 := by
  have h := chain_step aw3m aw3X (by kernel_rfl) aw3c19 aw3g20
  rwa [show aw3R19 ||| aw3RR20 = aw3RR19 from by decide +kernel, show aw3W19 ||| aw3WW20 = aw3WW19 from by decide +kernel] at h
theorem aw3g18 : SndC Tryz.prog none (dropS 18 aw3B) aw3A18.act aw3S18 .ret aw3A25.act aw3S25 aw3RR18 aw3WW18 := by
  have h := chain_step aw3m aw3X (by kernel_rfl) aw3c18 aw3g19
  rwa [show aw3R18 ||| aw3RR19 = aw3RR18 from by decide +kernel, show aw3W18 ||| aw3WW19 = aw3WW18 from by decide +kernel] at h
theorem aw3g17 : SndC Tryz.prog none (dropS 17 aw3B) aw3A17.act aw3S17 .ret aw3A25.act aw3S25 aw3RR17 aw3WW17 := by
  have h := chain_step aw3m aw3X (by kernel_rfl) aw3c17 aw3g18
  rwa [show aw3R17 ||| aw3RR18 = aw3RR17 from by decide +kernel, show aw3W17 ||| aw3WW18 = aw3WW17 from by decide +kernel] at h
theorem aw3g16 : SndC Tryz.prog none (dropS 16 aw3B) aw3A16.act aw3S16 .ret aw3A25.act aw3S25 aw3RR16 aw3WW16 := by
  have h := chain_step aw3m aw3X (by kernel_rfl) aw3c16 aw3g17
  rwa [show aw3R16 ||| aw3RR17 = aw3RR16 from by decide +kernel, show aw3W16 ||| aw3WW17 = aw3WW16 from by decide +kernel] at h
theorem aw3g15 : SndC Tryz.prog none (dropS 15 aw3B) aw3A15.act aw3S15 .ret aw3A25.act aw3S25 aw3RR15 aw3WW15 := by
  have h := chain_step aw3m aw3X (by kernel_rfl) aw3c15 aw3g16
  rwa [show aw3R15 ||| aw3RR16 = aw3RR15 from by decide +kernel, show aw3W15 ||| aw3WW16 = aw3WW15 from by decide +kernel] at h
theorem aw3g14 : SndC Tryz.prog none (dropS 14 aw3B) aw3A14.act aw3S14 .ret aw3A25.act aw3S25 aw3RR14 aw3WW14 := by
  have h := chain_step aw3m aw3X (by kernel_rfl) aw3c14 aw3g15
  rwa [show aw3R14 ||| aw3RR15 = aw3RR14 from by decide +kernel, show aw3W14 ||| aw3WW15 = aw3WW14 from by decide +kernel] at h
theorem aw3g13 : SndC Tryz.prog none (dropS 13 aw3B) aw3A13.act aw3S13 .ret aw3A25.act aw3S25 aw3RR13 aw3WW13 := by
  have h := chain_step aw3m aw3X (by kernel_rfl) aw3c13 aw3g14
  rwa [show aw3R13 ||| aw3RR14 = aw3RR13 from by decide +kernel, show aw3W13 ||| aw3WW14 = aw3WW13 from by decide +kernel] at h
theorem aw3g12 : SndC Tryz.prog none (dropS 12 aw3B) aw3A12.act aw3S12 .ret aw3A25.act aw3S25 aw3RR12 aw3WW12 := by
  have h := chain_step aw3m aw3X (by kernel_rfl) aw3c12 aw3g13
  rwa [show aw3R12 ||| aw3RR13 = aw3RR12 from by decide +kernel, show aw3W12 ||| aw3WW13 = aw3WW12 from by decide +kernel] at h
theorem aw3g11 : SndC Tryz.prog none (dropS 11 aw3B) aw3A11.act aw3S11 .ret aw3A25.act aw3S25 aw3RR11 aw3WW11 := by
  have h := chain_step aw3m aw3X (by kernel_rfl) aw3c11 aw3g12
  rwa [show aw3R11 ||| aw3RR12 = aw3RR11 from by decide +kernel, show aw3W11 ||| aw3WW12 = aw3WW11 from by decide +kernel] at h
theorem aw3g10 : SndC Tryz.prog none (dropS 10 aw3B) aw3A10.act aw3S10 .ret aw3A25.act aw3S25 aw3RR10 aw3WW10 := by
  have h := chain_step aw3m aw3X (by kernel_rfl) aw3c10 aw3g11
  rwa [show aw3R10 ||| aw3RR11 = aw3RR10 from by decide +kernel, show aw3W10 ||| aw3WW11 = aw3WW10 from by decide +kernel] at h
theorem aw3g9 : SndC Tryz.prog none (dropS 9 aw3B) aw3A9.act aw3S9 .ret aw3A25.act aw3S25 aw3RR9 aw3WW9 := by
  have h := chain_step aw3m aw3X (by kernel_rfl) aw3c9 aw3g10
  rwa [show aw3R9 ||| aw3RR10 = aw3RR9 from by decide +kernel, show aw3W9 ||| aw3WW10 = aw3WW9 from by decide +kernel] at h
theorem aw3g8 : SndC Tryz.prog none (dropS 8 aw3B) aw3A8.act aw3S8 .ret aw3A25.act aw3S25 aw3RR8 aw3WW8 := by
  have h := chain_step aw3m aw3X (by kernel_rfl) aw3c8 aw3g9
  rwa [show aw3R8 ||| aw3RR9 = aw3RR8 from by decide +kernel, show aw3W8 ||| aw3WW9 = aw3WW8 from by decide +kernel] at h
theorem aw3g7 : SndC Tryz.prog none (dropS 7 aw3B) aw3A7.act aw3S7 .ret aw3A25.act aw3S25 aw3RR7 aw3WW7 := by
  have h := chain_step aw3m aw3X (by kernel_rfl) aw3c7 aw3g8
  rwa [show aw3R7 ||| aw3RR8 = aw3RR7 from by decide +kernel, show aw3W7 ||| aw3WW8 = aw3WW7 from by decide +kernel] at h
theorem aw3g6 : SndC Tryz.prog none (dropS 6 aw3B) aw3A6.act aw3S6 .ret aw3A25.act aw3S25 aw3RR6 aw3WW6 := by
  have h := chain_step aw3m aw3X (by kernel_rfl) aw3c6 aw3g7
  rwa [show aw3R6 ||| aw3RR7 = aw3RR6 from by decide +kernel, show aw3W6 ||| aw3WW7 = aw3WW6 from by decide +kernel] at h
theorem aw3g5 : SndC Tryz.prog none (dropS 5 aw3B) aw3A5.act aw3S5 .ret aw3A25.act aw3S25 aw3RR5 aw3WW5 := by
  have h := chain_step aw3m aw3X (by kernel_rfl) aw3c5 aw3g6
  rwa [show aw3R5 ||| aw3RR6 = aw3RR5 from by decide +kernel, show aw3W5 ||| aw3WW6 = aw3WW5 from by decide +kernel] at h
theorem aw3g4 : SndC Tryz.prog none (dropS 4 aw3B) aw3A4.act aw3S4 .ret aw3A25.act aw3S25 aw3RR4 aw3WW4 := by
  have h := chain_step aw3m aw3X (by kernel_rfl) aw3c4 aw3g5
  rwa [show aw3R4 ||| aw3RR5 = aw3RR4 from by decide +kernel, show aw3W4 ||| aw3WW5 = aw3WW4 from by decide +kernel] at h
theorem aw3g3 : SndC Tryz.prog none (dropS 3 aw3B) aw3A3.act aw3S3 .ret aw3A25.act aw3S25 aw3RR3 aw3WW3 := by
  have h := chain_step aw3m aw3X (by kernel_rfl) aw3c3 aw3g4
  rwa [show aw3R3 ||| aw3RR4 = aw3RR3 from by decide +kernel, show aw3W3 ||| aw3WW4 = aw3WW3 from by decide +kernel] at h
theorem aw3g2 : SndC Tryz.prog none (dropS 2 aw3B) aw3A2.act aw3S2 .ret aw3A25.act aw3S25 aw3RR2 aw3WW2 := by
  have h := chain_step aw3m aw3X (by kernel_rfl) aw3c2 aw3g3
  rwa [show aw3R2 ||| aw3RR3 = aw3RR2 from by decide +kernel, show aw3W2 ||| aw3WW3 = aw3WW2 from by decide +kernel] at h
theorem aw3g1 : SndC Tryz.prog none (dropS 1 aw3B) aw3A1.act aw3S1 .ret aw3A25.act aw3S25 aw3RR1 aw3WW1 := by
  have h := chain_step aw3m aw3X (by kernel_rfl) aw3c1 aw3g2
  rwa [show aw3R1 ||| aw3RR2 = aw3RR1 from by decide +kernel, show aw3W1 ||| aw3WW2 = aw3WW1 from by decide +kernel] at h
theorem aw3g0 : SndC Tryz.prog none (dropS 0 aw3B) aw3A0.act aw3S0 .ret aw3A25.act aw3S25 aw3RR0 aw3WW0 := by
  have h := chain_step aw3m aw3X (by kernel_rfl) aw3c0 aw3g1
  rwa [show aw3R0 ||| aw3RR1 = aw3RR0 from by decide +kernel, show aw3W0 ||| aw3WW1 = aw3WW0 from by decide +kernel] at h
theorem aw3f : SndF Tryz.prog 8 #[] aw3S0 (.bool true) aw3S25 (aw3RR0 ||| 0) aw3WW0 :=
  sndF_of (vs := [.bool true]) Tryz.func8 (show _ = some aw3B by kernel_rfl) (.inr rfl) (by kernel_rfl) (show SndC Tryz.prog none aw3B (startA Tryz.f8 #[]) aw3S0 .ret aw3A25.act aw3S25 aw3RR0 aw3WW0 from ((startM_act _ _).symm.trans (congrArg MA.act (show startM Tryz.f8 #[] = aw3A0 by kernel_rfl))) ▸ aw3g0) (by kernel_rfl)
theorem aw3_calls (w : World) (h : Holds Tryz.prog aw3S0 w) : Calls Tryz.prog 8 #[] w fun e w' => e = .returned (.bool true) ∧ Below w.heap.size w w' :=
  calls_of aw3f (by kernel_rfl) (by kernel_rfl) (fun b hb => by
    have hb : b < Tryz.prog.globals.size := hb
    rw [show Tryz.prog.globals.size = 6 by kernel_rfl] at hb
    revert b; decide +kernel) h
end Go.Proofs.YtnbgndccdbikpaaGreatDoor
end
section
set_option linter.all false
set_option maxRecDepth 1000000
open Go.RowKit
namespace Go.Proofs.YtnbgndccdbikpaaGreatDoor
open Mini
noncomputable def lmX : CallS := bothX kMade (bothX kRMade (bothX kSameI (bothX (kAll [c_rckMade]) (tabT aw3S0 8))))
def lmArgs (n p m : Int) : Array Value := #[.int .i64 n, .int .i64 p, .int .i64 m]
noncomputable def lm_1 (n p m : Int) : Option OutS := evFS Tryz.prog lmX 1000 3 (lmArgs n p m) aw3S0 ⟨[1, 1, 1, 1, 1, 1, 1, 1], True⟩
noncomputable def lm_2 (n p m : Int) : Option OutS := evFS Tryz.prog lmX 1000 3 (lmArgs n p m) aw3S0 ⟨[0, 0, 0, 0, 1, 1, 1, 1, 1, 1], True⟩
theorem lmX_ok : FOkS Tryz.prog lmX := bothX_ok kMade_ok (bothX_ok kRMade_ok (bothX_ok kSameI_ok (bothX_ok (kAll_ok _ ⟨k_rckMade, trivial⟩) (tabT_ok (by kernel_rfl) aw3_calls))))
section
variable (n p m : Int)
theorem lm_1eq : lm_1 n p m = some ((.bool true), wldOf (lm_1 n p m), 63, 0, ⟨[], (((((((((((True ∧ ((maErr n p m) = (Int.ofNat 0))) ∧ True) ∧ (((if ((Pl.cr n (1 : Int) (64 : Int)) ≠ (0 : Int)) then (3 : Int) else (if ((p < (0 : Int)) ∨ (n ≤ p)) then (10 : Int) else (Pl.cr m (1 : Int) (64 : Int)))) == (0 : Int)) = true)) ∧ (((0 : Int) < n) ∧ ((n ≤ (64 : Int)) ∧ (((0 : Int) ≤ p) ∧ ((p < n) ∧ (((0 : Int) ≤ m) ∧ (m ≤ (64 : Int)))))))) ∧ ((((Int.toNat n) = (Int.toNat n)) ∧ (∀ (i : Nat), ((i < (Int.toNat n)) → (∀ (j : Nat), ((j < (1 : Nat)) → ((Value.int .i64 (maV (Int.toNat n) p m i)) = (Value.int .i64 (gI (Value.int .i64 (maV (Int.toNat n) p m i)))))))))) ∧ ((((Int.toNat n) = (Int.toNat n)) ∧ (∀ (i : Nat), ((i < (Int.toNat n)) → (∀ (j : Nat), ((j < (1 : Nat)) → ((Value.int .i64 (maV (Int.toNat n) p m i)) = (Value.int .i64 (gI (Value.int .i64 (maV (Int.toNat n) p m i)))))))))) ∧ (((((Int.toNat n) : Nat)) : Int) ≤ (9223372036854775807 : Int))))) ∧ ((decide (((Int.toNat n) = (Int.toNat n)) ∧ (sameI (fun (i : Nat) => (fun (j : Nat) => (gI (Value.int .i64 (maV (Int.toNat n) p m i))))) (fun (i : Nat) => (fun (j : Nat) => (gI (Value.int .i64 (maV (Int.toNat n) p m i))))) (Int.toNat n)))) = true)) ∧ ((decide (((Int.toNat n) = (Int.toNat n)) ∧ (sameI (fun (i : Nat) => (fun (j : Nat) => (gI (Value.int .i64 (maV (Int.toNat n) p m i))))) (fun (i : Nat) => (fun (j : Nat) => (gI (Value.int .i64 (maV (Int.toNat n) p m i))))) (Int.toNat n)))) = true)) ∧ ((decide (((Int.toNat n) = (Int.toNat n)) ∧ (sameI (fun (i : Nat) => (fun (j : Nat) => (gI (Value.int .i64 (maV (Int.toNat n) p m i))))) (fun (i : Nat) => (fun (j : Nat) => (gI (Value.int .i64 (maV (Int.toNat n) p m i))))) (Int.toNat n)))) = true)) ∧ ((decide (((Int.toNat n) = (Int.toNat n)) ∧ (sameI (fun (i : Nat) => (fun (j : Nat) => (gI (Value.int .i64 (maV (Int.toNat n) p m i))))) (fun (i : Nat) => (fun (j : Nat) => (gI (Value.int .i64 (maV (Int.toNat n) p m i))))) (Int.toNat n)))) = true)) ∧ (((0 : Int) == (if ((Pl.cr n (1 : Int) (64 : Int)) ≠ (0 : Int)) then (3 : Int) else (if ((p < (0 : Int)) ∨ (n ≤ p)) then (10 : Int) else (Pl.cr m (1 : Int) (64 : Int))))) = true)) ∧ (((0 : Int) == (if ((Pl.cr n (1 : Int) (64 : Int)) ≠ (0 : Int)) then (3 : Int) else (if ((p < (0 : Int)) ∨ (n ≤ p)) then (10 : Int) else (Pl.cr m (1 : Int) (64 : Int))))) = true))⟩) := by kernel_rfl
theorem lm_2eq : lm_2 n p m = some ((.bool true), wldOf (lm_2 n p m), 63, 0, ⟨[], (((((((((((True ∧ ((maErr n p m) ≠ (0 : Int))) ∧ True) ∧ (((if ((Pl.cr n (1 : Int) (64 : Int)) ≠ (0 : Int)) then (3 : Int) else (if ((p < (0 : Int)) ∨ (n ≤ p)) then (10 : Int) else (Pl.cr m (1 : Int) (64 : Int)))) == (0 : Int)) = false)) ∧ (((((0 : Nat)) : Int) != (((0 : Nat)) : Int)) = false)) ∧ ((decide ((0 : Int) < (((0 : Nat)) : Int))) = false)) ∧ (true = true)) ∧ (true = true)) ∧ (true = true)) ∧ (true = true)) ∧ (((maErr n p m) == (if ((Pl.cr n (1 : Int) (64 : Int)) ≠ (0 : Int)) then (3 : Int) else (if ((p < (0 : Int)) ∨ (n ≤ p)) then (10 : Int) else (Pl.cr m (1 : Int) (64 : Int))))) = true)) ∧ (((maErr n p m) == (if ((Pl.cr n (1 : Int) (64 : Int)) ≠ (0 : Int)) then (3 : Int) else (if ((p < (0 : Int)) ∨ (n ≤ p)) then (10 : Int) else (Pl.cr m (1 : Int) (64 : Int))))) = true))⟩) := by kernel_rfl
end
theorem lmErr (n p m : Int) : maErr n p m = if Pl.cr n 1 64 ≠ 0 then 3 else if p < 0 ∨ n ≤ p then 10 else Pl.cr m 1 64 := by
  unfold maErr maU1 maU2 maU3 Pl.cr
  first | grind | ((repeat' split) <;> first | rfl | omega | simp_all)
theorem lm_true (n p m : Int) : ∃ s1 R, SndF Tryz.prog 3 (lmArgs n p m) aw3S0 (.bool true) s1 R 0 := by
  have hL := lmErr n p m
  by_cases hE : maErr n p m = 0
  · have hb : 0 < n ∧ n ≤ 64 ∧ 0 ≤ p ∧ p < n ∧ 0 ≤ m ∧ m ≤ 64 := by
      rw [hE] at hL
      by_cases h1 : Pl.cr n 1 64 = 0
      · rw [if_neg (by simpa using h1)] at hL
        by_cases h2 : p < 0 ∨ n ≤ p
        · rw [if_pos h2] at hL; cases hL
        · rw [if_neg h2] at hL
          have h3 := hL.symm
          unfold Pl.cr at h1 h3
          split at h1
          · cases h1
          · split at h3
            · cases h3
            · omega
      · rw [if_pos (by simpa using h1)] at hL; cases hL
    obtain ⟨b1, b2, b3, b4, b5, b6⟩ := hb
    exact ⟨_, _, (evFS_ok smx lmX_ok 1000 _ _ _ _ _ _ _ _ _ (show evFS _ _ _ _ _ _ _ = _ from lm_1eq n p m)).2 (by
      rw [hE] at hL
      repeat' (first | (with_reducible assumption) | apply And.intro)
      all_goals first | trivial | rfl | assumption | omega | exact (fun _ _ _ _ => rfl) | exact decide_eq_true ⟨rfl, fun _ _ => rfl⟩ | (rw [← hL]; first | rfl | exact hE | exact beq_iff_eq.2 hE | exact beq_iff_eq.2 rfl | exact beq_eq_false_iff_ne.2 hE) | exact beq_iff_eq.2 hL.symm | exact beq_iff_eq.2 hL)⟩
  · exact ⟨_, _, (evFS_ok smx lmX_ok 1000 _ _ _ _ _ _ _ _ _ (show evFS _ _ _ _ _ _ _ = _ from lm_2eq n p m)).2 (by
      repeat' (first | (with_reducible assumption) | apply And.intro)
      all_goals first | trivial | rfl | assumption | omega | exact (fun _ _ _ _ => rfl) | exact decide_eq_true ⟨rfl, fun _ _ => rfl⟩ | (rw [← hL]; first | rfl | exact hE | exact beq_iff_eq.2 hE | exact beq_iff_eq.2 rfl | exact beq_eq_false_iff_ne.2 hE) | exact beq_iff_eq.2 hL.symm | exact beq_iff_eq.2 hL)⟩
theorem lm_calls {W : World} (hh : Holds Tryz.prog aw3S0 W) (n p m : Int) : Calls Tryz.prog 3 #[.int .i64 n, .int .i64 p, .int .i64 m] W fun e W' => e = .returned (.bool true) ∧ Below W.heap.size W W' := by
  obtain ⟨s1, R, h⟩ := lm_true n p m
  exact calls_of h rfl rfl (fun b _ => by simp) hh
end Go.Proofs.YtnbgndccdbikpaaGreatDoor
end
section
namespace Go.Proofs.YtnbgndccdbikpaaGreatDoor
set_option linter.all false
open Go.ChangeShapes Go.WideShapes Go.RowKit
namespace Mini

def pairsK (g : TypeId → Option (List IntKind)) (P : Program) : Nat → List (Nat × TypeId) → Option (List IntKind)
  | _, [] => some []
  | off, x :: l => match g x.2 with
    | some ks => match (x.1 == off) && (P.cellsOf x.2 == ks.length) with
      | true => match pairsK g P (off + ks.length) l with
        | some r => some (ks ++ r)
        | none => none
      | false => none
    | none => none
def kindsT (P : Program) : Nat → TypeId → Option (List IntKind)
  | 0, _ => none
  | n + 1, t => match P.underlying t with
    | some (.int k) => some [k]
    | some (.array m e) => match pairsK (kindsT P n) P 0 ((List.range m).map fun i => (i * P.cellsOf e, e)) with
      | some ks => match P.cellsOf t == ks.length with
        | true => some ks
        | false => none
      | none => none
    | some (.struct fs) => match pairsK (kindsT P n) P 0 (fs.toList.map fun f => (f.offset, f.type)) with
      | some ks => match P.cellsOf t == ks.length with
        | true => some ks
        | false => none
      | none => none
    | _ => none
def wfs : List IntKind → List Int → Bool
  | k :: ks, n :: ns => (Lit.int k n).wf && wfs ks ns
  | _, _ => true
theorem backI_length : ∀ (ks : List IntKind) (ns : List Int), ns.length = ks.length → (backI ks ns).length = ks.length
  | [], [], _ => rfl
  | k :: ks, n :: ns, h => by simp only [backI, List.length_cons, backI_length ks ns (by simpa using h)]
  | [], n :: ns, h => by cases h
  | k :: ks, [], h => by cases h
theorem backI_append : ∀ (ks ks' : List IntKind) (ns ns' : List Int), ns.length = ks.length → backI (ks ++ ks') (ns ++ ns') = backI ks ns ++ backI ks' ns'
  | [], ks', [], ns', _ => rfl
  | k :: ks, ks', n :: ns, ns', h => by
    show Value.int k n :: backI (ks ++ ks') (ns ++ ns') = _
    rw [backI_append ks ks' ns ns' (by simpa using h)]
    rfl
  | [], ks', n :: ns, ns', h => by cases h
  | k :: ks, ks', [], ns', h => by cases h
theorem wfs_append : ∀ (ks ks' : List IntKind) (ns ns' : List Int), ns.length = ks.length → wfs ks ns = true → wfs ks' ns' = true → wfs (ks ++ ks') (ns ++ ns') = true
  | [], ks', [], ns', _, _, h => h
  | k :: ks, ks', n :: ns, ns', h, h1, h2 => by
    simp only [wfs, Bool.and_eq_true] at h1
    show ((Lit.int k n).wf && wfs (ks ++ ks') (ns ++ ns')) = true
    rw [h1.1, wfs_append ks ks' ns ns' (by simpa using h) h1.2 h2]
    rfl
  | [], ks', n :: ns, ns', h, _, _ => by cases h
  | k :: ks, ks', [], ns', h, _, _ => by cases h
theorem mapM_map' {α β γ : Type} (f : α → β) (g : β → Option γ) : ∀ l : List α, (l.map f).mapM g = l.mapM fun a => g (f a)
  | [] => rfl
  | a :: l => by simp [List.mapM_cons, mapM_map' f g l]

section
variable {H : Type} {enc : TypeId × Value → H} {P : Program}

/-- What opening a value of such a type says. -/
def Flat (enc : TypeId × Value → H) (P : Program) (fuel : Nat) (t : TypeId) (cs : List Value) (d : DataW H) (ks : List IntKind) : Prop :=
  ∃ ns, ns.length = ks.length ∧ cs = backI ks ns ∧ wfs ks ns = true ∧ ∀ w b sp held, DataW.trod enc P w b sp held fuel t cs = some (d, [])
theorem flat_pairs {n fuel : Nat} (IH : ∀ (t : TypeId) (ks : List IntKind), kindsT P n t = some ks → ∀ (cs : List Value) (d : DataW H) (p : List MemPlace) w b sp held, DataW.trod enc P w b sp held fuel t cs = some (d, p) → p = [] ∧ Flat enc P fuel t cs d ks) :
    ∀ (L : List (Nat × TypeId)) (off : Nat) (ks : List IntKind) (cs : List Value) (xs : List (DataW H × List MemPlace)) (w : World) (b : Nat) (sp : Nat → Bool) (held : Bool), pairsK (kindsT P n) P off L = some ks → off + ks.length ≤ cs.length →
      L.mapM (fun x => DataW.trod enc P w b sp held fuel x.2 ((cs.drop x.1).take (P.cellsOf x.2))) = some xs →
      xs.flatMap (·.2) = [] ∧ ∃ ns, ns.length = ks.length ∧ (cs.drop off).take ks.length = backI ks ns ∧ wfs ks ns = true ∧ ∀ w b sp held, L.mapM (fun x => DataW.trod enc P w b sp held fuel x.2 ((cs.drop x.1).take (P.cellsOf x.2))) = some xs
  | [], off, ks, cs, xs, w, b, sp, held, hk, hl, hm => by
    cases hk
    simp at hm
    subst hm
    exact ⟨rfl, [], rfl, by simp [backI], rfl, fun _ _ _ _ => rfl⟩
  | x :: L, off, ks, cs, xs, w, b, sp, held, hk, hl, hm => by
    simp only [pairsK] at hk
    split at hk
    · rename_i ks1 hk1
      split at hk
      · rename_i hc
        simp only [Bool.and_eq_true, beq_iff_eq] at hc
        obtain ⟨hx, hcell⟩ := hc
        split at hk
        · rename_i r hr
          cases hk
          simp only [List.length_append] at hl
          simp only [List.mapM_cons, Option.bind_eq_bind, Option.bind_eq_some_iff, Option.pure_def, Option.some.injEq] at hm
          obtain ⟨y, hy, ys, hys, rfl⟩ := hm
          obtain ⟨d, p⟩ := y
          obtain ⟨rfl, ns1, l1, c1, f1, t1⟩ := IH x.2 ks1 hk1 _ d p w b sp held hy
          obtain ⟨e2, ns2, l2, c2, f2, t2⟩ := flat_pairs IH L (off + ks1.length) r cs ys w b sp held hr (by omega) hys
          refine ⟨by simpa using e2, ns1 ++ ns2, by simp [l1, l2], ?_, wfs_append _ _ _ _ l1 f1 f2, fun w' b' sp' held' => ?_⟩
          · rw [backI_append _ _ _ _ l1, ← c2, List.length_append, List.take_add, List.drop_drop]
            rw [hx, hcell] at c1
            rw [c1]
          · simp only [List.mapM_cons, Option.bind_eq_bind, Option.pure_def]
            rw [t1 w' b' sp' held', t2 w' b' sp' held']
            rfl
        · cases hk
      · cases hk
    · cases hk
theorem open_kinds : ∀ (n : Nat) (t : TypeId) (ks : List IntKind), kindsT P n t = some ks → ∀ (fuel : Nat) (cs : List Value) (d : DataW H) (p : List MemPlace) w b sp held, DataW.trod enc P w b sp held fuel t cs = some (d, p) → p = [] ∧ Flat enc P fuel t cs d ks
  | 0, t, ks, hk, fuel, cs, d, p, w, b, sp, held, h => by cases hk
  | n + 1, t, ks, hk, fuel, cs, d, p, w, b, sp, held, h => by
    cases fuel with
    | zero => simp [DataW.trod] at h
    | succ fuel =>
      simp only [kindsT] at hk
      split at hk
      · rename_i k ht
        cases hk
        obtain ⟨z, rfl, hx, hw⟩ := DataW.trod_int ht h
        cases hx
        refine ⟨rfl, [z], rfl, rfl, by simp [wfs, hw], fun w' b' sp' held' => ?_⟩
        simp [DataW.trod, ht, hw]
      · rename_i m e ht
        split at hk
        · rename_i ks' hk'
          split at hk
          · rename_i hc
            cases hk
            have hc := beq_iff_eq.1 hc
            simp only [DataW.trod, ht] at h
            split at h
            · rename_i hl
              obtain ⟨xs, hm, hx⟩ := Option.map_eq_some_iff.1 h
              have hm2 : ((List.range m).map fun i => (i * P.cellsOf e, e)).mapM (fun x => DataW.trod enc P w b sp held fuel x.2 ((cs.drop x.1).take (P.cellsOf x.2))) = some xs := by rw [mapM_map']; exact hm
              obtain ⟨e1, ns, l1, c1, f1, t1⟩ := flat_pairs (fun t ks hk cs d p w b sp held h => open_kinds n t ks hk fuel cs d p w b sp held h) _ 0 ks cs xs w b sp held hk' (by omega) hm2
              simp only [Prod.mk.injEq] at hx
              obtain ⟨rfl, rfl⟩ := hx
              refine ⟨e1, ns, l1, ?_, f1, fun w' b' sp' held' => ?_⟩
              · rw [← c1, List.drop_zero, List.take_of_length_le (by omega)]
              · have := t1 w' b' sp' held'
                rw [mapM_map'] at this
                simp only [DataW.trod, ht, if_pos hl]
                rw [this]
                simp [e1]
            · cases h
          · cases hk
        · cases hk
      · rename_i fs ht
        split at hk
        · rename_i ks' hk'
          split at hk
          · rename_i hc
            cases hk
            have hc := beq_iff_eq.1 hc
            simp only [DataW.trod, ht] at h
            split at h
            · rename_i hl
              obtain ⟨xs, hm, hx⟩ := Option.map_eq_some_iff.1 h
              have hm2 : (fs.toList.map fun f => (f.offset, f.type)).mapM (fun x => DataW.trod enc P w b sp held fuel x.2 ((cs.drop x.1).take (P.cellsOf x.2))) = some xs := by rw [mapM_map']; exact hm
              obtain ⟨e1, ns, l1, c1, f1, t1⟩ := flat_pairs (fun t ks hk cs d p w b sp held h => open_kinds n t ks hk fuel cs d p w b sp held h) _ 0 ks cs xs w b sp held hk' (by omega) hm2
              simp only [Prod.mk.injEq] at hx
              obtain ⟨rfl, rfl⟩ := hx
              refine ⟨e1, ns, l1, ?_, f1, fun w' b' sp' held' => ?_⟩
              · rw [← c1, List.drop_zero, List.take_of_length_le (by omega)]
              · have := t1 w' b' sp' held'
                rw [mapM_map'] at this
                simp only [DataW.trod, ht, if_pos hl]
                rw [this]
                simp [e1]
            · cases h
          · cases hk
        · cases hk
      · cases hk
/-- An array or a struct of integers. -/
def isRow (P : Program) (t : TypeId) : Bool := match P.underlying t with
  | some (.struct _) | some (.array _ _) => true
  | _ => false
theorem open_agg {w : World} {base b0 n : Nat} {spare : Nat → Bool} {held : Bool} {r : Reach} {t : TypeId} {v : Value} {d : DataW H} {ps : List MemPlace} {ks : List IntKind} (hr : isRow P t = true) (hk : kindsT P n t = some ks) (hval : Value.okWide P w r b0 t v) (hd : DataW.Trod enc P w base spare held t v d ps) :
    ∃ ns, ns.length = ks.length ∧ v = .agg (backI ks ns).toArray ∧ ps = [] ∧ wfs ks ns = true ∧ ∀ w b sp held, DataW.Trod enc P w b sp held t v d [] := by
  obtain ⟨cs, rfl⟩ : ∃ cs, v = .agg cs := by
    unfold isRow at hr
    unfold Value.okWide at hval
    split at hr
    · rename_i h; rw [h] at hval; obtain ⟨cs, h1, _⟩ := hval; exact ⟨cs, h1⟩
    · rename_i h; rw [h] at hval; obtain ⟨cs, h1, _⟩ := hval; exact ⟨cs, h1⟩
    · cases hr
  obtain ⟨fuel, hf⟩ := hd
  obtain ⟨rfl, ns, l1, c1, f1, t1⟩ := open_kinds n t ks hk fuel _ d ps w base spare held hf
  refine ⟨ns, l1, ?_, rfl, f1, fun w b sp held => ⟨fuel, t1 w b sp held⟩⟩
  congr 1
  apply Array.ext'
  simpa [Value.cells] using c1
theorem open_num {w : World} {base b0 : Nat} {spare : Nat → Bool} {held : Bool} {r : Reach} {t : TypeId} {k : IntKind} {v : Value} {d : DataW H} {ps : List MemPlace} (ht : P.underlying t = some (.int k)) (hval : Value.okWide P w r b0 t v) (hd : DataW.Trod enc P w base spare held t v d ps) :
    ∃ n, v = .int k n ∧ ps = [] ∧ (Lit.int k n).wf = true ∧ ∀ w b sp held, DataW.Trod enc P w b sp held t v d [] := by
  obtain ⟨n, rfl, rfl, rfl, hw⟩ := open_int ht hval hd
  exact ⟨n, rfl, rfl, hw, fun w b sp held => shut_int ht hw⟩
end
theorem bounds_i64 {n : Int} (h : (Lit.int .i64 n).wf = true) : -9223372036854775808 ≤ n ∧ n ≤ 9223372036854775807 := by
  simp [Lit.wf, IntKind.min, IntKind.max, IntKind.signed, IntKind.bits] at h
  omega
end Mini
end Go.Proofs.YtnbgndccdbikpaaGreatDoor
end
section
namespace Go.Proofs.YtnbgndccdbikpaaGreatDoor
set_option linter.all false
open Go.ChangeShapes Go.WideShapes Go.ChangeAt Go.RowKit

section
variable {H : Type} {enc : TypeId × Value → H} {P : Program}
/-- What a law's row asks behind a call that changed nothing that was there. -/
theorem post_below {f : Func} {s : ChangeSpec} {W W' : World} {args : Array Value} {v : Value} {ds gs : List (DataW H)} {ps pa pv : List MemPlace} {apart fresh handsOn again : Bool} (hw : DataW.Whole enc P f.params.toList s.vars apart W args.toList ds gs ps)
    (ok : ∀ (j : Nat) (t : TypeId) (r : Value), f.resultTypes[j]? = some t → (v.resultList f.resultTypes.size)[j]? = some r → Value.okWide P W' .any 0 t r)
    (res : ∀ (b : Nat) (sp : Nat → Bool) (hd : Bool), DataW.TrodAll enc P W' b sp hd f.resultTypes.toList (v.resultList f.resultTypes.size) (s.fn H (ds ++ gs)).results [])
    (arg : ∀ sp : Nat → Bool, (∀ p ∈ ps, sp p.block = true) → DataW.TrodAll enc P W' 0 sp true f.params.toList args.toList (s.fn H (ds ++ gs)).args pa)
    (vrs : ∀ sp : Nat → Bool, (∀ p ∈ ps, sp p.block = true) → DataW.TrodVars enc P W' sp s.vars (s.fn H (ds ++ gs)).vars pv)
    (hps : ps = pa ++ pv) (hb : Below W.heap.size W W') : s.post enc P f apart fresh handsOn again W args v W' := by
  have hb' := hb
  have lt : ∀ p ∈ ps, p.block < W.heap.size := fun p hp => hw.lt p hp
  have old : ∀ p ∈ ps, (fun b => decide (b < W.heap.size)) p.block = true := fun p hp => by simpa using lt p hp
  have whole := hw
  obtain ⟨_, _, _, _, _, hz, hn⟩ := hw
  subst hps
  refine ⟨ds, gs, pa ++ pv, [], pa, pv, whole, res _ _ _, arg _ old, vrs _ old, World.keptBut_mono (fun p hp => ⟨hp, Or.inr (List.mem_append.1 hp)⟩) (hb'.frame (· ∈ pa ++ pv)), fun _ => ⟨ok, _, _, ([] ++ pa) ++ pv, ⟨[] ++ pa, pv, trodAll_append (arg _ (fun _ _ => rfl)) (res _ _ _), vrs _ (fun _ _ => rfl), rfl, fun b off hp => ?_, fun ha => ?_⟩, fun p hp _ => ?_⟩⟩
  · have hin : MemPlace.cell b off ∈ pa ++ pv := by simpa using hp
    exact (hb'.frozen (lt _ hin)).trans (hz b off hin)
  · simpa using hn ha
  · simpa using hp
end

section
open Go.Lib

theorem trod_lit {H : Type} {enc : TypeId × Value → H} {P : Program} {w : World} {base : Nat} {sp : Nat → Bool} {held : Bool} {fuel : Nat} {t : TypeId} {k : IntKind} {z : Int} {cs : List Value} {p : List MemPlace}
    (ht : P.underlying t = some (.int k)) (h : DataW.trod enc P w base sp held fuel t cs = some (.lit (.int k z), p)) : cs = [.int k z] := by
  obtain ⟨z', hc, hd, _⟩ := DataW.trod_int ht h
  cases hd
  exact hc
theorem cells_of_pairs {H : Type} {enc : TypeId × Value → H} {P : Program} {w : World} {base : Nat} {sp : Nat → Bool} {held : Bool} {fuel : Nat} {t e : TypeId} {n : Nat} {k : IntKind} {cs : List Value} {zs : List (Int × Int)} {p : List MemPlace} {fs : Array Field} {f0 f1 : Field}
    (ht : P.underlying t = some (.array n e)) (he : P.underlying e = some (.struct fs)) (hfs : fs.toList = [f0, f1]) (h0 : f0.offset = 0) (h1 : f1.offset = 1) (k0 : P.underlying f0.type = some (.int k)) (k1 : P.underlying f1.type = some (.int k))
    (c0 : P.cellsOf f0.type = 1) (c1 : P.cellsOf f1.type = 1) (hce : P.cellsOf e = 2)
    (h : DataW.trod enc P w base sp held fuel t cs = some (.agg (zs.map fun z => .agg [.lit (.int k z.1), .lit (.int k z.2)]), p)) :
    ∀ (i : Nat) (z : Int × Int), zs[i]? = some z → cs[i * 2]? = some (.int k z.1) ∧ cs[i * 2 + 1]? = some (.int k z.2) := by
  cases fuel with
  | zero => simp [DataW.trod] at h
  | succ fuel =>
    simp only [DataW.trod, ht, hce] at h
    split at h
    · rename_i hl
      obtain ⟨xs, hm, hx⟩ := Option.map_eq_some_iff.1 h
      have hxs : xs.map (·.1) = zs.map fun z => (DataW.agg [.lit (.int k z.1), .lit (.int k z.2)] : DataW H) := by
        have := congrArg Prod.fst hx
        simpa using this
      have hxl : xs.length = n := by simpa using mapM_length hm
      have hzl : zs.length = n := by
        have := congrArg List.length hxs
        simp at this
        omega
      intro i z hz
      have hi : i < n := by
        have := (List.getElem?_eq_some_iff.1 hz).1
        omega
      obtain ⟨b, hb, hf⟩ := mapM_at hm i i (by simp [hi])
      have h2 : (xs.map (·.1))[i]? = some b.1 := by simp [hb]
      rw [hxs] at h2
      simp only [List.getElem?_map, hz, Option.map_some, Option.some.injEq] at h2
      cases fuel with
      | zero => simp [DataW.trod] at hf
      | succ fuel =>
        simp only [DataW.trod, he] at hf
        split at hf
        · obtain ⟨ys, hy, hyb⟩ := Option.map_eq_some_iff.1 hf
          rw [hfs] at hy
          simp only [List.mapM_cons, List.mapM_nil, Option.bind_eq_bind, Option.bind_eq_some_iff, Option.pure_def, Option.some.injEq] at hy
          obtain ⟨y0, e0, l1, ⟨y1, e1, l2, rfl, rfl⟩, rfl⟩ := hy
          have hb1 := congrArg Prod.fst hyb
          simp only [List.map_cons, List.map_nil] at hb1
          rw [← h2] at hb1
          simp only [DataW.agg.injEq, List.cons.injEq, and_true] at hb1
          obtain ⟨q0, q1⟩ := hb1
          obtain ⟨d0, p0⟩ := y0
          obtain ⟨d1, p1⟩ := y1
          simp only at q0 q1
          subst q0 q1
          have g0 := trod_lit k0 e0
          have g1 := trod_lit k1 e1
          rw [h0, c0] at g0
          rw [h1, c1] at g1
          have a0 := congrArg (·[0]?) g0
          have a1 := congrArg (·[0]?) g1
          simp [List.getElem?_take, List.getElem?_drop] at a0 a1
          exact ⟨by simpa using a0, by simpa using a1⟩
        · cases hf
    · cases h
end
/-- A table of pairs on a row's list. -/
theorem pairs_of_laid {P : Program} {W : World} {name : String} {k : IntKind} {zs : List (Int × Int)} {g : Nat} {t e : TypeId} {n : Nat} {fs : Array Field} {f0 f1 : Field}
    (hg : P.globalNamed name = some g) (hty : (P.globals[g]?).map (·.type) = some t) (ht : P.underlying t = some (.array n e)) (he : P.underlying e = some (.struct fs)) (hfs : fs.toList = [f0, f1]) (h0 : f0.offset = 0) (h1 : f1.offset = 1) (k0 : P.underlying f0.type = some (.int k)) (k1 : P.underlying f1.type = some (.int k))
    (c0 : P.cellsOf f0.type = 1) (c1 : P.cellsOf f1.type = 1) (hce : P.cellsOf e = 2)
    (h : laidMet P [(name, .agg (zs.map fun z => .agg [.lit (.int k z.1), .lit (.int k z.2)]))] W) (i : Nat) (z : Int × Int) (hz : zs[i]? = some z) :
    W.cell? ⟨g, i * 2, none⟩ = some (.int k z.1) ∧ W.cell? ⟨g, i * 2 + 1, none⟩ = some (.int k z.2) := by
  obtain ⟨ps, ⟨g', t', cs, fuel, p, q, hg', ht', hvar, hd, _, _⟩, _⟩ := h
  obtain rfl := Option.some.inj (hg.symm.trans hg')
  obtain rfl := Option.some.inj (hty.symm.trans ht')
  obtain ⟨a, b⟩ := cells_of_pairs ht he hfs h0 h1 k0 k1 c0 c1 hce hd i z hz
  have r0 := World.var?_cell hg hvar (i * 2)
  have r1 := World.var?_cell hg hvar (i * 2 + 1)
  constructor
  · rw [r0]; simpa using a
  · rw [r1]; simpa using b
end Go.Proofs.YtnbgndccdbikpaaGreatDoor
end
section
namespace Go.Proofs.YtnbgndccdbikpaaGreatDoor
set_option linter.all false
open Go.ChangeShapes Go.WideShapes Go.ChangeAt Go.RowKit Go.Lib
theorem trod_pair {H : Type} {enc : TypeId × Value → H} {P : Program} {w : World} {base : Nat} {sp : Nat → Bool} {held : Bool} {fuel : Nat} {e : TypeId} {k : IntKind} {cs : List Value} {x y : Int} {p : List MemPlace} {fs : Array Field} {f0 f1 : Field}
    (he : P.underlying e = some (.struct fs)) (hfs : fs.toList = [f0, f1]) (h0 : f0.offset = 0) (h1 : f1.offset = 1) (k0 : P.underlying f0.type = some (.int k)) (k1 : P.underlying f1.type = some (.int k))
    (c0 : P.cellsOf f0.type = 1) (c1 : P.cellsOf f1.type = 1) (h : DataW.trod enc P w base sp held fuel e cs = some (.agg [.lit (.int k x), .lit (.int k y)], p)) : cs[0]? = some (.int k x) ∧ cs[1]? = some (.int k y) := by
  cases fuel with
  | zero => simp [DataW.trod] at h
  | succ fuel =>
    simp only [DataW.trod, he] at h
    split at h
    · obtain ⟨ys, hy, hyb⟩ := Option.map_eq_some_iff.1 h
      rw [hfs] at hy
      simp only [List.mapM_cons, List.mapM_nil, Option.bind_eq_bind, Option.bind_eq_some_iff, Option.pure_def, Option.some.injEq] at hy
      obtain ⟨y0, e0, l1, ⟨y1, e1, l2, rfl, rfl⟩, rfl⟩ := hy
      have hb1 := congrArg Prod.fst hyb
      simp only [List.map_cons, List.map_nil] at hb1
      simp only [DataW.agg.injEq, List.cons.injEq, and_true] at hb1
      obtain ⟨q0, q1⟩ := hb1
      obtain ⟨d0, p0⟩ := y0
      obtain ⟨d1, p1⟩ := y1
      simp only at q0 q1
      subst q0 q1
      have g0 := trod_lit k0 e0
      have g1 := trod_lit k1 e1
      rw [h0, c0] at g0
      rw [h1, c1] at g1
      have a0 := congrArg (·[0]?) g0
      have a1 := congrArg (·[0]?) g1
      simp [List.getElem?_take, List.getElem?_drop] at a0 a1
      exact ⟨by simpa using a0, by simpa using a1⟩
    · cases h
def quadD {H : Type} (k : IntKind) (z : Int × Int × Int × Int) : DataW H := .agg [.agg [.lit (.int k z.1), .lit (.int k z.2.1)], .agg [.lit (.int k z.2.2.1), .lit (.int k z.2.2.2)]]
theorem trod_quad {H : Type} {enc : TypeId × Value → H} {P : Program} {w : World} {base : Nat} {sp : Nat → Bool} {held : Bool} {fuel : Nat} {t e : TypeId} {k : IntKind} {cs : List Value} {z : Int × Int × Int × Int} {p : List MemPlace} {gs : Array Field} {g0 g1 : Field} {fs : Array Field} {f0 f1 : Field}
    (ht : P.underlying t = some (.struct gs)) (hgs : gs.toList = [g0, g1]) (o0 : g0.offset = 0) (o1 : g1.offset = 2) (t0 : g0.type = e) (t1 : g1.type = e) (ce : P.cellsOf e = 2)
    (he : P.underlying e = some (.struct fs)) (hfs : fs.toList = [f0, f1]) (h0 : f0.offset = 0) (h1 : f1.offset = 1) (k0 : P.underlying f0.type = some (.int k)) (k1 : P.underlying f1.type = some (.int k))
    (c0 : P.cellsOf f0.type = 1) (c1 : P.cellsOf f1.type = 1) (h : DataW.trod enc P w base sp held fuel t cs = some (quadD k z, p)) :
    cs[0]? = some (.int k z.1) ∧ cs[1]? = some (.int k z.2.1) ∧ cs[2]? = some (.int k z.2.2.1) ∧ cs[3]? = some (.int k z.2.2.2) := by
  unfold quadD at h
  cases fuel with
  | zero => simp [DataW.trod] at h
  | succ fuel =>
    simp only [DataW.trod, ht] at h
    split at h
    · obtain ⟨ys, hy, hyb⟩ := Option.map_eq_some_iff.1 h
      rw [hgs] at hy
      simp only [List.mapM_cons, List.mapM_nil, Option.bind_eq_bind, Option.bind_eq_some_iff, Option.pure_def, Option.some.injEq] at hy
      obtain ⟨y0, e0, l1, ⟨y1, e1, l2, rfl, rfl⟩, rfl⟩ := hy
      have hb1 := congrArg Prod.fst hyb
      simp only [List.map_cons, List.map_nil] at hb1
      simp only [DataW.agg.injEq, List.cons.injEq, and_true] at hb1
      obtain ⟨q0, q1⟩ := hb1
      obtain ⟨d0, p0⟩ := y0
      obtain ⟨d1, p1⟩ := y1
      simp only at q0 q1
      subst q0 q1
      rw [t0] at e0
      rw [t1] at e1
      have a := trod_pair he hfs h0 h1 k0 k1 c0 c1 e0
      have b := trod_pair he hfs h0 h1 k0 k1 c0 c1 e1
      rw [o0, ce] at a
      rw [o1, ce] at b
      simp [List.getElem?_take, List.getElem?_drop] at a b
      exact ⟨by simpa using a.1, by simpa using a.2, by simpa using b.1, by simpa using b.2⟩
    · cases h
theorem cells_of_quads {H : Type} {enc : TypeId × Value → H} {P : Program} {w : World} {base : Nat} {sp : Nat → Bool} {held : Bool} {fuel : Nat} {u t e : TypeId} {n : Nat} {k : IntKind} {cs : List Value} {zs : List (Int × Int × Int × Int)} {p : List MemPlace} {gs : Array Field} {g0 g1 : Field} {fs : Array Field} {f0 f1 : Field}
    (hu : P.underlying u = some (.array n t)) (ht : P.underlying t = some (.struct gs)) (hgs : gs.toList = [g0, g1]) (o0 : g0.offset = 0) (o1 : g1.offset = 2) (t0 : g0.type = e) (t1 : g1.type = e) (ce : P.cellsOf e = 2) (ct : P.cellsOf t = 4)
    (he : P.underlying e = some (.struct fs)) (hfs : fs.toList = [f0, f1]) (h0 : f0.offset = 0) (h1 : f1.offset = 1) (k0 : P.underlying f0.type = some (.int k)) (k1 : P.underlying f1.type = some (.int k))
    (c0 : P.cellsOf f0.type = 1) (c1 : P.cellsOf f1.type = 1)
    (h : DataW.trod enc P w base sp held fuel u cs = some (.agg (zs.map (quadD k)), p)) :
    ∀ (i : Nat) (z : Int × Int × Int × Int), zs[i]? = some z → cs[i * 4]? = some (.int k z.1) ∧ cs[i * 4 + 1]? = some (.int k z.2.1) ∧ cs[i * 4 + 2]? = some (.int k z.2.2.1) ∧ cs[i * 4 + 3]? = some (.int k z.2.2.2) := by
  cases fuel with
  | zero => simp [DataW.trod] at h
  | succ fuel =>
    simp only [DataW.trod, hu, ct] at h
    split at h
    · rename_i hl
      obtain ⟨xs, hm, hx⟩ := Option.map_eq_some_iff.1 h
      have hxs : xs.map (·.1) = zs.map (quadD (H := H) k) := by
        have := congrArg Prod.fst hx
        simpa using this
      have hxl : xs.length = n := by simpa using mapM_length hm
      have hzl : zs.length = n := by
        have := congrArg List.length hxs
        simp at this
        omega
      intro i z hz
      have hi : i < n := by
        have := (List.getElem?_eq_some_iff.1 hz).1
        omega
      obtain ⟨b, hb, hf⟩ := mapM_at hm i i (by simp [hi])
      have h2 : (xs.map (·.1))[i]? = some b.1 := by simp [hb]
      rw [hxs] at h2
      simp only [List.getElem?_map, hz, Option.map_some, Option.some.injEq] at h2
      obtain ⟨bd, bp⟩ := b
      simp only at h2
      subst h2
      have a := trod_quad ht hgs o0 o1 t0 t1 ce he hfs h0 h1 k0 k1 c0 c1 hf
      simp [List.getElem?_take, List.getElem?_drop] at a
      exact ⟨by simpa using a.1, by simpa using a.2.1, by simpa using a.2.2.1, by simpa using a.2.2.2⟩
    · cases h
theorem quads_of_laid {P : Program} {W : World} {name : String} {k : IntKind} {zs : List (Int × Int × Int × Int)} {g : Nat} {u t e : TypeId} {n : Nat} {gs : Array Field} {g0 g1 : Field} {fs : Array Field} {f0 f1 : Field}
    (hg : P.globalNamed name = some g) (hty : (P.globals[g]?).map (·.type) = some u)
    (hu : P.underlying u = some (.array n t)) (ht : P.underlying t = some (.struct gs)) (hgs : gs.toList = [g0, g1]) (o0 : g0.offset = 0) (o1 : g1.offset = 2) (t0 : g0.type = e) (t1 : g1.type = e) (ce : P.cellsOf e = 2) (ct : P.cellsOf t = 4)
    (he : P.underlying e = some (.struct fs)) (hfs : fs.toList = [f0, f1]) (h0 : f0.offset = 0) (h1 : f1.offset = 1) (k0 : P.underlying f0.type = some (.int k)) (k1 : P.underlying f1.type = some (.int k))
    (c0 : P.cellsOf f0.type = 1) (c1 : P.cellsOf f1.type = 1)
    (h : laidMet P [(name, .agg (zs.map (quadD k)))] W) (i : Nat) (z : Int × Int × Int × Int) (hz : zs[i]? = some z) :
    W.cell? ⟨g, i * 4, none⟩ = some (.int k z.1) ∧ W.cell? ⟨g, i * 4 + 1, none⟩ = some (.int k z.2.1) ∧ W.cell? ⟨g, i * 4 + 2, none⟩ = some (.int k z.2.2.1) ∧ W.cell? ⟨g, i * 4 + 3, none⟩ = some (.int k z.2.2.2) := by
  obtain ⟨ps, ⟨g', t', cs, fuel, p, q, hg', ht', hvar, hd, _, _⟩, _⟩ := h
  obtain rfl := Option.some.inj (hg.symm.trans hg')
  obtain rfl := Option.some.inj (hty.symm.trans ht')
  obtain ⟨a, b, c, d⟩ := cells_of_quads hu ht hgs o0 o1 t0 t1 ce ct he hfs h0 h1 k0 k1 c0 c1 hd i z hz
  have r0 := World.var?_cell hg hvar (i * 4)
  have r1 := World.var?_cell hg hvar (i * 4 + 1)
  have r2 := World.var?_cell hg hvar (i * 4 + 2)
  have r3 := World.var?_cell hg hvar (i * 4 + 3)
  exact ⟨by rw [r0]; simpa using a, by rw [r1]; simpa using b, by rw [r2]; simpa using c, by rw [r3]; simpa using d⟩
end Go.Proofs.YtnbgndccdbikpaaGreatDoor
end
section
namespace Go.Proofs.YtnbgndccdbikpaaGreatDoor
set_option linter.all false
open Go.ChangeShapes Go.WideShapes Go.ChangeAt Go.RowKit
section
open Go.Lib
theorem cells_of_strs {H : Type} {enc : TypeId × Value → H} {P : Program} {w : World} {base : Nat} {sp : Nat → Bool} {held : Bool} {fuel : Nat} {t e : TypeId} {n : Nat} {cs : List Value} {zs : List (List UInt8)} {p : List MemPlace}
    (ht : P.underlying t = some (.array n e)) (he : P.underlying e = some .string) (hce : P.cellsOf e = 1)
    (h : DataW.trod enc P w base sp held fuel t cs = some (.agg (zs.map fun z => .lit (.string z)), p)) (i : Nat) (z : List UInt8) (hz : zs[i]? = some z) : cs[i]? = some (.string ⟨z.toArray⟩) := by
  cases fuel with
  | zero => simp [DataW.trod] at h
  | succ fuel =>
    simp only [DataW.trod, ht, hce, Nat.mul_one] at h
    split at h
    · rename_i hl
      obtain ⟨xs, hm, hx⟩ := Option.map_eq_some_iff.1 h
      have hxs : xs.map (·.1) = zs.map fun z => (DataW.lit (.string z) : DataW H) := by
        have := congrArg Prod.fst hx
        simpa using this
      have hxl : xs.length = n := by simpa using mapM_length hm
      have hzl : zs.length = n := by
        have := congrArg List.length hxs
        simp at this
        omega
      have hi : i < n := by
        have := (List.getElem?_eq_some_iff.1 hz).1
        omega
      obtain ⟨b, hb, hf⟩ := mapM_at hm i i (by simp [hi])
      obtain ⟨s, hc, rfl, _⟩ := DataW.trod_string he hf
      have h1 : cs[i]? = some (.string s) := by
        have := congrArg (·[0]?) hc
        simpa [List.getElem?_take, List.getElem?_drop] using this
      have h2 : (xs.map (·.1))[i]? = some (DataW.lit (.string s.data.toList) : DataW H) := by simp [hb]
      rw [hxs] at h2
      simp only [List.getElem?_map, hz, Option.map_some, Option.some.injEq, DataW.lit.injEq, Lit.string.injEq] at h2
      subst h2
      exact h1
    · cases h
end
/-- A table of strings on a row's list. -/
theorem strs_of_laid {P : Program} {W : World} {name : String} {zs : List (List UInt8)} {g : Nat} {t e : TypeId} {n : Nat}
    (hg : P.globalNamed name = some g) (hty : (P.globals[g]?).map (·.type) = some t) (ht : P.underlying t = some (.array n e)) (he : P.underlying e = some .string) (hce : P.cellsOf e = 1)
    (h : laidMet P [(name, .agg (zs.map fun z => .lit (.string z)))] W) (i : Nat) (z : List UInt8) (hz : zs[i]? = some z) : W.cell? ⟨g, i, none⟩ = some (.string ⟨z.toArray⟩) := by
  obtain ⟨ps, ⟨g', t', cs, fuel, p, q, hg', ht', hvar, hd, _, _⟩, _⟩ := h
  obtain rfl := Option.some.inj (hg.symm.trans hg')
  obtain rfl := Option.some.inj (hty.symm.trans ht')
  have r0 := World.var?_cell hg hvar i
  rw [r0]
  simpa using cells_of_strs ht he hce hd i z hz
end Go.Proofs.YtnbgndccdbikpaaGreatDoor
end
section
set_option linter.all false
namespace Go.Proofs.YtnbgndccdbikpaaGreatDoor.loopMade
open Go.ChangeShapes Go.WideShapes Go.ChangeAt Go.RowKit Mini

theorem own : ownKnob Tryz.prog.godebug = none := by kernel_rfl
theorem gt0N : Tryz.prog.globalNamed "bipole/loop.quarters" = some 0 := by kernel_rfl
theorem gt0T : (Tryz.prog.globals[0]?).map (·.type) = some 86 := by kernel_rfl
def t0 : List (Int × Int) := [(1, 0), (0, 1), (-1, 0), (0, -1)]
theorem onet0 : (Rows.loopMadeRow.laid.filter fun x => x.1 == "bipole/loop.quarters") = [("bipole/loop.quarters", .agg (t0.map fun z => .agg [.lit (.int .i64 z.1), .lit (.int .i64 z.2)]))] := by kernel_rfl
theorem cellst0 {W : World} (h : laidMetH Tryz.prog Rows.loopMadeRow.laid W) (i : Nat) (z : Int × Int) (hz : t0[i]? = some z) : W.cell? ⟨0, i * 2, none⟩ = some (.int .i64 z.1) ∧ W.cell? ⟨0, i * 2 + 1, none⟩ = some (.int .i64 z.2) := by
  have h1 := laidMetH.filter (P := Tryz.prog) (fun x => x.1 == "bipole/loop.quarters") h
  rw [onet0] at h1
  exact pairs_of_laid gt0N gt0T Tryz.underlying86 Tryz.underlying43 rfl rfl rfl Tryz.underlying3 Tryz.underlying3 (by kernel_rfl) (by kernel_rfl) (by kernel_rfl) h1 i z hz
theorem s0t0 : aw3S0.get 0 = .cells ((t0.flatMap fun z => [z.1, z.2]).map fun n => Value.int .i64 n) 86 true 0 true := by kernel_rfl
theorem gt1N : Tryz.prog.globalNamed "bipole/loop.words" = some 1 := by kernel_rfl
theorem gt1T : (Tryz.prog.globals[1]?).map (·.type) = some 110 := by kernel_rfl
def t1 : List (List UInt8) := [[112, 108, 97, 110, 116, 110, 117, 109], [112, 108, 97, 110, 116, 100, 101, 110], [99, 111, 110, 116, 114, 111, 108, 108, 101, 114, 110, 117, 109], [99, 111, 110, 116, 114, 111, 108, 108, 101, 114, 100, 101, 110]]
theorem onet1 : (Rows.loopMadeRow.laid.filter fun x => x.1 == "bipole/loop.words") = [("bipole/loop.words", .agg (t1.map fun z => .lit (.string z)))] := by kernel_rfl
theorem cellst1 {W : World} (h : laidMetH Tryz.prog Rows.loopMadeRow.laid W) (i : Nat) (z : List UInt8) (hz : t1[i]? = some z) : W.cell? ⟨1, i, none⟩ = some (.string ⟨z.toArray⟩) := by
  have h1 := laidMetH.filter (P := Tryz.prog) (fun x => x.1 == "bipole/loop.words") h
  rw [onet1] at h1
  exact strs_of_laid gt1N gt1T Tryz.underlying110 Tryz.underlying9 (by kernel_rfl) h1 i z hz
theorem s0t1 : aw3S0.get 1 = .cells (t1.map fun z => Value.string ⟨z.toArray⟩) 110 true 0 true := by kernel_rfl
theorem gt2N : Tryz.prog.globalNamed "internal/strconv.uint64pow10" = some 2 := by kernel_rfl
theorem gt2T : (Tryz.prog.globals[2]?).map (·.type) = some 178 := by kernel_rfl
def t2 : List Int := (List.range 20).map fun i => ((10 ^ i : Nat) : Int)
theorem onet2 : (Rows.loopMadeRow.laid.filter fun x => x.1 == "internal/strconv.uint64pow10") = [("internal/strconv.uint64pow10", Lib.tabData .u64 t2)] := by kernel_rfl
theorem cellst2 {W : World} (h : laidMetH Tryz.prog Rows.loopMadeRow.laid W) (i : Nat) (hi : i < 20) : W.cell? ⟨2, i, none⟩ = some (.int .u64 (t2.getD i 0)) := by
  have h1 := laidMetH.filter (P := Tryz.prog) (fun x => x.1 == "internal/strconv.uint64pow10") h
  rw [onet2] at h1
  exact (Lib.tabIs_of_head (rest := []) gt2N gt2T Tryz.underlying178 Tryz.underlying160 (by kernel_rfl) (by kernel_rfl) h1).cell gt2N i (by simpa [t2] using hi)
theorem s0t2 : aw3S0.get 2 = .cells (t2.map fun n => Value.int .u64 n) 178 true 0 true := by kernel_rfl
theorem holds0 {W : World} (h : laidMetH Tryz.prog Rows.loopMadeRow.laid W) : Holds Tryz.prog aw3S0 W := by
  refine ⟨by kernel_rfl, fun b hb => ?_⟩
  rw [show Tryz.prog.globals.size = 6 by kernel_rfl] at hb
  match b, hb with
  | 0, _ =>
    refine .inr ⟨_, _, s0t0, by simp [t0], by kernel_rfl, fun i v hi => ?_⟩
    have p0 := cellst0 h 0 (1, 0) rfl
    have p1 := cellst0 h 1 (0, 1) rfl
    have p2 := cellst0 h 2 (-1, 0) rfl
    have p3 := cellst0 h 3 (0, -1) rfl
    match i, hi with
    | 0, hi => simp [t0] at hi; subst hi; exact p0.1
    | 1, hi => simp [t0] at hi; subst hi; exact p0.2
    | 2, hi => simp [t0] at hi; subst hi; exact p1.1
    | 3, hi => simp [t0] at hi; subst hi; exact p1.2
    | 4, hi => simp [t0] at hi; subst hi; exact p2.1
    | 5, hi => simp [t0] at hi; subst hi; exact p2.2
    | 6, hi => simp [t0] at hi; subst hi; exact p3.1
    | 7, hi => simp [t0] at hi; subst hi; exact p3.2
    | i + 8, hi => simp [t0] at hi
  | 1, _ =>
    refine .inr ⟨_, _, s0t1, by simp [t1], by kernel_rfl, fun i v hi => ?_⟩
    simp only [List.getElem?_map, Option.map_eq_some_iff] at hi
    obtain ⟨a, h1, rfl⟩ := hi
    exact cellst1 h i a h1
  | 2, _ =>
    refine .inr ⟨_, _, s0t2, by simp [t2], by kernel_rfl, fun i v hi => ?_⟩
    have hlt : i < 20 := by
      have := (List.getElem?_eq_some_iff.1 hi).1
      simpa [t2] using this
    rw [cellst2 h i hlt]
    simp only [List.getElem?_map, Option.map_eq_some_iff] at hi
    obtain ⟨a, h1, rfl⟩ := hi
    simp [List.getD, h1]
  | 3, _ => exact .inl (by kernel_rfl)
  | 4, _ => exact .inl (by kernel_rfl)
  | 5, _ => exact .inl (by kernel_rfl)
  | b + 6, hb => omega

set_option maxRecDepth 100000 in
theorem contract (H : Type) (enc : TypeId × Value → H) (W : World) (base : Nat) (args : Array Value) (ds gs : List (DataW H)) (before : List MemPlace)
    (hval : ∀ (j : Nat) t v, Tryz.f3.params[j]? = some t → args[j]? = some v → Value.okWide Tryz.prog W .any base t v)
    (hW : DataW.Whole enc Tryz.prog Tryz.f3.params.toList Rows.loopMadeSpec.vars false W args.toList ds gs before) (hL : laidMetH Tryz.prog Rows.loopMadeRow.laid W) :
    Calls Tryz.prog 3 args W fun e W' => ∃ v, e = .returned v ∧ Rows.loopMadeSpec.post enc Tryz.prog Tryz.f3 false true false false W args v W' := by
  have hW' := hW
  obtain ⟨p, q, hA0, hV, rfl, hfz, hnd⟩ := hW
  have hA : DataW.TrodAll enc Tryz.prog W 0 (fun _ => true) true Tryz.f3.params.toList args.toList ds p := hA0
  rw [Tryz.params3] at hA hval
  obtain ⟨v0, vs0, d0, ds0, p0, q0, hargs, rfl, rfl, h0, r0⟩ := trodAll_cons hA
  obtain ⟨v1, vs1, d1, ds1, p1, q1, rfl, rfl, rfl, h1, r1⟩ := trodAll_cons r0
  obtain ⟨v2, vs2, d2, ds2, p2, q2, rfl, rfl, rfl, h2, r2⟩ := trodAll_cons r1
  obtain ⟨rfl, rfl, rfl⟩ := trodAll_nil r2
  obtain rfl : args = #[v0, v1, v2] := by apply Array.ext'; simpa using hargs
  obtain ⟨rfl, rfl⟩ := trodVars_none hV
  obtain ⟨x0, rfl, rfl, f0, t0⟩ := open_num Tryz.underlying3 (hval 0 3 v0 rfl rfl) h0
  obtain ⟨x1, rfl, rfl, f1, t1⟩ := open_num Tryz.underlying3 (hval 1 3 v1 rfl rfl) h1
  obtain ⟨x2, rfl, rfl, f2, t2⟩ := open_num Tryz.underlying3 (hval 2 3 v2 rfl rfl) h2
  clear hA0
  simp only [List.append_nil] at hW'
  refine (lm_calls (holds0 hL) x0 x1 x2).mono fun e W' ⟨he, hb⟩ => ?_
  subst he
  exact ⟨_, rfl, post_below (pa := []) (pv := []) hW' (ok_one (by kernel_rfl) rfl (okWide_bool_mk Tryz.underlying4 _)) (fun _ _ _ => trodAll_cons_mk (shut_bool Tryz.underlying4 _) trodAll_mk0)
    (fun sp hsp => trodAll_cons_mk (t0 _ _ _ _) (trodAll_cons_mk (t1 _ _ _ _) (trodAll_cons_mk (t2 _ _ _ _) (trodAll_mk0))))
    (fun _ _ => rfl) rfl hb⟩

def setTab (b : Nat) (cs : Array Value) (h : Array Obj) : Array Obj := h.modify b fun
  | .cells _ t frozen => .cells cs t frozen
  | o => o
noncomputable def laidWorld (os : Os) : World :=
  { World.holding Tryz.prog os ⟨#[], #[], []⟩ with heap := setTab 5 #[.int .u8 (0), .int .u8 (1), .int .u8 (56), .int .u8 (2), .int .u8 (57), .int .u8 (49), .int .u8 (28), .int .u8 (3), .int .u8 (61), .int .u8 (58), .int .u8 (42), .int .u8 (50), .int .u8 (38), .int .u8 (29), .int .u8 (17), .int .u8 (4), .int .u8 (62), .int .u8 (47), .int .u8 (59), .int .u8 (36), .int .u8 (45), .int .u8 (43), .int .u8 (51), .int .u8 (22), .int .u8 (53), .int .u8 (39), .int .u8 (33), .int .u8 (30), .int .u8 (24), .int .u8 (18), .int .u8 (12), .int .u8 (5), .int .u8 (63), .int .u8 (55), .int .u8 (48), .int .u8 (27), .int .u8 (60), .int .u8 (41), .int .u8 (37), .int .u8 (16), .int .u8 (46), .int .u8 (35), .int .u8 (44), .int .u8 (21), .int .u8 (52), .int .u8 (32), .int .u8 (23), .int .u8 (11), .int .u8 (54), .int .u8 (26), .int .u8 (40), .int .u8 (15), .int .u8 (34), .int .u8 (20), .int .u8 (31), .int .u8 (10), .int .u8 (25), .int .u8 (14), .int .u8 (19), .int .u8 (9), .int .u8 (13), .int .u8 (8), .int .u8 (7), .int .u8 (6)] (setTab 4 #[.int .u8 (0), .int .u8 (1), .int .u8 (28), .int .u8 (2), .int .u8 (29), .int .u8 (14), .int .u8 (24), .int .u8 (3), .int .u8 (30), .int .u8 (22), .int .u8 (20), .int .u8 (15), .int .u8 (25), .int .u8 (17), .int .u8 (4), .int .u8 (8), .int .u8 (31), .int .u8 (27), .int .u8 (13), .int .u8 (23), .int .u8 (21), .int .u8 (19), .int .u8 (16), .int .u8 (7), .int .u8 (26), .int .u8 (12), .int .u8 (18), .int .u8 (6), .int .u8 (11), .int .u8 (5), .int .u8 (10), .int .u8 (9)] (setTab 2 #[.int .u64 (1), .int .u64 (10), .int .u64 (100), .int .u64 (1000), .int .u64 (10000), .int .u64 (100000), .int .u64 (1000000), .int .u64 (10000000), .int .u64 (100000000), .int .u64 (1000000000), .int .u64 (10000000000), .int .u64 (100000000000), .int .u64 (1000000000000), .int .u64 (10000000000000), .int .u64 (100000000000000), .int .u64 (1000000000000000), .int .u64 (10000000000000000), .int .u64 (100000000000000000), .int .u64 (1000000000000000000), .int .u64 (10000000000000000000)] (setTab 1 #[.string ⟨#[112, 108, 97, 110, 116, 110, 117, 109]⟩, .string ⟨#[112, 108, 97, 110, 116, 100, 101, 110]⟩, .string ⟨#[99, 111, 110, 116, 114, 111, 108, 108, 101, 114, 110, 117, 109]⟩, .string ⟨#[99, 111, 110, 116, 114, 111, 108, 108, 101, 114, 100, 101, 110]⟩] (setTab 0 #[.int .i64 (1), .int .i64 (0), .int .i64 (0), .int .i64 (1), .int .i64 (-1), .int .i64 (0), .int .i64 (0), .int .i64 (-1)] ((World.holding Tryz.prog os ⟨#[], #[], []⟩).heap))))) }
def wArgs : Array Value := #[.int .i64 0, .int .i64 0, .int .i64 0]
theorem laid_met (os : Os) : laidMet Tryz.prog Rows.loopMadeRow.laid ((laidWorld os).forCall (fun _ _ => 0) ⟨#[], wArgs, []⟩).memory :=
  laidMet_of_run' 8 (by kernel_rfl) (by kernel_rfl)
theorem reads (os : Os) {H : Type} (enc : TypeId × Value → H) : ∃ places, DataW.whole enc Tryz.prog ((laidWorld os).forCall (fun _ _ => 0) ⟨#[], wArgs, []⟩).memory Tryz.f3.params.toList Rows.loopMadeSpec.vars false wArgs.toList 8 = some ([.lit (.int .i64 0), .lit (.int .i64 0), .lit (.int .i64 0)], [], places) :=
  ⟨[], by kernel_rfl⟩
set_option maxRecDepth 100000 in
theorem lifted (os : Os) (started : os.Started) (H : Type) (enc : TypeId × Value → H) (F : Stop.Interp) :
    ReturnsInHanded {} Tryz.checked os 3 .any ((OpenSpec.ofChange Rows.loopMadeSpec).preRow enc Tryz.prog Tryz.f3 Rows.loopMadeRow.domain false Rows.loopMadeRow.laid) (((OpenSpec.ofChange Rows.loopMadeSpec).at F).post enc Tryz.prog Tryz.f3 false true false false) := by
  obtain ⟨places, hx⟩ := reads os enc
  refine returnsInHanded_of_row (C := Tryz.checked) (s := OpenSpec.ofChange Rows.loopMadeSpec) own started (by kernel_rfl) Tryz.func3
    (witness_row_at (enc := enc) (C := Tryz.checked) false (laidWorld os) wArgs rfl (by kernel_rfl) (by kernel_rfl) (by kernel_rfl)
      (OpenSpec.preRow_of_cond 8 hx (by kernel_rfl) (fun k hk => by cases hk) (by kernel_rfl) (laid_met os))) ?_
  intro W base args ds gs before hval hW _ _ _ hL _ _
  exact contract H enc W base args ds gs before hval hW hL
theorem said : Rows.LoopMadeSaid :=
  OpenClaim.holds_of_cond 3 Tryz.f3 rfl rfl rfl rfl rfl rfl rfl ⟨rfl, rfl, rfl, rfl, rfl⟩ rfl rfl rfl rfl rfl (by kernel_rfl) Tryz.func3 (by kernel_rfl)
    (of_decide_eq_true (by kernel_rfl)) (by unfold Func.isWrapper; first | (rw [if_pos (by decide +kernel)]; kernel_rfl) | (rw [if_neg (by decide +kernel)]; exact ⟨rfl, rfl⟩))
    (fun os started H enc _ F => by rw [OpenClaim.pre_eq_preRow]; exact lifted os started H enc F)
theorem plain (f : FuncId) (fn : Func) (hf : Tryz.pinned.checked.prog.funcNamed "bipole/bipolelaw03.LoopMade" = some f) (hfn : Tryz.pinned.checked.prog.funcs[f]? = some fn) :
    false = Tryz.pinned.checked.prog.looks [] ∧ ∀ (j : Nat) t, fn.params[j]? = some t → Tryz.pinned.checked.prog.wantsStandIn t = false := by
  obtain rfl : f = 3 := Option.some.inj ((show Tryz.prog.funcNamed "bipole/bipolelaw03.LoopMade" = some 3 by kernel_rfl).symm.trans hf) |>.symm
  obtain rfl : fn = Tryz.f3 := (Option.some.inj (Tryz.func3.symm.trans hfn)).symm
  refine ⟨by kernel_rfl, fun j t ht => ?_⟩
  rw [Tryz.params3] at ht
  have hm : t = 3 ∨ t = 3 ∨ t = 3 := by simpa using Array.mem_of_getElem? ht
  rcases hm with rfl | rfl | rfl
  · exact (show Tryz.prog.wantsStandIn 3 = false by kernel_rfl)
  · exact (show Tryz.prog.wantsStandIn 3 = false by kernel_rfl)
  · exact (show Tryz.prog.wantsStandIn 3 = false by kernel_rfl)
theorem card : Rows.LoopMadeCardSaid :=
  Claim7.holds_tied_plain_at .later [] _ _ _ _ said (fun _ h => by cases h) (by kernel_rfl) (fun _ h => by cases h) loopMade_row_tie rfl ⟨rfl, rfl⟩ (by kernel_rfl) rfl plain (by kernel_rfl)
end Go.Proofs.YtnbgndccdbikpaaGreatDoor.loopMade
end
