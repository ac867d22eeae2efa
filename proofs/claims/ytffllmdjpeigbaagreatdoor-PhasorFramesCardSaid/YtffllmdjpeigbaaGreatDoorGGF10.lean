/-
  PhasorFrames: for all arguments the law returns true and leaves its arguments as they were, wherever the tables that its row lists are laid as the text lays them.
  The law PhasorFrames in each real world.
  From a call in the small world to a real one whose arguments lie in memory.
  Slices of structures of two integers on a row's list.
  Tables of structures of two pairs on a row's list.
  The last step of a row whose call leaves a world of which only 'Below' is known; tables of pairs on a row's list.
  Arguments that are made of integers alone (numbers, arrays and structs of them, in any depth), opened: their cells are numbers, and their data is the same in each world.
  The law PhasorFrames: it returns true over any row, and over none.
  The whole.
-/
import Derived.Test.YtffllmdjpeigbaaGreatDoorGGF4
import Derived.Test.YtffllmdjpeigbaaGreatDoorGGF5
import Derived.Test.YtffllmdjpeigbaaGreatDoorGGF6
import Derived.Test.YtffllmdjpeigbaaGreatDoorGGF7
import Derived.Test.YtffllmdjpeigbaaGreatDoorGGF8
import Derived.Test.YtffllmdjpeigbaaGreatDoorGGF9
import Derived.Test.YtffllmdjpeigbaaGreatDoorGGF3
import Derived.Test.YtffllmdjpeigbaaGreatDoorGGF2
import Derived.OpenShut
import Derived.RowKit
import Derived.WideShapes
import Derived.Below
import Derived.ChangeSame
import Derived.ProofKit
import Derived.JoinedCond
import Derived.JoinedOf
import Derived.JoinedAt
import Derived.RowKit3
import Derived.Lib.LaidTab
import Derived.LaidSub
import Derived.Deep.SlicePairs
import Derived.WideKeyArgs
import Derived.Test.YtffllmdjpeigbaaGreatDoorCards
import Derived.Test.YtffllmdjpeigbaaGreatDoorTie
import Derived.WalkKit
import Derived.Deep.DeepHandedRow
section
set_option linter.all false
set_option maxRecDepth 1000000
open Go.RowKit
namespace Go.Proofs.YtffllmdjpeigbaaGreatDoor
open Mini
theorem awX0 : FOk Tryz.prog (joinX 284) := joinX_ok fun bk o c xs sep w h1 h2 h3 h4 h5 => Tryz.strings_Join bk o c xs sep w h1 h2 h3 h4 h5
theorem awX : FOk Tryz.prog (joinX 284) := awX0
theorem awm : Tryz.prog.follows .mixedOrders = true := by kernel_rfl
theorem awg19 : SndC Tryz.prog none (dropS 19 awB) awA19.act awS19 .ret awA20.act awS20 awR19 awW19 := chain_last awm awX awc19
theorem awg18 : SndC Tryz.prog none (dropS 18 awB) awA18.act awS18 .ret awA20.act awS20 awRR18 awWW18 := by
  have h := chain_step awm awX (by kernel_rfl) awc18 awg19
  rwa [show awR18 ||| awR19 = awRR18 from by decide +kernel, show awW18 ||| awW19 = awWW18 from by decide +kernel] at h
theorem awg17 : SndC Tryz.prog none (dropS 17 awB) awA17.act awS17 .ret awA20.act awS20 awRR17 awWW17 := by
  have h := chain_step awm awX (by kernel_rfl) awc17 awg18
  rwa [show awR17 ||| awRR18 = awRR17 from by decide +kernel, show awW17 ||| awWW18 = awWW17 from by decide +kernel] at h
theorem awg16 : SndC Tryz.prog none (dropS 16 awB) awA16.act awS16 .ret awA20.act awS20 awRR16 awWW16 := by
  have h := chain_step awm awX (by kernel_rfl) awc16 awg17
  rwa [show awR16 ||| awRR17 = awRR16 from by decide +kernel, show awW16 ||| awWW17 = awWW16 from by decide +kernel] at h
theorem awg15 : SndC Tryz.prog none (dropS 15 awB) awA15.act awS15 .ret awA20.act awS20 awRR15 awWW15 := by
  have h := chain_step awm awX (by kernel_rfl) awc15 awg16
  rwa [show awR15 ||| awRR16 = awRR15 from by decide +kernel, show awW15 ||| awWW16 = awWW15 from by decide +kernel] at h
theorem awg14 : SndC Tryz.prog none (dropS 14 awB) awA14.act awS14 .ret awA20.act awS20 awRR14 awWW14 := by
  have h := chain_step awm awX (by kernel_rfl) awc14 awg15
  rwa [show awR14 ||| awRR15 = awRR14 from by decide +kernel, show awW14 ||| awWW15 = awWW14 from by decide +kernel] at h
theorem awg13 : SndC Tryz.prog none (dropS 13 awB) awA13.act awS13 .ret awA20.act awS20 awRR13 awWW13 := by
  have h := chain_step awm awX (by kernel_rfl) awc13 awg14
  rwa [show awR13 ||| awRR14 = awRR13 from by decide +kernel, show awW13 ||| awWW14 = awWW13 from by decide +kernel] at h
theorem awg12 : SndC Tryz.prog none (dropS 12 awB) awA12.act awS12 .ret awA20.act awS20 awRR12 awWW12 := by
  have h := chain_step awm awX (by kernel_rfl) awc12 awg13
  rwa [show awR12 ||| awRR13 = awRR12 from by decide +kernel, show awW12 ||| awWW13 = awWW12 from by decide +kernel] at h
theorem awg11 : SndC Tryz.prog none (dropS 11 awB) awA11.act awS11 .ret awA20.act awS20 awRR11 awWW11 := by
  have h := chain_step awm awX (by kernel_rfl) awc11 awg12
  rwa [show awR11 ||| awRR12 = awRR11 from by decide +kernel, show awW11 ||| awWW12 = awWW11 from by decide +kernel] at h
theorem awg10 : SndC Tryz.prog none (dropS 10 awB) awA10.act awS10 .ret awA20.act awS20 awRR10 awWW10 := by
  have h := chain_step awm awX (by kernel_rfl) awc10 awg11
  rwa [show awR10 ||| awRR11 = awRR10 from by decide +kernel, show awW10 ||| awWW11 = awWW10 from by decide +kernel] at h
theorem awg9 : SndC Tryz.prog none (dropS 9 awB) awA9.act awS9 .ret awA20.act awS20 awRR9 awWW9 := by
  have h := chain_step awm awX (by kernel_rfl) awc9 awg10
  rwa [show awR9 ||| awRR10 = awRR9 from by decide +kernel, show awW9 ||| awWW10 = awWW9 from by decide +kernel] at h
theorem awg8 : SndC Tryz.prog none (dropS 8 awB) awA8.act awS8 .ret awA20.act awS20 awRR8 awWW8 := by
  have h := chain_step awm awX (by kernel_rfl) awc8 awg9
  rwa [show awR8 ||| awRR9 = awRR8 from by decide +kernel, show awW8 ||| awWW9 = awWW8 from by decide +kernel] at h
theorem awg7 : SndC Tryz.prog none (dropS 7 awB) awA7.act awS7 .ret awA20.act awS20 awRR7 awWW7 := by
  have h := chain_step awm awX (by kernel_rfl) awc7 awg8
  rwa [show awR7 ||| awRR8 = awRR7 from by decide +kernel, show awW7 ||| awWW8 = awWW7 from by decide +kernel] at h
theorem awg6 : SndC Tryz.prog none (dropS 6 awB) awA6.act awS6 .ret awA20.act awS20 awRR6 awWW6 := by
  have h := chain_step awm awX (by kernel_rfl) awc6 awg7
  rwa [show awR6 ||| awRR7 = awRR6 from by decide +kernel, show awW6 ||| awWW7 = awWW6 from by decide +kernel] at h
theorem awg5 : SndC Tryz.prog none (dropS 5 awB) awA5.act awS5 .ret awA20.act awS20 awRR5 awWW5 := by
  have h := chain_step awm awX (by kernel_rfl) awc5 awg6
  rwa [show awR5 ||| awRR6 = awRR5 from by decide +kernel, show awW5 ||| awWW6 = awWW5 from by decide +kernel] at h
theorem awg4 : SndC Tryz.prog none (dropS 4 awB) awA4.act awS4 .ret awA20.act awS20 awRR4 awWW4 := by
  have h := chain_step awm awX (by kernel_rfl) awc4 awg5
  rwa [show awR4 ||| awRR5 = awRR4 from by decide +kernel, show awW4 ||| awWW5 = awWW4 from by decide +kernel] at h
theorem awg3 : SndC Tryz.prog none (dropS 3 awB) awA3.act awS3 .ret awA20.act awS20 awRR3 awWW3 := by
  have h := chain_step awm awX (by kernel_rfl) awc3 awg4
  rwa [show awR3 ||| awRR4 = awRR3 from by decide +kernel, show awW3 ||| awWW4 = awWW3 from by decide +kernel] at h
theorem awg2 : SndC Tryz.prog none (dropS 2 awB) awA2.act awS2 .ret awA20.act awS20 awRR2 awWW2 := by
  have h := chain_step awm awX (by kernel_rfl) awc2 awg3
  rwa [show awR2 ||| awRR3 = awRR2 from by decide +kernel, show awW2 ||| awWW3 = awWW2 from by decide +kernel] at h
theorem awg1 : SndC Tryz.prog none (dropS 1 awB) awA1.act awS1 .ret awA20.act awS20 awRR1 awWW1 := by
  have h := chain_step awm awX (by kernel_rfl) awc1 awg2
  rwa [show awR1 ||| awRR2 = awRR1 from by decide +kernel, show awW1 ||| awWW2 = awWW1 from by decide +kernel] at h
theorem awg0 : SndC Tryz.prog none (dropS 0 awB) awA0.act awS0 .ret awA20.act awS20 awRR0 awWW0 := by
  have h := chain_step awm awX (by kernel_rfl) awc0 awg1
  rwa [show awR0 ||| awRR1 = awRR0 from by decide +kernel, show awW0 ||| awWW1 = awWW0 from by decide +kernel] at h
theorem awf : SndF Tryz.prog 8 #[] awS0 (.bool true) awS20 (awRR0 ||| 0) awWW0 :=
  sndF_of (vs := [.bool true]) Tryz.func8 (show _ = some awB by kernel_rfl) (.inr rfl) (by kernel_rfl) (show SndC Tryz.prog none awB (startA Tryz.f8 #[]) awS0 .ret awA20.act awS20 awRR0 awWW0 from ((startM_act _ _).symm.trans (congrArg MA.act (show startM Tryz.f8 #[] = awA0 by kernel_rfl))) ▸ awg0) (by kernel_rfl)
theorem aw_calls (w : World) (h : Holds Tryz.prog awS0 w) : Calls Tryz.prog 8 #[] w fun e w' => e = .returned (.bool true) ∧ Below w.heap.size w w' :=
  calls_of awf (by kernel_rfl) (by kernel_rfl) (fun b hb => by
    have hb : b < Tryz.prog.globals.size := hb
    rw [show Tryz.prog.globals.size = 9 by kernel_rfl] at hb
    revert b; decide +kernel) h
end Go.Proofs.YtffllmdjpeigbaaGreatDoor
end
section
set_option linter.all false
set_option maxRecDepth 1000000
open Go.RowKit
namespace Go.Proofs.YtffllmdjpeigbaaGreatDoor
open Mini
def lfV (a b : Int) : Int := Pl.parts a b 1048576
noncomputable def lfX : CallS := bothX (kFrm lfV) (bothX (kChkF lfV) (bothX kRFrm (bothX kSameE (bothX (kAll [c_rrange, c_checkTurn]) (tabX awS0 8)))))
def lfArgs (n c : Nat) (s : Int) : Array Value := #[.slice (some ⟨9, 0, none⟩) n c, .int .i64 s]
noncomputable def lfS (n : Nat) (g : Nat → Nat → Int) (e : TypeId) : St := awS0.push (rowI 2 n g e true 0 true)
noncomputable def lf_A (n c : Nat) (g : Nat → Nat → Int) (e : TypeId) (s : Int) : Option OutS := evFS Tryz.prog lfX 1000 3 (lfArgs n c s) (lfS n g e) ⟨[1, 1, 1, 1, 1], True⟩
noncomputable def lf_1 (n c : Nat) (g : Nat → Nat → Int) (e : TypeId) (s : Int) : Option OutS := evFS Tryz.prog lfX 1000 3 (lfArgs n c s) (lfS n g e) ⟨[0, 0, 0, 0, 0, .row 0 0, 1, 1, 0, 0, 1, 1, 0, 0, 1, 1, 1, 1, 1, 1, 1, 1], True⟩
noncomputable def lf_2 (n c : Nat) (g : Nat → Nat → Int) (e : TypeId) (s : Int) : Option OutS := evFS Tryz.prog lfX 1000 3 (lfArgs n c s) (lfS n g e) ⟨[0, 0, 0, 0, 0, .row 0 0, 0, 1, 0, 1, 0, 0, 0, 0, 1, 1, 1, 1, 1, 1], True⟩
noncomputable def lf_3 (n c : Nat) (g : Nat → Nat → Int) (e : TypeId) (s : Int) : Option OutS := evFS Tryz.prog lfX 1000 3 (lfArgs n c s) (lfS n g e) ⟨[0, 0, 0, 0, 0, .row 0 0, 0, 1, 0, 0, 1, 1, 1, 1, 0, 0, 0, 1, 1, 1, 1, 1, 1], True⟩
noncomputable def lf_4 (n c : Nat) (g : Nat → Nat → Int) (e : TypeId) (s : Int) : Option OutS := evFS Tryz.prog lfX 1000 3 (lfArgs n c s) (lfS n g e) ⟨[0, 0, 0, 0, 0, .row 0 0, 0, 1, 0, 0, 1, 1, 0, 0, 1, 0, 0, 0, 1, 1, 1, 1, 1, 1], True⟩
noncomputable def lf_5 (n c : Nat) (g : Nat → Nat → Int) (e : TypeId) (s : Int) : Option OutS := evFS Tryz.prog lfX 1000 3 (lfArgs n c s) (lfS n g e) ⟨[1, 1, 1, 1, 0, .row 0 0, 0, 1, 0, 1, 0, 0, 0, 0, 1, 1, 1, 1, 1, 1], True⟩
noncomputable def lf_n1 (s : Int) : Option OutS := evFS Tryz.prog lfX 1000 3 #[.slice none 0 0, .int .i64 s] awS0 ⟨[0, 0, 0, 0, 0, 1, 0, 0, 1, 0, 0, 1, 1, 0, 0, 1, 0, 0, 0, 1, 1, 1, 1, 1, 1], True⟩
noncomputable def lf_n2 (s : Int) : Option OutS := evFS Tryz.prog lfX 1000 3 #[.slice none 0 0, .int .i64 s] awS0 ⟨[0, 0, 0, 0, 0, 0, 0, 0, 1, 0, 0, 1, 1, 1, 1, 0, 0, 0, 1, 1, 1, 1, 1, 1], True⟩
noncomputable def lf_e1 (c : Nat) (s : Int) : Option OutS := evFS Tryz.prog lfX 1000 3 (lfArgs 0 c s) (awS0.push .hole) ⟨[0, 0, 0, 0, 0, 1, 0, 0, 1, 0, 0, 1, 1, 0, 0, 1, 0, 0, 0, 1, 1, 1, 1, 1, 1], True⟩
noncomputable def lf_e2 (c : Nat) (s : Int) : Option OutS := evFS Tryz.prog lfX 1000 3 (lfArgs 0 c s) (awS0.push .hole) ⟨[0, 0, 0, 0, 0, 0, 0, 0, 1, 0, 0, 1, 1, 1, 1, 0, 0, 0, 1, 1, 1, 1, 1, 1], True⟩
theorem lfC_ok : ConOk Tryz.prog (ceC lfV) := fun ns hl => by
  have h := k_checkEisen ns hl
  match ns, hl with
  | [a, b], _ => exact ⟨h.1, fun _ => h.2 trivial⟩
theorem lfR_ok : ConOk Tryz.prog (rfC lfV) := fun ns hl => by
  have h := k_rcheckEisen ns hl
  match ns, hl with
  | [a, b], _ => exact ⟨h.1, fun _ => h.2 trivial⟩
theorem lfX_ok : FOkS Tryz.prog lfX := bothX_ok (kFrm_ok lfC_ok) (bothX_ok (kChkF_ok lfR_ok) (bothX_ok kRFrm_ok (bothX_ok kSameE_ok (bothX_ok (kAll_ok _ ⟨k_rrange, k_checkTurn, trivial⟩) (tabX_ok (by kernel_rfl) aw_calls)))))
section
variable (n c : Nat) (g : Nat → Nat → Int) (e : TypeId) (s : Int)
theorem lf_Aeq : lf_A n c g e s = some ((.bool true), wldOf (lf_A n c g e s), 511, 0, ⟨[], (((((True ∧ ((decide ((((n : Nat)) : Int) > (24 : Int))) = true)) ∧ ((decide ((((n : Nat)) : Int) > (24 : Int))) = true)) ∧ ((decide ((((n : Nat)) : Int) > (24 : Int))) = true)) ∧ ((decide ((((n : Nat)) : Int) > (24 : Int))) = true)) ∧ (((((n : Nat)) : Int) != (257 : Int)) = true))⟩) := by kernel_rfl
theorem lf_1eq : lf_1 n c g e s = some ((.bool true), wldOf (lf_1 n c g e s), 1023, 0, ⟨[], (((((((((((((((((((((((((True ∧ ((decide ((((n : Nat)) : Int) > (24 : Int))) = false)) ∧ ((decide ((((n : Nat)) : Int) > (24 : Int))) = false)) ∧ ((decide ((((n : Nat)) : Int) > (24 : Int))) = false)) ∧ ((decide ((((n : Nat)) : Int) > (24 : Int))) = false)) ∧ (false = false)) ∧ ((n = n) ∧ ((n ≠ (0 : Nat)) ∧ ((n * 16) ≤ (140737488355328 : Nat))))) ∧ (((n = n) ∧ (∀ (i : Nat), ((i < n) → (∀ (j : Nat), ((j < (2 : Nat)) → ((Value.int .i64 (g i j)) = (Value.int .i64 (gI (Value.int .i64 (g i j)))))))))) ∧ ((∀ (i : Nat), ((i < n) → (((lfV (gI (Value.int .i64 (g i 0))) (gI (Value.int .i64 (g i 1)))) = (0 : Int)) → (Bg (1099511627776 : Int) (gI (Value.int .i64 (g i 0))) (gI (Value.int .i64 (g i 1))))))) ∧ ((frErr lfV n (fun (i : Nat) => (fun (j : Nat) => (gI (Value.int .i64 (g i j))))) s) = (Int.ofNat 0))))) ∧ (((n = n) ∧ (∀ (i : Nat), ((i < n) → (∀ (j : Nat), ((j < (2 : Nat)) → ((Value.int .i64 (g i j)) = (Value.int .i64 (gI (Value.int .i64 (g i j)))))))))) ∧ ((((n : Nat)) : Int) ≤ (9223372036854775807 : Int)))) ∧ True) ∧ ((decide ((0 : Int) < (((2 : Nat)) : Int))) = true)) ∧ ((0 : Int) = (Int.ofNat 0))) ∧ (((if ((256 : Nat) < n) then (5 : Int) else (feN (fun (i : Nat) => (lfV (gI (Value.int .i64 (g i 0))) (gI (Value.int .i64 (g i 1))))) n (0 : Nat))) != (0 : Int)) = false)) ∧ ((decide ((IntKind.i64.wrap ((0 : Int) + (1 : Int))) < (((2 : Nat)) : Int))) = true)) ∧ ((IntKind.i64.wrap ((0 : Int) + (1 : Int))) = (Int.ofNat 1))) ∧ (((Pl.cr s (- (1000000 : Int)) (1000000 : Int)) != (0 : Int)) = false)) ∧ ((decide ((IntKind.i64.wrap ((IntKind.i64.wrap ((0 : Int) + (1 : Int))) + (1 : Int))) < (((2 : Nat)) : Int))) = false)) ∧ (((0 : Int) == (0 : Int)) = true)) ∧ (((n = n) ∧ (∀ (i : Nat), ((i < n) → (∀ (j : Nat), ((j < (2 : Nat)) → ((Value.int .i64 (g i j)) = (Value.int .i64 (gI (Value.int .i64 (g i j)))))))))) ∧ (((0 : Nat) < n) ∧ ((n ≤ (256 : Nat)) ∧ ((∀ (i : Nat), ((i < n) → (Bg (1048576 : Int) (gI (Value.int .i64 (g i 0))) (gI (Value.int .i64 (g i 1)))))) ∧ ((rgErr n (fun (i : Nat) => (fun (j : Nat) => (gI (Value.int .i64 (g i j))))) s) = (Int.ofNat 0))))))) ∧ (((n = n) ∧ (∀ (i : Nat), ((i < n) → (∀ (j : Nat), ((j < (2 : Nat)) → ((Value.int .i64 (frI (fun (i : Nat) => (fun (j : Nat) => (gI (Value.int .i64 (g i j))))) s i j)) = (Value.int .i64 (gI (Value.int .i64 (frI (fun (i : Nat) => (fun (j : Nat) => (gI (Value.int .i64 (g i j))))) s i j)))))))))) ∧ (((n = n) ∧ (∀ (i : Nat), ((i < n) → (∀ (j : Nat), ((j < (2 : Nat)) → ((Value.int .i64 (rgI (fun (i : Nat) => (fun (j : Nat) => (gI (Value.int .i64 (g i j))))) s i j)) = (Value.int .i64 (gI (Value.int .i64 (rgI (fun (i : Nat) => (fun (j : Nat) => (gI (Value.int .i64 (g i j))))) s i j)))))))))) ∧ ((((n : Nat)) : Int) ≤ (9223372036854775807 : Int))))) ∧ ((decide ((n = n) ∧ (sameE (fun (i : Nat) => (fun (j : Nat) => (gI (Value.int .i64 (frI (fun (i : Nat) => (fun (j : Nat) => (gI (Value.int .i64 (g i j))))) s i j))))) (fun (i : Nat) => (fun (j : Nat) => (gI (Value.int .i64 (rgI (fun (i : Nat) => (fun (j : Nat) => (gI (Value.int .i64 (g i j))))) s i j))))) n))) = true)) ∧ ((decide ((n = n) ∧ (sameE (fun (i : Nat) => (fun (j : Nat) => (gI (Value.int .i64 (frI (fun (i : Nat) => (fun (j : Nat) => (gI (Value.int .i64 (g i j))))) s i j))))) (fun (i : Nat) => (fun (j : Nat) => (gI (Value.int .i64 (rgI (fun (i : Nat) => (fun (j : Nat) => (gI (Value.int .i64 (g i j))))) s i j))))) n))) = true)) ∧ ((decide ((n = n) ∧ (sameE (fun (i : Nat) => (fun (j : Nat) => (gI (Value.int .i64 (frI (fun (i : Nat) => (fun (j : Nat) => (gI (Value.int .i64 (g i j))))) s i j))))) (fun (i : Nat) => (fun (j : Nat) => (gI (Value.int .i64 (rgI (fun (i : Nat) => (fun (j : Nat) => (gI (Value.int .i64 (g i j))))) s i j))))) n))) = true)) ∧ ((decide ((n = n) ∧ (sameE (fun (i : Nat) => (fun (j : Nat) => (gI (Value.int .i64 (frI (fun (i : Nat) => (fun (j : Nat) => (gI (Value.int .i64 (g i j))))) s i j))))) (fun (i : Nat) => (fun (j : Nat) => (gI (Value.int .i64 (rgI (fun (i : Nat) => (fun (j : Nat) => (gI (Value.int .i64 (g i j))))) s i j))))) n))) = true)) ∧ (((0 : Int) == (0 : Int)) = true)) ∧ (((0 : Int) == (0 : Int)) = true))⟩) := by kernel_rfl
theorem lf_2eq : lf_2 n c g e s = some ((.bool true), wldOf (lf_2 n c g e s), 1023, 0, ⟨[], ((((((((((((((((((((((True ∧ ((decide ((((n : Nat)) : Int) > (24 : Int))) = false)) ∧ ((decide ((((n : Nat)) : Int) > (24 : Int))) = false)) ∧ ((decide ((((n : Nat)) : Int) > (24 : Int))) = false)) ∧ ((decide ((((n : Nat)) : Int) > (24 : Int))) = false)) ∧ (false = false)) ∧ ((n = n) ∧ ((n ≠ (0 : Nat)) ∧ ((n * 16) ≤ (140737488355328 : Nat))))) ∧ (((n = n) ∧ (∀ (i : Nat), ((i < n) → (∀ (j : Nat), ((j < (2 : Nat)) → ((Value.int .i64 (g i j)) = (Value.int .i64 (gI (Value.int .i64 (g i j)))))))))) ∧ (((((n : Nat)) : Int) ≤ (9223372036854775807 : Int)) ∧ ((∀ (i : Nat), ((i < n) → (((lfV (gI (Value.int .i64 (g i 0))) (gI (Value.int .i64 (g i 1)))) = (0 : Int)) → (Bg (1099511627776 : Int) (gI (Value.int .i64 (g i 0))) (gI (Value.int .i64 (g i 1))))))) ∧ ((frErr lfV n (fun (i : Nat) => (fun (j : Nat) => (gI (Value.int .i64 (g i j))))) s) ≠ (0 : Int)))))) ∧ (((n = n) ∧ (∀ (i : Nat), ((i < n) → (∀ (j : Nat), ((j < (2 : Nat)) → ((Value.int .i64 (g i j)) = (Value.int .i64 (gI (Value.int .i64 (g i j)))))))))) ∧ ((((n : Nat)) : Int) ≤ (9223372036854775807 : Int)))) ∧ True) ∧ ((decide ((0 : Int) < (((2 : Nat)) : Int))) = true)) ∧ ((0 : Int) = (Int.ofNat 0))) ∧ (((if ((256 : Nat) < n) then (5 : Int) else (feN (fun (i : Nat) => (lfV (gI (Value.int .i64 (g i 0))) (gI (Value.int .i64 (g i 1))))) n (0 : Nat))) != (0 : Int)) = true)) ∧ ((0 : Int) = (Int.ofNat 0))) ∧ (((if ((256 : Nat) < n) then (5 : Int) else (feN (fun (i : Nat) => (lfV (gI (Value.int .i64 (g i 0))) (gI (Value.int .i64 (g i 1))))) n (0 : Nat))) == (0 : Int)) = false)) ∧ (((((0 : Nat)) : Int) != (((0 : Nat)) : Int)) = false)) ∧ ((decide ((0 : Int) < (((0 : Nat)) : Int))) = false)) ∧ (true = true)) ∧ (true = true)) ∧ (true = true)) ∧ (true = true)) ∧ (((frErr lfV n (fun (i : Nat) => (fun (j : Nat) => (gI (Value.int .i64 (g i j))))) s) == (if ((256 : Nat) < n) then (5 : Int) else (feN (fun (i : Nat) => (lfV (gI (Value.int .i64 (g i 0))) (gI (Value.int .i64 (g i 1))))) n (0 : Nat)))) = true)) ∧ (((frErr lfV n (fun (i : Nat) => (fun (j : Nat) => (gI (Value.int .i64 (g i j))))) s) == (if ((256 : Nat) < n) then (5 : Int) else (feN (fun (i : Nat) => (lfV (gI (Value.int .i64 (g i 0))) (gI (Value.int .i64 (g i 1))))) n (0 : Nat)))) = true))⟩) := by kernel_rfl
theorem lf_3eq : lf_3 n c g e s = some ((.bool true), wldOf (lf_3 n c g e s), 1023, 0, ⟨[], (((((((((((((((((((((((((True ∧ ((decide ((((n : Nat)) : Int) > (24 : Int))) = false)) ∧ ((decide ((((n : Nat)) : Int) > (24 : Int))) = false)) ∧ ((decide ((((n : Nat)) : Int) > (24 : Int))) = false)) ∧ ((decide ((((n : Nat)) : Int) > (24 : Int))) = false)) ∧ (false = false)) ∧ ((n = n) ∧ ((n ≠ (0 : Nat)) ∧ ((n * 16) ≤ (140737488355328 : Nat))))) ∧ (((n = n) ∧ (∀ (i : Nat), ((i < n) → (∀ (j : Nat), ((j < (2 : Nat)) → ((Value.int .i64 (g i j)) = (Value.int .i64 (gI (Value.int .i64 (g i j)))))))))) ∧ (((((n : Nat)) : Int) ≤ (9223372036854775807 : Int)) ∧ ((∀ (i : Nat), ((i < n) → (((lfV (gI (Value.int .i64 (g i 0))) (gI (Value.int .i64 (g i 1)))) = (0 : Int)) → (Bg (1099511627776 : Int) (gI (Value.int .i64 (g i 0))) (gI (Value.int .i64 (g i 1))))))) ∧ ((frErr lfV n (fun (i : Nat) => (fun (j : Nat) => (gI (Value.int .i64 (g i j))))) s) ≠ (0 : Int)))))) ∧ (((n = n) ∧ (∀ (i : Nat), ((i < n) → (∀ (j : Nat), ((j < (2 : Nat)) → ((Value.int .i64 (g i j)) = (Value.int .i64 (gI (Value.int .i64 (g i j)))))))))) ∧ ((((n : Nat)) : Int) ≤ (9223372036854775807 : Int)))) ∧ True) ∧ ((decide ((0 : Int) < (((2 : Nat)) : Int))) = true)) ∧ ((0 : Int) = (Int.ofNat 0))) ∧ (((if ((256 : Nat) < n) then (5 : Int) else (feN (fun (i : Nat) => (lfV (gI (Value.int .i64 (g i 0))) (gI (Value.int .i64 (g i 1))))) n (0 : Nat))) != (0 : Int)) = false)) ∧ ((decide ((IntKind.i64.wrap ((0 : Int) + (1 : Int))) < (((2 : Nat)) : Int))) = true)) ∧ ((IntKind.i64.wrap ((0 : Int) + (1 : Int))) = (Int.ofNat 1))) ∧ (((Pl.cr s (- (1000000 : Int)) (1000000 : Int)) != (0 : Int)) = true)) ∧ ((IntKind.i64.wrap ((0 : Int) + (1 : Int))) = (Int.ofNat 1))) ∧ (((Pl.cr s (- (1000000 : Int)) (1000000 : Int)) == (0 : Int)) = false)) ∧ (((((0 : Nat)) : Int) != (((0 : Nat)) : Int)) = false)) ∧ ((decide ((0 : Int) < (((0 : Nat)) : Int))) = false)) ∧ (true = true)) ∧ (true = true)) ∧ (true = true)) ∧ (true = true)) ∧ (((frErr lfV n (fun (i : Nat) => (fun (j : Nat) => (gI (Value.int .i64 (g i j))))) s) == (Pl.cr s (- (1000000 : Int)) (1000000 : Int))) = true)) ∧ (((frErr lfV n (fun (i : Nat) => (fun (j : Nat) => (gI (Value.int .i64 (g i j))))) s) == (Pl.cr s (- (1000000 : Int)) (1000000 : Int))) = true))⟩) := by kernel_rfl
theorem lf_4eq : lf_4 n c g e s = some ((.bool true), wldOf (lf_4 n c g e s), 1023, 0, ⟨[], ((((((((((((((((((((((((((True ∧ ((decide ((((n : Nat)) : Int) > (24 : Int))) = false)) ∧ ((decide ((((n : Nat)) : Int) > (24 : Int))) = false)) ∧ ((decide ((((n : Nat)) : Int) > (24 : Int))) = false)) ∧ ((decide ((((n : Nat)) : Int) > (24 : Int))) = false)) ∧ (false = false)) ∧ ((n = n) ∧ ((n ≠ (0 : Nat)) ∧ ((n * 16) ≤ (140737488355328 : Nat))))) ∧ (((n = n) ∧ (∀ (i : Nat), ((i < n) → (∀ (j : Nat), ((j < (2 : Nat)) → ((Value.int .i64 (g i j)) = (Value.int .i64 (gI (Value.int .i64 (g i j)))))))))) ∧ (((((n : Nat)) : Int) ≤ (9223372036854775807 : Int)) ∧ ((∀ (i : Nat), ((i < n) → (((lfV (gI (Value.int .i64 (g i 0))) (gI (Value.int .i64 (g i 1)))) = (0 : Int)) → (Bg (1099511627776 : Int) (gI (Value.int .i64 (g i 0))) (gI (Value.int .i64 (g i 1))))))) ∧ ((frErr lfV n (fun (i : Nat) => (fun (j : Nat) => (gI (Value.int .i64 (g i j))))) s) ≠ (0 : Int)))))) ∧ (((n = n) ∧ (∀ (i : Nat), ((i < n) → (∀ (j : Nat), ((j < (2 : Nat)) → ((Value.int .i64 (g i j)) = (Value.int .i64 (gI (Value.int .i64 (g i j)))))))))) ∧ ((((n : Nat)) : Int) ≤ (9223372036854775807 : Int)))) ∧ True) ∧ ((decide ((0 : Int) < (((2 : Nat)) : Int))) = true)) ∧ ((0 : Int) = (Int.ofNat 0))) ∧ (((if ((256 : Nat) < n) then (5 : Int) else (feN (fun (i : Nat) => (lfV (gI (Value.int .i64 (g i 0))) (gI (Value.int .i64 (g i 1))))) n (0 : Nat))) != (0 : Int)) = false)) ∧ ((decide ((IntKind.i64.wrap ((0 : Int) + (1 : Int))) < (((2 : Nat)) : Int))) = true)) ∧ ((IntKind.i64.wrap ((0 : Int) + (1 : Int))) = (Int.ofNat 1))) ∧ (((Pl.cr s (- (1000000 : Int)) (1000000 : Int)) != (0 : Int)) = false)) ∧ ((decide ((IntKind.i64.wrap ((IntKind.i64.wrap ((0 : Int) + (1 : Int))) + (1 : Int))) < (((2 : Nat)) : Int))) = false)) ∧ (((0 : Int) == (0 : Int)) = true)) ∧ (((n = n) ∧ (∀ (i : Nat), ((i < n) → (∀ (j : Nat), ((j < (2 : Nat)) → ((Value.int .i64 (g i j)) = (Value.int .i64 (gI (Value.int .i64 (g i j)))))))))) ∧ ((n ≤ (256 : Nat)) ∧ ((∀ (i : Nat), ((i < n) → (Bg (1048576 : Int) (gI (Value.int .i64 (g i 0))) (gI (Value.int .i64 (g i 1)))))) ∧ ((rgErr n (fun (i : Nat) => (fun (j : Nat) => (gI (Value.int .i64 (g i j))))) s) ≠ (0 : Int)))))) ∧ (((((0 : Nat)) : Int) != (((0 : Nat)) : Int)) = false)) ∧ ((decide ((0 : Int) < (((0 : Nat)) : Int))) = false)) ∧ (true = true)) ∧ (true = true)) ∧ (true = true)) ∧ (true = true)) ∧ (((frErr lfV n (fun (i : Nat) => (fun (j : Nat) => (gI (Value.int .i64 (g i j))))) s) == (rgErr n (fun (i : Nat) => (fun (j : Nat) => (gI (Value.int .i64 (g i j))))) s)) = true)) ∧ (((frErr lfV n (fun (i : Nat) => (fun (j : Nat) => (gI (Value.int .i64 (g i j))))) s) == (rgErr n (fun (i : Nat) => (fun (j : Nat) => (gI (Value.int .i64 (g i j))))) s)) = true))⟩) := by kernel_rfl
theorem lf_5eq : lf_5 n c g e s = some ((.bool true), wldOf (lf_5 n c g e s), 1023, 0, ⟨[], ((((((((((((((((((((((True ∧ ((decide ((((n : Nat)) : Int) > (24 : Int))) = true)) ∧ ((decide ((((n : Nat)) : Int) > (24 : Int))) = true)) ∧ ((decide ((((n : Nat)) : Int) > (24 : Int))) = true)) ∧ ((decide ((((n : Nat)) : Int) > (24 : Int))) = true)) ∧ (((((n : Nat)) : Int) != (257 : Int)) = false)) ∧ ((n = n) ∧ ((n ≠ (0 : Nat)) ∧ ((n * 16) ≤ (140737488355328 : Nat))))) ∧ (((n = n) ∧ (∀ (i : Nat), ((i < n) → (∀ (j : Nat), ((j < (2 : Nat)) → ((Value.int .i64 (g i j)) = (Value.int .i64 (gI (Value.int .i64 (g i j)))))))))) ∧ (((((n : Nat)) : Int) ≤ (9223372036854775807 : Int)) ∧ ((∀ (i : Nat), ((i < n) → (((lfV (gI (Value.int .i64 (g i 0))) (gI (Value.int .i64 (g i 1)))) = (0 : Int)) → (Bg (1099511627776 : Int) (gI (Value.int .i64 (g i 0))) (gI (Value.int .i64 (g i 1))))))) ∧ ((frErr lfV n (fun (i : Nat) => (fun (j : Nat) => (gI (Value.int .i64 (g i j))))) s) ≠ (0 : Int)))))) ∧ (((n = n) ∧ (∀ (i : Nat), ((i < n) → (∀ (j : Nat), ((j < (2 : Nat)) → ((Value.int .i64 (g i j)) = (Value.int .i64 (gI (Value.int .i64 (g i j)))))))))) ∧ ((((n : Nat)) : Int) ≤ (9223372036854775807 : Int)))) ∧ True) ∧ ((decide ((0 : Int) < (((2 : Nat)) : Int))) = true)) ∧ ((0 : Int) = (Int.ofNat 0))) ∧ (((if ((256 : Nat) < n) then (5 : Int) else (feN (fun (i : Nat) => (lfV (gI (Value.int .i64 (g i 0))) (gI (Value.int .i64 (g i 1))))) n (0 : Nat))) != (0 : Int)) = true)) ∧ ((0 : Int) = (Int.ofNat 0))) ∧ (((if ((256 : Nat) < n) then (5 : Int) else (feN (fun (i : Nat) => (lfV (gI (Value.int .i64 (g i 0))) (gI (Value.int .i64 (g i 1))))) n (0 : Nat))) == (0 : Int)) = false)) ∧ (((((0 : Nat)) : Int) != (((0 : Nat)) : Int)) = false)) ∧ ((decide ((0 : Int) < (((0 : Nat)) : Int))) = false)) ∧ (true = true)) ∧ (true = true)) ∧ (true = true)) ∧ (true = true)) ∧ (((frErr lfV n (fun (i : Nat) => (fun (j : Nat) => (gI (Value.int .i64 (g i j))))) s) == (if ((256 : Nat) < n) then (5 : Int) else (feN (fun (i : Nat) => (lfV (gI (Value.int .i64 (g i 0))) (gI (Value.int .i64 (g i 1))))) n (0 : Nat)))) = true)) ∧ (((frErr lfV n (fun (i : Nat) => (fun (j : Nat) => (gI (Value.int .i64 (g i j))))) s) == (if ((256 : Nat) < n) then (5 : Int) else (feN (fun (i : Nat) => (lfV (gI (Value.int .i64 (g i 0))) (gI (Value.int .i64 (g i 1))))) n (0 : Nat)))) = true))⟩) := by kernel_rfl
theorem lf_n1eq : lf_n1 s = some ((.bool true), wldOf (lf_n1 s), 511, 0, ⟨[], ((((((((((((((((((((((((((True ∧ ((decide ((((0 : Nat)) : Int) > (24 : Int))) = false)) ∧ ((decide ((((0 : Nat)) : Int) > (24 : Int))) = false)) ∧ ((decide ((((0 : Nat)) : Int) > (24 : Int))) = false)) ∧ ((decide ((((0 : Nat)) : Int) > (24 : Int))) = false)) ∧ (false = false)) ∧ (((0 = 0) ∧ (∀ (i : Nat), ((i < (0 : Nat)) → (∀ (j : Nat), ((j < (2 : Nat)) → ((List.getD [] ((i * 2) + j) undef) = (Value.int .i64 (gI (List.getD [] ((i * 2) + j) undef))))))))) ∧ ((∀ (i : Nat), ((i < (0 : Nat)) → (((lfV (gI (List.getD [] ((i * 2) + 0) undef)) (gI (List.getD [] ((i * 2) + 1) undef))) = (0 : Int)) → (Bg (1099511627776 : Int) (gI (List.getD [] ((i * 2) + 0) undef)) (gI (List.getD [] ((i * 2) + 1) undef)))))) ∧ ((frErr lfV (0 : Nat) (fun (i : Nat) => (fun (j : Nat) => (gI (List.getD [] ((i * 2) + j) undef)))) s) = (Int.ofNat 0))))) ∧ ((decide ((((0 : Nat)) : Int) > (256 : Int))) = false)) ∧ ((decide ((0 : Int) < (((0 : Nat)) : Int))) = false)) ∧ True) ∧ ((decide ((0 : Int) < (((2 : Nat)) : Int))) = true)) ∧ ((0 : Int) = (Int.ofNat 0))) ∧ (((0 : Int) != (0 : Int)) = false)) ∧ ((decide ((IntKind.i64.wrap ((0 : Int) + (1 : Int))) < (((2 : Nat)) : Int))) = true)) ∧ ((IntKind.i64.wrap ((0 : Int) + (1 : Int))) = (Int.ofNat 1))) ∧ (((Pl.cr s (- (1000000 : Int)) (1000000 : Int)) != (0 : Int)) = false)) ∧ ((decide ((IntKind.i64.wrap ((IntKind.i64.wrap ((0 : Int) + (1 : Int))) + (1 : Int))) < (((2 : Nat)) : Int))) = false)) ∧ (((0 : Int) == (0 : Int)) = true)) ∧ ((decide ((0 : Int) < (((0 : Nat)) : Int))) = false)) ∧ (((((0 : Nat)) : Int) != (((0 : Nat)) : Int)) = false)) ∧ ((decide ((0 : Int) < (((0 : Nat)) : Int))) = false)) ∧ (true = true)) ∧ (true = true)) ∧ (true = true)) ∧ (true = true)) ∧ (((0 : Int) == (0 : Int)) = true)) ∧ (((0 : Int) == (0 : Int)) = true))⟩) := by kernel_rfl
theorem lf_n2eq : lf_n2 s = some ((.bool true), wldOf (lf_n2 s), 511, 0, ⟨[], (((((((((((((((((((((((((True ∧ ((decide ((((0 : Nat)) : Int) > (24 : Int))) = false)) ∧ ((decide ((((0 : Nat)) : Int) > (24 : Int))) = false)) ∧ ((decide ((((0 : Nat)) : Int) > (24 : Int))) = false)) ∧ ((decide ((((0 : Nat)) : Int) > (24 : Int))) = false)) ∧ (false = false)) ∧ (((0 = 0) ∧ (∀ (i : Nat), ((i < (0 : Nat)) → (∀ (j : Nat), ((j < (2 : Nat)) → ((List.getD [] ((i * 2) + j) undef) = (Value.int .i64 (gI (List.getD [] ((i * 2) + j) undef))))))))) ∧ (((((0 : Nat)) : Int) ≤ (9223372036854775807 : Int)) ∧ ((∀ (i : Nat), ((i < (0 : Nat)) → (((lfV (gI (List.getD [] ((i * 2) + 0) undef)) (gI (List.getD [] ((i * 2) + 1) undef))) = (0 : Int)) → (Bg (1099511627776 : Int) (gI (List.getD [] ((i * 2) + 0) undef)) (gI (List.getD [] ((i * 2) + 1) undef)))))) ∧ ((frErr lfV (0 : Nat) (fun (i : Nat) => (fun (j : Nat) => (gI (List.getD [] ((i * 2) + j) undef)))) s) ≠ (0 : Int)))))) ∧ ((decide ((((0 : Nat)) : Int) > (256 : Int))) = false)) ∧ ((decide ((0 : Int) < (((0 : Nat)) : Int))) = false)) ∧ True) ∧ ((decide ((0 : Int) < (((2 : Nat)) : Int))) = true)) ∧ ((0 : Int) = (Int.ofNat 0))) ∧ (((0 : Int) != (0 : Int)) = false)) ∧ ((decide ((IntKind.i64.wrap ((0 : Int) + (1 : Int))) < (((2 : Nat)) : Int))) = true)) ∧ ((IntKind.i64.wrap ((0 : Int) + (1 : Int))) = (Int.ofNat 1))) ∧ (((Pl.cr s (- (1000000 : Int)) (1000000 : Int)) != (0 : Int)) = true)) ∧ ((IntKind.i64.wrap ((0 : Int) + (1 : Int))) = (Int.ofNat 1))) ∧ (((Pl.cr s (- (1000000 : Int)) (1000000 : Int)) == (0 : Int)) = false)) ∧ (((((0 : Nat)) : Int) != (((0 : Nat)) : Int)) = false)) ∧ ((decide ((0 : Int) < (((0 : Nat)) : Int))) = false)) ∧ (true = true)) ∧ (true = true)) ∧ (true = true)) ∧ (true = true)) ∧ (((frErr lfV (0 : Nat) (fun (i : Nat) => (fun (j : Nat) => (gI (List.getD [] ((i * 2) + j) undef)))) s) == (Pl.cr s (- (1000000 : Int)) (1000000 : Int))) = true)) ∧ (((frErr lfV (0 : Nat) (fun (i : Nat) => (fun (j : Nat) => (gI (List.getD [] ((i * 2) + j) undef)))) s) == (Pl.cr s (- (1000000 : Int)) (1000000 : Int))) = true))⟩) := by kernel_rfl
theorem lf_e1eq : lf_e1 c s = some ((.bool true), wldOf (lf_e1 c s), 511, 0, ⟨[], ((((((((((((((((((((((((((True ∧ ((decide ((((0 : Nat)) : Int) > (24 : Int))) = false)) ∧ ((decide ((((0 : Nat)) : Int) > (24 : Int))) = false)) ∧ ((decide ((((0 : Nat)) : Int) > (24 : Int))) = false)) ∧ ((decide ((((0 : Nat)) : Int) > (24 : Int))) = false)) ∧ (false = false)) ∧ (((0 = 0) ∧ (∀ (i : Nat), ((i < (0 : Nat)) → (∀ (j : Nat), ((j < (2 : Nat)) → ((List.getD [] ((i * 2) + j) undef) = (Value.int .i64 (gI (List.getD [] ((i * 2) + j) undef))))))))) ∧ ((∀ (i : Nat), ((i < (0 : Nat)) → (((lfV (gI (List.getD [] ((i * 2) + 0) undef)) (gI (List.getD [] ((i * 2) + 1) undef))) = (0 : Int)) → (Bg (1099511627776 : Int) (gI (List.getD [] ((i * 2) + 0) undef)) (gI (List.getD [] ((i * 2) + 1) undef)))))) ∧ ((frErr lfV (0 : Nat) (fun (i : Nat) => (fun (j : Nat) => (gI (List.getD [] ((i * 2) + j) undef)))) s) = (Int.ofNat 0))))) ∧ ((decide ((((0 : Nat)) : Int) > (256 : Int))) = false)) ∧ ((decide ((0 : Int) < (((0 : Nat)) : Int))) = false)) ∧ True) ∧ ((decide ((0 : Int) < (((2 : Nat)) : Int))) = true)) ∧ ((0 : Int) = (Int.ofNat 0))) ∧ (((0 : Int) != (0 : Int)) = false)) ∧ ((decide ((IntKind.i64.wrap ((0 : Int) + (1 : Int))) < (((2 : Nat)) : Int))) = true)) ∧ ((IntKind.i64.wrap ((0 : Int) + (1 : Int))) = (Int.ofNat 1))) ∧ (((Pl.cr s (- (1000000 : Int)) (1000000 : Int)) != (0 : Int)) = false)) ∧ ((decide ((IntKind.i64.wrap ((IntKind.i64.wrap ((0 : Int) + (1 : Int))) + (1 : Int))) < (((2 : Nat)) : Int))) = false)) ∧ (((0 : Int) == (0 : Int)) = true)) ∧ ((decide ((0 : Int) < (((0 : Nat)) : Int))) = false)) ∧ (((((0 : Nat)) : Int) != (((0 : Nat)) : Int)) = false)) ∧ ((decide ((0 : Int) < (((0 : Nat)) : Int))) = false)) ∧ (true = true)) ∧ (true = true)) ∧ (true = true)) ∧ (true = true)) ∧ (((0 : Int) == (0 : Int)) = true)) ∧ (((0 : Int) == (0 : Int)) = true))⟩) := by kernel_rfl
theorem lf_e2eq : lf_e2 c s = some ((.bool true), wldOf (lf_e2 c s), 511, 0, ⟨[], (((((((((((((((((((((((((True ∧ ((decide ((((0 : Nat)) : Int) > (24 : Int))) = false)) ∧ ((decide ((((0 : Nat)) : Int) > (24 : Int))) = false)) ∧ ((decide ((((0 : Nat)) : Int) > (24 : Int))) = false)) ∧ ((decide ((((0 : Nat)) : Int) > (24 : Int))) = false)) ∧ (false = false)) ∧ (((0 = 0) ∧ (∀ (i : Nat), ((i < (0 : Nat)) → (∀ (j : Nat), ((j < (2 : Nat)) → ((List.getD [] ((i * 2) + j) undef) = (Value.int .i64 (gI (List.getD [] ((i * 2) + j) undef))))))))) ∧ (((((0 : Nat)) : Int) ≤ (9223372036854775807 : Int)) ∧ ((∀ (i : Nat), ((i < (0 : Nat)) → (((lfV (gI (List.getD [] ((i * 2) + 0) undef)) (gI (List.getD [] ((i * 2) + 1) undef))) = (0 : Int)) → (Bg (1099511627776 : Int) (gI (List.getD [] ((i * 2) + 0) undef)) (gI (List.getD [] ((i * 2) + 1) undef)))))) ∧ ((frErr lfV (0 : Nat) (fun (i : Nat) => (fun (j : Nat) => (gI (List.getD [] ((i * 2) + j) undef)))) s) ≠ (0 : Int)))))) ∧ ((decide ((((0 : Nat)) : Int) > (256 : Int))) = false)) ∧ ((decide ((0 : Int) < (((0 : Nat)) : Int))) = false)) ∧ True) ∧ ((decide ((0 : Int) < (((2 : Nat)) : Int))) = true)) ∧ ((0 : Int) = (Int.ofNat 0))) ∧ (((0 : Int) != (0 : Int)) = false)) ∧ ((decide ((IntKind.i64.wrap ((0 : Int) + (1 : Int))) < (((2 : Nat)) : Int))) = true)) ∧ ((IntKind.i64.wrap ((0 : Int) + (1 : Int))) = (Int.ofNat 1))) ∧ (((Pl.cr s (- (1000000 : Int)) (1000000 : Int)) != (0 : Int)) = true)) ∧ ((IntKind.i64.wrap ((0 : Int) + (1 : Int))) = (Int.ofNat 1))) ∧ (((Pl.cr s (- (1000000 : Int)) (1000000 : Int)) == (0 : Int)) = false)) ∧ (((((0 : Nat)) : Int) != (((0 : Nat)) : Int)) = false)) ∧ ((decide ((0 : Int) < (((0 : Nat)) : Int))) = false)) ∧ (true = true)) ∧ (true = true)) ∧ (true = true)) ∧ (true = true)) ∧ (((frErr lfV (0 : Nat) (fun (i : Nat) => (fun (j : Nat) => (gI (List.getD [] ((i * 2) + j) undef)))) s) == (Pl.cr s (- (1000000 : Int)) (1000000 : Int))) = true)) ∧ (((frErr lfV (0 : Nat) (fun (i : Nat) => (fun (j : Nat) => (gI (List.getD [] ((i * 2) + j) undef)))) s) == (Pl.cr s (- (1000000 : Int)) (1000000 : Int))) = true))⟩) := by kernel_rfl
end
theorem lfQ {s : Int} {i : Nat} (hs : -1000000 ≤ s ∧ s ≤ 1000000) (hi : i < 256) : frQ s i = rgQ s i := by
  have hb : -(1000000 * 256) ≤ s * (i : Int) ∧ s * (i : Int) ≤ 1000000 * 256 := mul_bd2 1000000 256 s i (by decide) (by decide) hs.1 hs.2 (by omega) (by omega)
  have hm : (0 - s) * (i : Int) = 0 - s * (i : Int) := by rw [Int.sub_mul, Int.zero_mul]
  unfold frQ rgQ
  rw [wi (0 - s) (by omega), wi (s * (i : Int)) (by omega), hm]
theorem lfT {s : Int} {g : Nat → Nat → Int} {i : Nat} (hs : -1000000 ≤ s ∧ s ≤ 1000000) (hi : i < 256) : frT g s i = rgT g s i := by unfold frT rgT; rw [lfQ hs hi]
theorem feN_congr {g h : Nat → Int} : ∀ (m i : Nat), (∀ k, i ≤ k → k < i + m → g k = h k) → feN g m i = feN h m i
  | 0, i, _ => rfl
  | m + 1, i, hk => by
    rw [feN, feN, hk i (Nat.le_refl _) (by omega), feN_congr m (i + 1) fun k h1 h2 => hk k (by omega) (by omega)]
theorem lfCr {s : Int} (h : Pl.cr s (-1000000) 1000000 = 0) : -1000000 ≤ s ∧ s ≤ 1000000 := by
  unfold Pl.cr at h
  split at h
  · cases h
  · omega
theorem lfBg {a b m : Int} (hm : 1048576 ≤ m) (h : lfV a b = 0) : Bg m a b := bg_of h hm
theorem lf_true {n : Nat} (c : Nat) (g : Nat → Nat → Int) (e : TypeId) (s : Int) (h0 : 0 < n) : ∃ s1 R, SndF Tryz.prog 3 (lfArgs n c s) (lfS n g e) (.bool true) s1 R 0 := by
  by_cases hA : 24 < n ∧ n ≠ 257
  · exact ⟨_, _, (evFS_ok smx lfX_ok 1000 _ _ _ _ _ _ _ _ _ (show evFS _ _ _ _ _ _ _ = _ from lf_Aeq n c g e s)).2 (by
      obtain ⟨a1, a2⟩ := hA
      repeat' (first | (with_reducible assumption) | apply And.intro)
      all_goals first | trivial | rfl | exact decide_eq_true (by omega) | exact decide_eq_false (by omega) | exact (fun _ _ _ _ => rfl) | omega | exact bne_iff_ne.2 (by omega))⟩
  have hn : n ≤ 257 := by omega
  have hbg : ∀ i, i < n → lfV (g i 0) (g i 1) = 0 → Bg 1099511627776 (g i 0) (g i 1) := fun i _ h => lfBg (by decide) h
  by_cases h257 : n = 257
  · have hE : frErr lfV n g s = 5 := by unfold frErr; rw [if_pos (by omega)]
    exact ⟨_, _, (evFS_ok smx lfX_ok 1000 _ _ _ _ _ _ _ _ _ (show evFS _ _ _ _ _ _ _ = _ from lf_5eq n c g e s)).2 (by
      repeat' (first | (with_reducible assumption) | apply And.intro)
      all_goals first | trivial | rfl | exact decide_eq_true (by omega) | exact decide_eq_false (by omega) | exact (fun _ _ _ _ => rfl) | exact (fun i hi hq => hbg i hi hq) | omega | exact bne_eq_false_iff_eq.2 (by omega) | (show frErr lfV n g s ≠ 0; rw [hE]; decide) | (rw [if_pos (show 256 < n by omega)]; rfl) | (rw [if_pos (show 256 < n by omega)]; exact beq_iff_eq.2 hE))⟩
  have hn : n ≤ 24 := by omega
  by_cases hU : feN (fun i => lfV (g i 0) (g i 1)) n 0 = 0
  · have hv := feN_zero hU
    have hbg2 : ∀ i, i < n → Bg 1048576 (g i 0) (g i 1) := fun i hi => lfBg (by decide) (hv i hi)
    by_cases hC : Pl.cr s (-1000000) 1000000 = 0
    · have hs := lfCr hC
      have hE : frErr lfV n g s = rgErr n g s := by
        unfold frErr rgErr
        rw [if_neg (by omega), if_neg (by simpa [frU1] using hU), if_neg (by simpa [frU2] using hC)]
        exact feN_congr n 0 fun k _ hk => by rw [lfT hs (by omega)]
      by_cases hr : rgErr n g s = 0
      · have hr2 := hE.trans hr
        have hsame : sameE (frI g s) (rgI g s) n := fun i hi => by
          unfold frI rgI
          rw [lfT hs (by omega)]
          exact ⟨rfl, rfl⟩
        exact ⟨_, _, (evFS_ok smx lfX_ok 1000 _ _ _ _ _ _ _ _ _ (show evFS _ _ _ _ _ _ _ = _ from lf_1eq n c g e s)).2 (by
      repeat' (first | (with_reducible assumption) | apply And.intro)
      all_goals first | trivial | rfl | exact decide_eq_true (by omega) | exact decide_eq_false (by omega) | exact (fun _ _ _ _ => rfl) | exact (fun i hi hq => hbg i hi hq) | omega | (rw [if_neg (show ¬ 256 < n by omega)]; exact bne_eq_false_iff_eq.2 hU) | (rw [if_neg (show ¬ 256 < n by omega)]; exact bne_iff_ne.2 hU) | (rw [if_neg (show ¬ 256 < n by omega)]; exact beq_eq_false_iff_ne.2 hU) | exact hr2 | exact hr | exact bne_eq_false_iff_eq.2 hC | exact (fun i hi => hbg2 i hi) | exact decide_eq_true ⟨rfl, hsame⟩)⟩
      · have hr2 : frErr lfV n g s ≠ 0 := by rw [hE]; exact hr
        exact ⟨_, _, (evFS_ok smx lfX_ok 1000 _ _ _ _ _ _ _ _ _ (show evFS _ _ _ _ _ _ _ = _ from lf_4eq n c g e s)).2 (by
      repeat' (first | (with_reducible assumption) | apply And.intro)
      all_goals first | trivial | rfl | exact decide_eq_true (by omega) | exact decide_eq_false (by omega) | exact (fun _ _ _ _ => rfl) | exact (fun i hi hq => hbg i hi hq) | omega | (rw [if_neg (show ¬ 256 < n by omega)]; exact bne_eq_false_iff_eq.2 hU) | (rw [if_neg (show ¬ 256 < n by omega)]; exact bne_iff_ne.2 hU) | (rw [if_neg (show ¬ 256 < n by omega)]; exact beq_eq_false_iff_ne.2 hU) | exact hr2 | exact hr | exact bne_eq_false_iff_eq.2 hC | exact (fun i hi => hbg2 i hi) | exact beq_iff_eq.2 hE)⟩
    · have hE : frErr lfV n g s = Pl.cr s (-1000000) 1000000 := by
        unfold frErr
        rw [if_neg (by omega), if_neg (by simpa [frU1] using hU), if_pos (by simpa [frU2] using hC)]; rfl
      have hr2 : frErr lfV n g s ≠ 0 := by rw [hE]; exact hC
      exact ⟨_, _, (evFS_ok smx lfX_ok 1000 _ _ _ _ _ _ _ _ _ (show evFS _ _ _ _ _ _ _ = _ from lf_3eq n c g e s)).2 (by
      repeat' (first | (with_reducible assumption) | apply And.intro)
      all_goals first | trivial | rfl | exact decide_eq_true (by omega) | exact decide_eq_false (by omega) | exact (fun _ _ _ _ => rfl) | exact (fun i hi hq => hbg i hi hq) | omega | (rw [if_neg (show ¬ 256 < n by omega)]; exact bne_eq_false_iff_eq.2 hU) | (rw [if_neg (show ¬ 256 < n by omega)]; exact bne_iff_ne.2 hU) | (rw [if_neg (show ¬ 256 < n by omega)]; exact beq_eq_false_iff_ne.2 hU) | exact hr2 | exact bne_iff_ne.2 hC | exact beq_eq_false_iff_ne.2 hC | exact beq_iff_eq.2 hE)⟩
  · have hE : frErr lfV n g s = feN (fun i => lfV (g i 0) (g i 1)) n 0 := by
      unfold frErr
      rw [if_neg (by omega), if_pos (by simpa [frU1] using hU)]; rfl
    have hr2 : frErr lfV n g s ≠ 0 := by rw [hE]; exact hU
    exact ⟨_, _, (evFS_ok smx lfX_ok 1000 _ _ _ _ _ _ _ _ _ (show evFS _ _ _ _ _ _ _ = _ from lf_2eq n c g e s)).2 (by
      repeat' (first | (with_reducible assumption) | apply And.intro)
      all_goals first | trivial | rfl | exact decide_eq_true (by omega) | exact decide_eq_false (by omega) | exact (fun _ _ _ _ => rfl) | exact (fun i hi hq => hbg i hi hq) | omega | (rw [if_neg (show ¬ 256 < n by omega)]; exact bne_eq_false_iff_eq.2 hU) | (rw [if_neg (show ¬ 256 < n by omega)]; exact bne_iff_ne.2 hU) | (rw [if_neg (show ¬ 256 < n by omega)]; exact beq_eq_false_iff_ne.2 hU) | exact hr2 | (rw [if_neg (show ¬ 256 < n by omega)]; exact beq_iff_eq.2 hE))⟩
theorem frErr0 (v : Int → Int → Int) (g : Nat → Nat → Int) (s : Int) : frErr v 0 g s = Pl.cr s (-1000000) 1000000 := by
  unfold frErr
  rw [if_neg (by omega), if_neg (by simp [frU1, feN])]
  by_cases h : frU2 s = 0
  · rw [if_neg (by simpa using h)]; exact h.symm
  · rw [if_pos (by simpa using h)]; rfl
theorem lf_nil (s : Int) : ∃ s1 R, SndF Tryz.prog 3 #[.slice none 0 0, .int .i64 s] awS0 (.bool true) s1 R 0 := by
  by_cases hC : Pl.cr s (-1000000) 1000000 = 0
  · exact ⟨_, _, (evFS_ok smx lfX_ok 1000 _ _ _ _ _ _ _ _ _ (show evFS _ _ _ _ _ _ _ = _ from lf_n1eq s)).2 (by
      repeat' (first | (with_reducible assumption) | apply And.intro)
      all_goals first | trivial | rfl | exact decide_eq_true (by omega) | exact decide_eq_false (by omega) | exact (fun i hi => absurd hi (Nat.not_lt_zero i)) | omega | exact bne_eq_false_iff_eq.2 hC | exact bne_iff_ne.2 hC | exact beq_eq_false_iff_ne.2 hC | exact (frErr0 _ _ _).trans hC | (rw [frErr0]; exact hC) | (rw [frErr0]; exact beq_iff_eq.2 rfl) | (rw [frErr0, hC]; rfl))⟩
  · exact ⟨_, _, (evFS_ok smx lfX_ok 1000 _ _ _ _ _ _ _ _ _ (show evFS _ _ _ _ _ _ _ = _ from lf_n2eq s)).2 (by
      repeat' (first | (with_reducible assumption) | apply And.intro)
      all_goals first | trivial | rfl | exact decide_eq_true (by omega) | exact decide_eq_false (by omega) | exact (fun i hi => absurd hi (Nat.not_lt_zero i)) | omega | exact bne_eq_false_iff_eq.2 hC | exact bne_iff_ne.2 hC | exact beq_eq_false_iff_ne.2 hC | exact (frErr0 _ _ _).trans hC | (rw [frErr0]; exact hC) | (rw [frErr0]; exact beq_iff_eq.2 rfl) | (rw [frErr0, hC]; rfl))⟩
theorem lf_emp (c : Nat) (s : Int) : ∃ s1 R, SndF Tryz.prog 3 (lfArgs 0 c s) (awS0.push .hole) (.bool true) s1 R 0 := by
  by_cases hC : Pl.cr s (-1000000) 1000000 = 0
  · exact ⟨_, _, (evFS_ok smx lfX_ok 1000 _ _ _ _ _ _ _ _ _ (show evFS _ _ _ _ _ _ _ = _ from lf_e1eq c s)).2 (by
      repeat' (first | (with_reducible assumption) | apply And.intro)
      all_goals first | trivial | rfl | exact decide_eq_true (by omega) | exact decide_eq_false (by omega) | exact (fun i hi => absurd hi (Nat.not_lt_zero i)) | omega | exact bne_eq_false_iff_eq.2 hC | exact bne_iff_ne.2 hC | exact beq_eq_false_iff_ne.2 hC | exact (frErr0 _ _ _).trans hC | (rw [frErr0]; exact hC) | (rw [frErr0]; exact beq_iff_eq.2 rfl) | (rw [frErr0, hC]; rfl))⟩
  · exact ⟨_, _, (evFS_ok smx lfX_ok 1000 _ _ _ _ _ _ _ _ _ (show evFS _ _ _ _ _ _ _ = _ from lf_e2eq c s)).2 (by
      repeat' (first | (with_reducible assumption) | apply And.intro)
      all_goals first | trivial | rfl | exact decide_eq_true (by omega) | exact decide_eq_false (by omega) | exact (fun i hi => absurd hi (Nat.not_lt_zero i)) | omega | exact bne_eq_false_iff_eq.2 hC | exact bne_iff_ne.2 hC | exact beq_eq_false_iff_ne.2 hC | exact (frErr0 _ _ _).trans hC | (rw [frErr0]; exact hC) | (rw [frErr0]; exact beq_iff_eq.2 rfl) | (rw [frErr0, hC]; rfl))⟩
end Go.Proofs.YtffllmdjpeigbaaGreatDoor
end
section
namespace Go.Proofs.YtffllmdjpeigbaaGreatDoor
set_option linter.all false
open Go.ChangeShapes Go.WideShapes Go.RowKit
namespace Mini

def pairsK (g : TypeId → Option (List IntKind)) (P : Program) : Nat → List (Nat × TypeId) → Option (List IntKind)
  | _, [] => some []
  | off, x :: l => match g x.2 with
    | some ks => match (x.1 == off) && (P.cellsOf x.2 == ks.length) with
      | true => match pairsK g P (off + ks.length) l with
        | some r => some (ks ++ r)
        | none => none
      | false => none
    | none => none
def kindsT (P : Program) : Nat → TypeId → Option (List IntKind)
  | 0, _ => none
  | n + 1, t => match P.underlying t with
    | some (.int k) => some [k]
    | some (.array m e) => match pairsK (kindsT P n) P 0 ((List.range m).map fun i => (i * P.cellsOf e, e)) with
      | some ks => match P.cellsOf t == ks.length with
        | true => some ks
        | false => none
      | none => none
    | some (.struct fs) => match pairsK (kindsT P n) P 0 (fs.toList.map fun f => (f.offset, f.type)) with
      | some ks => match P.cellsOf t == ks.length with
        | true => some ks
        | false => none
      | none => none
    | _ => none
def wfs : List IntKind → List Int → Bool
  | k :: ks, n :: ns => (Lit.int k n).wf && wfs ks ns
  | _, _ => true
theorem backI_length : ∀ (ks : List IntKind) (ns : List Int), ns.length = ks.length → (backI ks ns).length = ks.length
  | [], [], _ => rfl
  | k :: ks, n :: ns, h => by simp only [backI, List.length_cons, backI_length ks ns (by simpa using h)]
  | [], n :: ns, h => by cases h
  | k :: ks, [], h => by cases h
theorem backI_append : ∀ (ks ks' : List IntKind) (ns ns' : List Int), ns.length = ks.length → backI (ks ++ ks') (ns ++ ns') = backI ks ns ++ backI ks' ns'
  | [], ks', [], ns', _ => rfl
  | k :: ks, ks', n :: ns, ns', h => by
    show Value.int k n :: backI (ks ++ ks') (ns ++ ns') = _
    rw [backI_append ks ks' ns ns' (by simpa using h)]
    rfl
  | [], ks', n :: ns, ns', h => by cases h
  | k :: ks, ks', [], ns', h => by cases h
theorem wfs_append : ∀ (ks ks' : List IntKind) (ns ns' : List Int), ns.length = ks.length → wfs ks ns = true → wfs ks' ns' = true → wfs (ks ++ ks') (ns ++ ns') = true
  | [], ks', [], ns', _, _, h => h
  | k :: ks, ks', n :: ns, ns', h, h1, h2 => by
    simp only [wfs, Bool.and_eq_true] at h1
    show ((Lit.int k n).wf && wfs (ks ++ ks') (ns ++ ns')) = true
    rw [h1.1, wfs_append ks ks' ns ns' (by simpa using h) h1.2 h2]
    rfl
  | [], ks', n :: ns, ns', h, _, _ => by cases h
  | k :: ks, ks', [], ns', h, _, _ => by cases h
theorem mapM_map' {α β γ : Type} (f : α → β) (g : β → Option γ) : ∀ l : List α, (l.map f).mapM g = l.mapM fun a => g (f a)
  | [] => rfl
  | a :: l => by simp [List.mapM_cons, mapM_map' f g l]

section
variable {H : Type} {enc : TypeId × Value → H} {P : Program}

/-- What opening a value of such a type says. -/
def Flat (enc : TypeId × Value → H) (P : Program) (fuel : Nat) (t : TypeId) (cs : List Value) (d : DataW H) (ks : List IntKind) : Prop :=
  ∃ ns, ns.length = ks.length ∧ cs = backI ks ns ∧ wfs ks ns = true ∧ ∀ w b sp held, DataW.trod enc P w b sp held fuel t cs = some (d, [])
theorem flat_pairs {n fuel : Nat} (IH : ∀ (t : TypeId) (ks : List IntKind), kindsT P n t = some ks → ∀ (cs : List Value) (d : DataW H) (p : List MemPlace) w b sp held, DataW.trod enc P w b sp held fuel t cs = some (d, p) → p = [] ∧ Flat enc P fuel t cs d ks) :
    ∀ (L : List (Nat × TypeId)) (off : Nat) (ks : List IntKind) (cs : List Value) (xs : List (DataW H × List MemPlace)) (w : World) (b : Nat) (sp : Nat → Bool) (held : Bool), pairsK (kindsT P n) P off L = some ks → off + ks.length ≤ cs.length →
      L.mapM (fun x => DataW.trod enc P w b sp held fuel x.2 ((cs.drop x.1).take (P.cellsOf x.2))) = some xs →
      xs.flatMap (·.2) = [] ∧ ∃ ns, ns.length = ks.length ∧ (cs.drop off).take ks.length = backI ks ns ∧ wfs ks ns = true ∧ ∀ w b sp held, L.mapM (fun x => DataW.trod enc P w b sp held fuel x.2 ((cs.drop x.1).take (P.cellsOf x.2))) = some xs
  | [], off, ks, cs, xs, w, b, sp, held, hk, hl, hm => by
    cases hk
    simp at hm
    subst hm
    exact ⟨rfl, [], rfl, by simp [backI], rfl, fun _ _ _ _ => rfl⟩
  | x :: L, off, ks, cs, xs, w, b, sp, held, hk, hl, hm => by
    simp only [pairsK] at hk
    split at hk
    · rename_i ks1 hk1
      split at hk
      · rename_i hc
        simp only [Bool.and_eq_true, beq_iff_eq] at hc
        obtain ⟨hx, hcell⟩ := hc
        split at hk
        · rename_i r hr
          cases hk
          simp only [List.length_append] at hl
          simp only [List.mapM_cons, Option.bind_eq_bind, Option.bind_eq_some_iff, Option.pure_def, Option.some.injEq] at hm
          obtain ⟨y, hy, ys, hys, rfl⟩ := hm
          obtain ⟨d, p⟩ := y
          obtain ⟨rfl, ns1, l1, c1, f1, t1⟩ := IH x.2 ks1 hk1 _ d p w b sp held hy
          obtain ⟨e2, ns2, l2, c2, f2, t2⟩ := flat_pairs IH L (off + ks1.length) r cs ys w b sp held hr (by omega) hys
          refine ⟨by simpa using e2, ns1 ++ ns2, by simp [l1, l2], ?_, wfs_append _ _ _ _ l1 f1 f2, fun w' b' sp' held' => ?_⟩
          · rw [backI_append _ _ _ _ l1, ← c2, List.length_append, List.take_add, List.drop_drop]
            rw [hx, hcell] at c1
            rw [c1]
          · simp only [List.mapM_cons, Option.bind_eq_bind, Option.pure_def]
            rw [t1 w' b' sp' held', t2 w' b' sp' held']
            rfl
        · cases hk
      · cases hk
    · cases hk
theorem open_kinds : ∀ (n : Nat) (t : TypeId) (ks : List IntKind), kindsT P n t = some ks → ∀ (fuel : Nat) (cs : List Value) (d : DataW H) (p : List MemPlace) w b sp held, DataW.trod enc P w b sp held fuel t cs = some (d, p) → p = [] ∧ Flat enc P fuel t cs d ks
  | 0, t, ks, hk, fuel, cs, d, p, w, b, sp, held, h => by cases hk
  | n + 1, t, ks, hk, fuel, cs, d, p, w, b, sp, held, h => by
    cases fuel with
    | zero => simp [DataW.trod] at h
    | succ fuel =>
      simp only [kindsT] at hk
      split at hk
      · rename_i k ht
        cases hk
        obtain ⟨z, rfl, hx, hw⟩ := DataW.trod_int ht h
        cases hx
        refine ⟨rfl, [z], rfl, rfl, by simp [wfs, hw], fun w' b' sp' held' => ?_⟩
        simp [DataW.trod, ht, hw]
      · rename_i m e ht
        split at hk
        · rename_i ks' hk'
          split at hk
          · rename_i hc
            cases hk
            have hc := beq_iff_eq.1 hc
            simp only [DataW.trod, ht] at h
            split at h
            · rename_i hl
              obtain ⟨xs, hm, hx⟩ := Option.map_eq_some_iff.1 h
              have hm2 : ((List.range m).map fun i => (i * P.cellsOf e, e)).mapM (fun x => DataW.trod enc P w b sp held fuel x.2 ((cs.drop x.1).take (P.cellsOf x.2))) = some xs := by rw [mapM_map']; exact hm
              obtain ⟨e1, ns, l1, c1, f1, t1⟩ := flat_pairs (fun t ks hk cs d p w b sp held h => open_kinds n t ks hk fuel cs d p w b sp held h) _ 0 ks cs xs w b sp held hk' (by omega) hm2
              simp only [Prod.mk.injEq] at hx
              obtain ⟨rfl, rfl⟩ := hx
              refine ⟨e1, ns, l1, ?_, f1, fun w' b' sp' held' => ?_⟩
              · rw [← c1, List.drop_zero, List.take_of_length_le (by omega)]
              · have := t1 w' b' sp' held'
                rw [mapM_map'] at this
                simp only [DataW.trod, ht, if_pos hl]
                rw [this]
                simp [e1]
            · cases h
          · cases hk
        · cases hk
      · rename_i fs ht
        split at hk
        · rename_i ks' hk'
          split at hk
          · rename_i hc
            cases hk
            have hc := beq_iff_eq.1 hc
            simp only [DataW.trod, ht] at h
            split at h
            · rename_i hl
              obtain ⟨xs, hm, hx⟩ := Option.map_eq_some_iff.1 h
              have hm2 : (fs.toList.map fun f => (f.offset, f.type)).mapM (fun x => DataW.trod enc P w b sp held fuel x.2 ((cs.drop x.1).take (P.cellsOf x.2))) = some xs := by rw [mapM_map']; exact hm
              obtain ⟨e1, ns, l1, c1, f1, t1⟩ := flat_pairs (fun t ks hk cs d p w b sp held h => open_kinds n t ks hk fuel cs d p w b sp held h) _ 0 ks cs xs w b sp held hk' (by omega) hm2
              simp only [Prod.mk.injEq] at hx
              obtain ⟨rfl, rfl⟩ := hx
              refine ⟨e1, ns, l1, ?_, f1, fun w' b' sp' held' => ?_⟩
              · rw [← c1, List.drop_zero, List.take_of_length_le (by omega)]
              · have := t1 w' b' sp' held'
                rw [mapM_map'] at this
                simp only [DataW.trod, ht, if_pos hl]
                rw [this]
                simp [e1]
            · cases h
          · cases hk
        · cases hk
      · cases hk
/-- An array or a struct of integers. -/
def isRow (P : Program) (t : TypeId) : Bool := match P.underlying t with
  | some (.struct _) | some (.array _ _) => true
  | _ => false
theorem open_agg {w : World} {base b0 n : Nat} {spare : Nat → Bool} {held : Bool} {r : Reach} {t : TypeId} {v : Value} {d : DataW H} {ps : List MemPlace} {ks : List IntKind} (hr : isRow P t = true) (hk : kindsT P n t = some ks) (hval : Value.okWide P w r b0 t v) (hd : DataW.Trod enc P w base spare held t v d ps) :
    ∃ ns, ns.length = ks.length ∧ v = .agg (backI ks ns).toArray ∧ ps = [] ∧ wfs ks ns = true ∧ ∀ w b sp held, DataW.Trod enc P w b sp held t v d [] := by
  obtain ⟨cs, rfl⟩ : ∃ cs, v = .agg cs := by
    unfold isRow at hr
    unfold Value.okWide at hval
    split at hr
    · rename_i h; rw [h] at hval; obtain ⟨cs, h1, _⟩ := hval; exact ⟨cs, h1⟩
    · rename_i h; rw [h] at hval; obtain ⟨cs, h1, _⟩ := hval; exact ⟨cs, h1⟩
    · cases hr
  obtain ⟨fuel, hf⟩ := hd
  obtain ⟨rfl, ns, l1, c1, f1, t1⟩ := open_kinds n t ks hk fuel _ d ps w base spare held hf
  refine ⟨ns, l1, ?_, rfl, f1, fun w b sp held => ⟨fuel, t1 w b sp held⟩⟩
  congr 1
  apply Array.ext'
  simpa [Value.cells] using c1
theorem open_num {w : World} {base b0 : Nat} {spare : Nat → Bool} {held : Bool} {r : Reach} {t : TypeId} {k : IntKind} {v : Value} {d : DataW H} {ps : List MemPlace} (ht : P.underlying t = some (.int k)) (hval : Value.okWide P w r b0 t v) (hd : DataW.Trod enc P w base spare held t v d ps) :
    ∃ n, v = .int k n ∧ ps = [] ∧ (Lit.int k n).wf = true ∧ ∀ w b sp held, DataW.Trod enc P w b sp held t v d [] := by
  obtain ⟨n, rfl, rfl, rfl, hw⟩ := open_int ht hval hd
  exact ⟨n, rfl, rfl, hw, fun w b sp held => shut_int ht hw⟩
end
theorem bounds_i64 {n : Int} (h : (Lit.int .i64 n).wf = true) : -9223372036854775808 ≤ n ∧ n ≤ 9223372036854775807 := by
  simp [Lit.wf, IntKind.min, IntKind.max, IntKind.signed, IntKind.bits] at h
  omega
end Mini
end Go.Proofs.YtffllmdjpeigbaaGreatDoor
end
section
namespace Go.Proofs.YtffllmdjpeigbaaGreatDoor
set_option linter.all false
open Go.ChangeShapes Go.WideShapes Go.ChangeAt Go.RowKit

section
variable {H : Type} {enc : TypeId × Value → H} {P : Program}
/-- What a law's row asks behind a call that changed nothing that was there. -/
theorem post_below {f : Func} {s : ChangeSpec} {W W' : World} {args : Array Value} {v : Value} {ds gs : List (DataW H)} {ps pa pv : List MemPlace} {apart fresh handsOn again : Bool} (hw : DataW.Whole enc P f.params.toList s.vars apart W args.toList ds gs ps)
    (ok : ∀ (j : Nat) (t : TypeId) (r : Value), f.resultTypes[j]? = some t → (v.resultList f.resultTypes.size)[j]? = some r → Value.okWide P W' .any 0 t r)
    (res : ∀ (b : Nat) (sp : Nat → Bool) (hd : Bool), DataW.TrodAll enc P W' b sp hd f.resultTypes.toList (v.resultList f.resultTypes.size) (s.fn H (ds ++ gs)).results [])
    (arg : ∀ sp : Nat → Bool, (∀ p ∈ ps, sp p.block = true) → DataW.TrodAll enc P W' 0 sp true f.params.toList args.toList (s.fn H (ds ++ gs)).args pa)
    (vrs : ∀ sp : Nat → Bool, (∀ p ∈ ps, sp p.block = true) → DataW.TrodVars enc P W' sp s.vars (s.fn H (ds ++ gs)).vars pv)
    (hps : ps = pa ++ pv) (hb : Below W.heap.size W W') : s.post enc P f apart fresh handsOn again W args v W' := by
  have hb' := hb
  have lt : ∀ p ∈ ps, p.block < W.heap.size := fun p hp => hw.lt p hp
  have old : ∀ p ∈ ps, (fun b => decide (b < W.heap.size)) p.block = true := fun p hp => by simpa using lt p hp
  have whole := hw
  obtain ⟨_, _, _, _, _, hz, hn⟩ := hw
  subst hps
  refine ⟨ds, gs, pa ++ pv, [], pa, pv, whole, res _ _ _, arg _ old, vrs _ old, World.keptBut_mono (fun p hp => ⟨hp, Or.inr (List.mem_append.1 hp)⟩) (hb'.frame (· ∈ pa ++ pv)), fun _ => ⟨ok, _, _, ([] ++ pa) ++ pv, ⟨[] ++ pa, pv, trodAll_append (arg _ (fun _ _ => rfl)) (res _ _ _), vrs _ (fun _ _ => rfl), rfl, fun b off hp => ?_, fun ha => ?_⟩, fun p hp _ => ?_⟩⟩
  · have hin : MemPlace.cell b off ∈ pa ++ pv := by simpa using hp
    exact (hb'.frozen (lt _ hin)).trans (hz b off hin)
  · simpa using hn ha
  · simpa using hp
end

section
open Go.Lib

theorem trod_lit {H : Type} {enc : TypeId × Value → H} {P : Program} {w : World} {base : Nat} {sp : Nat → Bool} {held : Bool} {fuel : Nat} {t : TypeId} {k : IntKind} {z : Int} {cs : List Value} {p : List MemPlace}
    (ht : P.underlying t = some (.int k)) (h : DataW.trod enc P w base sp held fuel t cs = some (.lit (.int k z), p)) : cs = [.int k z] := by
  obtain ⟨z', hc, hd, _⟩ := DataW.trod_int ht h
  cases hd
  exact hc
theorem cells_of_pairs {H : Type} {enc : TypeId × Value → H} {P : Program} {w : World} {base : Nat} {sp : Nat → Bool} {held : Bool} {fuel : Nat} {t e : TypeId} {n : Nat} {k : IntKind} {cs : List Value} {zs : List (Int × Int)} {p : List MemPlace} {fs : Array Field} {f0 f1 : Field}
    (ht : P.underlying t = some (.array n e)) (he : P.underlying e = some (.struct fs)) (hfs : fs.toList = [f0, f1]) (h0 : f0.offset = 0) (h1 : f1.offset = 1) (k0 : P.underlying f0.type = some (.int k)) (k1 : P.underlying f1.type = some (.int k))
    (c0 : P.cellsOf f0.type = 1) (c1 : P.cellsOf f1.type = 1) (hce : P.cellsOf e = 2)
    (h : DataW.trod enc P w base sp held fuel t cs = some (.agg (zs.map fun z => .agg [.lit (.int k z.1), .lit (.int k z.2)]), p)) :
    ∀ (i : Nat) (z : Int × Int), zs[i]? = some z → cs[i * 2]? = some (.int k z.1) ∧ cs[i * 2 + 1]? = some (.int k z.2) := by
  cases fuel with
  | zero => simp [DataW.trod] at h
  | succ fuel =>
    simp only [DataW.trod, ht, hce] at h
    split at h
    · rename_i hl
      obtain ⟨xs, hm, hx⟩ := Option.map_eq_some_iff.1 h
      have hxs : xs.map (·.1) = zs.map fun z => (DataW.agg [.lit (.int k z.1), .lit (.int k z.2)] : DataW H) := by
        have := congrArg Prod.fst hx
        simpa using this
      have hxl : xs.length = n := by simpa using mapM_length hm
      have hzl : zs.length = n := by
        have := congrArg List.length hxs
        simp at this
        omega
      intro i z hz
      have hi : i < n := by
        have := (List.getElem?_eq_some_iff.1 hz).1
        omega
      obtain ⟨b, hb, hf⟩ := mapM_at hm i i (by simp [hi])
      have h2 : (xs.map (·.1))[i]? = some b.1 := by simp [hb]
      rw [hxs] at h2
      simp only [List.getElem?_map, hz, Option.map_some, Option.some.injEq] at h2
      cases fuel with
      | zero => simp [DataW.trod] at hf
      | succ fuel =>
        simp only [DataW.trod, he] at hf
        split at hf
        · obtain ⟨ys, hy, hyb⟩ := Option.map_eq_some_iff.1 hf
          rw [hfs] at hy
          simp only [List.mapM_cons, List.mapM_nil, Option.bind_eq_bind, Option.bind_eq_some_iff, Option.pure_def, Option.some.injEq] at hy
          obtain ⟨y0, e0, l1, ⟨y1, e1, l2, rfl, rfl⟩, rfl⟩ := hy
          have hb1 := congrArg Prod.fst hyb
          simp only [List.map_cons, List.map_nil] at hb1
          rw [← h2] at hb1
          simp only [DataW.agg.injEq, List.cons.injEq, and_true] at hb1
          obtain ⟨q0, q1⟩ := hb1
          obtain ⟨d0, p0⟩ := y0
          obtain ⟨d1, p1⟩ := y1
          simp only at q0 q1
          subst q0 q1
          have g0 := trod_lit k0 e0
          have g1 := trod_lit k1 e1
          rw [h0, c0] at g0
          rw [h1, c1] at g1
          have a0 := congrArg (·[0]?) g0
          have a1 := congrArg (·[0]?) g1
          simp [List.getElem?_take, List.getElem?_drop] at a0 a1
          exact ⟨by simpa using a0, by simpa using a1⟩
        · cases hf
    · cases h
end
/-- A table of pairs on a row's list. -/
theorem pairs_of_laid {P : Program} {W : World} {name : String} {k : IntKind} {zs : List (Int × Int)} {g : Nat} {t e : TypeId} {n : Nat} {fs : Array Field} {f0 f1 : Field}
    (hg : P.globalNamed name = some g) (hty : (P.globals[g]?).map (·.type) = some t) (ht : P.underlying t = some (.array n e)) (he : P.underlying e = some (.struct fs)) (hfs : fs.toList = [f0, f1]) (h0 : f0.offset = 0) (h1 : f1.offset = 1) (k0 : P.underlying f0.type = some (.int k)) (k1 : P.underlying f1.type = some (.int k))
    (c0 : P.cellsOf f0.type = 1) (c1 : P.cellsOf f1.type = 1) (hce : P.cellsOf e = 2)
    (h : laidMet P [(name, .agg (zs.map fun z => .agg [.lit (.int k z.1), .lit (.int k z.2)]))] W) (i : Nat) (z : Int × Int) (hz : zs[i]? = some z) :
    W.cell? ⟨g, i * 2, none⟩ = some (.int k z.1) ∧ W.cell? ⟨g, i * 2 + 1, none⟩ = some (.int k z.2) := by
  obtain ⟨ps, ⟨g', t', cs, fuel, p, q, hg', ht', hvar, hd, _, _⟩, _⟩ := h
  obtain rfl := Option.some.inj (hg.symm.trans hg')
  obtain rfl := Option.some.inj (hty.symm.trans ht')
  obtain ⟨a, b⟩ := cells_of_pairs ht he hfs h0 h1 k0 k1 c0 c1 hce hd i z hz
  have r0 := World.var?_cell hg hvar (i * 2)
  have r1 := World.var?_cell hg hvar (i * 2 + 1)
  constructor
  · rw [r0]; simpa using a
  · rw [r1]; simpa using b
end Go.Proofs.YtffllmdjpeigbaaGreatDoor
end
section
namespace Go.Proofs.YtffllmdjpeigbaaGreatDoor
set_option linter.all false
open Go.ChangeShapes Go.WideShapes Go.ChangeAt Go.RowKit Go.Lib
theorem trod_pair {H : Type} {enc : TypeId × Value → H} {P : Program} {w : World} {base : Nat} {sp : Nat → Bool} {held : Bool} {fuel : Nat} {e : TypeId} {k : IntKind} {cs : List Value} {x y : Int} {p : List MemPlace} {fs : Array Field} {f0 f1 : Field}
    (he : P.underlying e = some (.struct fs)) (hfs : fs.toList = [f0, f1]) (h0 : f0.offset = 0) (h1 : f1.offset = 1) (k0 : P.underlying f0.type = some (.int k)) (k1 : P.underlying f1.type = some (.int k))
    (c0 : P.cellsOf f0.type = 1) (c1 : P.cellsOf f1.type = 1) (h : DataW.trod enc P w base sp held fuel e cs = some (.agg [.lit (.int k x), .lit (.int k y)], p)) : cs[0]? = some (.int k x) ∧ cs[1]? = some (.int k y) := by
  cases fuel with
  | zero => simp [DataW.trod] at h
  | succ fuel =>
    simp only [DataW.trod, he] at h
    split at h
    · obtain ⟨ys, hy, hyb⟩ := Option.map_eq_some_iff.1 h
      rw [hfs] at hy
      simp only [List.mapM_cons, List.mapM_nil, Option.bind_eq_bind, Option.bind_eq_some_iff, Option.pure_def, Option.some.injEq] at hy
      obtain ⟨y0, e0, l1, ⟨y1, e1, l2, rfl, rfl⟩, rfl⟩ := hy
      have hb1 := congrArg Prod.fst hyb
      simp only [List.map_cons, List.map_nil] at hb1
      simp only [DataW.agg.injEq, List.cons.injEq, and_true] at hb1
      obtain ⟨q0, q1⟩ := hb1
      obtain ⟨d0, p0⟩ := y0
      obtain ⟨d1, p1⟩ := y1
      simp only at q0 q1
      subst q0 q1
      have g0 := trod_lit k0 e0
      have g1 := trod_lit k1 e1
      rw [h0, c0] at g0
      rw [h1, c1] at g1
      have a0 := congrArg (·[0]?) g0
      have a1 := congrArg (·[0]?) g1
      simp [List.getElem?_take, List.getElem?_drop] at a0 a1
      exact ⟨by simpa using a0, by simpa using a1⟩
    · cases h
def quadD {H : Type} (k : IntKind) (z : Int × Int × Int × Int) : DataW H := .agg [.agg [.lit (.int k z.1), .lit (.int k z.2.1)], .agg [.lit (.int k z.2.2.1), .lit (.int k z.2.2.2)]]
theorem trod_quad {H : Type} {enc : TypeId × Value → H} {P : Program} {w : World} {base : Nat} {sp : Nat → Bool} {held : Bool} {fuel : Nat} {t e : TypeId} {k : IntKind} {cs : List Value} {z : Int × Int × Int × Int} {p : List MemPlace} {gs : Array Field} {g0 g1 : Field} {fs : Array Field} {f0 f1 : Field}
    (ht : P.underlying t = some (.struct gs)) (hgs : gs.toList = [g0, g1]) (o0 : g0.offset = 0) (o1 : g1.offset = 2) (t0 : g0.type = e) (t1 : g1.type = e) (ce : P.cellsOf e = 2)
    (he : P.underlying e = some (.struct fs)) (hfs : fs.toList = [f0, f1]) (h0 : f0.offset = 0) (h1 : f1.offset = 1) (k0 : P.underlying f0.type = some (.int k)) (k1 : P.underlying f1.type = some (.int k))
    (c0 : P.cellsOf f0.type = 1) (c1 : P.cellsOf f1.type = 1) (h : DataW.trod enc P w base sp held fuel t cs = some (quadD k z, p)) :
    cs[0]? = some (.int k z.1) ∧ cs[1]? = some (.int k z.2.1) ∧ cs[2]? = some (.int k z.2.2.1) ∧ cs[3]? = some (.int k z.2.2.2) := by
  unfold quadD at h
  cases fuel with
  | zero => simp [DataW.trod] at h
  | succ fuel =>
    simp only [DataW.trod, ht] at h
    split at h
    · obtain ⟨ys, hy, hyb⟩ := Option.map_eq_some_iff.1 h
      rw [hgs] at hy
      simp only [List.mapM_cons, List.mapM_nil, Option.bind_eq_bind, Option.bind_eq_some_iff, Option.pure_def, Option.some.injEq] at hy
      obtain ⟨y0, e0, l1, ⟨y1, e1, l2, rfl, rfl⟩, rfl⟩ := hy
      have hb1 := congrArg Prod.fst hyb
      simp only [List.map_cons, List.map_nil] at hb1
      simp only [DataW.agg.injEq, List.cons.injEq, and_true] at hb1
      obtain ⟨q0, q1⟩ := hb1
      obtain ⟨d0, p0⟩ := y0
      obtain ⟨d1, p1⟩ := y1
      simp only at q0 q1
      subst q0 q1
      rw [t0] at e0
      rw [t1] at e1
      have a := trod_pair he hfs h0 h1 k0 k1 c0 c1 e0
      have b := trod_pair he hfs h0 h1 k0 k1 c0 c1 e1
      rw [o0, ce] at a
      rw [o1, ce] at b
      simp [List.getElem?_take, List.getElem?_drop] at a b
      exact ⟨by simpa using a.1, by simpa using a.2, by simpa using b.1, by simpa using b.2⟩
    · cases h
theorem cells_of_quads {H : Type} {enc : TypeId × Value → H} {P : Program} {w : World} {base : Nat} {sp : Nat → Bool} {held : Bool} {fuel : Nat} {u t e : TypeId} {n : Nat} {k : IntKind} {cs : List Value} {zs : List (Int × Int × Int × Int)} {p : List MemPlace} {gs : Array Field} {g0 g1 : Field} {fs : Array Field} {f0 f1 : Field}
    (hu : P.underlying u = some (.array n t)) (ht : P.underlying t = some (.struct gs)) (hgs : gs.toList = [g0, g1]) (o0 : g0.offset = 0) (o1 : g1.offset = 2) (t0 : g0.type = e) (t1 : g1.type = e) (ce : P.cellsOf e = 2) (ct : P.cellsOf t = 4)
    (he : P.underlying e = some (.struct fs)) (hfs : fs.toList = [f0, f1]) (h0 : f0.offset = 0) (h1 : f1.offset = 1) (k0 : P.underlying f0.type = some (.int k)) (k1 : P.underlying f1.type = some (.int k))
    (c0 : P.cellsOf f0.type = 1) (c1 : P.cellsOf f1.type = 1)
    (h : DataW.trod enc P w base sp held fuel u cs = some (.agg (zs.map (quadD k)), p)) :
    ∀ (i : Nat) (z : Int × Int × Int × Int), zs[i]? = some z → cs[i * 4]? = some (.int k z.1) ∧ cs[i * 4 + 1]? = some (.int k z.2.1) ∧ cs[i * 4 + 2]? = some (.int k z.2.2.1) ∧ cs[i * 4 + 3]? = some (.int k z.2.2.2) := by
  cases fuel with
  | zero => simp [DataW.trod] at h
  | succ fuel =>
    simp only [DataW.trod, hu, ct] at h
    split at h
    · rename_i hl
      obtain ⟨xs, hm, hx⟩ := Option.map_eq_some_iff.1 h
      have hxs : xs.map (·.1) = zs.map (quadD (H := H) k) := by
        have := congrArg Prod.fst hx
        simpa using this
      have hxl : xs.length = n := by simpa using mapM_length hm
      have hzl : zs.length = n := by
        have := congrArg List.length hxs
        simp at this
        omega
      intro i z hz
      have hi : i < n := by
        have := (List.getElem?_eq_some_iff.1 hz).1
        omega
      obtain ⟨b, hb, hf⟩ := mapM_at hm i i (by simp [hi])
      have h2 : (xs.map (·.1))[i]? = some b.1 := by simp [hb]
      rw [hxs] at h2
      simp only [List.getElem?_map, hz, Option.map_some, Option.some.injEq] at h2
      obtain ⟨bd, bp⟩ := b
      simp only at h2
      subst h2
      have a := trod_quad ht hgs o0 o1 t0 t1 ce he hfs h0 h1 k0 k1 c0 c1 hf
      simp [List.getElem?_take, List.getElem?_drop] at a
      exact ⟨by simpa using a.1, by simpa using a.2.1, by simpa using a.2.2.1, by simpa using a.2.2.2⟩
    · cases h
theorem quads_of_laid {P : Program} {W : World} {name : String} {k : IntKind} {zs : List (Int × Int × Int × Int)} {g : Nat} {u t e : TypeId} {n : Nat} {gs : Array Field} {g0 g1 : Field} {fs : Array Field} {f0 f1 : Field}
    (hg : P.globalNamed name = some g) (hty : (P.globals[g]?).map (·.type) = some u)
    (hu : P.underlying u = some (.array n t)) (ht : P.underlying t = some (.struct gs)) (hgs : gs.toList = [g0, g1]) (o0 : g0.offset = 0) (o1 : g1.offset = 2) (t0 : g0.type = e) (t1 : g1.type = e) (ce : P.cellsOf e = 2) (ct : P.cellsOf t = 4)
    (he : P.underlying e = some (.struct fs)) (hfs : fs.toList = [f0, f1]) (h0 : f0.offset = 0) (h1 : f1.offset = 1) (k0 : P.underlying f0.type = some (.int k)) (k1 : P.underlying f1.type = some (.int k))
    (c0 : P.cellsOf f0.type = 1) (c1 : P.cellsOf f1.type = 1)
    (h : laidMet P [(name, .agg (zs.map (quadD k)))] W) (i : Nat) (z : Int × Int × Int × Int) (hz : zs[i]? = some z) :
    W.cell? ⟨g, i * 4, none⟩ = some (.int k z.1) ∧ W.cell? ⟨g, i * 4 + 1, none⟩ = some (.int k z.2.1) ∧ W.cell? ⟨g, i * 4 + 2, none⟩ = some (.int k z.2.2.1) ∧ W.cell? ⟨g, i * 4 + 3, none⟩ = some (.int k z.2.2.2) := by
  obtain ⟨ps, ⟨g', t', cs, fuel, p, q, hg', ht', hvar, hd, _, _⟩, _⟩ := h
  obtain rfl := Option.some.inj (hg.symm.trans hg')
  obtain rfl := Option.some.inj (hty.symm.trans ht')
  obtain ⟨a, b, c, d⟩ := cells_of_quads hu ht hgs o0 o1 t0 t1 ce ct he hfs h0 h1 k0 k1 c0 c1 hd i z hz
  have r0 := World.var?_cell hg hvar (i * 4)
  have r1 := World.var?_cell hg hvar (i * 4 + 1)
  have r2 := World.var?_cell hg hvar (i * 4 + 2)
  have r3 := World.var?_cell hg hvar (i * 4 + 3)
  exact ⟨by rw [r0]; simpa using a, by rw [r1]; simpa using b, by rw [r2]; simpa using c, by rw [r3]; simpa using d⟩
end Go.Proofs.YtffllmdjpeigbaaGreatDoor
end
section
namespace Go.Proofs.YtffllmdjpeigbaaGreatDoor
set_option linter.all false
open Go.ChangeShapes Go.WideShapes Go.ChangeAt Go.RowKit Go.Lib Go.Deep
theorem trod_int1 {H : Type} {enc : TypeId × Value → H} {P : Program} {w : World} {base : Nat} {sp : Nat → Bool} {held : Bool} {fuel : Nat} {t : TypeId} {k : IntKind} {v : Value} {x : DataW H × List MemPlace}
    (ht : P.underlying t = some (.int k)) (h : DataW.trod enc P w base sp held fuel t [v] = some x) : ∃ z, v = .int k z := by
  obtain ⟨d, p⟩ := x
  obtain ⟨z, hc, _⟩ := DataW.trod_int ht h
  exact ⟨z, by simpa using hc⟩
/-- What the program reads of a slice of pairs: nothing, or a row. -/
def PairsAt (W : World) (v : Value) : Prop := v = .slice none 0 0 ∨ ∃ (b off len cap : Nat) (g : Nat → Nat → Int), v = .slice (some ⟨b, off, none⟩) len cap ∧ len ≤ cap ∧ ∀ i, i < len → W.cell? ⟨b, off + i * 2, none⟩ = some (.int .i64 (g i 0)) ∧ W.cell? ⟨b, off + i * 2 + 1, none⟩ = some (.int .i64 (g i 1))
theorem pairs_at {H : Type} {enc : TypeId × Value → H} {P : Program} {W : World} {base : Nat} {t e : TypeId} {f0 f1 : Field} {v : Value} {d : DataW H} {p : List MemPlace} (ht : P.underlying t = some (.slice e)) (he : P.underlying e = some (.struct #[f0, f1]))
    (ce : P.cellsOf e = 2) (o0 : f0.offset = 0) (o1 : f1.offset = 1) (c0 : P.cellsOf f0.type = 1) (c1 : P.cellsOf f1.type = 1) (k0 : P.underlying f0.type = some (.int .i64)) (k1 : P.underlying f1.type = some (.int .i64))
    (hv : Value.okWide P W .any base t v) (h : DataW.Trod enc P W 0 (fun _ => true) true t v d p) : PairsAt W v := by
  obtain ⟨a, len, cap, rfl⟩ := okWide_slice ht hv
  obtain ⟨fuel, hf⟩ := h
  rcases open_slice_pairs ht he ce o0 o1 c0 c1 hf with ⟨hcs, _⟩ | ⟨a', len', cap', m, n, V0, V1, D0, D1, P0, P1, hcs, _, hl, _, hm, _, hc⟩
  · left
    simpa [Value.cells] using hcs
  · right
    have hcs : Value.slice a len cap = .slice (some a') len' cap' := by simpa [Value.cells] using hcs
    cases hcs
    simp only [Value.okWide, ht, Cell.okWide, Cell.ok, World.has] at hv
    obtain ⟨b, off, spot⟩ := a'
    have hs : spot = none := hv.2.2.2.1
    subst hs
    have hm' : len ≤ m := by rw [hm]; exact hl
    have z0 : ∀ i, ∃ z : Int × Int, i < len → V0 i = .int .i64 z.1 ∧ V1 i = .int .i64 z.2 := fun i => by
      by_cases hi : i < len
      · obtain ⟨_, _, q1, q2⟩ := hc i (by omega)
        obtain ⟨x, hx⟩ := trod_int1 k0 q1
        obtain ⟨y, hy⟩ := trod_int1 k1 q2
        exact ⟨(x, y), fun _ => ⟨hx, hy⟩⟩
      · exact ⟨(0, 0), fun h => absurd h hi⟩
    refine ⟨b, off, len, cap, fun i j => match j with
      | 0 => (Classical.choose (z0 i)).1
      | _ => (Classical.choose (z0 i)).2, rfl, hl, fun i hi => ?_⟩
    obtain ⟨q1, q2, _⟩ := hc i (by omega)
    obtain ⟨e1, e2⟩ := Classical.choose_spec (z0 i) hi
    rw [e1, Go.WideShapes.add_plain] at q1
    rw [e2, Go.WideShapes.add_plain] at q2
    exact ⟨q1, q2⟩
end Go.Proofs.YtffllmdjpeigbaaGreatDoor
end
section
namespace Go.Proofs.YtffllmdjpeigbaaGreatDoor
set_option linter.all false
open Go.RowKit
namespace Mini
variable {P : Program} {s s1 : St} {R W : Nat}

/-- The package's variables, and what else lies there. -/
def rhoX (P : Program) (w : World) (ext : Nat → Option Loc) : Ren := fun b =>
  if b < P.globals.size then some ⟨b, 0, true, 0, match w.heap[b]? with | some (.cells cs _ _) => cs.size | _ => 0⟩ else ext b
theorem calls_ofX {f : FuncId} {args args' : Array Value} {v : Value} {w : World} {ext : Nat → Option Loc} (h : SndF P f args s v s1 R W) (hg : ground 8 v = true) (hn : P.globals.size ≤ s.next)
    (hh : ∀ b, b < P.globals.size → s.get b = .hole ∨ ∃ c e, s.get b = .cells c e true 0 true ∧ c ≠ [] ∧ c.all (ground 8) = true ∧ ∀ (i : Nat) (v : Value), c[i]? = some v → w.cell? ⟨b, i, none⟩ = some v)
    (hx : ∀ b, P.globals.size ≤ b → b < s.next → s.get b ≠ .hole → ∃ L o', ext b = some L ∧ (roO (s.get b) = false → P.globals.size ≤ L.blk) ∧ w.heap[L.blk]? = some o' ∧ OR (rhoX P w ext) L (s.get b) o')
    (hb : ∀ b, s.next ≤ b → ext b = none) (hi : ∀ b b' L L', P.globals.size ≤ b → P.globals.size ≤ b' → s.get b ≠ .hole → s.get b' ≠ .hole → (roO (s.get b) && roO (s.get b')) = false → ext b = some L → ext b' = some L' → L.blk = L'.blk → b = b')
    (ha : VRs (rhoX P w ext) args args') (hw : ∀ b, b < s.next → W.testBit b = false) : Calls P f args' w fun e w' => e = .returned v ∧ Below w.heap.size w w' := by
  have hG : Glob P (rhoX P w ext) := fun g hg => ⟨_, if_pos hg, rfl, rfl⟩
  have hlt : ∀ b, s.get b ≠ .hole → b < s.next := fun b hb => St.lt_of_live hb
  have hblk : ∀ b L, s.get b ≠ .hole → rhoX P w ext b = some L → (b < P.globals.size ∧ L.blk = b) ∨ (P.globals.size ≤ b ∧ ext b = some L ∧ (roO (s.get b) = false → P.globals.size ≤ L.blk)) := fun b L hb hL => by
    unfold rhoX at hL
    split at hL
    · rename_i c; cases hL; exact .inl ⟨c, rfl⟩
    · rename_i c
      obtain ⟨L2, o2, e1, e2, _⟩ := hx b (by omega) (hlt b hb) hb
      rw [hL] at e1
      cases e1
      exact .inr ⟨by omega, hL, e2⟩
  have hp : Pre P none s s1 R W none (rhoX P w ext) s.get w := by
    refine ⟨hG, trivial, fun _ _ _ => rfl, fun b h1 h2 => ⟨?_, St.get_beyond s b h1⟩, fun b hb => ?_, fun b b' L L' h1 h2 hq e1 e2 he => ?_⟩
    · show (if b < P.globals.size then _ else ext b) = none
      rw [if_neg (by omega)]
      exact hb b h1
    · by_cases c : b < P.globals.size
      · rcases hh b c with k | ⟨cs0, e, k1, k2, k3, k4⟩
        · exact absurd k hb
        · obtain ⟨cs, e', fr, q1, q2, q3⟩ := cells_of k2 k4
          refine ⟨_, .cells cs e' fr, if_pos c, q1, ?_⟩
          rw [k1]
          refine ⟨rfl, rfl, fun h => (by cases h), ?_, ?_, fun i u hi => ⟨u, by simpa using q3 i u hi, ground_refl 8 (List.all_eq_true.1 k3 u (List.mem_of_getElem? hi))⟩, fun h => (by cases h), fun h => (by cases h)⟩
          · simp only [q1]
          · simp only [q1, Nat.zero_add]; exact q2
      · obtain ⟨L, o', e1, _, e3, e4⟩ := hx b (by omega) (hlt b hb) hb
        exact ⟨L, o', by show (if b < P.globals.size then _ else ext b) = _; rw [if_neg c]; exact e1, e3, e4⟩
    · have htab : ∀ b, b < P.globals.size → s.get b ≠ .hole → roO (s.get b) = true := fun b hb hn => by
        rcases hh b hb with k | ⟨c, e, k1, _⟩
        · exact absurd k hn
        · rw [k1]; rfl
      rcases hblk b L h1 e1 with ⟨a1, a2⟩ | ⟨a1, a2, a3⟩ <;> rcases hblk b' L' h2 e2 with ⟨c1, c2⟩ | ⟨c1, c2, c3⟩
      · omega
      · rw [htab b a1 h1, Bool.true_and] at hq
        have := c3 hq
        omega
      · rw [htab b' c1 h2, Bool.and_true] at hq
        have := a3 hq
        omega
      · exact hi b b' L L' a1 c1 h1 h2 hq a2 c2 he
  refine callsIn_wide.1 (h.2 0 (rhoX P w ext) s.get args' w _ hp ha fun ρ1 v' w1 p1 _ hv => ?_)
  have hv' := ground_eq 8 hg hv
  subst hv'
  refine ⟨rfl, p1.os, p1.tape, p1.output, p1.size, fun k hk => p1.frame k hk fun b L hb hlt hL => ?_⟩
  have := hw b hlt
  rw [hb] at this
  cases this
/-- A row of the real world that is only read. -/
theorem or_read {ρ : Ren} {n k : Nat} {g : Nat → Nat → Value} {e : TypeId} {cs : Array Value} {e' : TypeId} {fr : Nat × Nat} {blk base : Nat} (hl : base + n * k ≤ cs.size) (hg : ∀ i j, i < n → j < k → ground 8 (g i j) = true)
    (h : ∀ i j, i < n → j < k → cs[base + (i * k + j)]? = some (g i j)) : OR ρ ⟨blk, base, true, 0, cs.size⟩ (.rows n k g e true 0 true) (.cells cs e' fr) := by
  refine ⟨rfl, rfl, fun h => (by cases h), rfl, by rw [rowsL_len]; exact hl, fun i v hi => ?_, fun h => (by cases h), fun h => (by cases h)⟩
  have hlt : i < n * k := by
    have := (List.getElem?_eq_some_iff.1 hi).1
    rwa [rowsL_len] at this
  rw [rowsL_at hlt] at hi
  cases hi
  have hk : 0 < k := by
    rcases Nat.eq_zero_or_pos k with z | z
    · subst z; simp at hlt
    · exact z
  have h1 := (Nat.div_lt_iff_lt_mul hk).2 hlt
  have h2 := Nat.mod_lt i hk
  have h3 := h _ _ h1 h2
  rw [Nat.mul_comm, Nat.div_add_mod] at h3
  exact ⟨_, h3, ground_refl 8 (hg _ _ h1 h2)⟩
end Mini
end Go.Proofs.YtffllmdjpeigbaaGreatDoor
end
section
set_option linter.all false
set_option maxRecDepth 1000000
open Go.RowKit
namespace Go.Proofs.YtffllmdjpeigbaaGreatDoor
open Mini
/-- Where an argument's row lies. -/
def extAt (N b off sz : Nat) : Nat → Option Mini.Loc := fun x => if x = N then some ⟨b, off, true, 0, sz⟩ else none
theorem awS0n : awS0.next = 9 := by kernel_rfl
theorem cell_obj {W : World} {b off : Nat} {v : Value} (h : W.cell? ⟨b, off, none⟩ = some v) : ∃ cs e fr, W.heap[b]? = some (.cells cs e fr) ∧ cs[off]? = some v := by
  unfold World.cell? at h
  split at h
  · rename_i c e fr hc
    exact ⟨c, e, fr, hc, by simpa using h⟩
  · cases h
theorem lf_calls {W : World} (hh : Holds Tryz.prog awS0 W) (v0 : Value) (s : Int) (hv : PairsAt W v0) : Calls Tryz.prog 3 #[v0, .int .i64 s] W fun e W' => e = .returned (.bool true) ∧ Below W.heap.size W W' := by
  have hsz : Tryz.prog.globals.size = 9 := sng.symm
  have hold : ∀ (o : MObj) b, b < Tryz.prog.globals.size → (awS0.push o).get b = awS0.get b := fun o b hb => St.get_push_old awS0 o b (by rw [awS0n]; omega)
  have hnx : ∀ o : MObj, (awS0.push o).next = 9 + 1 := fun o => by show awS0.next + 1 = _; rw [awS0n]
  have hnew : ∀ o : MObj, (awS0.push o).get 9 = o := fun o => by have := St.get_push_new awS0 o; rwa [awS0n] at this
  rcases hv with rfl | ⟨b, off, len, cap, g, rfl, hl, hc⟩
  · obtain ⟨s1, R, h⟩ := lf_nil s
    exact calls_of h rfl rfl (fun b _ => by simp) hh
  · rcases Nat.eq_zero_or_pos len with z | z
    · subst z
      obtain ⟨s1, R, h⟩ := lf_emp cap s
      refine calls_ofX (ext := extAt 9 b off 0) h rfl (by rw [hnx]; omega) (fun x hx => by rw [hold _ x hx]; exact hh.holds x hx) (fun x h1 h2 h3 => ?_) (fun x hx => if_neg (by rw [hnx] at hx; omega)) (fun x y L L' h1 h2 h3 h4 _ h5 h6 _ => ?_) ⟨rfl, fun i u u' h1 h2 => ?_⟩ (fun x _ => by simp)
      · rw [hnx] at h2
        have : x = 9 := by omega
        subst this
        exact absurd (hnew _) h3
      · unfold extAt at h5 h6
        split at h5
        · split at h6
          · omega
          · cases h6
        · cases h5
      · match i, h1, h2 with
        | 0, h1, h2 =>
          simp [lfArgs] at h1 h2
          subst h1 h2
          exact .slice 9 0 0 cap cap ⟨b, off, true, 0, 0⟩ (by unfold rhoX; rw [if_neg (by omega)]; exact if_pos rfl) (.inl rfl)
        | 1, h1, h2 =>
          simp [lfArgs] at h1 h2
          subst h1 h2
          exact .int _ _
        | i + 2, h1, h2 => simp [lfArgs] at h1
    · obtain ⟨s1, R, h⟩ := lf_true (n := len) cap g 0 s z
      have c0 := (hc 0 z).1
      rw [Nat.zero_mul, Nat.add_zero] at c0
      obtain ⟨cs, e', fr, ho, _⟩ := cell_obj c0
      have hcs : ∀ i, i < len → cs[off + i * 2]? = some (.int .i64 (g i 0)) ∧ cs[off + i * 2 + 1]? = some (.int .i64 (g i 1)) := fun i hi => by
        obtain ⟨q1, q2⟩ := hc i hi
        obtain ⟨c1, e1, f1, o1, r1⟩ := cell_obj q1
        obtain ⟨c2, e2, f2, o2, r2⟩ := cell_obj q2
        rw [ho] at o1 o2
        cases o1
        cases o2
        exact ⟨r1, r2⟩
      have hsize : off + len * 2 ≤ cs.size := by
        have := (Array.getElem?_eq_some_iff.1 (hcs (len - 1) (by omega)).2).1
        omega
      refine calls_ofX (ext := extAt 9 b off cs.size) h rfl (by show _ ≤ (awS0.push _).next; rw [hnx]; omega) (fun x hx => by rw [show (lfS len g 0).get x = awS0.get x from hold _ x hx]; exact hh.holds x hx) (fun x h1 h2 h3 => ?_) (fun x hx => if_neg (by rw [show (lfS len g 0).next = _ from hnx _] at hx; omega)) (fun x y L L' h1 h2 h3 h4 _ h5 h6 _ => ?_) ⟨rfl, fun i u u' h1 h2 => ?_⟩ (fun x _ => by simp)
      · have h2 : x < 9 + 1 := by rw [← hnx (rowI 2 len g 0 true 0 true)]; exact h2
        have : x = 9 := by omega
        subst this
        have hr : (lfS len g 0).get 9 = rowI 2 len g 0 true 0 true := hnew _
        refine ⟨⟨b, off, true, 0, cs.size⟩, .cells cs e' fr, if_pos rfl, fun h => ?_, ho, ?_⟩
        · rw [hr] at h; cases h
        · rw [hr]
          exact or_read hsize (fun i j _ _ => rfl) fun i j hi hj => by
            match j, hj with
            | 0, _ => exact (hcs i hi).1
            | 1, _ => exact (hcs i hi).2
      · unfold extAt at h5 h6
        split at h5
        · split at h6
          · omega
          · cases h6
        · cases h5
      · match i, h1, h2 with
        | 0, h1, h2 =>
          simp [lfArgs] at h1 h2
          subst h1 h2
          exact .slice 9 0 len cap cap ⟨b, off, true, 0, cs.size⟩ (by unfold rhoX; rw [if_neg (by omega)]; exact if_pos rfl) (.inl rfl)
        | 1, h1, h2 =>
          simp [lfArgs] at h1 h2
          subst h1 h2
          exact .int _ _
        | i + 2, h1, h2 => simp [lfArgs] at h1
end Go.Proofs.YtffllmdjpeigbaaGreatDoor
end
section
set_option linter.all false
namespace Go.Proofs.YtffllmdjpeigbaaGreatDoor.phasorFrames
open Go.ChangeShapes Go.WideShapes Go.ChangeAt Go.RowKit Mini

theorem own : ownKnob Tryz.prog.godebug = none := by kernel_rfl
theorem gt3N : Tryz.prog.globalNamed "bipole/phasor.powers" = some 3 := by kernel_rfl
theorem gt3T : (Tryz.prog.globals[3]?).map (·.type) = some 276 := by kernel_rfl
def t3 : List (Int × Int) := [(1, 0), (0, -1), (-1, 0), (0, 1)]
theorem onet3 : (Rows.phasorFramesRow.laid.filter fun x => x.1 == "bipole/phasor.powers") = [("bipole/phasor.powers", .agg (t3.map fun z => .agg [.lit (.int .i64 z.1), .lit (.int .i64 z.2)]))] := by kernel_rfl
theorem cellst3 {W : World} (h : laidMetH Tryz.prog Rows.phasorFramesRow.laid W) (i : Nat) (z : Int × Int) (hz : t3[i]? = some z) : W.cell? ⟨3, i * 2, none⟩ = some (.int .i64 z.1) ∧ W.cell? ⟨3, i * 2 + 1, none⟩ = some (.int .i64 z.2) := by
  have h1 := laidMetH.filter (P := Tryz.prog) (fun x => x.1 == "bipole/phasor.powers") h
  rw [onet3] at h1
  exact pairs_of_laid gt3N gt3T Tryz.underlying276 Tryz.underlying172 rfl rfl rfl Tryz.underlying3 Tryz.underlying3 (by kernel_rfl) (by kernel_rfl) (by kernel_rfl) h1 i z hz
theorem s0t3 : awS0.get 3 = .cells ((t3.flatMap fun z => [z.1, z.2]).map fun n => Value.int .i64 n) 276 true 0 true := by kernel_rfl
theorem gt5N : Tryz.prog.globalNamed "internal/strconv.uint64pow10" = some 5 := by kernel_rfl
theorem gt5T : (Tryz.prog.globals[5]?).map (·.type) = some 416 := by kernel_rfl
def t5 : List Int := (List.range 20).map fun i => ((10 ^ i : Nat) : Int)
theorem onet5 : (Rows.phasorFramesRow.laid.filter fun x => x.1 == "internal/strconv.uint64pow10") = [("internal/strconv.uint64pow10", Lib.tabData .u64 t5)] := by kernel_rfl
theorem cellst5 {W : World} (h : laidMetH Tryz.prog Rows.phasorFramesRow.laid W) (i : Nat) (hi : i < 20) : W.cell? ⟨5, i, none⟩ = some (.int .u64 (t5.getD i 0)) := by
  have h1 := laidMetH.filter (P := Tryz.prog) (fun x => x.1 == "internal/strconv.uint64pow10") h
  rw [onet5] at h1
  exact (Lib.tabIs_of_head (rest := []) gt5N gt5T Tryz.underlying416 Tryz.underlying398 (by kernel_rfl) (by kernel_rfl) h1).cell gt5N i (by simpa [t5] using hi)
theorem s0t5 : awS0.get 5 = .cells (t5.map fun n => Value.int .u64 n) 416 true 0 true := by kernel_rfl
theorem holds0 {W : World} (h : laidMetH Tryz.prog Rows.phasorFramesRow.laid W) : Holds Tryz.prog awS0 W := by
  refine ⟨by kernel_rfl, fun b hb => ?_⟩
  rw [show Tryz.prog.globals.size = 9 by kernel_rfl] at hb
  match b, hb with
  | 0, _ => exact .inl (by kernel_rfl)
  | 1, _ => exact .inl (by kernel_rfl)
  | 2, _ => exact .inl (by kernel_rfl)
  | 3, _ =>
    refine .inr ⟨_, _, s0t3, by simp [t3], by kernel_rfl, fun i v hi => ?_⟩
    have p0 := cellst3 h 0 (1, 0) rfl
    have p1 := cellst3 h 1 (0, -1) rfl
    have p2 := cellst3 h 2 (-1, 0) rfl
    have p3 := cellst3 h 3 (0, 1) rfl
    match i, hi with
    | 0, hi => simp [t3] at hi; subst hi; exact p0.1
    | 1, hi => simp [t3] at hi; subst hi; exact p0.2
    | 2, hi => simp [t3] at hi; subst hi; exact p1.1
    | 3, hi => simp [t3] at hi; subst hi; exact p1.2
    | 4, hi => simp [t3] at hi; subst hi; exact p2.1
    | 5, hi => simp [t3] at hi; subst hi; exact p2.2
    | 6, hi => simp [t3] at hi; subst hi; exact p3.1
    | 7, hi => simp [t3] at hi; subst hi; exact p3.2
    | i + 8, hi => simp [t3] at hi
  | 4, _ => exact .inl (by kernel_rfl)
  | 5, _ =>
    refine .inr ⟨_, _, s0t5, by simp [t5], by kernel_rfl, fun i v hi => ?_⟩
    have hlt : i < 20 := by
      have := (List.getElem?_eq_some_iff.1 hi).1
      simpa [t5] using this
    rw [cellst5 h i hlt]
    simp only [List.getElem?_map, Option.map_eq_some_iff] at hi
    obtain ⟨a, h1, rfl⟩ := hi
    simp [List.getD, h1]
  | 6, _ => exact .inl (by kernel_rfl)
  | 7, _ => exact .inl (by kernel_rfl)
  | 8, _ => exact .inl (by kernel_rfl)
  | b + 9, hb => omega

set_option maxRecDepth 100000 in
theorem contract (H : Type) (enc : TypeId × Value → H) (W : World) (base : Nat) (args : Array Value) (ds gs : List (DataW H)) (before : List MemPlace)
    (hval : ∀ (j : Nat) t v, Tryz.f3.params[j]? = some t → args[j]? = some v → Value.okWide Tryz.prog W .any base t v)
    (hW : DataW.Whole enc Tryz.prog Tryz.f3.params.toList Rows.phasorFramesSpec.vars false W args.toList ds gs before) (hL : laidMetH Tryz.prog Rows.phasorFramesRow.laid W) :
    Calls Tryz.prog 3 args W fun e W' => ∃ v, e = .returned v ∧ Rows.phasorFramesSpec.post enc Tryz.prog Tryz.f3 false true false false W args v W' := by
  have hW' := hW
  obtain ⟨p, q, hA0, hV, rfl, hfz, hnd⟩ := hW
  have hA : DataW.TrodAll enc Tryz.prog W 0 (fun _ => true) true Tryz.f3.params.toList args.toList ds p := hA0
  rw [Tryz.params3] at hA hval
  obtain ⟨v0, vs0, d0, ds0, p0, q0, hargs, rfl, rfl, h0, r0⟩ := trodAll_cons hA
  obtain ⟨v1, vs1, d1, ds1, p1, q1, rfl, rfl, rfl, h1, r1⟩ := trodAll_cons r0
  obtain ⟨rfl, rfl, rfl⟩ := trodAll_nil r1
  obtain rfl : args = #[v0, v1] := by apply Array.ext'; simpa using hargs
  obtain ⟨rfl, rfl⟩ := trodVars_none hV
  have hk0 := h0
  have o0 := pairs_at (P := Tryz.prog) Tryz.underlying22 Tryz.underlying40 (by kernel_rfl) rfl rfl (by kernel_rfl) (by kernel_rfl) Tryz.underlying3 Tryz.underlying3 (hval 0 22 v0 rfl rfl) h0
  obtain ⟨x1, rfl, rfl, f1, t1⟩ := open_num Tryz.underlying3 (hval 1 3 v1 rfl rfl) h1
  clear hA0
  simp only [List.append_nil] at hW'
  refine (lf_calls (holds0 hL) v0 x1 o0).mono fun e W' ⟨he, hb⟩ => ?_
  subst he
  exact ⟨_, rfl, post_below (pa := p0 ++ ([] ++ [])) (pv := []) hW' (ok_one (by kernel_rfl) rfl (okWide_bool_mk Tryz.underlying4 _)) (fun _ _ _ => trodAll_cons_mk (shut_bool Tryz.underlying4 _) trodAll_mk0)
    (fun sp hsp => trodAll_cons_mk (WideElems.Trod_stays (P := Tryz.prog) (by kernel_rfl) (by kernel_rfl) (of_decide_eq_true (by kernel_rfl)) hk0 (fun x hx => hb.same (hW'.lt x (by simp [hx]))) (fun x hx => hsp x (by simp [hx]))) (trodAll_cons_mk (t1 _ _ _ _) (trodAll_mk0)))
    (fun _ _ => rfl) (by simp) hb⟩

def setTab (b : Nat) (cs : Array Value) (h : Array Obj) : Array Obj := h.modify b fun
  | .cells _ t frozen => .cells cs t frozen
  | o => o
noncomputable def laidWorld (os : Os) : World :=
  { World.holding Tryz.prog os ⟨#[], #[], []⟩ with heap := setTab 8 #[.int .u8 (0), .int .u8 (1), .int .u8 (56), .int .u8 (2), .int .u8 (57), .int .u8 (49), .int .u8 (28), .int .u8 (3), .int .u8 (61), .int .u8 (58), .int .u8 (42), .int .u8 (50), .int .u8 (38), .int .u8 (29), .int .u8 (17), .int .u8 (4), .int .u8 (62), .int .u8 (47), .int .u8 (59), .int .u8 (36), .int .u8 (45), .int .u8 (43), .int .u8 (51), .int .u8 (22), .int .u8 (53), .int .u8 (39), .int .u8 (33), .int .u8 (30), .int .u8 (24), .int .u8 (18), .int .u8 (12), .int .u8 (5), .int .u8 (63), .int .u8 (55), .int .u8 (48), .int .u8 (27), .int .u8 (60), .int .u8 (41), .int .u8 (37), .int .u8 (16), .int .u8 (46), .int .u8 (35), .int .u8 (44), .int .u8 (21), .int .u8 (52), .int .u8 (32), .int .u8 (23), .int .u8 (11), .int .u8 (54), .int .u8 (26), .int .u8 (40), .int .u8 (15), .int .u8 (34), .int .u8 (20), .int .u8 (31), .int .u8 (10), .int .u8 (25), .int .u8 (14), .int .u8 (19), .int .u8 (9), .int .u8 (13), .int .u8 (8), .int .u8 (7), .int .u8 (6)] (setTab 7 #[.int .u8 (0), .int .u8 (1), .int .u8 (28), .int .u8 (2), .int .u8 (29), .int .u8 (14), .int .u8 (24), .int .u8 (3), .int .u8 (30), .int .u8 (22), .int .u8 (20), .int .u8 (15), .int .u8 (25), .int .u8 (17), .int .u8 (4), .int .u8 (8), .int .u8 (31), .int .u8 (27), .int .u8 (13), .int .u8 (23), .int .u8 (21), .int .u8 (19), .int .u8 (16), .int .u8 (7), .int .u8 (26), .int .u8 (12), .int .u8 (18), .int .u8 (6), .int .u8 (11), .int .u8 (5), .int .u8 (10), .int .u8 (9)] (setTab 5 #[.int .u64 (1), .int .u64 (10), .int .u64 (100), .int .u64 (1000), .int .u64 (10000), .int .u64 (100000), .int .u64 (1000000), .int .u64 (10000000), .int .u64 (100000000), .int .u64 (1000000000), .int .u64 (10000000000), .int .u64 (100000000000), .int .u64 (1000000000000), .int .u64 (10000000000000), .int .u64 (100000000000000), .int .u64 (1000000000000000), .int .u64 (10000000000000000), .int .u64 (100000000000000000), .int .u64 (1000000000000000000), .int .u64 (10000000000000000000)] (setTab 3 #[.int .i64 (1), .int .i64 (0), .int .i64 (0), .int .i64 (-1), .int .i64 (-1), .int .i64 (0), .int .i64 (0), .int .i64 (1)] ((World.holding Tryz.prog os ⟨#[], #[], []⟩).heap)))) }
def wArgs : Array Value := #[.slice none 0 0, .int .i64 0]
theorem laid_met (os : Os) : laidMet Tryz.prog Rows.phasorFramesRow.laid ((laidWorld os).forCall (fun _ _ => 0) ⟨#[], wArgs, []⟩).memory :=
  laidMet_of_run' 8 (by kernel_rfl) (by kernel_rfl)
theorem reads (os : Os) {H : Type} (enc : TypeId × Value → H) : ∃ places, DataW.whole enc Tryz.prog ((laidWorld os).forCall (fun _ _ => 0) ⟨#[], wArgs, []⟩).memory Tryz.f3.params.toList Rows.phasorFramesSpec.vars false wArgs.toList 8 = some ([.nil, .lit (.int .i64 0)], [], places) :=
  ⟨[], by kernel_rfl⟩
set_option maxRecDepth 100000 in
theorem lifted (os : Os) (started : os.Started) (H : Type) (enc : TypeId × Value → H) (F : Stop.Interp) :
    ReturnsInHanded {} Tryz.checked os 3 .any ((OpenSpec.ofChange Rows.phasorFramesSpec).preRow enc Tryz.prog Tryz.f3 Rows.phasorFramesRow.domain false Rows.phasorFramesRow.laid) (((OpenSpec.ofChange Rows.phasorFramesSpec).at F).post enc Tryz.prog Tryz.f3 false true false false) := by
  obtain ⟨places, hx⟩ := reads os enc
  refine returnsInHanded_of_row (C := Tryz.checked) (s := OpenSpec.ofChange Rows.phasorFramesSpec) own started (by kernel_rfl) Tryz.func3
    (witness_row_at (enc := enc) (C := Tryz.checked) false (laidWorld os) wArgs rfl (by kernel_rfl) (by kernel_rfl) (by kernel_rfl)
      (OpenSpec.preRow_of_cond 8 hx (by kernel_rfl) (fun k hk => by cases hk) (by kernel_rfl) (laid_met os))) ?_
  intro W base args ds gs before hval hW _ _ _ hL _ _
  exact contract H enc W base args ds gs before hval hW hL
theorem said : Rows.PhasorFramesSaid :=
  OpenClaim.holds_of_cond 3 Tryz.f3 rfl rfl rfl rfl rfl rfl rfl ⟨rfl, rfl, rfl, rfl, rfl⟩ rfl rfl rfl rfl rfl (by kernel_rfl) Tryz.func3 (by kernel_rfl)
    (of_decide_eq_true (by kernel_rfl)) (by unfold Func.isWrapper; first | (rw [if_pos (by decide +kernel)]; kernel_rfl) | (rw [if_neg (by decide +kernel)]; exact ⟨rfl, rfl⟩))
    (fun os started H enc _ F => by rw [OpenClaim.pre_eq_preRow]; exact lifted os started H enc F)
theorem plain (f : FuncId) (fn : Func) (hf : Tryz.pinned.checked.prog.funcNamed "bipole/bipolelaw01.PhasorFrames" = some f) (hfn : Tryz.pinned.checked.prog.funcs[f]? = some fn) :
    false = Tryz.pinned.checked.prog.looks [] ∧ ∀ (j : Nat) t, fn.params[j]? = some t → Tryz.pinned.checked.prog.wantsStandIn t = false := by
  obtain rfl : f = 3 := Option.some.inj ((show Tryz.prog.funcNamed "bipole/bipolelaw01.PhasorFrames" = some 3 by kernel_rfl).symm.trans hf) |>.symm
  obtain rfl : fn = Tryz.f3 := (Option.some.inj (Tryz.func3.symm.trans hfn)).symm
  refine ⟨by kernel_rfl, fun j t ht => ?_⟩
  rw [Tryz.params3] at ht
  have hm : t = 22 ∨ t = 3 := by simpa using Array.mem_of_getElem? ht
  rcases hm with rfl | rfl
  · exact (show Tryz.prog.wantsStandIn 22 = false by kernel_rfl)
  · exact (show Tryz.prog.wantsStandIn 3 = false by kernel_rfl)
theorem card : Rows.PhasorFramesCardSaid :=
  Claim7.holds_tied_plain_at .later [] _ _ _ _ said (fun _ h => by cases h) (by kernel_rfl) (fun _ h => by cases h) phasorFrames_row_tie rfl ⟨rfl, rfl⟩ (by kernel_rfl) rfl plain (by kernel_rfl)
end Go.Proofs.YtffllmdjpeigbaaGreatDoor.phasorFrames
end
