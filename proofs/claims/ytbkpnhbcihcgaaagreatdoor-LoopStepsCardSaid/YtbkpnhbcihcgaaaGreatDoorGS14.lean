/-
  LoopSteps: for all arguments the law returns true and leaves its arguments as they were, wherever the tables that its row lists are laid as the text lays them.
  Tables of strings on a row's list.
  The law LoopSteps in each real world.
  Two slices of numbers as arguments: a law over two rows in the small world holds in the real one (the rows may lie together there).
  Slices of numbers (or of structs and arrays of numbers) as arguments: what the program reads of them; a law over a row in the small world holds in the real one.
  From a call in the small world to a real one whose arguments lie in memory.
  Tables of structures of two pairs on a row's list.
  The last step of a row whose call leaves a world of which only 'Below' is known; tables of pairs on a row's list.
  Arguments that are made of integers alone (numbers, arrays and structs of them, in any depth), opened: their cells are numbers, and their data is the same in each world.
  LoopSteps: true for every polynomial, all first values, every number of steps.
  LoopSteps: its ways.
  The whole.
-/
import Derived.Test.YtbkpnhbcihcgaaaGreatDoorGS6
import Derived.Test.YtbkpnhbcihcgaaaGreatDoorGS7
import Derived.Test.YtbkpnhbcihcgaaaGreatDoorGS8
import Derived.Test.YtbkpnhbcihcgaaaGreatDoorGS9
import Derived.Test.YtbkpnhbcihcgaaaGreatDoorGS10
import Derived.Test.YtbkpnhbcihcgaaaGreatDoorGS11
import Derived.Test.YtbkpnhbcihcgaaaGreatDoorGS12
import Derived.Test.YtbkpnhbcihcgaaaGreatDoorGS13
import Derived.Test.YtbkpnhbcihcgaaaGreatDoorGS2
import Derived.Test.YtbkpnhbcihcgaaaGreatDoorGS3
import Derived.Test.YtbkpnhbcihcgaaaGreatDoorGS4
import Derived.Test.YtbkpnhbcihcgaaaGreatDoorGS5
import Derived.OpenShut
import Derived.RowKit
import Derived.WideShapes
import Derived.Below
import Derived.ChangeSame
import Derived.ProofKit
import Derived.JoinedCond
import Derived.JoinedOf
import Derived.JoinedAt
import Derived.RowKit3
import Derived.Lib.LaidTab
import Derived.LaidSub
import Derived.Deep.Slices
import Derived.WideKeyArgs
import Derived.Test.YtbkpnhbcihcgaaaGreatDoorCards
import Derived.Test.YtbkpnhbcihcgaaaGreatDoorTie
import Derived.WalkKit
import Derived.Deep.DeepHandedRow
section
set_option linter.all false
set_option maxRecDepth 1000000
open Go.RowKit
namespace Go.Proofs.YtbkpnhbcihcgaaaGreatDoor
open Mini
theorem aw3X0 : FOk Tryz.prog (joinX 142) := joinX_ok fun bk o c xs sep w h1 h2 h3 h4 h5 => Tryz.strings_Join bk o c xs sep w h1 h2 h3 h4 h5
theorem aw3X : FOk Tryz.prog (joinX 142) := aw3X0
theorem aw3m : Tryz.prog.follows .mixedOrders = true := by kernel_rfl
theorem aw3g24 : SndC Tryz.prog none (dropS 24 aw3B) aw3A24.act aw3S24 .ret aw3A25.act aw3S25 aw3R24 aw3W24 := chain_last aw3m aw3X aw3c24
theorem aw3g23 : SndC Tryz.prog none (dropS 23 aw3B) aw3A23.act aw3S23 .ret aw3A25.act aw3S25 aw3RR23 aw3WW23 := by
  have h := chain_step aw3m aw3X (by kernel_rfl) aw3c23 aw3g24
  rwa [show aw3R23 ||| aw3R24 = aw3RR23 from by decide +kernel, show aw3W23 ||| aw3W24 = aw3WW23 from by decide +kernel] at h
theorem aw3g22 : SndC Tryz.prog none (dropS 22 aw3B) aw3A22.act aw3S22 .ret aw3A25.act aw3S25 aw3RR22 aw3WW22 := by
  have h := chain_step aw3m aw3X (by kernel_rfl) aw3c22 aw3g23
  rwa [show aw3R22 ||| aw3RR23 = aw3RR22 from by decide +kernel, show aw3W22 ||| aw3WW23 = aw3WW22 from by decide +kernel] at h
theorem aw3g21 : SndC Tryz.prog none (dropS 21 aw3B) aw3A21.act aw3S21 .ret aw3A25.act aw3S25 aw3RR21 aw3WW21 := by
  have h := chain_step aw3m aw3X (by kernel_rfl) aw3c21 aw3g22
  rwa [show aw3R21 ||| aw3RR22 = aw3RR21 from by decide +kernel, show aw3W21 ||| aw3WW22 = aw3WW21 from by decide +kernel] at h
theorem aw3g20 : SndC Tryz.prog none (dropS 20 aw3B) aw3A20.act aw3S20 .ret aw3A25.act aw3S25 aw3RR20 aw3WW20 := by
  have h := chain_step aw3m aw3X (by kernel_rfl) aw3c20 aw3g21
  rwa [show aw3R20 ||| aw3RR21 = aw3RR20 from by decide +kernel, show aw3W20 ||| aw3WW21 = aw3WW20 from by decide +kernel] at h
theorem aw3g19 : SndC Tryz.prog none (dropS 19 aw3B) aw3A19.act aw3S19 .ret aw3A25.act aw3S25 aw3RR19 aw3WW19 := by
  have h := chain_step aw3m aw3X (by kernel_rfl) aw3c19 aw3g20
  rwa [show aw3R19 ||| aw3RR20 = aw3RR19 from by decide +kernel, show aw3W19 ||| aw3WW20 = aw3WW19 from by decide +kernel] at h
theorem aw3g18 : SndC Tryz.prog none (dropS 18 aw3B) aw3A18.act aw3S18 .ret aw3A25.act aw3S25 aw3RR18 aw3WW18 := by
  have h := chain_step aw3m aw3X (by kernel_rfl) aw3c18 aw3g19
  rwa [show aw3R18 ||| aw3RR19 = aw3RR18 from by decide +kernel, show aw3W18 ||| aw3WW19 = aw3WW18 from by decide +kernel] at h
theorem aw3g17 : SndC Tryz.prog none (dropS 17 aw3B) aw3A17.act aw3S17 .ret aw3A25.act aw3S25 aw3RR17 aw3WW17 := by
  have h := chain_step aw3m aw3X (by kernel_rfl) aw3c17 aw3g18
  rwa [show aw3R17 ||| aw3RR18 = aw3RR17 from by decide +kernel, show aw3W17 ||| aw3WW18 = aw3WW17 from by decide +kernel] at h
theorem aw3g16 : SndC Tryz.prog none (dropS 16 aw3B) aw3A16.act aw3S16 .ret aw3A25.act aw3S25 aw3RR16 aw3WW16 := by
  have h := chain_step aw3m aw3X (by kernel_rfl) aw3c16 aw3g17
  rwa [show aw3R16 ||| aw3RR17 = aw3RR16 from by decide +kernel, show aw3W16 ||| aw3WW17 = aw3WW16 from by decide +kernel] at h
theorem aw3g15 : SndC Tryz.prog none (dropS 15 aw3B) aw3A15.act aw3S15 .ret aw3A25.act aw3S25 aw3RR15 aw3WW15 := by
  have h := chain_step aw3m aw3X (by kernel_rfl) aw3c15 aw3g16
  rwa [show aw3R15 ||| aw3RR16 = aw3RR15 from by decide +kernel, show aw3W15 ||| aw3WW16 = aw3WW15 from by decide +kernel] at h
theorem aw3g14 : SndC Tryz.prog none (dropS 14 aw3B) aw3A14.act aw3S14 .ret aw3A25.act aw3S25 aw3RR14 aw3WW14 := by
  have h := chain_step aw3m aw3X (by kernel_rfl) aw3c14 aw3g15
  rwa [show aw3R14 ||| aw3RR15 = aw3RR14 from by decide +kernel, show aw3W14 ||| aw3WW15 = aw3WW14 from by decide +kernel] at h
theorem aw3g13 : SndC Tryz.prog none (dropS 13 aw3B) aw3A13.act aw3S13 .ret aw3A25.act aw3S25 aw3RR13 aw3WW13 := by
  have h := chain_step aw3m aw3X (by kernel_rfl) aw3c13 aw3g14
  rwa [show aw3R13 ||| aw3RR14 = aw3RR13 from by decide +kernel, show aw3W13 ||| aw3WW14 = aw3WW13 from by decide +kernel] at h
theorem aw3g12 : SndC Tryz.prog none (dropS 12 aw3B) aw3A12.act aw3S12 .ret aw3A25.act aw3S25 aw3RR12 aw3WW12 := by
  have h := chain_step aw3m aw3X (by kernel_rfl) aw3c12 aw3g13
  rwa [show aw3R12 ||| aw3RR13 = aw3RR12 from by decide +kernel, show aw3W12 ||| aw3WW13 = aw3WW12 from by decide +kernel] at h
theorem aw3g11 : SndC Tryz.prog none (dropS 11 aw3B) aw3A11.act aw3S11 .ret aw3A25.act aw3S25 aw3RR11 aw3WW11 := by
  have h := chain_step aw3m aw3X (by kernel_rfl) aw3c11 aw3g12
  rwa [show aw3R11 ||| aw3RR12 = aw3RR11 from by decide +kernel, show aw3W11 ||| aw3WW12 = aw3WW11 from by decide +kernel] at h
theorem aw3g10 : SndC Tryz.prog none (dropS 10 aw3B) aw3A10.act aw3S10 .ret aw3A25.act aw3S25 aw3RR10 aw3WW10 := by
  have h := chain_step aw3m aw3X (by kernel_rfl) aw3c10 aw3g11
  rwa [show aw3R10 ||| aw3RR11 = aw3RR10 from by decide +kernel, show aw3W10 ||| aw3WW11 = aw3WW10 from by decide +kernel] at h
theorem aw3g9 : SndC Tryz.prog none (dropS 9 aw3B) aw3A9.act aw3S9 .ret aw3A25.act aw3S25 aw3RR9 aw3WW9 := by
  have h := chain_step aw3m aw3X (by kernel_rfl) aw3c9 aw3g10
  rwa [show aw3R9 ||| aw3RR10 = aw3RR9 from by decide +kernel, show aw3W9 ||| aw3WW10 = aw3WW9 from by decide +kernel] at h
theorem aw3g8 : SndC Tryz.prog none (dropS 8 aw3B) aw3A8.act aw3S8 .ret aw3A25.act aw3S25 aw3RR8 aw3WW8 := by
  have h := chain_step aw3m aw3X (by kernel_rfl) aw3c8 aw3g9
  rwa [show aw3R8 ||| aw3RR9 = aw3RR8 from by decide +kernel, show aw3W8 ||| aw3WW9 = aw3WW8 from by decide +kernel] at h
theorem aw3g7 : SndC Tryz.prog none (dropS 7 aw3B) aw3A7.act aw3S7 .ret aw3A25.act aw3S25 aw3RR7 aw3WW7 := by
  have h := chain_step aw3m aw3X (by kernel_rfl) aw3c7 aw3g8
  rwa [show aw3R7 ||| aw3RR8 = aw3RR7 from by decide +kernel, show aw3W7 ||| aw3WW8 = aw3WW7 from by decide +kernel] at h
theorem aw3g6 : SndC Tryz.prog none (dropS 6 aw3B) aw3A6.act aw3S6 .ret aw3A25.act aw3S25 aw3RR6 aw3WW6 := by
  have h := chain_step aw3m aw3X (by kernel_rfl) aw3c6 aw3g7
  rwa [show aw3R6 ||| aw3RR7 = aw3RR6 from by decide +kernel, show aw3W6 ||| aw3WW7 = aw3WW6 from by decide +kernel] at h
theorem aw3g5 : SndC Tryz.prog none (dropS 5 aw3B) aw3A5.act aw3S5 .ret aw3A25.act aw3S25 aw3RR5 aw3WW5 := by
  have h := chain_step aw3m aw3X (by kernel_rfl) aw3c5 aw3g6
  rwa [show aw3R5 ||| aw3RR6 = aw3RR5 from by decide +kernel, show aw3W5 ||| aw3WW6 = aw3WW5 from by decide +kernel] at h
theorem aw3g4 : SndC Tryz.prog none (dropS 4 aw3B) aw3A4.act aw3S4 .ret aw3A25.act aw3S25 aw3RR4 aw3WW4 := by
  have h := chain_step aw3m aw3X (by kernel_rfl) aw3c4 aw3g5
  rwa [show aw3R4 ||| aw3RR5 = aw3RR4 from by decide +kernel, show aw3W4 ||| aw3WW5 = aw3WW4 from by decide +kernel] at h
theorem aw3g3 : SndC Tryz.prog none (dropS 3 aw3B) aw3A3.act aw3S3 .ret aw3A25.act aw3S25 aw3RR3 aw3WW3 := by
  have h := chain_step aw3m aw3X (by kernel_rfl) aw3c3 aw3g4
  rwa [show aw3R3 ||| aw3RR4 = aw3RR3 from by decide +kernel, show aw3W3 ||| aw3WW4 = aw3WW3 from by decide +kernel] at h
theorem aw3g2 : SndC Tryz.prog none (dropS 2 aw3B) aw3A2.act aw3S2 .ret aw3A25.act aw3S25 aw3RR2 aw3WW2 := by
  have h := chain_step aw3m aw3X (by kernel_rfl) aw3c2 aw3g3
  rwa [show aw3R2 ||| aw3RR3 = aw3RR2 from by decide +kernel, show aw3W2 ||| aw3WW3 = aw3WW2 from by decide +kernel] at h
theorem aw3g1 : SndC Tryz.prog none (dropS 1 aw3B) aw3A1.act aw3S1 .ret aw3A25.act aw3S25 aw3RR1 aw3WW1 := by
  have h := chain_step aw3m aw3X (by kernel_rfl) aw3c1 aw3g2
  rwa [show aw3R1 ||| aw3RR2 = aw3RR1 from by decide +kernel, show aw3W1 ||| aw3WW2 = aw3WW1 from by decide +kernel] at h
theorem aw3g0 : SndC Tryz.prog none (dropS 0 aw3B) aw3A0.act aw3S0 .ret aw3A25.act aw3S25 aw3RR0 aw3WW0 := by
  have h := chain_step aw3m aw3X (by kernel_rfl) aw3c0 aw3g1
  rwa [show aw3R0 ||| aw3RR1 = aw3RR0 from by decide +kernel, show aw3W0 ||| aw3WW1 = aw3WW0 from by decide +kernel] at h
theorem aw3f : SndF Tryz.prog 12 #[] aw3S0 (.bool true) aw3S25 (aw3RR0 ||| 0) aw3WW0 :=
  sndF_of (vs := [.bool true]) Tryz.func12 (show _ = some aw3B by kernel_rfl) (.inr rfl) (by kernel_rfl) (show SndC Tryz.prog none aw3B (startA Tryz.f12 #[]) aw3S0 .ret aw3A25.act aw3S25 aw3RR0 aw3WW0 from ((startM_act _ _).symm.trans (congrArg MA.act (show startM Tryz.f12 #[] = aw3A0 by kernel_rfl))) ▸ aw3g0) (by kernel_rfl)
theorem aw3_calls (w : World) (h : Holds Tryz.prog aw3S0 w) : Calls Tryz.prog 12 #[] w fun e w' => e = .returned (.bool true) ∧ Below w.heap.size w w' :=
  calls_of aw3f (by kernel_rfl) (by kernel_rfl) (fun b hb => by
    have hb : b < Tryz.prog.globals.size := hb
    rw [show Tryz.prog.globals.size = 6 by kernel_rfl] at hb
    revert b; decide +kernel) h
end Go.Proofs.YtbkpnhbcihcgaaaGreatDoor
end
section
set_option linter.all false
set_option maxRecDepth 1000000
open Go.RowKit
namespace Go.Proofs.YtbkpnhbcihcgaaaGreatDoor
open Mini
noncomputable section
variable (n : Nat) (c : Nat) (g : GI) (x : Int)
abbrev zA0 := tabT aw3S0 12
noncomputable def lsK : CallS := bothX kSameI (bothX kSE (bothX kRE (bothX kCP (bothX kRCP zA0))))
noncomputable def lsK1 : CallS := bothX kSameI (bothX kS1 (bothX kT1 zA0))
noncomputable def lsK2 : CallS := bothX kSameI (bothX kS2 (bothX kT2 zA0))
noncomputable def lsK3 : CallS := bothX kSameI (bothX kS3 (bothX kT3 zA0))
noncomputable def lsK4 : CallS := bothX kSameI (bothX kS4 (bothX kT4 zA0))
abbrev zA1 := (aw3S0.push (.hole)).push (.hole)
noncomputable def ls0 : Option OutS := evFS Tryz.prog lsK 1000 7 #[.slice none 0 0, .slice none 0 0, .int .i64 x] zA1 ⟨[1, 1, 1, 0, 0, 1, 1, 0, 0, 1, 1, 1, 1, 1, 1], True⟩
noncomputable def ls1 (c2 : Nat) (x : Int) : Option OutS := evFS Tryz.prog lsK 1000 7 #[.slice none 0 0, .slice (some ⟨7, 0, none⟩) 0 c2, .int .i64 x] zA1 ⟨[1, 1, 1, 0, 0, 1, 1, 0, 0, 1, 1, 1, 1, 1, 1], True⟩
abbrev zA2 (h : GI) (m : Nat) := (aw3S0.push (.hole)).push (.rows m 1 (fun i j => .int .i64 (h i j)) 0 true 0 true)
noncomputable def ls2 (m : Nat) (c2 : Nat) (h : GI) (x : Int) : Option OutS := evFS Tryz.prog lsK 1000 7 #[.slice none 0 0, .slice (some ⟨7, 0, none⟩) m c2, .int .i64 x] (zA2 h m) ⟨[1, 1, 1, 0, 1], True⟩
noncomputable def ls3 (m : Nat) (c2 : Nat) (h : GI) (x : Int) : Option OutS := evFS Tryz.prog lsK 1000 7 #[.slice none 0 0, .slice (some ⟨7, 0, none⟩) m c2, .int .i64 x] (zA2 h m) ⟨[1, 1, 1, 0, 0, .row 0 0, 1, 1, 0, 0, 1, 1, 1, 1, 1, 1], True⟩
noncomputable def ls4 : Option OutS := evFS Tryz.prog lsK 1000 7 #[.slice (some ⟨6, 0, none⟩) 0 c, .slice none 0 0, .int .i64 x] zA1 ⟨[1, 1, 1, 0, 0, 1, 1, 0, 0, 1, 1, 1, 1, 1, 1], True⟩
noncomputable def ls5 (c2 : Nat) (x : Int) : Option OutS := evFS Tryz.prog lsK 1000 7 #[.slice (some ⟨6, 0, none⟩) 0 c, .slice (some ⟨7, 0, none⟩) 0 c2, .int .i64 x] zA1 ⟨[1, 1, 1, 0, 0, 1, 1, 0, 0, 1, 1, 1, 1, 1, 1], True⟩
noncomputable def ls6 (m : Nat) (c2 : Nat) (h : GI) (x : Int) : Option OutS := evFS Tryz.prog lsK 1000 7 #[.slice (some ⟨6, 0, none⟩) 0 c, .slice (some ⟨7, 0, none⟩) m c2, .int .i64 x] (zA2 h m) ⟨[1, 1, 1, 0, 1], True⟩
noncomputable def ls7 (m : Nat) (c2 : Nat) (h : GI) (x : Int) : Option OutS := evFS Tryz.prog lsK 1000 7 #[.slice (some ⟨6, 0, none⟩) 0 c, .slice (some ⟨7, 0, none⟩) m c2, .int .i64 x] (zA2 h m) ⟨[1, 1, 1, 0, 0, .row 0 0, 1, 1, 0, 0, 1, 1, 1, 1, 1, 1], True⟩
abbrev zA3 := aw3S0.push (.rows n 1 (fun i j => .int .i64 (g i j)) 0 true 0 true)
abbrev zA4 := (zA3 n g).push (.hole)
noncomputable def ls8 : Option OutS := evFS Tryz.prog lsK 1000 7 #[.slice (some ⟨6, 0, none⟩) n c, .slice none 0 0, .int .i64 x] (zA4 n g) ⟨[0, 0, 0, 1, 1], True⟩
noncomputable def ls9 : Option OutS := evFS Tryz.prog lsK 1000 7 #[.slice (some ⟨6, 0, none⟩) n c, .slice none 0 0, .int .i64 x] (zA4 n g) ⟨[1, 1, 1, 0, 0, .row 0 0, 0, .azz (.int .i64 ((n : Nat) : Int)), .azz (.int .i64 (((n - 1) : Nat) : Int)), 1, 0, 0, 1, 1, 1, 1, 1, 1], True⟩
noncomputable def ls10 : Option OutS := evFS Tryz.prog lsK 1000 7 #[.slice (some ⟨6, 0, none⟩) n c, .slice none 0 0, .int .i64 x] (zA4 n g) ⟨[1, 1, 1, 0, 0, .row 0 0, 0, .azz (.int .i64 ((n : Nat) : Int)), .azz (.int .i64 (((n - 1) : Nat) : Int)), 0, 1, 0, 0, 1, 1, 1, 1, 1, 1], True⟩
noncomputable def ls11 : Option OutS := evFS Tryz.prog lsK 1000 7 #[.slice (some ⟨6, 0, none⟩) n c, .slice none 0 0, .int .i64 x] (zA4 n g) ⟨[1, 1, 1, 0, 0, .row 0 0, 1, 0, 0, 1, 1, 1, 1, 1, 1], True⟩
noncomputable def ls12 (c2 : Nat) (x : Int) : Option OutS := evFS Tryz.prog lsK 1000 7 #[.slice (some ⟨6, 0, none⟩) n c, .slice (some ⟨7, 0, none⟩) 0 c2, .int .i64 x] (zA4 n g) ⟨[0, 0, 0, 1, 1], True⟩
noncomputable def ls13 (c2 : Nat) (x : Int) : Option OutS := evFS Tryz.prog lsK 1000 7 #[.slice (some ⟨6, 0, none⟩) n c, .slice (some ⟨7, 0, none⟩) 0 c2, .int .i64 x] (zA4 n g) ⟨[1, 1, 1, 0, 0, .row 0 0, 0, .azz (.int .i64 ((n : Nat) : Int)), .azz (.int .i64 (((n - 1) : Nat) : Int)), 1, 0, 0, 1, 1, 1, 1, 1, 1], True⟩
noncomputable def ls14 (c2 : Nat) (x : Int) : Option OutS := evFS Tryz.prog lsK 1000 7 #[.slice (some ⟨6, 0, none⟩) n c, .slice (some ⟨7, 0, none⟩) 0 c2, .int .i64 x] (zA4 n g) ⟨[1, 1, 1, 0, 0, .row 0 0, 0, .azz (.int .i64 ((n : Nat) : Int)), .azz (.int .i64 (((n - 1) : Nat) : Int)), 0, 1, 0, 0, 1, 1, 1, 1, 1, 1], True⟩
noncomputable def ls15 (c2 : Nat) (x : Int) : Option OutS := evFS Tryz.prog lsK 1000 7 #[.slice (some ⟨6, 0, none⟩) n c, .slice (some ⟨7, 0, none⟩) 0 c2, .int .i64 x] (zA4 n g) ⟨[1, 1, 1, 0, 0, .row 0 0, 1, 0, 0, 1, 1, 1, 1, 1, 1], True⟩
abbrev zA5 (h : GI) (m : Nat) := (zA3 n g).push (.rows m 1 (fun i j => .int .i64 (h i j)) 0 true 0 true)
noncomputable def ls16 (m : Nat) (c2 : Nat) (h : GI) (x : Int) : Option OutS := evFS Tryz.prog lsK 1000 7 #[.slice (some ⟨6, 0, none⟩) n c, .slice (some ⟨7, 0, none⟩) m c2, .int .i64 x] (zA5 n g h m) ⟨[0, 0, 0, 1, 1], True⟩
noncomputable def ls17 (m : Nat) (c2 : Nat) (h : GI) (x : Int) : Option OutS := evFS Tryz.prog lsK 1000 7 #[.slice (some ⟨6, 0, none⟩) n c, .slice (some ⟨7, 0, none⟩) m c2, .int .i64 x] (zA5 n g h m) ⟨[1, 1, 1, 0, 1], True⟩
noncomputable def ls18 (m : Nat) (c2 : Nat) (h : GI) (x : Int) : Option OutS := evFS Tryz.prog lsK 1000 7 #[.slice (some ⟨6, 0, none⟩) n c, .slice (some ⟨7, 0, none⟩) m c2, .int .i64 x] (zA5 n g h m) ⟨[1, 1, 1, 0, 0, .row 0 0, .row 0 0, 0, 0, 1, 1, 1, 1, 1, 1], True⟩
abbrev zA6 (h : GI) := (aw3S0.push (.rows 2 1 (fun i j => .int .i64 (g i j)) 0 true 0 true)).push (.rows 1 1 (fun i j => .int .i64 (h i j)) 0 true 0 true)
noncomputable def ls19 (c2 : Nat) (h : GI) (x : Int) : Option OutS := evFS Tryz.prog lsK1 1000 7 #[.slice (some ⟨6, 0, none⟩) 2 c, .slice (some ⟨7, 0, none⟩) 1 c2, .int .i64 x] (zA6 g h) ⟨[1, 1, 1, 0, 0, .row 0 0, .row 0 0, 2, 2, 1, 1, 1, 1, 1, 1], True⟩
noncomputable def ls20 (c2 : Nat) (h : GI) (x : Int) : Option OutS := evFS Tryz.prog lsK1 1000 7 #[.slice (some ⟨6, 0, none⟩) 2 c, .slice (some ⟨7, 0, none⟩) 1 c2, .int .i64 x] (zA6 g h) ⟨[1, 1, 1, 0, 0, .row 0 0, .row 0 0, 1, 1, 1, 1, 1, 1, 1, 1], True⟩
noncomputable def ls21 (c2 : Nat) (h : GI) (x : Int) : Option OutS := evFS Tryz.prog lsK1 1000 7 #[.slice (some ⟨6, 0, none⟩) 2 c, .slice (some ⟨7, 0, none⟩) 1 c2, .int .i64 x] (zA6 g h) ⟨[1, 1, 1, 0, 0, .row 0 0, .row 0 0, 0, 0, 0, 0, 1, 1, 1, 1, 1, 1], True⟩
abbrev zA7 (h : GI) := (aw3S0.push (.rows 3 1 (fun i j => .int .i64 (g i j)) 0 true 0 true)).push (.rows 2 1 (fun i j => .int .i64 (h i j)) 0 true 0 true)
noncomputable def ls22 (c2 : Nat) (h : GI) (x : Int) : Option OutS := evFS Tryz.prog lsK2 1000 7 #[.slice (some ⟨6, 0, none⟩) 3 c, .slice (some ⟨7, 0, none⟩) 2 c2, .int .i64 x] (zA7 g h) ⟨[1, 1, 1, 0, 0, .row 0 0, .row 0 0, 2, 2, 1, 1, 1, 1, 1, 1], True⟩
noncomputable def ls23 (c2 : Nat) (h : GI) (x : Int) : Option OutS := evFS Tryz.prog lsK2 1000 7 #[.slice (some ⟨6, 0, none⟩) 3 c, .slice (some ⟨7, 0, none⟩) 2 c2, .int .i64 x] (zA7 g h) ⟨[1, 1, 1, 0, 0, .row 0 0, .row 0 0, 1, 1, 1, 1, 1, 1, 1, 1], True⟩
noncomputable def ls24 (c2 : Nat) (h : GI) (x : Int) : Option OutS := evFS Tryz.prog lsK2 1000 7 #[.slice (some ⟨6, 0, none⟩) 3 c, .slice (some ⟨7, 0, none⟩) 2 c2, .int .i64 x] (zA7 g h) ⟨[1, 1, 1, 0, 0, .row 0 0, .row 0 0, 0, 0, 0, 0, 1, 1, 1, 1, 1, 1], True⟩
abbrev zA8 (h : GI) := (aw3S0.push (.rows 4 1 (fun i j => .int .i64 (g i j)) 0 true 0 true)).push (.rows 3 1 (fun i j => .int .i64 (h i j)) 0 true 0 true)
noncomputable def ls25 (c2 : Nat) (h : GI) (x : Int) : Option OutS := evFS Tryz.prog lsK3 1000 7 #[.slice (some ⟨6, 0, none⟩) 4 c, .slice (some ⟨7, 0, none⟩) 3 c2, .int .i64 x] (zA8 g h) ⟨[1, 1, 1, 0, 0, .row 0 0, .row 0 0, 2, 2, 1, 1, 1, 1, 1, 1], True⟩
noncomputable def ls26 (c2 : Nat) (h : GI) (x : Int) : Option OutS := evFS Tryz.prog lsK3 1000 7 #[.slice (some ⟨6, 0, none⟩) 4 c, .slice (some ⟨7, 0, none⟩) 3 c2, .int .i64 x] (zA8 g h) ⟨[1, 1, 1, 0, 0, .row 0 0, .row 0 0, 1, 1, 1, 1, 1, 1, 1, 1], True⟩
noncomputable def ls27 (c2 : Nat) (h : GI) (x : Int) : Option OutS := evFS Tryz.prog lsK3 1000 7 #[.slice (some ⟨6, 0, none⟩) 4 c, .slice (some ⟨7, 0, none⟩) 3 c2, .int .i64 x] (zA8 g h) ⟨[1, 1, 1, 0, 0, .row 0 0, .row 0 0, 0, 0, 0, 0, 1, 1, 1, 1, 1, 1], True⟩
abbrev zA9 (h : GI) := (aw3S0.push (.rows 5 1 (fun i j => .int .i64 (g i j)) 0 true 0 true)).push (.rows 4 1 (fun i j => .int .i64 (h i j)) 0 true 0 true)
noncomputable def ls28 (c2 : Nat) (h : GI) (x : Int) : Option OutS := evFS Tryz.prog lsK4 1000 7 #[.slice (some ⟨6, 0, none⟩) 5 c, .slice (some ⟨7, 0, none⟩) 4 c2, .int .i64 x] (zA9 g h) ⟨[1, 1, 1, 0, 0, .row 0 0, .row 0 0, 2, 2, 1, 1, 1, 1, 1, 1], True⟩
noncomputable def ls29 (c2 : Nat) (h : GI) (x : Int) : Option OutS := evFS Tryz.prog lsK4 1000 7 #[.slice (some ⟨6, 0, none⟩) 5 c, .slice (some ⟨7, 0, none⟩) 4 c2, .int .i64 x] (zA9 g h) ⟨[1, 1, 1, 0, 0, .row 0 0, .row 0 0, 1, 1, 1, 1, 1, 1, 1, 1], True⟩
noncomputable def ls30 (c2 : Nat) (h : GI) (x : Int) : Option OutS := evFS Tryz.prog lsK4 1000 7 #[.slice (some ⟨6, 0, none⟩) 5 c, .slice (some ⟨7, 0, none⟩) 4 c2, .int .i64 x] (zA9 g h) ⟨[1, 1, 1, 0, 0, .row 0 0, .row 0 0, 0, 0, 0, 0, 1, 1, 1, 1, 1, 1], True⟩
abbrev lso0  : Prop := ((decide ((((0 : Nat)) : Int) > (7 : Int))) = false)
abbrev zA10 := (((0 : Nat)) : Int) ≤ (9223372036854775807 : Int)
abbrev zA11 := fun (i : Nat) => (fun (j : Nat) => (List.getD [] ((i * 1) + j) (0 : Int)))
abbrev zA12 := (cpV (0 : Nat) zA11) ≠ (0 : Int)
abbrev lso1  : Prop := ((0 = 0) ∧ ((0 = 0) ∧ (zA10 ∧ (zA10 ∧ (zA12 ∨ (((0 : Nat) = (1 : Nat)) ∨ (1 ≠ (0 : Nat))))))))
abbrev lso2  : Prop := (((((0 : Nat)) : Int) == (0 : Int)) = true)
abbrev lso3  : Prop := (((12 : Int) != (0 : Int)) = true)
abbrev lso4  : Prop := (((((0 : Nat)) : Int) != (((0 : Nat)) : Int)) = false)
abbrev lso5  : Prop := ((decide ((0 : Int) < (((0 : Nat)) : Int))) = false)
abbrev lso6  : Prop := (true = true)
abbrev lso7  : Prop := (((seV (0 : Nat) zA11) == (12 : Int)) = true)
abbrev lso8 (m : Nat) : Prop := ((decide ((((m : Nat)) : Int) > (7 : Int))) = true)
abbrev lso9 (m : Nat) : Prop := ((decide ((((m : Nat)) : Int) > (7 : Int))) = false)
abbrev lso10 (m : Nat) : Prop := ((m = m) ∧ ((m ≠ (0 : Nat)) ∧ ((m * 8) ≤ (140737488355328 : Nat))))
abbrev zA13 (h : GI) (m : Nat) := (m = m) ∧ (∀ (i : Nat), ((i < m) → (∀ (j : Nat), ((j < (1 : Nat)) → ((Value.int .i64 (h i j)) = (Value.int .i64 (gI (Value.int .i64 (h i j)))))))))
abbrev zA14 (m : Nat) := (((m : Nat)) : Int) ≤ (9223372036854775807 : Int)
abbrev lso11 (m : Nat) (h : GI) : Prop := ((0 = 0) ∧ ((zA13 h m) ∧ (zA10 ∧ ((zA14 m) ∧ (zA12 ∨ (((0 : Nat) = (1 : Nat)) ∨ ((m + 1) ≠ (0 : Nat))))))))
abbrev zA15 := decide ((((n : Nat)) : Int) > (7 : Int))
abbrev lso12 : Prop := ((zA15 n) = true)
abbrev lso13 : Prop := ((zA15 n) = false)
abbrev lso14 : Prop := ((n = n) ∧ ((n ≠ (0 : Nat)) ∧ ((n * 8) ≤ (140737488355328 : Nat))))
abbrev zA16 := (n = n) ∧ (∀ (i : Nat), ((i < n) → (∀ (j : Nat), ((j < (1 : Nat)) → ((Value.int .i64 (g i j)) = (Value.int .i64 (gI (Value.int .i64 (g i j)))))))))
abbrev zA17 := (((n : Nat)) : Int) ≤ (9223372036854775807 : Int)
abbrev zA18 := fun (i : Nat) => (fun (j : Nat) => (gI (Value.int .i64 (g i j))))
abbrev zA19 := cpV n (zA18 g)
abbrev zA20 := (zA19 n g) ≠ (0 : Int)
abbrev lso15 : Prop := ((zA16 n g) ∧ ((0 = 0) ∧ ((zA17 n) ∧ (zA10 ∧ ((zA20 n g) ∨ ((n = (1 : Nat)) ∨ (1 ≠ n)))))))
abbrev lso16 : Prop := ((zA16 n g) ∧ (zA17 n))
abbrev zA21 := (zA19 n g) != (0 : Int)
abbrev lso17 : Prop := ((zA21 n g) = false)
abbrev lso18 : Prop := (((.int .i64 (((n : Nat)) : Int)) : Value) = (.int .i64 (((n : Nat)) : Int)))
abbrev lso19 : Prop := (((.int .i64 (IntKind.i64.wrap ((((n : Nat)) : Int) - (1 : Int)))) : Value) = (.int .i64 ((((n - 1) : Nat)) : Int)))
abbrev zA22 := ((((n - 1) : Nat)) : Int) == (0 : Int)
abbrev lso20 : Prop := ((zA22 n) = true)
abbrev zA23 := seV n (zA18 g)
abbrev lso21 : Prop := (((zA23 n g) == (12 : Int)) = true)
abbrev lso22 : Prop := ((zA22 n) = false)
abbrev lso23 : Prop := (((((0 : Nat)) : Int) != ((((n - 1) : Nat)) : Int)) = true)
abbrev lso24 : Prop := (((zA23 n g) == (2 : Int)) = true)
abbrev lso25 : Prop := ((zA21 n g) = true)
abbrev lso26 : Prop := (((zA23 n g) == (zA19 n g)) = true)
abbrev lso27 (m : Nat) (g : GI) (h : GI) : Prop := ((zA16 n g) ∧ ((zA13 h m) ∧ ((zA17 n) ∧ ((zA14 m) ∧ ((zA20 n g) ∨ ((n = (1 : Nat)) ∨ ((m + 1) ≠ n)))))))
abbrev lso28 : Prop := (((zA23 n g) == (zA23 n g)) = true)
abbrev lso29  : Prop := ((decide ((((2 : Nat)) : Int) > (7 : Int))) = false)
abbrev lso30  : Prop := ((decide ((((1 : Nat)) : Int) > (7 : Int))) = false)
abbrev lso31  : Prop := ((2 = 2) ∧ (((2 : Nat) ≠ (0 : Nat)) ∧ (16 ≤ (140737488355328 : Nat))))
abbrev lso32  : Prop := ((1 = 1) ∧ (((1 : Nat) ≠ (0 : Nat)) ∧ (8 ≤ (140737488355328 : Nat))))
abbrev zA24 := (2 = 2) ∧ (∀ (i : Nat), ((i < (2 : Nat)) → (∀ (j : Nat), ((j < (1 : Nat)) → ((Value.int .i64 (g i j)) = (Value.int .i64 (gI (Value.int .i64 (g i j)))))))))
abbrev zA25 (h : GI) := (1 = 1) ∧ (∀ (i : Nat), ((i < (1 : Nat)) → (∀ (j : Nat), ((j < (1 : Nat)) → ((Value.int .i64 (h i j)) = (Value.int .i64 (gI (Value.int .i64 (h i j)))))))))
abbrev zA26 := cpV (2 : Nat) (zA18 g)
abbrev zA27 := (zA26 g) = (Int.ofNat 0)
abbrev zA28 (h : GI) := fun (i : Nat) => (Pl.cr (gI (Value.int .i64 (h i 0))) (- (1000 : Int)) (1000 : Int))
abbrev zA29 (h : GI) := feN (zA28 h) (1 : Nat) (0 : Nat)
abbrev zA30 (h : GI) := (zA29 h) = (Int.ofNat 0)
abbrev zA31 := Pl.cr x (0 : Int) (24 : Int)
abbrev zA32 := (zA31 x) = (Int.ofNat 0)
abbrev zA33 := (zA32 x) ∧ (¬ ((0 : Int) < x))
abbrev lso33 (h : GI) (x : Int) : Prop := ((zA24 g) ∧ ((zA25 h) ∧ ((zA27 g) ∧ ((zA30 h) ∧ (zA33 x)))))
abbrev zA34 (h : GI) := fun (i : Nat) => (fun (j : Nat) => (gI (Value.int .i64 (h i j))))
abbrev lso34 (c2 : Nat) (g : GI) (h : GI) (x : Int) : Prop := ((1 = 1) ∧ (((1 = 1) ∧ (∀ (i : Nat), ((i < (1 : Nat)) → (∀ (j : Nat), ((j < (1 : Nat)) → ((Value.int .i64 (rt1F ⟨c, (zA18 g), (0 : Nat), true, (0 : Nat), true, c2, (zA34 h), (0 : Nat), true, (0 : Nat), true, x⟩ (1 : Nat) i j)) = (Value.int .i64 (gI (Value.int .i64 (rt1F ⟨c, (zA18 g), (0 : Nat), true, (0 : Nat), true, c2, (zA34 h), (0 : Nat), true, (0 : Nat), true, x⟩ (1 : Nat) i j)))))))))) ∧ ((((1 : Nat)) : Int) ≤ (9223372036854775807 : Int))))
abbrev zA35 (h : GI) := IntKind.i64.wrap ((gI (Value.int .i64 (h 0 0))) * (1 : Int))
abbrev lso35 (c2 : Nat) (g : GI) (h : GI) (x : Int) : Prop := ((decide (((1 : Nat) = (1 : Nat)) ∧ (sameI (fun (i : Nat) => (fun (j : Nat) => (List.getD ((zA35 h) :: []) ((i * 1) + j) (0 : Int)))) (fun (i : Nat) => (fun (j : Nat) => (gI (Value.int .i64 (rt1F ⟨c, (zA18 g), (0 : Nat), true, (0 : Nat), true, c2, (zA34 h), (0 : Nat), true, (0 : Nat), true, x⟩ (1 : Nat) i j))))) (1 : Nat)))) = true)
abbrev lso36  : Prop := (((0 : Int) == (0 : Int)) = true)
abbrev lso37 (h : GI) (x : Int) : Prop := ((zA24 g) ∧ ((zA25 h) ∧ ((zA27 g) ∧ ((zA30 h) ∧ ((zA32 x) ∧ (((0 : Int) < x) ∧ (∀ (i : Nat), ((i < (Int.toNat x)) → ((Pl.cr (rt1D ⟨(2 : Nat), (zA18 g), (3 : Nat), true, (1 : Nat), false, (1 : Nat), (zA34 h), (3 : Nat), true, (1 : Nat), false, x⟩ (i + 1)) (- (1073741824 : Int)) (1073741824 : Int)) = (0 : Int))))))))))
abbrev lso38 (c2 : Nat) (g : GI) (h : GI) (x : Int) : Prop := ((zA24 g) ∧ ((zA25 h) ∧ ((zA27 g) ∧ ((zA30 h) ∧ ((zA32 x) ∧ (((0 : Int) < x) ∧ (∀ (i : Nat), ((i < (Int.toNat x)) → ((Pl.cr (rt1D ⟨c, (zA18 g), (0 : Nat), true, (0 : Nat), true, c2, (zA34 h), (0 : Nat), true, (0 : Nat), true, x⟩ (i + 1)) (- (1073741824 : Int)) (1073741824 : Int)) = (0 : Int))))))))))
abbrev zA36 := (((Int.toNat x) - 1) + 2) = (((Int.toNat x) - 1) + 2)
abbrev lso39 (c2 : Nat) (g : GI) (h : GI) (x : Int) : Prop := (((zA36 x) ∧ (∀ (i : Nat), ((i < (((Int.toNat x) - 1) + 2)) → (∀ (j : Nat), ((j < (1 : Nat)) → ((Value.int .i64 (st1F ⟨(2 : Nat), (zA18 g), (3 : Nat), true, (1 : Nat), false, (1 : Nat), (zA34 h), (3 : Nat), true, (1 : Nat), false, x⟩ ((Int.toNat x) - 1) i j)) = (Value.int .i64 (gI (Value.int .i64 (st1F ⟨(2 : Nat), (zA18 g), (3 : Nat), true, (1 : Nat), false, (1 : Nat), (zA34 h), (3 : Nat), true, (1 : Nat), false, x⟩ ((Int.toNat x) - 1) i j)))))))))) ∧ (((zA36 x) ∧ (∀ (i : Nat), ((i < (((Int.toNat x) - 1) + 2)) → (∀ (j : Nat), ((j < (1 : Nat)) → ((Value.int .i64 (rt1F ⟨c, (zA18 g), (0 : Nat), true, (0 : Nat), true, c2, (zA34 h), (0 : Nat), true, (0 : Nat), true, x⟩ (((Int.toNat x) - 1) + 2) i j)) = (Value.int .i64 (gI (Value.int .i64 (rt1F ⟨c, (zA18 g), (0 : Nat), true, (0 : Nat), true, c2, (zA34 h), (0 : Nat), true, (0 : Nat), true, x⟩ (((Int.toNat x) - 1) + 2) i j)))))))))) ∧ (((((((Int.toNat x) - 1) + 2) : Nat)) : Int) ≤ (9223372036854775807 : Int))))
abbrev lso40 (c2 : Nat) (g : GI) (h : GI) (x : Int) : Prop := ((decide ((zA36 x) ∧ (sameI (fun (i : Nat) => (fun (j : Nat) => (gI (Value.int .i64 (st1F ⟨(2 : Nat), (zA18 g), (3 : Nat), true, (1 : Nat), false, (1 : Nat), (zA34 h), (3 : Nat), true, (1 : Nat), false, x⟩ ((Int.toNat x) - 1) i j))))) (fun (i : Nat) => (fun (j : Nat) => (gI (Value.int .i64 (rt1F ⟨c, (zA18 g), (0 : Nat), true, (0 : Nat), true, c2, (zA34 h), (0 : Nat), true, (0 : Nat), true, x⟩ (((Int.toNat x) - 1) + 2) i j))))) (((Int.toNat x) - 1) + 2)))) = true)
abbrev zA37 := (zA26 g) ≠ (0 : Int)
abbrev zA38 (h : GI) := (zA29 h) ≠ (0 : Int)
abbrev zA39 := (zA31 x) ≠ (0 : Int)
abbrev lso41 (h : GI) (x : Int) : Prop := ((zA24 g) ∧ ((zA25 h) ∧ ((zA37 g) ∨ ((zA38 h) ∨ ((zA39 x) ∨ (Exists (fun (i : Nat) => ((i < (Int.toNat x)) ∧ ((Pl.cr (rt1D ⟨(2 : Nat), (zA18 g), (3 : Nat), true, (1 : Nat), false, (1 : Nat), (zA34 h), (3 : Nat), true, (1 : Nat), false, x⟩ (i + 1)) (- (1073741824 : Int)) (1073741824 : Int)) ≠ (0 : Int))))))))))
abbrev lso42 (c2 : Nat) (g : GI) (h : GI) (x : Int) : Prop := ((zA24 g) ∧ ((zA25 h) ∧ ((zA37 g) ∨ ((zA38 h) ∨ ((zA39 x) ∨ (Exists (fun (i : Nat) => ((i < (Int.toNat x)) ∧ ((Pl.cr (rt1D ⟨c, (zA18 g), (0 : Nat), true, (0 : Nat), true, c2, (zA34 h), (0 : Nat), true, (0 : Nat), true, x⟩ (i + 1)) (- (1073741824 : Int)) (1073741824 : Int)) ≠ (0 : Int))))))))))
abbrev zA40 (h : GI) := th2 (th2 (th2 (zA26 g) (zA29 h)) (zA31 x)) (4 : Int)
abbrev lso43 (h : GI) (x : Int) : Prop := (((zA40 g x h) == (zA40 g x h)) = true)
abbrev lso44  : Prop := ((decide ((((3 : Nat)) : Int) > (7 : Int))) = false)
abbrev lso45  : Prop := ((3 = 3) ∧ (((3 : Nat) ≠ (0 : Nat)) ∧ (24 ≤ (140737488355328 : Nat))))
abbrev zA41 := (3 = 3) ∧ (∀ (i : Nat), ((i < (3 : Nat)) → (∀ (j : Nat), ((j < (1 : Nat)) → ((Value.int .i64 (g i j)) = (Value.int .i64 (gI (Value.int .i64 (g i j)))))))))
abbrev zA42 (h : GI) := (2 = 2) ∧ (∀ (i : Nat), ((i < (2 : Nat)) → (∀ (j : Nat), ((j < (1 : Nat)) → ((Value.int .i64 (h i j)) = (Value.int .i64 (gI (Value.int .i64 (h i j)))))))))
abbrev zA43 := cpV (3 : Nat) (zA18 g)
abbrev zA44 := (zA43 g) = (Int.ofNat 0)
abbrev zA45 (h : GI) := feN (zA28 h) (2 : Nat) (0 : Nat)
abbrev zA46 (h : GI) := (zA45 h) = (Int.ofNat 0)
abbrev lso46 (h : GI) (x : Int) : Prop := ((zA41 g) ∧ ((zA42 h) ∧ ((zA44 g) ∧ ((zA46 h) ∧ (zA33 x)))))
abbrev lso47 (c2 : Nat) (g : GI) (h : GI) (x : Int) : Prop := ((2 = 2) ∧ (((2 = 2) ∧ (∀ (i : Nat), ((i < (2 : Nat)) → (∀ (j : Nat), ((j < (1 : Nat)) → ((Value.int .i64 (rt2F ⟨c, (zA18 g), (0 : Nat), true, (0 : Nat), true, c2, (zA34 h), (0 : Nat), true, (0 : Nat), true, x⟩ (2 : Nat) i j)) = (Value.int .i64 (gI (Value.int .i64 (rt2F ⟨c, (zA18 g), (0 : Nat), true, (0 : Nat), true, c2, (zA34 h), (0 : Nat), true, (0 : Nat), true, x⟩ (2 : Nat) i j)))))))))) ∧ ((((2 : Nat)) : Int) ≤ (9223372036854775807 : Int))))
abbrev zA47 (h : GI) := gI (Value.int .i64 (h 1 0))
abbrev lso48 (c2 : Nat) (g : GI) (h : GI) (x : Int) : Prop := ((decide (((2 : Nat) = (2 : Nat)) ∧ (sameI (fun (i : Nat) => (fun (j : Nat) => (List.getD ((zA35 h) :: ((IntKind.i64.wrap ((zA47 h) * (IntKind.i64.wrap ((1 : Int) * (gI (Value.int .i64 (g 2 0))))))) :: [])) ((i * 1) + j) (0 : Int)))) (fun (i : Nat) => (fun (j : Nat) => (gI (Value.int .i64 (rt2F ⟨c, (zA18 g), (0 : Nat), true, (0 : Nat), true, c2, (zA34 h), (0 : Nat), true, (0 : Nat), true, x⟩ (2 : Nat) i j))))) (2 : Nat)))) = true)
abbrev lso49 (h : GI) (x : Int) : Prop := ((zA41 g) ∧ ((zA42 h) ∧ ((zA44 g) ∧ ((zA46 h) ∧ ((zA32 x) ∧ (((0 : Int) < x) ∧ (∀ (i : Nat), ((i < (Int.toNat x)) → ((Pl.cr (rt2D ⟨(3 : Nat), (zA18 g), (3 : Nat), true, (1 : Nat), false, (2 : Nat), (zA34 h), (3 : Nat), true, (1 : Nat), false, x⟩ (i + 2)) (- (1073741824 : Int)) (1073741824 : Int)) = (0 : Int))))))))))
abbrev lso50 (c2 : Nat) (g : GI) (h : GI) (x : Int) : Prop := ((zA41 g) ∧ ((zA42 h) ∧ ((zA44 g) ∧ ((zA46 h) ∧ ((zA32 x) ∧ (((0 : Int) < x) ∧ (∀ (i : Nat), ((i < (Int.toNat x)) → ((Pl.cr (rt2D ⟨c, (zA18 g), (0 : Nat), true, (0 : Nat), true, c2, (zA34 h), (0 : Nat), true, (0 : Nat), true, x⟩ (i + 2)) (- (1073741824 : Int)) (1073741824 : Int)) = (0 : Int))))))))))
abbrev zA48 := (((Int.toNat x) - 1) + 3) = (((Int.toNat x) - 1) + 3)
abbrev lso51 (c2 : Nat) (g : GI) (h : GI) (x : Int) : Prop := (((zA48 x) ∧ (∀ (i : Nat), ((i < (((Int.toNat x) - 1) + 3)) → (∀ (j : Nat), ((j < (1 : Nat)) → ((Value.int .i64 (st2F ⟨(3 : Nat), (zA18 g), (3 : Nat), true, (1 : Nat), false, (2 : Nat), (zA34 h), (3 : Nat), true, (1 : Nat), false, x⟩ ((Int.toNat x) - 1) i j)) = (Value.int .i64 (gI (Value.int .i64 (st2F ⟨(3 : Nat), (zA18 g), (3 : Nat), true, (1 : Nat), false, (2 : Nat), (zA34 h), (3 : Nat), true, (1 : Nat), false, x⟩ ((Int.toNat x) - 1) i j)))))))))) ∧ (((zA48 x) ∧ (∀ (i : Nat), ((i < (((Int.toNat x) - 1) + 3)) → (∀ (j : Nat), ((j < (1 : Nat)) → ((Value.int .i64 (rt2F ⟨c, (zA18 g), (0 : Nat), true, (0 : Nat), true, c2, (zA34 h), (0 : Nat), true, (0 : Nat), true, x⟩ (((Int.toNat x) - 1) + 3) i j)) = (Value.int .i64 (gI (Value.int .i64 (rt2F ⟨c, (zA18 g), (0 : Nat), true, (0 : Nat), true, c2, (zA34 h), (0 : Nat), true, (0 : Nat), true, x⟩ (((Int.toNat x) - 1) + 3) i j)))))))))) ∧ (((((((Int.toNat x) - 1) + 3) : Nat)) : Int) ≤ (9223372036854775807 : Int))))
abbrev lso52 (c2 : Nat) (g : GI) (h : GI) (x : Int) : Prop := ((decide ((zA48 x) ∧ (sameI (fun (i : Nat) => (fun (j : Nat) => (gI (Value.int .i64 (st2F ⟨(3 : Nat), (zA18 g), (3 : Nat), true, (1 : Nat), false, (2 : Nat), (zA34 h), (3 : Nat), true, (1 : Nat), false, x⟩ ((Int.toNat x) - 1) i j))))) (fun (i : Nat) => (fun (j : Nat) => (gI (Value.int .i64 (rt2F ⟨c, (zA18 g), (0 : Nat), true, (0 : Nat), true, c2, (zA34 h), (0 : Nat), true, (0 : Nat), true, x⟩ (((Int.toNat x) - 1) + 3) i j))))) (((Int.toNat x) - 1) + 3)))) = true)
abbrev zA49 := (zA43 g) ≠ (0 : Int)
abbrev zA50 (h : GI) := (zA45 h) ≠ (0 : Int)
abbrev lso53 (h : GI) (x : Int) : Prop := ((zA41 g) ∧ ((zA42 h) ∧ ((zA49 g) ∨ ((zA50 h) ∨ ((zA39 x) ∨ (Exists (fun (i : Nat) => ((i < (Int.toNat x)) ∧ ((Pl.cr (rt2D ⟨(3 : Nat), (zA18 g), (3 : Nat), true, (1 : Nat), false, (2 : Nat), (zA34 h), (3 : Nat), true, (1 : Nat), false, x⟩ (i + 2)) (- (1073741824 : Int)) (1073741824 : Int)) ≠ (0 : Int))))))))))
abbrev lso54 (c2 : Nat) (g : GI) (h : GI) (x : Int) : Prop := ((zA41 g) ∧ ((zA42 h) ∧ ((zA49 g) ∨ ((zA50 h) ∨ ((zA39 x) ∨ (Exists (fun (i : Nat) => ((i < (Int.toNat x)) ∧ ((Pl.cr (rt2D ⟨c, (zA18 g), (0 : Nat), true, (0 : Nat), true, c2, (zA34 h), (0 : Nat), true, (0 : Nat), true, x⟩ (i + 2)) (- (1073741824 : Int)) (1073741824 : Int)) ≠ (0 : Int))))))))))
abbrev zA51 (h : GI) := th2 (th2 (th2 (zA43 g) (zA45 h)) (zA31 x)) (4 : Int)
abbrev lso55 (h : GI) (x : Int) : Prop := (((zA51 g x h) == (zA51 g x h)) = true)
abbrev lso56  : Prop := ((decide ((((4 : Nat)) : Int) > (7 : Int))) = false)
abbrev lso57  : Prop := ((4 = 4) ∧ (((4 : Nat) ≠ (0 : Nat)) ∧ (32 ≤ (140737488355328 : Nat))))
abbrev zA52 := (4 = 4) ∧ (∀ (i : Nat), ((i < (4 : Nat)) → (∀ (j : Nat), ((j < (1 : Nat)) → ((Value.int .i64 (g i j)) = (Value.int .i64 (gI (Value.int .i64 (g i j)))))))))
abbrev zA53 (h : GI) := (3 = 3) ∧ (∀ (i : Nat), ((i < (3 : Nat)) → (∀ (j : Nat), ((j < (1 : Nat)) → ((Value.int .i64 (h i j)) = (Value.int .i64 (gI (Value.int .i64 (h i j)))))))))
abbrev zA54 := cpV (4 : Nat) (zA18 g)
abbrev zA55 := (zA54 g) = (Int.ofNat 0)
abbrev zA56 (h : GI) := feN (zA28 h) (3 : Nat) (0 : Nat)
abbrev zA57 (h : GI) := (zA56 h) = (Int.ofNat 0)
abbrev lso58 (h : GI) (x : Int) : Prop := ((zA52 g) ∧ ((zA53 h) ∧ ((zA55 g) ∧ ((zA57 h) ∧ (zA33 x)))))
abbrev lso59 (c2 : Nat) (g : GI) (h : GI) (x : Int) : Prop := ((3 = 3) ∧ (((3 = 3) ∧ (∀ (i : Nat), ((i < (3 : Nat)) → (∀ (j : Nat), ((j < (1 : Nat)) → ((Value.int .i64 (rt3F ⟨c, (zA18 g), (0 : Nat), true, (0 : Nat), true, c2, (zA34 h), (0 : Nat), true, (0 : Nat), true, x⟩ (3 : Nat) i j)) = (Value.int .i64 (gI (Value.int .i64 (rt3F ⟨c, (zA18 g), (0 : Nat), true, (0 : Nat), true, c2, (zA34 h), (0 : Nat), true, (0 : Nat), true, x⟩ (3 : Nat) i j)))))))))) ∧ ((((3 : Nat)) : Int) ≤ (9223372036854775807 : Int))))
abbrev zA58 := IntKind.i64.wrap ((1 : Int) * (gI (Value.int .i64 (g 3 0))))
abbrev lso60 (c2 : Nat) (g : GI) (h : GI) (x : Int) : Prop := ((decide (((3 : Nat) = (3 : Nat)) ∧ (sameI (fun (i : Nat) => (fun (j : Nat) => (List.getD ((zA35 h) :: ((IntKind.i64.wrap ((zA47 h) * (zA58 g))) :: ((IntKind.i64.wrap ((gI (Value.int .i64 (h 2 0))) * (IntKind.i64.wrap ((zA58 g) * (gI (Value.int .i64 (g 3 0))))))) :: []))) ((i * 1) + j) (0 : Int)))) (fun (i : Nat) => (fun (j : Nat) => (gI (Value.int .i64 (rt3F ⟨c, (zA18 g), (0 : Nat), true, (0 : Nat), true, c2, (zA34 h), (0 : Nat), true, (0 : Nat), true, x⟩ (3 : Nat) i j))))) (3 : Nat)))) = true)
abbrev lso61 (h : GI) (x : Int) : Prop := ((zA52 g) ∧ ((zA53 h) ∧ ((zA55 g) ∧ ((zA57 h) ∧ ((zA32 x) ∧ (((0 : Int) < x) ∧ (∀ (i : Nat), ((i < (Int.toNat x)) → ((Pl.cr (rt3D ⟨(4 : Nat), (zA18 g), (3 : Nat), true, (1 : Nat), false, (3 : Nat), (zA34 h), (3 : Nat), true, (1 : Nat), false, x⟩ (i + 3)) (- (1073741824 : Int)) (1073741824 : Int)) = (0 : Int))))))))))
abbrev lso62 (c2 : Nat) (g : GI) (h : GI) (x : Int) : Prop := ((zA52 g) ∧ ((zA53 h) ∧ ((zA55 g) ∧ ((zA57 h) ∧ ((zA32 x) ∧ (((0 : Int) < x) ∧ (∀ (i : Nat), ((i < (Int.toNat x)) → ((Pl.cr (rt3D ⟨c, (zA18 g), (0 : Nat), true, (0 : Nat), true, c2, (zA34 h), (0 : Nat), true, (0 : Nat), true, x⟩ (i + 3)) (- (1073741824 : Int)) (1073741824 : Int)) = (0 : Int))))))))))
abbrev zA59 := (((Int.toNat x) - 1) + 4) = (((Int.toNat x) - 1) + 4)
abbrev lso63 (c2 : Nat) (g : GI) (h : GI) (x : Int) : Prop := (((zA59 x) ∧ (∀ (i : Nat), ((i < (((Int.toNat x) - 1) + 4)) → (∀ (j : Nat), ((j < (1 : Nat)) → ((Value.int .i64 (st3F ⟨(4 : Nat), (zA18 g), (3 : Nat), true, (1 : Nat), false, (3 : Nat), (zA34 h), (3 : Nat), true, (1 : Nat), false, x⟩ ((Int.toNat x) - 1) i j)) = (Value.int .i64 (gI (Value.int .i64 (st3F ⟨(4 : Nat), (zA18 g), (3 : Nat), true, (1 : Nat), false, (3 : Nat), (zA34 h), (3 : Nat), true, (1 : Nat), false, x⟩ ((Int.toNat x) - 1) i j)))))))))) ∧ (((zA59 x) ∧ (∀ (i : Nat), ((i < (((Int.toNat x) - 1) + 4)) → (∀ (j : Nat), ((j < (1 : Nat)) → ((Value.int .i64 (rt3F ⟨c, (zA18 g), (0 : Nat), true, (0 : Nat), true, c2, (zA34 h), (0 : Nat), true, (0 : Nat), true, x⟩ (((Int.toNat x) - 1) + 4) i j)) = (Value.int .i64 (gI (Value.int .i64 (rt3F ⟨c, (zA18 g), (0 : Nat), true, (0 : Nat), true, c2, (zA34 h), (0 : Nat), true, (0 : Nat), true, x⟩ (((Int.toNat x) - 1) + 4) i j)))))))))) ∧ (((((((Int.toNat x) - 1) + 4) : Nat)) : Int) ≤ (9223372036854775807 : Int))))
abbrev lso64 (c2 : Nat) (g : GI) (h : GI) (x : Int) : Prop := ((decide ((zA59 x) ∧ (sameI (fun (i : Nat) => (fun (j : Nat) => (gI (Value.int .i64 (st3F ⟨(4 : Nat), (zA18 g), (3 : Nat), true, (1 : Nat), false, (3 : Nat), (zA34 h), (3 : Nat), true, (1 : Nat), false, x⟩ ((Int.toNat x) - 1) i j))))) (fun (i : Nat) => (fun (j : Nat) => (gI (Value.int .i64 (rt3F ⟨c, (zA18 g), (0 : Nat), true, (0 : Nat), true, c2, (zA34 h), (0 : Nat), true, (0 : Nat), true, x⟩ (((Int.toNat x) - 1) + 4) i j))))) (((Int.toNat x) - 1) + 4)))) = true)
abbrev zA60 := (zA54 g) ≠ (0 : Int)
abbrev zA61 (h : GI) := (zA56 h) ≠ (0 : Int)
abbrev lso65 (h : GI) (x : Int) : Prop := ((zA52 g) ∧ ((zA53 h) ∧ ((zA60 g) ∨ ((zA61 h) ∨ ((zA39 x) ∨ (Exists (fun (i : Nat) => ((i < (Int.toNat x)) ∧ ((Pl.cr (rt3D ⟨(4 : Nat), (zA18 g), (3 : Nat), true, (1 : Nat), false, (3 : Nat), (zA34 h), (3 : Nat), true, (1 : Nat), false, x⟩ (i + 3)) (- (1073741824 : Int)) (1073741824 : Int)) ≠ (0 : Int))))))))))
abbrev lso66 (c2 : Nat) (g : GI) (h : GI) (x : Int) : Prop := ((zA52 g) ∧ ((zA53 h) ∧ ((zA60 g) ∨ ((zA61 h) ∨ ((zA39 x) ∨ (Exists (fun (i : Nat) => ((i < (Int.toNat x)) ∧ ((Pl.cr (rt3D ⟨c, (zA18 g), (0 : Nat), true, (0 : Nat), true, c2, (zA34 h), (0 : Nat), true, (0 : Nat), true, x⟩ (i + 3)) (- (1073741824 : Int)) (1073741824 : Int)) ≠ (0 : Int))))))))))
abbrev zA62 (h : GI) := th2 (th2 (th2 (zA54 g) (zA56 h)) (zA31 x)) (4 : Int)
abbrev lso67 (h : GI) (x : Int) : Prop := (((zA62 g x h) == (zA62 g x h)) = true)
abbrev lso68  : Prop := ((decide ((((5 : Nat)) : Int) > (7 : Int))) = false)
abbrev lso69  : Prop := ((5 = 5) ∧ (((5 : Nat) ≠ (0 : Nat)) ∧ (40 ≤ (140737488355328 : Nat))))
abbrev zA63 := (5 = 5) ∧ (∀ (i : Nat), ((i < (5 : Nat)) → (∀ (j : Nat), ((j < (1 : Nat)) → ((Value.int .i64 (g i j)) = (Value.int .i64 (gI (Value.int .i64 (g i j)))))))))
abbrev zA64 (h : GI) := (4 = 4) ∧ (∀ (i : Nat), ((i < (4 : Nat)) → (∀ (j : Nat), ((j < (1 : Nat)) → ((Value.int .i64 (h i j)) = (Value.int .i64 (gI (Value.int .i64 (h i j)))))))))
abbrev zA65 := cpV (5 : Nat) (zA18 g)
abbrev zA66 := (zA65 g) = (Int.ofNat 0)
abbrev zA67 (h : GI) := feN (zA28 h) (4 : Nat) (0 : Nat)
abbrev zA68 (h : GI) := (zA67 h) = (Int.ofNat 0)
abbrev lso70 (h : GI) (x : Int) : Prop := ((zA63 g) ∧ ((zA64 h) ∧ ((zA66 g) ∧ ((zA68 h) ∧ (zA33 x)))))
abbrev lso71 (c2 : Nat) (g : GI) (h : GI) (x : Int) : Prop := ((4 = 4) ∧ (((4 = 4) ∧ (∀ (i : Nat), ((i < (4 : Nat)) → (∀ (j : Nat), ((j < (1 : Nat)) → ((Value.int .i64 (rt4F ⟨c, (zA18 g), (0 : Nat), true, (0 : Nat), true, c2, (zA34 h), (0 : Nat), true, (0 : Nat), true, x⟩ (4 : Nat) i j)) = (Value.int .i64 (gI (Value.int .i64 (rt4F ⟨c, (zA18 g), (0 : Nat), true, (0 : Nat), true, c2, (zA34 h), (0 : Nat), true, (0 : Nat), true, x⟩ (4 : Nat) i j)))))))))) ∧ ((((4 : Nat)) : Int) ≤ (9223372036854775807 : Int))))
abbrev zA69 := gI (Value.int .i64 (g 4 0))
abbrev zA70 := IntKind.i64.wrap ((1 : Int) * (zA69 g))
abbrev zA71 := IntKind.i64.wrap ((zA70 g) * (zA69 g))
abbrev lso72 (c2 : Nat) (g : GI) (h : GI) (x : Int) : Prop := ((decide (((4 : Nat) = (4 : Nat)) ∧ (sameI (fun (i : Nat) => (fun (j : Nat) => (List.getD ((zA35 h) :: ((IntKind.i64.wrap ((zA47 h) * (zA70 g))) :: ((IntKind.i64.wrap ((gI (Value.int .i64 (h 2 0))) * (zA71 g))) :: ((IntKind.i64.wrap ((gI (Value.int .i64 (h 3 0))) * (IntKind.i64.wrap ((zA71 g) * (zA69 g))))) :: [])))) ((i * 1) + j) (0 : Int)))) (fun (i : Nat) => (fun (j : Nat) => (gI (Value.int .i64 (rt4F ⟨c, (zA18 g), (0 : Nat), true, (0 : Nat), true, c2, (zA34 h), (0 : Nat), true, (0 : Nat), true, x⟩ (4 : Nat) i j))))) (4 : Nat)))) = true)
abbrev lso73 (h : GI) (x : Int) : Prop := ((zA63 g) ∧ ((zA64 h) ∧ ((zA66 g) ∧ ((zA68 h) ∧ ((zA32 x) ∧ (((0 : Int) < x) ∧ (∀ (i : Nat), ((i < (Int.toNat x)) → ((Pl.cr (rt4D ⟨(5 : Nat), (zA18 g), (3 : Nat), true, (1 : Nat), false, (4 : Nat), (zA34 h), (3 : Nat), true, (1 : Nat), false, x⟩ (i + 4)) (- (1073741824 : Int)) (1073741824 : Int)) = (0 : Int))))))))))
abbrev lso74 (c2 : Nat) (g : GI) (h : GI) (x : Int) : Prop := ((zA63 g) ∧ ((zA64 h) ∧ ((zA66 g) ∧ ((zA68 h) ∧ ((zA32 x) ∧ (((0 : Int) < x) ∧ (∀ (i : Nat), ((i < (Int.toNat x)) → ((Pl.cr (rt4D ⟨c, (zA18 g), (0 : Nat), true, (0 : Nat), true, c2, (zA34 h), (0 : Nat), true, (0 : Nat), true, x⟩ (i + 4)) (- (1073741824 : Int)) (1073741824 : Int)) = (0 : Int))))))))))
abbrev zA72 := (((Int.toNat x) - 1) + 5) = (((Int.toNat x) - 1) + 5)
abbrev lso75 (c2 : Nat) (g : GI) (h : GI) (x : Int) : Prop := (((zA72 x) ∧ (∀ (i : Nat), ((i < (((Int.toNat x) - 1) + 5)) → (∀ (j : Nat), ((j < (1 : Nat)) → ((Value.int .i64 (st4F ⟨(5 : Nat), (zA18 g), (3 : Nat), true, (1 : Nat), false, (4 : Nat), (zA34 h), (3 : Nat), true, (1 : Nat), false, x⟩ ((Int.toNat x) - 1) i j)) = (Value.int .i64 (gI (Value.int .i64 (st4F ⟨(5 : Nat), (zA18 g), (3 : Nat), true, (1 : Nat), false, (4 : Nat), (zA34 h), (3 : Nat), true, (1 : Nat), false, x⟩ ((Int.toNat x) - 1) i j)))))))))) ∧ (((zA72 x) ∧ (∀ (i : Nat), ((i < (((Int.toNat x) - 1) + 5)) → (∀ (j : Nat), ((j < (1 : Nat)) → ((Value.int .i64 (rt4F ⟨c, (zA18 g), (0 : Nat), true, (0 : Nat), true, c2, (zA34 h), (0 : Nat), true, (0 : Nat), true, x⟩ (((Int.toNat x) - 1) + 5) i j)) = (Value.int .i64 (gI (Value.int .i64 (rt4F ⟨c, (zA18 g), (0 : Nat), true, (0 : Nat), true, c2, (zA34 h), (0 : Nat), true, (0 : Nat), true, x⟩ (((Int.toNat x) - 1) + 5) i j)))))))))) ∧ (((((((Int.toNat x) - 1) + 5) : Nat)) : Int) ≤ (9223372036854775807 : Int))))
abbrev lso76 (c2 : Nat) (g : GI) (h : GI) (x : Int) : Prop := ((decide ((zA72 x) ∧ (sameI (fun (i : Nat) => (fun (j : Nat) => (gI (Value.int .i64 (st4F ⟨(5 : Nat), (zA18 g), (3 : Nat), true, (1 : Nat), false, (4 : Nat), (zA34 h), (3 : Nat), true, (1 : Nat), false, x⟩ ((Int.toNat x) - 1) i j))))) (fun (i : Nat) => (fun (j : Nat) => (gI (Value.int .i64 (rt4F ⟨c, (zA18 g), (0 : Nat), true, (0 : Nat), true, c2, (zA34 h), (0 : Nat), true, (0 : Nat), true, x⟩ (((Int.toNat x) - 1) + 5) i j))))) (((Int.toNat x) - 1) + 5)))) = true)
abbrev zA73 := (zA65 g) ≠ (0 : Int)
abbrev zA74 (h : GI) := (zA67 h) ≠ (0 : Int)
abbrev lso77 (h : GI) (x : Int) : Prop := ((zA63 g) ∧ ((zA64 h) ∧ ((zA73 g) ∨ ((zA74 h) ∨ ((zA39 x) ∨ (Exists (fun (i : Nat) => ((i < (Int.toNat x)) ∧ ((Pl.cr (rt4D ⟨(5 : Nat), (zA18 g), (3 : Nat), true, (1 : Nat), false, (4 : Nat), (zA34 h), (3 : Nat), true, (1 : Nat), false, x⟩ (i + 4)) (- (1073741824 : Int)) (1073741824 : Int)) ≠ (0 : Int))))))))))
abbrev lso78 (c2 : Nat) (g : GI) (h : GI) (x : Int) : Prop := ((zA63 g) ∧ ((zA64 h) ∧ ((zA73 g) ∨ ((zA74 h) ∨ ((zA39 x) ∨ (Exists (fun (i : Nat) => ((i < (Int.toNat x)) ∧ ((Pl.cr (rt4D ⟨c, (zA18 g), (0 : Nat), true, (0 : Nat), true, c2, (zA34 h), (0 : Nat), true, (0 : Nat), true, x⟩ (i + 4)) (- (1073741824 : Int)) (1073741824 : Int)) ≠ (0 : Int))))))))))
abbrev zA75 (h : GI) := th2 (th2 (th2 (zA65 g) (zA67 h)) (zA31 x)) (4 : Int)
abbrev lso79 (h : GI) (x : Int) : Prop := (((zA75 g x h) == (zA75 g x h)) = true)
theorem lsK_ok : FOkS Tryz.prog lsK := bothX_ok kSameI_ok (bothX_ok kSE_ok (bothX_ok kRE_ok (bothX_ok kCP_ok (bothX_ok kRCP_ok (tabT_ok (by kernel_rfl) aw3_calls)))))
theorem lsK1_ok : FOkS Tryz.prog lsK1 := bothX_ok kSameI_ok (bothX_ok kS1_ok (bothX_ok kT1_ok (tabT_ok (by kernel_rfl) aw3_calls)))
theorem lsK2_ok : FOkS Tryz.prog lsK2 := bothX_ok kSameI_ok (bothX_ok kS2_ok (bothX_ok kT2_ok (tabT_ok (by kernel_rfl) aw3_calls)))
theorem lsK3_ok : FOkS Tryz.prog lsK3 := bothX_ok kSameI_ok (bothX_ok kS3_ok (bothX_ok kT3_ok (tabT_ok (by kernel_rfl) aw3_calls)))
theorem lsK4_ok : FOkS Tryz.prog lsK4 := bothX_ok kSameI_ok (bothX_ok kS4_ok (bothX_ok kT4_ok (tabT_ok (by kernel_rfl) aw3_calls)))
abbrev zA76 := (((True ∧ lso0) ∧ lso0) ∧ lso0) ∧ lso0
abbrev zA77 := ((((((((((((zA76 ∧ lso0) ∧ lso1) ∧ lso2) ∧ lso3) ∧ lso4) ∧ lso5) ∧ lso6) ∧ lso6) ∧ lso6) ∧ lso6) ∧ lso7) ∧ lso7)
theorem ls0_o : obY (ls0 x) = zA77 := by kernel_rfl
theorem ls0_g : goodY (ls0 x) = true := by kernel_rfl
theorem ls1_o (c2 : Nat) (x : Int) : obY (ls1 c2 x) = zA77 := by kernel_rfl
theorem ls1_g (c2 : Nat) (x : Int) : goodY (ls1 c2 x) = true := by kernel_rfl
abbrev zA78 (m : Nat) := (zA76 ∧ (lso8 m))
theorem ls2_o (m : Nat) (c2 : Nat) (h : GI) (x : Int) : obY (ls2 m c2 h x) = (zA78 m) := by kernel_rfl
theorem ls2_g (m : Nat) (c2 : Nat) (h : GI) (x : Int) : goodY (ls2 m c2 h x) = true := by kernel_rfl
abbrev zA79 (h : GI) (m : Nat) := (((((((((((((zA76 ∧ (lso9 m)) ∧ (lso10 m)) ∧ (lso11 m h)) ∧ lso2) ∧ lso3) ∧ lso4) ∧ lso5) ∧ lso6) ∧ lso6) ∧ lso6) ∧ lso6) ∧ lso7) ∧ lso7)
theorem ls3_o (m : Nat) (c2 : Nat) (h : GI) (x : Int) : obY (ls3 m c2 h x) = (zA79 h m) := by kernel_rfl
theorem ls3_g (m : Nat) (c2 : Nat) (h : GI) (x : Int) : goodY (ls3 m c2 h x) = true := by kernel_rfl
theorem ls4_o : obY (ls4 c x) = zA77 := by kernel_rfl
theorem ls4_g : goodY (ls4 c x) = true := by kernel_rfl
theorem ls5_o (c2 : Nat) (x : Int) : obY (ls5 c c2 x) = zA77 := by kernel_rfl
theorem ls5_g (c2 : Nat) (x : Int) : goodY (ls5 c c2 x) = true := by kernel_rfl
theorem ls6_o (m : Nat) (c2 : Nat) (h : GI) (x : Int) : obY (ls6 c m c2 h x) = (zA78 m) := by kernel_rfl
theorem ls6_g (m : Nat) (c2 : Nat) (h : GI) (x : Int) : goodY (ls6 c m c2 h x) = true := by kernel_rfl
theorem ls7_o (m : Nat) (c2 : Nat) (h : GI) (x : Int) : obY (ls7 c m c2 h x) = (zA79 h m) := by kernel_rfl
theorem ls7_g (m : Nat) (c2 : Nat) (h : GI) (x : Int) : goodY (ls7 c m c2 h x) = true := by kernel_rfl
abbrev zA80 := (((((True ∧ (lso12 n)) ∧ (lso12 n)) ∧ (lso12 n)) ∧ (lso12 n)) ∧ lso6)
theorem ls8_o : obY (ls8 n c g x) = (zA80 n) := by kernel_rfl
theorem ls8_g : goodY (ls8 n c g x) = true := by kernel_rfl
abbrev zA81 := (((True ∧ (lso13 n)) ∧ (lso13 n)) ∧ (lso13 n)) ∧ (lso13 n)
abbrev zA82 := ((((zA81 n) ∧ lso0) ∧ (lso14 n)) ∧ (lso15 n g)) ∧ (lso16 n g)
abbrev zA83 := (((zA82 n g) ∧ (lso17 n g)) ∧ (lso18 n)) ∧ (lso19 n)
abbrev zA84 := ((((((((((zA83 n g) ∧ (lso20 n)) ∧ lso4) ∧ lso5) ∧ lso6) ∧ lso6) ∧ lso6) ∧ lso6) ∧ (lso21 n g)) ∧ (lso21 n g))
theorem ls9_o : obY (ls9 n c g x) = (zA84 n g) := by kernel_rfl
theorem ls9_g : goodY (ls9 n c g x) = true := by kernel_rfl
abbrev zA85 := (((((((((((zA83 n g) ∧ (lso22 n)) ∧ (lso23 n)) ∧ lso4) ∧ lso5) ∧ lso6) ∧ lso6) ∧ lso6) ∧ lso6) ∧ (lso24 n g)) ∧ (lso24 n g))
theorem ls10_o : obY (ls10 n c g x) = (zA85 n g) := by kernel_rfl
theorem ls10_g : goodY (ls10 n c g x) = true := by kernel_rfl
abbrev zA86 := ((((((((((zA82 n g) ∧ (lso25 n g)) ∧ lso4) ∧ lso5) ∧ lso6) ∧ lso6) ∧ lso6) ∧ lso6) ∧ (lso26 n g)) ∧ (lso26 n g))
theorem ls11_o : obY (ls11 n c g x) = (zA86 n g) := by kernel_rfl
theorem ls11_g : goodY (ls11 n c g x) = true := by kernel_rfl
theorem ls12_o (c2 : Nat) (x : Int) : obY (ls12 n c g c2 x) = (zA80 n) := by kernel_rfl
theorem ls12_g (c2 : Nat) (x : Int) : goodY (ls12 n c g c2 x) = true := by kernel_rfl
theorem ls13_o (c2 : Nat) (x : Int) : obY (ls13 n c g c2 x) = (zA84 n g) := by kernel_rfl
theorem ls13_g (c2 : Nat) (x : Int) : goodY (ls13 n c g c2 x) = true := by kernel_rfl
theorem ls14_o (c2 : Nat) (x : Int) : obY (ls14 n c g c2 x) = (zA85 n g) := by kernel_rfl
theorem ls14_g (c2 : Nat) (x : Int) : goodY (ls14 n c g c2 x) = true := by kernel_rfl
theorem ls15_o (c2 : Nat) (x : Int) : obY (ls15 n c g c2 x) = (zA86 n g) := by kernel_rfl
theorem ls15_g (c2 : Nat) (x : Int) : goodY (ls15 n c g c2 x) = true := by kernel_rfl
theorem ls16_o (m : Nat) (c2 : Nat) (h : GI) (x : Int) : obY (ls16 n c g m c2 h x) = (zA80 n) := by kernel_rfl
theorem ls16_g (m : Nat) (c2 : Nat) (h : GI) (x : Int) : goodY (ls16 n c g m c2 h x) = true := by kernel_rfl
theorem ls17_o (m : Nat) (c2 : Nat) (h : GI) (x : Int) : obY (ls17 n c g m c2 h x) = (((zA81 n) ∧ (lso8 m))) := by kernel_rfl
theorem ls17_g (m : Nat) (c2 : Nat) (h : GI) (x : Int) : goodY (ls17 n c g m c2 h x) = true := by kernel_rfl
theorem ls18_o (m : Nat) (c2 : Nat) (h : GI) (x : Int) : obY (ls18 n c g m c2 h x) = (((((((((((((((zA81 n) ∧ (lso9 m)) ∧ (lso14 n)) ∧ (lso10 m)) ∧ (lso27 n m g h)) ∧ (lso27 n m g h)) ∧ lso4) ∧ lso5) ∧ lso6) ∧ lso6) ∧ lso6) ∧ lso6) ∧ (lso28 n g)) ∧ (lso28 n g))) := by kernel_rfl
theorem ls18_g (m : Nat) (c2 : Nat) (h : GI) (x : Int) : goodY (ls18 n c g m c2 h x) = true := by kernel_rfl
abbrev zA87 := ((((((True ∧ lso29) ∧ lso29) ∧ lso29) ∧ lso29) ∧ lso30) ∧ lso31) ∧ lso32
theorem ls19_o (c2 : Nat) (h : GI) (x : Int) : obY (ls19 c g c2 h x) = ((((((((((zA87 ∧ (lso33 g h x)) ∧ (lso33 g h x)) ∧ (lso34 c c2 g h x)) ∧ (lso35 c c2 g h x)) ∧ (lso35 c c2 g h x)) ∧ (lso35 c c2 g h x)) ∧ (lso35 c c2 g h x)) ∧ lso36) ∧ lso36)) := by kernel_rfl
theorem ls19_g (c2 : Nat) (h : GI) (x : Int) : goodY (ls19 c g c2 h x) = true := by kernel_rfl
theorem ls20_o (c2 : Nat) (h : GI) (x : Int) : obY (ls20 c g c2 h x) = ((((((((((zA87 ∧ (lso37 g h x)) ∧ (lso38 c c2 g h x)) ∧ (lso39 c c2 g h x)) ∧ (lso40 c c2 g h x)) ∧ (lso40 c c2 g h x)) ∧ (lso40 c c2 g h x)) ∧ (lso40 c c2 g h x)) ∧ lso36) ∧ lso36)) := by kernel_rfl
theorem ls20_g (c2 : Nat) (h : GI) (x : Int) : goodY (ls20 c g c2 h x) = true := by kernel_rfl
theorem ls21_o (c2 : Nat) (h : GI) (x : Int) : obY (ls21 c g c2 h x) = (((((((((((zA87 ∧ (lso41 g h x)) ∧ (lso42 c c2 g h x)) ∧ lso4) ∧ lso5) ∧ lso6) ∧ lso6) ∧ lso6) ∧ lso6) ∧ (lso43 g h x)) ∧ (lso43 g h x))) := by kernel_rfl
theorem ls21_g (c2 : Nat) (h : GI) (x : Int) : goodY (ls21 c g c2 h x) = true := by kernel_rfl
abbrev zA88 := ((((((True ∧ lso44) ∧ lso44) ∧ lso44) ∧ lso44) ∧ lso29) ∧ lso45) ∧ lso31
theorem ls22_o (c2 : Nat) (h : GI) (x : Int) : obY (ls22 c g c2 h x) = ((((((((((zA88 ∧ (lso46 g h x)) ∧ (lso46 g h x)) ∧ (lso47 c c2 g h x)) ∧ (lso48 c c2 g h x)) ∧ (lso48 c c2 g h x)) ∧ (lso48 c c2 g h x)) ∧ (lso48 c c2 g h x)) ∧ lso36) ∧ lso36)) := by kernel_rfl
theorem ls22_g (c2 : Nat) (h : GI) (x : Int) : goodY (ls22 c g c2 h x) = true := by kernel_rfl
theorem ls23_o (c2 : Nat) (h : GI) (x : Int) : obY (ls23 c g c2 h x) = ((((((((((zA88 ∧ (lso49 g h x)) ∧ (lso50 c c2 g h x)) ∧ (lso51 c c2 g h x)) ∧ (lso52 c c2 g h x)) ∧ (lso52 c c2 g h x)) ∧ (lso52 c c2 g h x)) ∧ (lso52 c c2 g h x)) ∧ lso36) ∧ lso36)) := by kernel_rfl
theorem ls23_g (c2 : Nat) (h : GI) (x : Int) : goodY (ls23 c g c2 h x) = true := by kernel_rfl
theorem ls24_o (c2 : Nat) (h : GI) (x : Int) : obY (ls24 c g c2 h x) = (((((((((((zA88 ∧ (lso53 g h x)) ∧ (lso54 c c2 g h x)) ∧ lso4) ∧ lso5) ∧ lso6) ∧ lso6) ∧ lso6) ∧ lso6) ∧ (lso55 g h x)) ∧ (lso55 g h x))) := by kernel_rfl
theorem ls24_g (c2 : Nat) (h : GI) (x : Int) : goodY (ls24 c g c2 h x) = true := by kernel_rfl
abbrev zA89 := ((((((True ∧ lso56) ∧ lso56) ∧ lso56) ∧ lso56) ∧ lso44) ∧ lso57) ∧ lso45
theorem ls25_o (c2 : Nat) (h : GI) (x : Int) : obY (ls25 c g c2 h x) = ((((((((((zA89 ∧ (lso58 g h x)) ∧ (lso58 g h x)) ∧ (lso59 c c2 g h x)) ∧ (lso60 c c2 g h x)) ∧ (lso60 c c2 g h x)) ∧ (lso60 c c2 g h x)) ∧ (lso60 c c2 g h x)) ∧ lso36) ∧ lso36)) := by kernel_rfl
theorem ls25_g (c2 : Nat) (h : GI) (x : Int) : goodY (ls25 c g c2 h x) = true := by kernel_rfl
theorem ls26_o (c2 : Nat) (h : GI) (x : Int) : obY (ls26 c g c2 h x) = ((((((((((zA89 ∧ (lso61 g h x)) ∧ (lso62 c c2 g h x)) ∧ (lso63 c c2 g h x)) ∧ (lso64 c c2 g h x)) ∧ (lso64 c c2 g h x)) ∧ (lso64 c c2 g h x)) ∧ (lso64 c c2 g h x)) ∧ lso36) ∧ lso36)) := by kernel_rfl
theorem ls26_g (c2 : Nat) (h : GI) (x : Int) : goodY (ls26 c g c2 h x) = true := by kernel_rfl
theorem ls27_o (c2 : Nat) (h : GI) (x : Int) : obY (ls27 c g c2 h x) = (((((((((((zA89 ∧ (lso65 g h x)) ∧ (lso66 c c2 g h x)) ∧ lso4) ∧ lso5) ∧ lso6) ∧ lso6) ∧ lso6) ∧ lso6) ∧ (lso67 g h x)) ∧ (lso67 g h x))) := by kernel_rfl
theorem ls27_g (c2 : Nat) (h : GI) (x : Int) : goodY (ls27 c g c2 h x) = true := by kernel_rfl
abbrev zA90 := ((((((True ∧ lso68) ∧ lso68) ∧ lso68) ∧ lso68) ∧ lso56) ∧ lso69) ∧ lso57
theorem ls28_o (c2 : Nat) (h : GI) (x : Int) : obY (ls28 c g c2 h x) = ((((((((((zA90 ∧ (lso70 g h x)) ∧ (lso70 g h x)) ∧ (lso71 c c2 g h x)) ∧ (lso72 c c2 g h x)) ∧ (lso72 c c2 g h x)) ∧ (lso72 c c2 g h x)) ∧ (lso72 c c2 g h x)) ∧ lso36) ∧ lso36)) := by kernel_rfl
theorem ls28_g (c2 : Nat) (h : GI) (x : Int) : goodY (ls28 c g c2 h x) = true := by kernel_rfl
theorem ls29_o (c2 : Nat) (h : GI) (x : Int) : obY (ls29 c g c2 h x) = ((((((((((zA90 ∧ (lso73 g h x)) ∧ (lso74 c c2 g h x)) ∧ (lso75 c c2 g h x)) ∧ (lso76 c c2 g h x)) ∧ (lso76 c c2 g h x)) ∧ (lso76 c c2 g h x)) ∧ (lso76 c c2 g h x)) ∧ lso36) ∧ lso36)) := by kernel_rfl
theorem ls29_g (c2 : Nat) (h : GI) (x : Int) : goodY (ls29 c g c2 h x) = true := by kernel_rfl
theorem ls30_o (c2 : Nat) (h : GI) (x : Int) : obY (ls30 c g c2 h x) = (((((((((((zA90 ∧ (lso77 g h x)) ∧ (lso78 c c2 g h x)) ∧ lso4) ∧ lso5) ∧ lso6) ∧ lso6) ∧ lso6) ∧ lso6) ∧ (lso79 g h x)) ∧ (lso79 g h x))) := by kernel_rfl
theorem ls30_g (c2 : Nat) (h : GI) (x : Int) : goodY (ls30 c g c2 h x) = true := by kernel_rfl
end
end Go.Proofs.YtbkpnhbcihcgaaaGreatDoor
end
section
set_option linter.all false
set_option maxRecDepth 1000000
open Go.RowKit
namespace Go.Proofs.YtbkpnhbcihcgaaaGreatDoor
open Mini
noncomputable section
variable (n : Nat) (c : Nat) (g : GI) (m : Nat) (c2 : Nat) (h : GI) (x : Int) (y : SV) (z : SV)
theorem ne12 : (12 : Int) ≠ 0 := by decide
theorem kL {P : Prop} (h : P := by
    repeat' (first | exact trivial | (with_reducible assumption) | exact (fun _ _ _ _ => rfl) | apply And.intro)
    all_goals first | rfl | assumption | exact .inl ne12 | exact beq_iff_eq.2 (by assumption) | exact beq_iff_eq.2 rfl | exact bne_iff_ne.2 (by assumption) | exact bne_eq_false_iff_eq.2 (by assumption) | exact decide_eq_true (by omega) | exact decide_eq_false (by omega) | exact beq_iff_eq.2 (by omega) | exact beq_eq_false_iff_ne.2 (by assumption) | exact beq_eq_false_iff_ne.2 (by omega) | exact bne_iff_ne.2 (by omega) | exact bne_eq_false_iff_eq.2 (by omega) | exact wsub1 (by omega) (by omega) | omega) : P := h
theorem rt1_can (y : SV) : ∀ q, rt1F y q = rt1F y.can q
  | 0 => rfl
  | 1 => rfl
  | q + 2 => by
    have e := rt1_can y (q + 1)
    unfold rt1F at e ⊢
    simp only [rt1RR]
    all_goals try rw [e]
    all_goals try rfl
theorem rt1D_irr (hc : y.can = z.can) (q : Nat) : rt1D y q = rt1D z q := by
  rw [← rt1_at y (q + 1) q (by omega), ← rt1_at z (q + 1) q (by omega), rt1_can y, rt1_can z, hc]
theorem rt2_can (y : SV) : ∀ q, rt2F y q = rt2F y.can q
  | 0 => rfl
  | 1 => rfl
  | 2 => by
    show pushI 1 (rt2F y 1) _ = pushI 1 (rt2F y.can 1) _
    rw [rt2_can y 1]
    all_goals rfl
  | q + 3 => by
    have e := rt2_can y (q + 2)
    unfold rt2F at e ⊢
    simp only [rt2RR]
    all_goals try rw [e]
    all_goals try rfl
theorem rt2D_irr (hc : y.can = z.can) (q : Nat) : rt2D y q = rt2D z q := by
  rw [← rt2_at y (q + 1) q (by omega), ← rt2_at z (q + 1) q (by omega), rt2_can y, rt2_can z, hc]
theorem rt3_can (y : SV) : ∀ q, rt3F y q = rt3F y.can q
  | 0 => rfl
  | 1 => rfl
  | 2 => by
    show pushI 1 (rt3F y 1) _ = pushI 1 (rt3F y.can 1) _
    rw [rt3_can y 1]
    all_goals rfl
  | 3 => by
    show pushI 2 (rt3F y 2) _ = pushI 2 (rt3F y.can 2) _
    rw [rt3_can y 2]
    all_goals rfl
  | q + 4 => by
    have e := rt3_can y (q + 3)
    unfold rt3F at e ⊢
    simp only [rt3RR]
    all_goals try rw [e]
    all_goals try rfl
theorem rt3D_irr (hc : y.can = z.can) (q : Nat) : rt3D y q = rt3D z q := by
  rw [← rt3_at y (q + 1) q (by omega), ← rt3_at z (q + 1) q (by omega), rt3_can y, rt3_can z, hc]
theorem rt4_can (y : SV) : ∀ q, rt4F y q = rt4F y.can q
  | 0 => rfl
  | 1 => rfl
  | 2 => by
    show pushI 1 (rt4F y 1) _ = pushI 1 (rt4F y.can 1) _
    rw [rt4_can y 1]
    all_goals rfl
  | 3 => by
    show pushI 2 (rt4F y 2) _ = pushI 2 (rt4F y.can 2) _
    rw [rt4_can y 2]
    all_goals rfl
  | 4 => by
    show pushI 3 (rt4F y 3) _ = pushI 3 (rt4F y.can 3) _
    rw [rt4_can y 3]
    all_goals rfl
  | q + 5 => by
    have e := rt4_can y (q + 4)
    unfold rt4F at e ⊢
    simp only [rt4RR]
    all_goals try rw [e]
    all_goals try rfl
theorem rt4D_irr (hc : y.can = z.can) (q : Nat) : rt4D y q = rt4D z q := by
  rw [← rt4_at y (q + 1) q (by omega), ← rt4_at z (q + 1) q (by omega), rt4_can y, rt4_can z, hc]
abbrev zB0 := (aw3S0.push (.hole)).push (.hole)
theorem ls0_p  : ∃ s1 R, SndF Tryz.prog 7 #[.slice none 0 0, .slice none 0 0, .int .i64 x] zB0 (.bool true) s1 R 0 :=
  sndY (r := ls0 x) (by delta ls0; exact Eq.refl _) smx lsK_ok (ls0_g x) ((ls0_o x).symm ▸ kL)
theorem ls1_p  : ∃ s1 R, SndF Tryz.prog 7 #[.slice none 0 0, .slice (some ⟨7, 0, none⟩) 0 c2, .int .i64 x] zB0 (.bool true) s1 R 0 :=
  sndY (r := ls1 c2 x) (by delta ls1; exact Eq.refl _) smx lsK_ok (ls1_g c2 x) ((ls1_o c2 x).symm ▸ kL)
abbrev zB1 := (aw3S0.push (.hole)).push (.rows m 1 (fun i j => .int .i64 (h i j)) 0 true 0 true)
theorem ls2_p (q0 : (7 : Int) < ((m : Nat) : Int)) (m0 : m ≠ 0) : ∃ s1 R, SndF Tryz.prog 7 #[.slice none 0 0, .slice (some ⟨7, 0, none⟩) m c2, .int .i64 x] (zB1 m h) (.bool true) s1 R 0 :=
  sndY (r := ls2 m c2 h x) (by delta ls2; exact Eq.refl _) smx lsK_ok (ls2_g m c2 h x) ((ls2_o m c2 h x).symm ▸ kL)
theorem ls3_p (q0 : ¬ (7 : Int) < ((m : Nat) : Int)) (m0 : m ≠ 0) : ∃ s1 R, SndF Tryz.prog 7 #[.slice none 0 0, .slice (some ⟨7, 0, none⟩) m c2, .int .i64 x] (zB1 m h) (.bool true) s1 R 0 :=
  sndY (r := ls3 m c2 h x) (by delta ls3; exact Eq.refl _) smx lsK_ok (ls3_g m c2 h x) ((ls3_o m c2 h x).symm ▸ kL)
theorem ls4_p  : ∃ s1 R, SndF Tryz.prog 7 #[.slice (some ⟨6, 0, none⟩) 0 c, .slice none 0 0, .int .i64 x] zB0 (.bool true) s1 R 0 :=
  sndY (r := ls4 c x) (by delta ls4; exact Eq.refl _) smx lsK_ok (ls4_g c x) ((ls4_o c x).symm ▸ kL)
theorem ls5_p  : ∃ s1 R, SndF Tryz.prog 7 #[.slice (some ⟨6, 0, none⟩) 0 c, .slice (some ⟨7, 0, none⟩) 0 c2, .int .i64 x] zB0 (.bool true) s1 R 0 :=
  sndY (r := ls5 c c2 x) (by delta ls5; exact Eq.refl _) smx lsK_ok (ls5_g c c2 x) ((ls5_o c c2 x).symm ▸ kL)
theorem ls6_p (q0 : (7 : Int) < ((m : Nat) : Int)) (m0 : m ≠ 0) : ∃ s1 R, SndF Tryz.prog 7 #[.slice (some ⟨6, 0, none⟩) 0 c, .slice (some ⟨7, 0, none⟩) m c2, .int .i64 x] (zB1 m h) (.bool true) s1 R 0 :=
  sndY (r := ls6 c m c2 h x) (by delta ls6; exact Eq.refl _) smx lsK_ok (ls6_g c m c2 h x) ((ls6_o c m c2 h x).symm ▸ kL)
theorem ls7_p (q0 : ¬ (7 : Int) < ((m : Nat) : Int)) (m0 : m ≠ 0) : ∃ s1 R, SndF Tryz.prog 7 #[.slice (some ⟨6, 0, none⟩) 0 c, .slice (some ⟨7, 0, none⟩) m c2, .int .i64 x] (zB1 m h) (.bool true) s1 R 0 :=
  sndY (r := ls7 c m c2 h x) (by delta ls7; exact Eq.refl _) smx lsK_ok (ls7_g c m c2 h x) ((ls7_o c m c2 h x).symm ▸ kL)
abbrev zB2 := aw3S0.push (.rows n 1 (fun i j => .int .i64 (g i j)) 0 true 0 true)
abbrev zB3 := (zB2 n g).push (.hole)
theorem ls8_p (q0 : (7 : Int) < ((n : Nat) : Int)) (n0 : n ≠ 0) : ∃ s1 R, SndF Tryz.prog 7 #[.slice (some ⟨6, 0, none⟩) n c, .slice none 0 0, .int .i64 x] (zB3 n g) (.bool true) s1 R 0 :=
  sndY (r := ls8 n c g x) (by delta ls8; exact Eq.refl _) smx lsK_ok (ls8_g n c g x) ((ls8_o n c g x).symm ▸ kL)
theorem ls9_p (q0 : ¬ (7 : Int) < ((n : Nat) : Int)) (q1 : (cpV n g) = (0 : Int)) (q2 : (((n - 1) : Nat) : Int) = (0 : Int)) (q3 : (seV n g) = (12 : Int)) (n0 : n ≠ 0) (hE : cpV n g ≠ 0 ∨ n = 1 ∨ 1 ≠ n) : ∃ s1 R, SndF Tryz.prog 7 #[.slice (some ⟨6, 0, none⟩) n c, .slice none 0 0, .int .i64 x] (zB3 n g) (.bool true) s1 R 0 :=
  sndY (r := ls9 n c g x) (by delta ls9; exact Eq.refl _) smx lsK_ok (ls9_g n c g x) ((ls9_o n c g x).symm ▸ kL)
theorem ls10_p (q0 : ¬ (7 : Int) < ((n : Nat) : Int)) (q1 : (cpV n g) = (0 : Int)) (q2 : (((n - 1) : Nat) : Int) ≠ (0 : Int)) (q3 : (seV n g) = (2 : Int)) (n0 : n ≠ 0) (hE : cpV n g ≠ 0 ∨ n = 1 ∨ 1 ≠ n) : ∃ s1 R, SndF Tryz.prog 7 #[.slice (some ⟨6, 0, none⟩) n c, .slice none 0 0, .int .i64 x] (zB3 n g) (.bool true) s1 R 0 :=
  sndY (r := ls10 n c g x) (by delta ls10; exact Eq.refl _) smx lsK_ok (ls10_g n c g x) ((ls10_o n c g x).symm ▸ kL)
theorem ls11_p (q0 : ¬ (7 : Int) < ((n : Nat) : Int)) (q1 : (cpV n g) ≠ (0 : Int)) (q2 : (seV n g) = (cpV n g)) (n0 : n ≠ 0) (hE : cpV n g ≠ 0 ∨ n = 1 ∨ 1 ≠ n) : ∃ s1 R, SndF Tryz.prog 7 #[.slice (some ⟨6, 0, none⟩) n c, .slice none 0 0, .int .i64 x] (zB3 n g) (.bool true) s1 R 0 :=
  sndY (r := ls11 n c g x) (by delta ls11; exact Eq.refl _) smx lsK_ok (ls11_g n c g x) ((ls11_o n c g x).symm ▸ kL)
theorem ls12_p (q0 : (7 : Int) < ((n : Nat) : Int)) (n0 : n ≠ 0) : ∃ s1 R, SndF Tryz.prog 7 #[.slice (some ⟨6, 0, none⟩) n c, .slice (some ⟨7, 0, none⟩) 0 c2, .int .i64 x] (zB3 n g) (.bool true) s1 R 0 :=
  sndY (r := ls12 n c g c2 x) (by delta ls12; exact Eq.refl _) smx lsK_ok (ls12_g n c g c2 x) ((ls12_o n c g c2 x).symm ▸ kL)
theorem ls13_p (q0 : ¬ (7 : Int) < ((n : Nat) : Int)) (q1 : (cpV n g) = (0 : Int)) (q2 : (((n - 1) : Nat) : Int) = (0 : Int)) (q3 : (seV n g) = (12 : Int)) (n0 : n ≠ 0) (hE : cpV n g ≠ 0 ∨ n = 1 ∨ 1 ≠ n) : ∃ s1 R, SndF Tryz.prog 7 #[.slice (some ⟨6, 0, none⟩) n c, .slice (some ⟨7, 0, none⟩) 0 c2, .int .i64 x] (zB3 n g) (.bool true) s1 R 0 :=
  sndY (r := ls13 n c g c2 x) (by delta ls13; exact Eq.refl _) smx lsK_ok (ls13_g n c g c2 x) ((ls13_o n c g c2 x).symm ▸ kL)
theorem ls14_p (q0 : ¬ (7 : Int) < ((n : Nat) : Int)) (q1 : (cpV n g) = (0 : Int)) (q2 : (((n - 1) : Nat) : Int) ≠ (0 : Int)) (q3 : (seV n g) = (2 : Int)) (n0 : n ≠ 0) (hE : cpV n g ≠ 0 ∨ n = 1 ∨ 1 ≠ n) : ∃ s1 R, SndF Tryz.prog 7 #[.slice (some ⟨6, 0, none⟩) n c, .slice (some ⟨7, 0, none⟩) 0 c2, .int .i64 x] (zB3 n g) (.bool true) s1 R 0 :=
  sndY (r := ls14 n c g c2 x) (by delta ls14; exact Eq.refl _) smx lsK_ok (ls14_g n c g c2 x) ((ls14_o n c g c2 x).symm ▸ kL)
theorem ls15_p (q0 : ¬ (7 : Int) < ((n : Nat) : Int)) (q1 : (cpV n g) ≠ (0 : Int)) (q2 : (seV n g) = (cpV n g)) (n0 : n ≠ 0) (hE : cpV n g ≠ 0 ∨ n = 1 ∨ 1 ≠ n) : ∃ s1 R, SndF Tryz.prog 7 #[.slice (some ⟨6, 0, none⟩) n c, .slice (some ⟨7, 0, none⟩) 0 c2, .int .i64 x] (zB3 n g) (.bool true) s1 R 0 :=
  sndY (r := ls15 n c g c2 x) (by delta ls15; exact Eq.refl _) smx lsK_ok (ls15_g n c g c2 x) ((ls15_o n c g c2 x).symm ▸ kL)
abbrev zB4 := (zB2 n g).push (.rows m 1 (fun i j => .int .i64 (h i j)) 0 true 0 true)
theorem ls16_p (q0 : (7 : Int) < ((n : Nat) : Int)) (n0 : n ≠ 0) (m0 : m ≠ 0) : ∃ s1 R, SndF Tryz.prog 7 #[.slice (some ⟨6, 0, none⟩) n c, .slice (some ⟨7, 0, none⟩) m c2, .int .i64 x] (zB4 n g m h) (.bool true) s1 R 0 :=
  sndY (r := ls16 n c g m c2 h x) (by delta ls16; exact Eq.refl _) smx lsK_ok (ls16_g n c g m c2 h x) ((ls16_o n c g m c2 h x).symm ▸ kL)
theorem ls17_p (q0 : ¬ (7 : Int) < ((n : Nat) : Int)) (q1 : (7 : Int) < ((m : Nat) : Int)) (n0 : n ≠ 0) (m0 : m ≠ 0) : ∃ s1 R, SndF Tryz.prog 7 #[.slice (some ⟨6, 0, none⟩) n c, .slice (some ⟨7, 0, none⟩) m c2, .int .i64 x] (zB4 n g m h) (.bool true) s1 R 0 :=
  sndY (r := ls17 n c g m c2 h x) (by delta ls17; exact Eq.refl _) smx lsK_ok (ls17_g n c g m c2 h x) ((ls17_o n c g m c2 h x).symm ▸ kL)
theorem ls18_p (q0 : ¬ (7 : Int) < ((n : Nat) : Int)) (q1 : ¬ (7 : Int) < ((m : Nat) : Int)) (n0 : n ≠ 0) (m0 : m ≠ 0) (hE : cpV n g ≠ 0 ∨ n = 1 ∨ m + 1 ≠ n) : ∃ s1 R, SndF Tryz.prog 7 #[.slice (some ⟨6, 0, none⟩) n c, .slice (some ⟨7, 0, none⟩) m c2, .int .i64 x] (zB4 n g m h) (.bool true) s1 R 0 :=
  sndY (r := ls18 n c g m c2 h x) (by delta ls18; exact Eq.refl _) smx lsK_ok (ls18_g n c g m c2 h x) ((ls18_o n c g m c2 h x).symm ▸ kL)
theorem lso29_h : lso29 := by first | rfl | decide | exact ⟨rfl, by decide, by decide⟩
theorem lso30_h : lso30 := by first | rfl | decide | exact ⟨rfl, by decide, by decide⟩
theorem lso31_h : lso31 := by first | rfl | decide | exact ⟨rfl, by decide, by decide⟩
theorem lso32_h : lso32 := by first | rfl | decide | exact ⟨rfl, by decide, by decide⟩
theorem lso36_h : lso36 := by first | rfl | decide | exact ⟨rfl, by decide, by decide⟩
abbrev zB5 := fun i => Pl.cr (h i 0) (-1000) 1000
abbrev zB6 := (aw3S0.push (.rows 2 1 (fun i j => .int .i64 (g i j)) 0 true 0 true)).push (.rows 1 1 (fun i j => .int .i64 (h i j)) 0 true 0 true)
theorem ls19_p (q0 : (decide (1 = 1 ∧ sameI (fun i j => ([(IntKind.i64.wrap ((h 0 0) * (1 : Int)))] : List Int).getD (i * 1 + j) 0) (rt1F (yR c g c2 h x) 1) 1)) = true) (h0 : cpV 2 g = 0) (h1 : feN (zB5 h) 1 0 = 0) (h2 : Pl.cr x (0 : Int) (24 : Int) = 0) (hz : ¬ (0 : Int) < x) : ∃ s1 R, SndF Tryz.prog 7 #[.slice (some ⟨6, 0, none⟩) 2 c, .slice (some ⟨7, 0, none⟩) 1 c2, .int .i64 x] (zB6 g h) (.bool true) s1 R 0 :=
  sndY (r := ls19 c g c2 h x) (by delta ls19; exact Eq.refl _) smx lsK1_ok (ls19_g c g c2 h x) ((ls19_o c g c2 h x).symm ▸ ⟨⟨⟨⟨⟨⟨⟨⟨⟨⟨⟨⟨⟨⟨⟨⟨trivial, lso29_h⟩, lso29_h⟩, lso29_h⟩, lso29_h⟩, lso30_h⟩, lso31_h⟩, lso32_h⟩, ⟨⟨rfl, fun _ _ _ _ => rfl⟩, ⟨rfl, fun _ _ _ _ => rfl⟩, h0, h1, h2, hz⟩⟩, ⟨⟨rfl, fun _ _ _ _ => rfl⟩, ⟨rfl, fun _ _ _ _ => rfl⟩, h0, h1, h2, hz⟩⟩, ⟨rfl, ⟨rfl, fun _ _ _ _ => rfl⟩, by omega⟩⟩, q0⟩, q0⟩, q0⟩, q0⟩, lso36_h⟩, lso36_h⟩)
theorem ls20_p (q0 : (decide (((x.toNat - 1) + 2) = ((x.toNat - 1) + 2) ∧ sameI (st1F (yS 2 g 1 h x) (x.toNat - 1)) (rt1F (yR c g c2 h x) (x.toNat - 1 + 2)) ((x.toNat - 1) + 2))) = true) (h0 : cpV 2 g = 0) (h1 : feN (zB5 h) 1 0 = 0) (h2 : Pl.cr x (0 : Int) (24 : Int) = 0) (hz : (0 : Int) < x) (hk : ∀ i, i < x.toNat → Pl.cr (rt1D (yS 2 g 1 h x) (i + 1)) (-1073741824 : Int) (1073741824 : Int) = 0) (hk2 : ∀ i, i < x.toNat → Pl.cr (rt1D (yR c g c2 h x) (i + 1)) (-1073741824 : Int) (1073741824 : Int) = 0) (hx : x ≤ 24) : ∃ s1 R, SndF Tryz.prog 7 #[.slice (some ⟨6, 0, none⟩) 2 c, .slice (some ⟨7, 0, none⟩) 1 c2, .int .i64 x] (zB6 g h) (.bool true) s1 R 0 :=
  sndY (r := ls20 c g c2 h x) (by delta ls20; exact Eq.refl _) smx lsK1_ok (ls20_g c g c2 h x) ((ls20_o c g c2 h x).symm ▸ ⟨⟨⟨⟨⟨⟨⟨⟨⟨⟨⟨⟨⟨⟨⟨⟨trivial, lso29_h⟩, lso29_h⟩, lso29_h⟩, lso29_h⟩, lso30_h⟩, lso31_h⟩, lso32_h⟩, ⟨⟨rfl, fun _ _ _ _ => rfl⟩, ⟨rfl, fun _ _ _ _ => rfl⟩, h0, h1, h2, hz, hk⟩⟩, ⟨⟨rfl, fun _ _ _ _ => rfl⟩, ⟨rfl, fun _ _ _ _ => rfl⟩, h0, h1, h2, hz, hk2⟩⟩, ⟨⟨rfl, fun _ _ _ _ => rfl⟩, ⟨rfl, fun _ _ _ _ => rfl⟩, by omega⟩⟩, q0⟩, q0⟩, q0⟩, q0⟩, lso36_h⟩, lso36_h⟩)
theorem lso4_h : lso4 := by first | rfl | decide | exact ⟨rfl, by decide, by decide⟩
theorem lso5_h : lso5 := by first | rfl | decide | exact ⟨rfl, by decide, by decide⟩
theorem lso6_h : lso6 := by first | rfl | decide | exact ⟨rfl, by decide, by decide⟩
theorem ls21_p (hp : cpV 2 g ≠ 0 ∨ feN (zB5 h) 1 0 ≠ 0 ∨ Pl.cr x (0 : Int) (24 : Int) ≠ 0 ∨ ∃ i, i < x.toNat ∧ Pl.cr (rt1D (yS 2 g 1 h x) (i + 1)) (-1073741824 : Int) (1073741824 : Int) ≠ 0) (hp2 : cpV 2 g ≠ 0 ∨ feN (zB5 h) 1 0 ≠ 0 ∨ Pl.cr x (0 : Int) (24 : Int) ≠ 0 ∨ ∃ i, i < x.toNat ∧ Pl.cr (rt1D (yR c g c2 h x) (i + 1)) (-1073741824 : Int) (1073741824 : Int) ≠ 0) : ∃ s1 R, SndF Tryz.prog 7 #[.slice (some ⟨6, 0, none⟩) 2 c, .slice (some ⟨7, 0, none⟩) 1 c2, .int .i64 x] (zB6 g h) (.bool true) s1 R 0 :=
  sndY (r := ls21 c g c2 h x) (by delta ls21; exact Eq.refl _) smx lsK1_ok (ls21_g c g c2 h x) ((ls21_o c g c2 h x).symm ▸ ⟨⟨⟨⟨⟨⟨⟨⟨⟨⟨⟨⟨⟨⟨⟨⟨⟨trivial, lso29_h⟩, lso29_h⟩, lso29_h⟩, lso29_h⟩, lso30_h⟩, lso31_h⟩, lso32_h⟩, ⟨⟨rfl, fun _ _ _ _ => rfl⟩, ⟨rfl, fun _ _ _ _ => rfl⟩, hp⟩⟩, ⟨⟨rfl, fun _ _ _ _ => rfl⟩, ⟨rfl, fun _ _ _ _ => rfl⟩, hp2⟩⟩, lso4_h⟩, lso5_h⟩, lso6_h⟩, lso6_h⟩, lso6_h⟩, lso6_h⟩, (beq_iff_eq.2 rfl)⟩, (beq_iff_eq.2 rfl)⟩)
theorem lso44_h : lso44 := by first | rfl | decide | exact ⟨rfl, by decide, by decide⟩
theorem lso45_h : lso45 := by first | rfl | decide | exact ⟨rfl, by decide, by decide⟩
abbrev zB7 := (aw3S0.push (.rows 3 1 (fun i j => .int .i64 (g i j)) 0 true 0 true)).push (.rows 2 1 (fun i j => .int .i64 (h i j)) 0 true 0 true)
theorem ls22_p (q0 : (decide (2 = 2 ∧ sameI (fun i j => ([(IntKind.i64.wrap ((h 0 0) * (1 : Int))), (IntKind.i64.wrap ((h 1 0) * (IntKind.i64.wrap ((1 : Int) * (g 2 0)))))] : List Int).getD (i * 1 + j) 0) (rt2F (yR c g c2 h x) 2) 2)) = true) (h0 : cpV 3 g = 0) (h1 : feN (zB5 h) 2 0 = 0) (h2 : Pl.cr x (0 : Int) (24 : Int) = 0) (hz : ¬ (0 : Int) < x) : ∃ s1 R, SndF Tryz.prog 7 #[.slice (some ⟨6, 0, none⟩) 3 c, .slice (some ⟨7, 0, none⟩) 2 c2, .int .i64 x] (zB7 g h) (.bool true) s1 R 0 :=
  sndY (r := ls22 c g c2 h x) (by delta ls22; exact Eq.refl _) smx lsK2_ok (ls22_g c g c2 h x) ((ls22_o c g c2 h x).symm ▸ ⟨⟨⟨⟨⟨⟨⟨⟨⟨⟨⟨⟨⟨⟨⟨⟨trivial, lso44_h⟩, lso44_h⟩, lso44_h⟩, lso44_h⟩, lso29_h⟩, lso45_h⟩, lso31_h⟩, ⟨⟨rfl, fun _ _ _ _ => rfl⟩, ⟨rfl, fun _ _ _ _ => rfl⟩, h0, h1, h2, hz⟩⟩, ⟨⟨rfl, fun _ _ _ _ => rfl⟩, ⟨rfl, fun _ _ _ _ => rfl⟩, h0, h1, h2, hz⟩⟩, ⟨rfl, ⟨rfl, fun _ _ _ _ => rfl⟩, by omega⟩⟩, q0⟩, q0⟩, q0⟩, q0⟩, lso36_h⟩, lso36_h⟩)
theorem ls23_p (q0 : (decide (((x.toNat - 1) + 3) = ((x.toNat - 1) + 3) ∧ sameI (st2F (yS 3 g 2 h x) (x.toNat - 1)) (rt2F (yR c g c2 h x) (x.toNat - 1 + 3)) ((x.toNat - 1) + 3))) = true) (h0 : cpV 3 g = 0) (h1 : feN (zB5 h) 2 0 = 0) (h2 : Pl.cr x (0 : Int) (24 : Int) = 0) (hz : (0 : Int) < x) (hk : ∀ i, i < x.toNat → Pl.cr (rt2D (yS 3 g 2 h x) (i + 2)) (-1073741824 : Int) (1073741824 : Int) = 0) (hk2 : ∀ i, i < x.toNat → Pl.cr (rt2D (yR c g c2 h x) (i + 2)) (-1073741824 : Int) (1073741824 : Int) = 0) (hx : x ≤ 24) : ∃ s1 R, SndF Tryz.prog 7 #[.slice (some ⟨6, 0, none⟩) 3 c, .slice (some ⟨7, 0, none⟩) 2 c2, .int .i64 x] (zB7 g h) (.bool true) s1 R 0 :=
  sndY (r := ls23 c g c2 h x) (by delta ls23; exact Eq.refl _) smx lsK2_ok (ls23_g c g c2 h x) ((ls23_o c g c2 h x).symm ▸ ⟨⟨⟨⟨⟨⟨⟨⟨⟨⟨⟨⟨⟨⟨⟨⟨trivial, lso44_h⟩, lso44_h⟩, lso44_h⟩, lso44_h⟩, lso29_h⟩, lso45_h⟩, lso31_h⟩, ⟨⟨rfl, fun _ _ _ _ => rfl⟩, ⟨rfl, fun _ _ _ _ => rfl⟩, h0, h1, h2, hz, hk⟩⟩, ⟨⟨rfl, fun _ _ _ _ => rfl⟩, ⟨rfl, fun _ _ _ _ => rfl⟩, h0, h1, h2, hz, hk2⟩⟩, ⟨⟨rfl, fun _ _ _ _ => rfl⟩, ⟨rfl, fun _ _ _ _ => rfl⟩, by omega⟩⟩, q0⟩, q0⟩, q0⟩, q0⟩, lso36_h⟩, lso36_h⟩)
theorem ls24_p (hp : cpV 3 g ≠ 0 ∨ feN (zB5 h) 2 0 ≠ 0 ∨ Pl.cr x (0 : Int) (24 : Int) ≠ 0 ∨ ∃ i, i < x.toNat ∧ Pl.cr (rt2D (yS 3 g 2 h x) (i + 2)) (-1073741824 : Int) (1073741824 : Int) ≠ 0) (hp2 : cpV 3 g ≠ 0 ∨ feN (zB5 h) 2 0 ≠ 0 ∨ Pl.cr x (0 : Int) (24 : Int) ≠ 0 ∨ ∃ i, i < x.toNat ∧ Pl.cr (rt2D (yR c g c2 h x) (i + 2)) (-1073741824 : Int) (1073741824 : Int) ≠ 0) : ∃ s1 R, SndF Tryz.prog 7 #[.slice (some ⟨6, 0, none⟩) 3 c, .slice (some ⟨7, 0, none⟩) 2 c2, .int .i64 x] (zB7 g h) (.bool true) s1 R 0 :=
  sndY (r := ls24 c g c2 h x) (by delta ls24; exact Eq.refl _) smx lsK2_ok (ls24_g c g c2 h x) ((ls24_o c g c2 h x).symm ▸ ⟨⟨⟨⟨⟨⟨⟨⟨⟨⟨⟨⟨⟨⟨⟨⟨⟨trivial, lso44_h⟩, lso44_h⟩, lso44_h⟩, lso44_h⟩, lso29_h⟩, lso45_h⟩, lso31_h⟩, ⟨⟨rfl, fun _ _ _ _ => rfl⟩, ⟨rfl, fun _ _ _ _ => rfl⟩, hp⟩⟩, ⟨⟨rfl, fun _ _ _ _ => rfl⟩, ⟨rfl, fun _ _ _ _ => rfl⟩, hp2⟩⟩, lso4_h⟩, lso5_h⟩, lso6_h⟩, lso6_h⟩, lso6_h⟩, lso6_h⟩, (beq_iff_eq.2 rfl)⟩, (beq_iff_eq.2 rfl)⟩)
theorem lso56_h : lso56 := by first | rfl | decide | exact ⟨rfl, by decide, by decide⟩
theorem lso57_h : lso57 := by first | rfl | decide | exact ⟨rfl, by decide, by decide⟩
abbrev zB8 := (aw3S0.push (.rows 4 1 (fun i j => .int .i64 (g i j)) 0 true 0 true)).push (.rows 3 1 (fun i j => .int .i64 (h i j)) 0 true 0 true)
theorem ls25_p (q0 : (decide (3 = 3 ∧ sameI (fun i j => ([(IntKind.i64.wrap ((h 0 0) * (1 : Int))), (IntKind.i64.wrap ((h 1 0) * (IntKind.i64.wrap ((1 : Int) * (g 3 0))))), (IntKind.i64.wrap ((h 2 0) * (IntKind.i64.wrap ((IntKind.i64.wrap ((1 : Int) * (g 3 0))) * (g 3 0)))))] : List Int).getD (i * 1 + j) 0) (rt3F (yR c g c2 h x) 3) 3)) = true) (h0 : cpV 4 g = 0) (h1 : feN (zB5 h) 3 0 = 0) (h2 : Pl.cr x (0 : Int) (24 : Int) = 0) (hz : ¬ (0 : Int) < x) : ∃ s1 R, SndF Tryz.prog 7 #[.slice (some ⟨6, 0, none⟩) 4 c, .slice (some ⟨7, 0, none⟩) 3 c2, .int .i64 x] (zB8 g h) (.bool true) s1 R 0 :=
  sndY (r := ls25 c g c2 h x) (by delta ls25; exact Eq.refl _) smx lsK3_ok (ls25_g c g c2 h x) ((ls25_o c g c2 h x).symm ▸ ⟨⟨⟨⟨⟨⟨⟨⟨⟨⟨⟨⟨⟨⟨⟨⟨trivial, lso56_h⟩, lso56_h⟩, lso56_h⟩, lso56_h⟩, lso44_h⟩, lso57_h⟩, lso45_h⟩, ⟨⟨rfl, fun _ _ _ _ => rfl⟩, ⟨rfl, fun _ _ _ _ => rfl⟩, h0, h1, h2, hz⟩⟩, ⟨⟨rfl, fun _ _ _ _ => rfl⟩, ⟨rfl, fun _ _ _ _ => rfl⟩, h0, h1, h2, hz⟩⟩, ⟨rfl, ⟨rfl, fun _ _ _ _ => rfl⟩, by omega⟩⟩, q0⟩, q0⟩, q0⟩, q0⟩, lso36_h⟩, lso36_h⟩)
theorem ls26_p (q0 : (decide (((x.toNat - 1) + 4) = ((x.toNat - 1) + 4) ∧ sameI (st3F (yS 4 g 3 h x) (x.toNat - 1)) (rt3F (yR c g c2 h x) (x.toNat - 1 + 4)) ((x.toNat - 1) + 4))) = true) (h0 : cpV 4 g = 0) (h1 : feN (zB5 h) 3 0 = 0) (h2 : Pl.cr x (0 : Int) (24 : Int) = 0) (hz : (0 : Int) < x) (hk : ∀ i, i < x.toNat → Pl.cr (rt3D (yS 4 g 3 h x) (i + 3)) (-1073741824 : Int) (1073741824 : Int) = 0) (hk2 : ∀ i, i < x.toNat → Pl.cr (rt3D (yR c g c2 h x) (i + 3)) (-1073741824 : Int) (1073741824 : Int) = 0) (hx : x ≤ 24) : ∃ s1 R, SndF Tryz.prog 7 #[.slice (some ⟨6, 0, none⟩) 4 c, .slice (some ⟨7, 0, none⟩) 3 c2, .int .i64 x] (zB8 g h) (.bool true) s1 R 0 :=
  sndY (r := ls26 c g c2 h x) (by delta ls26; exact Eq.refl _) smx lsK3_ok (ls26_g c g c2 h x) ((ls26_o c g c2 h x).symm ▸ ⟨⟨⟨⟨⟨⟨⟨⟨⟨⟨⟨⟨⟨⟨⟨⟨trivial, lso56_h⟩, lso56_h⟩, lso56_h⟩, lso56_h⟩, lso44_h⟩, lso57_h⟩, lso45_h⟩, ⟨⟨rfl, fun _ _ _ _ => rfl⟩, ⟨rfl, fun _ _ _ _ => rfl⟩, h0, h1, h2, hz, hk⟩⟩, ⟨⟨rfl, fun _ _ _ _ => rfl⟩, ⟨rfl, fun _ _ _ _ => rfl⟩, h0, h1, h2, hz, hk2⟩⟩, ⟨⟨rfl, fun _ _ _ _ => rfl⟩, ⟨rfl, fun _ _ _ _ => rfl⟩, by omega⟩⟩, q0⟩, q0⟩, q0⟩, q0⟩, lso36_h⟩, lso36_h⟩)
theorem ls27_p (hp : cpV 4 g ≠ 0 ∨ feN (zB5 h) 3 0 ≠ 0 ∨ Pl.cr x (0 : Int) (24 : Int) ≠ 0 ∨ ∃ i, i < x.toNat ∧ Pl.cr (rt3D (yS 4 g 3 h x) (i + 3)) (-1073741824 : Int) (1073741824 : Int) ≠ 0) (hp2 : cpV 4 g ≠ 0 ∨ feN (zB5 h) 3 0 ≠ 0 ∨ Pl.cr x (0 : Int) (24 : Int) ≠ 0 ∨ ∃ i, i < x.toNat ∧ Pl.cr (rt3D (yR c g c2 h x) (i + 3)) (-1073741824 : Int) (1073741824 : Int) ≠ 0) : ∃ s1 R, SndF Tryz.prog 7 #[.slice (some ⟨6, 0, none⟩) 4 c, .slice (some ⟨7, 0, none⟩) 3 c2, .int .i64 x] (zB8 g h) (.bool true) s1 R 0 :=
  sndY (r := ls27 c g c2 h x) (by delta ls27; exact Eq.refl _) smx lsK3_ok (ls27_g c g c2 h x) ((ls27_o c g c2 h x).symm ▸ ⟨⟨⟨⟨⟨⟨⟨⟨⟨⟨⟨⟨⟨⟨⟨⟨⟨trivial, lso56_h⟩, lso56_h⟩, lso56_h⟩, lso56_h⟩, lso44_h⟩, lso57_h⟩, lso45_h⟩, ⟨⟨rfl, fun _ _ _ _ => rfl⟩, ⟨rfl, fun _ _ _ _ => rfl⟩, hp⟩⟩, ⟨⟨rfl, fun _ _ _ _ => rfl⟩, ⟨rfl, fun _ _ _ _ => rfl⟩, hp2⟩⟩, lso4_h⟩, lso5_h⟩, lso6_h⟩, lso6_h⟩, lso6_h⟩, lso6_h⟩, (beq_iff_eq.2 rfl)⟩, (beq_iff_eq.2 rfl)⟩)
theorem lso68_h : lso68 := by first | rfl | decide | exact ⟨rfl, by decide, by decide⟩
theorem lso69_h : lso69 := by first | rfl | decide | exact ⟨rfl, by decide, by decide⟩
abbrev zB9 := IntKind.i64.wrap ((IntKind.i64.wrap ((1 : Int) * (g 4 0))) * (g 4 0))
abbrev zB10 := (aw3S0.push (.rows 5 1 (fun i j => .int .i64 (g i j)) 0 true 0 true)).push (.rows 4 1 (fun i j => .int .i64 (h i j)) 0 true 0 true)
theorem ls28_p (q0 : (decide (4 = 4 ∧ sameI (fun i j => ([(IntKind.i64.wrap ((h 0 0) * (1 : Int))), (IntKind.i64.wrap ((h 1 0) * (IntKind.i64.wrap ((1 : Int) * (g 4 0))))), (IntKind.i64.wrap ((h 2 0) * (zB9 g))), (IntKind.i64.wrap ((h 3 0) * (IntKind.i64.wrap ((zB9 g) * (g 4 0)))))] : List Int).getD (i * 1 + j) 0) (rt4F (yR c g c2 h x) 4) 4)) = true) (h0 : cpV 5 g = 0) (h1 : feN (zB5 h) 4 0 = 0) (h2 : Pl.cr x (0 : Int) (24 : Int) = 0) (hz : ¬ (0 : Int) < x) : ∃ s1 R, SndF Tryz.prog 7 #[.slice (some ⟨6, 0, none⟩) 5 c, .slice (some ⟨7, 0, none⟩) 4 c2, .int .i64 x] (zB10 g h) (.bool true) s1 R 0 :=
  sndY (r := ls28 c g c2 h x) (by delta ls28; exact Eq.refl _) smx lsK4_ok (ls28_g c g c2 h x) ((ls28_o c g c2 h x).symm ▸ ⟨⟨⟨⟨⟨⟨⟨⟨⟨⟨⟨⟨⟨⟨⟨⟨trivial, lso68_h⟩, lso68_h⟩, lso68_h⟩, lso68_h⟩, lso56_h⟩, lso69_h⟩, lso57_h⟩, ⟨⟨rfl, fun _ _ _ _ => rfl⟩, ⟨rfl, fun _ _ _ _ => rfl⟩, h0, h1, h2, hz⟩⟩, ⟨⟨rfl, fun _ _ _ _ => rfl⟩, ⟨rfl, fun _ _ _ _ => rfl⟩, h0, h1, h2, hz⟩⟩, ⟨rfl, ⟨rfl, fun _ _ _ _ => rfl⟩, by omega⟩⟩, q0⟩, q0⟩, q0⟩, q0⟩, lso36_h⟩, lso36_h⟩)
theorem ls29_p (q0 : (decide (((x.toNat - 1) + 5) = ((x.toNat - 1) + 5) ∧ sameI (st4F (yS 5 g 4 h x) (x.toNat - 1)) (rt4F (yR c g c2 h x) (x.toNat - 1 + 5)) ((x.toNat - 1) + 5))) = true) (h0 : cpV 5 g = 0) (h1 : feN (zB5 h) 4 0 = 0) (h2 : Pl.cr x (0 : Int) (24 : Int) = 0) (hz : (0 : Int) < x) (hk : ∀ i, i < x.toNat → Pl.cr (rt4D (yS 5 g 4 h x) (i + 4)) (-1073741824 : Int) (1073741824 : Int) = 0) (hk2 : ∀ i, i < x.toNat → Pl.cr (rt4D (yR c g c2 h x) (i + 4)) (-1073741824 : Int) (1073741824 : Int) = 0) (hx : x ≤ 24) : ∃ s1 R, SndF Tryz.prog 7 #[.slice (some ⟨6, 0, none⟩) 5 c, .slice (some ⟨7, 0, none⟩) 4 c2, .int .i64 x] (zB10 g h) (.bool true) s1 R 0 :=
  sndY (r := ls29 c g c2 h x) (by delta ls29; exact Eq.refl _) smx lsK4_ok (ls29_g c g c2 h x) ((ls29_o c g c2 h x).symm ▸ ⟨⟨⟨⟨⟨⟨⟨⟨⟨⟨⟨⟨⟨⟨⟨⟨trivial, lso68_h⟩, lso68_h⟩, lso68_h⟩, lso68_h⟩, lso56_h⟩, lso69_h⟩, lso57_h⟩, ⟨⟨rfl, fun _ _ _ _ => rfl⟩, ⟨rfl, fun _ _ _ _ => rfl⟩, h0, h1, h2, hz, hk⟩⟩, ⟨⟨rfl, fun _ _ _ _ => rfl⟩, ⟨rfl, fun _ _ _ _ => rfl⟩, h0, h1, h2, hz, hk2⟩⟩, ⟨⟨rfl, fun _ _ _ _ => rfl⟩, ⟨rfl, fun _ _ _ _ => rfl⟩, by omega⟩⟩, q0⟩, q0⟩, q0⟩, q0⟩, lso36_h⟩, lso36_h⟩)
theorem ls30_p (hp : cpV 5 g ≠ 0 ∨ feN (zB5 h) 4 0 ≠ 0 ∨ Pl.cr x (0 : Int) (24 : Int) ≠ 0 ∨ ∃ i, i < x.toNat ∧ Pl.cr (rt4D (yS 5 g 4 h x) (i + 4)) (-1073741824 : Int) (1073741824 : Int) ≠ 0) (hp2 : cpV 5 g ≠ 0 ∨ feN (zB5 h) 4 0 ≠ 0 ∨ Pl.cr x (0 : Int) (24 : Int) ≠ 0 ∨ ∃ i, i < x.toNat ∧ Pl.cr (rt4D (yR c g c2 h x) (i + 4)) (-1073741824 : Int) (1073741824 : Int) ≠ 0) : ∃ s1 R, SndF Tryz.prog 7 #[.slice (some ⟨6, 0, none⟩) 5 c, .slice (some ⟨7, 0, none⟩) 4 c2, .int .i64 x] (zB10 g h) (.bool true) s1 R 0 :=
  sndY (r := ls30 c g c2 h x) (by delta ls30; exact Eq.refl _) smx lsK4_ok (ls30_g c g c2 h x) ((ls30_o c g c2 h x).symm ▸ ⟨⟨⟨⟨⟨⟨⟨⟨⟨⟨⟨⟨⟨⟨⟨⟨⟨trivial, lso68_h⟩, lso68_h⟩, lso68_h⟩, lso68_h⟩, lso56_h⟩, lso69_h⟩, lso57_h⟩, ⟨⟨rfl, fun _ _ _ _ => rfl⟩, ⟨rfl, fun _ _ _ _ => rfl⟩, hp⟩⟩, ⟨⟨rfl, fun _ _ _ _ => rfl⟩, ⟨rfl, fun _ _ _ _ => rfl⟩, hp2⟩⟩, lso4_h⟩, lso5_h⟩, lso6_h⟩, lso6_h⟩, lso6_h⟩, lso6_h⟩, (beq_iff_eq.2 rfl)⟩, (beq_iff_eq.2 rfl)⟩)
theorem cpV_len {n : Nat} {g : Nat → Nat → Int} (h : cpV n g = 0) : n ≤ 5 := by
  unfold cpV at h
  split at h
  · exact absurd h (by decide)
  · split at h
    · exact absurd h (by decide)
    · omega
theorem seV_a {n : Nat} {g : Nat → Nat → Int} (h : cpV n g = 0) (h1 : n = 1) : seV n g = 12 := by
  unfold seV; rw [h, if_pos h1]; rfl
theorem seV_b {n : Nat} {g : Nat → Nat → Int} (h : cpV n g = 0) (h1 : n ≠ 1) : seV n g = 2 := by
  unfold seV; rw [h, if_neg h1]; rfl
theorem seV_c {n : Nat} {g : Nat → Nat → Int} (h : cpV n g ≠ 0) : seV n g = cpV n g := if_neg h
theorem lsr_1 (h0 : cpV 2 g = 0) : ∃ s1 R, SndF Tryz.prog 7 #[.slice (some ⟨6, 0, none⟩) 2 c, .slice (some ⟨7, 0, none⟩) 1 c2, .int .i64 x] ((aw3S0.push (.rows 2 1 (fun i j => .int .i64 (g i j)) 0 true 0 true)).push (.rows 1 1 (fun i j => .int .i64 (h i j)) 0 true 0 true)) (.bool true) s1 R 0 := by
  by_cases h1 : feN (fun i => Pl.cr (h i 0) (-1000) 1000) 1 0 = 0
  · by_cases h2 : Pl.cr x (0 : Int) (24 : Int) = 0
    · have hx := st1_lt h2
      by_cases hz : (0 : Int) < x
      · by_cases hk : ∀ i, i < x.toNat → Pl.cr (rt1D (yR c g c2 h x) (i + 1)) (-1073741824 : Int) (1073741824 : Int) = 0
        · exact ls20_p c g c2 h x (decide_eq_true ⟨rfl, fun i hi => by
          rw [rt1_at (yR c g c2 h x) (x.toNat - 1 + 2) i hi, (st1_at (yS 2 g 1 h x) (x.toNat - 1)).1 i hi]
          exact rt1D_irr (yS 2 g 1 h x) (yR c g c2 h x) rfl i⟩) h0 h1 h2 hz (fun i hi => by rw [rt1D_irr (yS 2 g 1 h x) (yR c g c2 h x) rfl]; exact hk i hi) hk hx.2
        · have hb : ∃ i, i < x.toNat ∧ Pl.cr (rt1D (yR c g c2 h x) (i + 1)) (-1073741824 : Int) (1073741824 : Int) ≠ 0 := by
            rcases first_or (p := fun i => Pl.cr (rt1D (yR c g c2 h x) (i + 1)) (-1073741824 : Int) (1073741824 : Int) ≠ 0) (fun _ => inferInstance) x.toNat with ha | ⟨j, hj, hb, _⟩
            · exact absurd (fun i hi => Decidable.not_not.1 (ha i hi)) hk
            · exact ⟨j, hj, hb⟩
          obtain ⟨i, k1, k2⟩ := hb
          have k3 : Pl.cr (rt1D (yS 2 g 1 h x) (i + 1)) (-1073741824 : Int) (1073741824 : Int) ≠ 0 := by rw [rt1D_irr (yS 2 g 1 h x) (yR c g c2 h x) rfl]; exact k2
          exact ls21_p c g c2 h x (.inr (.inr (.inr ⟨i, k1, k3⟩))) (.inr (.inr (.inr ⟨i, k1, k2⟩)))
      · exact ls19_p c g c2 h x (decide_eq_true ⟨rfl, fun i hi => by
        rw [rt1_at (yR c g c2 h x) 1 i hi]
        match i, hi with
        | 0, _ => rfl
        | i + 1, hi => omega⟩) h0 h1 h2 hz
    · exact ls21_p c g c2 h x (.inr (.inr (.inl h2))) (.inr (.inr (.inl h2)))
  · exact ls21_p c g c2 h x (.inr (.inl h1)) (.inr (.inl h1))
theorem lsr_2 (h0 : cpV 3 g = 0) : ∃ s1 R, SndF Tryz.prog 7 #[.slice (some ⟨6, 0, none⟩) 3 c, .slice (some ⟨7, 0, none⟩) 2 c2, .int .i64 x] ((aw3S0.push (.rows 3 1 (fun i j => .int .i64 (g i j)) 0 true 0 true)).push (.rows 2 1 (fun i j => .int .i64 (h i j)) 0 true 0 true)) (.bool true) s1 R 0 := by
  by_cases h1 : feN (fun i => Pl.cr (h i 0) (-1000) 1000) 2 0 = 0
  · by_cases h2 : Pl.cr x (0 : Int) (24 : Int) = 0
    · have hx := st2_lt h2
      by_cases hz : (0 : Int) < x
      · by_cases hk : ∀ i, i < x.toNat → Pl.cr (rt2D (yR c g c2 h x) (i + 2)) (-1073741824 : Int) (1073741824 : Int) = 0
        · exact ls23_p c g c2 h x (decide_eq_true ⟨rfl, fun i hi => by
          rw [rt2_at (yR c g c2 h x) (x.toNat - 1 + 3) i hi, (st2_at (yS 3 g 2 h x) (x.toNat - 1)).1 i hi]
          exact rt2D_irr (yS 3 g 2 h x) (yR c g c2 h x) rfl i⟩) h0 h1 h2 hz (fun i hi => by rw [rt2D_irr (yS 3 g 2 h x) (yR c g c2 h x) rfl]; exact hk i hi) hk hx.2
        · have hb : ∃ i, i < x.toNat ∧ Pl.cr (rt2D (yR c g c2 h x) (i + 2)) (-1073741824 : Int) (1073741824 : Int) ≠ 0 := by
            rcases first_or (p := fun i => Pl.cr (rt2D (yR c g c2 h x) (i + 2)) (-1073741824 : Int) (1073741824 : Int) ≠ 0) (fun _ => inferInstance) x.toNat with ha | ⟨j, hj, hb, _⟩
            · exact absurd (fun i hi => Decidable.not_not.1 (ha i hi)) hk
            · exact ⟨j, hj, hb⟩
          obtain ⟨i, k1, k2⟩ := hb
          have k3 : Pl.cr (rt2D (yS 3 g 2 h x) (i + 2)) (-1073741824 : Int) (1073741824 : Int) ≠ 0 := by rw [rt2D_irr (yS 3 g 2 h x) (yR c g c2 h x) rfl]; exact k2
          exact ls24_p c g c2 h x (.inr (.inr (.inr ⟨i, k1, k3⟩))) (.inr (.inr (.inr ⟨i, k1, k2⟩)))
      · exact ls22_p c g c2 h x (decide_eq_true ⟨rfl, fun i hi => by
        rw [rt2_at (yR c g c2 h x) 2 i hi]
        match i, hi with
        | 0, _ => rfl
        | 1, _ => rfl
        | i + 2, hi => omega⟩) h0 h1 h2 hz
    · exact ls24_p c g c2 h x (.inr (.inr (.inl h2))) (.inr (.inr (.inl h2)))
  · exact ls24_p c g c2 h x (.inr (.inl h1)) (.inr (.inl h1))
theorem lsr_3 (h0 : cpV 4 g = 0) : ∃ s1 R, SndF Tryz.prog 7 #[.slice (some ⟨6, 0, none⟩) 4 c, .slice (some ⟨7, 0, none⟩) 3 c2, .int .i64 x] ((aw3S0.push (.rows 4 1 (fun i j => .int .i64 (g i j)) 0 true 0 true)).push (.rows 3 1 (fun i j => .int .i64 (h i j)) 0 true 0 true)) (.bool true) s1 R 0 := by
  by_cases h1 : feN (fun i => Pl.cr (h i 0) (-1000) 1000) 3 0 = 0
  · by_cases h2 : Pl.cr x (0 : Int) (24 : Int) = 0
    · have hx := st3_lt h2
      by_cases hz : (0 : Int) < x
      · by_cases hk : ∀ i, i < x.toNat → Pl.cr (rt3D (yR c g c2 h x) (i + 3)) (-1073741824 : Int) (1073741824 : Int) = 0
        · exact ls26_p c g c2 h x (decide_eq_true ⟨rfl, fun i hi => by
          rw [rt3_at (yR c g c2 h x) (x.toNat - 1 + 4) i hi, (st3_at (yS 4 g 3 h x) (x.toNat - 1)).1 i hi]
          exact rt3D_irr (yS 4 g 3 h x) (yR c g c2 h x) rfl i⟩) h0 h1 h2 hz (fun i hi => by rw [rt3D_irr (yS 4 g 3 h x) (yR c g c2 h x) rfl]; exact hk i hi) hk hx.2
        · have hb : ∃ i, i < x.toNat ∧ Pl.cr (rt3D (yR c g c2 h x) (i + 3)) (-1073741824 : Int) (1073741824 : Int) ≠ 0 := by
            rcases first_or (p := fun i => Pl.cr (rt3D (yR c g c2 h x) (i + 3)) (-1073741824 : Int) (1073741824 : Int) ≠ 0) (fun _ => inferInstance) x.toNat with ha | ⟨j, hj, hb, _⟩
            · exact absurd (fun i hi => Decidable.not_not.1 (ha i hi)) hk
            · exact ⟨j, hj, hb⟩
          obtain ⟨i, k1, k2⟩ := hb
          have k3 : Pl.cr (rt3D (yS 4 g 3 h x) (i + 3)) (-1073741824 : Int) (1073741824 : Int) ≠ 0 := by rw [rt3D_irr (yS 4 g 3 h x) (yR c g c2 h x) rfl]; exact k2
          exact ls27_p c g c2 h x (.inr (.inr (.inr ⟨i, k1, k3⟩))) (.inr (.inr (.inr ⟨i, k1, k2⟩)))
      · exact ls25_p c g c2 h x (decide_eq_true ⟨rfl, fun i hi => by
        rw [rt3_at (yR c g c2 h x) 3 i hi]
        match i, hi with
        | 0, _ => rfl
        | 1, _ => rfl
        | 2, _ => rfl
        | i + 3, hi => omega⟩) h0 h1 h2 hz
    · exact ls27_p c g c2 h x (.inr (.inr (.inl h2))) (.inr (.inr (.inl h2)))
  · exact ls27_p c g c2 h x (.inr (.inl h1)) (.inr (.inl h1))
theorem lsr_4 (h0 : cpV 5 g = 0) : ∃ s1 R, SndF Tryz.prog 7 #[.slice (some ⟨6, 0, none⟩) 5 c, .slice (some ⟨7, 0, none⟩) 4 c2, .int .i64 x] ((aw3S0.push (.rows 5 1 (fun i j => .int .i64 (g i j)) 0 true 0 true)).push (.rows 4 1 (fun i j => .int .i64 (h i j)) 0 true 0 true)) (.bool true) s1 R 0 := by
  by_cases h1 : feN (fun i => Pl.cr (h i 0) (-1000) 1000) 4 0 = 0
  · by_cases h2 : Pl.cr x (0 : Int) (24 : Int) = 0
    · have hx := st4_lt h2
      by_cases hz : (0 : Int) < x
      · by_cases hk : ∀ i, i < x.toNat → Pl.cr (rt4D (yR c g c2 h x) (i + 4)) (-1073741824 : Int) (1073741824 : Int) = 0
        · exact ls29_p c g c2 h x (decide_eq_true ⟨rfl, fun i hi => by
          rw [rt4_at (yR c g c2 h x) (x.toNat - 1 + 5) i hi, (st4_at (yS 5 g 4 h x) (x.toNat - 1)).1 i hi]
          exact rt4D_irr (yS 5 g 4 h x) (yR c g c2 h x) rfl i⟩) h0 h1 h2 hz (fun i hi => by rw [rt4D_irr (yS 5 g 4 h x) (yR c g c2 h x) rfl]; exact hk i hi) hk hx.2
        · have hb : ∃ i, i < x.toNat ∧ Pl.cr (rt4D (yR c g c2 h x) (i + 4)) (-1073741824 : Int) (1073741824 : Int) ≠ 0 := by
            rcases first_or (p := fun i => Pl.cr (rt4D (yR c g c2 h x) (i + 4)) (-1073741824 : Int) (1073741824 : Int) ≠ 0) (fun _ => inferInstance) x.toNat with ha | ⟨j, hj, hb, _⟩
            · exact absurd (fun i hi => Decidable.not_not.1 (ha i hi)) hk
            · exact ⟨j, hj, hb⟩
          obtain ⟨i, k1, k2⟩ := hb
          have k3 : Pl.cr (rt4D (yS 5 g 4 h x) (i + 4)) (-1073741824 : Int) (1073741824 : Int) ≠ 0 := by rw [rt4D_irr (yS 5 g 4 h x) (yR c g c2 h x) rfl]; exact k2
          exact ls30_p c g c2 h x (.inr (.inr (.inr ⟨i, k1, k3⟩))) (.inr (.inr (.inr ⟨i, k1, k2⟩)))
      · exact ls28_p c g c2 h x (decide_eq_true ⟨rfl, fun i hi => by
        rw [rt4_at (yR c g c2 h x) 4 i hi]
        match i, hi with
        | 0, _ => rfl
        | 1, _ => rfl
        | 2, _ => rfl
        | 3, _ => rfl
        | i + 4, hi => omega⟩) h0 h1 h2 hz
    · exact ls30_p c g c2 h x (.inr (.inr (.inl h2))) (.inr (.inr (.inl h2)))
  · exact ls30_p c g c2 h x (.inr (.inl h1)) (.inr (.inl h1))
theorem lsr_nil_nil : ∃ s1 R, SndF Tryz.prog 7 #[.slice none 0 0, .slice none 0 0, .int .i64 x] zB0 (.bool true) s1 R 0 := by
  exact ls0_p x 
theorem lsr_nil_emp : ∃ s1 R, SndF Tryz.prog 7 #[.slice none 0 0, .slice (some ⟨7, 0, none⟩) 0 c2, .int .i64 x] zB0 (.bool true) s1 R 0 := by
  exact ls1_p c2 x 
theorem lsr_nil_row (m0 : m ≠ 0) : ∃ s1 R, SndF Tryz.prog 7 #[.slice none 0 0, .slice (some ⟨7, 0, none⟩) m c2, .int .i64 x] (zB1 m h) (.bool true) s1 R 0 := by
  by_cases M : 7 < m
  · exact ls2_p m c2 h x (by omega) m0
  · exact ls3_p m c2 h x (by omega) m0
theorem lsr_emp_nil : ∃ s1 R, SndF Tryz.prog 7 #[.slice (some ⟨6, 0, none⟩) 0 c, .slice none 0 0, .int .i64 x] zB0 (.bool true) s1 R 0 := by
  exact ls4_p c x 
theorem lsr_emp_emp : ∃ s1 R, SndF Tryz.prog 7 #[.slice (some ⟨6, 0, none⟩) 0 c, .slice (some ⟨7, 0, none⟩) 0 c2, .int .i64 x] zB0 (.bool true) s1 R 0 := by
  exact ls5_p c c2 x 
theorem lsr_emp_row (m0 : m ≠ 0) : ∃ s1 R, SndF Tryz.prog 7 #[.slice (some ⟨6, 0, none⟩) 0 c, .slice (some ⟨7, 0, none⟩) m c2, .int .i64 x] (zB1 m h) (.bool true) s1 R 0 := by
  by_cases M : 7 < m
  · exact ls6_p c m c2 h x (by omega) m0
  · exact ls7_p c m c2 h x (by omega) m0
theorem lsr_row_nil (n0 : n ≠ 0) : ∃ s1 R, SndF Tryz.prog 7 #[.slice (some ⟨6, 0, none⟩) n c, .slice none 0 0, .int .i64 x] (zB3 n g) (.bool true) s1 R 0 := by
  by_cases Nn : 7 < n
  · exact ls8_p n c g x (by omega) n0
  · by_cases h0 : cpV n g = 0
    · by_cases h1 : n = 1
      · exact ls9_p n c g x (by omega) h0 (by omega) (seV_a h0 h1) n0 (.inr (by omega))
      · exact ls10_p n c g x (by omega) h0 (by omega) (seV_b h0 h1) n0 (.inr (by omega))
    · exact ls11_p n c g x (by omega) h0 (seV_c h0) n0 (.inr (by omega))
theorem lsr_row_emp (n0 : n ≠ 0) : ∃ s1 R, SndF Tryz.prog 7 #[.slice (some ⟨6, 0, none⟩) n c, .slice (some ⟨7, 0, none⟩) 0 c2, .int .i64 x] (zB3 n g) (.bool true) s1 R 0 := by
  by_cases Nn : 7 < n
  · exact ls12_p n c g c2 x (by omega) n0
  · by_cases h0 : cpV n g = 0
    · by_cases h1 : n = 1
      · exact ls13_p n c g c2 x (by omega) h0 (by omega) (seV_a h0 h1) n0 (.inr (by omega))
      · exact ls14_p n c g c2 x (by omega) h0 (by omega) (seV_b h0 h1) n0 (.inr (by omega))
    · exact ls15_p n c g c2 x (by omega) h0 (seV_c h0) n0 (.inr (by omega))
theorem lsr_row_row (n0 : n ≠ 0) (m0 : m ≠ 0) : ∃ s1 R, SndF Tryz.prog 7 #[.slice (some ⟨6, 0, none⟩) n c, .slice (some ⟨7, 0, none⟩) m c2, .int .i64 x] ((aw3S0.push (.rows n 1 (fun i j => .int .i64 (g i j)) 0 true 0 true)).push (.rows m 1 (fun i j => .int .i64 (h i j)) 0 true 0 true)) (.bool true) s1 R 0 := by
  by_cases Nn : 7 < n
  · exact ls16_p n c g m c2 h x (by omega) n0 m0
  · by_cases M : 7 < m
    · exact ls17_p n c g m c2 h x (by omega) (by omega) n0 m0
    · by_cases hE : cpV n g ≠ 0 ∨ n = 1 ∨ m + 1 ≠ n
      · exact ls18_p n c g m c2 h x (by omega) (by omega) n0 m0 hE
      · have h0 : cpV n g = 0 := Decidable.not_not.1 (fun k => hE (.inl k))
        have k1 : n ≠ 1 := fun k => hE (.inr (.inl k))
        have k2 : m + 1 = n := Decidable.not_not.1 (fun k => hE (.inr (.inr k)))
        have k5 := cpV_len h0
        have k6 : n = 2 ∨ n = 3 ∨ n = 4 ∨ n = 5 := by omega
        clear hE Nn M k1 k5 n0 m0
        rcases k6 with rfl | rfl | rfl | rfl
        · obtain rfl : m = 1 := by omega
          exact lsr_1 c g c2 h x h0
        · obtain rfl : m = 2 := by omega
          exact lsr_2 c g c2 h x h0
        · obtain rfl : m = 3 := by omega
          exact lsr_3 c g c2 h x h0
        · obtain rfl : m = 4 := by omega
          exact lsr_4 c g c2 h x h0
end
end Go.Proofs.YtbkpnhbcihcgaaaGreatDoor
end
section
namespace Go.Proofs.YtbkpnhbcihcgaaaGreatDoor
set_option linter.all false
open Go.ChangeShapes Go.WideShapes Go.RowKit
namespace Mini

def pairsK (g : TypeId → Option (List IntKind)) (P : Program) : Nat → List (Nat × TypeId) → Option (List IntKind)
  | _, [] => some []
  | off, x :: l => match g x.2 with
    | some ks => match (x.1 == off) && (P.cellsOf x.2 == ks.length) with
      | true => match pairsK g P (off + ks.length) l with
        | some r => some (ks ++ r)
        | none => none
      | false => none
    | none => none
def kindsT (P : Program) : Nat → TypeId → Option (List IntKind)
  | 0, _ => none
  | n + 1, t => match P.underlying t with
    | some (.int k) => some [k]
    | some (.array m e) => match pairsK (kindsT P n) P 0 ((List.range m).map fun i => (i * P.cellsOf e, e)) with
      | some ks => match P.cellsOf t == ks.length with
        | true => some ks
        | false => none
      | none => none
    | some (.struct fs) => match pairsK (kindsT P n) P 0 (fs.toList.map fun f => (f.offset, f.type)) with
      | some ks => match P.cellsOf t == ks.length with
        | true => some ks
        | false => none
      | none => none
    | _ => none
def wfs : List IntKind → List Int → Bool
  | k :: ks, n :: ns => (Lit.int k n).wf && wfs ks ns
  | _, _ => true
theorem backI_append : ∀ (ks ks' : List IntKind) (ns ns' : List Int), ns.length = ks.length → backI (ks ++ ks') (ns ++ ns') = backI ks ns ++ backI ks' ns'
  | [], ks', [], ns', _ => rfl
  | k :: ks, ks', n :: ns, ns', h => by
    show Value.int k n :: backI (ks ++ ks') (ns ++ ns') = _
    rw [backI_append ks ks' ns ns' (by simpa using h)]
    rfl
  | [], ks', n :: ns, ns', h => by cases h
  | k :: ks, ks', [], ns', h => by cases h
theorem wfs_append : ∀ (ks ks' : List IntKind) (ns ns' : List Int), ns.length = ks.length → wfs ks ns = true → wfs ks' ns' = true → wfs (ks ++ ks') (ns ++ ns') = true
  | [], ks', [], ns', _, _, h => h
  | k :: ks, ks', n :: ns, ns', h, h1, h2 => by
    simp only [wfs, Bool.and_eq_true] at h1
    show ((Lit.int k n).wf && wfs (ks ++ ks') (ns ++ ns')) = true
    rw [h1.1, wfs_append ks ks' ns ns' (by simpa using h) h1.2 h2]
    rfl
  | [], ks', n :: ns, ns', h, _, _ => by cases h
  | k :: ks, ks', [], ns', h, _, _ => by cases h
theorem mapM_map' {α β γ : Type} (f : α → β) (g : β → Option γ) : ∀ l : List α, (l.map f).mapM g = l.mapM fun a => g (f a)
  | [] => rfl
  | a :: l => by simp [List.mapM_cons, mapM_map' f g l]

section
variable {H : Type} {enc : TypeId × Value → H} {P : Program}

def Flat (enc : TypeId × Value → H) (P : Program) (fuel : Nat) (t : TypeId) (cs : List Value) (d : DataW H) (ks : List IntKind) : Prop :=
  ∃ ns, ns.length = ks.length ∧ cs = backI ks ns ∧ wfs ks ns = true ∧ ∀ w b sp held, DataW.trod enc P w b sp held fuel t cs = some (d, [])
theorem flat_pairs {n fuel : Nat} (IH : ∀ (t : TypeId) (ks : List IntKind), kindsT P n t = some ks → ∀ (cs : List Value) (d : DataW H) (p : List MemPlace) w b sp held, DataW.trod enc P w b sp held fuel t cs = some (d, p) → p = [] ∧ Flat enc P fuel t cs d ks) :
    ∀ (L : List (Nat × TypeId)) (off : Nat) (ks : List IntKind) (cs : List Value) (xs : List (DataW H × List MemPlace)) (w : World) (b : Nat) (sp : Nat → Bool) (held : Bool), pairsK (kindsT P n) P off L = some ks → off + ks.length ≤ cs.length →
      L.mapM (fun x => DataW.trod enc P w b sp held fuel x.2 ((cs.drop x.1).take (P.cellsOf x.2))) = some xs →
      xs.flatMap (·.2) = [] ∧ ∃ ns, ns.length = ks.length ∧ (cs.drop off).take ks.length = backI ks ns ∧ wfs ks ns = true ∧ ∀ w b sp held, L.mapM (fun x => DataW.trod enc P w b sp held fuel x.2 ((cs.drop x.1).take (P.cellsOf x.2))) = some xs
  | [], off, ks, cs, xs, w, b, sp, held, hk, hl, hm => by
    cases hk
    simp at hm
    subst hm
    exact ⟨rfl, [], rfl, by simp [backI], rfl, fun _ _ _ _ => rfl⟩
  | x :: L, off, ks, cs, xs, w, b, sp, held, hk, hl, hm => by
    simp only [pairsK] at hk
    split at hk
    · rename_i ks1 hk1
      split at hk
      · rename_i hc
        simp only [Bool.and_eq_true, beq_iff_eq] at hc
        obtain ⟨hx, hcell⟩ := hc
        split at hk
        · rename_i r hr
          cases hk
          simp only [List.length_append] at hl
          simp only [List.mapM_cons, Option.bind_eq_bind, Option.bind_eq_some_iff, Option.pure_def, Option.some.injEq] at hm
          obtain ⟨y, hy, ys, hys, rfl⟩ := hm
          obtain ⟨d, p⟩ := y
          obtain ⟨rfl, ns1, l1, c1, f1, t1⟩ := IH x.2 ks1 hk1 _ d p w b sp held hy
          obtain ⟨e2, ns2, l2, c2, f2, t2⟩ := flat_pairs IH L (off + ks1.length) r cs ys w b sp held hr (by omega) hys
          refine ⟨by simpa using e2, ns1 ++ ns2, by simp [l1, l2], ?_, wfs_append _ _ _ _ l1 f1 f2, fun w' b' sp' held' => ?_⟩
          · rw [backI_append _ _ _ _ l1, ← c2, List.length_append, List.take_add, List.drop_drop]
            rw [hx, hcell] at c1
            rw [c1]
          · simp only [List.mapM_cons, Option.bind_eq_bind, Option.pure_def]
            rw [t1 w' b' sp' held', t2 w' b' sp' held']
            rfl
        · cases hk
      · cases hk
    · cases hk
theorem open_kinds : ∀ (n : Nat) (t : TypeId) (ks : List IntKind), kindsT P n t = some ks → ∀ (fuel : Nat) (cs : List Value) (d : DataW H) (p : List MemPlace) w b sp held, DataW.trod enc P w b sp held fuel t cs = some (d, p) → p = [] ∧ Flat enc P fuel t cs d ks
  | 0, t, ks, hk, fuel, cs, d, p, w, b, sp, held, h => by cases hk
  | n + 1, t, ks, hk, fuel, cs, d, p, w, b, sp, held, h => by
    cases fuel with
    | zero => simp [DataW.trod] at h
    | succ fuel =>
      simp only [kindsT] at hk
      split at hk
      · rename_i k ht
        cases hk
        obtain ⟨z, rfl, hx, hw⟩ := DataW.trod_int ht h
        cases hx
        refine ⟨rfl, [z], rfl, rfl, by simp [wfs, hw], fun w' b' sp' held' => ?_⟩
        simp [DataW.trod, ht, hw]
      · rename_i m e ht
        split at hk
        · rename_i ks' hk'
          split at hk
          · rename_i hc
            cases hk
            have hc := beq_iff_eq.1 hc
            simp only [DataW.trod, ht] at h
            split at h
            · rename_i hl
              obtain ⟨xs, hm, hx⟩ := Option.map_eq_some_iff.1 h
              have hm2 : ((List.range m).map fun i => (i * P.cellsOf e, e)).mapM (fun x => DataW.trod enc P w b sp held fuel x.2 ((cs.drop x.1).take (P.cellsOf x.2))) = some xs := by rw [mapM_map']; exact hm
              obtain ⟨e1, ns, l1, c1, f1, t1⟩ := flat_pairs (fun t ks hk cs d p w b sp held h => open_kinds n t ks hk fuel cs d p w b sp held h) _ 0 ks cs xs w b sp held hk' (by omega) hm2
              simp only [Prod.mk.injEq] at hx
              obtain ⟨rfl, rfl⟩ := hx
              refine ⟨e1, ns, l1, ?_, f1, fun w' b' sp' held' => ?_⟩
              · rw [← c1, List.drop_zero, List.take_of_length_le (by omega)]
              · have := t1 w' b' sp' held'
                rw [mapM_map'] at this
                simp only [DataW.trod, ht, if_pos hl]
                rw [this]
                simp [e1]
            · cases h
          · cases hk
        · cases hk
      · rename_i fs ht
        split at hk
        · rename_i ks' hk'
          split at hk
          · rename_i hc
            cases hk
            have hc := beq_iff_eq.1 hc
            simp only [DataW.trod, ht] at h
            split at h
            · rename_i hl
              obtain ⟨xs, hm, hx⟩ := Option.map_eq_some_iff.1 h
              have hm2 : (fs.toList.map fun f => (f.offset, f.type)).mapM (fun x => DataW.trod enc P w b sp held fuel x.2 ((cs.drop x.1).take (P.cellsOf x.2))) = some xs := by rw [mapM_map']; exact hm
              obtain ⟨e1, ns, l1, c1, f1, t1⟩ := flat_pairs (fun t ks hk cs d p w b sp held h => open_kinds n t ks hk fuel cs d p w b sp held h) _ 0 ks cs xs w b sp held hk' (by omega) hm2
              simp only [Prod.mk.injEq] at hx
              obtain ⟨rfl, rfl⟩ := hx
              refine ⟨e1, ns, l1, ?_, f1, fun w' b' sp' held' => ?_⟩
              · rw [← c1, List.drop_zero, List.take_of_length_le (by omega)]
              · have := t1 w' b' sp' held'
                rw [mapM_map'] at this
                simp only [DataW.trod, ht, if_pos hl]
                rw [this]
                simp [e1]
            · cases h
          · cases hk
        · cases hk
      · cases hk
def isRow (P : Program) (t : TypeId) : Bool := match P.underlying t with
  | some (.struct _) | some (.array _ _) => true
  | _ => false
theorem open_num {w : World} {base b0 : Nat} {spare : Nat → Bool} {held : Bool} {r : Reach} {t : TypeId} {k : IntKind} {v : Value} {d : DataW H} {ps : List MemPlace} (ht : P.underlying t = some (.int k)) (hval : Value.okWide P w r b0 t v) (hd : DataW.Trod enc P w base spare held t v d ps) :
    ∃ n, v = .int k n ∧ ps = [] ∧ (Lit.int k n).wf = true ∧ ∀ w b sp held, DataW.Trod enc P w b sp held t v d [] := by
  obtain ⟨n, rfl, rfl, rfl, hw⟩ := open_int ht hval hd
  exact ⟨n, rfl, rfl, hw, fun w b sp held => shut_int ht hw⟩
end
end Mini
end Go.Proofs.YtbkpnhbcihcgaaaGreatDoor
end
section
namespace Go.Proofs.YtbkpnhbcihcgaaaGreatDoor
set_option linter.all false
open Go.ChangeShapes Go.WideShapes Go.ChangeAt Go.RowKit

section
variable {H : Type} {enc : TypeId × Value → H} {P : Program}
theorem post_below {f : Func} {s : ChangeSpec} {W W' : World} {args : Array Value} {v : Value} {ds gs : List (DataW H)} {ps pa pv : List MemPlace} {apart fresh handsOn again : Bool} (hw : DataW.Whole enc P f.params.toList s.vars apart W args.toList ds gs ps)
    (ok : ∀ (j : Nat) (t : TypeId) (r : Value), f.resultTypes[j]? = some t → (v.resultList f.resultTypes.size)[j]? = some r → Value.okWide P W' .any 0 t r)
    (res : ∀ (b : Nat) (sp : Nat → Bool) (hd : Bool), DataW.TrodAll enc P W' b sp hd f.resultTypes.toList (v.resultList f.resultTypes.size) (s.fn H (ds ++ gs)).results [])
    (arg : ∀ sp : Nat → Bool, (∀ p ∈ ps, sp p.block = true) → DataW.TrodAll enc P W' 0 sp true f.params.toList args.toList (s.fn H (ds ++ gs)).args pa)
    (vrs : ∀ sp : Nat → Bool, (∀ p ∈ ps, sp p.block = true) → DataW.TrodVars enc P W' sp s.vars (s.fn H (ds ++ gs)).vars pv)
    (hps : ps = pa ++ pv) (hb : Below W.heap.size W W') : s.post enc P f apart fresh handsOn again W args v W' := by
  have hb' := hb
  have lt : ∀ p ∈ ps, p.block < W.heap.size := fun p hp => hw.lt p hp
  have old : ∀ p ∈ ps, (fun b => decide (b < W.heap.size)) p.block = true := fun p hp => by simpa using lt p hp
  have whole := hw
  obtain ⟨_, _, _, _, _, hz, hn⟩ := hw
  subst hps
  refine ⟨ds, gs, pa ++ pv, [], pa, pv, whole, res _ _ _, arg _ old, vrs _ old, World.keptBut_mono (fun p hp => ⟨hp, Or.inr (List.mem_append.1 hp)⟩) (hb'.frame (· ∈ pa ++ pv)), fun _ => ⟨ok, _, _, ([] ++ pa) ++ pv, ⟨[] ++ pa, pv, trodAll_append (arg _ (fun _ _ => rfl)) (res _ _ _), vrs _ (fun _ _ => rfl), rfl, fun b off hp => ?_, fun ha => ?_⟩, fun p hp _ => ?_⟩⟩
  · have hin : MemPlace.cell b off ∈ pa ++ pv := by simpa using hp
    exact (hb'.frozen (lt _ hin)).trans (hz b off hin)
  · simpa using hn ha
  · simpa using hp
end

section
open Go.Lib

theorem trod_lit {H : Type} {enc : TypeId × Value → H} {P : Program} {w : World} {base : Nat} {sp : Nat → Bool} {held : Bool} {fuel : Nat} {t : TypeId} {k : IntKind} {z : Int} {cs : List Value} {p : List MemPlace}
    (ht : P.underlying t = some (.int k)) (h : DataW.trod enc P w base sp held fuel t cs = some (.lit (.int k z), p)) : cs = [.int k z] := by
  obtain ⟨z', hc, hd, _⟩ := DataW.trod_int ht h
  cases hd
  exact hc
theorem cells_of_pairs {H : Type} {enc : TypeId × Value → H} {P : Program} {w : World} {base : Nat} {sp : Nat → Bool} {held : Bool} {fuel : Nat} {t e : TypeId} {n : Nat} {k : IntKind} {cs : List Value} {zs : List (Int × Int)} {p : List MemPlace} {fs : Array Field} {f0 f1 : Field}
    (ht : P.underlying t = some (.array n e)) (he : P.underlying e = some (.struct fs)) (hfs : fs.toList = [f0, f1]) (h0 : f0.offset = 0) (h1 : f1.offset = 1) (k0 : P.underlying f0.type = some (.int k)) (k1 : P.underlying f1.type = some (.int k))
    (c0 : P.cellsOf f0.type = 1) (c1 : P.cellsOf f1.type = 1) (hce : P.cellsOf e = 2)
    (h : DataW.trod enc P w base sp held fuel t cs = some (.agg (zs.map fun z => .agg [.lit (.int k z.1), .lit (.int k z.2)]), p)) :
    ∀ (i : Nat) (z : Int × Int), zs[i]? = some z → cs[i * 2]? = some (.int k z.1) ∧ cs[i * 2 + 1]? = some (.int k z.2) := by
  cases fuel with
  | zero => simp [DataW.trod] at h
  | succ fuel =>
    simp only [DataW.trod, ht, hce] at h
    split at h
    · rename_i hl
      obtain ⟨xs, hm, hx⟩ := Option.map_eq_some_iff.1 h
      have hxs : xs.map (·.1) = zs.map fun z => (DataW.agg [.lit (.int k z.1), .lit (.int k z.2)] : DataW H) := by
        have := congrArg Prod.fst hx
        simpa using this
      have hxl : xs.length = n := by simpa using mapM_length hm
      have hzl : zs.length = n := by
        have := congrArg List.length hxs
        simp at this
        omega
      intro i z hz
      have hi : i < n := by
        have := (List.getElem?_eq_some_iff.1 hz).1
        omega
      obtain ⟨b, hb, hf⟩ := mapM_at hm i i (by simp [hi])
      have h2 : (xs.map (·.1))[i]? = some b.1 := by simp [hb]
      rw [hxs] at h2
      simp only [List.getElem?_map, hz, Option.map_some, Option.some.injEq] at h2
      cases fuel with
      | zero => simp [DataW.trod] at hf
      | succ fuel =>
        simp only [DataW.trod, he] at hf
        split at hf
        · obtain ⟨ys, hy, hyb⟩ := Option.map_eq_some_iff.1 hf
          rw [hfs] at hy
          simp only [List.mapM_cons, List.mapM_nil, Option.bind_eq_bind, Option.bind_eq_some_iff, Option.pure_def, Option.some.injEq] at hy
          obtain ⟨y0, e0, l1, ⟨y1, e1, l2, rfl, rfl⟩, rfl⟩ := hy
          have hb1 := congrArg Prod.fst hyb
          simp only [List.map_cons, List.map_nil] at hb1
          rw [← h2] at hb1
          simp only [DataW.agg.injEq, List.cons.injEq, and_true] at hb1
          obtain ⟨q0, q1⟩ := hb1
          obtain ⟨d0, p0⟩ := y0
          obtain ⟨d1, p1⟩ := y1
          simp only at q0 q1
          subst q0 q1
          have g0 := trod_lit k0 e0
          have g1 := trod_lit k1 e1
          rw [h0, c0] at g0
          rw [h1, c1] at g1
          have a0 := congrArg (·[0]?) g0
          have a1 := congrArg (·[0]?) g1
          simp [List.getElem?_take, List.getElem?_drop] at a0 a1
          exact ⟨by simpa using a0, by simpa using a1⟩
        · cases hf
    · cases h
end
theorem pairs_of_laid {P : Program} {W : World} {name : String} {k : IntKind} {zs : List (Int × Int)} {g : Nat} {t e : TypeId} {n : Nat} {fs : Array Field} {f0 f1 : Field}
    (hg : P.globalNamed name = some g) (hty : (P.globals[g]?).map (·.type) = some t) (ht : P.underlying t = some (.array n e)) (he : P.underlying e = some (.struct fs)) (hfs : fs.toList = [f0, f1]) (h0 : f0.offset = 0) (h1 : f1.offset = 1) (k0 : P.underlying f0.type = some (.int k)) (k1 : P.underlying f1.type = some (.int k))
    (c0 : P.cellsOf f0.type = 1) (c1 : P.cellsOf f1.type = 1) (hce : P.cellsOf e = 2)
    (h : laidMet P [(name, .agg (zs.map fun z => .agg [.lit (.int k z.1), .lit (.int k z.2)]))] W) (i : Nat) (z : Int × Int) (hz : zs[i]? = some z) :
    W.cell? ⟨g, i * 2, none⟩ = some (.int k z.1) ∧ W.cell? ⟨g, i * 2 + 1, none⟩ = some (.int k z.2) := by
  obtain ⟨ps, ⟨g', t', cs, fuel, p, q, hg', ht', hvar, hd, _, _⟩, _⟩ := h
  obtain rfl := Option.some.inj (hg.symm.trans hg')
  obtain rfl := Option.some.inj (hty.symm.trans ht')
  obtain ⟨a, b⟩ := cells_of_pairs ht he hfs h0 h1 k0 k1 c0 c1 hce hd i z hz
  have r0 := World.var?_cell hg hvar (i * 2)
  have r1 := World.var?_cell hg hvar (i * 2 + 1)
  constructor
  · rw [r0]; simpa using a
  · rw [r1]; simpa using b
end Go.Proofs.YtbkpnhbcihcgaaaGreatDoor
end
section
namespace Go.Proofs.YtbkpnhbcihcgaaaGreatDoor
set_option linter.all false
open Go.ChangeShapes Go.WideShapes Go.ChangeAt Go.RowKit Go.Lib
end Go.Proofs.YtbkpnhbcihcgaaaGreatDoor
end
section
namespace Go.Proofs.YtbkpnhbcihcgaaaGreatDoor
set_option linter.all false
open Go.RowKit
namespace Mini
variable {P : Program} {s s1 : St} {R W : Nat}

def rhoX (P : Program) (w : World) (ext : Nat → Option Loc) : Ren := fun b =>
  if b < P.globals.size then some ⟨b, 0, true, 0, match w.heap[b]? with | some (.cells cs _ _) => cs.size | _ => 0⟩ else ext b
theorem calls_ofX {f : FuncId} {args args' : Array Value} {v : Value} {w : World} {ext : Nat → Option Loc} (h : SndF P f args s v s1 R W) (hg : ground 8 v = true) (hn : P.globals.size ≤ s.next)
    (hh : ∀ b, b < P.globals.size → s.get b = .hole ∨ ∃ c e, s.get b = .cells c e true 0 true ∧ c ≠ [] ∧ c.all (ground 8) = true ∧ ∀ (i : Nat) (v : Value), c[i]? = some v → w.cell? ⟨b, i, none⟩ = some v)
    (hx : ∀ b, P.globals.size ≤ b → b < s.next → s.get b ≠ .hole → ∃ L o', ext b = some L ∧ (roO (s.get b) = false → P.globals.size ≤ L.blk) ∧ w.heap[L.blk]? = some o' ∧ OR (rhoX P w ext) L (s.get b) o')
    (hb : ∀ b, s.next ≤ b → ext b = none) (hi : ∀ b b' L L', P.globals.size ≤ b → P.globals.size ≤ b' → s.get b ≠ .hole → s.get b' ≠ .hole → (roO (s.get b) && roO (s.get b')) = false → ext b = some L → ext b' = some L' → L.blk = L'.blk → b = b')
    (ha : VRs (rhoX P w ext) args args') (hw : ∀ b, b < s.next → W.testBit b = false) : Calls P f args' w fun e w' => e = .returned v ∧ Below w.heap.size w w' := by
  have hG : Glob P (rhoX P w ext) := fun g hg => ⟨_, if_pos hg, rfl, rfl⟩
  have hlt : ∀ b, s.get b ≠ .hole → b < s.next := fun b hb => St.lt_of_live hb
  have hblk : ∀ b L, s.get b ≠ .hole → rhoX P w ext b = some L → (b < P.globals.size ∧ L.blk = b) ∨ (P.globals.size ≤ b ∧ ext b = some L ∧ (roO (s.get b) = false → P.globals.size ≤ L.blk)) := fun b L hb hL => by
    unfold rhoX at hL
    split at hL
    · rename_i c; cases hL; exact .inl ⟨c, rfl⟩
    · rename_i c
      obtain ⟨L2, o2, e1, e2, _⟩ := hx b (by omega) (hlt b hb) hb
      rw [hL] at e1
      cases e1
      exact .inr ⟨by omega, hL, e2⟩
  have hp : Pre P none s s1 R W none (rhoX P w ext) s.get w := by
    refine ⟨hG, trivial, fun _ _ _ => rfl, fun b h1 h2 => ⟨?_, St.get_beyond s b h1⟩, fun b hb => ?_, fun b b' L L' h1 h2 hq e1 e2 he => ?_⟩
    · show (if b < P.globals.size then _ else ext b) = none
      rw [if_neg (by omega)]
      exact hb b h1
    · by_cases c : b < P.globals.size
      · rcases hh b c with k | ⟨cs0, e, k1, k2, k3, k4⟩
        · exact absurd k hb
        · obtain ⟨cs, e', fr, q1, q2, q3⟩ := cells_of k2 k4
          refine ⟨_, .cells cs e' fr, if_pos c, q1, ?_⟩
          rw [k1]
          refine ⟨rfl, rfl, fun h => (by cases h), ?_, ?_, fun i u hi => ⟨u, by simpa using q3 i u hi, ground_refl 8 (List.all_eq_true.1 k3 u (List.mem_of_getElem? hi))⟩, fun h => (by cases h), fun h => (by cases h)⟩
          · simp only [q1]
          · simp only [q1, Nat.zero_add]; exact q2
      · obtain ⟨L, o', e1, _, e3, e4⟩ := hx b (by omega) (hlt b hb) hb
        exact ⟨L, o', by show (if b < P.globals.size then _ else ext b) = _; rw [if_neg c]; exact e1, e3, e4⟩
    · have htab : ∀ b, b < P.globals.size → s.get b ≠ .hole → roO (s.get b) = true := fun b hb hn => by
        rcases hh b hb with k | ⟨c, e, k1, _⟩
        · exact absurd k hn
        · rw [k1]; rfl
      rcases hblk b L h1 e1 with ⟨a1, a2⟩ | ⟨a1, a2, a3⟩ <;> rcases hblk b' L' h2 e2 with ⟨c1, c2⟩ | ⟨c1, c2, c3⟩
      · omega
      · rw [htab b a1 h1, Bool.true_and] at hq
        have := c3 hq
        omega
      · rw [htab b' c1 h2, Bool.and_true] at hq
        have := a3 hq
        omega
      · exact hi b b' L L' a1 c1 h1 h2 hq a2 c2 he
  refine callsIn_wide.1 (h.2 0 (rhoX P w ext) s.get args' w _ hp ha fun ρ1 v' w1 p1 _ hv => ?_)
  have hv' := ground_eq 8 hg hv
  subst hv'
  refine ⟨rfl, p1.os, p1.tape, p1.output, p1.size, fun k hk => p1.frame k hk fun b L hb hlt hL => ?_⟩
  have := hw b hlt
  rw [hb] at this
  cases this
theorem or_read {ρ : Ren} {n k : Nat} {g : Nat → Nat → Value} {e : TypeId} {cs : Array Value} {e' : TypeId} {fr : Nat × Nat} {blk base : Nat} (hl : base + n * k ≤ cs.size) (hg : ∀ i j, i < n → j < k → ground 8 (g i j) = true)
    (h : ∀ i j, i < n → j < k → cs[base + (i * k + j)]? = some (g i j)) : OR ρ ⟨blk, base, true, 0, cs.size⟩ (.rows n k g e true 0 true) (.cells cs e' fr) := by
  refine ⟨rfl, rfl, fun h => (by cases h), rfl, by rw [rowsL_len]; exact hl, fun i v hi => ?_, fun h => (by cases h), fun h => (by cases h)⟩
  have hlt : i < n * k := by
    have := (List.getElem?_eq_some_iff.1 hi).1
    rwa [rowsL_len] at this
  rw [rowsL_at hlt] at hi
  cases hi
  have hk : 0 < k := by
    rcases Nat.eq_zero_or_pos k with z | z
    · subst z; simp at hlt
    · exact z
  have h1 := (Nat.div_lt_iff_lt_mul hk).2 hlt
  have h2 := Nat.mod_lt i hk
  have h3 := h _ _ h1 h2
  rw [Nat.mul_comm, Nat.div_add_mod] at h3
  exact ⟨_, h3, ground_refl 8 (hg _ _ h1 h2)⟩
end Mini
end Go.Proofs.YtbkpnhbcihcgaaaGreatDoor
end
section
namespace Go.Proofs.YtbkpnhbcihcgaaaGreatDoor
set_option linter.all false
open Go.ChangeShapes Go.WideShapes Go.ChangeAt Go.RowKit Go.Lib Go.Deep
namespace Mini
def RowsAt (W : World) (ks : List IntKind) (v : Value) : Prop := v = .slice none 0 0 ∨ ∃ (b off len cap : Nat) (g : Nat → Nat → Int), v = .slice (some ⟨b, off, none⟩) len cap ∧ len ≤ cap ∧ cap ≤ maxLen ∧
  ∀ i j, i < len → j < ks.length → W.cell? ⟨b, off + (i * ks.length + j), none⟩ = some (.int (ks.getD j .i64) (g i j)) ∧ (Lit.int (ks.getD j .i64) (g i j)).wf = true
theorem wfs_at : ∀ {ks : List IntKind} {ns : List Int} {j : Nat}, ns.length = ks.length → wfs ks ns = true → j < ks.length → (Lit.int (ks.getD j .i64) (ns.getD j 0)).wf = true
  | [], _, j, _, _, h => absurd h (by simp)
  | k :: ks, [], j, h, _, _ => by cases h
  | k :: ks, n :: ns, 0, _, h, _ => by simp only [wfs, Bool.and_eq_true] at h; exact h.1
  | k :: ks, n :: ns, j + 1, hl, h, hj => by
    simp only [wfs, Bool.and_eq_true] at h
    have := wfs_at (ks := ks) (ns := ns) (j := j) (by simpa using hl) h.2 (by simpa using hj)
    simpa using this
theorem backI_at : ∀ {ks : List IntKind} {ns : List Int} {j : Nat}, ns.length = ks.length → j < ks.length → (backI ks ns)[j]? = some (.int (ks.getD j .i64) (ns.getD j 0))
  | [], _, j, _, h => absurd h (by simp)
  | k :: ks, [], j, h, _ => by cases h
  | k :: ks, n :: ns, 0, _, _ => rfl
  | k :: ks, n :: ns, j + 1, hl, hj => by
    have := backI_at (ks := ks) (ns := ns) (j := j) (by simpa using hl) (by simpa using hj)
    simpa [backI] using this
theorem rows_of {H : Type} {enc : TypeId × Value → H} {P : Program} {W : World} {base m : Nat} {t e : TypeId} {v : Value} {d : DataW H} {p : List MemPlace} {ks : List IntKind} (ht : P.underlying t = some (.slice e)) (hk : kindsT P m e = some ks) (hc : P.cellsOf e = ks.length)
    (hv : Value.okWide P W .any base t v) (h : DataW.Trod enc P W 0 (fun _ => true) true t v d p) : RowsAt W ks v := by
  obtain ⟨a, len, cap, rfl⟩ := okWide_slice ht hv
  obtain ⟨fuel, hf⟩ := h
  rcases open_slice ht hf with ⟨hcs, _⟩ | ⟨a', len', cap', m', n, D, Pl, hcs, _, hl, hmx, hm, _, hx⟩
  · left
    simpa [Value.cells] using hcs
  · right
    have hcs : Value.slice a len cap = .slice (some a') len' cap' := by simpa [Value.cells] using hcs
    cases hcs
    simp only [Value.okWide, ht, Cell.okWide, Cell.ok, World.has] at hv
    obtain ⟨b, off, spot⟩ := a'
    have hs : spot = none := hv.2.2.2.1
    subst hs
    have hm' : len ≤ m' := by rw [hm]; exact hl
    have z0 : ∀ i, ∃ ns : List Int, i < len → ns.length = ks.length ∧ wfs ks ns = true ∧ ∀ j, j < ks.length → W.cell? ⟨b, off + (i * ks.length + j), none⟩ = (backI ks ns)[j]? := fun i => by
      by_cases hi : i < len
      · obtain ⟨cs', q1, q2⟩ := hx i (by omega)
        rw [hc] at q1
        obtain ⟨_, hlen, hcell⟩ := World.cells?_some q1
        obtain ⟨_, ns, l1, c1, f1, _⟩ := open_kinds m e ks hk n cs' (D i) (Pl i) W 0 (fun _ => true) true q2
        refine ⟨ns, fun _ => ⟨l1, f1, fun j hj => ?_⟩⟩
        have h2 := hcell j hj
        rw [Go.WideShapes.add_plain, Go.WideShapes.add_plain] at h2
        rw [← c1, ← h2]
        congr 2
        omega
      · exact ⟨[], fun h => absurd h hi⟩
    refine ⟨b, off, len, cap, fun i j => (Classical.choose (z0 i)).getD j 0, rfl, hl, hmx, fun i j hi hj => ?_⟩
    obtain ⟨e1, e2, e3⟩ := Classical.choose_spec (z0 i) hi
    exact ⟨(e3 j hj).trans (backI_at e1 hj), wfs_at e1 e2 hj⟩
def extAt (N b off sz : Nat) : Nat → Option Mini.Loc := fun x => if x = N then some ⟨b, off, true, 0, sz⟩ else none
theorem cell_obj {W : World} {b off : Nat} {v : Value} (h : W.cell? ⟨b, off, none⟩ = some v) : ∃ cs e fr, W.heap[b]? = some (.cells cs e fr) ∧ cs[off]? = some v := by
  unfold World.cell? at h
  split at h
  · rename_i c e fr hc
    exact ⟨c, e, fr, hc, by simpa using h⟩
  · cases h
theorem vrs_one {ρ : Ren} {pre post : List Value} {u u' : Value} (h1 : pre.all (ground 8) = true) (h2 : post.all (ground 8) = true) (hu : VR ρ u u') : VRs ρ (pre ++ u :: post).toArray (pre ++ u' :: post).toArray := by
  refine ⟨by simp, fun i x x' e1 e2 => ?_⟩
  simp only [List.getElem?_toArray] at e1 e2
  rw [List.all_eq_true] at h1 h2
  rcases Nat.lt_trichotomy i pre.length with c | c | c
  · rw [List.getElem?_append_left c] at e1 e2
    rw [e1] at e2
    cases e2
    exact ground_refl 8 (h1 _ (List.mem_of_getElem? e1))
  · rw [List.getElem?_append_right (by omega)] at e1 e2
    rw [c, Nat.sub_self] at e1 e2
    cases e1
    cases e2
    exact hu
  · rw [List.getElem?_append_right (by omega)] at e1 e2
    obtain ⟨q, hq⟩ : ∃ q, i - pre.length = q + 1 := ⟨i - pre.length - 1, by omega⟩
    rw [hq] at e1 e2
    simp only [List.getElem?_cons_succ] at e1 e2
    rw [e1] at e2
    cases e2
    exact ground_refl 8 (h2 _ (List.mem_of_getElem? e1))
theorem calls_row1 {P : Program} {f : FuncId} {S0 : St} {W : World} {ks : List IntKind} {pre post : List Value} {v0 : Value} {G : (Nat → Nat → Int) → Nat → Nat → Value} (hh : Holds P S0 W) (hn : S0.next = P.globals.size) (hw0 : ∀ b, b < P.globals.size → b < S0.next)
    (hp1 : pre.all (ground 8) = true) (hp2 : post.all (ground 8) = true) (hG : ∀ g i j, j < ks.length → G g i j = .int (ks.getD j .i64) (g i j)) (hk : 0 < ks.length) (hv : RowsAt W ks v0)
    (hnil : ∃ s1 R, SndF P f (pre ++ .slice none 0 0 :: post).toArray S0 (.bool true) s1 R 0)
    (hemp : ∀ c, ∃ s1 R, SndF P f (pre ++ .slice (some ⟨S0.next, 0, none⟩) 0 c :: post).toArray (S0.push .hole) (.bool true) s1 R 0)
    (hrow : ∀ n c g, 0 < n → n ≤ c → c ≤ maxLen → (∀ i j, i < n → j < ks.length → (Lit.int (ks.getD j .i64) (g i j)).wf = true) → ∃ s1 R, SndF P f (pre ++ .slice (some ⟨S0.next, 0, none⟩) n c :: post).toArray (S0.push (.rows n ks.length (G g) 0 true 0 true)) (.bool true) s1 R 0) :
    Calls P f (pre ++ v0 :: post).toArray W fun e W' => e = .returned (.bool true) ∧ Below W.heap.size W W' := by
  have hold : ∀ (o : MObj) b, b < P.globals.size → (S0.push o).get b = S0.get b := fun o b hb => St.get_push_old S0 o b (hw0 b hb)
  have hnx : ∀ o : MObj, (S0.push o).next = S0.next + 1 := fun o => rfl
  have hnew : ∀ o : MObj, (S0.push o).get S0.next = o := fun o => St.get_push_new S0 o
  rcases hv with rfl | ⟨b, off, len, cap, g, rfl, hl, hmx, hc⟩
  · obtain ⟨s1, R, h⟩ := hnil
    exact calls_of h rfl (by simp only [List.all_append, List.all_cons, hp1, hp2, ground, Bool.and_self]) (fun b _ => by simp) hh
  · rcases Nat.eq_zero_or_pos len with z | z
    · subst z
      obtain ⟨s1, R, h⟩ := hemp cap
      refine calls_ofX (ext := extAt S0.next b off 0) h rfl (by rw [hnx]; omega) (fun x hx => by rw [hold _ x hx]; exact hh.holds x hx) (fun x h1 h2 h3 => ?_) (fun x hx => if_neg (by rw [hnx] at hx; omega)) (fun x y L L' h1 h2 h3 h4 _ h5 h6 _ => ?_) (vrs_one hp1 hp2 ?_) (fun x _ => by simp)
      · rw [hnx] at h2
        have : x = S0.next := by omega
        subst this
        exact absurd (hnew _) h3
      · unfold extAt at h5 h6
        split at h5
        · split at h6
          · omega
          · cases h6
        · cases h5
      · exact .slice S0.next 0 0 cap cap ⟨b, off, true, 0, 0⟩ (by unfold rhoX; rw [if_neg (by omega)]; exact if_pos rfl) (.inl rfl)
    · obtain ⟨s1, R, h⟩ := hrow len cap g z hl hmx (fun i j hi hj => (hc i j hi hj).2)
      have c0 := (hc 0 0 z hk).1
      obtain ⟨cs, e', fr, ho, _⟩ := cell_obj c0
      have hcs : ∀ i j, i < len → j < ks.length → cs[off + (i * ks.length + j)]? = some (G g i j) := fun i j hi hj => by
        obtain ⟨c1, e1, f1, o1, r1⟩ := cell_obj (hc i j hi hj).1
        rw [ho] at o1
        cases o1
        rw [hG g i j hj]
        exact r1
      have hsize : off + len * ks.length ≤ cs.size := by
        have := (Array.getElem?_eq_some_iff.1 (hcs (len - 1) (ks.length - 1) (by omega) (by omega))).1
        have e1 : (len - 1) * ks.length + ks.length = len * ks.length := by
          obtain ⟨q, rfl⟩ : ∃ q, len = q + 1 := ⟨len - 1, by omega⟩
          simp [Nat.succ_mul]
        omega
      refine calls_ofX (ext := extAt S0.next b off cs.size) h rfl (by rw [hnx]; omega) (fun x hx => by rw [hold _ x hx]; exact hh.holds x hx) (fun x h1 h2 h3 => ?_) (fun x hx => if_neg (by rw [hnx] at hx; omega)) (fun x y L L' h1 h2 h3 h4 _ h5 h6 _ => ?_) (vrs_one hp1 hp2 ?_) (fun x _ => by simp)
      · rw [hnx] at h2
        have : x = S0.next := by omega
        subst this
        have hr := hnew (.rows len ks.length (G g) 0 true 0 true)
        refine ⟨⟨b, off, true, 0, cs.size⟩, .cells cs e' fr, if_pos rfl, fun h => ?_, ho, ?_⟩
        · rw [hr] at h; cases h
        · rw [hr]
          exact or_read hsize (fun i j _ hj => by rw [hG g i j hj]; rfl) fun i j hi hj => hcs i j hi hj
      · unfold extAt at h5 h6
        split at h5
        · split at h6
          · omega
          · cases h6
        · cases h5
      · exact .slice S0.next 0 len cap cap ⟨b, off, true, 0, cs.size⟩ (by unfold rhoX; rw [if_neg (by omega)]; exact if_pos rfl) (.inl rfl)
theorem calls_row1o {P : Program} {f : FuncId} {S0 : St} {W : World} {ks : List IntKind} {pre post : List Value} {v0 : Value} {G : (Nat → Nat → Int) → Nat → Nat → Value} (hh : Holds P S0 W) (hn : S0.next = P.globals.size) (hw0 : ∀ b, b < P.globals.size → b < S0.next)
    (hp1 : pre.all (ground 8) = true) (hp2 : post.all (ground 8) = true) (hG : ∀ g i j, j < ks.length → G g i j = .int (ks.getD j .i64) (g i j)) (hk : 0 < ks.length) (hv : RowsAt W ks v0)
    (hnil : ∃ s1 R, SndF P f (pre ++ .slice none 0 0 :: post).toArray S0 (.bool true) s1 R 0)
    (hemp : ∀ c, ∃ s1 R, SndF P f (pre ++ .slice (some ⟨S0.next, 0, none⟩) 0 c :: post).toArray (S0.push .hole) (.bool true) s1 R 0)
    (hrow : ∀ n c g, 0 < n → n ≤ c → c ≤ maxLen → (∀ i j, i < n → j < ks.length → (Lit.int (ks.getD j .i64) (g i j)).wf = true) → ∃ o s1 R, (o = .rows n ks.length (G g) 0 true 0 true ∨ o = .cells (rowsL n ks.length (G g)) 0 true 0 true) ∧ SndF P f (pre ++ .slice (some ⟨S0.next, 0, none⟩) n c :: post).toArray (S0.push o) (.bool true) s1 R 0) :
    Calls P f (pre ++ v0 :: post).toArray W fun e W' => e = .returned (.bool true) ∧ Below W.heap.size W W' := by
  have hold : ∀ (o : MObj) b, b < P.globals.size → (S0.push o).get b = S0.get b := fun o b hb => St.get_push_old S0 o b (hw0 b hb)
  have hnx : ∀ o : MObj, (S0.push o).next = S0.next + 1 := fun o => rfl
  have hnew : ∀ o : MObj, (S0.push o).get S0.next = o := fun o => St.get_push_new S0 o
  rcases hv with rfl | ⟨b, off, len, cap, g, rfl, hl, hmx, hc⟩
  · obtain ⟨s1, R, h⟩ := hnil
    exact calls_of h rfl (by simp only [List.all_append, List.all_cons, hp1, hp2, ground, Bool.and_self]) (fun b _ => by simp) hh
  · rcases Nat.eq_zero_or_pos len with z | z
    · subst z
      obtain ⟨s1, R, h⟩ := hemp cap
      refine calls_ofX (ext := extAt S0.next b off 0) h rfl (by rw [hnx]; omega) (fun x hx => by rw [hold _ x hx]; exact hh.holds x hx) (fun x h1 h2 h3 => ?_) (fun x hx => if_neg (by rw [hnx] at hx; omega)) (fun x y L L' h1 h2 h3 h4 _ h5 h6 _ => ?_) (vrs_one hp1 hp2 ?_) (fun x _ => by simp)
      · rw [hnx] at h2
        have : x = S0.next := by omega
        subst this
        exact absurd (hnew _) h3
      · unfold extAt at h5 h6
        split at h5
        · split at h6
          · omega
          · cases h6
        · cases h5
      · exact .slice S0.next 0 0 cap cap ⟨b, off, true, 0, 0⟩ (by unfold rhoX; rw [if_neg (by omega)]; exact if_pos rfl) (.inl rfl)
    · obtain ⟨o, s1, R, hobj, h⟩ := hrow len cap g z hl hmx (fun i j hi hj => (hc i j hi hj).2)
      have c0 := (hc 0 0 z hk).1
      obtain ⟨cs, e', fr, ho, _⟩ := cell_obj c0
      have hcs : ∀ i j, i < len → j < ks.length → cs[off + (i * ks.length + j)]? = some (G g i j) := fun i j hi hj => by
        obtain ⟨c1, e1, f1, o1, r1⟩ := cell_obj (hc i j hi hj).1
        rw [ho] at o1
        cases o1
        rw [hG g i j hj]
        exact r1
      have hsize : off + len * ks.length ≤ cs.size := by
        have := (Array.getElem?_eq_some_iff.1 (hcs (len - 1) (ks.length - 1) (by omega) (by omega))).1
        have e1 : (len - 1) * ks.length + ks.length = len * ks.length := by
          obtain ⟨q, rfl⟩ : ∃ q, len = q + 1 := ⟨len - 1, by omega⟩
          simp [Nat.succ_mul]
        omega
      refine calls_ofX (ext := extAt S0.next b off cs.size) h rfl (by rw [hnx]; omega) (fun x hx => by rw [hold _ x hx]; exact hh.holds x hx) (fun x h1 h2 h3 => ?_) (fun x hx => if_neg (by rw [hnx] at hx; omega)) (fun x y L L' h1 h2 h3 h4 _ h5 h6 _ => ?_) (vrs_one hp1 hp2 ?_) (fun x _ => by simp)
      · rw [hnx] at h2
        have : x = S0.next := by omega
        subst this
        have hr := hnew o
        have hro := or_read (ρ := rhoX P W (extAt S0.next b off cs.size)) (e := 0) (blk := b) (e' := e') (fr := fr) hsize (fun i j _ hj => by rw [hG g i j hj]; rfl) fun i j hi hj => hcs i j hi hj
        refine ⟨⟨b, off, true, 0, cs.size⟩, .cells cs e' fr, if_pos rfl, fun h => ?_, ho, ?_⟩
        · rw [hr] at h
          rcases hobj with rfl | rfl <;> cases h
        · rw [hr]
          rcases hobj with rfl | rfl
          · exact hro
          · exact Mini.or_congr (show nrm (.rows len ks.length (G g) 0 true 0 true) = nrm (.cells (rowsL len ks.length (G g)) 0 true 0 true) from rfl) hro
      · unfold extAt at h5 h6
        split at h5
        · split at h6
          · omega
          · cases h6
        · cases h5
      · exact .slice S0.next 0 len cap cap ⟨b, off, true, 0, cs.size⟩ (by unfold rhoX; rw [if_neg (by omega)]; exact if_pos rfl) (.inl rfl)
end Mini
end Go.Proofs.YtbkpnhbcihcgaaaGreatDoor
end
section
namespace Go.Proofs.YtbkpnhbcihcgaaaGreatDoor
set_option linter.all false
open Go.ChangeShapes Go.WideShapes Go.ChangeAt Go.RowKit Go.Lib Go.Deep
namespace Mini
inductive RA where
  | nil
  | emp (c : Nat)
  | row (n c : Nat) (g : Nat → Nat → Int)
def RA.val (x : Nat) : RA → Value
  | .nil => .slice none 0 0
  | .emp c => .slice (some ⟨x, 0, none⟩) 0 c
  | .row n c _ => .slice (some ⟨x, 0, none⟩) n c
def RA.obj (k : Nat) (G : (Nat → Nat → Int) → Nat → Nat → Value) : RA → MObj
  | .row n _ g => .rows n k (G g) 0 true 0 true
  | _ => .hole
def RA.ok (ks : List IntKind) : RA → Prop
  | .row n c g => 0 < n ∧ n ≤ c ∧ c ≤ maxLen ∧ ∀ i j, i < n → j < ks.length → (Lit.int (ks.getD j .i64) (g i j)).wf = true
  | _ => True
theorem row_arg {W : World} {ks : List IntKind} {v : Value} {G : (Nat → Nat → Int) → Nat → Nat → Value} (hv : RowsAt W ks v) (hk : 0 < ks.length) (hG : ∀ g i j, j < ks.length → G g i j = .int (ks.getD j .i64) (g i j)) :
    ∃ (a : RA) (L : Mini.Loc), a.ok ks ∧ (∀ (ρ : Ren) (x : Nat), ρ x = some L → VR ρ (a.val x) v) ∧ (a.obj ks.length G ≠ .hole → roO (a.obj ks.length G) = true ∧ ∀ ρ : Ren, ∃ o', W.heap[L.blk]? = some o' ∧ OR ρ L (a.obj ks.length G) o') := by
  rcases hv with rfl | ⟨b, off, len, cap, g, rfl, hl, hmx, hc⟩
  · exact ⟨.nil, ⟨0, 0, true, 0, 0⟩, trivial, fun ρ x _ => .slice0 0 0, fun h => absurd rfl h⟩
  · rcases Nat.eq_zero_or_pos len with z | z
    · subst z
      exact ⟨.emp cap, ⟨b, off, true, 0, 0⟩, trivial, fun ρ x hx => .slice x 0 0 cap cap ⟨b, off, true, 0, 0⟩ hx (.inl rfl), fun h => absurd rfl h⟩
    · have c0 := (hc 0 0 z hk).1
      obtain ⟨cs, e', fr, ho, _⟩ := cell_obj c0
      have hcs : ∀ i j, i < len → j < ks.length → cs[off + (i * ks.length + j)]? = some (G g i j) := fun i j hi hj => by
        obtain ⟨c1, e1, f1, o1, r1⟩ := cell_obj (hc i j hi hj).1
        rw [ho] at o1
        cases o1
        rw [hG g i j hj]
        exact r1
      have hsize : off + len * ks.length ≤ cs.size := by
        have := (Array.getElem?_eq_some_iff.1 (hcs (len - 1) (ks.length - 1) (by omega) (by omega))).1
        have e1 : (len - 1) * ks.length + ks.length = len * ks.length := by
          obtain ⟨q, rfl⟩ : ∃ q, len = q + 1 := ⟨len - 1, by omega⟩
          simp [Nat.succ_mul]
        omega
      exact ⟨.row len cap g, ⟨b, off, true, 0, cs.size⟩, ⟨z, hl, hmx, fun i j hi hj => (hc i j hi hj).2⟩, fun ρ x hx => .slice x 0 len cap cap ⟨b, off, true, 0, cs.size⟩ hx (.inl rfl),
        fun _ => ⟨rfl, fun ρ => ⟨.cells cs e' fr, ho, or_read hsize (fun i j _ hj => by rw [hG g i j hj]; rfl) fun i j hi hj => hcs i j hi hj⟩⟩⟩
theorem calls_row2 {P : Program} {f : FuncId} {S0 : St} {W : World} {ks0 ks1 : List IntKind} {pre mid post : List Value} {v0 v1 : Value} {G0 G1 : (Nat → Nat → Int) → Nat → Nat → Value} (hh : Holds P S0 W) (hn : S0.next = P.globals.size)
    (hp1 : pre.all (ground 8) = true) (hp2 : mid.all (ground 8) = true) (hp3 : post.all (ground 8) = true) (hG0 : ∀ g i j, j < ks0.length → G0 g i j = .int (ks0.getD j .i64) (g i j)) (hG1 : ∀ g i j, j < ks1.length → G1 g i j = .int (ks1.getD j .i64) (g i j)) (hk0 : 0 < ks0.length) (hk1 : 0 < ks1.length) (hv0 : RowsAt W ks0 v0) (hv1 : RowsAt W ks1 v1)
    (hlaw : ∀ a0 a1 : RA, a0.ok ks0 → a1.ok ks1 → ∃ s1 R, SndF P f (pre ++ a0.val S0.next :: (mid ++ a1.val (S0.next + 1) :: post)).toArray ((S0.push (a0.obj ks0.length G0)).push (a1.obj ks1.length G1)) (.bool true) s1 R 0) :
    Calls P f (pre ++ v0 :: (mid ++ v1 :: post)).toArray W fun e W' => e = .returned (.bool true) ∧ Below W.heap.size W W' := by
  obtain ⟨a0, L0, ok0, r0, o0⟩ := row_arg (G := G0) hv0 hk0 hG0
  obtain ⟨a1, L1, ok1, r1, o1⟩ := row_arg (G := G1) hv1 hk1 hG1
  obtain ⟨s1, R, h⟩ := hlaw a0 a1 ok0 ok1
  have hnx : ((S0.push (a0.obj ks0.length G0)).push (a1.obj ks1.length G1)).next = S0.next + 2 := rfl
  have g0 : ((S0.push (a0.obj ks0.length G0)).push (a1.obj ks1.length G1)).get S0.next = a0.obj ks0.length G0 := by
    rw [St.get_push_old _ _ _ (show S0.next < (S0.push _).next from Nat.lt_succ_self _)]
    exact St.get_push_new S0 _
  have g1 : ((S0.push (a0.obj ks0.length G0)).push (a1.obj ks1.length G1)).get (S0.next + 1) = a1.obj ks1.length G1 := St.get_push_new (S0.push _) _
  have hold : ∀ b, b < P.globals.size → ((S0.push (a0.obj ks0.length G0)).push (a1.obj ks1.length G1)).get b = S0.get b := fun b hb => by
    rw [St.get_push_old _ _ _ (show b < (S0.push _).next from by show b < S0.next + 1; omega), St.get_push_old S0 _ b (by omega)]
  let ext : Nat → Option Mini.Loc := fun x => if x = S0.next then some L0 else if x = S0.next + 1 then some L1 else none
  have e0 : rhoX P W ext S0.next = some L0 := by
    unfold rhoX
    rw [if_neg (by omega)]
    exact if_pos rfl
  have e1 : rhoX P W ext (S0.next + 1) = some L1 := by
    unfold rhoX
    rw [if_neg (by omega)]
    show (if S0.next + 1 = S0.next then _ else _) = _
    rw [if_neg (by omega), if_pos rfl]
  refine calls_ofX (ext := ext) h rfl (by rw [hnx]; omega) (fun x hx => by rw [hold _ hx]; exact hh.holds x hx) (fun x h1 h2 h3 => ?_) (fun x hx => ?_) (fun x y L L' h1 h2 h3 h4 hro h5 h6 _ => ?_) ?_ (fun x _ => by simp)
  · rw [hnx] at h2
    have : x = S0.next ∨ x = S0.next + 1 := by omega
    rcases this with rfl | rfl
    · rw [g0] at h3 ⊢
      obtain ⟨q1, q2⟩ := o0 h3
      obtain ⟨o', q3, q4⟩ := q2 (rhoX P W ext)
      exact ⟨L0, o', if_pos rfl, (by intro h; rw [q1] at h; cases h), q3, q4⟩
    · rw [g1] at h3 ⊢
      obtain ⟨q1, q2⟩ := o1 h3
      obtain ⟨o', q3, q4⟩ := q2 (rhoX P W ext)
      exact ⟨L1, o', (by show (if S0.next + 1 = S0.next then _ else _) = _; rw [if_neg (by omega), if_pos rfl]), (by intro h; rw [q1] at h; cases h), q3, q4⟩
  · rw [hnx] at hx
    show (if x = S0.next then _ else _) = _
    rw [if_neg (by omega), if_neg (by omega)]
  · have key : ∀ z, P.globals.size ≤ z → ((S0.push (a0.obj ks0.length G0)).push (a1.obj ks1.length G1)).get z ≠ .hole → roO (((S0.push (a0.obj ks0.length G0)).push (a1.obj ks1.length G1)).get z) = true := fun z hz hl => by
      have hlt := St.lt_of_live hl
      rw [hnx] at hlt
      have : z = S0.next ∨ z = S0.next + 1 := by omega
      rcases this with rfl | rfl
      · rw [g0] at hl ⊢; exact (o0 hl).1
      · rw [g1] at hl ⊢; exact (o1 hl).1
    rw [key x h1 h3, key y h2 h4] at hro
    cases hro
  · refine ⟨by simp, fun i u u' q1 q2 => ?_⟩
    have gr : ∀ {l : List Value}, l.all (ground 8) = true → ∀ {x : Value}, x ∈ l → VR (rhoX P W ext) x x := fun hl x hx => ground_refl 8 (List.all_eq_true.1 hl _ hx)
    simp only [List.getElem?_toArray] at q1 q2
    rcases Nat.lt_trichotomy i pre.length with c | c | c
    · rw [List.getElem?_append_left c] at q1 q2
      rw [q1] at q2
      cases q2
      exact gr hp1 (List.mem_of_getElem? q1)
    · rw [List.getElem?_append_right (by omega)] at q1 q2
      rw [c, Nat.sub_self] at q1 q2
      cases q1
      cases q2
      exact r0 _ _ e0
    · rw [List.getElem?_append_right (by omega)] at q1 q2
      obtain ⟨q, hq⟩ : ∃ q, i - pre.length = q + 1 := ⟨i - pre.length - 1, by omega⟩
      rw [hq] at q1 q2
      simp only [List.getElem?_cons_succ] at q1 q2
      rcases Nat.lt_trichotomy q mid.length with d | d | d
      · rw [List.getElem?_append_left d] at q1 q2
        rw [q1] at q2
        cases q2
        exact gr hp2 (List.mem_of_getElem? q1)
      · rw [List.getElem?_append_right (by omega)] at q1 q2
        rw [d, Nat.sub_self] at q1 q2
        cases q1
        cases q2
        exact r1 _ _ e1
      · rw [List.getElem?_append_right (by omega)] at q1 q2
        obtain ⟨q', hq'⟩ : ∃ q', q - mid.length = q' + 1 := ⟨q - mid.length - 1, by omega⟩
        rw [hq'] at q1 q2
        simp only [List.getElem?_cons_succ] at q1 q2
        rw [q1] at q2
        cases q2
        exact gr hp3 (List.mem_of_getElem? q1)
end Mini
end Go.Proofs.YtbkpnhbcihcgaaaGreatDoor
end
section
set_option linter.all false
set_option maxRecDepth 1000000
open Go.RowKit
namespace Go.Proofs.YtbkpnhbcihcgaaaGreatDoor
open Mini
theorem awn3s : aw3S0.next = Tryz.prog.globals.size := by kernel_rfl
theorem ls_calls {W : World} (hh : Holds Tryz.prog aw3S0 W) (v0 v1 : Value) (x : Int) (hv : RowsAt W [.i64] v0) (hw : RowsAt W [.i64] v1) :
    Calls Tryz.prog 7 #[v0, v1, .int .i64 x] W fun e W' => e = .returned (.bool true) ∧ Below W.heap.size W W' := by
  refine calls_row2 (pre := []) (mid := []) (post := [.int .i64 x]) (G0 := fun g i j => .int .i64 (g i j)) (G1 := fun g i j => .int .i64 (g i j)) hh awn3s rfl rfl rfl (fun g i j hj => ?_) (fun g i j hj => ?_) (by decide) (by decide) hv hw (fun a0 a1 h0 h1 => ?_)
  · match j, hj with
    | 0, _ => rfl
  · match j, hj with
    | 0, _ => rfl
  · match a0, a1, h0, h1 with
    | .nil, .nil, _, _ => exact lsr_nil_nil x
    | .nil, .emp c2, _, _ => exact lsr_nil_emp c2 x
    | .nil, .row m c2 h, _, h1 => exact lsr_nil_row m c2 h x (Nat.pos_iff_ne_zero.1 h1.1)
    | .emp c, .nil, _, _ => exact lsr_emp_nil c x
    | .emp c, .emp c2, _, _ => exact lsr_emp_emp c c2 x
    | .emp c, .row m c2 h, _, h1 => exact lsr_emp_row c m c2 h x (Nat.pos_iff_ne_zero.1 h1.1)
    | .row n c g, .nil, h0, _ => exact lsr_row_nil n c g x (Nat.pos_iff_ne_zero.1 h0.1)
    | .row n c g, .emp c2, h0, _ => exact lsr_row_emp n c g c2 x (Nat.pos_iff_ne_zero.1 h0.1)
    | .row n c g, .row m c2 h, h0, h1 => exact lsr_row_row n c g m c2 h x (Nat.pos_iff_ne_zero.1 h0.1) (Nat.pos_iff_ne_zero.1 h1.1)
end Go.Proofs.YtbkpnhbcihcgaaaGreatDoor
end
section
namespace Go.Proofs.YtbkpnhbcihcgaaaGreatDoor
set_option linter.all false
open Go.ChangeShapes Go.WideShapes Go.ChangeAt Go.RowKit
section
open Go.Lib
theorem cells_of_strs {H : Type} {enc : TypeId × Value → H} {P : Program} {w : World} {base : Nat} {sp : Nat → Bool} {held : Bool} {fuel : Nat} {t e : TypeId} {n : Nat} {cs : List Value} {zs : List (List UInt8)} {p : List MemPlace}
    (ht : P.underlying t = some (.array n e)) (he : P.underlying e = some .string) (hce : P.cellsOf e = 1)
    (h : DataW.trod enc P w base sp held fuel t cs = some (.agg (zs.map fun z => .lit (.string z)), p)) (i : Nat) (z : List UInt8) (hz : zs[i]? = some z) : cs[i]? = some (.string ⟨z.toArray⟩) := by
  cases fuel with
  | zero => simp [DataW.trod] at h
  | succ fuel =>
    simp only [DataW.trod, ht, hce, Nat.mul_one] at h
    split at h
    · rename_i hl
      obtain ⟨xs, hm, hx⟩ := Option.map_eq_some_iff.1 h
      have hxs : xs.map (·.1) = zs.map fun z => (DataW.lit (.string z) : DataW H) := by
        have := congrArg Prod.fst hx
        simpa using this
      have hxl : xs.length = n := by simpa using mapM_length hm
      have hzl : zs.length = n := by
        have := congrArg List.length hxs
        simp at this
        omega
      have hi : i < n := by
        have := (List.getElem?_eq_some_iff.1 hz).1
        omega
      obtain ⟨b, hb, hf⟩ := mapM_at hm i i (by simp [hi])
      obtain ⟨s, hc, rfl, _⟩ := DataW.trod_string he hf
      have h1 : cs[i]? = some (.string s) := by
        have := congrArg (·[0]?) hc
        simpa [List.getElem?_take, List.getElem?_drop] using this
      have h2 : (xs.map (·.1))[i]? = some (DataW.lit (.string s.data.toList) : DataW H) := by simp [hb]
      rw [hxs] at h2
      simp only [List.getElem?_map, hz, Option.map_some, Option.some.injEq, DataW.lit.injEq, Lit.string.injEq] at h2
      subst h2
      exact h1
    · cases h
end
theorem strs_of_laid {P : Program} {W : World} {name : String} {zs : List (List UInt8)} {g : Nat} {t e : TypeId} {n : Nat}
    (hg : P.globalNamed name = some g) (hty : (P.globals[g]?).map (·.type) = some t) (ht : P.underlying t = some (.array n e)) (he : P.underlying e = some .string) (hce : P.cellsOf e = 1)
    (h : laidMet P [(name, .agg (zs.map fun z => .lit (.string z)))] W) (i : Nat) (z : List UInt8) (hz : zs[i]? = some z) : W.cell? ⟨g, i, none⟩ = some (.string ⟨z.toArray⟩) := by
  obtain ⟨ps, ⟨g', t', cs, fuel, p, q, hg', ht', hvar, hd, _, _⟩, _⟩ := h
  obtain rfl := Option.some.inj (hg.symm.trans hg')
  obtain rfl := Option.some.inj (hty.symm.trans ht')
  have r0 := World.var?_cell hg hvar i
  rw [r0]
  simpa using cells_of_strs ht he hce hd i z hz
end Go.Proofs.YtbkpnhbcihcgaaaGreatDoor
end
section
set_option linter.all false
namespace Go.Proofs.YtbkpnhbcihcgaaaGreatDoor.loopSteps
open Go.ChangeShapes Go.WideShapes Go.ChangeAt Go.RowKit Mini

theorem own : ownKnob Tryz.prog.godebug = none := by kernel_rfl
theorem gt0N : Tryz.prog.globalNamed "bipole/loop.quarters" = some 0 := by kernel_rfl
theorem gt0T : (Tryz.prog.globals[0]?).map (·.type) = some 150 := by kernel_rfl
def t0 : List (Int × Int) := [(1, 0), (0, 1), (-1, 0), (0, -1)]
theorem onet0 : (Rows.loopStepsRow.laid.filter fun x => x.1 == "bipole/loop.quarters") = [("bipole/loop.quarters", .agg (t0.map fun z => .agg [.lit (.int .i64 z.1), .lit (.int .i64 z.2)]))] := by kernel_rfl
theorem cellst0 {W : World} (h : laidMetH Tryz.prog Rows.loopStepsRow.laid W) (i : Nat) (z : Int × Int) (hz : t0[i]? = some z) : W.cell? ⟨0, i * 2, none⟩ = some (.int .i64 z.1) ∧ W.cell? ⟨0, i * 2 + 1, none⟩ = some (.int .i64 z.2) := by
  have h1 := laidMetH.filter (P := Tryz.prog) (fun x => x.1 == "bipole/loop.quarters") h
  rw [onet0] at h1
  exact pairs_of_laid gt0N gt0T Tryz.underlying150 Tryz.underlying24 rfl rfl rfl Tryz.underlying3 Tryz.underlying3 (by kernel_rfl) (by kernel_rfl) (by kernel_rfl) h1 i z hz
theorem s0t0 : aw3S0.get 0 = .cells ((t0.flatMap fun z => [z.1, z.2]).map fun n => Value.int .i64 n) 150 true 0 true := by kernel_rfl
theorem gt1N : Tryz.prog.globalNamed "bipole/loop.words" = some 1 := by kernel_rfl
theorem gt1T : (Tryz.prog.globals[1]?).map (·.type) = some 166 := by kernel_rfl
def t1 : List (List UInt8) := [[112, 108, 97, 110, 116, 110, 117, 109], [112, 108, 97, 110, 116, 100, 101, 110], [99, 111, 110, 116, 114, 111, 108, 108, 101, 114, 110, 117, 109], [99, 111, 110, 116, 114, 111, 108, 108, 101, 114, 100, 101, 110]]
theorem onet1 : (Rows.loopStepsRow.laid.filter fun x => x.1 == "bipole/loop.words") = [("bipole/loop.words", .agg (t1.map fun z => .lit (.string z)))] := by kernel_rfl
theorem cellst1 {W : World} (h : laidMetH Tryz.prog Rows.loopStepsRow.laid W) (i : Nat) (z : List UInt8) (hz : t1[i]? = some z) : W.cell? ⟨1, i, none⟩ = some (.string ⟨z.toArray⟩) := by
  have h1 := laidMetH.filter (P := Tryz.prog) (fun x => x.1 == "bipole/loop.words") h
  rw [onet1] at h1
  exact strs_of_laid gt1N gt1T Tryz.underlying166 Tryz.underlying9 (by kernel_rfl) h1 i z hz
theorem s0t1 : aw3S0.get 1 = .cells (t1.map fun z => Value.string ⟨z.toArray⟩) 166 true 0 true := by kernel_rfl
theorem gt2N : Tryz.prog.globalNamed "internal/strconv.uint64pow10" = some 2 := by kernel_rfl
theorem gt2T : (Tryz.prog.globals[2]?).map (·.type) = some 231 := by kernel_rfl
def t2 : List Int := (List.range 20).map fun i => ((10 ^ i : Nat) : Int)
theorem onet2 : (Rows.loopStepsRow.laid.filter fun x => x.1 == "internal/strconv.uint64pow10") = [("internal/strconv.uint64pow10", Lib.tabData .u64 t2)] := by kernel_rfl
theorem cellst2 {W : World} (h : laidMetH Tryz.prog Rows.loopStepsRow.laid W) (i : Nat) (hi : i < 20) : W.cell? ⟨2, i, none⟩ = some (.int .u64 (t2.getD i 0)) := by
  have h1 := laidMetH.filter (P := Tryz.prog) (fun x => x.1 == "internal/strconv.uint64pow10") h
  rw [onet2] at h1
  exact (Lib.tabIs_of_head (rest := []) gt2N gt2T Tryz.underlying231 Tryz.underlying213 (by kernel_rfl) (by kernel_rfl) h1).cell gt2N i (by simpa [t2] using hi)
theorem s0t2 : aw3S0.get 2 = .cells (t2.map fun n => Value.int .u64 n) 231 true 0 true := by kernel_rfl
theorem holds0 {W : World} (h : laidMetH Tryz.prog Rows.loopStepsRow.laid W) : Holds Tryz.prog aw3S0 W := by
  refine ⟨by kernel_rfl, fun b hb => ?_⟩
  rw [show Tryz.prog.globals.size = 6 by kernel_rfl] at hb
  match b, hb with
  | 0, _ =>
    refine .inr ⟨_, _, s0t0, by simp [t0], by kernel_rfl, fun i v hi => ?_⟩
    have p0 := cellst0 h 0 (1, 0) rfl
    have p1 := cellst0 h 1 (0, 1) rfl
    have p2 := cellst0 h 2 (-1, 0) rfl
    have p3 := cellst0 h 3 (0, -1) rfl
    match i, hi with
    | 0, hi => simp [t0] at hi; subst hi; exact p0.1
    | 1, hi => simp [t0] at hi; subst hi; exact p0.2
    | 2, hi => simp [t0] at hi; subst hi; exact p1.1
    | 3, hi => simp [t0] at hi; subst hi; exact p1.2
    | 4, hi => simp [t0] at hi; subst hi; exact p2.1
    | 5, hi => simp [t0] at hi; subst hi; exact p2.2
    | 6, hi => simp [t0] at hi; subst hi; exact p3.1
    | 7, hi => simp [t0] at hi; subst hi; exact p3.2
    | i + 8, hi => simp [t0] at hi
  | 1, _ =>
    refine .inr ⟨_, _, s0t1, by simp [t1], by kernel_rfl, fun i v hi => ?_⟩
    simp only [List.getElem?_map, Option.map_eq_some_iff] at hi
    obtain ⟨a, h1, rfl⟩ := hi
    exact cellst1 h i a h1
  | 2, _ =>
    refine .inr ⟨_, _, s0t2, by simp [t2], by kernel_rfl, fun i v hi => ?_⟩
    have hlt : i < 20 := by
      have := (List.getElem?_eq_some_iff.1 hi).1
      simpa [t2] using this
    rw [cellst2 h i hlt]
    simp only [List.getElem?_map, Option.map_eq_some_iff] at hi
    obtain ⟨a, h1, rfl⟩ := hi
    simp [List.getD, h1]
  | 3, _ => exact .inl (by kernel_rfl)
  | 4, _ => exact .inl (by kernel_rfl)
  | 5, _ => exact .inl (by kernel_rfl)
  | b + 6, hb => omega

set_option maxRecDepth 100000 in
theorem contract (H : Type) (enc : TypeId × Value → H) (W : World) (base : Nat) (args : Array Value) (ds gs : List (DataW H)) (before : List MemPlace)
    (hval : ∀ (j : Nat) t v, Tryz.f7.params[j]? = some t → args[j]? = some v → Value.okWide Tryz.prog W .any base t v)
    (hW : DataW.Whole enc Tryz.prog Tryz.f7.params.toList Rows.loopStepsSpec.vars false W args.toList ds gs before) (hL : laidMetH Tryz.prog Rows.loopStepsRow.laid W) :
    Calls Tryz.prog 7 args W fun e W' => ∃ v, e = .returned v ∧ Rows.loopStepsSpec.post enc Tryz.prog Tryz.f7 false true false false W args v W' := by
  have hW' := hW
  obtain ⟨p, q, hA0, hV, rfl, hfz, hnd⟩ := hW
  have hA : DataW.TrodAll enc Tryz.prog W 0 (fun _ => true) true Tryz.f7.params.toList args.toList ds p := hA0
  rw [Tryz.params7] at hA hval
  obtain ⟨v0, vs0, d0, ds0, p0, q0, hargs, rfl, rfl, h0, r0⟩ := trodAll_cons hA
  obtain ⟨v1, vs1, d1, ds1, p1, q1, rfl, rfl, rfl, h1, r1⟩ := trodAll_cons r0
  obtain ⟨v2, vs2, d2, ds2, p2, q2, rfl, rfl, rfl, h2, r2⟩ := trodAll_cons r1
  obtain ⟨rfl, rfl, rfl⟩ := trodAll_nil r2
  obtain rfl : args = #[v0, v1, v2] := by apply Array.ext'; simpa using hargs
  obtain ⟨rfl, rfl⟩ := trodVars_none hV
  have hk0 := h0
  have o0 := rows_of (P := Tryz.prog) (m := 6) (ks := [.i64]) Tryz.underlying22 (by kernel_rfl) (by kernel_rfl) (hval 0 22 v0 rfl rfl) h0
  have hk1 := h1
  have o1 := rows_of (P := Tryz.prog) (m := 6) (ks := [.i64]) Tryz.underlying22 (by kernel_rfl) (by kernel_rfl) (hval 1 22 v1 rfl rfl) h1
  obtain ⟨x2, rfl, rfl, f2, t2⟩ := open_num Tryz.underlying3 (hval 2 3 v2 rfl rfl) h2
  clear hA0
  simp only [List.append_nil] at hW'
  refine (ls_calls (holds0 hL) v0 v1 x2 o0 o1).mono fun e W' ⟨he, hb⟩ => ?_
  subst he
  exact ⟨_, rfl, post_below (pa := p0 ++ (p1 ++ ([] ++ []))) (pv := []) hW' (ok_one (by kernel_rfl) rfl (okWide_bool_mk Tryz.underlying4 _)) (fun _ _ _ => trodAll_cons_mk (shut_bool Tryz.underlying4 _) trodAll_mk0)
    (fun sp hsp => trodAll_cons_mk (WideElems.Trod_stays (P := Tryz.prog) (by kernel_rfl) (by kernel_rfl) (of_decide_eq_true (by kernel_rfl)) hk0 (fun x hx => hb.same (hW'.lt x (by simp [hx]))) (fun x hx => hsp x (by simp [hx]))) (trodAll_cons_mk (WideElems.Trod_stays (P := Tryz.prog) (by kernel_rfl) (by kernel_rfl) (of_decide_eq_true (by kernel_rfl)) hk1 (fun x hx => hb.same (hW'.lt x (by simp [hx]))) (fun x hx => hsp x (by simp [hx]))) (trodAll_cons_mk (t2 _ _ _ _) (trodAll_mk0))))
    (fun _ _ => rfl) (by simp) hb⟩

def setTab (b : Nat) (cs : Array Value) (h : Array Obj) : Array Obj := h.modify b fun
  | .cells _ t frozen => .cells cs t frozen
  | o => o
noncomputable def laidWorld (os : Os) : World :=
  { World.holding Tryz.prog os ⟨#[], #[], []⟩ with heap := setTab 5 #[.int .u8 (0), .int .u8 (1), .int .u8 (56), .int .u8 (2), .int .u8 (57), .int .u8 (49), .int .u8 (28), .int .u8 (3), .int .u8 (61), .int .u8 (58), .int .u8 (42), .int .u8 (50), .int .u8 (38), .int .u8 (29), .int .u8 (17), .int .u8 (4), .int .u8 (62), .int .u8 (47), .int .u8 (59), .int .u8 (36), .int .u8 (45), .int .u8 (43), .int .u8 (51), .int .u8 (22), .int .u8 (53), .int .u8 (39), .int .u8 (33), .int .u8 (30), .int .u8 (24), .int .u8 (18), .int .u8 (12), .int .u8 (5), .int .u8 (63), .int .u8 (55), .int .u8 (48), .int .u8 (27), .int .u8 (60), .int .u8 (41), .int .u8 (37), .int .u8 (16), .int .u8 (46), .int .u8 (35), .int .u8 (44), .int .u8 (21), .int .u8 (52), .int .u8 (32), .int .u8 (23), .int .u8 (11), .int .u8 (54), .int .u8 (26), .int .u8 (40), .int .u8 (15), .int .u8 (34), .int .u8 (20), .int .u8 (31), .int .u8 (10), .int .u8 (25), .int .u8 (14), .int .u8 (19), .int .u8 (9), .int .u8 (13), .int .u8 (8), .int .u8 (7), .int .u8 (6)] (setTab 4 #[.int .u8 (0), .int .u8 (1), .int .u8 (28), .int .u8 (2), .int .u8 (29), .int .u8 (14), .int .u8 (24), .int .u8 (3), .int .u8 (30), .int .u8 (22), .int .u8 (20), .int .u8 (15), .int .u8 (25), .int .u8 (17), .int .u8 (4), .int .u8 (8), .int .u8 (31), .int .u8 (27), .int .u8 (13), .int .u8 (23), .int .u8 (21), .int .u8 (19), .int .u8 (16), .int .u8 (7), .int .u8 (26), .int .u8 (12), .int .u8 (18), .int .u8 (6), .int .u8 (11), .int .u8 (5), .int .u8 (10), .int .u8 (9)] (setTab 2 #[.int .u64 (1), .int .u64 (10), .int .u64 (100), .int .u64 (1000), .int .u64 (10000), .int .u64 (100000), .int .u64 (1000000), .int .u64 (10000000), .int .u64 (100000000), .int .u64 (1000000000), .int .u64 (10000000000), .int .u64 (100000000000), .int .u64 (1000000000000), .int .u64 (10000000000000), .int .u64 (100000000000000), .int .u64 (1000000000000000), .int .u64 (10000000000000000), .int .u64 (100000000000000000), .int .u64 (1000000000000000000), .int .u64 (10000000000000000000)] (setTab 1 #[.string ⟨#[112, 108, 97, 110, 116, 110, 117, 109]⟩, .string ⟨#[112, 108, 97, 110, 116, 100, 101, 110]⟩, .string ⟨#[99, 111, 110, 116, 114, 111, 108, 108, 101, 114, 110, 117, 109]⟩, .string ⟨#[99, 111, 110, 116, 114, 111, 108, 108, 101, 114, 100, 101, 110]⟩] (setTab 0 #[.int .i64 (1), .int .i64 (0), .int .i64 (0), .int .i64 (1), .int .i64 (-1), .int .i64 (0), .int .i64 (0), .int .i64 (-1)] ((World.holding Tryz.prog os ⟨#[], #[], []⟩).heap))))) }
def wArgs : Array Value := #[.slice none 0 0, .slice none 0 0, .int .i64 0]
theorem laid_met (os : Os) : laidMet Tryz.prog Rows.loopStepsRow.laid ((laidWorld os).forCall (fun _ _ => 0) ⟨#[], wArgs, []⟩).memory :=
  laidMet_of_run' 8 (by kernel_rfl) (by kernel_rfl)
theorem reads (os : Os) {H : Type} (enc : TypeId × Value → H) : ∃ places, DataW.whole enc Tryz.prog ((laidWorld os).forCall (fun _ _ => 0) ⟨#[], wArgs, []⟩).memory Tryz.f7.params.toList Rows.loopStepsSpec.vars false wArgs.toList 8 = some ([.nil, .nil, .lit (.int .i64 0)], [], places) :=
  ⟨[], by kernel_rfl⟩
set_option maxRecDepth 100000 in
theorem lifted (os : Os) (started : os.Started) (H : Type) (enc : TypeId × Value → H) (F : Stop.Interp) :
    ReturnsInHanded {} Tryz.checked os 7 .any ((OpenSpec.ofChange Rows.loopStepsSpec).preRow enc Tryz.prog Tryz.f7 Rows.loopStepsRow.domain false Rows.loopStepsRow.laid) (((OpenSpec.ofChange Rows.loopStepsSpec).at F).post enc Tryz.prog Tryz.f7 false true false false) := by
  obtain ⟨places, hx⟩ := reads os enc
  refine returnsInHanded_of_row (C := Tryz.checked) (s := OpenSpec.ofChange Rows.loopStepsSpec) own started (by kernel_rfl) Tryz.func7
    (witness_row_at (enc := enc) (C := Tryz.checked) false (laidWorld os) wArgs rfl (by kernel_rfl) (by kernel_rfl) (by kernel_rfl)
      (OpenSpec.preRow_of_cond 8 hx (by kernel_rfl) (fun k hk => by cases hk) (by kernel_rfl) (laid_met os))) ?_
  intro W base args ds gs before hval hW _ _ _ hL _ _
  exact contract H enc W base args ds gs before hval hW hL
theorem said : Rows.LoopStepsSaid :=
  OpenClaim.holds_of_cond 7 Tryz.f7 rfl rfl rfl rfl rfl rfl rfl ⟨rfl, rfl, rfl, rfl, rfl⟩ rfl rfl rfl rfl rfl (by kernel_rfl) Tryz.func7 (by kernel_rfl)
    (of_decide_eq_true (by kernel_rfl)) (by unfold Func.isWrapper; first | (rw [if_pos (by decide +kernel)]; kernel_rfl) | (rw [if_neg (by decide +kernel)]; exact ⟨rfl, rfl⟩))
    (fun os started H enc _ F => by rw [OpenClaim.pre_eq_preRow]; exact lifted os started H enc F)
theorem plain (f : FuncId) (fn : Func) (hf : Tryz.pinned.checked.prog.funcNamed "bipole/bipolelaw03.LoopSteps" = some f) (hfn : Tryz.pinned.checked.prog.funcs[f]? = some fn) :
    false = Tryz.pinned.checked.prog.looks [] ∧ ∀ (j : Nat) t, fn.params[j]? = some t → Tryz.pinned.checked.prog.wantsStandIn t = false := by
  obtain rfl : f = 7 := Option.some.inj ((show Tryz.prog.funcNamed "bipole/bipolelaw03.LoopSteps" = some 7 by kernel_rfl).symm.trans hf) |>.symm
  obtain rfl : fn = Tryz.f7 := (Option.some.inj (Tryz.func7.symm.trans hfn)).symm
  refine ⟨by kernel_rfl, fun j t ht => ?_⟩
  rw [Tryz.params7] at ht
  have hm : t = 22 ∨ t = 22 ∨ t = 3 := by simpa using Array.mem_of_getElem? ht
  rcases hm with rfl | rfl | rfl
  · exact (show Tryz.prog.wantsStandIn 22 = false by kernel_rfl)
  · exact (show Tryz.prog.wantsStandIn 22 = false by kernel_rfl)
  · exact (show Tryz.prog.wantsStandIn 3 = false by kernel_rfl)
theorem card : Rows.LoopStepsCardSaid :=
  Claim7.holds_tied_plain_at .later [] _ _ _ _ said (fun _ h => by cases h) (by kernel_rfl) (fun _ h => by cases h) loopSteps_row_tie rfl ⟨rfl, rfl⟩ (by kernel_rfl) rfl plain (by kernel_rfl)
end Go.Proofs.YtbkpnhbcihcgaaaGreatDoor.loopSteps
end
