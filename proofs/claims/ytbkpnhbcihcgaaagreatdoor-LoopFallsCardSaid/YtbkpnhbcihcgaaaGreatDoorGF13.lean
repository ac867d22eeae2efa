/-
  LoopFalls: for all arguments the law returns true and leaves its arguments as they were, wherever the tables that its row lists are laid as the text lays them.
  Tables of strings on a row's list.
  The law LoopFalls in each real world.
  Slices of numbers (or of structs and arrays of numbers) as arguments: what the program reads of them; a law over a row in the small world holds in the real one.
  From a call in the small world to a real one whose arguments lie in memory.
  Tables of structures of two pairs on a row's list.
  The last step of a row whose call leaves a world of which only 'Below' is known; tables of pairs on a row's list.
  Arguments that are made of integers alone (numbers, arrays and structs of them, in any depth), opened: their cells are numbers, and their data is the same in each world.
  LoopFalls: true for all numbers, every ring.
  LoopFalls: what the law asks of the ring that is made.
  What LoopFalls wants of numbers: a ring that steps towards a phase, basins.
  LoopFalls: its ways.
  The whole.
-/
import Derived.Test.YtbkpnhbcihcgaaaGreatDoorGF5
import Derived.Test.YtbkpnhbcihcgaaaGreatDoorGF6
import Derived.Test.YtbkpnhbcihcgaaaGreatDoorGF7
import Derived.Test.YtbkpnhbcihcgaaaGreatDoorGF8
import Derived.Test.YtbkpnhbcihcgaaaGreatDoorGF9
import Derived.Test.YtbkpnhbcihcgaaaGreatDoorGF10
import Derived.Test.YtbkpnhbcihcgaaaGreatDoorGF11
import Derived.Test.YtbkpnhbcihcgaaaGreatDoorGF12
import Derived.Test.YtbkpnhbcihcgaaaGreatDoorGF4
import Derived.Test.YtbkpnhbcihcgaaaGreatDoorGF2
import Derived.OpenShut
import Derived.RowKit
import Derived.WideShapes
import Derived.Below
import Derived.ChangeSame
import Derived.ProofKit
import Derived.JoinedCond
import Derived.JoinedOf
import Derived.JoinedAt
import Derived.RowKit3
import Derived.Lib.LaidTab
import Derived.LaidSub
import Derived.Deep.Slices
import Derived.WideKeyArgs
import Derived.Test.YtbkpnhbcihcgaaaGreatDoorCards
import Derived.Test.YtbkpnhbcihcgaaaGreatDoorTie
import Derived.WalkKit
import Derived.Deep.DeepHandedRow
section
set_option linter.all false
set_option maxRecDepth 1000000
open Go.RowKit
namespace Go.Proofs.YtbkpnhbcihcgaaaGreatDoor
open Mini
theorem aw3X0 : FOk Tryz.prog (joinX 142) := joinX_ok fun bk o c xs sep w h1 h2 h3 h4 h5 => Tryz.strings_Join bk o c xs sep w h1 h2 h3 h4 h5
theorem aw3X : FOk Tryz.prog (joinX 142) := aw3X0
theorem aw3m : Tryz.prog.follows .mixedOrders = true := by kernel_rfl
theorem aw3g24 : SndC Tryz.prog none (dropS 24 aw3B) aw3A24.act aw3S24 .ret aw3A25.act aw3S25 aw3R24 aw3W24 := chain_last aw3m aw3X aw3c24
theorem aw3g23 : SndC Tryz.prog none (dropS 23 aw3B) aw3A23.act aw3S23 .ret aw3A25.act aw3S25 aw3RR23 aw3WW23 := by
  have h := chain_step aw3m aw3X (by kernel_rfl) aw3c23 aw3g24
  rwa [show aw3R23 ||| aw3R24 = aw3RR23 from by decide +kernel, show aw3W23 ||| aw3W24 = aw3WW23 from by decide +kernel] at h
theorem aw3g22 : SndC Tryz.prog none (dropS 22 aw3B) aw3A22.act aw3S22 .ret aw3A25.act aw3S25 aw3RR22 aw3WW22 := by
  have h := chain_step aw3m aw3X (by kernel_rfl) aw3c22 aw3g23
  rwa [show aw3R22 ||| aw3RR23 = aw3RR22 from by decide +kernel, show aw3W22 ||| aw3WW23 = aw3WW22 from by decide +kernel] at h
theorem aw3g21 : SndC Tryz.prog none (dropS 21 aw3B) aw3A21.act aw3S21 .ret aw3A25.act aw3S25 aw3RR21 aw3WW21 := by
  have h := chain_step aw3m aw3X (by kernel_rfl) aw3c21 aw3g22
  rwa [show aw3R21 ||| aw3RR22 = aw3RR21 from by decide +kernel, show aw3W21 ||| aw3WW22 = aw3WW21 from by decide +kernel] at h
theorem aw3g20 : SndC Tryz.prog none (dropS 20 aw3B) aw3A20.act aw3S20 .ret aw3A25.act aw3S25 aw3RR20 aw3WW20 := by
  have h := chain_step aw3m aw3X (by kernel_rfl) aw3c20 aw3g21
  rwa [show aw3R20 ||| aw3RR21 = aw3RR20 from by decide +kernel, show aw3W20 ||| aw3WW21 = aw3WW20 from by decide +kernel] at h
theorem aw3g19 : SndC Tryz.prog none (dropS 19 aw3B) aw3A19.act aw3S19 .ret aw3A25.act aw3S25 aw3RR19 aw3WW19 := by
  have h := chain_step aw3m aw3X (by kernel_rfl) aw3c19 aw3g20
  rwa [show aw3R19 ||| aw3RR20 = aw3RR19 from by decide +kernel, show aw3W19 ||| aw3WW20 = aw3WW19 from by decide +kernel] at h
theorem aw3g18 : SndC Tryz.prog none (dropS 18 aw3B) aw3A18.act aw3S18 .ret aw3A25.act aw3S25 aw3RR18 aw3WW18 := by
  have h := chain_step aw3m aw3X (by kernel_rfl) aw3c18 aw3g19
  rwa [show aw3R18 ||| aw3RR19 = aw3RR18 from by decide +kernel, show aw3W18 ||| aw3WW19 = aw3WW18 from by decide +kernel] at h
theorem aw3g17 : SndC Tryz.prog none (dropS 17 aw3B) aw3A17.act aw3S17 .ret aw3A25.act aw3S25 aw3RR17 aw3WW17 := by
  have h := chain_step aw3m aw3X (by kernel_rfl) aw3c17 aw3g18
  rwa [show aw3R17 ||| aw3RR18 = aw3RR17 from by decide +kernel, show aw3W17 ||| aw3WW18 = aw3WW17 from by decide +kernel] at h
theorem aw3g16 : SndC Tryz.prog none (dropS 16 aw3B) aw3A16.act aw3S16 .ret aw3A25.act aw3S25 aw3RR16 aw3WW16 := by
  have h := chain_step aw3m aw3X (by kernel_rfl) aw3c16 aw3g17
  rwa [show aw3R16 ||| aw3RR17 = aw3RR16 from by decide +kernel, show aw3W16 ||| aw3WW17 = aw3WW16 from by decide +kernel] at h
theorem aw3g15 : SndC Tryz.prog none (dropS 15 aw3B) aw3A15.act aw3S15 .ret aw3A25.act aw3S25 aw3RR15 aw3WW15 := by
  have h := chain_step aw3m aw3X (by kernel_rfl) aw3c15 aw3g16
  rwa [show aw3R15 ||| aw3RR16 = aw3RR15 from by decide +kernel, show aw3W15 ||| aw3WW16 = aw3WW15 from by decide +kernel] at h
theorem aw3g14 : SndC Tryz.prog none (dropS 14 aw3B) aw3A14.act aw3S14 .ret aw3A25.act aw3S25 aw3RR14 aw3WW14 := by
  have h := chain_step aw3m aw3X (by kernel_rfl) aw3c14 aw3g15
  rwa [show aw3R14 ||| aw3RR15 = aw3RR14 from by decide +kernel, show aw3W14 ||| aw3WW15 = aw3WW14 from by decide +kernel] at h
theorem aw3g13 : SndC Tryz.prog none (dropS 13 aw3B) aw3A13.act aw3S13 .ret aw3A25.act aw3S25 aw3RR13 aw3WW13 := by
  have h := chain_step aw3m aw3X (by kernel_rfl) aw3c13 aw3g14
  rwa [show aw3R13 ||| aw3RR14 = aw3RR13 from by decide +kernel, show aw3W13 ||| aw3WW14 = aw3WW13 from by decide +kernel] at h
theorem aw3g12 : SndC Tryz.prog none (dropS 12 aw3B) aw3A12.act aw3S12 .ret aw3A25.act aw3S25 aw3RR12 aw3WW12 := by
  have h := chain_step aw3m aw3X (by kernel_rfl) aw3c12 aw3g13
  rwa [show aw3R12 ||| aw3RR13 = aw3RR12 from by decide +kernel, show aw3W12 ||| aw3WW13 = aw3WW12 from by decide +kernel] at h
theorem aw3g11 : SndC Tryz.prog none (dropS 11 aw3B) aw3A11.act aw3S11 .ret aw3A25.act aw3S25 aw3RR11 aw3WW11 := by
  have h := chain_step aw3m aw3X (by kernel_rfl) aw3c11 aw3g12
  rwa [show aw3R11 ||| aw3RR12 = aw3RR11 from by decide +kernel, show aw3W11 ||| aw3WW12 = aw3WW11 from by decide +kernel] at h
theorem aw3g10 : SndC Tryz.prog none (dropS 10 aw3B) aw3A10.act aw3S10 .ret aw3A25.act aw3S25 aw3RR10 aw3WW10 := by
  have h := chain_step aw3m aw3X (by kernel_rfl) aw3c10 aw3g11
  rwa [show aw3R10 ||| aw3RR11 = aw3RR10 from by decide +kernel, show aw3W10 ||| aw3WW11 = aw3WW10 from by decide +kernel] at h
theorem aw3g9 : SndC Tryz.prog none (dropS 9 aw3B) aw3A9.act aw3S9 .ret aw3A25.act aw3S25 aw3RR9 aw3WW9 := by
  have h := chain_step aw3m aw3X (by kernel_rfl) aw3c9 aw3g10
  rwa [show aw3R9 ||| aw3RR10 = aw3RR9 from by decide +kernel, show aw3W9 ||| aw3WW10 = aw3WW9 from by decide +kernel] at h
theorem aw3g8 : SndC Tryz.prog none (dropS 8 aw3B) aw3A8.act aw3S8 .ret aw3A25.act aw3S25 aw3RR8 aw3WW8 := by
  have h := chain_step aw3m aw3X (by kernel_rfl) aw3c8 aw3g9
  rwa [show aw3R8 ||| aw3RR9 = aw3RR8 from by decide +kernel, show aw3W8 ||| aw3WW9 = aw3WW8 from by decide +kernel] at h
theorem aw3g7 : SndC Tryz.prog none (dropS 7 aw3B) aw3A7.act aw3S7 .ret aw3A25.act aw3S25 aw3RR7 aw3WW7 := by
  have h := chain_step aw3m aw3X (by kernel_rfl) aw3c7 aw3g8
  rwa [show aw3R7 ||| aw3RR8 = aw3RR7 from by decide +kernel, show aw3W7 ||| aw3WW8 = aw3WW7 from by decide +kernel] at h
theorem aw3g6 : SndC Tryz.prog none (dropS 6 aw3B) aw3A6.act aw3S6 .ret aw3A25.act aw3S25 aw3RR6 aw3WW6 := by
  have h := chain_step aw3m aw3X (by kernel_rfl) aw3c6 aw3g7
  rwa [show aw3R6 ||| aw3RR7 = aw3RR6 from by decide +kernel, show aw3W6 ||| aw3WW7 = aw3WW6 from by decide +kernel] at h
theorem aw3g5 : SndC Tryz.prog none (dropS 5 aw3B) aw3A5.act aw3S5 .ret aw3A25.act aw3S25 aw3RR5 aw3WW5 := by
  have h := chain_step aw3m aw3X (by kernel_rfl) aw3c5 aw3g6
  rwa [show aw3R5 ||| aw3RR6 = aw3RR5 from by decide +kernel, show aw3W5 ||| aw3WW6 = aw3WW5 from by decide +kernel] at h
theorem aw3g4 : SndC Tryz.prog none (dropS 4 aw3B) aw3A4.act aw3S4 .ret aw3A25.act aw3S25 aw3RR4 aw3WW4 := by
  have h := chain_step aw3m aw3X (by kernel_rfl) aw3c4 aw3g5
  rwa [show aw3R4 ||| aw3RR5 = aw3RR4 from by decide +kernel, show aw3W4 ||| aw3WW5 = aw3WW4 from by decide +kernel] at h
theorem aw3g3 : SndC Tryz.prog none (dropS 3 aw3B) aw3A3.act aw3S3 .ret aw3A25.act aw3S25 aw3RR3 aw3WW3 := by
  have h := chain_step aw3m aw3X (by kernel_rfl) aw3c3 aw3g4
  rwa [show aw3R3 ||| aw3RR4 = aw3RR3 from by decide +kernel, show aw3W3 ||| aw3WW4 = aw3WW3 from by decide +kernel] at h
theorem aw3g2 : SndC Tryz.prog none (dropS 2 aw3B) aw3A2.act aw3S2 .ret aw3A25.act aw3S25 aw3RR2 aw3WW2 := by
  have h := chain_step aw3m aw3X (by kernel_rfl) aw3c2 aw3g3
  rwa [show aw3R2 ||| aw3RR3 = aw3RR2 from by decide +kernel, show aw3W2 ||| aw3WW3 = aw3WW2 from by decide +kernel] at h
theorem aw3g1 : SndC Tryz.prog none (dropS 1 aw3B) aw3A1.act aw3S1 .ret aw3A25.act aw3S25 aw3RR1 aw3WW1 := by
  have h := chain_step aw3m aw3X (by kernel_rfl) aw3c1 aw3g2
  rwa [show aw3R1 ||| aw3RR2 = aw3RR1 from by decide +kernel, show aw3W1 ||| aw3WW2 = aw3WW1 from by decide +kernel] at h
theorem aw3g0 : SndC Tryz.prog none (dropS 0 aw3B) aw3A0.act aw3S0 .ret aw3A25.act aw3S25 aw3RR0 aw3WW0 := by
  have h := chain_step aw3m aw3X (by kernel_rfl) aw3c0 aw3g1
  rwa [show aw3R0 ||| aw3RR1 = aw3RR0 from by decide +kernel, show aw3W0 ||| aw3WW1 = aw3WW0 from by decide +kernel] at h
theorem aw3f : SndF Tryz.prog 12 #[] aw3S0 (.bool true) aw3S25 (aw3RR0 ||| 0) aw3WW0 :=
  sndF_of (vs := [.bool true]) Tryz.func12 (show _ = some aw3B by kernel_rfl) (.inr rfl) (by kernel_rfl) (show SndC Tryz.prog none aw3B (startA Tryz.f12 #[]) aw3S0 .ret aw3A25.act aw3S25 aw3RR0 aw3WW0 from ((startM_act _ _).symm.trans (congrArg MA.act (show startM Tryz.f12 #[] = aw3A0 by kernel_rfl))) ▸ aw3g0) (by kernel_rfl)
theorem aw3_calls (w : World) (h : Holds Tryz.prog aw3S0 w) : Calls Tryz.prog 12 #[] w fun e w' => e = .returned (.bool true) ∧ Below w.heap.size w w' :=
  calls_of aw3f (by kernel_rfl) (by kernel_rfl) (fun b hb => by
    have hb : b < Tryz.prog.globals.size := hb
    rw [show Tryz.prog.globals.size = 6 by kernel_rfl] at hb
    revert b; decide +kernel) h
end Go.Proofs.YtbkpnhbcihcgaaaGreatDoor
end
section
set_option linter.all false
set_option maxRecDepth 1000000
open Go.RowKit
namespace Go.Proofs.YtbkpnhbcihcgaaaGreatDoor
open Mini
noncomputable def fwK : CallS := bothX kMade (bothX kRCr (bothX kBa (bothX kLk (bothX kCb (bothX kHi (tabT aw3S0 12))))))
noncomputable def fw0 (x0 : Int) (x1 : Int) (x2 : Int) (k : Nat) (q : Nat) (m : Nat) (mm : Nat) : Option OutS := evFS Tryz.prog fwK 1000 11 #[.agg #[.int .u8 x0, .int .u8 x1, .int .u8 x2], .slice none 0 0] aw3S0 ⟨[0, .azz (.int .i64 (IntKind.i64.wrap x0)), .azz (.int .i64 (Int.tmod (IntKind.i64.wrap x0) (24 : Int))), .azz (.int .i64 ((k : Nat) : Int)), 1, .azz (.int .i64 (IntKind.i64.wrap x1)), .azz (.int .i64 ((q : Nat) : Int)), 2, .azz (.int .i64 (IntKind.i64.wrap x2)), .azz (.int .i64 (Int.tmod (IntKind.i64.wrap x2) (64 : Int))), .azz (.int .i64 ((m : Nat) : Int)), 1, 1, 1, 1, 1, 0, 1, 1, 1, 0, 0, .row 0 0, 1, 1, 1, 1, 1, 0, 0, .lp 28334198897217871287782 (fnA x0 x1 x2 k q m) 0 (lsT ++ fnL x0 x1 x2 k q m) (.exit 0) (fnr3E x0 x1 x2 k q m mm (mm + 1) (faRR k q m mm)) (lsT ++ (fnL x0 x1 x2 k q m ++ [.rows (mm + 1) 1 (fun i j => .int .i64 ((faRR k q m mm) i j)) 3 true 1 false])) 1984 0, .row 0 0, 0, 0, 0, 0, 1, 0, 0, 0, 1, 1], True⟩
noncomputable def fw1 (c : Nat) (x0 : Int) (x1 : Int) (x2 : Int) (k : Nat) (q : Nat) (m : Nat) (mm : Nat) : Option OutS := evFS Tryz.prog fwK 1000 11 #[.agg #[.int .u8 x0, .int .u8 x1, .int .u8 x2], .slice (some ⟨6, 0, none⟩) 0 c] (aw3S0.push (.hole)) ⟨[0, .azz (.int .i64 (IntKind.i64.wrap x0)), .azz (.int .i64 (Int.tmod (IntKind.i64.wrap x0) (24 : Int))), .azz (.int .i64 ((k : Nat) : Int)), 1, .azz (.int .i64 (IntKind.i64.wrap x1)), .azz (.int .i64 ((q : Nat) : Int)), 2, .azz (.int .i64 (IntKind.i64.wrap x2)), .azz (.int .i64 (Int.tmod (IntKind.i64.wrap x2) (64 : Int))), .azz (.int .i64 ((m : Nat) : Int)), 1, 1, 1, 1, 1, 0, 1, 1, 1, 0, 0, .row 0 0, 1, 1, 1, 1, 1, 0, 0, .lp 28334198897217871287782 (feA c x0 x1 x2 k q m) 0 (lsT ++ feL c x0 x1 x2 k q m) (.exit 0) (fer3E c x0 x1 x2 k q m mm (mm + 1) (faRR k q m mm)) (lsT ++ (feL c x0 x1 x2 k q m ++ [.rows (mm + 1) 1 (fun i j => .int .i64 ((faRR k q m mm) i j)) 3 true 1 false])) 4032 0, .row 0 0, 0, 0, 0, 0, 1, 0, 0, 0, 1, 1], True⟩
noncomputable def fw2 (n : Nat) (c : Nat) (g : Nat → Nat → Int) (x0 : Int) (x1 : Int) (x2 : Int) (k : Nat) (q : Nat) (m : Nat) (mm : Nat) : Option OutS := evFS Tryz.prog fwK 1000 11 #[.agg #[.int .u8 x0, .int .u8 x1, .int .u8 x2], .slice (some ⟨6, 0, none⟩) n c] (aw3S0.push (.rows n 1 (fun i j => .int .i64 (g i j)) 0 true 0 true)) ⟨[0, .azz (.int .i64 (IntKind.i64.wrap x0)), .azz (.int .i64 (Int.tmod (IntKind.i64.wrap x0) (24 : Int))), .azz (.int .i64 ((k : Nat) : Int)), 1, .azz (.int .i64 (IntKind.i64.wrap x1)), .azz (.int .i64 ((q : Nat) : Int)), 2, .azz (.int .i64 (IntKind.i64.wrap x2)), .azz (.int .i64 (Int.tmod (IntKind.i64.wrap x2) (64 : Int))), .azz (.int .i64 ((m : Nat) : Int)), 1, 1, 1, 1, 1, 0, 1, 1, 1, 0, 0, .row 0 0, 1, 1, 1, 1, 1, 0, 0, .lp 28334198897217871287782 (frA n c g x0 x1 x2 k q m) 0 (lsT ++ frL n c g x0 x1 x2 k q m) (.exit 0) (frr3E n c g x0 x1 x2 k q m mm (mm + 1) (faRR k q m mm)) (lsT ++ (frL n c g x0 x1 x2 k q m ++ [.rows (mm + 1) 1 (fun i j => .int .i64 ((faRR k q m mm) i j)) 3 true 1 false])) 4032 0, .row 0 0, 0, 1, 1, 1, 0, 0, 0, 0, 1, 1], True⟩
noncomputable def fw3 (n : Nat) (c : Nat) (g : Nat → Nat → Int) (x0 : Int) (x1 : Int) (x2 : Int) (k : Nat) (q : Nat) (m : Nat) (mm : Nat) (p : Nat) : Option OutS := evFS Tryz.prog fwK 1000 11 #[.agg #[.int .u8 x0, .int .u8 x1, .int .u8 x2], .slice (some ⟨6, 0, none⟩) n c] (aw3S0.push (.rows n 1 (fun i j => .int .i64 (g i j)) 0 true 0 true)) ⟨[0, .azz (.int .i64 (IntKind.i64.wrap x0)), .azz (.int .i64 (Int.tmod (IntKind.i64.wrap x0) (24 : Int))), .azz (.int .i64 ((k : Nat) : Int)), 1, .azz (.int .i64 (IntKind.i64.wrap x1)), .azz (.int .i64 ((q : Nat) : Int)), 2, .azz (.int .i64 (IntKind.i64.wrap x2)), .azz (.int .i64 (Int.tmod (IntKind.i64.wrap x2) (64 : Int))), .azz (.int .i64 ((m : Nat) : Int)), 1, 1, 1, 1, 1, 0, 1, 1, 1, 0, 0, .row 0 0, 1, 1, 1, 1, 1, 0, 0, .lp 28334198897217871287782 (frA n c g x0 x1 x2 k q m) 0 (lsT ++ frL n c g x0 x1 x2 k q m) (.exit 0) (frr3E n c g x0 x1 x2 k q m mm (mm + 1) (faRR k q m mm)) (lsT ++ (frL n c g x0 x1 x2 k q m ++ [.rows (mm + 1) 1 (fun i j => .int .i64 ((faRR k q m mm) i j)) 3 true 1 false])) 4032 0, .row 0 0, 0, 1, 1, 1, 0, 1, 1, 1, 0, 0, 1, .azz (.int .i64 (IntKind.i64.wrap x1)), .azz (.int .i64 ((n : Nat) : Int)), .azz (.int .i64 ((p : Nat) : Int)), .row 0 0, 1, 1, 1, 1, 1, 1, 0, 0, .lp 2619010934096978029421003220227579171223431117799424 (fsA n c g x0 x1 x2 k q m mm p 0) 0 (lsT ++ fsL n c g x0 x1 x2 k q m mm p 0) (.exit 2) (fsr2E n c g x0 x1 x2 k q m mm p n) (lsT ++ fsL n c g x0 x1 x2 k q m mm p 0) 262080 0, 1, 1], True⟩
noncomputable def fw4 (n : Nat) (c : Nat) (g : Nat → Nat → Int) (x0 : Int) (x1 : Int) (x2 : Int) (k : Nat) (q : Nat) (m : Nat) (mm : Nat) : Option OutS := evFS Tryz.prog fwK 1000 11 #[.agg #[.int .u8 x0, .int .u8 x1, .int .u8 x2], .slice (some ⟨6, 0, none⟩) n c] (aw3S0.push (.rows n 1 (fun i j => .int .i64 (g i j)) 0 true 0 true)) ⟨[0, .azz (.int .i64 (IntKind.i64.wrap x0)), .azz (.int .i64 (Int.tmod (IntKind.i64.wrap x0) (24 : Int))), .azz (.int .i64 ((k : Nat) : Int)), 1, .azz (.int .i64 (IntKind.i64.wrap x1)), .azz (.int .i64 ((q : Nat) : Int)), 2, .azz (.int .i64 (IntKind.i64.wrap x2)), .azz (.int .i64 (Int.tmod (IntKind.i64.wrap x2) (64 : Int))), .azz (.int .i64 ((m : Nat) : Int)), 1, 1, 1, 1, 1, 0, 1, 1, 1, 0, 0, .row 0 0, 1, 1, 1, 1, 1, 0, 0, .lp 28334198897217871287782 (frA n c g x0 x1 x2 k q m) 0 (lsT ++ frL n c g x0 x1 x2 k q m) (.exit 0) (frr3E n c g x0 x1 x2 k q m mm (mm + 1) (faRR k q m mm)) (lsT ++ (frL n c g x0 x1 x2 k q m ++ [.rows (mm + 1) 1 (fun i j => .int .i64 ((faRR k q m mm) i j)) 3 true 1 false])) 4032 0, .row 0 0, 0, 1, 1, 1, 0, 1, 1, 1, 0, 1], True⟩
abbrev fwo0  : Prop := ((0 : Int) = (Int.ofNat 0))
abbrev fwo1 (x0 : Int) : Prop := (((.int .i64 (IntKind.i64.wrap x0)) : Value) = (.int .i64 (IntKind.i64.wrap x0)))
abbrev fwo2  : Prop := (((24 : Int) == (0 : Int)) = false)
abbrev fwo3 (x0 : Int) : Prop := (((.int .i64 (Int.tmod (IntKind.i64.wrap x0) (24 : Int))) : Value) = (.int .i64 (Int.tmod (IntKind.i64.wrap x0) (24 : Int))))
abbrev fwo4 (x0 : Int) (k : Nat) : Prop := (((.int .i64 (IntKind.i64.wrap ((1 : Int) + (Int.tmod (IntKind.i64.wrap x0) (24 : Int))))) : Value) = (.int .i64 (((k : Nat)) : Int)))
abbrev fwo5  : Prop := ((1 : Int) = (Int.ofNat 1))
abbrev fwo6 (x1 : Int) : Prop := (((.int .i64 (IntKind.i64.wrap x1)) : Value) = (.int .i64 (IntKind.i64.wrap x1)))
abbrev fwo7 (k : Nat) : Prop := (((((k : Nat)) : Int) == (0 : Int)) = false)
abbrev fwo8 (x1 : Int) (k : Nat) (q : Nat) : Prop := (((.int .i64 (Int.tmod (IntKind.i64.wrap x1) (((k : Nat)) : Int))) : Value) = (.int .i64 (((q : Nat)) : Int)))
abbrev fwo9  : Prop := ((2 : Int) = (Int.ofNat 2))
abbrev fwo10 (x2 : Int) : Prop := (((.int .i64 (IntKind.i64.wrap x2)) : Value) = (.int .i64 (IntKind.i64.wrap x2)))
abbrev fwo11  : Prop := (((64 : Int) == (0 : Int)) = false)
abbrev fwo12 (x2 : Int) : Prop := (((.int .i64 (Int.tmod (IntKind.i64.wrap x2) (64 : Int))) : Value) = (.int .i64 (Int.tmod (IntKind.i64.wrap x2) (64 : Int))))
abbrev fwo13 (m : Nat) (x2 : Int) : Prop := (((.int .i64 (IntKind.i64.wrap ((1 : Int) + (Int.tmod (IntKind.i64.wrap x2) (64 : Int))))) : Value) = (.int .i64 (((m : Nat)) : Int)))
abbrev fwo14 (m : Nat) (k : Nat) (q : Nat) : Prop := ((maErr (((k : Nat)) : Int) (((q : Nat)) : Int) (((m : Nat)) : Int)) = (Int.ofNat 0))
abbrev fwo15  : Prop := (((0 : Int) != (0 : Int)) = false)
abbrev fwo16 (k : Nat) : Prop := (((((k : Nat)) : Int) != (((k : Nat)) : Int)) = false)
abbrev fwo17 (m : Nat) (k : Nat) (q : Nat) : Prop := (((k = k) ∧ (∀ (i : Nat), ((i < (Int.toNat (((k : Nat)) : Int))) → (∀ (j : Nat), ((j < (1 : Nat)) → ((Value.int .i64 (maV (Int.toNat (((k : Nat)) : Int)) (((q : Nat)) : Int) (((m : Nat)) : Int) i)) = (Value.int .i64 (gI (Value.int .i64 (maV (Int.toNat (((k : Nat)) : Int)) (((q : Nat)) : Int) (((m : Nat)) : Int) i)))))))))) ∧ ((((k : Nat)) : Int) ≤ (9223372036854775807 : Int)))
abbrev fwo18 (m : Nat) (k : Nat) (q : Nat) : Prop := (((crV (Int.toNat (((k : Nat)) : Int)) (fun (i : Nat) => (fun (j : Nat) => (gI (Value.int .i64 (maV (Int.toNat (((k : Nat)) : Int)) (((q : Nat)) : Int) (((m : Nat)) : Int) i)))))) != (0 : Int)) = false)
abbrev fwo19 (k : Nat) : Prop := ((k = k) ∧ (((Int.toNat (((k : Nat)) : Int)) ≠ (0 : Nat)) ∧ ((k * 8) ≤ (140737488355328 : Nat))))
abbrev fwo20 (m : Nat) (k : Nat) (q : Nat) : Prop := (((k = k) ∧ (∀ (i : Nat), ((i < (Int.toNat (((k : Nat)) : Int))) → (∀ (j : Nat), ((j < (1 : Nat)) → ((Value.int .i64 (maV (Int.toNat (((k : Nat)) : Int)) (((q : Nat)) : Int) (((m : Nat)) : Int) i)) = (Value.int .i64 (gI (Value.int .i64 (maV (Int.toNat (((k : Nat)) : Int)) (((q : Nat)) : Int) (((m : Nat)) : Int) i)))))))))) ∧ (((Int.toNat (((k : Nat)) : Int)) ≤ (1048576 : Nat)) ∧ (((crV (Int.toNat (((k : Nat)) : Int)) (fun (i : Nat) => (fun (j : Nat) => (gI (Value.int .i64 (maV (Int.toNat (((k : Nat)) : Int)) (((q : Nat)) : Int) (((m : Nat)) : Int) i)))))) = (Int.ofNat 0)) ∧ ((ixE (((q : Nat)) : Int) (((k : Nat)) : Int)) = (Int.ofNat 0)))))
abbrev fwo21 (m : Nat) (k : Nat) (q : Nat) : Prop := ((((((basN (Int.toNat (((k : Nat)) : Int)) (fun (i : Nat) => (fun (j : Nat) => (gI (Value.int .i64 (maV (Int.toNat (((k : Nat)) : Int)) (((q : Nat)) : Int) (((m : Nat)) : Int) i))))) (((q : Nat)) : Int)) : Nat)) : Int) != (((k : Nat)) : Int)) = false)
abbrev fwo22 (m : Nat) (x0 : Int) (x1 : Int) (k : Nat) (q : Nat) (mm : Nat) (x2 : Int) : Prop := ((((fnA x0 x1 x2 k q m) = (fnA x0 x1 x2 k q m)) ∧ ((11 = (0 + 11)) ∧ ((HAppend.hAppend (List.replicate (0 : Nat) MObj.hole) (HAppend.hAppend lsT (fnL x0 x1 x2 k q m))) = (HAppend.hAppend (List.replicate (0 : Nat) MObj.hole) (HAppend.hAppend lsT (fnL x0 x1 x2 k q m)))))) ∧ SndC Tryz.prog none (.loop fnX) (fnA x0 x1 x2 k q m).act (wS 0 (lsT ++ fnL x0 x1 x2 k q m)) (.exit 0) (fnr3E x0 x1 x2 k q m mm (mm + 1) (faRR k q m mm)).act (wS 0 (lsT ++ (fnL x0 x1 x2 k q m ++ [.rows (mm + 1) 1 (fun i j => .int .i64 ((faRR k q m mm) i j)) 3 true 1 false]))) 1984 0)
abbrev fwo23 (k : Nat) : Prop := ((k = k) ∧ ((k ≠ (0 : Nat)) ∧ ((k * 8) ≤ (140737488355328 : Nat))))
abbrev fwo24 (m : Nat) (k : Nat) (q : Nat) (mm : Nat) : Prop := (((k = k) ∧ (∀ (i : Nat), ((i < k) → (∀ (j : Nat), ((j < (1 : Nat)) → ((Value.int .i64 (maV k (((q : Nat)) : Int) (((m : Nat)) : Int) i)) = (Value.int .i64 (gI (Value.int .i64 (maV k (((q : Nat)) : Int) (((m : Nat)) : Int) i)))))))))) ∧ ((((mm + 1) = (mm + 1)) ∧ (∀ (i : Nat), ((i < (mm + 1)) → (∀ (j : Nat), ((j < (1 : Nat)) → ((Value.int .i64 (faRR k q m mm i j)) = (Value.int .i64 (gI (Value.int .i64 (faRR k q m mm i j)))))))))) ∧ (k ≤ (1048576 : Nat))))
abbrev fwo25 (m : Nat) (k : Nat) (q : Nat) (mm : Nat) : Prop := (((cbV k (fun (i : Nat) => (fun (j : Nat) => (gI (Value.int .i64 (maV k (((q : Nat)) : Int) (((m : Nat)) : Int) i))))) (mm + 1) (fun (i : Nat) => (fun (j : Nat) => (gI (Value.int .i64 (faRR k q m mm i j))))) (((q : Nat)) : Int)) != (0 : Int)) = false)
abbrev fwo26  : Prop := (((((0 : Nat)) : Int) == (0 : Int)) = true)
abbrev fwo27  : Prop := (true = true)
abbrev fwo28 (m : Nat) (c : Nat) (x0 : Int) (x1 : Int) (k : Nat) (q : Nat) (mm : Nat) (x2 : Int) : Prop := ((((feA c x0 x1 x2 k q m) = (feA c x0 x1 x2 k q m)) ∧ ((12 = (0 + 12)) ∧ ((HAppend.hAppend (List.replicate (0 : Nat) MObj.hole) (HAppend.hAppend lsT (feL c x0 x1 x2 k q m))) = (HAppend.hAppend (List.replicate (0 : Nat) MObj.hole) (HAppend.hAppend lsT (feL c x0 x1 x2 k q m)))))) ∧ SndC Tryz.prog none (.loop feX) (feA c x0 x1 x2 k q m).act (wS 0 (lsT ++ feL c x0 x1 x2 k q m)) (.exit 0) (fer3E c x0 x1 x2 k q m mm (mm + 1) (faRR k q m mm)).act (wS 0 (lsT ++ (feL c x0 x1 x2 k q m ++ [.rows (mm + 1) 1 (fun i j => .int .i64 ((faRR k q m mm) i j)) 3 true 1 false]))) 4032 0)
abbrev fwo29 (n : Nat) (m : Nat) (c : Nat) (g : Nat → Nat → Int) (x0 : Int) (x1 : Int) (k : Nat) (q : Nat) (mm : Nat) (x2 : Int) : Prop := ((((frA n c g x0 x1 x2 k q m) = (frA n c g x0 x1 x2 k q m)) ∧ ((12 = (0 + 12)) ∧ ((HAppend.hAppend (List.replicate (0 : Nat) MObj.hole) (HAppend.hAppend lsT (frL n c g x0 x1 x2 k q m))) = (HAppend.hAppend (List.replicate (0 : Nat) MObj.hole) (HAppend.hAppend lsT (frL n c g x0 x1 x2 k q m)))))) ∧ SndC Tryz.prog none (.loop frX) (frA n c g x0 x1 x2 k q m).act (wS 0 (lsT ++ frL n c g x0 x1 x2 k q m)) (.exit 0) (frr3E n c g x0 x1 x2 k q m mm (mm + 1) (faRR k q m mm)).act (wS 0 (lsT ++ (frL n c g x0 x1 x2 k q m ++ [.rows (mm + 1) 1 (fun i j => .int .i64 ((faRR k q m mm) i j)) 3 true 1 false]))) 4032 0)
abbrev fwo30 (n : Nat) : Prop := (((((n : Nat)) : Int) == (0 : Int)) = false)
abbrev fwo31 (n : Nat) : Prop := ((decide ((((n : Nat)) : Int) > (24 : Int))) = true)
abbrev fwo32 (n : Nat) : Prop := ((decide ((((n : Nat)) : Int) > (24 : Int))) = false)
abbrev fwo33 (n : Nat) (g : Nat → Nat → Int) : Prop := (((n = n) ∧ (∀ (i : Nat), ((i < n) → (∀ (j : Nat), ((j < (1 : Nat)) → ((Value.int .i64 (g i j)) = (Value.int .i64 (gI (Value.int .i64 (g i j)))))))))) ∧ ((((n : Nat)) : Int) ≤ (9223372036854775807 : Int)))
abbrev fwo34 (n : Nat) (g : Nat → Nat → Int) : Prop := (((crV n (fun (i : Nat) => (fun (j : Nat) => (gI (Value.int .i64 (g i j)))))) != (0 : Int)) = false)
abbrev fwo35 (n : Nat) : Prop := (((.int .i64 (((n : Nat)) : Int)) : Value) = (.int .i64 (((n : Nat)) : Int)))
abbrev fwo36 (n : Nat) (x1 : Int) (p : Nat) : Prop := (((.int .i64 (Int.tmod (IntKind.i64.wrap x1) (((n : Nat)) : Int))) : Value) = (.int .i64 (((p : Nat)) : Int)))
abbrev fwo37 (n : Nat) : Prop := ((n = n) ∧ ((n ≠ (0 : Nat)) ∧ ((n * 8) ≤ (140737488355328 : Nat))))
abbrev fwo38 (n : Nat) (g : Nat → Nat → Int) (p : Nat) : Prop := (((n = n) ∧ (∀ (i : Nat), ((i < n) → (∀ (j : Nat), ((j < (1 : Nat)) → ((Value.int .i64 (g i j)) = (Value.int .i64 (gI (Value.int .i64 (g i j)))))))))) ∧ ((n ≤ (1048576 : Nat)) ∧ (((crV n (fun (i : Nat) => (fun (j : Nat) => (gI (Value.int .i64 (g i j)))))) = (Int.ofNat 0)) ∧ ((ixE (((p : Nat)) : Int) (((n : Nat)) : Int)) = (Int.ofNat 0)))))
abbrev fwo39 (n : Nat) (g : Nat → Nat → Int) (p : Nat) : Prop := ((decide (((((basN n (fun (i : Nat) => (fun (j : Nat) => (gI (Value.int .i64 (g i j))))) (((p : Nat)) : Int)) : Nat)) : Int) > (((n : Nat)) : Int))) = false)
abbrev fwo40 (n : Nat) (m : Nat) (c : Nat) (g : Nat → Nat → Int) (x0 : Int) (x1 : Int) (k : Nat) (q : Nat) (mm : Nat) (p : Nat) (x2 : Int) : Prop := ((((fsA n c g x0 x1 x2 k q m mm p (0 : Nat)) = (fsA n c g x0 x1 x2 k q m mm p (0 : Nat))) ∧ ((18 = (0 + 18)) ∧ ((HAppend.hAppend (List.replicate (0 : Nat) MObj.hole) (HAppend.hAppend lsT (fsL n c g x0 x1 x2 k q m mm p (0 : Nat)))) = (HAppend.hAppend (List.replicate (0 : Nat) MObj.hole) (HAppend.hAppend lsT (fsL n c g x0 x1 x2 k q m mm p (0 : Nat))))))) ∧ SndC Tryz.prog none (.loop fsX) (fsA n c g x0 x1 x2 k q m mm p 0).act (wS 0 (lsT ++ fsL n c g x0 x1 x2 k q m mm p 0)) (.exit 2) (fsr2E n c g x0 x1 x2 k q m mm p n).act (wS 0 (lsT ++ fsL n c g x0 x1 x2 k q m mm p 0)) 262080 0)
abbrev fwo41 (n : Nat) (g : Nat → Nat → Int) (p : Nat) : Prop := ((((basN n g (((p : Nat)) : Int)) = (basN n g (((p : Nat)) : Int))) ∧ (∀ (i : Nat), ((i < (basN n g (((p : Nat)) : Int))) → (∀ (j : Nat), ((j < (1 : Nat)) → ((Value.int .i64 (basG n g (((p : Nat)) : Int) i j)) = (Value.int .i64 (gI (Value.int .i64 (basG n g (((p : Nat)) : Int) i j)))))))))) ∧ (((((basN n g (((p : Nat)) : Int)) : Nat)) : Int) ≤ (9223372036854775807 : Int)))
abbrev fwo42 (n : Nat) (g : Nat → Nat → Int) (p : Nat) : Prop := ((hasB (basN n g (((p : Nat)) : Int)) (fun (i : Nat) => (fun (j : Nat) => (gI (Value.int .i64 (basG n g (((p : Nat)) : Int) i j))))) (((p : Nat)) : Int)) = true)
abbrev fwo43 (n : Nat) (g : Nat → Nat → Int) : Prop := (((crV n (fun (i : Nat) => (fun (j : Nat) => (gI (Value.int .i64 (g i j)))))) != (0 : Int)) = true)
theorem fwK_ok : FOkS Tryz.prog fwK := bothX_ok kMade_ok (bothX_ok kRCr_ok (bothX_ok kBa_ok (bothX_ok kLk_ok (bothX_ok kCb_ok (bothX_ok kHi_ok (tabT_ok (by kernel_rfl) aw3_calls))))))
theorem fw0_o (x0 : Int) (x1 : Int) (x2 : Int) (k : Nat) (q : Nat) (m : Nat) (mm : Nat) : obY (fw0 x0 x1 x2 k q m mm) = ((((((((((((((((((((((((((((((((((((((((((((((((True ∧ fwo0) ∧ (fwo1 x0)) ∧ fwo2) ∧ (fwo3 x0)) ∧ (fwo4 x0 k)) ∧ fwo5) ∧ (fwo6 x1)) ∧ (fwo7 k)) ∧ (fwo8 x1 k q)) ∧ fwo9) ∧ (fwo10 x2)) ∧ fwo11) ∧ (fwo12 x2)) ∧ (fwo13 m x2)) ∧ (fwo14 m k q)) ∧ fwo15) ∧ fwo15) ∧ fwo15) ∧ fwo15) ∧ fwo15) ∧ (fwo16 k)) ∧ (fwo16 k)) ∧ (fwo17 m k q)) ∧ (fwo16 k)) ∧ (fwo16 k)) ∧ (fwo18 m k q)) ∧ (fwo19 k)) ∧ (fwo20 m k q)) ∧ fwo15) ∧ fwo15) ∧ fwo15) ∧ fwo15) ∧ fwo15) ∧ (fwo21 m k q)) ∧ (fwo22 m x0 x1 k q mm x2)) ∧ (fwo23 k)) ∧ (fwo24 m k q mm)) ∧ (fwo25 m k q mm)) ∧ fwo26) ∧ fwo26) ∧ fwo26) ∧ fwo26) ∧ fwo27) ∧ fwo27) ∧ fwo27) ∧ fwo27) ∧ fwo27)) := by kernel_rfl
theorem fw0_g (x0 : Int) (x1 : Int) (x2 : Int) (k : Nat) (q : Nat) (m : Nat) (mm : Nat) : goodY (fw0 x0 x1 x2 k q m mm) = true := by kernel_rfl
theorem fw1_o (c : Nat) (x0 : Int) (x1 : Int) (x2 : Int) (k : Nat) (q : Nat) (m : Nat) (mm : Nat) : obY (fw1 c x0 x1 x2 k q m mm) = ((((((((((((((((((((((((((((((((((((((((((((((((True ∧ fwo0) ∧ (fwo1 x0)) ∧ fwo2) ∧ (fwo3 x0)) ∧ (fwo4 x0 k)) ∧ fwo5) ∧ (fwo6 x1)) ∧ (fwo7 k)) ∧ (fwo8 x1 k q)) ∧ fwo9) ∧ (fwo10 x2)) ∧ fwo11) ∧ (fwo12 x2)) ∧ (fwo13 m x2)) ∧ (fwo14 m k q)) ∧ fwo15) ∧ fwo15) ∧ fwo15) ∧ fwo15) ∧ fwo15) ∧ (fwo16 k)) ∧ (fwo16 k)) ∧ (fwo17 m k q)) ∧ (fwo16 k)) ∧ (fwo16 k)) ∧ (fwo18 m k q)) ∧ (fwo19 k)) ∧ (fwo20 m k q)) ∧ fwo15) ∧ fwo15) ∧ fwo15) ∧ fwo15) ∧ fwo15) ∧ (fwo21 m k q)) ∧ (fwo28 m c x0 x1 k q mm x2)) ∧ (fwo23 k)) ∧ (fwo24 m k q mm)) ∧ (fwo25 m k q mm)) ∧ fwo26) ∧ fwo26) ∧ fwo26) ∧ fwo26) ∧ fwo27) ∧ fwo27) ∧ fwo27) ∧ fwo27) ∧ fwo27)) := by kernel_rfl
theorem fw1_g (c : Nat) (x0 : Int) (x1 : Int) (x2 : Int) (k : Nat) (q : Nat) (m : Nat) (mm : Nat) : goodY (fw1 c x0 x1 x2 k q m mm) = true := by kernel_rfl
theorem fw2_o (n : Nat) (c : Nat) (g : Nat → Nat → Int) (x0 : Int) (x1 : Int) (x2 : Int) (k : Nat) (q : Nat) (m : Nat) (mm : Nat) : obY (fw2 n c g x0 x1 x2 k q m mm) = ((((((((((((((((((((((((((((((((((((((((((((((((True ∧ fwo0) ∧ (fwo1 x0)) ∧ fwo2) ∧ (fwo3 x0)) ∧ (fwo4 x0 k)) ∧ fwo5) ∧ (fwo6 x1)) ∧ (fwo7 k)) ∧ (fwo8 x1 k q)) ∧ fwo9) ∧ (fwo10 x2)) ∧ fwo11) ∧ (fwo12 x2)) ∧ (fwo13 m x2)) ∧ (fwo14 m k q)) ∧ fwo15) ∧ fwo15) ∧ fwo15) ∧ fwo15) ∧ fwo15) ∧ (fwo16 k)) ∧ (fwo16 k)) ∧ (fwo17 m k q)) ∧ (fwo16 k)) ∧ (fwo16 k)) ∧ (fwo18 m k q)) ∧ (fwo19 k)) ∧ (fwo20 m k q)) ∧ fwo15) ∧ fwo15) ∧ fwo15) ∧ fwo15) ∧ fwo15) ∧ (fwo21 m k q)) ∧ (fwo29 n m c g x0 x1 k q mm x2)) ∧ (fwo23 k)) ∧ (fwo24 m k q mm)) ∧ (fwo25 m k q mm)) ∧ (fwo30 n)) ∧ (fwo30 n)) ∧ (fwo30 n)) ∧ (fwo30 n)) ∧ (fwo31 n)) ∧ (fwo31 n)) ∧ (fwo31 n)) ∧ (fwo31 n)) ∧ fwo27)) := by kernel_rfl
theorem fw2_g (n : Nat) (c : Nat) (g : Nat → Nat → Int) (x0 : Int) (x1 : Int) (x2 : Int) (k : Nat) (q : Nat) (m : Nat) (mm : Nat) : goodY (fw2 n c g x0 x1 x2 k q m mm) = true := by kernel_rfl
theorem fw3_o (n : Nat) (c : Nat) (g : Nat → Nat → Int) (x0 : Int) (x1 : Int) (x2 : Int) (k : Nat) (q : Nat) (m : Nat) (mm : Nat) (p : Nat) : obY (fw3 n c g x0 x1 x2 k q m mm p) = (((((((((((((((((((((((((((((((((((((((((((((((((((((((((((((((((((True ∧ fwo0) ∧ (fwo1 x0)) ∧ fwo2) ∧ (fwo3 x0)) ∧ (fwo4 x0 k)) ∧ fwo5) ∧ (fwo6 x1)) ∧ (fwo7 k)) ∧ (fwo8 x1 k q)) ∧ fwo9) ∧ (fwo10 x2)) ∧ fwo11) ∧ (fwo12 x2)) ∧ (fwo13 m x2)) ∧ (fwo14 m k q)) ∧ fwo15) ∧ fwo15) ∧ fwo15) ∧ fwo15) ∧ fwo15) ∧ (fwo16 k)) ∧ (fwo16 k)) ∧ (fwo17 m k q)) ∧ (fwo16 k)) ∧ (fwo16 k)) ∧ (fwo18 m k q)) ∧ (fwo19 k)) ∧ (fwo20 m k q)) ∧ fwo15) ∧ fwo15) ∧ fwo15) ∧ fwo15) ∧ fwo15) ∧ (fwo21 m k q)) ∧ (fwo29 n m c g x0 x1 k q mm x2)) ∧ (fwo23 k)) ∧ (fwo24 m k q mm)) ∧ (fwo25 m k q mm)) ∧ (fwo30 n)) ∧ (fwo30 n)) ∧ (fwo30 n)) ∧ (fwo30 n)) ∧ (fwo32 n)) ∧ (fwo32 n)) ∧ (fwo33 n g)) ∧ (fwo32 n)) ∧ (fwo32 n)) ∧ (fwo34 n g)) ∧ fwo5) ∧ (fwo6 x1)) ∧ (fwo35 n)) ∧ (fwo30 n)) ∧ (fwo36 n x1 p)) ∧ (fwo37 n)) ∧ (fwo38 n g p)) ∧ fwo15) ∧ fwo15) ∧ fwo15) ∧ fwo15) ∧ fwo15) ∧ fwo15) ∧ (fwo39 n g p)) ∧ (fwo40 n m c g x0 x1 k q mm p x2)) ∧ (fwo41 n g p)) ∧ (fwo42 n g p)) ∧ (fwo42 n g p))) := by kernel_rfl
theorem fw3_g (n : Nat) (c : Nat) (g : Nat → Nat → Int) (x0 : Int) (x1 : Int) (x2 : Int) (k : Nat) (q : Nat) (m : Nat) (mm : Nat) (p : Nat) : goodY (fw3 n c g x0 x1 x2 k q m mm p) = true := by kernel_rfl
theorem fw4_o (n : Nat) (c : Nat) (g : Nat → Nat → Int) (x0 : Int) (x1 : Int) (x2 : Int) (k : Nat) (q : Nat) (m : Nat) (mm : Nat) : obY (fw4 n c g x0 x1 x2 k q m mm) = (((((((((((((((((((((((((((((((((((((((((((((((((True ∧ fwo0) ∧ (fwo1 x0)) ∧ fwo2) ∧ (fwo3 x0)) ∧ (fwo4 x0 k)) ∧ fwo5) ∧ (fwo6 x1)) ∧ (fwo7 k)) ∧ (fwo8 x1 k q)) ∧ fwo9) ∧ (fwo10 x2)) ∧ fwo11) ∧ (fwo12 x2)) ∧ (fwo13 m x2)) ∧ (fwo14 m k q)) ∧ fwo15) ∧ fwo15) ∧ fwo15) ∧ fwo15) ∧ fwo15) ∧ (fwo16 k)) ∧ (fwo16 k)) ∧ (fwo17 m k q)) ∧ (fwo16 k)) ∧ (fwo16 k)) ∧ (fwo18 m k q)) ∧ (fwo19 k)) ∧ (fwo20 m k q)) ∧ fwo15) ∧ fwo15) ∧ fwo15) ∧ fwo15) ∧ fwo15) ∧ (fwo21 m k q)) ∧ (fwo29 n m c g x0 x1 k q mm x2)) ∧ (fwo23 k)) ∧ (fwo24 m k q mm)) ∧ (fwo25 m k q mm)) ∧ (fwo30 n)) ∧ (fwo30 n)) ∧ (fwo30 n)) ∧ (fwo30 n)) ∧ (fwo32 n)) ∧ (fwo32 n)) ∧ (fwo33 n g)) ∧ (fwo32 n)) ∧ (fwo32 n)) ∧ (fwo43 n g))) := by kernel_rfl
theorem fw4_g (n : Nat) (c : Nat) (g : Nat → Nat → Int) (x0 : Int) (x1 : Int) (x2 : Int) (k : Nat) (q : Nat) (m : Nat) (mm : Nat) : goodY (fw4 n c g x0 x1 x2 k q m mm) = true := by kernel_rfl
end Go.Proofs.YtbkpnhbcihcgaaaGreatDoor
end
section
set_option linter.all false
set_option maxRecDepth 1000000
open Go.RowKit
namespace Go.Proofs.YtbkpnhbcihcgaaaGreatDoor
open Mini
theorem cntF_all {q : Nat → Bool} : ∀ n, (∀ i, i < n → q i = true) → cntF q n = n
  | 0, _ => rfl
  | n + 1, h => by rw [cntF_yes (h n (by omega)), cntF_all n fun i hi => h i (by omega)]
theorem growI_lt {c : Nat} {g : GI} {x : Int} {i : Nat} (h : i < c) : growI c g x i 0 = g i 0 := by
  cases c with
  | zero => omega
  | succ m => exact if_pos h
theorem growI_eq {c : Nat} {g : GI} {x : Int} : growI c g x c 0 = x := by
  cases c with
  | zero => rfl
  | succ m => exact if_neg (Nat.lt_irrefl _)
theorem selG_all {q : Nat → Bool} {v : Nat → Int} : ∀ n, (∀ i, i < n → q i = true) → ∀ i, i < n → selG q v n i 0 = v i
  | 0, _, i, hi => by omega
  | n + 1, h, i, hi => by
    rw [selG_yes (h n (by omega)), cntF_all n fun j hj => h j (by omega)]
    rcases Nat.lt_or_ge i n with c | c
    · rw [growI_lt c]; exact selG_all n (fun j hj => h j (by omega)) i c
    · rw [show i = n from by omega]; exact growI_eq
theorem selG_mem {q : Nat → Bool} {v : Nat → Int} : ∀ n i, i < n → q i = true → ∃ j, j < cntF q n ∧ selG q v n j 0 = v i
  | 0, i, hi, _ => by omega
  | n + 1, i, hi, hq => by
    rcases Nat.lt_or_ge i n with c | c
    · obtain ⟨j, h1, h2⟩ := selG_mem (v := v) n i c hq
      cases hn : q n with
      | true => exact ⟨j, by rw [cntF_yes hn]; omega, by rw [selG_yes hn, growI_lt h1]; exact h2⟩
      | false => exact ⟨j, by rw [cntF_no hn]; exact h1, by rw [selG_no hn]; exact h2⟩
    · have e : i = n := by omega
      subst e
      exact ⟨cntF q i, by rw [cntF_yes hq]; omega, by rw [selG_yes hq]; exact growI_eq⟩
theorem selG_of {q : Nat → Bool} {v : Nat → Int} : ∀ n j, j < cntF q n → ∃ i, i < n ∧ q i = true ∧ selG q v n j 0 = v i
  | 0, j, hj => by simp [cntF] at hj
  | n + 1, j, hj => by
    cases hn : q n with
    | true =>
      rw [cntF_yes hn] at hj
      rcases Nat.lt_or_ge j (cntF q n) with c | c
      · obtain ⟨i, h1, h2, h3⟩ := selG_of (v := v) n j c
        exact ⟨i, by omega, h2, by rw [selG_yes hn, growI_lt c]; exact h3⟩
      · have e : j = cntF q n := by omega
        subst e
        exact ⟨n, by omega, hn, by rw [selG_yes hn]; exact growI_eq⟩
    | false =>
      rw [cntF_no hn] at hj
      obtain ⟨i, h1, h2, h3⟩ := selG_of (v := v) n j hj
      exact ⟨i, by omega, h2, by rw [selG_no hn]; exact h3⟩
theorem hasB_bas {n : Nat} {g : GI} {ph : Int} {x : Nat} (hx : x < n) : hasB (basN n g ph) (basG n g ph) ((x : Nat) : Int) = fallB n g ((x : Nat) : Int) ph := by
  cases hq : fallB n g ((x : Nat) : Int) ph with
  | true =>
    obtain ⟨j, h1, h2⟩ := selG_mem (q := basQ n g ph) (v := fun k => ((k : Nat) : Int)) n x hx hq
    exact hasB_yes (j := j) h1 h2
  | false =>
    refine hasB_no fun i hi he => ?_
    obtain ⟨j, h1, h2, h3⟩ := selG_of (q := basQ n g ph) (v := fun k => ((k : Nat) : Int)) n i hi
    have h4 : ((j : Nat) : Int) = ((x : Nat) : Int) := h3.symm.trans he
    have h5 : j = x := by omega
    subst h5
    have h2 : fallB n g ((j : Nat) : Int) ph = true := h2
    rw [hq] at h2; cases h2
theorem fall_next {n : Nat} {g : GI} {p i : Nat} (hg : ∀ i, i < n → 0 ≤ g i 0 ∧ g i 0 < (n : Int)) (hi : i < n) (hne : ((i : Nat) : Int) ≠ ((p : Nat) : Int)) : fallB n g ((i : Nat) : Int) ((p : Nat) : Int) = fallB n g (g i 0) ((p : Nat) : Int) := by
  have hs : ∀ t, itR g ((i : Nat) : Int) (t + 1) = itR g (g i 0) t := fun t => by
    rw [Nat.add_comm t 1, itR_add g _ 1 t]; rfl
  rcases first_or (p := fun t => itR g ((i : Nat) : Int) t = ((p : Nat) : Int)) (fun _ => inferInstance) n with h | ⟨j, h1, h2, h3⟩
  · rw [(fl_none h).2]
    rcases first_or (p := fun t => itR g (g i 0) t = ((p : Nat) : Int)) (fun _ => inferInstance) n with k | ⟨j, k1, k2, k3⟩
    · rw [(fl_none k).2]
    · rcases Nat.lt_or_ge (j + 1) n with c | c
      · exact absurd ((hs j).trans k2) (h (j + 1) c)
      · have e : j + 1 = n := by omega
        have := itR_far hg (⟨by omega, by omega⟩ : 0 ≤ ((i : Nat) : Int) ∧ ((i : Nat) : Int) < (n : Int)) h
        rw [← e, hs j] at this
        exact absurd k2 this
  · rw [(fl_some h1 h3 h2).2]
    cases j with
    | zero => exact absurd h2 hne
    | succ t =>
      rw [hs t] at h2
      have : fallB n g (g i 0) ((p : Nat) : Int) = true := (fl_some (j := t) (by omega) (fun s hs2 => by have := h3 (s + 1) (by omega); rw [hs s] at this; exact this) h2).2
      exact this.symm
theorem fall_self {n : Nat} {g : GI} {p : Nat} (hp : p < n) : fallB n g ((p : Nat) : Int) ((p : Nat) : Int) = true := (fl_some (j := 0) (by omega) (fun s hs => by omega) rfl).2
theorem fs_W {n : Nat} {g : GI} {p : Nat} (hc : crV n g = 0) (hp : p < n) : ∀ i, i < n → fsW n g p i := fun i hi => by
  have hg := (crV_ok hc).2
  refine ⟨fun e => ?_, fun e => ?_⟩
  · have : i = p := by omega
    subst this
    rw [hasB_bas hi]; exact fall_self hi
  · obtain ⟨g1, g2⟩ := hg i hi
    have e2 : ((Int.toNat (g i 0) : Nat) : Int) = g i 0 := Int.toNat_of_nonneg g1
    rw [hasB_bas hi, ← e2, hasB_bas (by omega), e2, fall_next hg hi e]
    cases fallB n g (g i 0) ((p : Nat) : Int) <;> rfl
theorem fs_N (n : Nat) (g : GI) (p : Int) : basN n g p ≤ n := cntF_le _ n
theorem fs_H {n : Nat} {g : GI} {p : Nat} (hp : p < n) : hasB (basN n g ((p : Nat) : Int)) (basG n g ((p : Nat) : Int)) ((p : Nat) : Int) = true := by
  rw [hasB_bas hp]; exact fall_self hp
section
variable {k q m : Nat}
def upN (k q i : Nat) : Nat := if i ≤ q then q - i else q + k - i
def dnN (k q i : Nat) : Nat := if q ≤ i then i - q else i + k - q
def dsN (k q i : Nat) : Nat := if upN k q i ≤ dnN k q i then upN k q i else dnN k q i
def nxN (k q m i : Nat) : Nat := if upN k q i ≤ dnN k q i then (if i + min (upN k q i) m < k then i + min (upN k q i) m else i + min (upN k q i) m - k) else (if min (dnN k q i) m ≤ i then i - min (dnN k q i) m else i + k - min (dnN k q i) m)
theorem emodK {x : Int} {k : Nat} (h1 : -(k : Int) ≤ x) (h2 : x < 2 * (k : Int)) (hk : 0 < k) : x % (k : Int) = if x < 0 then x + k else if x < (k : Int) then x else x - k := by
  split
  · rw [← Int.add_emod_right, Int.emod_eq_of_lt (by omega) (by omega)]
  · split
    · rw [Int.emod_eq_of_lt (by omega) (by omega)]
    · rw [show x = (x - k) + k from by omega, Int.add_emod_right, Int.emod_eq_of_lt (by omega) (by omega)]
      omega
theorem maUp_eq {i : Nat} (hk : k ≤ 64) (hq : q < k) (hi : i < k) : maUp k q i = ((upN k q i : Nat) : Int) := by
  unfold maUp upN
  rw [IntWalk.i64_in _ (by omega), emodK (by omega) (by omega) (by omega)]
  repeat' split
  all_goals omega
theorem maDn_eq {i : Nat} (hk : k ≤ 64) (hq : q < k) (hi : i < k) : maDn k q i = ((dnN k q i : Nat) : Int) := by
  unfold maDn dnN
  rw [IntWalk.i64_in _ (by omega), emodK (by omega) (by omega) (by omega)]
  repeat' split
  all_goals omega
theorem upN_lt {i : Nat} (hq : q < k) (hi : i < k) : upN k q i < k := by unfold upN; split <;> omega
theorem dnN_lt {i : Nat} (hq : q < k) (hi : i < k) : dnN k q i < k := by unfold dnN; split <;> omega
theorem mnE (a b : Nat) : mn ((a : Nat) : Int) ((b : Nat) : Int) = ((min a b : Nat) : Int) := by
  unfold mn
  split <;> omega
theorem maV_eq {i : Nat} (hk : k ≤ 64) (hq : q < k) (hi : i < k) : maV k q m i = ((nxN k q m i : Nat) : Int) := by
  have hu := upN_lt hq hi
  have hd := dnN_lt hq hi
  unfold maV nxN maV1 maV2
  rw [maUp_eq hk hq hi, maDn_eq hk hq hi, mnE, mnE]
  have h1 : min (upN k q i) m ≤ upN k q i := Nat.min_le_left _ _
  have h2 : min (dnN k q i) m ≤ dnN k q i := Nat.min_le_left _ _
  generalize min (upN k q i) m = a at *
  generalize min (dnN k q i) m = b at *
  generalize upN k q i = u at *
  generalize dnN k q i = d at *
  by_cases c : u ≤ d
  · rw [if_pos (by omega), if_pos c, IntWalk.i64_in _ (by omega), emodK (by omega) (by omega) (by omega)]
    repeat' split
    all_goals omega
  · rw [if_neg (by omega), if_neg c, IntWalk.i64_in _ (by omega), emodK (by omega) (by omega) (by omega)]
    repeat' split
    all_goals omega
theorem nxN_lt {i : Nat} (hq : q < k) (hi : i < k) : nxN k q m i < k := by
  have hu := upN_lt hq hi
  have hd := dnN_lt hq hi
  unfold nxN
  repeat' split
  all_goals omega
theorem ds_next {i : Nat} (hq : q < k) (hi : i < k) : dsN k q (nxN k q m i) = dsN k q i - m := by
  unfold dsN nxN upN dnN
  repeat' split
  all_goals omega
theorem ds_zero {i : Nat} (hq : q < k) (hi : i < k) : dsN k q i = 0 ↔ i = q := by
  unfold dsN upN dnN
  repeat' split
  all_goals omega
theorem ds_lt {i : Nat} (hq : q < k) (hi : i < k) : dsN k q i < k := by
  have hu := upN_lt hq hi
  have hd := dnN_lt hq hi
  unfold dsN
  split <;> omega
end
end Go.Proofs.YtbkpnhbcihcgaaaGreatDoor
end
section
set_option linter.all false
set_option maxRecDepth 1000000
open Go.RowKit
namespace Go.Proofs.YtbkpnhbcihcgaaaGreatDoor
open Mini
section
variable {k q m : Nat}
abbrev maG (k q m : Nat) : GI := fun i _ => maV k q m i
def cnN (k q m i : Nat) : Nat := (dsN k q i + m - 1) / m
theorem it_ds (hk : k ≤ 64) (hq : q < k) {i : Nat} (hi : i < k) : ∀ t, ∃ j, j < k ∧ itR (maG k q m) ((i : Nat) : Int) t = ((j : Nat) : Int) ∧ dsN k q j = dsN k q i - t * m
  | 0 => ⟨i, hi, rfl, by simp⟩
  | t + 1 => by
    obtain ⟨j, h1, h2, h3⟩ := it_ds hk hq hi t
    refine ⟨nxN k q m j, nxN_lt hq h1, ?_, ?_⟩
    · show maV k q m (Int.toNat (itR (maG k q m) ((i : Nat) : Int) t)) = _
      rw [h2, show Int.toNat ((j : Nat) : Int) = j from rfl]
      exact maV_eq hk hq h1
    · rw [ds_next hq h1, h3, Nat.succ_mul]; omega
theorem cn_spec (hm : 0 < m) (i : Nat) : dsN k q i ≤ cnN k q m i * m ∧ (∀ t, t < cnN k q m i → t * m < dsN k q i) ∧ cnN k q m i ≤ dsN k q i := by
  unfold cnN
  generalize dsN k q i = D
  have h1 := Nat.div_add_mod (D + m - 1) m
  have h2 := Nat.mod_lt (D + m - 1) hm
  generalize (D + m - 1) / m = c at *
  generalize (D + m - 1) % m = r at *
  rw [Nat.mul_comm] at h1
  refine ⟨by omega, fun t ht => ?_, ?_⟩
  · have h3 : (t + 1) * m ≤ c * m := Nat.mul_le_mul_right m ht
    rw [Nat.succ_mul] at h3
    omega
  · rcases Nat.lt_or_ge D c with h | h
    · have h3 : (D + 1) * m ≤ c * m := Nat.mul_le_mul_right m h
      rw [Nat.succ_mul] at h3
      have h4 : D ≤ D * m := Nat.le_mul_of_pos_right D hm
      omega
    · exact h
theorem fall_made (hk : k ≤ 64) (hq : q < k) (hm : 0 < m) {i : Nat} (hi : i < k) : fallC k (maG k q m) ((i : Nat) : Int) ((q : Nat) : Int) = ((cnN k q m i : Nat) : Int) ∧ fallB k (maG k q m) ((i : Nat) : Int) ((q : Nat) : Int) = true := by
  obtain ⟨c1, c2, c3⟩ := cn_spec (k := k) (q := q) hm i
  have hd := ds_lt hq hi
  refine fl_some (by omega) (fun t ht he => ?_) ?_
  · obtain ⟨j, h1, h2, h3⟩ := it_ds (m := m) hk hq hi t
    rw [h2] at he
    have : dsN k q j = 0 := (ds_zero hq h1).2 (by omega)
    have := c2 t ht
    omega
  · obtain ⟨j, h1, h2, h3⟩ := it_ds (m := m) hk hq hi (cnN k q m i)
    rw [h2]
    have : j = q := (ds_zero hq h1).1 (by omega)
    rw [this]
theorem fm_cr (hk : k ≤ 24) (hq : q < k) : crV k (maG k q m) = 0 := by
  unfold crV
  rw [if_neg (by omega), if_neg (by omega)]
  refine feN_all fun i _ hi => ?_
  have h := maV_eq (m := m) (show k ≤ 64 by omega) hq (show i < k by omega)
  have h2 := nxN_lt (m := m) hq (show i < k by omega)
  show Pl.cr (maV k q m i) 0 ((k - 1 : Nat) : Int) = 0
  rw [h]
  simp only [Pl.cr]
  split <;> omega
theorem fm_ix {i : Nat} (hi : i < k) : ixE ((i : Nat) : Int) ((k : Nat) : Int) = 0 := if_neg (by omega)
theorem fm_err (hk : k ≤ 24) (hq : q < k) (hm : 0 < m) (hm2 : m ≤ 64) : maErr ((k : Nat) : Int) ((q : Nat) : Int) ((m : Nat) : Int) = 0 := by
  have h1 : maU1 ((k : Nat) : Int) = 0 := by unfold maU1; simp only [Pl.cr]; split <;> omega
  have h2 : maU2 ((k : Nat) : Int) ((q : Nat) : Int) = 0 := if_neg (by omega)
  have h3 : maU3 ((m : Nat) : Int) = 0 := by unfold maU3; simp only [Pl.cr]; split <;> omega
  unfold maErr
  rw [if_neg (by rw [h1]; simp), if_neg (by rw [h2]; simp), h3]
theorem fm_lk (hk : k ≤ 24) (hq : q < k) (hm : 0 < m) {i : Nat} (hi : i < k) : lkC k (maG k q m) ((i : Nat) : Int) ((q : Nat) : Int) = ((cnN k q m i : Nat) : Int) ∧ lkX k (maG k q m) ((i : Nat) : Int) ((q : Nat) : Int) = 0 := by
  have he : lkE k (maG k q m) ((i : Nat) : Int) ((q : Nat) : Int) = 0 := by
    unfold lkE th2
    rw [fm_cr hk hq, fm_ix hi, fm_ix hq]; rfl
  obtain ⟨h1, h2⟩ := fall_made (m := m) (show k ≤ 64 by omega) hq hm hi
  unfold lkC lkX
  rw [if_pos he, if_pos he, if_pos h2, if_pos h2, h1]
  exact ⟨rfl, rfl⟩
theorem fm_bas (hk : k ≤ 24) (hq : q < k) (hm : 0 < m) : basN k (maG k q m) ((q : Nat) : Int) = k ∧ ∀ i, i < k → basG k (maG k q m) ((q : Nat) : Int) i 0 = ((i : Nat) : Int) :=
  ⟨cntF_all k fun i hi => (fall_made (m := m) (by omega) hq hm hi).2, fun i hi => selG_all k (fun j hj => (fall_made (m := m) (by omega) hq hm hj).2) i hi⟩
theorem tmodK {a b : Nat} (hk : k ≤ 64) (ha : a < k) (hb : b < k) : Int.tmod (IntKind.i64.wrap ((IntKind.i64.wrap (((a : Nat) : Int) - ((b : Nat) : Int))) + ((k : Nat) : Int))) ((k : Nat) : Int) = ((if b ≤ a then a - b else a + k - b : Nat) : Int) := by
  rw [IntWalk.i64_in (((a : Nat) : Int) - ((b : Nat) : Int)) (by omega), IntWalk.i64_in _ (by omega), Int.tmod_eq_emod_of_nonneg (by omega), emodK (by omega) (by omega) (by omega)]
  repeat' split
  all_goals omega
theorem fm_W (hk : k ≤ 24) (hq : q < k) (hm : 0 < m) (hm2 : m ≤ 64) : ∀ i, i < k → faW k q m i := fun i hi => by
  obtain ⟨h1, h2⟩ := fm_lk hk hq hm hi
  refine ⟨h2, (fm_bas hk hq hm).2 i hi, ?_⟩
  rw [h1, tmodK (by omega) hi hq, tmodK (by omega) hq hi]
  have e : (if ((if q ≤ i then i - q else i + k - q : Nat) : Int) < ((if i ≤ q then q - i else q + k - i : Nat) : Int) then ((if q ≤ i then i - q else i + k - q : Nat) : Int) else ((if i ≤ q then q - i else q + k - i : Nat) : Int)) = ((dsN k q i : Nat) : Int) := by
    show (if ((dnN k q i : Nat) : Int) < ((upN k q i : Nat) : Int) then ((dnN k q i : Nat) : Int) else ((upN k q i : Nat) : Int)) = _
    unfold dsN
    repeat' split
    all_goals omega
  rw [e]
  have hd := ds_lt hq hi
  have hc := (cn_spec (k := k) (q := q) hm i).2.2
  rw [IntWalk.i64_in (((dsN k q i : Nat) : Int) + ((m : Nat) : Int)) (by omega), IntWalk.i64_in (((dsN k q i : Nat) : Int) + ((m : Nat) : Int) - 1) (by omega)]
  rw [show ((dsN k q i : Nat) : Int) + ((m : Nat) : Int) - 1 = ((dsN k q i + m - 1 : Nat) : Int) from by omega]
  have e2 : Int.tdiv ((dsN k q i + m - 1 : Nat) : Int) ((m : Nat) : Int) = ((cnN k q m i : Nat) : Int) := by
    rw [Int.tdiv_eq_ediv_of_nonneg (by omega)]; rfl
  rw [e2, IntWalk.i64_in _ (by omega)]
theorem fm_row (hk : k ≤ 24) (hq : q < k) (hm : 0 < m) : ∀ t i, i ≤ t → t < k → faRR k q m t i 0 = ((cnN k q m i : Nat) : Int)
  | 0, i, hi, ht => by
    have : i = 0 := by omega
    subst this
    exact (fm_lk hk hq hm (show 0 < k by omega)).1
  | t + 1, i, hi, ht => by
    rcases Nat.lt_or_ge i (t + 1) with c | c
    · show (if i < t + 1 then faRR k q m t i 0 else _) = _
      rw [if_pos c]; exact fm_row hk hq hm t i (by omega) (by omega)
    · have : i = t + 1 := by omega
      subst this
      show (if t + 1 < t + 1 then _ else ([lkC k (maG k q m) (((t + 1) : Nat) : Int) ((q : Nat) : Int)] : List Int).getD 0 0) = _
      rw [if_neg (Nat.lt_irrefl _)]; exact (fm_lk hk hq hm ht).1
theorem cn_next (hq : q < k) (hm : 0 < m) {i : Nat} (hi : i < k) (hne : i ≠ q) : 0 < cnN k q m i ∧ cnN k q m (nxN k q m i) < cnN k q m i := by
  have hd : dsN k q i ≠ 0 := fun e => hne ((ds_zero hq hi).1 e)
  unfold cnN
  rw [ds_next hq hi]
  generalize dsN k q i = D at *
  have e : D + m - 1 = (D - 1) + m := by omega
  rw [e, Nat.add_div_right _ hm]
  refine ⟨Nat.succ_pos _, Nat.lt_succ_of_le ?_⟩
  rcases Nat.lt_or_ge D m with c | c
  · rw [show D - m + m - 1 = m - 1 from by omega, Nat.div_eq_of_lt (by omega)]; exact Nat.zero_le _
  · rw [show D - m + m - 1 = D - 1 from by omega]; exact Nat.le_refl _
theorem fm_cb (hk : k ≤ 24) (hq : q < k) (hm : 0 < m) {mm : Nat} (hmm : k = mm + 1) : cbV k (maG k q m) (mm + 1) (faRR k q m mm) ((q : Nat) : Int) = 0 := by
  unfold cbV
  rw [fm_cr hk hq, fm_ix hq, if_pos hmm.symm]
  show feN (cbE (maG k q m) (faRR k q m mm) ((q : Nat) : Int)) k 0 = 0
  refine feN_all fun i _ hi => ?_
  have hi : i < k := by omega
  unfold cbE
  have hr := fm_row hk hq hm mm i (by omega) (by omega)
  by_cases c : i = q
  · rw [if_pos (by rw [c]), hr, if_pos]
    have : dsN k q i = 0 := (ds_zero hq hi).2 c
    have h := (cn_spec (k := k) (q := q) hm i).2.2
    omega
  · have hn := nxN_lt (m := m) hq hi
    obtain ⟨h1, h2⟩ := cn_next hq hm hi c
    rw [if_neg (by omega), hr, if_pos]
    refine ⟨by omega, ?_⟩
    show faRR k q m mm (Int.toNat (maV k q m i)) 0 < _
    rw [maV_eq (by omega) hq hi, show Int.toNat ((nxN k q m i : Nat) : Int) = nxN k q m i from rfl, fm_row hk hq hm mm _ (by omega) (by omega)]
    omega
end
end Go.Proofs.YtbkpnhbcihcgaaaGreatDoor
end
section
set_option linter.all false
set_option maxRecDepth 1000000
open Go.RowKit
namespace Go.Proofs.YtbkpnhbcihcgaaaGreatDoor
open Mini
theorem fwo0_h    : fwo0 := by first | rfl | decide
theorem fwo1_h (x0 : Int)   : fwo1 x0 := by first | rfl | decide
theorem fwo2_h    : fwo2 := by first | rfl | decide
theorem fwo3_h (x0 : Int)   : fwo3 x0 := by first | rfl | decide
theorem fwo4_h (x0 : Int) (k : Nat)  (hk : IntKind.i64.wrap ((1 : Int) + (Int.tmod (IntKind.i64.wrap x0) (24 : Int))) = ((k : Nat) : Int)) : fwo4 x0 k := congrArg (Value.int .i64) hk
theorem fwo5_h    : fwo5 := by first | rfl | decide
theorem fwo6_h (x1 : Int)   : fwo6 x1 := by first | rfl | decide
theorem fwo7_h (k : Nat) (q : Nat) (m : Nat) (b : 0 < k ∧ k ≤ 24 ∧ 0 < m ∧ m ≤ 64 ∧ q < k) : fwo7 k := beq_eq_false_iff_ne.2 (by omega)
theorem fwo8_h (x1 : Int) (k : Nat) (q : Nat)  (hq : Int.tmod (IntKind.i64.wrap x1) ((k : Nat) : Int) = ((q : Nat) : Int)) : fwo8 x1 k q := congrArg (Value.int .i64) hq
theorem fwo9_h    : fwo9 := by first | rfl | decide
theorem fwo10_h (x2 : Int)   : fwo10 x2 := by first | rfl | decide
theorem fwo11_h    : fwo11 := by first | rfl | decide
theorem fwo12_h (x2 : Int)   : fwo12 x2 := by first | rfl | decide
theorem fwo13_h (m : Nat) (x2 : Int)  (hm : IntKind.i64.wrap ((1 : Int) + (Int.tmod (IntKind.i64.wrap x2) (64 : Int))) = ((m : Nat) : Int)) : fwo13 m x2 := congrArg (Value.int .i64) hm
theorem fwo14_h (m : Nat) (k : Nat) (q : Nat)  (b : 0 < k ∧ k ≤ 24 ∧ 0 < m ∧ m ≤ 64 ∧ q < k) : fwo14 m k q := fm_err b.2.1 b.2.2.2.2 b.2.2.1 b.2.2.2.1
theorem fwo15_h    : fwo15 := by first | rfl | decide
theorem fwo16_h (k : Nat)   : fwo16 k := bne_eq_false_iff_eq.2 rfl
theorem fwo17_h (m : Nat) (k : Nat) (q : Nat)  (b : 0 < k ∧ k ≤ 24 ∧ 0 < m ∧ m ≤ 64 ∧ q < k) : fwo17 m k q := ⟨⟨rfl, fun _ _ _ _ => rfl⟩, by omega⟩
theorem fwo18_h (m : Nat) (k : Nat) (q : Nat)  (b : 0 < k ∧ k ≤ 24 ∧ 0 < m ∧ m ≤ 64 ∧ q < k) : fwo18 m k q := bne_eq_false_iff_eq.2 (fm_cr b.2.1 b.2.2.2.2)
theorem fwo19_h (k : Nat) (q : Nat) (m : Nat) (b : 0 < k ∧ k ≤ 24 ∧ 0 < m ∧ m ≤ 64 ∧ q < k) : fwo19 k := ⟨rfl, (by show k ≠ 0; omega), by omega⟩
theorem fwo20_h (m : Nat) (k : Nat) (q : Nat)  (b : 0 < k ∧ k ≤ 24 ∧ 0 < m ∧ m ≤ 64 ∧ q < k) : fwo20 m k q := ⟨⟨rfl, fun _ _ _ _ => rfl⟩, (by show k ≤ 1048576; omega), fm_cr b.2.1 b.2.2.2.2, fm_ix b.2.2.2.2⟩
theorem fwo21_h (m : Nat) (k : Nat) (q : Nat)  (b : 0 < k ∧ k ≤ 24 ∧ 0 < m ∧ m ≤ 64 ∧ q < k) : fwo21 m k q := bne_eq_false_iff_eq.2 (congrArg (fun z : Nat => (z : Int)) (fm_bas b.2.1 b.2.2.2.2 b.2.2.1).1)
theorem fwo22_h (m : Nat) (x0 : Int) (x1 : Int) (k : Nat) (q : Nat) (mm : Nat) (x2 : Int)  (b : 0 < k ∧ k ≤ 24 ∧ 0 < m ∧ m ≤ 64 ∧ q < k) (mk : k = mm + 1) : fwo22 m x0 x1 k q mm x2 := ⟨⟨rfl, rfl, rfl⟩, fn_tabs x0 x1 x2 k q m mm mk ⟨(fm_bas b.2.1 b.2.2.2.2 b.2.2.1).1, b.1, b.2.1, b.2.2.1, b.2.2.2.1, b.2.2.2.2⟩ (fm_W b.2.1 b.2.2.2.2 b.2.2.1 b.2.2.2.1)⟩
theorem fwo23_h (k : Nat) (q : Nat) (m : Nat) (b : 0 < k ∧ k ≤ 24 ∧ 0 < m ∧ m ≤ 64 ∧ q < k) : fwo23 k := ⟨rfl, by omega, by omega⟩
theorem fwo24_h (m : Nat) (k : Nat) (q : Nat) (mm : Nat)  (b : 0 < k ∧ k ≤ 24 ∧ 0 < m ∧ m ≤ 64 ∧ q < k) : fwo24 m k q mm := ⟨⟨rfl, fun _ _ _ _ => rfl⟩, ⟨rfl, fun _ _ _ _ => rfl⟩, by omega⟩
theorem fwo25_h (m : Nat) (k : Nat) (q : Nat) (mm : Nat)  (b : 0 < k ∧ k ≤ 24 ∧ 0 < m ∧ m ≤ 64 ∧ q < k) (mk : k = mm + 1) : fwo25 m k q mm := bne_eq_false_iff_eq.2 (fm_cb b.2.1 b.2.2.2.2 b.2.2.1 mk)
theorem fwo26_h    : fwo26 := by first | rfl | decide
theorem fwo27_h    : fwo27 := by first | rfl | decide
theorem fwo28_h (m : Nat) (c : Nat) (x0 : Int) (x1 : Int) (k : Nat) (q : Nat) (mm : Nat) (x2 : Int)  (b : 0 < k ∧ k ≤ 24 ∧ 0 < m ∧ m ≤ 64 ∧ q < k) (mk : k = mm + 1) : fwo28 m c x0 x1 k q mm x2 := ⟨⟨rfl, rfl, rfl⟩, fe_tabs c x0 x1 x2 k q m mm mk ⟨(fm_bas b.2.1 b.2.2.2.2 b.2.2.1).1, b.1, b.2.1, b.2.2.1, b.2.2.2.1, b.2.2.2.2⟩ (fm_W b.2.1 b.2.2.2.2 b.2.2.1 b.2.2.2.1)⟩
theorem fwo29_h (n : Nat) (m : Nat) (c : Nat) (g : Nat → Nat → Int) (x0 : Int) (x1 : Int) (k : Nat) (q : Nat) (mm : Nat) (x2 : Int)  (b : 0 < k ∧ k ≤ 24 ∧ 0 < m ∧ m ≤ 64 ∧ q < k) (mk : k = mm + 1) : fwo29 n m c g x0 x1 k q mm x2 := ⟨⟨rfl, rfl, rfl⟩, fr_tabs n c g x0 x1 x2 k q m mm mk ⟨(fm_bas b.2.1 b.2.2.2.2 b.2.2.1).1, b.1, b.2.1, b.2.2.1, b.2.2.2.1, b.2.2.2.2⟩ (fm_W b.2.1 b.2.2.2.2 b.2.2.1 b.2.2.2.1)⟩
theorem fwo30_h (n : Nat)  (n0 : n ≠ 0) : fwo30 n := beq_eq_false_iff_ne.2 (by omega)
theorem fwo31_h (n : Nat)  (N : 24 < n) : fwo31 n := decide_eq_true (by omega)
theorem fwo32_h (n : Nat)  (N24 : n ≤ 24) : fwo32 n := decide_eq_false (by omega)
theorem fwo33_h (n : Nat) (g : Nat → Nat → Int)  (N24 : n ≤ 24) : fwo33 n g := ⟨⟨rfl, fun _ _ _ _ => rfl⟩, by omega⟩
theorem fwo34_h (n : Nat) (g : Nat → Nat → Int)  (C : crV n g = 0) : fwo34 n g := bne_eq_false_iff_eq.2 C
theorem fwo35_h (n : Nat)   : fwo35 n := by first | rfl | decide
theorem fwo36_h (n : Nat) (x1 : Int) (p : Nat)  (hp : Int.tmod (IntKind.i64.wrap x1) ((n : Nat) : Int) = ((p : Nat) : Int)) : fwo36 n x1 p := congrArg (Value.int .i64) hp
theorem fwo37_h (n : Nat)  (n0 : n ≠ 0) (N24 : n ≤ 24) : fwo37 n := ⟨rfl, n0, by omega⟩
theorem fwo38_h (n : Nat) (g : Nat → Nat → Int) (p : Nat)  (N24 : n ≤ 24) (C : crV n g = 0) (pn : p < n) : fwo38 n g p := ⟨⟨rfl, fun _ _ _ _ => rfl⟩, by omega, C, fm_ix pn⟩
theorem fwo39_h (n : Nat) (g : Nat → Nat → Int) (p : Nat)   : fwo39 n g p := decide_eq_false (show ¬ ((((basN n g ((p : Nat) : Int)) : Nat) : Int) > ((n : Nat) : Int)) by have := fs_N n g ((p : Nat) : Int); omega)
theorem fwo40_h (n : Nat) (m : Nat) (c : Nat) (g : Nat → Nat → Int) (x0 : Int) (x1 : Int) (k : Nat) (q : Nat) (mm : Nat) (p : Nat) (x2 : Int)  (N24 : n ≤ 24) (C : crV n g = 0) (pn : p < n) : fwo40 n m c g x0 x1 k q mm p x2 := ⟨⟨rfl, rfl, rfl⟩, fs_tabs n c g x0 x1 x2 k q m mm p ⟨fs_N n g _, N24⟩ (fs_W C pn)⟩
theorem fwo41_h (n : Nat) (g : Nat → Nat → Int) (p : Nat)  (N24 : n ≤ 24) : fwo41 n g p := ⟨⟨rfl, fun _ _ _ _ => rfl⟩, (show (((basN n g ((p : Nat) : Int)) : Nat) : Int) ≤ 9223372036854775807 by have := fs_N n g ((p : Nat) : Int); omega)⟩
theorem fwo42_h (n : Nat) (g : Nat → Nat → Int) (p : Nat)  (pn : p < n) : fwo42 n g p := fs_H pn
theorem fwo43_h (n : Nat) (g : Nat → Nat → Int)  (C1 : crV n g ≠ 0) : fwo43 n g := bne_iff_ne.2 C1
theorem fw0_p (x0 : Int) (x1 : Int) (x2 : Int) (k : Nat) (q : Nat) (m : Nat) (mm : Nat) (hk : IntKind.i64.wrap ((1 : Int) + (Int.tmod (IntKind.i64.wrap x0) (24 : Int))) = ((k : Nat) : Int)) (b : 0 < k ∧ k ≤ 24 ∧ 0 < m ∧ m ≤ 64 ∧ q < k) (hq : Int.tmod (IntKind.i64.wrap x1) ((k : Nat) : Int) = ((q : Nat) : Int)) (hm : IntKind.i64.wrap ((1 : Int) + (Int.tmod (IntKind.i64.wrap x2) (64 : Int))) = ((m : Nat) : Int)) (mk : k = mm + 1) : ∃ s1 R, SndF Tryz.prog 11 #[.agg #[.int .u8 x0, .int .u8 x1, .int .u8 x2], .slice none 0 0] aw3S0 (.bool true) s1 R 0 :=
  sndY (r := fw0 x0 x1 x2 k q m mm) (by delta fw0; exact Eq.refl _) smx fwK_ok (fw0_g x0 x1 x2 k q m mm) ((fw0_o x0 x1 x2 k q m mm).symm ▸ ⟨⟨⟨⟨⟨⟨⟨⟨⟨⟨⟨⟨⟨⟨⟨⟨⟨⟨⟨⟨⟨⟨⟨⟨⟨⟨⟨⟨⟨⟨⟨⟨⟨⟨⟨⟨⟨⟨⟨⟨⟨⟨⟨⟨⟨⟨⟨trivial, fwo0_h⟩, (fwo1_h x0)⟩, fwo2_h⟩, (fwo3_h x0)⟩, (fwo4_h x0 k hk)⟩, fwo5_h⟩, (fwo6_h x1)⟩, (fwo7_h k q m b)⟩, (fwo8_h x1 k q hq)⟩, fwo9_h⟩, (fwo10_h x2)⟩, fwo11_h⟩, (fwo12_h x2)⟩, (fwo13_h m x2 hm)⟩, (fwo14_h m k q b)⟩, fwo15_h⟩, fwo15_h⟩, fwo15_h⟩, fwo15_h⟩, fwo15_h⟩, (fwo16_h k)⟩, (fwo16_h k)⟩, (fwo17_h m k q b)⟩, (fwo16_h k)⟩, (fwo16_h k)⟩, (fwo18_h m k q b)⟩, (fwo19_h k q m b)⟩, (fwo20_h m k q b)⟩, fwo15_h⟩, fwo15_h⟩, fwo15_h⟩, fwo15_h⟩, fwo15_h⟩, (fwo21_h m k q b)⟩, (fwo22_h m x0 x1 k q mm x2 b mk)⟩, (fwo23_h k q m b)⟩, (fwo24_h m k q mm b)⟩, (fwo25_h m k q mm b mk)⟩, fwo26_h⟩, fwo26_h⟩, fwo26_h⟩, fwo26_h⟩, fwo27_h⟩, fwo27_h⟩, fwo27_h⟩, fwo27_h⟩, fwo27_h⟩)
theorem fw1_p (c : Nat) (x0 : Int) (x1 : Int) (x2 : Int) (k : Nat) (q : Nat) (m : Nat) (mm : Nat) (hk : IntKind.i64.wrap ((1 : Int) + (Int.tmod (IntKind.i64.wrap x0) (24 : Int))) = ((k : Nat) : Int)) (b : 0 < k ∧ k ≤ 24 ∧ 0 < m ∧ m ≤ 64 ∧ q < k) (hq : Int.tmod (IntKind.i64.wrap x1) ((k : Nat) : Int) = ((q : Nat) : Int)) (hm : IntKind.i64.wrap ((1 : Int) + (Int.tmod (IntKind.i64.wrap x2) (64 : Int))) = ((m : Nat) : Int)) (mk : k = mm + 1) : ∃ s1 R, SndF Tryz.prog 11 #[.agg #[.int .u8 x0, .int .u8 x1, .int .u8 x2], .slice (some ⟨6, 0, none⟩) 0 c] (aw3S0.push (.hole)) (.bool true) s1 R 0 :=
  sndY (r := fw1 c x0 x1 x2 k q m mm) (by delta fw1; exact Eq.refl _) smx fwK_ok (fw1_g c x0 x1 x2 k q m mm) ((fw1_o c x0 x1 x2 k q m mm).symm ▸ ⟨⟨⟨⟨⟨⟨⟨⟨⟨⟨⟨⟨⟨⟨⟨⟨⟨⟨⟨⟨⟨⟨⟨⟨⟨⟨⟨⟨⟨⟨⟨⟨⟨⟨⟨⟨⟨⟨⟨⟨⟨⟨⟨⟨⟨⟨⟨trivial, fwo0_h⟩, (fwo1_h x0)⟩, fwo2_h⟩, (fwo3_h x0)⟩, (fwo4_h x0 k hk)⟩, fwo5_h⟩, (fwo6_h x1)⟩, (fwo7_h k q m b)⟩, (fwo8_h x1 k q hq)⟩, fwo9_h⟩, (fwo10_h x2)⟩, fwo11_h⟩, (fwo12_h x2)⟩, (fwo13_h m x2 hm)⟩, (fwo14_h m k q b)⟩, fwo15_h⟩, fwo15_h⟩, fwo15_h⟩, fwo15_h⟩, fwo15_h⟩, (fwo16_h k)⟩, (fwo16_h k)⟩, (fwo17_h m k q b)⟩, (fwo16_h k)⟩, (fwo16_h k)⟩, (fwo18_h m k q b)⟩, (fwo19_h k q m b)⟩, (fwo20_h m k q b)⟩, fwo15_h⟩, fwo15_h⟩, fwo15_h⟩, fwo15_h⟩, fwo15_h⟩, (fwo21_h m k q b)⟩, (fwo28_h m c x0 x1 k q mm x2 b mk)⟩, (fwo23_h k q m b)⟩, (fwo24_h m k q mm b)⟩, (fwo25_h m k q mm b mk)⟩, fwo26_h⟩, fwo26_h⟩, fwo26_h⟩, fwo26_h⟩, fwo27_h⟩, fwo27_h⟩, fwo27_h⟩, fwo27_h⟩, fwo27_h⟩)
theorem fw2_p (n : Nat) (c : Nat) (g : Nat → Nat → Int) (x0 : Int) (x1 : Int) (x2 : Int) (k : Nat) (q : Nat) (m : Nat) (mm : Nat) (hk : IntKind.i64.wrap ((1 : Int) + (Int.tmod (IntKind.i64.wrap x0) (24 : Int))) = ((k : Nat) : Int)) (b : 0 < k ∧ k ≤ 24 ∧ 0 < m ∧ m ≤ 64 ∧ q < k) (hq : Int.tmod (IntKind.i64.wrap x1) ((k : Nat) : Int) = ((q : Nat) : Int)) (hm : IntKind.i64.wrap ((1 : Int) + (Int.tmod (IntKind.i64.wrap x2) (64 : Int))) = ((m : Nat) : Int)) (mk : k = mm + 1) (n0 : n ≠ 0) (N : 24 < n) : ∃ s1 R, SndF Tryz.prog 11 #[.agg #[.int .u8 x0, .int .u8 x1, .int .u8 x2], .slice (some ⟨6, 0, none⟩) n c] (aw3S0.push (.rows n 1 (fun i j => .int .i64 (g i j)) 0 true 0 true)) (.bool true) s1 R 0 :=
  sndY (r := fw2 n c g x0 x1 x2 k q m mm) (by delta fw2; exact Eq.refl _) smx fwK_ok (fw2_g n c g x0 x1 x2 k q m mm) ((fw2_o n c g x0 x1 x2 k q m mm).symm ▸ ⟨⟨⟨⟨⟨⟨⟨⟨⟨⟨⟨⟨⟨⟨⟨⟨⟨⟨⟨⟨⟨⟨⟨⟨⟨⟨⟨⟨⟨⟨⟨⟨⟨⟨⟨⟨⟨⟨⟨⟨⟨⟨⟨⟨⟨⟨⟨trivial, fwo0_h⟩, (fwo1_h x0)⟩, fwo2_h⟩, (fwo3_h x0)⟩, (fwo4_h x0 k hk)⟩, fwo5_h⟩, (fwo6_h x1)⟩, (fwo7_h k q m b)⟩, (fwo8_h x1 k q hq)⟩, fwo9_h⟩, (fwo10_h x2)⟩, fwo11_h⟩, (fwo12_h x2)⟩, (fwo13_h m x2 hm)⟩, (fwo14_h m k q b)⟩, fwo15_h⟩, fwo15_h⟩, fwo15_h⟩, fwo15_h⟩, fwo15_h⟩, (fwo16_h k)⟩, (fwo16_h k)⟩, (fwo17_h m k q b)⟩, (fwo16_h k)⟩, (fwo16_h k)⟩, (fwo18_h m k q b)⟩, (fwo19_h k q m b)⟩, (fwo20_h m k q b)⟩, fwo15_h⟩, fwo15_h⟩, fwo15_h⟩, fwo15_h⟩, fwo15_h⟩, (fwo21_h m k q b)⟩, (fwo29_h n m c g x0 x1 k q mm x2 b mk)⟩, (fwo23_h k q m b)⟩, (fwo24_h m k q mm b)⟩, (fwo25_h m k q mm b mk)⟩, (fwo30_h n n0)⟩, (fwo30_h n n0)⟩, (fwo30_h n n0)⟩, (fwo30_h n n0)⟩, (fwo31_h n N)⟩, (fwo31_h n N)⟩, (fwo31_h n N)⟩, (fwo31_h n N)⟩, fwo27_h⟩)
theorem fw3_p (n : Nat) (c : Nat) (g : Nat → Nat → Int) (x0 : Int) (x1 : Int) (x2 : Int) (k : Nat) (q : Nat) (m : Nat) (mm : Nat) (p : Nat) (hk : IntKind.i64.wrap ((1 : Int) + (Int.tmod (IntKind.i64.wrap x0) (24 : Int))) = ((k : Nat) : Int)) (b : 0 < k ∧ k ≤ 24 ∧ 0 < m ∧ m ≤ 64 ∧ q < k) (hq : Int.tmod (IntKind.i64.wrap x1) ((k : Nat) : Int) = ((q : Nat) : Int)) (hm : IntKind.i64.wrap ((1 : Int) + (Int.tmod (IntKind.i64.wrap x2) (64 : Int))) = ((m : Nat) : Int)) (mk : k = mm + 1) (n0 : n ≠ 0) (N24 : n ≤ 24) (C : crV n g = 0) (hp : Int.tmod (IntKind.i64.wrap x1) ((n : Nat) : Int) = ((p : Nat) : Int)) (pn : p < n) : ∃ s1 R, SndF Tryz.prog 11 #[.agg #[.int .u8 x0, .int .u8 x1, .int .u8 x2], .slice (some ⟨6, 0, none⟩) n c] (aw3S0.push (.rows n 1 (fun i j => .int .i64 (g i j)) 0 true 0 true)) (.bool true) s1 R 0 :=
  sndY (r := fw3 n c g x0 x1 x2 k q m mm p) (by delta fw3; exact Eq.refl _) smx fwK_ok (fw3_g n c g x0 x1 x2 k q m mm p) ((fw3_o n c g x0 x1 x2 k q m mm p).symm ▸ ⟨⟨⟨⟨⟨⟨⟨⟨⟨⟨⟨⟨⟨⟨⟨⟨⟨⟨⟨⟨⟨⟨⟨⟨⟨⟨⟨⟨⟨⟨⟨⟨⟨⟨⟨⟨⟨⟨⟨⟨⟨⟨⟨⟨⟨⟨⟨⟨⟨⟨⟨⟨⟨⟨⟨⟨⟨⟨⟨⟨⟨⟨⟨⟨⟨⟨trivial, fwo0_h⟩, (fwo1_h x0)⟩, fwo2_h⟩, (fwo3_h x0)⟩, (fwo4_h x0 k hk)⟩, fwo5_h⟩, (fwo6_h x1)⟩, (fwo7_h k q m b)⟩, (fwo8_h x1 k q hq)⟩, fwo9_h⟩, (fwo10_h x2)⟩, fwo11_h⟩, (fwo12_h x2)⟩, (fwo13_h m x2 hm)⟩, (fwo14_h m k q b)⟩, fwo15_h⟩, fwo15_h⟩, fwo15_h⟩, fwo15_h⟩, fwo15_h⟩, (fwo16_h k)⟩, (fwo16_h k)⟩, (fwo17_h m k q b)⟩, (fwo16_h k)⟩, (fwo16_h k)⟩, (fwo18_h m k q b)⟩, (fwo19_h k q m b)⟩, (fwo20_h m k q b)⟩, fwo15_h⟩, fwo15_h⟩, fwo15_h⟩, fwo15_h⟩, fwo15_h⟩, (fwo21_h m k q b)⟩, (fwo29_h n m c g x0 x1 k q mm x2 b mk)⟩, (fwo23_h k q m b)⟩, (fwo24_h m k q mm b)⟩, (fwo25_h m k q mm b mk)⟩, (fwo30_h n n0)⟩, (fwo30_h n n0)⟩, (fwo30_h n n0)⟩, (fwo30_h n n0)⟩, (fwo32_h n N24)⟩, (fwo32_h n N24)⟩, (fwo33_h n g N24)⟩, (fwo32_h n N24)⟩, (fwo32_h n N24)⟩, (fwo34_h n g C)⟩, fwo5_h⟩, (fwo6_h x1)⟩, (fwo35_h n)⟩, (fwo30_h n n0)⟩, (fwo36_h n x1 p hp)⟩, (fwo37_h n n0 N24)⟩, (fwo38_h n g p N24 C pn)⟩, fwo15_h⟩, fwo15_h⟩, fwo15_h⟩, fwo15_h⟩, fwo15_h⟩, fwo15_h⟩, (fwo39_h n g p)⟩, (fwo40_h n m c g x0 x1 k q mm p x2 N24 C pn)⟩, (fwo41_h n g p N24)⟩, (fwo42_h n g p pn)⟩, (fwo42_h n g p pn)⟩)
theorem fw4_p (n : Nat) (c : Nat) (g : Nat → Nat → Int) (x0 : Int) (x1 : Int) (x2 : Int) (k : Nat) (q : Nat) (m : Nat) (mm : Nat) (hk : IntKind.i64.wrap ((1 : Int) + (Int.tmod (IntKind.i64.wrap x0) (24 : Int))) = ((k : Nat) : Int)) (b : 0 < k ∧ k ≤ 24 ∧ 0 < m ∧ m ≤ 64 ∧ q < k) (hq : Int.tmod (IntKind.i64.wrap x1) ((k : Nat) : Int) = ((q : Nat) : Int)) (hm : IntKind.i64.wrap ((1 : Int) + (Int.tmod (IntKind.i64.wrap x2) (64 : Int))) = ((m : Nat) : Int)) (mk : k = mm + 1) (n0 : n ≠ 0) (N24 : n ≤ 24) (C1 : crV n g ≠ 0) : ∃ s1 R, SndF Tryz.prog 11 #[.agg #[.int .u8 x0, .int .u8 x1, .int .u8 x2], .slice (some ⟨6, 0, none⟩) n c] (aw3S0.push (.rows n 1 (fun i j => .int .i64 (g i j)) 0 true 0 true)) (.bool true) s1 R 0 :=
  sndY (r := fw4 n c g x0 x1 x2 k q m mm) (by delta fw4; exact Eq.refl _) smx fwK_ok (fw4_g n c g x0 x1 x2 k q m mm) ((fw4_o n c g x0 x1 x2 k q m mm).symm ▸ ⟨⟨⟨⟨⟨⟨⟨⟨⟨⟨⟨⟨⟨⟨⟨⟨⟨⟨⟨⟨⟨⟨⟨⟨⟨⟨⟨⟨⟨⟨⟨⟨⟨⟨⟨⟨⟨⟨⟨⟨⟨⟨⟨⟨⟨⟨⟨⟨trivial, fwo0_h⟩, (fwo1_h x0)⟩, fwo2_h⟩, (fwo3_h x0)⟩, (fwo4_h x0 k hk)⟩, fwo5_h⟩, (fwo6_h x1)⟩, (fwo7_h k q m b)⟩, (fwo8_h x1 k q hq)⟩, fwo9_h⟩, (fwo10_h x2)⟩, fwo11_h⟩, (fwo12_h x2)⟩, (fwo13_h m x2 hm)⟩, (fwo14_h m k q b)⟩, fwo15_h⟩, fwo15_h⟩, fwo15_h⟩, fwo15_h⟩, fwo15_h⟩, (fwo16_h k)⟩, (fwo16_h k)⟩, (fwo17_h m k q b)⟩, (fwo16_h k)⟩, (fwo16_h k)⟩, (fwo18_h m k q b)⟩, (fwo19_h k q m b)⟩, (fwo20_h m k q b)⟩, fwo15_h⟩, fwo15_h⟩, fwo15_h⟩, fwo15_h⟩, fwo15_h⟩, (fwo21_h m k q b)⟩, (fwo29_h n m c g x0 x1 k q mm x2 b mk)⟩, (fwo23_h k q m b)⟩, (fwo24_h m k q mm b)⟩, (fwo25_h m k q mm b mk)⟩, (fwo30_h n n0)⟩, (fwo30_h n n0)⟩, (fwo30_h n n0)⟩, (fwo30_h n n0)⟩, (fwo32_h n N24)⟩, (fwo32_h n N24)⟩, (fwo33_h n g N24)⟩, (fwo32_h n N24)⟩, (fwo32_h n N24)⟩, (fwo43_h n g C1)⟩)
theorem fa_nums {x0 x1 x2 : Int} (r0 : 0 ≤ x0 ∧ x0 ≤ 255) (r1 : 0 ≤ x1 ∧ x1 ≤ 255) (r2 : 0 ≤ x2 ∧ x2 ≤ 255) : ∃ k q m mm : Nat, (IntKind.i64.wrap ((1 : Int) + (Int.tmod (IntKind.i64.wrap x0) (24 : Int))) = ((k : Nat) : Int)) ∧ (Int.tmod (IntKind.i64.wrap x1) ((k : Nat) : Int) = ((q : Nat) : Int)) ∧ (IntKind.i64.wrap ((1 : Int) + (Int.tmod (IntKind.i64.wrap x2) (64 : Int))) = ((m : Nat) : Int)) ∧ (0 < k ∧ k ≤ 24 ∧ 0 < m ∧ m ≤ 64 ∧ q < k) ∧ k = mm + 1 := by
  have w0 : IntKind.i64.wrap x0 = x0 := IntWalk.i64_in _ (by omega)
  have w1 : IntKind.i64.wrap x1 = x1 := IntWalk.i64_in _ (by omega)
  have w2 : IntKind.i64.wrap x2 = x2 := IntWalk.i64_in _ (by omega)
  rw [w0, w1, w2, Int.tmod_eq_emod_of_nonneg r0.1, Int.tmod_eq_emod_of_nonneg r2.1, IntWalk.i64_in _ (by omega), IntWalk.i64_in _ (by omega)]
  refine ⟨(1 + x0 % 24).toNat, (x1 % (((1 + x0 % 24).toNat : Nat) : Int)).toNat, (1 + x2 % 64).toNat, (x0 % 24).toNat, ?_, ?_, ?_, ?_, ?_⟩
  · omega
  · rw [Int.tmod_eq_emod_of_nonneg r1.1, Int.toNat_of_nonneg (Int.emod_nonneg _ (by omega))]
  · omega
  · have h1 := Int.emod_nonneg x1 (show (((1 + x0 % 24).toNat : Nat) : Int) ≠ 0 by omega)
    have h2 := Int.emod_lt_of_pos x1 (show 0 < (((1 + x0 % 24).toNat : Nat) : Int) by omega)
    omega
  · omega
theorem fa_to {x1 : Int} {n : Nat} (r1 : 0 ≤ x1 ∧ x1 ≤ 255) (n0 : n ≠ 0) : ∃ p : Nat, Int.tmod (IntKind.i64.wrap x1) ((n : Nat) : Int) = ((p : Nat) : Int) ∧ p < n := by
  rw [IntWalk.i64_in x1 (by omega), Int.tmod_eq_emod_of_nonneg r1.1]
  have h1 := Int.emod_nonneg x1 (show ((n : Nat) : Int) ≠ 0 by omega)
  have h2 := Int.emod_lt_of_pos x1 (show 0 < ((n : Nat) : Int) by omega)
  exact ⟨(x1 % (n : Int)).toNat, (Int.toNat_of_nonneg h1).symm, by omega⟩
theorem fa_nil (x0 : Int) (x1 : Int) (x2 : Int) (r0 : 0 ≤ x0 ∧ x0 ≤ 255) (r1 : 0 ≤ x1 ∧ x1 ≤ 255) (r2 : 0 ≤ x2 ∧ x2 ≤ 255) : ∃ s1 R, SndF Tryz.prog 11 #[.agg #[.int .u8 x0, .int .u8 x1, .int .u8 x2], .slice none 0 0] aw3S0 (.bool true) s1 R 0 := by
  obtain ⟨k, q, m, mm, hk, hq, hm, b, mk⟩ := fa_nums r0 r1 r2
  exact fw0_p x0 x1 x2 k q m mm hk b hq hm mk
theorem fa_emp (c : Nat) (x0 : Int) (x1 : Int) (x2 : Int) (r0 : 0 ≤ x0 ∧ x0 ≤ 255) (r1 : 0 ≤ x1 ∧ x1 ≤ 255) (r2 : 0 ≤ x2 ∧ x2 ≤ 255) : ∃ s1 R, SndF Tryz.prog 11 #[.agg #[.int .u8 x0, .int .u8 x1, .int .u8 x2], .slice (some ⟨6, 0, none⟩) 0 c] (aw3S0.push (.hole)) (.bool true) s1 R 0 := by
  obtain ⟨k, q, m, mm, hk, hq, hm, b, mk⟩ := fa_nums r0 r1 r2
  exact fw1_p c x0 x1 x2 k q m mm hk b hq hm mk
theorem fa_row (n : Nat) (c : Nat) (g : Nat → Nat → Int) (x0 : Int) (x1 : Int) (x2 : Int) (r0 : 0 ≤ x0 ∧ x0 ≤ 255) (r1 : 0 ≤ x1 ∧ x1 ≤ 255) (r2 : 0 ≤ x2 ∧ x2 ≤ 255) (n0 : n ≠ 0) : ∃ s1 R, SndF Tryz.prog 11 #[.agg #[.int .u8 x0, .int .u8 x1, .int .u8 x2], .slice (some ⟨6, 0, none⟩) n c] (aw3S0.push (.rows n 1 (fun i j => .int .i64 (g i j)) 0 true 0 true)) (.bool true) s1 R 0 := by
  obtain ⟨k, q, m, mm, hk, hq, hm, b, mk⟩ := fa_nums r0 r1 r2
  by_cases N : 24 < n
  · exact fw2_p n c g x0 x1 x2 k q m mm hk b hq hm mk n0 N
  · have N24 : n ≤ 24 := by omega
    by_cases C : crV n g = 0
    · obtain ⟨p, hp, pn⟩ := fa_to r1 n0
      exact fw3_p n c g x0 x1 x2 k q m mm p hk b hq hm mk n0 N24 C hp pn
    · have C1 := C
      exact fw4_p n c g x0 x1 x2 k q m mm hk b hq hm mk n0 N24 C1
end Go.Proofs.YtbkpnhbcihcgaaaGreatDoor
end
section
namespace Go.Proofs.YtbkpnhbcihcgaaaGreatDoor
set_option linter.all false
open Go.ChangeShapes Go.WideShapes Go.RowKit
namespace Mini

def pairsK (g : TypeId → Option (List IntKind)) (P : Program) : Nat → List (Nat × TypeId) → Option (List IntKind)
  | _, [] => some []
  | off, x :: l => match g x.2 with
    | some ks => match (x.1 == off) && (P.cellsOf x.2 == ks.length) with
      | true => match pairsK g P (off + ks.length) l with
        | some r => some (ks ++ r)
        | none => none
      | false => none
    | none => none
def kindsT (P : Program) : Nat → TypeId → Option (List IntKind)
  | 0, _ => none
  | n + 1, t => match P.underlying t with
    | some (.int k) => some [k]
    | some (.array m e) => match pairsK (kindsT P n) P 0 ((List.range m).map fun i => (i * P.cellsOf e, e)) with
      | some ks => match P.cellsOf t == ks.length with
        | true => some ks
        | false => none
      | none => none
    | some (.struct fs) => match pairsK (kindsT P n) P 0 (fs.toList.map fun f => (f.offset, f.type)) with
      | some ks => match P.cellsOf t == ks.length with
        | true => some ks
        | false => none
      | none => none
    | _ => none
def wfs : List IntKind → List Int → Bool
  | k :: ks, n :: ns => (Lit.int k n).wf && wfs ks ns
  | _, _ => true
theorem backI_append : ∀ (ks ks' : List IntKind) (ns ns' : List Int), ns.length = ks.length → backI (ks ++ ks') (ns ++ ns') = backI ks ns ++ backI ks' ns'
  | [], ks', [], ns', _ => rfl
  | k :: ks, ks', n :: ns, ns', h => by
    show Value.int k n :: backI (ks ++ ks') (ns ++ ns') = _
    rw [backI_append ks ks' ns ns' (by simpa using h)]
    rfl
  | [], ks', n :: ns, ns', h => by cases h
  | k :: ks, ks', [], ns', h => by cases h
theorem wfs_append : ∀ (ks ks' : List IntKind) (ns ns' : List Int), ns.length = ks.length → wfs ks ns = true → wfs ks' ns' = true → wfs (ks ++ ks') (ns ++ ns') = true
  | [], ks', [], ns', _, _, h => h
  | k :: ks, ks', n :: ns, ns', h, h1, h2 => by
    simp only [wfs, Bool.and_eq_true] at h1
    show ((Lit.int k n).wf && wfs (ks ++ ks') (ns ++ ns')) = true
    rw [h1.1, wfs_append ks ks' ns ns' (by simpa using h) h1.2 h2]
    rfl
  | [], ks', n :: ns, ns', h, _, _ => by cases h
  | k :: ks, ks', [], ns', h, _, _ => by cases h
theorem mapM_map' {α β γ : Type} (f : α → β) (g : β → Option γ) : ∀ l : List α, (l.map f).mapM g = l.mapM fun a => g (f a)
  | [] => rfl
  | a :: l => by simp [List.mapM_cons, mapM_map' f g l]

section
variable {H : Type} {enc : TypeId × Value → H} {P : Program}

def Flat (enc : TypeId × Value → H) (P : Program) (fuel : Nat) (t : TypeId) (cs : List Value) (d : DataW H) (ks : List IntKind) : Prop :=
  ∃ ns, ns.length = ks.length ∧ cs = backI ks ns ∧ wfs ks ns = true ∧ ∀ w b sp held, DataW.trod enc P w b sp held fuel t cs = some (d, [])
theorem flat_pairs {n fuel : Nat} (IH : ∀ (t : TypeId) (ks : List IntKind), kindsT P n t = some ks → ∀ (cs : List Value) (d : DataW H) (p : List MemPlace) w b sp held, DataW.trod enc P w b sp held fuel t cs = some (d, p) → p = [] ∧ Flat enc P fuel t cs d ks) :
    ∀ (L : List (Nat × TypeId)) (off : Nat) (ks : List IntKind) (cs : List Value) (xs : List (DataW H × List MemPlace)) (w : World) (b : Nat) (sp : Nat → Bool) (held : Bool), pairsK (kindsT P n) P off L = some ks → off + ks.length ≤ cs.length →
      L.mapM (fun x => DataW.trod enc P w b sp held fuel x.2 ((cs.drop x.1).take (P.cellsOf x.2))) = some xs →
      xs.flatMap (·.2) = [] ∧ ∃ ns, ns.length = ks.length ∧ (cs.drop off).take ks.length = backI ks ns ∧ wfs ks ns = true ∧ ∀ w b sp held, L.mapM (fun x => DataW.trod enc P w b sp held fuel x.2 ((cs.drop x.1).take (P.cellsOf x.2))) = some xs
  | [], off, ks, cs, xs, w, b, sp, held, hk, hl, hm => by
    cases hk
    simp at hm
    subst hm
    exact ⟨rfl, [], rfl, by simp [backI], rfl, fun _ _ _ _ => rfl⟩
  | x :: L, off, ks, cs, xs, w, b, sp, held, hk, hl, hm => by
    simp only [pairsK] at hk
    split at hk
    · rename_i ks1 hk1
      split at hk
      · rename_i hc
        simp only [Bool.and_eq_true, beq_iff_eq] at hc
        obtain ⟨hx, hcell⟩ := hc
        split at hk
        · rename_i r hr
          cases hk
          simp only [List.length_append] at hl
          simp only [List.mapM_cons, Option.bind_eq_bind, Option.bind_eq_some_iff, Option.pure_def, Option.some.injEq] at hm
          obtain ⟨y, hy, ys, hys, rfl⟩ := hm
          obtain ⟨d, p⟩ := y
          obtain ⟨rfl, ns1, l1, c1, f1, t1⟩ := IH x.2 ks1 hk1 _ d p w b sp held hy
          obtain ⟨e2, ns2, l2, c2, f2, t2⟩ := flat_pairs IH L (off + ks1.length) r cs ys w b sp held hr (by omega) hys
          refine ⟨by simpa using e2, ns1 ++ ns2, by simp [l1, l2], ?_, wfs_append _ _ _ _ l1 f1 f2, fun w' b' sp' held' => ?_⟩
          · rw [backI_append _ _ _ _ l1, ← c2, List.length_append, List.take_add, List.drop_drop]
            rw [hx, hcell] at c1
            rw [c1]
          · simp only [List.mapM_cons, Option.bind_eq_bind, Option.pure_def]
            rw [t1 w' b' sp' held', t2 w' b' sp' held']
            rfl
        · cases hk
      · cases hk
    · cases hk
theorem open_kinds : ∀ (n : Nat) (t : TypeId) (ks : List IntKind), kindsT P n t = some ks → ∀ (fuel : Nat) (cs : List Value) (d : DataW H) (p : List MemPlace) w b sp held, DataW.trod enc P w b sp held fuel t cs = some (d, p) → p = [] ∧ Flat enc P fuel t cs d ks
  | 0, t, ks, hk, fuel, cs, d, p, w, b, sp, held, h => by cases hk
  | n + 1, t, ks, hk, fuel, cs, d, p, w, b, sp, held, h => by
    cases fuel with
    | zero => simp [DataW.trod] at h
    | succ fuel =>
      simp only [kindsT] at hk
      split at hk
      · rename_i k ht
        cases hk
        obtain ⟨z, rfl, hx, hw⟩ := DataW.trod_int ht h
        cases hx
        refine ⟨rfl, [z], rfl, rfl, by simp [wfs, hw], fun w' b' sp' held' => ?_⟩
        simp [DataW.trod, ht, hw]
      · rename_i m e ht
        split at hk
        · rename_i ks' hk'
          split at hk
          · rename_i hc
            cases hk
            have hc := beq_iff_eq.1 hc
            simp only [DataW.trod, ht] at h
            split at h
            · rename_i hl
              obtain ⟨xs, hm, hx⟩ := Option.map_eq_some_iff.1 h
              have hm2 : ((List.range m).map fun i => (i * P.cellsOf e, e)).mapM (fun x => DataW.trod enc P w b sp held fuel x.2 ((cs.drop x.1).take (P.cellsOf x.2))) = some xs := by rw [mapM_map']; exact hm
              obtain ⟨e1, ns, l1, c1, f1, t1⟩ := flat_pairs (fun t ks hk cs d p w b sp held h => open_kinds n t ks hk fuel cs d p w b sp held h) _ 0 ks cs xs w b sp held hk' (by omega) hm2
              simp only [Prod.mk.injEq] at hx
              obtain ⟨rfl, rfl⟩ := hx
              refine ⟨e1, ns, l1, ?_, f1, fun w' b' sp' held' => ?_⟩
              · rw [← c1, List.drop_zero, List.take_of_length_le (by omega)]
              · have := t1 w' b' sp' held'
                rw [mapM_map'] at this
                simp only [DataW.trod, ht, if_pos hl]
                rw [this]
                simp [e1]
            · cases h
          · cases hk
        · cases hk
      · rename_i fs ht
        split at hk
        · rename_i ks' hk'
          split at hk
          · rename_i hc
            cases hk
            have hc := beq_iff_eq.1 hc
            simp only [DataW.trod, ht] at h
            split at h
            · rename_i hl
              obtain ⟨xs, hm, hx⟩ := Option.map_eq_some_iff.1 h
              have hm2 : (fs.toList.map fun f => (f.offset, f.type)).mapM (fun x => DataW.trod enc P w b sp held fuel x.2 ((cs.drop x.1).take (P.cellsOf x.2))) = some xs := by rw [mapM_map']; exact hm
              obtain ⟨e1, ns, l1, c1, f1, t1⟩ := flat_pairs (fun t ks hk cs d p w b sp held h => open_kinds n t ks hk fuel cs d p w b sp held h) _ 0 ks cs xs w b sp held hk' (by omega) hm2
              simp only [Prod.mk.injEq] at hx
              obtain ⟨rfl, rfl⟩ := hx
              refine ⟨e1, ns, l1, ?_, f1, fun w' b' sp' held' => ?_⟩
              · rw [← c1, List.drop_zero, List.take_of_length_le (by omega)]
              · have := t1 w' b' sp' held'
                rw [mapM_map'] at this
                simp only [DataW.trod, ht, if_pos hl]
                rw [this]
                simp [e1]
            · cases h
          · cases hk
        · cases hk
      · cases hk
def isRow (P : Program) (t : TypeId) : Bool := match P.underlying t with
  | some (.struct _) | some (.array _ _) => true
  | _ => false
theorem open_agg {w : World} {base b0 n : Nat} {spare : Nat → Bool} {held : Bool} {r : Reach} {t : TypeId} {v : Value} {d : DataW H} {ps : List MemPlace} {ks : List IntKind} (hr : isRow P t = true) (hk : kindsT P n t = some ks) (hval : Value.okWide P w r b0 t v) (hd : DataW.Trod enc P w base spare held t v d ps) :
    ∃ ns, ns.length = ks.length ∧ v = .agg (backI ks ns).toArray ∧ ps = [] ∧ wfs ks ns = true ∧ ∀ w b sp held, DataW.Trod enc P w b sp held t v d [] := by
  obtain ⟨cs, rfl⟩ : ∃ cs, v = .agg cs := by
    unfold isRow at hr
    unfold Value.okWide at hval
    split at hr
    · rename_i h; rw [h] at hval; obtain ⟨cs, h1, _⟩ := hval; exact ⟨cs, h1⟩
    · rename_i h; rw [h] at hval; obtain ⟨cs, h1, _⟩ := hval; exact ⟨cs, h1⟩
    · cases hr
  obtain ⟨fuel, hf⟩ := hd
  obtain ⟨rfl, ns, l1, c1, f1, t1⟩ := open_kinds n t ks hk fuel _ d ps w base spare held hf
  refine ⟨ns, l1, ?_, rfl, f1, fun w b sp held => ⟨fuel, t1 w b sp held⟩⟩
  congr 1
  apply Array.ext'
  simpa [Value.cells] using c1
end
end Mini
end Go.Proofs.YtbkpnhbcihcgaaaGreatDoor
end
section
namespace Go.Proofs.YtbkpnhbcihcgaaaGreatDoor
set_option linter.all false
open Go.ChangeShapes Go.WideShapes Go.ChangeAt Go.RowKit

section
variable {H : Type} {enc : TypeId × Value → H} {P : Program}
theorem post_below {f : Func} {s : ChangeSpec} {W W' : World} {args : Array Value} {v : Value} {ds gs : List (DataW H)} {ps pa pv : List MemPlace} {apart fresh handsOn again : Bool} (hw : DataW.Whole enc P f.params.toList s.vars apart W args.toList ds gs ps)
    (ok : ∀ (j : Nat) (t : TypeId) (r : Value), f.resultTypes[j]? = some t → (v.resultList f.resultTypes.size)[j]? = some r → Value.okWide P W' .any 0 t r)
    (res : ∀ (b : Nat) (sp : Nat → Bool) (hd : Bool), DataW.TrodAll enc P W' b sp hd f.resultTypes.toList (v.resultList f.resultTypes.size) (s.fn H (ds ++ gs)).results [])
    (arg : ∀ sp : Nat → Bool, (∀ p ∈ ps, sp p.block = true) → DataW.TrodAll enc P W' 0 sp true f.params.toList args.toList (s.fn H (ds ++ gs)).args pa)
    (vrs : ∀ sp : Nat → Bool, (∀ p ∈ ps, sp p.block = true) → DataW.TrodVars enc P W' sp s.vars (s.fn H (ds ++ gs)).vars pv)
    (hps : ps = pa ++ pv) (hb : Below W.heap.size W W') : s.post enc P f apart fresh handsOn again W args v W' := by
  have hb' := hb
  have lt : ∀ p ∈ ps, p.block < W.heap.size := fun p hp => hw.lt p hp
  have old : ∀ p ∈ ps, (fun b => decide (b < W.heap.size)) p.block = true := fun p hp => by simpa using lt p hp
  have whole := hw
  obtain ⟨_, _, _, _, _, hz, hn⟩ := hw
  subst hps
  refine ⟨ds, gs, pa ++ pv, [], pa, pv, whole, res _ _ _, arg _ old, vrs _ old, World.keptBut_mono (fun p hp => ⟨hp, Or.inr (List.mem_append.1 hp)⟩) (hb'.frame (· ∈ pa ++ pv)), fun _ => ⟨ok, _, _, ([] ++ pa) ++ pv, ⟨[] ++ pa, pv, trodAll_append (arg _ (fun _ _ => rfl)) (res _ _ _), vrs _ (fun _ _ => rfl), rfl, fun b off hp => ?_, fun ha => ?_⟩, fun p hp _ => ?_⟩⟩
  · have hin : MemPlace.cell b off ∈ pa ++ pv := by simpa using hp
    exact (hb'.frozen (lt _ hin)).trans (hz b off hin)
  · simpa using hn ha
  · simpa using hp
end

section
open Go.Lib

theorem trod_lit {H : Type} {enc : TypeId × Value → H} {P : Program} {w : World} {base : Nat} {sp : Nat → Bool} {held : Bool} {fuel : Nat} {t : TypeId} {k : IntKind} {z : Int} {cs : List Value} {p : List MemPlace}
    (ht : P.underlying t = some (.int k)) (h : DataW.trod enc P w base sp held fuel t cs = some (.lit (.int k z), p)) : cs = [.int k z] := by
  obtain ⟨z', hc, hd, _⟩ := DataW.trod_int ht h
  cases hd
  exact hc
theorem cells_of_pairs {H : Type} {enc : TypeId × Value → H} {P : Program} {w : World} {base : Nat} {sp : Nat → Bool} {held : Bool} {fuel : Nat} {t e : TypeId} {n : Nat} {k : IntKind} {cs : List Value} {zs : List (Int × Int)} {p : List MemPlace} {fs : Array Field} {f0 f1 : Field}
    (ht : P.underlying t = some (.array n e)) (he : P.underlying e = some (.struct fs)) (hfs : fs.toList = [f0, f1]) (h0 : f0.offset = 0) (h1 : f1.offset = 1) (k0 : P.underlying f0.type = some (.int k)) (k1 : P.underlying f1.type = some (.int k))
    (c0 : P.cellsOf f0.type = 1) (c1 : P.cellsOf f1.type = 1) (hce : P.cellsOf e = 2)
    (h : DataW.trod enc P w base sp held fuel t cs = some (.agg (zs.map fun z => .agg [.lit (.int k z.1), .lit (.int k z.2)]), p)) :
    ∀ (i : Nat) (z : Int × Int), zs[i]? = some z → cs[i * 2]? = some (.int k z.1) ∧ cs[i * 2 + 1]? = some (.int k z.2) := by
  cases fuel with
  | zero => simp [DataW.trod] at h
  | succ fuel =>
    simp only [DataW.trod, ht, hce] at h
    split at h
    · rename_i hl
      obtain ⟨xs, hm, hx⟩ := Option.map_eq_some_iff.1 h
      have hxs : xs.map (·.1) = zs.map fun z => (DataW.agg [.lit (.int k z.1), .lit (.int k z.2)] : DataW H) := by
        have := congrArg Prod.fst hx
        simpa using this
      have hxl : xs.length = n := by simpa using mapM_length hm
      have hzl : zs.length = n := by
        have := congrArg List.length hxs
        simp at this
        omega
      intro i z hz
      have hi : i < n := by
        have := (List.getElem?_eq_some_iff.1 hz).1
        omega
      obtain ⟨b, hb, hf⟩ := mapM_at hm i i (by simp [hi])
      have h2 : (xs.map (·.1))[i]? = some b.1 := by simp [hb]
      rw [hxs] at h2
      simp only [List.getElem?_map, hz, Option.map_some, Option.some.injEq] at h2
      cases fuel with
      | zero => simp [DataW.trod] at hf
      | succ fuel =>
        simp only [DataW.trod, he] at hf
        split at hf
        · obtain ⟨ys, hy, hyb⟩ := Option.map_eq_some_iff.1 hf
          rw [hfs] at hy
          simp only [List.mapM_cons, List.mapM_nil, Option.bind_eq_bind, Option.bind_eq_some_iff, Option.pure_def, Option.some.injEq] at hy
          obtain ⟨y0, e0, l1, ⟨y1, e1, l2, rfl, rfl⟩, rfl⟩ := hy
          have hb1 := congrArg Prod.fst hyb
          simp only [List.map_cons, List.map_nil] at hb1
          rw [← h2] at hb1
          simp only [DataW.agg.injEq, List.cons.injEq, and_true] at hb1
          obtain ⟨q0, q1⟩ := hb1
          obtain ⟨d0, p0⟩ := y0
          obtain ⟨d1, p1⟩ := y1
          simp only at q0 q1
          subst q0 q1
          have g0 := trod_lit k0 e0
          have g1 := trod_lit k1 e1
          rw [h0, c0] at g0
          rw [h1, c1] at g1
          have a0 := congrArg (·[0]?) g0
          have a1 := congrArg (·[0]?) g1
          simp [List.getElem?_take, List.getElem?_drop] at a0 a1
          exact ⟨by simpa using a0, by simpa using a1⟩
        · cases hf
    · cases h
end
theorem pairs_of_laid {P : Program} {W : World} {name : String} {k : IntKind} {zs : List (Int × Int)} {g : Nat} {t e : TypeId} {n : Nat} {fs : Array Field} {f0 f1 : Field}
    (hg : P.globalNamed name = some g) (hty : (P.globals[g]?).map (·.type) = some t) (ht : P.underlying t = some (.array n e)) (he : P.underlying e = some (.struct fs)) (hfs : fs.toList = [f0, f1]) (h0 : f0.offset = 0) (h1 : f1.offset = 1) (k0 : P.underlying f0.type = some (.int k)) (k1 : P.underlying f1.type = some (.int k))
    (c0 : P.cellsOf f0.type = 1) (c1 : P.cellsOf f1.type = 1) (hce : P.cellsOf e = 2)
    (h : laidMet P [(name, .agg (zs.map fun z => .agg [.lit (.int k z.1), .lit (.int k z.2)]))] W) (i : Nat) (z : Int × Int) (hz : zs[i]? = some z) :
    W.cell? ⟨g, i * 2, none⟩ = some (.int k z.1) ∧ W.cell? ⟨g, i * 2 + 1, none⟩ = some (.int k z.2) := by
  obtain ⟨ps, ⟨g', t', cs, fuel, p, q, hg', ht', hvar, hd, _, _⟩, _⟩ := h
  obtain rfl := Option.some.inj (hg.symm.trans hg')
  obtain rfl := Option.some.inj (hty.symm.trans ht')
  obtain ⟨a, b⟩ := cells_of_pairs ht he hfs h0 h1 k0 k1 c0 c1 hce hd i z hz
  have r0 := World.var?_cell hg hvar (i * 2)
  have r1 := World.var?_cell hg hvar (i * 2 + 1)
  constructor
  · rw [r0]; simpa using a
  · rw [r1]; simpa using b
end Go.Proofs.YtbkpnhbcihcgaaaGreatDoor
end
section
namespace Go.Proofs.YtbkpnhbcihcgaaaGreatDoor
set_option linter.all false
open Go.ChangeShapes Go.WideShapes Go.ChangeAt Go.RowKit Go.Lib
end Go.Proofs.YtbkpnhbcihcgaaaGreatDoor
end
section
namespace Go.Proofs.YtbkpnhbcihcgaaaGreatDoor
set_option linter.all false
open Go.RowKit
namespace Mini
variable {P : Program} {s s1 : St} {R W : Nat}

def rhoX (P : Program) (w : World) (ext : Nat → Option Loc) : Ren := fun b =>
  if b < P.globals.size then some ⟨b, 0, true, 0, match w.heap[b]? with | some (.cells cs _ _) => cs.size | _ => 0⟩ else ext b
theorem calls_ofX {f : FuncId} {args args' : Array Value} {v : Value} {w : World} {ext : Nat → Option Loc} (h : SndF P f args s v s1 R W) (hg : ground 8 v = true) (hn : P.globals.size ≤ s.next)
    (hh : ∀ b, b < P.globals.size → s.get b = .hole ∨ ∃ c e, s.get b = .cells c e true 0 true ∧ c ≠ [] ∧ c.all (ground 8) = true ∧ ∀ (i : Nat) (v : Value), c[i]? = some v → w.cell? ⟨b, i, none⟩ = some v)
    (hx : ∀ b, P.globals.size ≤ b → b < s.next → s.get b ≠ .hole → ∃ L o', ext b = some L ∧ (roO (s.get b) = false → P.globals.size ≤ L.blk) ∧ w.heap[L.blk]? = some o' ∧ OR (rhoX P w ext) L (s.get b) o')
    (hb : ∀ b, s.next ≤ b → ext b = none) (hi : ∀ b b' L L', P.globals.size ≤ b → P.globals.size ≤ b' → s.get b ≠ .hole → s.get b' ≠ .hole → (roO (s.get b) && roO (s.get b')) = false → ext b = some L → ext b' = some L' → L.blk = L'.blk → b = b')
    (ha : VRs (rhoX P w ext) args args') (hw : ∀ b, b < s.next → W.testBit b = false) : Calls P f args' w fun e w' => e = .returned v ∧ Below w.heap.size w w' := by
  have hG : Glob P (rhoX P w ext) := fun g hg => ⟨_, if_pos hg, rfl, rfl⟩
  have hlt : ∀ b, s.get b ≠ .hole → b < s.next := fun b hb => St.lt_of_live hb
  have hblk : ∀ b L, s.get b ≠ .hole → rhoX P w ext b = some L → (b < P.globals.size ∧ L.blk = b) ∨ (P.globals.size ≤ b ∧ ext b = some L ∧ (roO (s.get b) = false → P.globals.size ≤ L.blk)) := fun b L hb hL => by
    unfold rhoX at hL
    split at hL
    · rename_i c; cases hL; exact .inl ⟨c, rfl⟩
    · rename_i c
      obtain ⟨L2, o2, e1, e2, _⟩ := hx b (by omega) (hlt b hb) hb
      rw [hL] at e1
      cases e1
      exact .inr ⟨by omega, hL, e2⟩
  have hp : Pre P none s s1 R W none (rhoX P w ext) s.get w := by
    refine ⟨hG, trivial, fun _ _ _ => rfl, fun b h1 h2 => ⟨?_, St.get_beyond s b h1⟩, fun b hb => ?_, fun b b' L L' h1 h2 hq e1 e2 he => ?_⟩
    · show (if b < P.globals.size then _ else ext b) = none
      rw [if_neg (by omega)]
      exact hb b h1
    · by_cases c : b < P.globals.size
      · rcases hh b c with k | ⟨cs0, e, k1, k2, k3, k4⟩
        · exact absurd k hb
        · obtain ⟨cs, e', fr, q1, q2, q3⟩ := cells_of k2 k4
          refine ⟨_, .cells cs e' fr, if_pos c, q1, ?_⟩
          rw [k1]
          refine ⟨rfl, rfl, fun h => (by cases h), ?_, ?_, fun i u hi => ⟨u, by simpa using q3 i u hi, ground_refl 8 (List.all_eq_true.1 k3 u (List.mem_of_getElem? hi))⟩, fun h => (by cases h), fun h => (by cases h)⟩
          · simp only [q1]
          · simp only [q1, Nat.zero_add]; exact q2
      · obtain ⟨L, o', e1, _, e3, e4⟩ := hx b (by omega) (hlt b hb) hb
        exact ⟨L, o', by show (if b < P.globals.size then _ else ext b) = _; rw [if_neg c]; exact e1, e3, e4⟩
    · have htab : ∀ b, b < P.globals.size → s.get b ≠ .hole → roO (s.get b) = true := fun b hb hn => by
        rcases hh b hb with k | ⟨c, e, k1, _⟩
        · exact absurd k hn
        · rw [k1]; rfl
      rcases hblk b L h1 e1 with ⟨a1, a2⟩ | ⟨a1, a2, a3⟩ <;> rcases hblk b' L' h2 e2 with ⟨c1, c2⟩ | ⟨c1, c2, c3⟩
      · omega
      · rw [htab b a1 h1, Bool.true_and] at hq
        have := c3 hq
        omega
      · rw [htab b' c1 h2, Bool.and_true] at hq
        have := a3 hq
        omega
      · exact hi b b' L L' a1 c1 h1 h2 hq a2 c2 he
  refine callsIn_wide.1 (h.2 0 (rhoX P w ext) s.get args' w _ hp ha fun ρ1 v' w1 p1 _ hv => ?_)
  have hv' := ground_eq 8 hg hv
  subst hv'
  refine ⟨rfl, p1.os, p1.tape, p1.output, p1.size, fun k hk => p1.frame k hk fun b L hb hlt hL => ?_⟩
  have := hw b hlt
  rw [hb] at this
  cases this
theorem or_read {ρ : Ren} {n k : Nat} {g : Nat → Nat → Value} {e : TypeId} {cs : Array Value} {e' : TypeId} {fr : Nat × Nat} {blk base : Nat} (hl : base + n * k ≤ cs.size) (hg : ∀ i j, i < n → j < k → ground 8 (g i j) = true)
    (h : ∀ i j, i < n → j < k → cs[base + (i * k + j)]? = some (g i j)) : OR ρ ⟨blk, base, true, 0, cs.size⟩ (.rows n k g e true 0 true) (.cells cs e' fr) := by
  refine ⟨rfl, rfl, fun h => (by cases h), rfl, by rw [rowsL_len]; exact hl, fun i v hi => ?_, fun h => (by cases h), fun h => (by cases h)⟩
  have hlt : i < n * k := by
    have := (List.getElem?_eq_some_iff.1 hi).1
    rwa [rowsL_len] at this
  rw [rowsL_at hlt] at hi
  cases hi
  have hk : 0 < k := by
    rcases Nat.eq_zero_or_pos k with z | z
    · subst z; simp at hlt
    · exact z
  have h1 := (Nat.div_lt_iff_lt_mul hk).2 hlt
  have h2 := Nat.mod_lt i hk
  have h3 := h _ _ h1 h2
  rw [Nat.mul_comm, Nat.div_add_mod] at h3
  exact ⟨_, h3, ground_refl 8 (hg _ _ h1 h2)⟩
end Mini
end Go.Proofs.YtbkpnhbcihcgaaaGreatDoor
end
section
namespace Go.Proofs.YtbkpnhbcihcgaaaGreatDoor
set_option linter.all false
open Go.ChangeShapes Go.WideShapes Go.ChangeAt Go.RowKit Go.Lib Go.Deep
namespace Mini
def RowsAt (W : World) (ks : List IntKind) (v : Value) : Prop := v = .slice none 0 0 ∨ ∃ (b off len cap : Nat) (g : Nat → Nat → Int), v = .slice (some ⟨b, off, none⟩) len cap ∧ len ≤ cap ∧ cap ≤ maxLen ∧
  ∀ i j, i < len → j < ks.length → W.cell? ⟨b, off + (i * ks.length + j), none⟩ = some (.int (ks.getD j .i64) (g i j)) ∧ (Lit.int (ks.getD j .i64) (g i j)).wf = true
theorem wfs_at : ∀ {ks : List IntKind} {ns : List Int} {j : Nat}, ns.length = ks.length → wfs ks ns = true → j < ks.length → (Lit.int (ks.getD j .i64) (ns.getD j 0)).wf = true
  | [], _, j, _, _, h => absurd h (by simp)
  | k :: ks, [], j, h, _, _ => by cases h
  | k :: ks, n :: ns, 0, _, h, _ => by simp only [wfs, Bool.and_eq_true] at h; exact h.1
  | k :: ks, n :: ns, j + 1, hl, h, hj => by
    simp only [wfs, Bool.and_eq_true] at h
    have := wfs_at (ks := ks) (ns := ns) (j := j) (by simpa using hl) h.2 (by simpa using hj)
    simpa using this
theorem backI_at : ∀ {ks : List IntKind} {ns : List Int} {j : Nat}, ns.length = ks.length → j < ks.length → (backI ks ns)[j]? = some (.int (ks.getD j .i64) (ns.getD j 0))
  | [], _, j, _, h => absurd h (by simp)
  | k :: ks, [], j, h, _ => by cases h
  | k :: ks, n :: ns, 0, _, _ => rfl
  | k :: ks, n :: ns, j + 1, hl, hj => by
    have := backI_at (ks := ks) (ns := ns) (j := j) (by simpa using hl) (by simpa using hj)
    simpa [backI] using this
theorem rows_of {H : Type} {enc : TypeId × Value → H} {P : Program} {W : World} {base m : Nat} {t e : TypeId} {v : Value} {d : DataW H} {p : List MemPlace} {ks : List IntKind} (ht : P.underlying t = some (.slice e)) (hk : kindsT P m e = some ks) (hc : P.cellsOf e = ks.length)
    (hv : Value.okWide P W .any base t v) (h : DataW.Trod enc P W 0 (fun _ => true) true t v d p) : RowsAt W ks v := by
  obtain ⟨a, len, cap, rfl⟩ := okWide_slice ht hv
  obtain ⟨fuel, hf⟩ := h
  rcases open_slice ht hf with ⟨hcs, _⟩ | ⟨a', len', cap', m', n, D, Pl, hcs, _, hl, hmx, hm, _, hx⟩
  · left
    simpa [Value.cells] using hcs
  · right
    have hcs : Value.slice a len cap = .slice (some a') len' cap' := by simpa [Value.cells] using hcs
    cases hcs
    simp only [Value.okWide, ht, Cell.okWide, Cell.ok, World.has] at hv
    obtain ⟨b, off, spot⟩ := a'
    have hs : spot = none := hv.2.2.2.1
    subst hs
    have hm' : len ≤ m' := by rw [hm]; exact hl
    have z0 : ∀ i, ∃ ns : List Int, i < len → ns.length = ks.length ∧ wfs ks ns = true ∧ ∀ j, j < ks.length → W.cell? ⟨b, off + (i * ks.length + j), none⟩ = (backI ks ns)[j]? := fun i => by
      by_cases hi : i < len
      · obtain ⟨cs', q1, q2⟩ := hx i (by omega)
        rw [hc] at q1
        obtain ⟨_, hlen, hcell⟩ := World.cells?_some q1
        obtain ⟨_, ns, l1, c1, f1, _⟩ := open_kinds m e ks hk n cs' (D i) (Pl i) W 0 (fun _ => true) true q2
        refine ⟨ns, fun _ => ⟨l1, f1, fun j hj => ?_⟩⟩
        have h2 := hcell j hj
        rw [Go.WideShapes.add_plain, Go.WideShapes.add_plain] at h2
        rw [← c1, ← h2]
        congr 2
        omega
      · exact ⟨[], fun h => absurd h hi⟩
    refine ⟨b, off, len, cap, fun i j => (Classical.choose (z0 i)).getD j 0, rfl, hl, hmx, fun i j hi hj => ?_⟩
    obtain ⟨e1, e2, e3⟩ := Classical.choose_spec (z0 i) hi
    exact ⟨(e3 j hj).trans (backI_at e1 hj), wfs_at e1 e2 hj⟩
def extAt (N b off sz : Nat) : Nat → Option Mini.Loc := fun x => if x = N then some ⟨b, off, true, 0, sz⟩ else none
theorem cell_obj {W : World} {b off : Nat} {v : Value} (h : W.cell? ⟨b, off, none⟩ = some v) : ∃ cs e fr, W.heap[b]? = some (.cells cs e fr) ∧ cs[off]? = some v := by
  unfold World.cell? at h
  split at h
  · rename_i c e fr hc
    exact ⟨c, e, fr, hc, by simpa using h⟩
  · cases h
theorem vrs_one {ρ : Ren} {pre post : List Value} {u u' : Value} (h1 : pre.all (ground 8) = true) (h2 : post.all (ground 8) = true) (hu : VR ρ u u') : VRs ρ (pre ++ u :: post).toArray (pre ++ u' :: post).toArray := by
  refine ⟨by simp, fun i x x' e1 e2 => ?_⟩
  simp only [List.getElem?_toArray] at e1 e2
  rw [List.all_eq_true] at h1 h2
  rcases Nat.lt_trichotomy i pre.length with c | c | c
  · rw [List.getElem?_append_left c] at e1 e2
    rw [e1] at e2
    cases e2
    exact ground_refl 8 (h1 _ (List.mem_of_getElem? e1))
  · rw [List.getElem?_append_right (by omega)] at e1 e2
    rw [c, Nat.sub_self] at e1 e2
    cases e1
    cases e2
    exact hu
  · rw [List.getElem?_append_right (by omega)] at e1 e2
    obtain ⟨q, hq⟩ : ∃ q, i - pre.length = q + 1 := ⟨i - pre.length - 1, by omega⟩
    rw [hq] at e1 e2
    simp only [List.getElem?_cons_succ] at e1 e2
    rw [e1] at e2
    cases e2
    exact ground_refl 8 (h2 _ (List.mem_of_getElem? e1))
theorem calls_row1 {P : Program} {f : FuncId} {S0 : St} {W : World} {ks : List IntKind} {pre post : List Value} {v0 : Value} {G : (Nat → Nat → Int) → Nat → Nat → Value} (hh : Holds P S0 W) (hn : S0.next = P.globals.size) (hw0 : ∀ b, b < P.globals.size → b < S0.next)
    (hp1 : pre.all (ground 8) = true) (hp2 : post.all (ground 8) = true) (hG : ∀ g i j, j < ks.length → G g i j = .int (ks.getD j .i64) (g i j)) (hk : 0 < ks.length) (hv : RowsAt W ks v0)
    (hnil : ∃ s1 R, SndF P f (pre ++ .slice none 0 0 :: post).toArray S0 (.bool true) s1 R 0)
    (hemp : ∀ c, ∃ s1 R, SndF P f (pre ++ .slice (some ⟨S0.next, 0, none⟩) 0 c :: post).toArray (S0.push .hole) (.bool true) s1 R 0)
    (hrow : ∀ n c g, 0 < n → n ≤ c → c ≤ maxLen → (∀ i j, i < n → j < ks.length → (Lit.int (ks.getD j .i64) (g i j)).wf = true) → ∃ s1 R, SndF P f (pre ++ .slice (some ⟨S0.next, 0, none⟩) n c :: post).toArray (S0.push (.rows n ks.length (G g) 0 true 0 true)) (.bool true) s1 R 0) :
    Calls P f (pre ++ v0 :: post).toArray W fun e W' => e = .returned (.bool true) ∧ Below W.heap.size W W' := by
  have hold : ∀ (o : MObj) b, b < P.globals.size → (S0.push o).get b = S0.get b := fun o b hb => St.get_push_old S0 o b (hw0 b hb)
  have hnx : ∀ o : MObj, (S0.push o).next = S0.next + 1 := fun o => rfl
  have hnew : ∀ o : MObj, (S0.push o).get S0.next = o := fun o => St.get_push_new S0 o
  rcases hv with rfl | ⟨b, off, len, cap, g, rfl, hl, hmx, hc⟩
  · obtain ⟨s1, R, h⟩ := hnil
    exact calls_of h rfl (by simp only [List.all_append, List.all_cons, hp1, hp2, ground, Bool.and_self]) (fun b _ => by simp) hh
  · rcases Nat.eq_zero_or_pos len with z | z
    · subst z
      obtain ⟨s1, R, h⟩ := hemp cap
      refine calls_ofX (ext := extAt S0.next b off 0) h rfl (by rw [hnx]; omega) (fun x hx => by rw [hold _ x hx]; exact hh.holds x hx) (fun x h1 h2 h3 => ?_) (fun x hx => if_neg (by rw [hnx] at hx; omega)) (fun x y L L' h1 h2 h3 h4 _ h5 h6 _ => ?_) (vrs_one hp1 hp2 ?_) (fun x _ => by simp)
      · rw [hnx] at h2
        have : x = S0.next := by omega
        subst this
        exact absurd (hnew _) h3
      · unfold extAt at h5 h6
        split at h5
        · split at h6
          · omega
          · cases h6
        · cases h5
      · exact .slice S0.next 0 0 cap cap ⟨b, off, true, 0, 0⟩ (by unfold rhoX; rw [if_neg (by omega)]; exact if_pos rfl) (.inl rfl)
    · obtain ⟨s1, R, h⟩ := hrow len cap g z hl hmx (fun i j hi hj => (hc i j hi hj).2)
      have c0 := (hc 0 0 z hk).1
      obtain ⟨cs, e', fr, ho, _⟩ := cell_obj c0
      have hcs : ∀ i j, i < len → j < ks.length → cs[off + (i * ks.length + j)]? = some (G g i j) := fun i j hi hj => by
        obtain ⟨c1, e1, f1, o1, r1⟩ := cell_obj (hc i j hi hj).1
        rw [ho] at o1
        cases o1
        rw [hG g i j hj]
        exact r1
      have hsize : off + len * ks.length ≤ cs.size := by
        have := (Array.getElem?_eq_some_iff.1 (hcs (len - 1) (ks.length - 1) (by omega) (by omega))).1
        have e1 : (len - 1) * ks.length + ks.length = len * ks.length := by
          obtain ⟨q, rfl⟩ : ∃ q, len = q + 1 := ⟨len - 1, by omega⟩
          simp [Nat.succ_mul]
        omega
      refine calls_ofX (ext := extAt S0.next b off cs.size) h rfl (by rw [hnx]; omega) (fun x hx => by rw [hold _ x hx]; exact hh.holds x hx) (fun x h1 h2 h3 => ?_) (fun x hx => if_neg (by rw [hnx] at hx; omega)) (fun x y L L' h1 h2 h3 h4 _ h5 h6 _ => ?_) (vrs_one hp1 hp2 ?_) (fun x _ => by simp)
      · rw [hnx] at h2
        have : x = S0.next := by omega
        subst this
        have hr := hnew (.rows len ks.length (G g) 0 true 0 true)
        refine ⟨⟨b, off, true, 0, cs.size⟩, .cells cs e' fr, if_pos rfl, fun h => ?_, ho, ?_⟩
        · rw [hr] at h; cases h
        · rw [hr]
          exact or_read hsize (fun i j _ hj => by rw [hG g i j hj]; rfl) fun i j hi hj => hcs i j hi hj
      · unfold extAt at h5 h6
        split at h5
        · split at h6
          · omega
          · cases h6
        · cases h5
      · exact .slice S0.next 0 len cap cap ⟨b, off, true, 0, cs.size⟩ (by unfold rhoX; rw [if_neg (by omega)]; exact if_pos rfl) (.inl rfl)
theorem calls_row1o {P : Program} {f : FuncId} {S0 : St} {W : World} {ks : List IntKind} {pre post : List Value} {v0 : Value} {G : (Nat → Nat → Int) → Nat → Nat → Value} (hh : Holds P S0 W) (hn : S0.next = P.globals.size) (hw0 : ∀ b, b < P.globals.size → b < S0.next)
    (hp1 : pre.all (ground 8) = true) (hp2 : post.all (ground 8) = true) (hG : ∀ g i j, j < ks.length → G g i j = .int (ks.getD j .i64) (g i j)) (hk : 0 < ks.length) (hv : RowsAt W ks v0)
    (hnil : ∃ s1 R, SndF P f (pre ++ .slice none 0 0 :: post).toArray S0 (.bool true) s1 R 0)
    (hemp : ∀ c, ∃ s1 R, SndF P f (pre ++ .slice (some ⟨S0.next, 0, none⟩) 0 c :: post).toArray (S0.push .hole) (.bool true) s1 R 0)
    (hrow : ∀ n c g, 0 < n → n ≤ c → c ≤ maxLen → (∀ i j, i < n → j < ks.length → (Lit.int (ks.getD j .i64) (g i j)).wf = true) → ∃ o s1 R, (o = .rows n ks.length (G g) 0 true 0 true ∨ o = .cells (rowsL n ks.length (G g)) 0 true 0 true) ∧ SndF P f (pre ++ .slice (some ⟨S0.next, 0, none⟩) n c :: post).toArray (S0.push o) (.bool true) s1 R 0) :
    Calls P f (pre ++ v0 :: post).toArray W fun e W' => e = .returned (.bool true) ∧ Below W.heap.size W W' := by
  have hold : ∀ (o : MObj) b, b < P.globals.size → (S0.push o).get b = S0.get b := fun o b hb => St.get_push_old S0 o b (hw0 b hb)
  have hnx : ∀ o : MObj, (S0.push o).next = S0.next + 1 := fun o => rfl
  have hnew : ∀ o : MObj, (S0.push o).get S0.next = o := fun o => St.get_push_new S0 o
  rcases hv with rfl | ⟨b, off, len, cap, g, rfl, hl, hmx, hc⟩
  · obtain ⟨s1, R, h⟩ := hnil
    exact calls_of h rfl (by simp only [List.all_append, List.all_cons, hp1, hp2, ground, Bool.and_self]) (fun b _ => by simp) hh
  · rcases Nat.eq_zero_or_pos len with z | z
    · subst z
      obtain ⟨s1, R, h⟩ := hemp cap
      refine calls_ofX (ext := extAt S0.next b off 0) h rfl (by rw [hnx]; omega) (fun x hx => by rw [hold _ x hx]; exact hh.holds x hx) (fun x h1 h2 h3 => ?_) (fun x hx => if_neg (by rw [hnx] at hx; omega)) (fun x y L L' h1 h2 h3 h4 _ h5 h6 _ => ?_) (vrs_one hp1 hp2 ?_) (fun x _ => by simp)
      · rw [hnx] at h2
        have : x = S0.next := by omega
        subst this
        exact absurd (hnew _) h3
      · unfold extAt at h5 h6
        split at h5
        · split at h6
          · omega
          · cases h6
        · cases h5
      · exact .slice S0.next 0 0 cap cap ⟨b, off, true, 0, 0⟩ (by unfold rhoX; rw [if_neg (by omega)]; exact if_pos rfl) (.inl rfl)
    · obtain ⟨o, s1, R, hobj, h⟩ := hrow len cap g z hl hmx (fun i j hi hj => (hc i j hi hj).2)
      have c0 := (hc 0 0 z hk).1
      obtain ⟨cs, e', fr, ho, _⟩ := cell_obj c0
      have hcs : ∀ i j, i < len → j < ks.length → cs[off + (i * ks.length + j)]? = some (G g i j) := fun i j hi hj => by
        obtain ⟨c1, e1, f1, o1, r1⟩ := cell_obj (hc i j hi hj).1
        rw [ho] at o1
        cases o1
        rw [hG g i j hj]
        exact r1
      have hsize : off + len * ks.length ≤ cs.size := by
        have := (Array.getElem?_eq_some_iff.1 (hcs (len - 1) (ks.length - 1) (by omega) (by omega))).1
        have e1 : (len - 1) * ks.length + ks.length = len * ks.length := by
          obtain ⟨q, rfl⟩ : ∃ q, len = q + 1 := ⟨len - 1, by omega⟩
          simp [Nat.succ_mul]
        omega
      refine calls_ofX (ext := extAt S0.next b off cs.size) h rfl (by rw [hnx]; omega) (fun x hx => by rw [hold _ x hx]; exact hh.holds x hx) (fun x h1 h2 h3 => ?_) (fun x hx => if_neg (by rw [hnx] at hx; omega)) (fun x y L L' h1 h2 h3 h4 _ h5 h6 _ => ?_) (vrs_one hp1 hp2 ?_) (fun x _ => by simp)
      · rw [hnx] at h2
        have : x = S0.next := by omega
        subst this
        have hr := hnew o
        have hro := or_read (ρ := rhoX P W (extAt S0.next b off cs.size)) (e := 0) (blk := b) (e' := e') (fr := fr) hsize (fun i j _ hj => by rw [hG g i j hj]; rfl) fun i j hi hj => hcs i j hi hj
        refine ⟨⟨b, off, true, 0, cs.size⟩, .cells cs e' fr, if_pos rfl, fun h => ?_, ho, ?_⟩
        · rw [hr] at h
          rcases hobj with rfl | rfl <;> cases h
        · rw [hr]
          rcases hobj with rfl | rfl
          · exact hro
          · exact Mini.or_congr (show nrm (.rows len ks.length (G g) 0 true 0 true) = nrm (.cells (rowsL len ks.length (G g)) 0 true 0 true) from rfl) hro
      · unfold extAt at h5 h6
        split at h5
        · split at h6
          · omega
          · cases h6
        · cases h5
      · exact .slice S0.next 0 len cap cap ⟨b, off, true, 0, cs.size⟩ (by unfold rhoX; rw [if_neg (by omega)]; exact if_pos rfl) (.inl rfl)
end Mini
end Go.Proofs.YtbkpnhbcihcgaaaGreatDoor
end
section
set_option linter.all false
set_option maxRecDepth 1000000
open Go.RowKit
namespace Go.Proofs.YtbkpnhbcihcgaaaGreatDoor
open Mini
theorem awn3 : aw3S0.next = Tryz.prog.globals.size := by kernel_rfl
theorem fa_calls {W : World} (hh : Holds Tryz.prog aw3S0 W) (v : Value) (x0 x1 x2 : Int) (r0 : 0 ≤ x0 ∧ x0 ≤ 255) (r1 : 0 ≤ x1 ∧ x1 ≤ 255) (r2 : 0 ≤ x2 ∧ x2 ≤ 255) (hv : RowsAt W [.i64] v) :
    Calls Tryz.prog 11 #[.agg #[.int .u8 x0, .int .u8 x1, .int .u8 x2], v] W fun e W' => e = .returned (.bool true) ∧ Below W.heap.size W W' := by
  refine calls_row1 (pre := [.agg #[.int .u8 x0, .int .u8 x1, .int .u8 x2]]) (post := []) (G := fun g i j => .int .i64 (g i j)) hh awn3 (fun b hb => by rw [awn3]; exact hb) rfl rfl (fun g i j hj => ?_) (by decide) hv ?_ (fun c => ?_) (fun n c g h0 _ _ _ => ?_)
  · match j, hj with
    | 0, _ => rfl
  · exact fa_nil x0 x1 x2 r0 r1 r2
  · exact fa_emp c x0 x1 x2 r0 r1 r2
  · exact fa_row n c g x0 x1 x2 r0 r1 r2 (Nat.pos_iff_ne_zero.1 h0)
end Go.Proofs.YtbkpnhbcihcgaaaGreatDoor
end
section
namespace Go.Proofs.YtbkpnhbcihcgaaaGreatDoor
set_option linter.all false
open Go.ChangeShapes Go.WideShapes Go.ChangeAt Go.RowKit
section
open Go.Lib
theorem cells_of_strs {H : Type} {enc : TypeId × Value → H} {P : Program} {w : World} {base : Nat} {sp : Nat → Bool} {held : Bool} {fuel : Nat} {t e : TypeId} {n : Nat} {cs : List Value} {zs : List (List UInt8)} {p : List MemPlace}
    (ht : P.underlying t = some (.array n e)) (he : P.underlying e = some .string) (hce : P.cellsOf e = 1)
    (h : DataW.trod enc P w base sp held fuel t cs = some (.agg (zs.map fun z => .lit (.string z)), p)) (i : Nat) (z : List UInt8) (hz : zs[i]? = some z) : cs[i]? = some (.string ⟨z.toArray⟩) := by
  cases fuel with
  | zero => simp [DataW.trod] at h
  | succ fuel =>
    simp only [DataW.trod, ht, hce, Nat.mul_one] at h
    split at h
    · rename_i hl
      obtain ⟨xs, hm, hx⟩ := Option.map_eq_some_iff.1 h
      have hxs : xs.map (·.1) = zs.map fun z => (DataW.lit (.string z) : DataW H) := by
        have := congrArg Prod.fst hx
        simpa using this
      have hxl : xs.length = n := by simpa using mapM_length hm
      have hzl : zs.length = n := by
        have := congrArg List.length hxs
        simp at this
        omega
      have hi : i < n := by
        have := (List.getElem?_eq_some_iff.1 hz).1
        omega
      obtain ⟨b, hb, hf⟩ := mapM_at hm i i (by simp [hi])
      obtain ⟨s, hc, rfl, _⟩ := DataW.trod_string he hf
      have h1 : cs[i]? = some (.string s) := by
        have := congrArg (·[0]?) hc
        simpa [List.getElem?_take, List.getElem?_drop] using this
      have h2 : (xs.map (·.1))[i]? = some (DataW.lit (.string s.data.toList) : DataW H) := by simp [hb]
      rw [hxs] at h2
      simp only [List.getElem?_map, hz, Option.map_some, Option.some.injEq, DataW.lit.injEq, Lit.string.injEq] at h2
      subst h2
      exact h1
    · cases h
end
theorem strs_of_laid {P : Program} {W : World} {name : String} {zs : List (List UInt8)} {g : Nat} {t e : TypeId} {n : Nat}
    (hg : P.globalNamed name = some g) (hty : (P.globals[g]?).map (·.type) = some t) (ht : P.underlying t = some (.array n e)) (he : P.underlying e = some .string) (hce : P.cellsOf e = 1)
    (h : laidMet P [(name, .agg (zs.map fun z => .lit (.string z)))] W) (i : Nat) (z : List UInt8) (hz : zs[i]? = some z) : W.cell? ⟨g, i, none⟩ = some (.string ⟨z.toArray⟩) := by
  obtain ⟨ps, ⟨g', t', cs, fuel, p, q, hg', ht', hvar, hd, _, _⟩, _⟩ := h
  obtain rfl := Option.some.inj (hg.symm.trans hg')
  obtain rfl := Option.some.inj (hty.symm.trans ht')
  have r0 := World.var?_cell hg hvar i
  rw [r0]
  simpa using cells_of_strs ht he hce hd i z hz
end Go.Proofs.YtbkpnhbcihcgaaaGreatDoor
end
section
set_option linter.all false
namespace Go.Proofs.YtbkpnhbcihcgaaaGreatDoor.loopFalls
open Go.ChangeShapes Go.WideShapes Go.ChangeAt Go.RowKit Mini

theorem own : ownKnob Tryz.prog.godebug = none := by kernel_rfl
theorem gt0N : Tryz.prog.globalNamed "bipole/loop.quarters" = some 0 := by kernel_rfl
theorem gt0T : (Tryz.prog.globals[0]?).map (·.type) = some 150 := by kernel_rfl
def t0 : List (Int × Int) := [(1, 0), (0, 1), (-1, 0), (0, -1)]
theorem onet0 : (Rows.loopFallsRow.laid.filter fun x => x.1 == "bipole/loop.quarters") = [("bipole/loop.quarters", .agg (t0.map fun z => .agg [.lit (.int .i64 z.1), .lit (.int .i64 z.2)]))] := by kernel_rfl
theorem cellst0 {W : World} (h : laidMetH Tryz.prog Rows.loopFallsRow.laid W) (i : Nat) (z : Int × Int) (hz : t0[i]? = some z) : W.cell? ⟨0, i * 2, none⟩ = some (.int .i64 z.1) ∧ W.cell? ⟨0, i * 2 + 1, none⟩ = some (.int .i64 z.2) := by
  have h1 := laidMetH.filter (P := Tryz.prog) (fun x => x.1 == "bipole/loop.quarters") h
  rw [onet0] at h1
  exact pairs_of_laid gt0N gt0T Tryz.underlying150 Tryz.underlying24 rfl rfl rfl Tryz.underlying3 Tryz.underlying3 (by kernel_rfl) (by kernel_rfl) (by kernel_rfl) h1 i z hz
theorem s0t0 : aw3S0.get 0 = .cells ((t0.flatMap fun z => [z.1, z.2]).map fun n => Value.int .i64 n) 150 true 0 true := by kernel_rfl
theorem gt1N : Tryz.prog.globalNamed "bipole/loop.words" = some 1 := by kernel_rfl
theorem gt1T : (Tryz.prog.globals[1]?).map (·.type) = some 166 := by kernel_rfl
def t1 : List (List UInt8) := [[112, 108, 97, 110, 116, 110, 117, 109], [112, 108, 97, 110, 116, 100, 101, 110], [99, 111, 110, 116, 114, 111, 108, 108, 101, 114, 110, 117, 109], [99, 111, 110, 116, 114, 111, 108, 108, 101, 114, 100, 101, 110]]
theorem onet1 : (Rows.loopFallsRow.laid.filter fun x => x.1 == "bipole/loop.words") = [("bipole/loop.words", .agg (t1.map fun z => .lit (.string z)))] := by kernel_rfl
theorem cellst1 {W : World} (h : laidMetH Tryz.prog Rows.loopFallsRow.laid W) (i : Nat) (z : List UInt8) (hz : t1[i]? = some z) : W.cell? ⟨1, i, none⟩ = some (.string ⟨z.toArray⟩) := by
  have h1 := laidMetH.filter (P := Tryz.prog) (fun x => x.1 == "bipole/loop.words") h
  rw [onet1] at h1
  exact strs_of_laid gt1N gt1T Tryz.underlying166 Tryz.underlying9 (by kernel_rfl) h1 i z hz
theorem s0t1 : aw3S0.get 1 = .cells (t1.map fun z => Value.string ⟨z.toArray⟩) 166 true 0 true := by kernel_rfl
theorem gt2N : Tryz.prog.globalNamed "internal/strconv.uint64pow10" = some 2 := by kernel_rfl
theorem gt2T : (Tryz.prog.globals[2]?).map (·.type) = some 231 := by kernel_rfl
def t2 : List Int := (List.range 20).map fun i => ((10 ^ i : Nat) : Int)
theorem onet2 : (Rows.loopFallsRow.laid.filter fun x => x.1 == "internal/strconv.uint64pow10") = [("internal/strconv.uint64pow10", Lib.tabData .u64 t2)] := by kernel_rfl
theorem cellst2 {W : World} (h : laidMetH Tryz.prog Rows.loopFallsRow.laid W) (i : Nat) (hi : i < 20) : W.cell? ⟨2, i, none⟩ = some (.int .u64 (t2.getD i 0)) := by
  have h1 := laidMetH.filter (P := Tryz.prog) (fun x => x.1 == "internal/strconv.uint64pow10") h
  rw [onet2] at h1
  exact (Lib.tabIs_of_head (rest := []) gt2N gt2T Tryz.underlying231 Tryz.underlying213 (by kernel_rfl) (by kernel_rfl) h1).cell gt2N i (by simpa [t2] using hi)
theorem s0t2 : aw3S0.get 2 = .cells (t2.map fun n => Value.int .u64 n) 231 true 0 true := by kernel_rfl
theorem holds0 {W : World} (h : laidMetH Tryz.prog Rows.loopFallsRow.laid W) : Holds Tryz.prog aw3S0 W := by
  refine ⟨by kernel_rfl, fun b hb => ?_⟩
  rw [show Tryz.prog.globals.size = 6 by kernel_rfl] at hb
  match b, hb with
  | 0, _ =>
    refine .inr ⟨_, _, s0t0, by simp [t0], by kernel_rfl, fun i v hi => ?_⟩
    have p0 := cellst0 h 0 (1, 0) rfl
    have p1 := cellst0 h 1 (0, 1) rfl
    have p2 := cellst0 h 2 (-1, 0) rfl
    have p3 := cellst0 h 3 (0, -1) rfl
    match i, hi with
    | 0, hi => simp [t0] at hi; subst hi; exact p0.1
    | 1, hi => simp [t0] at hi; subst hi; exact p0.2
    | 2, hi => simp [t0] at hi; subst hi; exact p1.1
    | 3, hi => simp [t0] at hi; subst hi; exact p1.2
    | 4, hi => simp [t0] at hi; subst hi; exact p2.1
    | 5, hi => simp [t0] at hi; subst hi; exact p2.2
    | 6, hi => simp [t0] at hi; subst hi; exact p3.1
    | 7, hi => simp [t0] at hi; subst hi; exact p3.2
    | i + 8, hi => simp [t0] at hi
  | 1, _ =>
    refine .inr ⟨_, _, s0t1, by simp [t1], by kernel_rfl, fun i v hi => ?_⟩
    simp only [List.getElem?_map, Option.map_eq_some_iff] at hi
    obtain ⟨a, h1, rfl⟩ := hi
    exact cellst1 h i a h1
  | 2, _ =>
    refine .inr ⟨_, _, s0t2, by simp [t2], by kernel_rfl, fun i v hi => ?_⟩
    have hlt : i < 20 := by
      have := (List.getElem?_eq_some_iff.1 hi).1
      simpa [t2] using this
    rw [cellst2 h i hlt]
    simp only [List.getElem?_map, Option.map_eq_some_iff] at hi
    obtain ⟨a, h1, rfl⟩ := hi
    simp [List.getD, h1]
  | 3, _ => exact .inl (by kernel_rfl)
  | 4, _ => exact .inl (by kernel_rfl)
  | 5, _ => exact .inl (by kernel_rfl)
  | b + 6, hb => omega

set_option maxRecDepth 100000 in
theorem contract (H : Type) (enc : TypeId × Value → H) (W : World) (base : Nat) (args : Array Value) (ds gs : List (DataW H)) (before : List MemPlace)
    (hval : ∀ (j : Nat) t v, Tryz.f11.params[j]? = some t → args[j]? = some v → Value.okWide Tryz.prog W .any base t v)
    (hW : DataW.Whole enc Tryz.prog Tryz.f11.params.toList Rows.loopFallsSpec.vars false W args.toList ds gs before) (hL : laidMetH Tryz.prog Rows.loopFallsRow.laid W) :
    Calls Tryz.prog 11 args W fun e W' => ∃ v, e = .returned v ∧ Rows.loopFallsSpec.post enc Tryz.prog Tryz.f11 false true false false W args v W' := by
  have hW' := hW
  obtain ⟨p, q, hA0, hV, rfl, hfz, hnd⟩ := hW
  have hA : DataW.TrodAll enc Tryz.prog W 0 (fun _ => true) true Tryz.f11.params.toList args.toList ds p := hA0
  rw [Tryz.params11] at hA hval
  obtain ⟨v0, vs0, d0, ds0, p0, q0, hargs, rfl, rfl, h0, r0⟩ := trodAll_cons hA
  obtain ⟨v1, vs1, d1, ds1, p1, q1, rfl, rfl, rfl, h1, r1⟩ := trodAll_cons r0
  obtain ⟨rfl, rfl, rfl⟩ := trodAll_nil r1
  obtain rfl : args = #[v0, v1] := by apply Array.ext'; simpa using hargs
  obtain ⟨rfl, rfl⟩ := trodVars_none hV
  obtain ⟨ns0, l0, rfl, rfl, f0, t0⟩ := open_agg (n := 6) (ks := [.u8, .u8, .u8]) (by kernel_rfl) (by kernel_rfl) (hval 0 112 v0 rfl rfl) h0
  have l0_0 : ns0.length = 3 := l0
  clear l0
  obtain ⟨x0_0, ns0_0, rfl, l0_1⟩ := len_cons l0_0
  obtain ⟨x0_1, ns0_1, rfl, l0_2⟩ := len_cons l0_1
  obtain ⟨x0_2, ns0_2, rfl, l0_3⟩ := len_cons l0_2
  obtain rfl := len_nil l0_3
  have hk1 := h1
  have o1 := rows_of (P := Tryz.prog) (m := 6) (ks := [.i64]) Tryz.underlying22 (by kernel_rfl) (by kernel_rfl) (hval 1 22 v1 rfl rfl) h1
  clear hA0
  simp only [List.append_nil] at hW'
  refine (fa_calls (holds0 hL) v1 x0_0 x0_1 x0_2 (by have hmn : IntKind.u8.min = 0 := (by decide); have hmx : IntKind.u8.max = 255 := (by decide); simp [wfs, Lit.wf, hmn, hmx] at f0; omega) (by have hmn : IntKind.u8.min = 0 := (by decide); have hmx : IntKind.u8.max = 255 := (by decide); simp [wfs, Lit.wf, hmn, hmx] at f0; omega) (by have hmn : IntKind.u8.min = 0 := (by decide); have hmx : IntKind.u8.max = 255 := (by decide); simp [wfs, Lit.wf, hmn, hmx] at f0; omega) o1).mono fun e W' ⟨he, hb⟩ => ?_
  subst he
  exact ⟨_, rfl, post_below (pa := [] ++ (p1 ++ [])) (pv := []) hW' (ok_one (by kernel_rfl) rfl (okWide_bool_mk Tryz.underlying4 _)) (fun _ _ _ => trodAll_cons_mk (shut_bool Tryz.underlying4 _) trodAll_mk0)
    (fun sp hsp => trodAll_cons_mk (t0 _ _ _ _) (trodAll_cons_mk (WideElems.Trod_stays (P := Tryz.prog) (by kernel_rfl) (by kernel_rfl) (of_decide_eq_true (by kernel_rfl)) hk1 (fun x hx => hb.same (hW'.lt x (by simp [hx]))) (fun x hx => hsp x (by simp [hx]))) (trodAll_mk0)))
    (fun _ _ => rfl) (by simp) hb⟩

def setTab (b : Nat) (cs : Array Value) (h : Array Obj) : Array Obj := h.modify b fun
  | .cells _ t frozen => .cells cs t frozen
  | o => o
noncomputable def laidWorld (os : Os) : World :=
  { World.holding Tryz.prog os ⟨#[], #[], []⟩ with heap := setTab 5 #[.int .u8 (0), .int .u8 (1), .int .u8 (56), .int .u8 (2), .int .u8 (57), .int .u8 (49), .int .u8 (28), .int .u8 (3), .int .u8 (61), .int .u8 (58), .int .u8 (42), .int .u8 (50), .int .u8 (38), .int .u8 (29), .int .u8 (17), .int .u8 (4), .int .u8 (62), .int .u8 (47), .int .u8 (59), .int .u8 (36), .int .u8 (45), .int .u8 (43), .int .u8 (51), .int .u8 (22), .int .u8 (53), .int .u8 (39), .int .u8 (33), .int .u8 (30), .int .u8 (24), .int .u8 (18), .int .u8 (12), .int .u8 (5), .int .u8 (63), .int .u8 (55), .int .u8 (48), .int .u8 (27), .int .u8 (60), .int .u8 (41), .int .u8 (37), .int .u8 (16), .int .u8 (46), .int .u8 (35), .int .u8 (44), .int .u8 (21), .int .u8 (52), .int .u8 (32), .int .u8 (23), .int .u8 (11), .int .u8 (54), .int .u8 (26), .int .u8 (40), .int .u8 (15), .int .u8 (34), .int .u8 (20), .int .u8 (31), .int .u8 (10), .int .u8 (25), .int .u8 (14), .int .u8 (19), .int .u8 (9), .int .u8 (13), .int .u8 (8), .int .u8 (7), .int .u8 (6)] (setTab 4 #[.int .u8 (0), .int .u8 (1), .int .u8 (28), .int .u8 (2), .int .u8 (29), .int .u8 (14), .int .u8 (24), .int .u8 (3), .int .u8 (30), .int .u8 (22), .int .u8 (20), .int .u8 (15), .int .u8 (25), .int .u8 (17), .int .u8 (4), .int .u8 (8), .int .u8 (31), .int .u8 (27), .int .u8 (13), .int .u8 (23), .int .u8 (21), .int .u8 (19), .int .u8 (16), .int .u8 (7), .int .u8 (26), .int .u8 (12), .int .u8 (18), .int .u8 (6), .int .u8 (11), .int .u8 (5), .int .u8 (10), .int .u8 (9)] (setTab 2 #[.int .u64 (1), .int .u64 (10), .int .u64 (100), .int .u64 (1000), .int .u64 (10000), .int .u64 (100000), .int .u64 (1000000), .int .u64 (10000000), .int .u64 (100000000), .int .u64 (1000000000), .int .u64 (10000000000), .int .u64 (100000000000), .int .u64 (1000000000000), .int .u64 (10000000000000), .int .u64 (100000000000000), .int .u64 (1000000000000000), .int .u64 (10000000000000000), .int .u64 (100000000000000000), .int .u64 (1000000000000000000), .int .u64 (10000000000000000000)] (setTab 1 #[.string ⟨#[112, 108, 97, 110, 116, 110, 117, 109]⟩, .string ⟨#[112, 108, 97, 110, 116, 100, 101, 110]⟩, .string ⟨#[99, 111, 110, 116, 114, 111, 108, 108, 101, 114, 110, 117, 109]⟩, .string ⟨#[99, 111, 110, 116, 114, 111, 108, 108, 101, 114, 100, 101, 110]⟩] (setTab 0 #[.int .i64 (1), .int .i64 (0), .int .i64 (0), .int .i64 (1), .int .i64 (-1), .int .i64 (0), .int .i64 (0), .int .i64 (-1)] ((World.holding Tryz.prog os ⟨#[], #[], []⟩).heap))))) }
def wArgs : Array Value := #[.agg #[.int .u8 0, .int .u8 0, .int .u8 0], .slice none 0 0]
theorem laid_met (os : Os) : laidMet Tryz.prog Rows.loopFallsRow.laid ((laidWorld os).forCall (fun _ _ => 0) ⟨#[], wArgs, []⟩).memory :=
  laidMet_of_run' 8 (by kernel_rfl) (by kernel_rfl)
theorem reads (os : Os) {H : Type} (enc : TypeId × Value → H) : ∃ places, DataW.whole enc Tryz.prog ((laidWorld os).forCall (fun _ _ => 0) ⟨#[], wArgs, []⟩).memory Tryz.f11.params.toList Rows.loopFallsSpec.vars false wArgs.toList 8 = some ([.agg [.lit (.int .u8 0), .lit (.int .u8 0), .lit (.int .u8 0)], .nil], [], places) :=
  ⟨[], by kernel_rfl⟩
set_option maxRecDepth 100000 in
theorem lifted (os : Os) (started : os.Started) (H : Type) (enc : TypeId × Value → H) (F : Stop.Interp) :
    ReturnsInHanded {} Tryz.checked os 11 .any ((OpenSpec.ofChange Rows.loopFallsSpec).preRow enc Tryz.prog Tryz.f11 Rows.loopFallsRow.domain false Rows.loopFallsRow.laid) (((OpenSpec.ofChange Rows.loopFallsSpec).at F).post enc Tryz.prog Tryz.f11 false true false false) := by
  obtain ⟨places, hx⟩ := reads os enc
  refine returnsInHanded_of_row (C := Tryz.checked) (s := OpenSpec.ofChange Rows.loopFallsSpec) own started (by kernel_rfl) Tryz.func11
    (witness_row_at (enc := enc) (C := Tryz.checked) false (laidWorld os) wArgs rfl (by kernel_rfl) (by kernel_rfl) (by kernel_rfl)
      (OpenSpec.preRow_of_cond 8 hx (by kernel_rfl) (fun k hk => by cases hk) (by kernel_rfl) (laid_met os))) ?_
  intro W base args ds gs before hval hW _ _ _ hL _ _
  exact contract H enc W base args ds gs before hval hW hL
theorem said : Rows.LoopFallsSaid :=
  OpenClaim.holds_of_cond 11 Tryz.f11 rfl rfl rfl rfl rfl rfl rfl ⟨rfl, rfl, rfl, rfl, rfl⟩ rfl rfl rfl rfl rfl (by kernel_rfl) Tryz.func11 (by kernel_rfl)
    (of_decide_eq_true (by kernel_rfl)) (by unfold Func.isWrapper; first | (rw [if_pos (by decide +kernel)]; kernel_rfl) | (rw [if_neg (by decide +kernel)]; exact ⟨rfl, rfl⟩))
    (fun os started H enc _ F => by rw [OpenClaim.pre_eq_preRow]; exact lifted os started H enc F)
theorem plain (f : FuncId) (fn : Func) (hf : Tryz.pinned.checked.prog.funcNamed "bipole/bipolelaw03.LoopFalls" = some f) (hfn : Tryz.pinned.checked.prog.funcs[f]? = some fn) :
    false = Tryz.pinned.checked.prog.looks [] ∧ ∀ (j : Nat) t, fn.params[j]? = some t → Tryz.pinned.checked.prog.wantsStandIn t = false := by
  obtain rfl : f = 11 := Option.some.inj ((show Tryz.prog.funcNamed "bipole/bipolelaw03.LoopFalls" = some 11 by kernel_rfl).symm.trans hf) |>.symm
  obtain rfl : fn = Tryz.f11 := (Option.some.inj (Tryz.func11.symm.trans hfn)).symm
  refine ⟨by kernel_rfl, fun j t ht => ?_⟩
  rw [Tryz.params11] at ht
  have hm : t = 112 ∨ t = 22 := by simpa using Array.mem_of_getElem? ht
  rcases hm with rfl | rfl
  · exact (show Tryz.prog.wantsStandIn 112 = false by kernel_rfl)
  · exact (show Tryz.prog.wantsStandIn 22 = false by kernel_rfl)
theorem card : Rows.LoopFallsCardSaid :=
  Claim7.holds_tied_plain_at .later [] _ _ _ _ said (fun _ h => by cases h) (by kernel_rfl) (fun _ h => by cases h) loopFalls_row_tie rfl ⟨rfl, rfl⟩ (by kernel_rfl) rfl plain (by kernel_rfl)
end Go.Proofs.YtbkpnhbcihcgaaaGreatDoor.loopFalls
end
