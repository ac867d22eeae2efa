/-
  From a call in the small world to a real one whose arguments lie in memory.
  Tables of structures of two pairs on a row's list.
  The last step of a row whose call leaves a world of which only 'Below' is known; tables of pairs on a row's list.
  Arguments that are made of integers alone (numbers, arrays and structs of them, in any depth), opened: their cells are numbers, and their data is the same in each world.
  LoopRings: true for every ring, two phases, every list of numbers.
  LoopRings: its ways.
  The whole.
-/
import Derived.Test.YtecabbbjdnambaaGreatDoorGR5
import Derived.Test.YtecabbbjdnambaaGreatDoorGR6
import Derived.Test.YtecabbbjdnambaaGreatDoorGR7
import Derived.Test.YtecabbbjdnambaaGreatDoorGR8
import Derived.Test.YtecabbbjdnambaaGreatDoorGR9
import Derived.Test.YtecabbbjdnambaaGreatDoorGR10
import Derived.Test.YtecabbbjdnambaaGreatDoorGR11
import Derived.Test.YtecabbbjdnambaaGreatDoorGR12
import Derived.Test.YtecabbbjdnambaaGreatDoorGR4
import Derived.Test.YtecabbbjdnambaaGreatDoorGR2
import Derived.OpenShut
import Derived.RowKit
import Derived.WideShapes
import Derived.Below
import Derived.ChangeSame
import Derived.ProofKit
import Derived.JoinedCond
import Derived.JoinedOf
import Derived.JoinedAt
import Derived.RowKit3
import Derived.Lib.LaidTab
import Derived.LaidSub
section
set_option linter.all false
set_option maxRecDepth 1000000
open Go.RowKit
namespace Go.Proofs.YtecabbbjdnambaaGreatDoor
open Mini
theorem aw3X0 : FOk Tryz.prog (joinX 142) := joinX_ok fun bk o c xs sep w h1 h2 h3 h4 h5 => Tryz.strings_Join bk o c xs sep w h1 h2 h3 h4 h5
theorem aw3X : FOk Tryz.prog (joinX 142) := aw3X0
theorem aw3m : Tryz.prog.follows .mixedOrders = true := by kernel_rfl
theorem aw3g24 : SndC Tryz.prog none (dropS 24 aw3B) aw3A24.act aw3S24 .ret aw3A25.act aw3S25 aw3R24 aw3W24 := chain_last aw3m aw3X aw3c24
theorem aw3g23 : SndC Tryz.prog none (dropS 23 aw3B) aw3A23.act aw3S23 .ret aw3A25.act aw3S25 aw3RR23 aw3WW23 := by
  have h := chain_step aw3m aw3X (by kernel_rfl) aw3c23 aw3g24
  rwa [show aw3R23 ||| aw3R24 = aw3RR23 from by decide +kernel, show aw3W23 ||| aw3W24 = aw3WW23 from by decide +kernel] at h
theorem aw3g22 : SndC Tryz.prog none (dropS 22 aw3B) aw3A22.act aw3S22 .ret aw3A25.act aw3S25 aw3RR22 aw3WW22 := by
  have h := chain_step aw3m aw3X (by kernel_rfl) aw3c22 aw3g23
  rwa [show aw3R22 ||| aw3RR23 = aw3RR22 from by decide +kernel, show aw3W22 ||| aw3WW23 = aw3WW22 from by decide +kernel] at h
theorem aw3g21 : SndC Tryz.prog none (dropS 21 aw3B) aw3A21.act aw3S21 .ret aw3A25.act aw3S25 aw3RR21 aw3WW21 := by
  have h := chain_step aw3m aw3X (by kernel_rfl) aw3c21 aw3g22
  rwa [show aw3R21 ||| aw3RR22 = aw3RR21 from by decide +kernel, show aw3W21 ||| aw3WW22 = aw3WW21 from by decide +kernel] at h
theorem aw3g20 : SndC Tryz.prog none (dropS 20 aw3B) aw3A20.act aw3S20 .ret aw3A25.act aw3S25 aw3RR20 aw3WW20 := by
  have h := chain_step aw3m aw3X (by kernel_rfl) aw3c20 aw3g21
  rwa [show aw3R20 ||| aw3RR21 = aw3RR20 from by decide +kernel, show aw3W20 ||| aw3WW21 = aw3WW20 from by decide +kernel] at h
theorem aw3g19 : SndC Tryz.prog none (dropS 19 aw3B) aw3A19.act aw3S19 .ret aw3A25.act aw3S25 aw3RR19 aw3WW19 := by
  have h := chain_step aw3m aw3X (by kernel_rfl) aw3c19 aw3g20
  rwa [show aw3R19 ||| aw3RR20 = aw3RR19 from by decide +kernel, show aw3W19 ||| aw3WW20 = aw3WW19 from by decide +kernel] at h
theorem aw3g18 : SndC Tryz.prog none (dropS 18 aw3B) aw3A18.act aw3S18 .ret aw3A25.act aw3S25 aw3RR18 aw3WW18 := by
  have h := chain_step aw3m aw3X (by kernel_rfl) aw3c18 aw3g19
  rwa [show aw3R18 ||| aw3RR19 = aw3RR18 from by decide +kernel, show aw3W18 ||| aw3WW19 = aw3WW18 from by decide +kernel] at h
theorem aw3g17 : SndC Tryz.prog none (dropS 17 aw3B) aw3A17.act aw3S17 .ret aw3A25.act aw3S25 aw3RR17 aw3WW17 := by
  have h := chain_step aw3m aw3X (by kernel_rfl) aw3c17 aw3g18
  rwa [show aw3R17 ||| aw3RR18 = aw3RR17 from by decide +kernel, show aw3W17 ||| aw3WW18 = aw3WW17 from by decide +kernel] at h
theorem aw3g16 : SndC Tryz.prog none (dropS 16 aw3B) aw3A16.act aw3S16 .ret aw3A25.act aw3S25 aw3RR16 aw3WW16 := by
  have h := chain_step aw3m aw3X (by kernel_rfl) aw3c16 aw3g17
  rwa [show aw3R16 ||| aw3RR17 = aw3RR16 from by decide +kernel, show aw3W16 ||| aw3WW17 = aw3WW16 from by decide +kernel] at h
theorem aw3g15 : SndC Tryz.prog none (dropS 15 aw3B) aw3A15.act aw3S15 .ret aw3A25.act aw3S25 aw3RR15 aw3WW15 := by
  have h := chain_step aw3m aw3X (by kernel_rfl) aw3c15 aw3g16
  rwa [show aw3R15 ||| aw3RR16 = aw3RR15 from by decide +kernel, show aw3W15 ||| aw3WW16 = aw3WW15 from by decide +kernel] at h
theorem aw3g14 : SndC Tryz.prog none (dropS 14 aw3B) aw3A14.act aw3S14 .ret aw3A25.act aw3S25 aw3RR14 aw3WW14 := by
  have h := chain_step aw3m aw3X (by kernel_rfl) aw3c14 aw3g15
  rwa [show aw3R14 ||| aw3RR15 = aw3RR14 from by decide +kernel, show aw3W14 ||| aw3WW15 = aw3WW14 from by decide +kernel] at h
theorem aw3g13 : SndC Tryz.prog none (dropS 13 aw3B) aw3A13.act aw3S13 .ret aw3A25.act aw3S25 aw3RR13 aw3WW13 := by
  have h := chain_step aw3m aw3X (by kernel_rfl) aw3c13 aw3g14
  rwa [show aw3R13 ||| aw3RR14 = aw3RR13 from by decide +kernel, show aw3W13 ||| aw3WW14 = aw3WW13 from by decide +kernel] at h
theorem aw3g12 : SndC Tryz.prog none (dropS 12 aw3B) aw3A12.act aw3S12 .ret aw3A25.act aw3S25 aw3RR12 aw3WW12 := by
  have h := chain_step aw3m aw3X (by kernel_rfl) aw3c12 aw3g13
  rwa [show aw3R12 ||| aw3RR13 = aw3RR12 from by decide +kernel, show aw3W12 ||| aw3WW13 = aw3WW12 from by decide +kernel] at h
theorem aw3g11 : SndC Tryz.prog none (dropS 11 aw3B) aw3A11.act aw3S11 .ret aw3A25.act aw3S25 aw3RR11 aw3WW11 := by
  have h := chain_step aw3m aw3X (by kernel_rfl) aw3c11 aw3g12
  rwa [show aw3R11 ||| aw3RR12 = aw3RR11 from by decide +kernel, show aw3W11 ||| aw3WW12 = aw3WW11 from by decide +kernel] at h
theorem aw3g10 : SndC Tryz.prog none (dropS 10 aw3B) aw3A10.act aw3S10 .ret aw3A25.act aw3S25 aw3RR10 aw3WW10 := by
  have h := chain_step aw3m aw3X (by kernel_rfl) aw3c10 aw3g11
  rwa [show aw3R10 ||| aw3RR11 = aw3RR10 from by decide +kernel, show aw3W10 ||| aw3WW11 = aw3WW10 from by decide +kernel] at h
theorem aw3g9 : SndC Tryz.prog none (dropS 9 aw3B) aw3A9.act aw3S9 .ret aw3A25.act aw3S25 aw3RR9 aw3WW9 := by
  have h := chain_step aw3m aw3X (by kernel_rfl) aw3c9 aw3g10
  rwa [show aw3R9 ||| aw3RR10 = aw3RR9 from by decide +kernel, show aw3W9 ||| aw3WW10 = aw3WW9 from by decide +kernel] at h
theorem aw3g8 : SndC Tryz.prog none (dropS 8 aw3B) aw3A8.act aw3S8 .ret aw3A25.act aw3S25 aw3RR8 aw3WW8 := by
  have h := chain_step aw3m aw3X (by kernel_rfl) aw3c8 aw3g9
  rwa [show aw3R8 ||| aw3RR9 = aw3RR8 from by decide +kernel, show aw3W8 ||| aw3WW9 = aw3WW8 from by decide +kernel] at h
theorem aw3g7 : SndC Tryz.prog none (dropS 7 aw3B) aw3A7.act aw3S7 .ret aw3A25.act aw3S25 aw3RR7 aw3WW7 := by
  have h := chain_step aw3m aw3X (by kernel_rfl) aw3c7 aw3g8
  rwa [show aw3R7 ||| aw3RR8 = aw3RR7 from by decide +kernel, show aw3W7 ||| aw3WW8 = aw3WW7 from by decide +kernel] at h
theorem aw3g6 : SndC Tryz.prog none (dropS 6 aw3B) aw3A6.act aw3S6 .ret aw3A25.act aw3S25 aw3RR6 aw3WW6 := by
  have h := chain_step aw3m aw3X (by kernel_rfl) aw3c6 aw3g7
  rwa [show aw3R6 ||| aw3RR7 = aw3RR6 from by decide +kernel, show aw3W6 ||| aw3WW7 = aw3WW6 from by decide +kernel] at h
theorem aw3g5 : SndC Tryz.prog none (dropS 5 aw3B) aw3A5.act aw3S5 .ret aw3A25.act aw3S25 aw3RR5 aw3WW5 := by
  have h := chain_step aw3m aw3X (by kernel_rfl) aw3c5 aw3g6
  rwa [show aw3R5 ||| aw3RR6 = aw3RR5 from by decide +kernel, show aw3W5 ||| aw3WW6 = aw3WW5 from by decide +kernel] at h
theorem aw3g4 : SndC Tryz.prog none (dropS 4 aw3B) aw3A4.act aw3S4 .ret aw3A25.act aw3S25 aw3RR4 aw3WW4 := by
  have h := chain_step aw3m aw3X (by kernel_rfl) aw3c4 aw3g5
  rwa [show aw3R4 ||| aw3RR5 = aw3RR4 from by decide +kernel, show aw3W4 ||| aw3WW5 = aw3WW4 from by decide +kernel] at h
theorem aw3g3 : SndC Tryz.prog none (dropS 3 aw3B) aw3A3.act aw3S3 .ret aw3A25.act aw3S25 aw3RR3 aw3WW3 := by
  have h := chain_step aw3m aw3X (by kernel_rfl) aw3c3 aw3g4
  rwa [show aw3R3 ||| aw3RR4 = aw3RR3 from by decide +kernel, show aw3W3 ||| aw3WW4 = aw3WW3 from by decide +kernel] at h
theorem aw3g2 : SndC Tryz.prog none (dropS 2 aw3B) aw3A2.act aw3S2 .ret aw3A25.act aw3S25 aw3RR2 aw3WW2 := by
  have h := chain_step aw3m aw3X (by kernel_rfl) aw3c2 aw3g3
  rwa [show aw3R2 ||| aw3RR3 = aw3RR2 from by decide +kernel, show aw3W2 ||| aw3WW3 = aw3WW2 from by decide +kernel] at h
theorem aw3g1 : SndC Tryz.prog none (dropS 1 aw3B) aw3A1.act aw3S1 .ret aw3A25.act aw3S25 aw3RR1 aw3WW1 := by
  have h := chain_step aw3m aw3X (by kernel_rfl) aw3c1 aw3g2
  rwa [show aw3R1 ||| aw3RR2 = aw3RR1 from by decide +kernel, show aw3W1 ||| aw3WW2 = aw3WW1 from by decide +kernel] at h
theorem aw3g0 : SndC Tryz.prog none (dropS 0 aw3B) aw3A0.act aw3S0 .ret aw3A25.act aw3S25 aw3RR0 aw3WW0 := by
  have h := chain_step aw3m aw3X (by kernel_rfl) aw3c0 aw3g1
  rwa [show aw3R0 ||| aw3RR1 = aw3RR0 from by decide +kernel, show aw3W0 ||| aw3WW1 = aw3WW0 from by decide +kernel] at h
theorem aw3f : SndF Tryz.prog 12 #[] aw3S0 (.bool true) aw3S25 (aw3RR0 ||| 0) aw3WW0 :=
  sndF_of (vs := [.bool true]) Tryz.func12 (show _ = some aw3B by kernel_rfl) (.inr rfl) (by kernel_rfl) (show SndC Tryz.prog none aw3B (startA Tryz.f12 #[]) aw3S0 .ret aw3A25.act aw3S25 aw3RR0 aw3WW0 from ((startM_act _ _).symm.trans (congrArg MA.act (show startM Tryz.f12 #[] = aw3A0 by kernel_rfl))) ▸ aw3g0) (by kernel_rfl)
theorem aw3_calls (w : World) (h : Holds Tryz.prog aw3S0 w) : Calls Tryz.prog 12 #[] w fun e w' => e = .returned (.bool true) ∧ Below w.heap.size w w' :=
  calls_of aw3f (by kernel_rfl) (by kernel_rfl) (fun b hb => by
    have hb : b < Tryz.prog.globals.size := hb
    rw [show Tryz.prog.globals.size = 6 by kernel_rfl] at hb
    revert b; decide +kernel) h
end Go.Proofs.YtecabbbjdnambaaGreatDoor
end
section
set_option linter.all false
set_option maxRecDepth 1000000
open Go.RowKit
namespace Go.Proofs.YtecabbbjdnambaaGreatDoor
open Mini
noncomputable def lwK : CallS := bothX kSameI (bothX kBa (bothX kRs (bothX kLk (bothX kCb (bothX kRb (bothX kCp (bothX kCr (bothX kRCr (bothX kRl (bothX (kAll [c_range, c_rrange, c_index]) (tabT aw3S0 12)))))))))))
noncomputable def lw0 (x0 : Int) (x1 : Int) : Option OutS := evFS Tryz.prog lwK 1000 8 #[.slice none 0 0, .agg #[.int .i64 x0, .int .i64 x1], .slice none 0 0] ((aw3S0.push (.hole)).push (.hole)) ⟨[0, 0, 0, 0, 1, 1, 1, 0, 0, 1, 0, 0, 1, 1, 1, 1, 1, 0, 1, 1, 1, 0, 1, 0, 0, 0, 1, 1, 1, 1, 0, 0, 1, 1, 1, 1, 1, 1, 1, 1, 1, 1, 1, 1, 1, 1, 1, 1, 1, 1, 1, 1, 1, 1, 1, 1, 1, 1, 1], True⟩
noncomputable def lw1 (c2 : Nat) (x0 : Int) (x1 : Int) : Option OutS := evFS Tryz.prog lwK 1000 8 #[.slice none 0 0, .agg #[.int .i64 x0, .int .i64 x1], .slice (some ⟨7, 0, none⟩) 0 c2] ((aw3S0.push (.hole)).push (.hole)) ⟨[0, 0, 0, 0, 1, 1, 1, 0, 0, 1, 0, 0, 1, 1, 1, 1, 1, 0, 1, 1, 1, 0, 1, 0, 0, 0, 1, 1, 1, 1, 0, 0, 1, 1, 1, 1, 1, 1, 1, 1, 1, 1, 1, 1, 1, 1, 1, 1, 1, 1, 1, 1, 1, 1, 1, 1, 1, 1, 1], True⟩
noncomputable def lw2 (m : Nat) (c2 : Nat) (h : Nat → Nat → Int) (x0 : Int) (x1 : Int) : Option OutS := evFS Tryz.prog lwK 1000 8 #[.slice none 0 0, .agg #[.int .i64 x0, .int .i64 x1], .slice (some ⟨7, 0, none⟩) m c2] ((aw3S0.push (.hole)).push (.rows m 1 (fun i j => .int .i64 (h i j)) 0 true 0 true)) ⟨[0, 0, 0, 0, 1, 1, 1, 0, 1], True⟩
noncomputable def lw3 (m : Nat) (c2 : Nat) (h : Nat → Nat → Int) (x0 : Int) (x1 : Int) : Option OutS := evFS Tryz.prog lwK 1000 8 #[.slice none 0 0, .agg #[.int .i64 x0, .int .i64 x1], .slice (some ⟨7, 0, none⟩) m c2] ((aw3S0.push (.hole)).push (.rows m 1 (fun i j => .int .i64 (h i j)) 0 true 0 true)) ⟨[0, 0, 0, 0, 1, 1, 1, 0, 0, 1, 0, 0, 1, 1, .row 0 0, 1, 1, 1, 0, 1, 1, 1, 0, 1, 0, 0, 0, 1, 1, 1, 1, 0, 0, 1, 1, 1, 1, 1, 1, 1, 1, 1, 1, 1, 1, 1, 1, 1, 1, 1, 1, 1, 1, 1, 1, 1, 1, 1, 1, 1], True⟩
noncomputable def lw4 (c : Nat) (x0 : Int) (x1 : Int) : Option OutS := evFS Tryz.prog lwK 1000 8 #[.slice (some ⟨6, 0, none⟩) 0 c, .agg #[.int .i64 x0, .int .i64 x1], .slice none 0 0] ((aw3S0.push (.hole)).push (.hole)) ⟨[0, 0, 0, 0, 1, 1, 1, 0, 0, 1, 0, 0, 1, 1, 1, 1, 1, 0, 1, 1, 1, 0, 1, 0, 0, 0, 1, 1, 1, 1, 0, 0, 1, 1, 1, 1, 1, 1, 1, 1, 1, 1, 1, 1, 1, 1, 1, 1, 1, 1, 1, 1, 1, 1, 1, 1, 1, 1, 1], True⟩
noncomputable def lw5 (c : Nat) (c2 : Nat) (x0 : Int) (x1 : Int) : Option OutS := evFS Tryz.prog lwK 1000 8 #[.slice (some ⟨6, 0, none⟩) 0 c, .agg #[.int .i64 x0, .int .i64 x1], .slice (some ⟨7, 0, none⟩) 0 c2] ((aw3S0.push (.hole)).push (.hole)) ⟨[0, 0, 0, 0, 1, 1, 1, 0, 0, 1, 0, 0, 1, 1, 1, 1, 1, 0, 1, 1, 1, 0, 1, 0, 0, 0, 1, 1, 1, 1, 0, 0, 1, 1, 1, 1, 1, 1, 1, 1, 1, 1, 1, 1, 1, 1, 1, 1, 1, 1, 1, 1, 1, 1, 1, 1, 1, 1, 1], True⟩
noncomputable def lw6 (c : Nat) (m : Nat) (c2 : Nat) (h : Nat → Nat → Int) (x0 : Int) (x1 : Int) : Option OutS := evFS Tryz.prog lwK 1000 8 #[.slice (some ⟨6, 0, none⟩) 0 c, .agg #[.int .i64 x0, .int .i64 x1], .slice (some ⟨7, 0, none⟩) m c2] ((aw3S0.push (.hole)).push (.rows m 1 (fun i j => .int .i64 (h i j)) 0 true 0 true)) ⟨[0, 0, 0, 0, 1, 1, 1, 0, 1], True⟩
noncomputable def lw7 (c : Nat) (m : Nat) (c2 : Nat) (h : Nat → Nat → Int) (x0 : Int) (x1 : Int) : Option OutS := evFS Tryz.prog lwK 1000 8 #[.slice (some ⟨6, 0, none⟩) 0 c, .agg #[.int .i64 x0, .int .i64 x1], .slice (some ⟨7, 0, none⟩) m c2] ((aw3S0.push (.hole)).push (.rows m 1 (fun i j => .int .i64 (h i j)) 0 true 0 true)) ⟨[0, 0, 0, 0, 1, 1, 1, 0, 0, 1, 0, 0, 1, 1, .row 0 0, 1, 1, 1, 0, 1, 1, 1, 0, 1, 0, 0, 0, 1, 1, 1, 1, 0, 0, 1, 1, 1, 1, 1, 1, 1, 1, 1, 1, 1, 1, 1, 1, 1, 1, 1, 1, 1, 1, 1, 1, 1, 1, 1, 1, 1], True⟩
noncomputable def lw8 (n : Nat) (c : Nat) (g : Nat → Nat → Int) (x0 : Int) (x1 : Int) : Option OutS := evFS Tryz.prog lwK 1000 8 #[.slice (some ⟨6, 0, none⟩) n c, .agg #[.int .i64 x0, .int .i64 x1], .slice none 0 0] ((aw3S0.push (.rows n 1 (fun i j => .int .i64 (g i j)) 0 true 0 true)).push (.hole)) ⟨[1, 1, 1, 1, 1, 1, 1, 0, 0, .row 0 0, 1, 1, .row 0 0, 0, 1, .row 0 0, 1, 1, 0, 1, 0, 0, 1, 1, 0, 0, 1, 1, 1, 0, 1, 0, .row 0 0, 1, 1, 1, 1, 1, 1, 1, 1, 1, 1, 1, 1, 1, 1, 1, 1, 1, 1, 1, 1, 1, 1, 1, 0, 1, 1, 1, 1, 1], True⟩
noncomputable def lw9 (n : Nat) (c : Nat) (g : Nat → Nat → Int) (x0 : Int) (x1 : Int) : Option OutS := evFS Tryz.prog lwK 1000 8 #[.slice (some ⟨6, 0, none⟩) n c, .agg #[.int .i64 x0, .int .i64 x1], .slice none 0 0] ((aw3S0.push (.rows n 1 (fun i j => .int .i64 (g i j)) 0 true 0 true)).push (.hole)) ⟨[1, 1, 1, 1, 1, 1, 1, 0, 0, .row 0 0, 1, 1, .row 0 0, 0, 1, .row 0 0, 1, 1, 0, 1, 0, 0, 1, 1, 0, 0, 1, 1, 1, 0, 1, 1, .row 0 0, 1, 1, 1, 1, 1, 1, 1, 1, 1, 1, 1, 1, 1, 1, 1, 1, 1, 1, 1, 1, 1, 1, 1, 0, 1, 1, 1, 1, 1], True⟩
noncomputable def lw10 (n : Nat) (c : Nat) (g : Nat → Nat → Int) (x0 : Int) (x1 : Int) : Option OutS := evFS Tryz.prog lwK 1000 8 #[.slice (some ⟨6, 0, none⟩) n c, .agg #[.int .i64 x0, .int .i64 x1], .slice none 0 0] ((aw3S0.push (.rows n 1 (fun i j => .int .i64 (g i j)) 0 true 0 true)).push (.hole)) ⟨[1, 1, 1, 1, 1, 1, 1, 0, 0, .row 0 0, 1, 1, .row 0 0, 0, 1, .row 0 0, 1, 1, 0, 1, 0, 1, 0, 1, 1, 0, .row 0 0, 1, 1, 1, 1, 1, 1, 1, 1, 1, 1, 1, 1, 1, 1, 1, 1, 1, 1, 1, 1, 1, 1, 1, 0, 1, 1, 1, 1, 1], True⟩
noncomputable def lw11 (n : Nat) (c : Nat) (g : Nat → Nat → Int) (x0 : Int) (x1 : Int) : Option OutS := evFS Tryz.prog lwK 1000 8 #[.slice (some ⟨6, 0, none⟩) n c, .agg #[.int .i64 x0, .int .i64 x1], .slice none 0 0] ((aw3S0.push (.rows n 1 (fun i j => .int .i64 (g i j)) 0 true 0 true)).push (.hole)) ⟨[1, 1, 1, 1, 1, 1, 1, 0, 0, .row 0 0, 1, 0, .row 0 0, 0, 1, .row 0 0, 1, 1, 0, 1, 0, 0, 1, 1, 1, 1, 0, 0, .row 0 0, 1, 1, 1, 0, 0, 1, 1, 1, 1, 1, 1, 1, 1, 1, 1, 1, 1, 1, 1, 1, 1, 1, 1, 1, 1, 1, 1, 1, 1, 1], True⟩
noncomputable def lw12 (n : Nat) (c : Nat) (g : Nat → Nat → Int) (x0 : Int) (x1 : Int) : Option OutS := evFS Tryz.prog lwK 1000 8 #[.slice (some ⟨6, 0, none⟩) n c, .agg #[.int .i64 x0, .int .i64 x1], .slice none 0 0] ((aw3S0.push (.rows n 1 (fun i j => .int .i64 (g i j)) 0 true 0 true)).push (.hole)) ⟨[1, 1, 1, 1, 1, 1, 1, 0, 0, .row 0 0, 1, 0, .row 0 0, 0, 1, .row 0 0, 1, 1, 0, 1, 0, 1, 0, 0, 0, .row 0 0, 1, 1, 1, 0, 0, 1, 1, 1, 1, 1, 1, 1, 1, 1, 1, 1, 1, 1, 1, 1, 1, 1, 1, 1, 1, 1, 1, 1, 1, 1], True⟩
noncomputable def lw13 (n : Nat) (c : Nat) (g : Nat → Nat → Int) (x0 : Int) (x1 : Int) : Option OutS := evFS Tryz.prog lwK 1000 8 #[.slice (some ⟨6, 0, none⟩) n c, .agg #[.int .i64 x0, .int .i64 x1], .slice none 0 0] ((aw3S0.push (.rows n 1 (fun i j => .int .i64 (g i j)) 0 true 0 true)).push (.hole)) ⟨[1, 1, 1, 1, 0, 0, 0, 1, 1], True⟩
noncomputable def lw14 (n : Nat) (c : Nat) (g : Nat → Nat → Int) (x0 : Int) (x1 : Int) : Option OutS := evFS Tryz.prog lwK 1000 8 #[.slice (some ⟨6, 0, none⟩) n c, .agg #[.int .i64 x0, .int .i64 x1], .slice none 0 0] ((aw3S0.push (.rows n 1 (fun i j => .int .i64 (g i j)) 0 true 0 true)).push (.hole)) ⟨[0, 0, 0, 0, 1, 1, 1, 0, 0, .row 0 0, 1, 1, .row 0 0, 0, 1, .row 0 0, 1, 1, 0, 1, 0, 0, 1, 1, 0, 0, 1, 1, 1, 0, 1, 0, .row 0 0, 1, 1, 1, 1, 1, 1, 1, 1, 1, 1, 1, 1, 1, 1, 1, 1, 1, 1, 1, 1, 1, 1, 1, 0, 1, 1, 1, 1, 1], True⟩
noncomputable def lw15 (n : Nat) (c : Nat) (g : Nat → Nat → Int) (x0 : Int) (x1 : Int) : Option OutS := evFS Tryz.prog lwK 1000 8 #[.slice (some ⟨6, 0, none⟩) n c, .agg #[.int .i64 x0, .int .i64 x1], .slice none 0 0] ((aw3S0.push (.rows n 1 (fun i j => .int .i64 (g i j)) 0 true 0 true)).push (.hole)) ⟨[0, 0, 0, 0, 1, 1, 1, 0, 0, .row 0 0, 1, 1, .row 0 0, 0, 1, .row 0 0, 1, 1, 0, 1, 0, 0, 1, 1, 0, 0, 1, 1, 1, 0, 1, 1, .row 0 0, 1, 1, 1, 1, 1, 1, 1, 1, 1, 1, 1, 1, 1, 1, 1, 1, 1, 1, 1, 1, 1, 1, 1, 0, 1, 1, 1, 1, 1], True⟩
noncomputable def lw16 (n : Nat) (c : Nat) (g : Nat → Nat → Int) (x0 : Int) (x1 : Int) : Option OutS := evFS Tryz.prog lwK 1000 8 #[.slice (some ⟨6, 0, none⟩) n c, .agg #[.int .i64 x0, .int .i64 x1], .slice none 0 0] ((aw3S0.push (.rows n 1 (fun i j => .int .i64 (g i j)) 0 true 0 true)).push (.hole)) ⟨[0, 0, 0, 0, 1, 1, 1, 0, 0, .row 0 0, 1, 1, .row 0 0, 0, 1, .row 0 0, 1, 1, 0, 1, 0, 1, 0, 1, 1, 0, .row 0 0, 1, 1, 1, 1, 1, 1, 1, 1, 1, 1, 1, 1, 1, 1, 1, 1, 1, 1, 1, 1, 1, 1, 1, 0, 1, 1, 1, 1, 1], True⟩
noncomputable def lw17 (n : Nat) (c : Nat) (g : Nat → Nat → Int) (x0 : Int) (x1 : Int) : Option OutS := evFS Tryz.prog lwK 1000 8 #[.slice (some ⟨6, 0, none⟩) n c, .agg #[.int .i64 x0, .int .i64 x1], .slice none 0 0] ((aw3S0.push (.rows n 1 (fun i j => .int .i64 (g i j)) 0 true 0 true)).push (.hole)) ⟨[0, 0, 0, 0, 1, 1, 1, 0, 0, .row 0 0, 1, 0, .row 0 0, 0, 1, .row 0 0, 1, 1, 0, 1, 0, 0, 1, 1, 1, 1, 0, 0, .row 0 0, 1, 1, 1, 0, 0, 1, 1, 1, 1, 1, 1, 1, 1, 1, 1, 1, 1, 1, 1, 1, 1, 1, 1, 1, 1, 1, 1, 1, 1, 1], True⟩
noncomputable def lw18 (n : Nat) (c : Nat) (g : Nat → Nat → Int) (x0 : Int) (x1 : Int) : Option OutS := evFS Tryz.prog lwK 1000 8 #[.slice (some ⟨6, 0, none⟩) n c, .agg #[.int .i64 x0, .int .i64 x1], .slice none 0 0] ((aw3S0.push (.rows n 1 (fun i j => .int .i64 (g i j)) 0 true 0 true)).push (.hole)) ⟨[0, 0, 0, 0, 1, 1, 1, 0, 0, .row 0 0, 1, 0, .row 0 0, 0, 1, .row 0 0, 1, 1, 0, 1, 0, 1, 0, 0, 0, .row 0 0, 1, 1, 1, 0, 0, 1, 1, 1, 1, 1, 1, 1, 1, 1, 1, 1, 1, 1, 1, 1, 1, 1, 1, 1, 1, 1, 1, 1, 1, 1], True⟩
noncomputable def lw19 (n : Nat) (c : Nat) (g : Nat → Nat → Int) (c2 : Nat) (x0 : Int) (x1 : Int) : Option OutS := evFS Tryz.prog lwK 1000 8 #[.slice (some ⟨6, 0, none⟩) n c, .agg #[.int .i64 x0, .int .i64 x1], .slice (some ⟨7, 0, none⟩) 0 c2] ((aw3S0.push (.rows n 1 (fun i j => .int .i64 (g i j)) 0 true 0 true)).push (.hole)) ⟨[1, 1, 1, 1, 1, 1, 1, 0, 0, .row 0 0, 1, 1, .row 0 0, 0, 1, .row 0 0, 1, 1, 0, 1, 0, 0, 1, 1, 0, 0, 1, 1, 1, 0, 1, 0, .row 0 0, 1, 1, 1, 1, 1, 1, 1, 1, 1, 1, 1, 1, 1, 1, 1, 1, 1, 1, 1, 1, 1, 1, 1, 0, 1, 1, 1, 1, 1], True⟩
noncomputable def lw20 (n : Nat) (c : Nat) (g : Nat → Nat → Int) (c2 : Nat) (x0 : Int) (x1 : Int) : Option OutS := evFS Tryz.prog lwK 1000 8 #[.slice (some ⟨6, 0, none⟩) n c, .agg #[.int .i64 x0, .int .i64 x1], .slice (some ⟨7, 0, none⟩) 0 c2] ((aw3S0.push (.rows n 1 (fun i j => .int .i64 (g i j)) 0 true 0 true)).push (.hole)) ⟨[1, 1, 1, 1, 1, 1, 1, 0, 0, .row 0 0, 1, 1, .row 0 0, 0, 1, .row 0 0, 1, 1, 0, 1, 0, 0, 1, 1, 0, 0, 1, 1, 1, 0, 1, 1, .row 0 0, 1, 1, 1, 1, 1, 1, 1, 1, 1, 1, 1, 1, 1, 1, 1, 1, 1, 1, 1, 1, 1, 1, 1, 0, 1, 1, 1, 1, 1], True⟩
noncomputable def lw21 (n : Nat) (c : Nat) (g : Nat → Nat → Int) (c2 : Nat) (x0 : Int) (x1 : Int) : Option OutS := evFS Tryz.prog lwK 1000 8 #[.slice (some ⟨6, 0, none⟩) n c, .agg #[.int .i64 x0, .int .i64 x1], .slice (some ⟨7, 0, none⟩) 0 c2] ((aw3S0.push (.rows n 1 (fun i j => .int .i64 (g i j)) 0 true 0 true)).push (.hole)) ⟨[1, 1, 1, 1, 1, 1, 1, 0, 0, .row 0 0, 1, 1, .row 0 0, 0, 1, .row 0 0, 1, 1, 0, 1, 0, 1, 0, 1, 1, 0, .row 0 0, 1, 1, 1, 1, 1, 1, 1, 1, 1, 1, 1, 1, 1, 1, 1, 1, 1, 1, 1, 1, 1, 1, 1, 0, 1, 1, 1, 1, 1], True⟩
noncomputable def lw22 (n : Nat) (c : Nat) (g : Nat → Nat → Int) (c2 : Nat) (x0 : Int) (x1 : Int) : Option OutS := evFS Tryz.prog lwK 1000 8 #[.slice (some ⟨6, 0, none⟩) n c, .agg #[.int .i64 x0, .int .i64 x1], .slice (some ⟨7, 0, none⟩) 0 c2] ((aw3S0.push (.rows n 1 (fun i j => .int .i64 (g i j)) 0 true 0 true)).push (.hole)) ⟨[1, 1, 1, 1, 1, 1, 1, 0, 0, .row 0 0, 1, 0, .row 0 0, 0, 1, .row 0 0, 1, 1, 0, 1, 0, 0, 1, 1, 1, 1, 0, 0, .row 0 0, 1, 1, 1, 0, 0, 1, 1, 1, 1, 1, 1, 1, 1, 1, 1, 1, 1, 1, 1, 1, 1, 1, 1, 1, 1, 1, 1, 1, 1, 1], True⟩
noncomputable def lw23 (n : Nat) (c : Nat) (g : Nat → Nat → Int) (c2 : Nat) (x0 : Int) (x1 : Int) : Option OutS := evFS Tryz.prog lwK 1000 8 #[.slice (some ⟨6, 0, none⟩) n c, .agg #[.int .i64 x0, .int .i64 x1], .slice (some ⟨7, 0, none⟩) 0 c2] ((aw3S0.push (.rows n 1 (fun i j => .int .i64 (g i j)) 0 true 0 true)).push (.hole)) ⟨[1, 1, 1, 1, 1, 1, 1, 0, 0, .row 0 0, 1, 0, .row 0 0, 0, 1, .row 0 0, 1, 1, 0, 1, 0, 1, 0, 0, 0, .row 0 0, 1, 1, 1, 0, 0, 1, 1, 1, 1, 1, 1, 1, 1, 1, 1, 1, 1, 1, 1, 1, 1, 1, 1, 1, 1, 1, 1, 1, 1, 1], True⟩
noncomputable def lw24 (n : Nat) (c : Nat) (g : Nat → Nat → Int) (c2 : Nat) (x0 : Int) (x1 : Int) : Option OutS := evFS Tryz.prog lwK 1000 8 #[.slice (some ⟨6, 0, none⟩) n c, .agg #[.int .i64 x0, .int .i64 x1], .slice (some ⟨7, 0, none⟩) 0 c2] ((aw3S0.push (.rows n 1 (fun i j => .int .i64 (g i j)) 0 true 0 true)).push (.hole)) ⟨[1, 1, 1, 1, 0, 0, 0, 1, 1], True⟩
noncomputable def lw25 (n : Nat) (c : Nat) (g : Nat → Nat → Int) (c2 : Nat) (x0 : Int) (x1 : Int) : Option OutS := evFS Tryz.prog lwK 1000 8 #[.slice (some ⟨6, 0, none⟩) n c, .agg #[.int .i64 x0, .int .i64 x1], .slice (some ⟨7, 0, none⟩) 0 c2] ((aw3S0.push (.rows n 1 (fun i j => .int .i64 (g i j)) 0 true 0 true)).push (.hole)) ⟨[0, 0, 0, 0, 1, 1, 1, 0, 0, .row 0 0, 1, 1, .row 0 0, 0, 1, .row 0 0, 1, 1, 0, 1, 0, 0, 1, 1, 0, 0, 1, 1, 1, 0, 1, 0, .row 0 0, 1, 1, 1, 1, 1, 1, 1, 1, 1, 1, 1, 1, 1, 1, 1, 1, 1, 1, 1, 1, 1, 1, 1, 0, 1, 1, 1, 1, 1], True⟩
noncomputable def lw26 (n : Nat) (c : Nat) (g : Nat → Nat → Int) (c2 : Nat) (x0 : Int) (x1 : Int) : Option OutS := evFS Tryz.prog lwK 1000 8 #[.slice (some ⟨6, 0, none⟩) n c, .agg #[.int .i64 x0, .int .i64 x1], .slice (some ⟨7, 0, none⟩) 0 c2] ((aw3S0.push (.rows n 1 (fun i j => .int .i64 (g i j)) 0 true 0 true)).push (.hole)) ⟨[0, 0, 0, 0, 1, 1, 1, 0, 0, .row 0 0, 1, 1, .row 0 0, 0, 1, .row 0 0, 1, 1, 0, 1, 0, 0, 1, 1, 0, 0, 1, 1, 1, 0, 1, 1, .row 0 0, 1, 1, 1, 1, 1, 1, 1, 1, 1, 1, 1, 1, 1, 1, 1, 1, 1, 1, 1, 1, 1, 1, 1, 0, 1, 1, 1, 1, 1], True⟩
noncomputable def lw27 (n : Nat) (c : Nat) (g : Nat → Nat → Int) (c2 : Nat) (x0 : Int) (x1 : Int) : Option OutS := evFS Tryz.prog lwK 1000 8 #[.slice (some ⟨6, 0, none⟩) n c, .agg #[.int .i64 x0, .int .i64 x1], .slice (some ⟨7, 0, none⟩) 0 c2] ((aw3S0.push (.rows n 1 (fun i j => .int .i64 (g i j)) 0 true 0 true)).push (.hole)) ⟨[0, 0, 0, 0, 1, 1, 1, 0, 0, .row 0 0, 1, 1, .row 0 0, 0, 1, .row 0 0, 1, 1, 0, 1, 0, 1, 0, 1, 1, 0, .row 0 0, 1, 1, 1, 1, 1, 1, 1, 1, 1, 1, 1, 1, 1, 1, 1, 1, 1, 1, 1, 1, 1, 1, 1, 0, 1, 1, 1, 1, 1], True⟩
noncomputable def lw28 (n : Nat) (c : Nat) (g : Nat → Nat → Int) (c2 : Nat) (x0 : Int) (x1 : Int) : Option OutS := evFS Tryz.prog lwK 1000 8 #[.slice (some ⟨6, 0, none⟩) n c, .agg #[.int .i64 x0, .int .i64 x1], .slice (some ⟨7, 0, none⟩) 0 c2] ((aw3S0.push (.rows n 1 (fun i j => .int .i64 (g i j)) 0 true 0 true)).push (.hole)) ⟨[0, 0, 0, 0, 1, 1, 1, 0, 0, .row 0 0, 1, 0, .row 0 0, 0, 1, .row 0 0, 1, 1, 0, 1, 0, 0, 1, 1, 1, 1, 0, 0, .row 0 0, 1, 1, 1, 0, 0, 1, 1, 1, 1, 1, 1, 1, 1, 1, 1, 1, 1, 1, 1, 1, 1, 1, 1, 1, 1, 1, 1, 1, 1, 1], True⟩
noncomputable def lw29 (n : Nat) (c : Nat) (g : Nat → Nat → Int) (c2 : Nat) (x0 : Int) (x1 : Int) : Option OutS := evFS Tryz.prog lwK 1000 8 #[.slice (some ⟨6, 0, none⟩) n c, .agg #[.int .i64 x0, .int .i64 x1], .slice (some ⟨7, 0, none⟩) 0 c2] ((aw3S0.push (.rows n 1 (fun i j => .int .i64 (g i j)) 0 true 0 true)).push (.hole)) ⟨[0, 0, 0, 0, 1, 1, 1, 0, 0, .row 0 0, 1, 0, .row 0 0, 0, 1, .row 0 0, 1, 1, 0, 1, 0, 1, 0, 0, 0, .row 0 0, 1, 1, 1, 0, 0, 1, 1, 1, 1, 1, 1, 1, 1, 1, 1, 1, 1, 1, 1, 1, 1, 1, 1, 1, 1, 1, 1, 1, 1, 1], True⟩
noncomputable def lw30 (n : Nat) (c : Nat) (g : Nat → Nat → Int) (m : Nat) (c2 : Nat) (h : Nat → Nat → Int) (x0 : Int) (x1 : Int) : Option OutS := evFS Tryz.prog lwK 1000 8 #[.slice (some ⟨6, 0, none⟩) n c, .agg #[.int .i64 x0, .int .i64 x1], .slice (some ⟨7, 0, none⟩) m c2] ((aw3S0.push (.rows n 1 (fun i j => .int .i64 (g i j)) 0 true 0 true)).push (.rows m 1 (fun i j => .int .i64 (h i j)) 0 true 0 true)) ⟨[1, 1, 1, 1, 1, 1, 1, 0, 1], True⟩
noncomputable def lw31 (n : Nat) (c : Nat) (g : Nat → Nat → Int) (m : Nat) (c2 : Nat) (h : Nat → Nat → Int) (x0 : Int) (x1 : Int) : Option OutS := evFS Tryz.prog lwK 1000 8 #[.slice (some ⟨6, 0, none⟩) n c, .agg #[.int .i64 x0, .int .i64 x1], .slice (some ⟨7, 0, none⟩) m c2] ((aw3S0.push (.rows n 1 (fun i j => .int .i64 (g i j)) 0 true 0 true)).push (.rows m 1 (fun i j => .int .i64 (h i j)) 0 true 0 true)) ⟨[1, 1, 1, 1, 1, 1, 1, 0, 0, .row 0 0, 1, 1, .row 0 0, 0, 1, .row 0 0, 1, .row 0 0, 1, 0, 1, 0, 0, 1, 1, 0, 0, 1, 1, 1, 0, 1, 0, .row 0 0, 1, 1, 1, 1, 1, 1, 1, 1, 1, 1, 1, 1, 1, 1, 1, 1, 1, 1, 1, 1, 1, 1, 1, 1, 1, 1, 1], True⟩
noncomputable def lw32 (n : Nat) (c : Nat) (g : Nat → Nat → Int) (m : Nat) (c2 : Nat) (h : Nat → Nat → Int) (x0 : Int) (x1 : Int) : Option OutS := evFS Tryz.prog lwK 1000 8 #[.slice (some ⟨6, 0, none⟩) n c, .agg #[.int .i64 x0, .int .i64 x1], .slice (some ⟨7, 0, none⟩) m c2] ((aw3S0.push (.rows n 1 (fun i j => .int .i64 (g i j)) 0 true 0 true)).push (.rows m 1 (fun i j => .int .i64 (h i j)) 0 true 0 true)) ⟨[1, 1, 1, 1, 1, 1, 1, 0, 0, .row 0 0, 1, 1, .row 0 0, 0, 1, .row 0 0, 1, .row 0 0, 1, 0, 1, 0, 0, 1, 1, 0, 0, 1, 1, 1, 0, 1, 1, .row 0 0, 1, 1, 1, 1, 1, 1, 1, 1, 1, 1, 1, 1, 1, 1, 1, 1, 1, 1, 1, 1, 1, 1, 1, 1, 1, 1, 1], True⟩
noncomputable def lw33 (n : Nat) (c : Nat) (g : Nat → Nat → Int) (m : Nat) (c2 : Nat) (h : Nat → Nat → Int) (x0 : Int) (x1 : Int) : Option OutS := evFS Tryz.prog lwK 1000 8 #[.slice (some ⟨6, 0, none⟩) n c, .agg #[.int .i64 x0, .int .i64 x1], .slice (some ⟨7, 0, none⟩) m c2] ((aw3S0.push (.rows n 1 (fun i j => .int .i64 (g i j)) 0 true 0 true)).push (.rows m 1 (fun i j => .int .i64 (h i j)) 0 true 0 true)) ⟨[1, 1, 1, 1, 1, 1, 1, 0, 0, .row 0 0, 1, 1, .row 0 0, 0, 1, .row 0 0, 1, .row 0 0, 1, 0, 1, 0, 1, 0, 1, 1, 0, .row 0 0, 1, 1, 1, 1, 1, 1, 1, 1, 1, 1, 1, 1, 1, 1, 1, 1, 1, 1, 1, 1, 1, 1, 1, 1, 1, 1, 1], True⟩
noncomputable def lw34 (n : Nat) (c : Nat) (g : Nat → Nat → Int) (m : Nat) (c2 : Nat) (h : Nat → Nat → Int) (x0 : Int) (x1 : Int) : Option OutS := evFS Tryz.prog lwK 1000 8 #[.slice (some ⟨6, 0, none⟩) n c, .agg #[.int .i64 x0, .int .i64 x1], .slice (some ⟨7, 0, none⟩) m c2] ((aw3S0.push (.rows n 1 (fun i j => .int .i64 (g i j)) 0 true 0 true)).push (.rows m 1 (fun i j => .int .i64 (h i j)) 0 true 0 true)) ⟨[1, 1, 1, 1, 1, 1, 1, 0, 0, .row 0 0, 1, 0, .row 0 0, 0, 1, .row 0 0, 1, .row 0 0, 1, 0, 1, 0, 0, 1, 1, 1, 1, 0, 0, .row 0 0, 1, 1, 1, 0, 0, 1, 1, 1, 1, 1, 1, 1, 1, 1, 1, 1, 1, 1, 1, 1, 1, 1, 1, 1, 1, 1, 1, 1, 1], True⟩
noncomputable def lw35 (n : Nat) (c : Nat) (g : Nat → Nat → Int) (m : Nat) (c2 : Nat) (h : Nat → Nat → Int) (x0 : Int) (x1 : Int) : Option OutS := evFS Tryz.prog lwK 1000 8 #[.slice (some ⟨6, 0, none⟩) n c, .agg #[.int .i64 x0, .int .i64 x1], .slice (some ⟨7, 0, none⟩) m c2] ((aw3S0.push (.rows n 1 (fun i j => .int .i64 (g i j)) 0 true 0 true)).push (.rows m 1 (fun i j => .int .i64 (h i j)) 0 true 0 true)) ⟨[1, 1, 1, 1, 1, 1, 1, 0, 0, .row 0 0, 1, 0, .row 0 0, 0, 1, .row 0 0, 1, .row 0 0, 1, 0, 1, 0, 1, 0, 0, 0, .row 0 0, 1, 1, 1, 0, 0, 1, 1, 1, 1, 1, 1, 1, 1, 1, 1, 1, 1, 1, 1, 1, 1, 1, 1, 1, 1, 1, 1, 1, 1], True⟩
noncomputable def lw36 (n : Nat) (c : Nat) (g : Nat → Nat → Int) (m : Nat) (c2 : Nat) (h : Nat → Nat → Int) (x0 : Int) (x1 : Int) : Option OutS := evFS Tryz.prog lwK 1000 8 #[.slice (some ⟨6, 0, none⟩) n c, .agg #[.int .i64 x0, .int .i64 x1], .slice (some ⟨7, 0, none⟩) m c2] ((aw3S0.push (.rows n 1 (fun i j => .int .i64 (g i j)) 0 true 0 true)).push (.rows m 1 (fun i j => .int .i64 (h i j)) 0 true 0 true)) ⟨[1, 1, 1, 1, 0, 0, 0, 1, 1], True⟩
noncomputable def lw37 (n : Nat) (c : Nat) (g : Nat → Nat → Int) (m : Nat) (c2 : Nat) (h : Nat → Nat → Int) (x0 : Int) (x1 : Int) : Option OutS := evFS Tryz.prog lwK 1000 8 #[.slice (some ⟨6, 0, none⟩) n c, .agg #[.int .i64 x0, .int .i64 x1], .slice (some ⟨7, 0, none⟩) m c2] ((aw3S0.push (.rows n 1 (fun i j => .int .i64 (g i j)) 0 true 0 true)).push (.rows m 1 (fun i j => .int .i64 (h i j)) 0 true 0 true)) ⟨[0, 0, 0, 0, 1, 1, 1, 0, 1], True⟩
noncomputable def lw38 (n : Nat) (c : Nat) (g : Nat → Nat → Int) (m : Nat) (c2 : Nat) (h : Nat → Nat → Int) (x0 : Int) (x1 : Int) : Option OutS := evFS Tryz.prog lwK 1000 8 #[.slice (some ⟨6, 0, none⟩) n c, .agg #[.int .i64 x0, .int .i64 x1], .slice (some ⟨7, 0, none⟩) m c2] ((aw3S0.push (.rows n 1 (fun i j => .int .i64 (g i j)) 0 true 0 true)).push (.rows m 1 (fun i j => .int .i64 (h i j)) 0 true 0 true)) ⟨[0, 0, 0, 0, 1, 1, 1, 0, 0, .row 0 0, 1, 1, .row 0 0, 0, 1, .row 0 0, 1, .row 0 0, 1, 0, 1, 0, 0, 1, 1, 0, 0, 1, 1, 1, 0, 1, 0, .row 0 0, 1, 1, 1, 1, 1, 1, 1, 1, 1, 1, 1, 1, 1, 1, 1, 1, 1, 1, 1, 1, 1, 1, 1, 1, 1, 1, 1], True⟩
noncomputable def lw39 (n : Nat) (c : Nat) (g : Nat → Nat → Int) (m : Nat) (c2 : Nat) (h : Nat → Nat → Int) (x0 : Int) (x1 : Int) : Option OutS := evFS Tryz.prog lwK 1000 8 #[.slice (some ⟨6, 0, none⟩) n c, .agg #[.int .i64 x0, .int .i64 x1], .slice (some ⟨7, 0, none⟩) m c2] ((aw3S0.push (.rows n 1 (fun i j => .int .i64 (g i j)) 0 true 0 true)).push (.rows m 1 (fun i j => .int .i64 (h i j)) 0 true 0 true)) ⟨[0, 0, 0, 0, 1, 1, 1, 0, 0, .row 0 0, 1, 1, .row 0 0, 0, 1, .row 0 0, 1, .row 0 0, 1, 0, 1, 0, 0, 1, 1, 0, 0, 1, 1, 1, 0, 1, 1, .row 0 0, 1, 1, 1, 1, 1, 1, 1, 1, 1, 1, 1, 1, 1, 1, 1, 1, 1, 1, 1, 1, 1, 1, 1, 1, 1, 1, 1], True⟩
noncomputable def lw40 (n : Nat) (c : Nat) (g : Nat → Nat → Int) (m : Nat) (c2 : Nat) (h : Nat → Nat → Int) (x0 : Int) (x1 : Int) : Option OutS := evFS Tryz.prog lwK 1000 8 #[.slice (some ⟨6, 0, none⟩) n c, .agg #[.int .i64 x0, .int .i64 x1], .slice (some ⟨7, 0, none⟩) m c2] ((aw3S0.push (.rows n 1 (fun i j => .int .i64 (g i j)) 0 true 0 true)).push (.rows m 1 (fun i j => .int .i64 (h i j)) 0 true 0 true)) ⟨[0, 0, 0, 0, 1, 1, 1, 0, 0, .row 0 0, 1, 1, .row 0 0, 0, 1, .row 0 0, 1, .row 0 0, 1, 0, 1, 0, 1, 0, 1, 1, 0, .row 0 0, 1, 1, 1, 1, 1, 1, 1, 1, 1, 1, 1, 1, 1, 1, 1, 1, 1, 1, 1, 1, 1, 1, 1, 1, 1, 1, 1], True⟩
noncomputable def lw41 (n : Nat) (c : Nat) (g : Nat → Nat → Int) (m : Nat) (c2 : Nat) (h : Nat → Nat → Int) (x0 : Int) (x1 : Int) : Option OutS := evFS Tryz.prog lwK 1000 8 #[.slice (some ⟨6, 0, none⟩) n c, .agg #[.int .i64 x0, .int .i64 x1], .slice (some ⟨7, 0, none⟩) m c2] ((aw3S0.push (.rows n 1 (fun i j => .int .i64 (g i j)) 0 true 0 true)).push (.rows m 1 (fun i j => .int .i64 (h i j)) 0 true 0 true)) ⟨[0, 0, 0, 0, 1, 1, 1, 0, 0, .row 0 0, 1, 0, .row 0 0, 0, 1, .row 0 0, 1, .row 0 0, 1, 0, 1, 0, 0, 1, 1, 1, 1, 0, 0, .row 0 0, 1, 1, 1, 0, 0, 1, 1, 1, 1, 1, 1, 1, 1, 1, 1, 1, 1, 1, 1, 1, 1, 1, 1, 1, 1, 1, 1, 1, 1], True⟩
noncomputable def lw42 (n : Nat) (c : Nat) (g : Nat → Nat → Int) (m : Nat) (c2 : Nat) (h : Nat → Nat → Int) (x0 : Int) (x1 : Int) : Option OutS := evFS Tryz.prog lwK 1000 8 #[.slice (some ⟨6, 0, none⟩) n c, .agg #[.int .i64 x0, .int .i64 x1], .slice (some ⟨7, 0, none⟩) m c2] ((aw3S0.push (.rows n 1 (fun i j => .int .i64 (g i j)) 0 true 0 true)).push (.rows m 1 (fun i j => .int .i64 (h i j)) 0 true 0 true)) ⟨[0, 0, 0, 0, 1, 1, 1, 0, 0, .row 0 0, 1, 0, .row 0 0, 0, 1, .row 0 0, 1, .row 0 0, 1, 0, 1, 0, 1, 0, 0, 0, .row 0 0, 1, 1, 1, 0, 0, 1, 1, 1, 1, 1, 1, 1, 1, 1, 1, 1, 1, 1, 1, 1, 1, 1, 1, 1, 1, 1, 1, 1, 1], True⟩
abbrev lwo0  : Prop := ((decide ((((0 : Nat)) : Int) > (24 : Int))) = false)
abbrev lwo1  : Prop := (false = false)
abbrev lwo2  : Prop := ((1 : Int) = (Int.ofNat 1))
abbrev lwo3 (x1 : Int) : Prop := ((0 = 0) ∧ (((0 : Nat) ≤ (1048576 : Nat)) ∧ ((th2 (crV (0 : Nat) (fun (i : Nat) => (fun (j : Nat) => (List.getD [] ((i * 1) + j) (0 : Int))))) (ixE x1 (((0 : Nat)) : Int))) ≠ (0 : Int))))
abbrev lwo4  : Prop := ((0 : Int) = (Int.ofNat 0))
abbrev lwo5  : Prop := ((0 = 0) ∧ ((((0 : Nat)) : Int) ≤ (9223372036854775807 : Int)))
abbrev lwo6  : Prop := ((0 = 0) ∧ ((0 = 0) ∧ ((0 : Nat) ≤ (1048576 : Nat))))
abbrev lwo7  : Prop := (((((0 : Nat)) : Int) == (0 : Int)) = true)
abbrev lwo8  : Prop := (((12 : Int) != (0 : Int)) = true)
abbrev lwo9  : Prop := ((decide ((0 : Int) < (((2 : Nat)) : Int))) = true)
abbrev lwo10  : Prop := (((12 : Int) == (0 : Int)) = false)
abbrev lwo11  : Prop := (((crV (0 : Nat) (fun (i : Nat) => (fun (j : Nat) => (List.getD [] ((i * 1) + j) (0 : Int))))) == (12 : Int)) = true)
abbrev lwo12  : Prop := (((((0 : Nat)) : Int) != (((0 : Nat)) : Int)) = false)
abbrev lwo13  : Prop := ((decide ((0 : Int) < (((0 : Nat)) : Int))) = false)
abbrev lwo14  : Prop := (true = true)
abbrev lwo15 (x1 : Int) : Prop := (((th2 (crV (0 : Nat) (fun (i : Nat) => (fun (j : Nat) => (List.getD [] ((i * 1) + j) (0 : Int))))) (ixE x1 (((0 : Nat)) : Int))) == (12 : Int)) = true)
abbrev lwo16 (x0 : Int) (x1 : Int) : Prop := (((lkC (0 : Nat) (fun (i : Nat) => (fun (j : Nat) => (List.getD [] ((i * 1) + j) (0 : Int)))) x0 x1) == (0 : Int)) = true)
abbrev lwo17 (x0 : Int) (x1 : Int) : Prop := (((lkX (0 : Nat) (fun (i : Nat) => (fun (j : Nat) => (List.getD [] ((i * 1) + j) (0 : Int)))) x0 x1) == (12 : Int)) = true)
abbrev lwo18 (x1 : Int) : Prop := (((cbV (0 : Nat) (fun (i : Nat) => (fun (j : Nat) => (List.getD [] ((i * 1) + j) (0 : Int)))) (0 : Nat) (fun (i : Nat) => (fun (j : Nat) => (List.getD [] ((i * 1) + j) (0 : Int)))) x1) == (12 : Int)) = true)
abbrev lwo19 (m : Nat) : Prop := ((decide ((((m : Nat)) : Int) > (24 : Int))) = true)
abbrev lwo20 (m : Nat) : Prop := ((decide ((((m : Nat)) : Int) > (24 : Int))) = false)
abbrev lwo21 (m : Nat) : Prop := ((m = m) ∧ ((m ≠ (0 : Nat)) ∧ ((m * 8) ≤ (140737488355328 : Nat))))
abbrev lwo22 (m : Nat) (h : Nat → Nat → Int) : Prop := ((0 = 0) ∧ (((m = m) ∧ (∀ (i : Nat), ((i < m) → (∀ (j : Nat), ((j < (1 : Nat)) → ((Value.int .i64 (h i j)) = (Value.int .i64 (gI (Value.int .i64 (h i j)))))))))) ∧ ((0 : Nat) ≤ (1048576 : Nat))))
abbrev lwo23 (m : Nat) (h : Nat → Nat → Int) (x1 : Int) : Prop := (((cbV (0 : Nat) (fun (i : Nat) => (fun (j : Nat) => (List.getD [] ((i * 1) + j) (0 : Int)))) m (fun (i : Nat) => (fun (j : Nat) => (gI (Value.int .i64 (h i j))))) x1) == (12 : Int)) = true)
abbrev lwo24 (n : Nat) : Prop := ((decide ((((n : Nat)) : Int) > (24 : Int))) = true)
abbrev lwo25 (n : Nat) : Prop := (((((n : Nat)) : Int) != (65 : Int)) = false)
abbrev lwo26 (n : Nat) : Prop := ((n = n) ∧ ((n ≠ (0 : Nat)) ∧ ((n * 8) ≤ (140737488355328 : Nat))))
abbrev lwo27 (n : Nat) (g : Nat → Nat → Int) (x1 : Int) : Prop := (((n = n) ∧ (∀ (i : Nat), ((i < n) → (∀ (j : Nat), ((j < (1 : Nat)) → ((Value.int .i64 (g i j)) = (Value.int .i64 (gI (Value.int .i64 (g i j)))))))))) ∧ ((n ≤ (1048576 : Nat)) ∧ (((crV n (fun (i : Nat) => (fun (j : Nat) => (gI (Value.int .i64 (g i j)))))) = (Int.ofNat 0)) ∧ ((ixE x1 (((n : Nat)) : Int)) = (Int.ofNat 0)))))
abbrev lwo28 (n : Nat) (g : Nat → Nat → Int) : Prop := (((n = n) ∧ (∀ (i : Nat), ((i < n) → (∀ (j : Nat), ((j < (1 : Nat)) → ((Value.int .i64 (g i j)) = (Value.int .i64 (gI (Value.int .i64 (g i j)))))))))) ∧ ((((n : Nat)) : Int) ≤ (9223372036854775807 : Int)))
abbrev lwo29 (n : Nat) (g : Nat → Nat → Int) : Prop := (((n = n) ∧ (∀ (i : Nat), ((i < n) → (∀ (j : Nat), ((j < (1 : Nat)) → ((Value.int .i64 (g i j)) = (Value.int .i64 (gI (Value.int .i64 (g i j)))))))))) ∧ ((0 = 0) ∧ (n ≤ (1048576 : Nat))))
abbrev lwo30 (n : Nat) (g : Nat → Nat → Int) (x0 : Int) : Prop := (((th2 (crV n (fun (i : Nat) => (fun (j : Nat) => (gI (Value.int .i64 (g i j)))))) (ixE x0 (((n : Nat)) : Int))) != (0 : Int)) = false)
abbrev lwo31  : Prop := ((decide ((IntKind.i64.wrap ((0 : Int) + (1 : Int))) < (((2 : Nat)) : Int))) = true)
abbrev lwo32  : Prop := ((IntKind.i64.wrap ((0 : Int) + (1 : Int))) = (Int.ofNat 1))
abbrev lwo33 (n : Nat) (g : Nat → Nat → Int) (x1 : Int) : Prop := (((th2 (crV n (fun (i : Nat) => (fun (j : Nat) => (gI (Value.int .i64 (g i j)))))) (ixE x1 (((n : Nat)) : Int))) != (0 : Int)) = false)
abbrev lwo34  : Prop := ((decide ((IntKind.i64.wrap ((IntKind.i64.wrap ((0 : Int) + (1 : Int))) + (1 : Int))) < (((2 : Nat)) : Int))) = false)
abbrev lwo35 (n : Nat) (g : Nat → Nat → Int) (x1 : Int) : Prop := (((th2 (crV n (fun (i : Nat) => (fun (j : Nat) => (gI (Value.int .i64 (g i j)))))) (ixE x1 (((n : Nat)) : Int))) == (0 : Int)) = true)
abbrev lwo36 (n : Nat) (g : Nat → Nat → Int) (x1 : Int) : Prop := (((n = n) ∧ (∀ (i : Nat), ((i < n) → (∀ (j : Nat), ((j < (1 : Nat)) → ((Value.int .i64 (g i j)) = (Value.int .i64 (gI (Value.int .i64 (g i j)))))))))) ∧ ((n ≤ (1048576 : Nat)) ∧ ((∀ (i : Nat), ((i < n) → (((0 : Int) ≤ (gI (Value.int .i64 (g i 0)))) ∧ ((gI (Value.int .i64 (g i 0))) < (((n : Nat)) : Int))))) ∧ (((0 : Int) ≤ x1) ∧ (x1 < (((n : Nat)) : Int))))))
abbrev lwo37  : Prop := (((0 : Int) == (0 : Int)) = true)
abbrev lwo38 (n : Nat) (g : Nat → Nat → Int) (x0 : Int) : Prop := (((n = n) ∧ (∀ (i : Nat), ((i < n) → (∀ (j : Nat), ((j < (1 : Nat)) → ((Value.int .i64 (g i j)) = (Value.int .i64 (gI (Value.int .i64 (g i j)))))))))) ∧ ((∀ (i : Nat), ((i < n) → (((0 : Int) ≤ (gI (Value.int .i64 (g i 0)))) ∧ ((gI (Value.int .i64 (g i 0))) < (((n : Nat)) : Int))))) ∧ ((((0 : Int) ≤ x0) ∧ (x0 < (((n : Nat)) : Int))) ∧ (n ≤ (1048576 : Nat)))))
abbrev lwo39 (n : Nat) (g : Nat → Nat → Int) (x0 : Int) (x1 : Int) : Prop := ((Bool.not (fallB n (fun (i : Nat) => (fun (j : Nat) => (gI (Value.int .i64 (g i j))))) x0 x1)) = false)
abbrev lwo40 (n : Nat) (g : Nat → Nat → Int) : Prop := (((crV n (fun (i : Nat) => (fun (j : Nat) => (gI (Value.int .i64 (g i j)))))) == (crV n (fun (i : Nat) => (fun (j : Nat) => (gI (Value.int .i64 (g i j))))))) = true)
abbrev lwo41 (n : Nat) (g : Nat → Nat → Int) (x1 : Int) : Prop := ((((basN n (fun (i : Nat) => (fun (j : Nat) => (gI (Value.int .i64 (g i j))))) x1) = (basN n (fun (i : Nat) => (fun (j : Nat) => (gI (Value.int .i64 (g i j))))) x1)) ∧ (∀ (i : Nat), ((i < (basN n (fun (i : Nat) => (fun (j : Nat) => (gI (Value.int .i64 (g i j))))) x1)) → (∀ (j : Nat), ((j < (1 : Nat)) → ((Value.int .i64 (basG n (fun (i : Nat) => (fun (j : Nat) => (gI (Value.int .i64 (g i j))))) x1 i j)) = (Value.int .i64 (gI (Value.int .i64 (basG n (fun (i : Nat) => (fun (j : Nat) => (gI (Value.int .i64 (g i j))))) x1 i j)))))))))) ∧ ((((basN n (fun (i : Nat) => (fun (j : Nat) => (gI (Value.int .i64 (g i j))))) x1) = (basN n (fun (i : Nat) => (fun (j : Nat) => (gI (Value.int .i64 (g i j))))) x1)) ∧ (∀ (i : Nat), ((i < (basN n (fun (i : Nat) => (fun (j : Nat) => (gI (Value.int .i64 (g i j))))) x1)) → (∀ (j : Nat), ((j < (1 : Nat)) → ((Value.int .i64 (basG n (fun (i : Nat) => (fun (j : Nat) => (gI (Value.int .i64 (g i j))))) x1 i j)) = (Value.int .i64 (gI (Value.int .i64 (basG n (fun (i : Nat) => (fun (j : Nat) => (gI (Value.int .i64 (g i j))))) x1 i j)))))))))) ∧ (((((basN n (fun (i : Nat) => (fun (j : Nat) => (gI (Value.int .i64 (g i j))))) x1) : Nat)) : Int) ≤ (9223372036854775807 : Int))))
abbrev lwo42 (n : Nat) (g : Nat → Nat → Int) (x1 : Int) : Prop := ((decide (((basN n (fun (i : Nat) => (fun (j : Nat) => (gI (Value.int .i64 (g i j))))) x1) = (basN n (fun (i : Nat) => (fun (j : Nat) => (gI (Value.int .i64 (g i j))))) x1)) ∧ (sameI (fun (i : Nat) => (fun (j : Nat) => (gI (Value.int .i64 (basG n (fun (i : Nat) => (fun (j : Nat) => (gI (Value.int .i64 (g i j))))) x1 i j))))) (fun (i : Nat) => (fun (j : Nat) => (gI (Value.int .i64 (basG n (fun (i : Nat) => (fun (j : Nat) => (gI (Value.int .i64 (g i j))))) x1 i j))))) (basN n (fun (i : Nat) => (fun (j : Nat) => (gI (Value.int .i64 (g i j))))) x1)))) = true)
abbrev lwo43 (n : Nat) (g : Nat → Nat → Int) (x1 : Int) : Prop := (((0 : Int) == (th2 (crV n (fun (i : Nat) => (fun (j : Nat) => (gI (Value.int .i64 (g i j)))))) (ixE x1 (((n : Nat)) : Int)))) = true)
abbrev lwo44 (n : Nat) (g : Nat → Nat → Int) (x0 : Int) (x1 : Int) : Prop := (((lkC n (fun (i : Nat) => (fun (j : Nat) => (gI (Value.int .i64 (g i j))))) x0 x1) == (fallC n (fun (i : Nat) => (fun (j : Nat) => (gI (Value.int .i64 (g i j))))) x0 x1)) = true)
abbrev lwo45 (n : Nat) (g : Nat → Nat → Int) (x0 : Int) (x1 : Int) : Prop := (((lkX n (fun (i : Nat) => (fun (j : Nat) => (gI (Value.int .i64 (g i j))))) x0 x1) == (0 : Int)) = true)
abbrev lwo46 (n : Nat) : Prop := (((((0 : Nat)) : Int) != (((n : Nat)) : Int)) = true)
abbrev lwo47 (n : Nat) (g : Nat → Nat → Int) (x1 : Int) : Prop := (((cbV n (fun (i : Nat) => (fun (j : Nat) => (gI (Value.int .i64 (g i j))))) (0 : Nat) (fun (i : Nat) => (fun (j : Nat) => (List.getD [] ((i * 1) + j) (0 : Int)))) x1) == (2 : Int)) = true)
abbrev lwo48 (n : Nat) (g : Nat → Nat → Int) (x0 : Int) (x1 : Int) : Prop := ((Bool.not (fallB n (fun (i : Nat) => (fun (j : Nat) => (gI (Value.int .i64 (g i j))))) x0 x1)) = true)
abbrev lwo49 (n : Nat) (g : Nat → Nat → Int) (x0 : Int) (x1 : Int) : Prop := (((lkX n (fun (i : Nat) => (fun (j : Nat) => (gI (Value.int .i64 (g i j))))) x0 x1) == (7 : Int)) = true)
abbrev lwo50 (n : Nat) (g : Nat → Nat → Int) (x0 : Int) : Prop := (((th2 (crV n (fun (i : Nat) => (fun (j : Nat) => (gI (Value.int .i64 (g i j)))))) (ixE x0 (((n : Nat)) : Int))) != (0 : Int)) = true)
abbrev lwo51 (n : Nat) (g : Nat → Nat → Int) (x0 : Int) : Prop := (((th2 (crV n (fun (i : Nat) => (fun (j : Nat) => (gI (Value.int .i64 (g i j)))))) (ixE x0 (((n : Nat)) : Int))) == (0 : Int)) = false)
abbrev lwo52 (n : Nat) (g : Nat → Nat → Int) (x0 : Int) (x1 : Int) : Prop := (((lkC n (fun (i : Nat) => (fun (j : Nat) => (gI (Value.int .i64 (g i j))))) x0 x1) == (0 : Int)) = true)
abbrev lwo53 (n : Nat) (g : Nat → Nat → Int) (x0 : Int) (x1 : Int) : Prop := (((lkX n (fun (i : Nat) => (fun (j : Nat) => (gI (Value.int .i64 (g i j))))) x0 x1) == (th2 (crV n (fun (i : Nat) => (fun (j : Nat) => (gI (Value.int .i64 (g i j)))))) (ixE x0 (((n : Nat)) : Int)))) = true)
abbrev lwo54 (n : Nat) (g : Nat → Nat → Int) (x1 : Int) : Prop := (((n = n) ∧ (∀ (i : Nat), ((i < n) → (∀ (j : Nat), ((j < (1 : Nat)) → ((Value.int .i64 (g i j)) = (Value.int .i64 (gI (Value.int .i64 (g i j)))))))))) ∧ ((n ≤ (1048576 : Nat)) ∧ ((th2 (crV n (fun (i : Nat) => (fun (j : Nat) => (gI (Value.int .i64 (g i j)))))) (ixE x1 (((n : Nat)) : Int))) ≠ (0 : Int))))
abbrev lwo55 (n : Nat) (g : Nat → Nat → Int) (x1 : Int) : Prop := (((th2 (crV n (fun (i : Nat) => (fun (j : Nat) => (gI (Value.int .i64 (g i j)))))) (ixE x1 (((n : Nat)) : Int))) != (0 : Int)) = true)
abbrev lwo56 (n : Nat) (g : Nat → Nat → Int) (x1 : Int) : Prop := (((th2 (crV n (fun (i : Nat) => (fun (j : Nat) => (gI (Value.int .i64 (g i j)))))) (ixE x1 (((n : Nat)) : Int))) == (0 : Int)) = false)
abbrev lwo57 (n : Nat) (g : Nat → Nat → Int) (x1 : Int) : Prop := (((th2 (crV n (fun (i : Nat) => (fun (j : Nat) => (gI (Value.int .i64 (g i j)))))) (ixE x1 (((n : Nat)) : Int))) == (th2 (crV n (fun (i : Nat) => (fun (j : Nat) => (gI (Value.int .i64 (g i j)))))) (ixE x1 (((n : Nat)) : Int)))) = true)
abbrev lwo58 (n : Nat) (g : Nat → Nat → Int) (x0 : Int) (x1 : Int) : Prop := (((lkX n (fun (i : Nat) => (fun (j : Nat) => (gI (Value.int .i64 (g i j))))) x0 x1) == (th2 (crV n (fun (i : Nat) => (fun (j : Nat) => (gI (Value.int .i64 (g i j)))))) (ixE x1 (((n : Nat)) : Int)))) = true)
abbrev lwo59 (n : Nat) (g : Nat → Nat → Int) (x1 : Int) : Prop := (((cbV n (fun (i : Nat) => (fun (j : Nat) => (gI (Value.int .i64 (g i j))))) (0 : Nat) (fun (i : Nat) => (fun (j : Nat) => (List.getD [] ((i * 1) + j) (0 : Int)))) x1) == (th2 (crV n (fun (i : Nat) => (fun (j : Nat) => (gI (Value.int .i64 (g i j)))))) (ixE x1 (((n : Nat)) : Int)))) = true)
abbrev lwo60 (n : Nat) : Prop := (((((n : Nat)) : Int) != (65 : Int)) = true)
abbrev lwo61 (n : Nat) : Prop := ((decide ((((n : Nat)) : Int) > (24 : Int))) = false)
abbrev lwo62 (n : Nat) (m : Nat) (g : Nat → Nat → Int) (h : Nat → Nat → Int) : Prop := (((n = n) ∧ (∀ (i : Nat), ((i < n) → (∀ (j : Nat), ((j < (1 : Nat)) → ((Value.int .i64 (g i j)) = (Value.int .i64 (gI (Value.int .i64 (g i j)))))))))) ∧ (((m = m) ∧ (∀ (i : Nat), ((i < m) → (∀ (j : Nat), ((j < (1 : Nat)) → ((Value.int .i64 (h i j)) = (Value.int .i64 (gI (Value.int .i64 (h i j)))))))))) ∧ (n ≤ (1048576 : Nat))))
abbrev lwo63 (n : Nat) (m : Nat) (g : Nat → Nat → Int) (h : Nat → Nat → Int) (x1 : Int) : Prop := (((cbV n (fun (i : Nat) => (fun (j : Nat) => (gI (Value.int .i64 (g i j))))) m (fun (i : Nat) => (fun (j : Nat) => (gI (Value.int .i64 (h i j))))) x1) == (cbV n (fun (i : Nat) => (fun (j : Nat) => (gI (Value.int .i64 (g i j))))) m (fun (i : Nat) => (fun (j : Nat) => (gI (Value.int .i64 (h i j))))) x1)) = true)
theorem lwK_ok : FOkS Tryz.prog lwK := bothX_ok kSameI_ok (bothX_ok kBa_ok (bothX_ok kRs_ok (bothX_ok kLk_ok (bothX_ok kCb_ok (bothX_ok kRb_ok (bothX_ok kCp_ok (bothX_ok kCr_ok (bothX_ok kRCr_ok (bothX_ok kRl_ok (bothX_ok (kAll_ok _ ⟨k_range, k_rrange, k_index, trivial⟩) (tabT_ok (by kernel_rfl) aw3_calls)))))))))))
theorem lw0_o (x0 : Int) (x1 : Int) : obY (lw0 x0 x1) = (((((((((((((((((((((((((((((((((((((((((((((((((((((((((((((((True ∧ lwo0) ∧ lwo0) ∧ lwo0) ∧ lwo0) ∧ lwo1) ∧ lwo1) ∧ lwo1) ∧ lwo1) ∧ lwo0) ∧ lwo2) ∧ (lwo3 x1)) ∧ lwo4) ∧ lwo2) ∧ lwo5) ∧ lwo2) ∧ lwo6) ∧ lwo2) ∧ lwo7) ∧ lwo8) ∧ lwo4) ∧ lwo7) ∧ lwo8) ∧ lwo9) ∧ lwo4) ∧ lwo8) ∧ lwo4) ∧ lwo10) ∧ lwo10) ∧ lwo5) ∧ lwo7) ∧ lwo11) ∧ lwo11) ∧ lwo11) ∧ lwo12) ∧ lwo13) ∧ lwo11) ∧ lwo14) ∧ lwo14) ∧ lwo14) ∧ lwo14) ∧ (lwo15 x1)) ∧ (lwo15 x1)) ∧ (lwo15 x1)) ∧ (lwo15 x1)) ∧ (lwo16 x0 x1)) ∧ (lwo16 x0 x1)) ∧ (lwo16 x0 x1)) ∧ (lwo16 x0 x1)) ∧ (lwo17 x0 x1)) ∧ (lwo17 x0 x1)) ∧ (lwo17 x0 x1)) ∧ lwo2) ∧ (lwo17 x0 x1)) ∧ (lwo17 x0 x1)) ∧ (lwo17 x0 x1)) ∧ lwo7) ∧ lwo8) ∧ lwo8) ∧ (lwo17 x0 x1)) ∧ (lwo17 x0 x1)) ∧ (lwo18 x1)) ∧ (lwo18 x1))) := by kernel_rfl
theorem lw0_g (x0 : Int) (x1 : Int) : goodY (lw0 x0 x1) = true := by kernel_rfl
theorem lw1_o (c2 : Nat) (x0 : Int) (x1 : Int) : obY (lw1 c2 x0 x1) = (((((((((((((((((((((((((((((((((((((((((((((((((((((((((((((((True ∧ lwo0) ∧ lwo0) ∧ lwo0) ∧ lwo0) ∧ lwo1) ∧ lwo1) ∧ lwo1) ∧ lwo1) ∧ lwo0) ∧ lwo2) ∧ (lwo3 x1)) ∧ lwo4) ∧ lwo2) ∧ lwo5) ∧ lwo2) ∧ lwo6) ∧ lwo2) ∧ lwo7) ∧ lwo8) ∧ lwo4) ∧ lwo7) ∧ lwo8) ∧ lwo9) ∧ lwo4) ∧ lwo8) ∧ lwo4) ∧ lwo10) ∧ lwo10) ∧ lwo5) ∧ lwo7) ∧ lwo11) ∧ lwo11) ∧ lwo11) ∧ lwo12) ∧ lwo13) ∧ lwo11) ∧ lwo14) ∧ lwo14) ∧ lwo14) ∧ lwo14) ∧ (lwo15 x1)) ∧ (lwo15 x1)) ∧ (lwo15 x1)) ∧ (lwo15 x1)) ∧ (lwo16 x0 x1)) ∧ (lwo16 x0 x1)) ∧ (lwo16 x0 x1)) ∧ (lwo16 x0 x1)) ∧ (lwo17 x0 x1)) ∧ (lwo17 x0 x1)) ∧ (lwo17 x0 x1)) ∧ lwo2) ∧ (lwo17 x0 x1)) ∧ (lwo17 x0 x1)) ∧ (lwo17 x0 x1)) ∧ lwo7) ∧ lwo8) ∧ lwo8) ∧ (lwo17 x0 x1)) ∧ (lwo17 x0 x1)) ∧ (lwo18 x1)) ∧ (lwo18 x1))) := by kernel_rfl
theorem lw1_g (c2 : Nat) (x0 : Int) (x1 : Int) : goodY (lw1 c2 x0 x1) = true := by kernel_rfl
theorem lw2_o (m : Nat) (c2 : Nat) (h : Nat → Nat → Int) (x0 : Int) (x1 : Int) : obY (lw2 m c2 h x0 x1) = ((((((((((True ∧ lwo0) ∧ lwo0) ∧ lwo0) ∧ lwo0) ∧ lwo1) ∧ lwo1) ∧ lwo1) ∧ lwo1) ∧ (lwo19 m))) := by kernel_rfl
theorem lw2_g (m : Nat) (c2 : Nat) (h : Nat → Nat → Int) (x0 : Int) (x1 : Int) : goodY (lw2 m c2 h x0 x1) = true := by kernel_rfl
theorem lw3_o (m : Nat) (c2 : Nat) (h : Nat → Nat → Int) (x0 : Int) (x1 : Int) : obY (lw3 m c2 h x0 x1) = ((((((((((((((((((((((((((((((((((((((((((((((((((((((((((((((((True ∧ lwo0) ∧ lwo0) ∧ lwo0) ∧ lwo0) ∧ lwo1) ∧ lwo1) ∧ lwo1) ∧ lwo1) ∧ (lwo20 m)) ∧ lwo2) ∧ (lwo3 x1)) ∧ lwo4) ∧ lwo2) ∧ lwo5) ∧ lwo2) ∧ (lwo21 m)) ∧ (lwo22 m h)) ∧ lwo2) ∧ lwo7) ∧ lwo8) ∧ lwo4) ∧ lwo7) ∧ lwo8) ∧ lwo9) ∧ lwo4) ∧ lwo8) ∧ lwo4) ∧ lwo10) ∧ lwo10) ∧ lwo5) ∧ lwo7) ∧ lwo11) ∧ lwo11) ∧ lwo11) ∧ lwo12) ∧ lwo13) ∧ lwo11) ∧ lwo14) ∧ lwo14) ∧ lwo14) ∧ lwo14) ∧ (lwo15 x1)) ∧ (lwo15 x1)) ∧ (lwo15 x1)) ∧ (lwo15 x1)) ∧ (lwo16 x0 x1)) ∧ (lwo16 x0 x1)) ∧ (lwo16 x0 x1)) ∧ (lwo16 x0 x1)) ∧ (lwo17 x0 x1)) ∧ (lwo17 x0 x1)) ∧ (lwo17 x0 x1)) ∧ lwo2) ∧ (lwo17 x0 x1)) ∧ (lwo17 x0 x1)) ∧ (lwo17 x0 x1)) ∧ lwo7) ∧ lwo8) ∧ lwo8) ∧ (lwo17 x0 x1)) ∧ (lwo17 x0 x1)) ∧ (lwo23 m h x1)) ∧ (lwo23 m h x1))) := by kernel_rfl
theorem lw3_g (m : Nat) (c2 : Nat) (h : Nat → Nat → Int) (x0 : Int) (x1 : Int) : goodY (lw3 m c2 h x0 x1) = true := by kernel_rfl
theorem lw4_o (c : Nat) (x0 : Int) (x1 : Int) : obY (lw4 c x0 x1) = (((((((((((((((((((((((((((((((((((((((((((((((((((((((((((((((True ∧ lwo0) ∧ lwo0) ∧ lwo0) ∧ lwo0) ∧ lwo1) ∧ lwo1) ∧ lwo1) ∧ lwo1) ∧ lwo0) ∧ lwo2) ∧ (lwo3 x1)) ∧ lwo4) ∧ lwo2) ∧ lwo5) ∧ lwo2) ∧ lwo6) ∧ lwo2) ∧ lwo7) ∧ lwo8) ∧ lwo4) ∧ lwo7) ∧ lwo8) ∧ lwo9) ∧ lwo4) ∧ lwo8) ∧ lwo4) ∧ lwo10) ∧ lwo10) ∧ lwo5) ∧ lwo7) ∧ lwo11) ∧ lwo11) ∧ lwo11) ∧ lwo12) ∧ lwo13) ∧ lwo11) ∧ lwo14) ∧ lwo14) ∧ lwo14) ∧ lwo14) ∧ (lwo15 x1)) ∧ (lwo15 x1)) ∧ (lwo15 x1)) ∧ (lwo15 x1)) ∧ (lwo16 x0 x1)) ∧ (lwo16 x0 x1)) ∧ (lwo16 x0 x1)) ∧ (lwo16 x0 x1)) ∧ (lwo17 x0 x1)) ∧ (lwo17 x0 x1)) ∧ (lwo17 x0 x1)) ∧ lwo2) ∧ (lwo17 x0 x1)) ∧ (lwo17 x0 x1)) ∧ (lwo17 x0 x1)) ∧ lwo7) ∧ lwo8) ∧ lwo8) ∧ (lwo17 x0 x1)) ∧ (lwo17 x0 x1)) ∧ (lwo18 x1)) ∧ (lwo18 x1))) := by kernel_rfl
theorem lw4_g (c : Nat) (x0 : Int) (x1 : Int) : goodY (lw4 c x0 x1) = true := by kernel_rfl
theorem lw5_o (c : Nat) (c2 : Nat) (x0 : Int) (x1 : Int) : obY (lw5 c c2 x0 x1) = (((((((((((((((((((((((((((((((((((((((((((((((((((((((((((((((True ∧ lwo0) ∧ lwo0) ∧ lwo0) ∧ lwo0) ∧ lwo1) ∧ lwo1) ∧ lwo1) ∧ lwo1) ∧ lwo0) ∧ lwo2) ∧ (lwo3 x1)) ∧ lwo4) ∧ lwo2) ∧ lwo5) ∧ lwo2) ∧ lwo6) ∧ lwo2) ∧ lwo7) ∧ lwo8) ∧ lwo4) ∧ lwo7) ∧ lwo8) ∧ lwo9) ∧ lwo4) ∧ lwo8) ∧ lwo4) ∧ lwo10) ∧ lwo10) ∧ lwo5) ∧ lwo7) ∧ lwo11) ∧ lwo11) ∧ lwo11) ∧ lwo12) ∧ lwo13) ∧ lwo11) ∧ lwo14) ∧ lwo14) ∧ lwo14) ∧ lwo14) ∧ (lwo15 x1)) ∧ (lwo15 x1)) ∧ (lwo15 x1)) ∧ (lwo15 x1)) ∧ (lwo16 x0 x1)) ∧ (lwo16 x0 x1)) ∧ (lwo16 x0 x1)) ∧ (lwo16 x0 x1)) ∧ (lwo17 x0 x1)) ∧ (lwo17 x0 x1)) ∧ (lwo17 x0 x1)) ∧ lwo2) ∧ (lwo17 x0 x1)) ∧ (lwo17 x0 x1)) ∧ (lwo17 x0 x1)) ∧ lwo7) ∧ lwo8) ∧ lwo8) ∧ (lwo17 x0 x1)) ∧ (lwo17 x0 x1)) ∧ (lwo18 x1)) ∧ (lwo18 x1))) := by kernel_rfl
theorem lw5_g (c : Nat) (c2 : Nat) (x0 : Int) (x1 : Int) : goodY (lw5 c c2 x0 x1) = true := by kernel_rfl
theorem lw6_o (c : Nat) (m : Nat) (c2 : Nat) (h : Nat → Nat → Int) (x0 : Int) (x1 : Int) : obY (lw6 c m c2 h x0 x1) = ((((((((((True ∧ lwo0) ∧ lwo0) ∧ lwo0) ∧ lwo0) ∧ lwo1) ∧ lwo1) ∧ lwo1) ∧ lwo1) ∧ (lwo19 m))) := by kernel_rfl
theorem lw6_g (c : Nat) (m : Nat) (c2 : Nat) (h : Nat → Nat → Int) (x0 : Int) (x1 : Int) : goodY (lw6 c m c2 h x0 x1) = true := by kernel_rfl
theorem lw7_o (c : Nat) (m : Nat) (c2 : Nat) (h : Nat → Nat → Int) (x0 : Int) (x1 : Int) : obY (lw7 c m c2 h x0 x1) = ((((((((((((((((((((((((((((((((((((((((((((((((((((((((((((((((True ∧ lwo0) ∧ lwo0) ∧ lwo0) ∧ lwo0) ∧ lwo1) ∧ lwo1) ∧ lwo1) ∧ lwo1) ∧ (lwo20 m)) ∧ lwo2) ∧ (lwo3 x1)) ∧ lwo4) ∧ lwo2) ∧ lwo5) ∧ lwo2) ∧ (lwo21 m)) ∧ (lwo22 m h)) ∧ lwo2) ∧ lwo7) ∧ lwo8) ∧ lwo4) ∧ lwo7) ∧ lwo8) ∧ lwo9) ∧ lwo4) ∧ lwo8) ∧ lwo4) ∧ lwo10) ∧ lwo10) ∧ lwo5) ∧ lwo7) ∧ lwo11) ∧ lwo11) ∧ lwo11) ∧ lwo12) ∧ lwo13) ∧ lwo11) ∧ lwo14) ∧ lwo14) ∧ lwo14) ∧ lwo14) ∧ (lwo15 x1)) ∧ (lwo15 x1)) ∧ (lwo15 x1)) ∧ (lwo15 x1)) ∧ (lwo16 x0 x1)) ∧ (lwo16 x0 x1)) ∧ (lwo16 x0 x1)) ∧ (lwo16 x0 x1)) ∧ (lwo17 x0 x1)) ∧ (lwo17 x0 x1)) ∧ (lwo17 x0 x1)) ∧ lwo2) ∧ (lwo17 x0 x1)) ∧ (lwo17 x0 x1)) ∧ (lwo17 x0 x1)) ∧ lwo7) ∧ lwo8) ∧ lwo8) ∧ (lwo17 x0 x1)) ∧ (lwo17 x0 x1)) ∧ (lwo23 m h x1)) ∧ (lwo23 m h x1))) := by kernel_rfl
theorem lw7_g (c : Nat) (m : Nat) (c2 : Nat) (h : Nat → Nat → Int) (x0 : Int) (x1 : Int) : goodY (lw7 c m c2 h x0 x1) = true := by kernel_rfl
theorem lw8_o (n : Nat) (c : Nat) (g : Nat → Nat → Int) (x0 : Int) (x1 : Int) : obY (lw8 n c g x0 x1) = (((((((((((((((((((((((((((((((((((((((((((((((((((((((((((((((((((((((((True ∧ (lwo24 n)) ∧ (lwo24 n)) ∧ (lwo24 n)) ∧ (lwo24 n)) ∧ (lwo25 n)) ∧ (lwo25 n)) ∧ (lwo25 n)) ∧ (lwo25 n)) ∧ lwo0) ∧ (lwo26 n)) ∧ lwo2) ∧ (lwo27 n g x1)) ∧ (lwo26 n)) ∧ lwo4) ∧ lwo2) ∧ (lwo28 n g)) ∧ (lwo26 n)) ∧ lwo2) ∧ (lwo29 n g)) ∧ lwo2) ∧ (lwo28 n g)) ∧ lwo4) ∧ (lwo28 n g)) ∧ lwo9) ∧ lwo4) ∧ (lwo30 n g x0)) ∧ lwo31) ∧ lwo32) ∧ (lwo33 n g x1)) ∧ lwo34) ∧ (lwo35 n g x1)) ∧ lwo2) ∧ (lwo36 n g x1)) ∧ lwo37) ∧ lwo4) ∧ lwo2) ∧ (lwo38 n g x0)) ∧ (lwo39 n g x0 x1)) ∧ (lwo26 n)) ∧ (lwo28 n g)) ∧ (lwo28 n g)) ∧ (lwo40 n g)) ∧ (lwo40 n g)) ∧ (lwo40 n g)) ∧ (lwo41 n g x1)) ∧ (lwo40 n g)) ∧ (lwo42 n g x1)) ∧ (lwo42 n g x1)) ∧ (lwo42 n g x1)) ∧ (lwo42 n g x1)) ∧ (lwo43 n g x1)) ∧ (lwo43 n g x1)) ∧ (lwo43 n g x1)) ∧ (lwo43 n g x1)) ∧ (lwo44 n g x0 x1)) ∧ (lwo44 n g x0 x1)) ∧ (lwo44 n g x0 x1)) ∧ (lwo44 n g x0 x1)) ∧ (lwo45 n g x0 x1)) ∧ (lwo45 n g x0 x1)) ∧ (lwo45 n g x0 x1)) ∧ lwo2) ∧ (lwo45 n g x0 x1)) ∧ (lwo45 n g x0 x1)) ∧ (lwo45 n g x0 x1)) ∧ (lwo28 n g)) ∧ (lwo33 n g x1)) ∧ (lwo46 n)) ∧ (lwo45 n g x0 x1)) ∧ (lwo45 n g x0 x1)) ∧ (lwo47 n g x1)) ∧ (lwo47 n g x1))) := by kernel_rfl
theorem lw8_g (n : Nat) (c : Nat) (g : Nat → Nat → Int) (x0 : Int) (x1 : Int) : goodY (lw8 n c g x0 x1) = true := by kernel_rfl
theorem lw9_o (n : Nat) (c : Nat) (g : Nat → Nat → Int) (x0 : Int) (x1 : Int) : obY (lw9 n c g x0 x1) = (((((((((((((((((((((((((((((((((((((((((((((((((((((((((((((((((((((((((True ∧ (lwo24 n)) ∧ (lwo24 n)) ∧ (lwo24 n)) ∧ (lwo24 n)) ∧ (lwo25 n)) ∧ (lwo25 n)) ∧ (lwo25 n)) ∧ (lwo25 n)) ∧ lwo0) ∧ (lwo26 n)) ∧ lwo2) ∧ (lwo27 n g x1)) ∧ (lwo26 n)) ∧ lwo4) ∧ lwo2) ∧ (lwo28 n g)) ∧ (lwo26 n)) ∧ lwo2) ∧ (lwo29 n g)) ∧ lwo2) ∧ (lwo28 n g)) ∧ lwo4) ∧ (lwo28 n g)) ∧ lwo9) ∧ lwo4) ∧ (lwo30 n g x0)) ∧ lwo31) ∧ lwo32) ∧ (lwo33 n g x1)) ∧ lwo34) ∧ (lwo35 n g x1)) ∧ lwo2) ∧ (lwo36 n g x1)) ∧ lwo37) ∧ lwo4) ∧ lwo2) ∧ (lwo38 n g x0)) ∧ (lwo48 n g x0 x1)) ∧ (lwo26 n)) ∧ (lwo28 n g)) ∧ (lwo28 n g)) ∧ (lwo40 n g)) ∧ (lwo40 n g)) ∧ (lwo40 n g)) ∧ (lwo41 n g x1)) ∧ (lwo40 n g)) ∧ (lwo42 n g x1)) ∧ (lwo42 n g x1)) ∧ (lwo42 n g x1)) ∧ (lwo42 n g x1)) ∧ (lwo43 n g x1)) ∧ (lwo43 n g x1)) ∧ (lwo43 n g x1)) ∧ (lwo43 n g x1)) ∧ (lwo44 n g x0 x1)) ∧ (lwo44 n g x0 x1)) ∧ (lwo44 n g x0 x1)) ∧ (lwo44 n g x0 x1)) ∧ (lwo49 n g x0 x1)) ∧ (lwo49 n g x0 x1)) ∧ (lwo49 n g x0 x1)) ∧ lwo2) ∧ (lwo49 n g x0 x1)) ∧ (lwo49 n g x0 x1)) ∧ (lwo49 n g x0 x1)) ∧ (lwo28 n g)) ∧ (lwo33 n g x1)) ∧ (lwo46 n)) ∧ (lwo49 n g x0 x1)) ∧ (lwo49 n g x0 x1)) ∧ (lwo47 n g x1)) ∧ (lwo47 n g x1))) := by kernel_rfl
theorem lw9_g (n : Nat) (c : Nat) (g : Nat → Nat → Int) (x0 : Int) (x1 : Int) : goodY (lw9 n c g x0 x1) = true := by kernel_rfl
theorem lw10_o (n : Nat) (c : Nat) (g : Nat → Nat → Int) (x0 : Int) (x1 : Int) : obY (lw10 n c g x0 x1) = ((((((((((((((((((((((((((((((((((((((((((((((((((((((((((((((((((True ∧ (lwo24 n)) ∧ (lwo24 n)) ∧ (lwo24 n)) ∧ (lwo24 n)) ∧ (lwo25 n)) ∧ (lwo25 n)) ∧ (lwo25 n)) ∧ (lwo25 n)) ∧ lwo0) ∧ (lwo26 n)) ∧ lwo2) ∧ (lwo27 n g x1)) ∧ (lwo26 n)) ∧ lwo4) ∧ lwo2) ∧ (lwo28 n g)) ∧ (lwo26 n)) ∧ lwo2) ∧ (lwo29 n g)) ∧ lwo2) ∧ (lwo28 n g)) ∧ lwo4) ∧ (lwo28 n g)) ∧ lwo9) ∧ lwo4) ∧ (lwo50 n g x0)) ∧ lwo4) ∧ (lwo35 n g x1)) ∧ lwo2) ∧ (lwo36 n g x1)) ∧ (lwo51 n g x0)) ∧ (lwo26 n)) ∧ (lwo28 n g)) ∧ (lwo28 n g)) ∧ (lwo40 n g)) ∧ (lwo40 n g)) ∧ (lwo40 n g)) ∧ (lwo41 n g x1)) ∧ (lwo40 n g)) ∧ (lwo42 n g x1)) ∧ (lwo42 n g x1)) ∧ (lwo42 n g x1)) ∧ (lwo42 n g x1)) ∧ (lwo43 n g x1)) ∧ (lwo43 n g x1)) ∧ (lwo43 n g x1)) ∧ (lwo43 n g x1)) ∧ (lwo52 n g x0 x1)) ∧ (lwo52 n g x0 x1)) ∧ (lwo52 n g x0 x1)) ∧ (lwo52 n g x0 x1)) ∧ (lwo53 n g x0 x1)) ∧ (lwo53 n g x0 x1)) ∧ (lwo53 n g x0 x1)) ∧ lwo2) ∧ (lwo53 n g x0 x1)) ∧ (lwo53 n g x0 x1)) ∧ (lwo53 n g x0 x1)) ∧ (lwo28 n g)) ∧ (lwo33 n g x1)) ∧ (lwo46 n)) ∧ (lwo53 n g x0 x1)) ∧ (lwo53 n g x0 x1)) ∧ (lwo47 n g x1)) ∧ (lwo47 n g x1))) := by kernel_rfl
theorem lw10_g (n : Nat) (c : Nat) (g : Nat → Nat → Int) (x0 : Int) (x1 : Int) : goodY (lw10 n c g x0 x1) = true := by kernel_rfl
theorem lw11_o (n : Nat) (c : Nat) (g : Nat → Nat → Int) (x0 : Int) (x1 : Int) : obY (lw11 n c g x0 x1) = (((((((((((((((((((((((((((((((((((((((((((((((((((((((((((((((((((True ∧ (lwo24 n)) ∧ (lwo24 n)) ∧ (lwo24 n)) ∧ (lwo24 n)) ∧ (lwo25 n)) ∧ (lwo25 n)) ∧ (lwo25 n)) ∧ (lwo25 n)) ∧ lwo0) ∧ (lwo26 n)) ∧ lwo2) ∧ (lwo54 n g x1)) ∧ (lwo26 n)) ∧ lwo4) ∧ lwo2) ∧ (lwo28 n g)) ∧ (lwo26 n)) ∧ lwo2) ∧ (lwo29 n g)) ∧ lwo2) ∧ (lwo28 n g)) ∧ lwo4) ∧ (lwo28 n g)) ∧ lwo9) ∧ lwo4) ∧ (lwo30 n g x0)) ∧ lwo31) ∧ lwo32) ∧ (lwo55 n g x1)) ∧ lwo32) ∧ (lwo56 n g x1)) ∧ (lwo56 n g x1)) ∧ (lwo26 n)) ∧ (lwo28 n g)) ∧ (lwo28 n g)) ∧ (lwo40 n g)) ∧ (lwo40 n g)) ∧ (lwo40 n g)) ∧ lwo12) ∧ lwo13) ∧ (lwo40 n g)) ∧ lwo14) ∧ lwo14) ∧ lwo14) ∧ lwo14) ∧ (lwo57 n g x1)) ∧ (lwo57 n g x1)) ∧ (lwo57 n g x1)) ∧ (lwo57 n g x1)) ∧ (lwo52 n g x0 x1)) ∧ (lwo52 n g x0 x1)) ∧ (lwo52 n g x0 x1)) ∧ (lwo52 n g x0 x1)) ∧ (lwo58 n g x0 x1)) ∧ (lwo58 n g x0 x1)) ∧ (lwo58 n g x0 x1)) ∧ lwo2) ∧ (lwo58 n g x0 x1)) ∧ (lwo58 n g x0 x1)) ∧ (lwo58 n g x0 x1)) ∧ (lwo28 n g)) ∧ (lwo55 n g x1)) ∧ (lwo58 n g x0 x1)) ∧ (lwo58 n g x0 x1)) ∧ (lwo59 n g x1)) ∧ (lwo59 n g x1))) := by kernel_rfl
theorem lw11_g (n : Nat) (c : Nat) (g : Nat → Nat → Int) (x0 : Int) (x1 : Int) : goodY (lw11 n c g x0 x1) = true := by kernel_rfl
theorem lw12_o (n : Nat) (c : Nat) (g : Nat → Nat → Int) (x0 : Int) (x1 : Int) : obY (lw12 n c g x0 x1) = ((((((((((((((((((((((((((((((((((((((((((((((((((((((((((((((((True ∧ (lwo24 n)) ∧ (lwo24 n)) ∧ (lwo24 n)) ∧ (lwo24 n)) ∧ (lwo25 n)) ∧ (lwo25 n)) ∧ (lwo25 n)) ∧ (lwo25 n)) ∧ lwo0) ∧ (lwo26 n)) ∧ lwo2) ∧ (lwo54 n g x1)) ∧ (lwo26 n)) ∧ lwo4) ∧ lwo2) ∧ (lwo28 n g)) ∧ (lwo26 n)) ∧ lwo2) ∧ (lwo29 n g)) ∧ lwo2) ∧ (lwo28 n g)) ∧ lwo4) ∧ (lwo28 n g)) ∧ lwo9) ∧ lwo4) ∧ (lwo50 n g x0)) ∧ lwo4) ∧ (lwo56 n g x1)) ∧ (lwo51 n g x0)) ∧ (lwo26 n)) ∧ (lwo28 n g)) ∧ (lwo28 n g)) ∧ (lwo40 n g)) ∧ (lwo40 n g)) ∧ (lwo40 n g)) ∧ lwo12) ∧ lwo13) ∧ (lwo40 n g)) ∧ lwo14) ∧ lwo14) ∧ lwo14) ∧ lwo14) ∧ (lwo57 n g x1)) ∧ (lwo57 n g x1)) ∧ (lwo57 n g x1)) ∧ (lwo57 n g x1)) ∧ (lwo52 n g x0 x1)) ∧ (lwo52 n g x0 x1)) ∧ (lwo52 n g x0 x1)) ∧ (lwo52 n g x0 x1)) ∧ (lwo53 n g x0 x1)) ∧ (lwo53 n g x0 x1)) ∧ (lwo53 n g x0 x1)) ∧ lwo2) ∧ (lwo53 n g x0 x1)) ∧ (lwo53 n g x0 x1)) ∧ (lwo53 n g x0 x1)) ∧ (lwo28 n g)) ∧ (lwo55 n g x1)) ∧ (lwo53 n g x0 x1)) ∧ (lwo53 n g x0 x1)) ∧ (lwo59 n g x1)) ∧ (lwo59 n g x1))) := by kernel_rfl
theorem lw12_g (n : Nat) (c : Nat) (g : Nat → Nat → Int) (x0 : Int) (x1 : Int) : goodY (lw12 n c g x0 x1) = true := by kernel_rfl
theorem lw13_o (n : Nat) (c : Nat) (g : Nat → Nat → Int) (x0 : Int) (x1 : Int) : obY (lw13 n c g x0 x1) = ((((((((((True ∧ (lwo24 n)) ∧ (lwo24 n)) ∧ (lwo24 n)) ∧ (lwo24 n)) ∧ (lwo60 n)) ∧ (lwo60 n)) ∧ (lwo60 n)) ∧ (lwo60 n)) ∧ lwo14)) := by kernel_rfl
theorem lw13_g (n : Nat) (c : Nat) (g : Nat → Nat → Int) (x0 : Int) (x1 : Int) : goodY (lw13 n c g x0 x1) = true := by kernel_rfl
theorem lw14_o (n : Nat) (c : Nat) (g : Nat → Nat → Int) (x0 : Int) (x1 : Int) : obY (lw14 n c g x0 x1) = (((((((((((((((((((((((((((((((((((((((((((((((((((((((((((((((((((((((((True ∧ (lwo61 n)) ∧ (lwo61 n)) ∧ (lwo61 n)) ∧ (lwo61 n)) ∧ lwo1) ∧ lwo1) ∧ lwo1) ∧ lwo1) ∧ lwo0) ∧ (lwo26 n)) ∧ lwo2) ∧ (lwo27 n g x1)) ∧ (lwo26 n)) ∧ lwo4) ∧ lwo2) ∧ (lwo28 n g)) ∧ (lwo26 n)) ∧ lwo2) ∧ (lwo29 n g)) ∧ lwo2) ∧ (lwo28 n g)) ∧ lwo4) ∧ (lwo28 n g)) ∧ lwo9) ∧ lwo4) ∧ (lwo30 n g x0)) ∧ lwo31) ∧ lwo32) ∧ (lwo33 n g x1)) ∧ lwo34) ∧ (lwo35 n g x1)) ∧ lwo2) ∧ (lwo36 n g x1)) ∧ lwo37) ∧ lwo4) ∧ lwo2) ∧ (lwo38 n g x0)) ∧ (lwo39 n g x0 x1)) ∧ (lwo26 n)) ∧ (lwo28 n g)) ∧ (lwo28 n g)) ∧ (lwo40 n g)) ∧ (lwo40 n g)) ∧ (lwo40 n g)) ∧ (lwo41 n g x1)) ∧ (lwo40 n g)) ∧ (lwo42 n g x1)) ∧ (lwo42 n g x1)) ∧ (lwo42 n g x1)) ∧ (lwo42 n g x1)) ∧ (lwo43 n g x1)) ∧ (lwo43 n g x1)) ∧ (lwo43 n g x1)) ∧ (lwo43 n g x1)) ∧ (lwo44 n g x0 x1)) ∧ (lwo44 n g x0 x1)) ∧ (lwo44 n g x0 x1)) ∧ (lwo44 n g x0 x1)) ∧ (lwo45 n g x0 x1)) ∧ (lwo45 n g x0 x1)) ∧ (lwo45 n g x0 x1)) ∧ lwo2) ∧ (lwo45 n g x0 x1)) ∧ (lwo45 n g x0 x1)) ∧ (lwo45 n g x0 x1)) ∧ (lwo28 n g)) ∧ (lwo33 n g x1)) ∧ (lwo46 n)) ∧ (lwo45 n g x0 x1)) ∧ (lwo45 n g x0 x1)) ∧ (lwo47 n g x1)) ∧ (lwo47 n g x1))) := by kernel_rfl
theorem lw14_g (n : Nat) (c : Nat) (g : Nat → Nat → Int) (x0 : Int) (x1 : Int) : goodY (lw14 n c g x0 x1) = true := by kernel_rfl
theorem lw15_o (n : Nat) (c : Nat) (g : Nat → Nat → Int) (x0 : Int) (x1 : Int) : obY (lw15 n c g x0 x1) = (((((((((((((((((((((((((((((((((((((((((((((((((((((((((((((((((((((((((True ∧ (lwo61 n)) ∧ (lwo61 n)) ∧ (lwo61 n)) ∧ (lwo61 n)) ∧ lwo1) ∧ lwo1) ∧ lwo1) ∧ lwo1) ∧ lwo0) ∧ (lwo26 n)) ∧ lwo2) ∧ (lwo27 n g x1)) ∧ (lwo26 n)) ∧ lwo4) ∧ lwo2) ∧ (lwo28 n g)) ∧ (lwo26 n)) ∧ lwo2) ∧ (lwo29 n g)) ∧ lwo2) ∧ (lwo28 n g)) ∧ lwo4) ∧ (lwo28 n g)) ∧ lwo9) ∧ lwo4) ∧ (lwo30 n g x0)) ∧ lwo31) ∧ lwo32) ∧ (lwo33 n g x1)) ∧ lwo34) ∧ (lwo35 n g x1)) ∧ lwo2) ∧ (lwo36 n g x1)) ∧ lwo37) ∧ lwo4) ∧ lwo2) ∧ (lwo38 n g x0)) ∧ (lwo48 n g x0 x1)) ∧ (lwo26 n)) ∧ (lwo28 n g)) ∧ (lwo28 n g)) ∧ (lwo40 n g)) ∧ (lwo40 n g)) ∧ (lwo40 n g)) ∧ (lwo41 n g x1)) ∧ (lwo40 n g)) ∧ (lwo42 n g x1)) ∧ (lwo42 n g x1)) ∧ (lwo42 n g x1)) ∧ (lwo42 n g x1)) ∧ (lwo43 n g x1)) ∧ (lwo43 n g x1)) ∧ (lwo43 n g x1)) ∧ (lwo43 n g x1)) ∧ (lwo44 n g x0 x1)) ∧ (lwo44 n g x0 x1)) ∧ (lwo44 n g x0 x1)) ∧ (lwo44 n g x0 x1)) ∧ (lwo49 n g x0 x1)) ∧ (lwo49 n g x0 x1)) ∧ (lwo49 n g x0 x1)) ∧ lwo2) ∧ (lwo49 n g x0 x1)) ∧ (lwo49 n g x0 x1)) ∧ (lwo49 n g x0 x1)) ∧ (lwo28 n g)) ∧ (lwo33 n g x1)) ∧ (lwo46 n)) ∧ (lwo49 n g x0 x1)) ∧ (lwo49 n g x0 x1)) ∧ (lwo47 n g x1)) ∧ (lwo47 n g x1))) := by kernel_rfl
theorem lw15_g (n : Nat) (c : Nat) (g : Nat → Nat → Int) (x0 : Int) (x1 : Int) : goodY (lw15 n c g x0 x1) = true := by kernel_rfl
theorem lw16_o (n : Nat) (c : Nat) (g : Nat → Nat → Int) (x0 : Int) (x1 : Int) : obY (lw16 n c g x0 x1) = ((((((((((((((((((((((((((((((((((((((((((((((((((((((((((((((((((True ∧ (lwo61 n)) ∧ (lwo61 n)) ∧ (lwo61 n)) ∧ (lwo61 n)) ∧ lwo1) ∧ lwo1) ∧ lwo1) ∧ lwo1) ∧ lwo0) ∧ (lwo26 n)) ∧ lwo2) ∧ (lwo27 n g x1)) ∧ (lwo26 n)) ∧ lwo4) ∧ lwo2) ∧ (lwo28 n g)) ∧ (lwo26 n)) ∧ lwo2) ∧ (lwo29 n g)) ∧ lwo2) ∧ (lwo28 n g)) ∧ lwo4) ∧ (lwo28 n g)) ∧ lwo9) ∧ lwo4) ∧ (lwo50 n g x0)) ∧ lwo4) ∧ (lwo35 n g x1)) ∧ lwo2) ∧ (lwo36 n g x1)) ∧ (lwo51 n g x0)) ∧ (lwo26 n)) ∧ (lwo28 n g)) ∧ (lwo28 n g)) ∧ (lwo40 n g)) ∧ (lwo40 n g)) ∧ (lwo40 n g)) ∧ (lwo41 n g x1)) ∧ (lwo40 n g)) ∧ (lwo42 n g x1)) ∧ (lwo42 n g x1)) ∧ (lwo42 n g x1)) ∧ (lwo42 n g x1)) ∧ (lwo43 n g x1)) ∧ (lwo43 n g x1)) ∧ (lwo43 n g x1)) ∧ (lwo43 n g x1)) ∧ (lwo52 n g x0 x1)) ∧ (lwo52 n g x0 x1)) ∧ (lwo52 n g x0 x1)) ∧ (lwo52 n g x0 x1)) ∧ (lwo53 n g x0 x1)) ∧ (lwo53 n g x0 x1)) ∧ (lwo53 n g x0 x1)) ∧ lwo2) ∧ (lwo53 n g x0 x1)) ∧ (lwo53 n g x0 x1)) ∧ (lwo53 n g x0 x1)) ∧ (lwo28 n g)) ∧ (lwo33 n g x1)) ∧ (lwo46 n)) ∧ (lwo53 n g x0 x1)) ∧ (lwo53 n g x0 x1)) ∧ (lwo47 n g x1)) ∧ (lwo47 n g x1))) := by kernel_rfl
theorem lw16_g (n : Nat) (c : Nat) (g : Nat → Nat → Int) (x0 : Int) (x1 : Int) : goodY (lw16 n c g x0 x1) = true := by kernel_rfl
theorem lw17_o (n : Nat) (c : Nat) (g : Nat → Nat → Int) (x0 : Int) (x1 : Int) : obY (lw17 n c g x0 x1) = (((((((((((((((((((((((((((((((((((((((((((((((((((((((((((((((((((True ∧ (lwo61 n)) ∧ (lwo61 n)) ∧ (lwo61 n)) ∧ (lwo61 n)) ∧ lwo1) ∧ lwo1) ∧ lwo1) ∧ lwo1) ∧ lwo0) ∧ (lwo26 n)) ∧ lwo2) ∧ (lwo54 n g x1)) ∧ (lwo26 n)) ∧ lwo4) ∧ lwo2) ∧ (lwo28 n g)) ∧ (lwo26 n)) ∧ lwo2) ∧ (lwo29 n g)) ∧ lwo2) ∧ (lwo28 n g)) ∧ lwo4) ∧ (lwo28 n g)) ∧ lwo9) ∧ lwo4) ∧ (lwo30 n g x0)) ∧ lwo31) ∧ lwo32) ∧ (lwo55 n g x1)) ∧ lwo32) ∧ (lwo56 n g x1)) ∧ (lwo56 n g x1)) ∧ (lwo26 n)) ∧ (lwo28 n g)) ∧ (lwo28 n g)) ∧ (lwo40 n g)) ∧ (lwo40 n g)) ∧ (lwo40 n g)) ∧ lwo12) ∧ lwo13) ∧ (lwo40 n g)) ∧ lwo14) ∧ lwo14) ∧ lwo14) ∧ lwo14) ∧ (lwo57 n g x1)) ∧ (lwo57 n g x1)) ∧ (lwo57 n g x1)) ∧ (lwo57 n g x1)) ∧ (lwo52 n g x0 x1)) ∧ (lwo52 n g x0 x1)) ∧ (lwo52 n g x0 x1)) ∧ (lwo52 n g x0 x1)) ∧ (lwo58 n g x0 x1)) ∧ (lwo58 n g x0 x1)) ∧ (lwo58 n g x0 x1)) ∧ lwo2) ∧ (lwo58 n g x0 x1)) ∧ (lwo58 n g x0 x1)) ∧ (lwo58 n g x0 x1)) ∧ (lwo28 n g)) ∧ (lwo55 n g x1)) ∧ (lwo58 n g x0 x1)) ∧ (lwo58 n g x0 x1)) ∧ (lwo59 n g x1)) ∧ (lwo59 n g x1))) := by kernel_rfl
theorem lw17_g (n : Nat) (c : Nat) (g : Nat → Nat → Int) (x0 : Int) (x1 : Int) : goodY (lw17 n c g x0 x1) = true := by kernel_rfl
theorem lw18_o (n : Nat) (c : Nat) (g : Nat → Nat → Int) (x0 : Int) (x1 : Int) : obY (lw18 n c g x0 x1) = ((((((((((((((((((((((((((((((((((((((((((((((((((((((((((((((((True ∧ (lwo61 n)) ∧ (lwo61 n)) ∧ (lwo61 n)) ∧ (lwo61 n)) ∧ lwo1) ∧ lwo1) ∧ lwo1) ∧ lwo1) ∧ lwo0) ∧ (lwo26 n)) ∧ lwo2) ∧ (lwo54 n g x1)) ∧ (lwo26 n)) ∧ lwo4) ∧ lwo2) ∧ (lwo28 n g)) ∧ (lwo26 n)) ∧ lwo2) ∧ (lwo29 n g)) ∧ lwo2) ∧ (lwo28 n g)) ∧ lwo4) ∧ (lwo28 n g)) ∧ lwo9) ∧ lwo4) ∧ (lwo50 n g x0)) ∧ lwo4) ∧ (lwo56 n g x1)) ∧ (lwo51 n g x0)) ∧ (lwo26 n)) ∧ (lwo28 n g)) ∧ (lwo28 n g)) ∧ (lwo40 n g)) ∧ (lwo40 n g)) ∧ (lwo40 n g)) ∧ lwo12) ∧ lwo13) ∧ (lwo40 n g)) ∧ lwo14) ∧ lwo14) ∧ lwo14) ∧ lwo14) ∧ (lwo57 n g x1)) ∧ (lwo57 n g x1)) ∧ (lwo57 n g x1)) ∧ (lwo57 n g x1)) ∧ (lwo52 n g x0 x1)) ∧ (lwo52 n g x0 x1)) ∧ (lwo52 n g x0 x1)) ∧ (lwo52 n g x0 x1)) ∧ (lwo53 n g x0 x1)) ∧ (lwo53 n g x0 x1)) ∧ (lwo53 n g x0 x1)) ∧ lwo2) ∧ (lwo53 n g x0 x1)) ∧ (lwo53 n g x0 x1)) ∧ (lwo53 n g x0 x1)) ∧ (lwo28 n g)) ∧ (lwo55 n g x1)) ∧ (lwo53 n g x0 x1)) ∧ (lwo53 n g x0 x1)) ∧ (lwo59 n g x1)) ∧ (lwo59 n g x1))) := by kernel_rfl
theorem lw18_g (n : Nat) (c : Nat) (g : Nat → Nat → Int) (x0 : Int) (x1 : Int) : goodY (lw18 n c g x0 x1) = true := by kernel_rfl
theorem lw19_o (n : Nat) (c : Nat) (g : Nat → Nat → Int) (c2 : Nat) (x0 : Int) (x1 : Int) : obY (lw19 n c g c2 x0 x1) = (((((((((((((((((((((((((((((((((((((((((((((((((((((((((((((((((((((((((True ∧ (lwo24 n)) ∧ (lwo24 n)) ∧ (lwo24 n)) ∧ (lwo24 n)) ∧ (lwo25 n)) ∧ (lwo25 n)) ∧ (lwo25 n)) ∧ (lwo25 n)) ∧ lwo0) ∧ (lwo26 n)) ∧ lwo2) ∧ (lwo27 n g x1)) ∧ (lwo26 n)) ∧ lwo4) ∧ lwo2) ∧ (lwo28 n g)) ∧ (lwo26 n)) ∧ lwo2) ∧ (lwo29 n g)) ∧ lwo2) ∧ (lwo28 n g)) ∧ lwo4) ∧ (lwo28 n g)) ∧ lwo9) ∧ lwo4) ∧ (lwo30 n g x0)) ∧ lwo31) ∧ lwo32) ∧ (lwo33 n g x1)) ∧ lwo34) ∧ (lwo35 n g x1)) ∧ lwo2) ∧ (lwo36 n g x1)) ∧ lwo37) ∧ lwo4) ∧ lwo2) ∧ (lwo38 n g x0)) ∧ (lwo39 n g x0 x1)) ∧ (lwo26 n)) ∧ (lwo28 n g)) ∧ (lwo28 n g)) ∧ (lwo40 n g)) ∧ (lwo40 n g)) ∧ (lwo40 n g)) ∧ (lwo41 n g x1)) ∧ (lwo40 n g)) ∧ (lwo42 n g x1)) ∧ (lwo42 n g x1)) ∧ (lwo42 n g x1)) ∧ (lwo42 n g x1)) ∧ (lwo43 n g x1)) ∧ (lwo43 n g x1)) ∧ (lwo43 n g x1)) ∧ (lwo43 n g x1)) ∧ (lwo44 n g x0 x1)) ∧ (lwo44 n g x0 x1)) ∧ (lwo44 n g x0 x1)) ∧ (lwo44 n g x0 x1)) ∧ (lwo45 n g x0 x1)) ∧ (lwo45 n g x0 x1)) ∧ (lwo45 n g x0 x1)) ∧ lwo2) ∧ (lwo45 n g x0 x1)) ∧ (lwo45 n g x0 x1)) ∧ (lwo45 n g x0 x1)) ∧ (lwo28 n g)) ∧ (lwo33 n g x1)) ∧ (lwo46 n)) ∧ (lwo45 n g x0 x1)) ∧ (lwo45 n g x0 x1)) ∧ (lwo47 n g x1)) ∧ (lwo47 n g x1))) := by kernel_rfl
theorem lw19_g (n : Nat) (c : Nat) (g : Nat → Nat → Int) (c2 : Nat) (x0 : Int) (x1 : Int) : goodY (lw19 n c g c2 x0 x1) = true := by kernel_rfl
theorem lw20_o (n : Nat) (c : Nat) (g : Nat → Nat → Int) (c2 : Nat) (x0 : Int) (x1 : Int) : obY (lw20 n c g c2 x0 x1) = (((((((((((((((((((((((((((((((((((((((((((((((((((((((((((((((((((((((((True ∧ (lwo24 n)) ∧ (lwo24 n)) ∧ (lwo24 n)) ∧ (lwo24 n)) ∧ (lwo25 n)) ∧ (lwo25 n)) ∧ (lwo25 n)) ∧ (lwo25 n)) ∧ lwo0) ∧ (lwo26 n)) ∧ lwo2) ∧ (lwo27 n g x1)) ∧ (lwo26 n)) ∧ lwo4) ∧ lwo2) ∧ (lwo28 n g)) ∧ (lwo26 n)) ∧ lwo2) ∧ (lwo29 n g)) ∧ lwo2) ∧ (lwo28 n g)) ∧ lwo4) ∧ (lwo28 n g)) ∧ lwo9) ∧ lwo4) ∧ (lwo30 n g x0)) ∧ lwo31) ∧ lwo32) ∧ (lwo33 n g x1)) ∧ lwo34) ∧ (lwo35 n g x1)) ∧ lwo2) ∧ (lwo36 n g x1)) ∧ lwo37) ∧ lwo4) ∧ lwo2) ∧ (lwo38 n g x0)) ∧ (lwo48 n g x0 x1)) ∧ (lwo26 n)) ∧ (lwo28 n g)) ∧ (lwo28 n g)) ∧ (lwo40 n g)) ∧ (lwo40 n g)) ∧ (lwo40 n g)) ∧ (lwo41 n g x1)) ∧ (lwo40 n g)) ∧ (lwo42 n g x1)) ∧ (lwo42 n g x1)) ∧ (lwo42 n g x1)) ∧ (lwo42 n g x1)) ∧ (lwo43 n g x1)) ∧ (lwo43 n g x1)) ∧ (lwo43 n g x1)) ∧ (lwo43 n g x1)) ∧ (lwo44 n g x0 x1)) ∧ (lwo44 n g x0 x1)) ∧ (lwo44 n g x0 x1)) ∧ (lwo44 n g x0 x1)) ∧ (lwo49 n g x0 x1)) ∧ (lwo49 n g x0 x1)) ∧ (lwo49 n g x0 x1)) ∧ lwo2) ∧ (lwo49 n g x0 x1)) ∧ (lwo49 n g x0 x1)) ∧ (lwo49 n g x0 x1)) ∧ (lwo28 n g)) ∧ (lwo33 n g x1)) ∧ (lwo46 n)) ∧ (lwo49 n g x0 x1)) ∧ (lwo49 n g x0 x1)) ∧ (lwo47 n g x1)) ∧ (lwo47 n g x1))) := by kernel_rfl
theorem lw20_g (n : Nat) (c : Nat) (g : Nat → Nat → Int) (c2 : Nat) (x0 : Int) (x1 : Int) : goodY (lw20 n c g c2 x0 x1) = true := by kernel_rfl
theorem lw21_o (n : Nat) (c : Nat) (g : Nat → Nat → Int) (c2 : Nat) (x0 : Int) (x1 : Int) : obY (lw21 n c g c2 x0 x1) = ((((((((((((((((((((((((((((((((((((((((((((((((((((((((((((((((((True ∧ (lwo24 n)) ∧ (lwo24 n)) ∧ (lwo24 n)) ∧ (lwo24 n)) ∧ (lwo25 n)) ∧ (lwo25 n)) ∧ (lwo25 n)) ∧ (lwo25 n)) ∧ lwo0) ∧ (lwo26 n)) ∧ lwo2) ∧ (lwo27 n g x1)) ∧ (lwo26 n)) ∧ lwo4) ∧ lwo2) ∧ (lwo28 n g)) ∧ (lwo26 n)) ∧ lwo2) ∧ (lwo29 n g)) ∧ lwo2) ∧ (lwo28 n g)) ∧ lwo4) ∧ (lwo28 n g)) ∧ lwo9) ∧ lwo4) ∧ (lwo50 n g x0)) ∧ lwo4) ∧ (lwo35 n g x1)) ∧ lwo2) ∧ (lwo36 n g x1)) ∧ (lwo51 n g x0)) ∧ (lwo26 n)) ∧ (lwo28 n g)) ∧ (lwo28 n g)) ∧ (lwo40 n g)) ∧ (lwo40 n g)) ∧ (lwo40 n g)) ∧ (lwo41 n g x1)) ∧ (lwo40 n g)) ∧ (lwo42 n g x1)) ∧ (lwo42 n g x1)) ∧ (lwo42 n g x1)) ∧ (lwo42 n g x1)) ∧ (lwo43 n g x1)) ∧ (lwo43 n g x1)) ∧ (lwo43 n g x1)) ∧ (lwo43 n g x1)) ∧ (lwo52 n g x0 x1)) ∧ (lwo52 n g x0 x1)) ∧ (lwo52 n g x0 x1)) ∧ (lwo52 n g x0 x1)) ∧ (lwo53 n g x0 x1)) ∧ (lwo53 n g x0 x1)) ∧ (lwo53 n g x0 x1)) ∧ lwo2) ∧ (lwo53 n g x0 x1)) ∧ (lwo53 n g x0 x1)) ∧ (lwo53 n g x0 x1)) ∧ (lwo28 n g)) ∧ (lwo33 n g x1)) ∧ (lwo46 n)) ∧ (lwo53 n g x0 x1)) ∧ (lwo53 n g x0 x1)) ∧ (lwo47 n g x1)) ∧ (lwo47 n g x1))) := by kernel_rfl
theorem lw21_g (n : Nat) (c : Nat) (g : Nat → Nat → Int) (c2 : Nat) (x0 : Int) (x1 : Int) : goodY (lw21 n c g c2 x0 x1) = true := by kernel_rfl
theorem lw22_o (n : Nat) (c : Nat) (g : Nat → Nat → Int) (c2 : Nat) (x0 : Int) (x1 : Int) : obY (lw22 n c g c2 x0 x1) = (((((((((((((((((((((((((((((((((((((((((((((((((((((((((((((((((((True ∧ (lwo24 n)) ∧ (lwo24 n)) ∧ (lwo24 n)) ∧ (lwo24 n)) ∧ (lwo25 n)) ∧ (lwo25 n)) ∧ (lwo25 n)) ∧ (lwo25 n)) ∧ lwo0) ∧ (lwo26 n)) ∧ lwo2) ∧ (lwo54 n g x1)) ∧ (lwo26 n)) ∧ lwo4) ∧ lwo2) ∧ (lwo28 n g)) ∧ (lwo26 n)) ∧ lwo2) ∧ (lwo29 n g)) ∧ lwo2) ∧ (lwo28 n g)) ∧ lwo4) ∧ (lwo28 n g)) ∧ lwo9) ∧ lwo4) ∧ (lwo30 n g x0)) ∧ lwo31) ∧ lwo32) ∧ (lwo55 n g x1)) ∧ lwo32) ∧ (lwo56 n g x1)) ∧ (lwo56 n g x1)) ∧ (lwo26 n)) ∧ (lwo28 n g)) ∧ (lwo28 n g)) ∧ (lwo40 n g)) ∧ (lwo40 n g)) ∧ (lwo40 n g)) ∧ lwo12) ∧ lwo13) ∧ (lwo40 n g)) ∧ lwo14) ∧ lwo14) ∧ lwo14) ∧ lwo14) ∧ (lwo57 n g x1)) ∧ (lwo57 n g x1)) ∧ (lwo57 n g x1)) ∧ (lwo57 n g x1)) ∧ (lwo52 n g x0 x1)) ∧ (lwo52 n g x0 x1)) ∧ (lwo52 n g x0 x1)) ∧ (lwo52 n g x0 x1)) ∧ (lwo58 n g x0 x1)) ∧ (lwo58 n g x0 x1)) ∧ (lwo58 n g x0 x1)) ∧ lwo2) ∧ (lwo58 n g x0 x1)) ∧ (lwo58 n g x0 x1)) ∧ (lwo58 n g x0 x1)) ∧ (lwo28 n g)) ∧ (lwo55 n g x1)) ∧ (lwo58 n g x0 x1)) ∧ (lwo58 n g x0 x1)) ∧ (lwo59 n g x1)) ∧ (lwo59 n g x1))) := by kernel_rfl
theorem lw22_g (n : Nat) (c : Nat) (g : Nat → Nat → Int) (c2 : Nat) (x0 : Int) (x1 : Int) : goodY (lw22 n c g c2 x0 x1) = true := by kernel_rfl
theorem lw23_o (n : Nat) (c : Nat) (g : Nat → Nat → Int) (c2 : Nat) (x0 : Int) (x1 : Int) : obY (lw23 n c g c2 x0 x1) = ((((((((((((((((((((((((((((((((((((((((((((((((((((((((((((((((True ∧ (lwo24 n)) ∧ (lwo24 n)) ∧ (lwo24 n)) ∧ (lwo24 n)) ∧ (lwo25 n)) ∧ (lwo25 n)) ∧ (lwo25 n)) ∧ (lwo25 n)) ∧ lwo0) ∧ (lwo26 n)) ∧ lwo2) ∧ (lwo54 n g x1)) ∧ (lwo26 n)) ∧ lwo4) ∧ lwo2) ∧ (lwo28 n g)) ∧ (lwo26 n)) ∧ lwo2) ∧ (lwo29 n g)) ∧ lwo2) ∧ (lwo28 n g)) ∧ lwo4) ∧ (lwo28 n g)) ∧ lwo9) ∧ lwo4) ∧ (lwo50 n g x0)) ∧ lwo4) ∧ (lwo56 n g x1)) ∧ (lwo51 n g x0)) ∧ (lwo26 n)) ∧ (lwo28 n g)) ∧ (lwo28 n g)) ∧ (lwo40 n g)) ∧ (lwo40 n g)) ∧ (lwo40 n g)) ∧ lwo12) ∧ lwo13) ∧ (lwo40 n g)) ∧ lwo14) ∧ lwo14) ∧ lwo14) ∧ lwo14) ∧ (lwo57 n g x1)) ∧ (lwo57 n g x1)) ∧ (lwo57 n g x1)) ∧ (lwo57 n g x1)) ∧ (lwo52 n g x0 x1)) ∧ (lwo52 n g x0 x1)) ∧ (lwo52 n g x0 x1)) ∧ (lwo52 n g x0 x1)) ∧ (lwo53 n g x0 x1)) ∧ (lwo53 n g x0 x1)) ∧ (lwo53 n g x0 x1)) ∧ lwo2) ∧ (lwo53 n g x0 x1)) ∧ (lwo53 n g x0 x1)) ∧ (lwo53 n g x0 x1)) ∧ (lwo28 n g)) ∧ (lwo55 n g x1)) ∧ (lwo53 n g x0 x1)) ∧ (lwo53 n g x0 x1)) ∧ (lwo59 n g x1)) ∧ (lwo59 n g x1))) := by kernel_rfl
theorem lw23_g (n : Nat) (c : Nat) (g : Nat → Nat → Int) (c2 : Nat) (x0 : Int) (x1 : Int) : goodY (lw23 n c g c2 x0 x1) = true := by kernel_rfl
theorem lw24_o (n : Nat) (c : Nat) (g : Nat → Nat → Int) (c2 : Nat) (x0 : Int) (x1 : Int) : obY (lw24 n c g c2 x0 x1) = ((((((((((True ∧ (lwo24 n)) ∧ (lwo24 n)) ∧ (lwo24 n)) ∧ (lwo24 n)) ∧ (lwo60 n)) ∧ (lwo60 n)) ∧ (lwo60 n)) ∧ (lwo60 n)) ∧ lwo14)) := by kernel_rfl
theorem lw24_g (n : Nat) (c : Nat) (g : Nat → Nat → Int) (c2 : Nat) (x0 : Int) (x1 : Int) : goodY (lw24 n c g c2 x0 x1) = true := by kernel_rfl
theorem lw25_o (n : Nat) (c : Nat) (g : Nat → Nat → Int) (c2 : Nat) (x0 : Int) (x1 : Int) : obY (lw25 n c g c2 x0 x1) = (((((((((((((((((((((((((((((((((((((((((((((((((((((((((((((((((((((((((True ∧ (lwo61 n)) ∧ (lwo61 n)) ∧ (lwo61 n)) ∧ (lwo61 n)) ∧ lwo1) ∧ lwo1) ∧ lwo1) ∧ lwo1) ∧ lwo0) ∧ (lwo26 n)) ∧ lwo2) ∧ (lwo27 n g x1)) ∧ (lwo26 n)) ∧ lwo4) ∧ lwo2) ∧ (lwo28 n g)) ∧ (lwo26 n)) ∧ lwo2) ∧ (lwo29 n g)) ∧ lwo2) ∧ (lwo28 n g)) ∧ lwo4) ∧ (lwo28 n g)) ∧ lwo9) ∧ lwo4) ∧ (lwo30 n g x0)) ∧ lwo31) ∧ lwo32) ∧ (lwo33 n g x1)) ∧ lwo34) ∧ (lwo35 n g x1)) ∧ lwo2) ∧ (lwo36 n g x1)) ∧ lwo37) ∧ lwo4) ∧ lwo2) ∧ (lwo38 n g x0)) ∧ (lwo39 n g x0 x1)) ∧ (lwo26 n)) ∧ (lwo28 n g)) ∧ (lwo28 n g)) ∧ (lwo40 n g)) ∧ (lwo40 n g)) ∧ (lwo40 n g)) ∧ (lwo41 n g x1)) ∧ (lwo40 n g)) ∧ (lwo42 n g x1)) ∧ (lwo42 n g x1)) ∧ (lwo42 n g x1)) ∧ (lwo42 n g x1)) ∧ (lwo43 n g x1)) ∧ (lwo43 n g x1)) ∧ (lwo43 n g x1)) ∧ (lwo43 n g x1)) ∧ (lwo44 n g x0 x1)) ∧ (lwo44 n g x0 x1)) ∧ (lwo44 n g x0 x1)) ∧ (lwo44 n g x0 x1)) ∧ (lwo45 n g x0 x1)) ∧ (lwo45 n g x0 x1)) ∧ (lwo45 n g x0 x1)) ∧ lwo2) ∧ (lwo45 n g x0 x1)) ∧ (lwo45 n g x0 x1)) ∧ (lwo45 n g x0 x1)) ∧ (lwo28 n g)) ∧ (lwo33 n g x1)) ∧ (lwo46 n)) ∧ (lwo45 n g x0 x1)) ∧ (lwo45 n g x0 x1)) ∧ (lwo47 n g x1)) ∧ (lwo47 n g x1))) := by kernel_rfl
theorem lw25_g (n : Nat) (c : Nat) (g : Nat → Nat → Int) (c2 : Nat) (x0 : Int) (x1 : Int) : goodY (lw25 n c g c2 x0 x1) = true := by kernel_rfl
theorem lw26_o (n : Nat) (c : Nat) (g : Nat → Nat → Int) (c2 : Nat) (x0 : Int) (x1 : Int) : obY (lw26 n c g c2 x0 x1) = (((((((((((((((((((((((((((((((((((((((((((((((((((((((((((((((((((((((((True ∧ (lwo61 n)) ∧ (lwo61 n)) ∧ (lwo61 n)) ∧ (lwo61 n)) ∧ lwo1) ∧ lwo1) ∧ lwo1) ∧ lwo1) ∧ lwo0) ∧ (lwo26 n)) ∧ lwo2) ∧ (lwo27 n g x1)) ∧ (lwo26 n)) ∧ lwo4) ∧ lwo2) ∧ (lwo28 n g)) ∧ (lwo26 n)) ∧ lwo2) ∧ (lwo29 n g)) ∧ lwo2) ∧ (lwo28 n g)) ∧ lwo4) ∧ (lwo28 n g)) ∧ lwo9) ∧ lwo4) ∧ (lwo30 n g x0)) ∧ lwo31) ∧ lwo32) ∧ (lwo33 n g x1)) ∧ lwo34) ∧ (lwo35 n g x1)) ∧ lwo2) ∧ (lwo36 n g x1)) ∧ lwo37) ∧ lwo4) ∧ lwo2) ∧ (lwo38 n g x0)) ∧ (lwo48 n g x0 x1)) ∧ (lwo26 n)) ∧ (lwo28 n g)) ∧ (lwo28 n g)) ∧ (lwo40 n g)) ∧ (lwo40 n g)) ∧ (lwo40 n g)) ∧ (lwo41 n g x1)) ∧ (lwo40 n g)) ∧ (lwo42 n g x1)) ∧ (lwo42 n g x1)) ∧ (lwo42 n g x1)) ∧ (lwo42 n g x1)) ∧ (lwo43 n g x1)) ∧ (lwo43 n g x1)) ∧ (lwo43 n g x1)) ∧ (lwo43 n g x1)) ∧ (lwo44 n g x0 x1)) ∧ (lwo44 n g x0 x1)) ∧ (lwo44 n g x0 x1)) ∧ (lwo44 n g x0 x1)) ∧ (lwo49 n g x0 x1)) ∧ (lwo49 n g x0 x1)) ∧ (lwo49 n g x0 x1)) ∧ lwo2) ∧ (lwo49 n g x0 x1)) ∧ (lwo49 n g x0 x1)) ∧ (lwo49 n g x0 x1)) ∧ (lwo28 n g)) ∧ (lwo33 n g x1)) ∧ (lwo46 n)) ∧ (lwo49 n g x0 x1)) ∧ (lwo49 n g x0 x1)) ∧ (lwo47 n g x1)) ∧ (lwo47 n g x1))) := by kernel_rfl
theorem lw26_g (n : Nat) (c : Nat) (g : Nat → Nat → Int) (c2 : Nat) (x0 : Int) (x1 : Int) : goodY (lw26 n c g c2 x0 x1) = true := by kernel_rfl
theorem lw27_o (n : Nat) (c : Nat) (g : Nat → Nat → Int) (c2 : Nat) (x0 : Int) (x1 : Int) : obY (lw27 n c g c2 x0 x1) = ((((((((((((((((((((((((((((((((((((((((((((((((((((((((((((((((((True ∧ (lwo61 n)) ∧ (lwo61 n)) ∧ (lwo61 n)) ∧ (lwo61 n)) ∧ lwo1) ∧ lwo1) ∧ lwo1) ∧ lwo1) ∧ lwo0) ∧ (lwo26 n)) ∧ lwo2) ∧ (lwo27 n g x1)) ∧ (lwo26 n)) ∧ lwo4) ∧ lwo2) ∧ (lwo28 n g)) ∧ (lwo26 n)) ∧ lwo2) ∧ (lwo29 n g)) ∧ lwo2) ∧ (lwo28 n g)) ∧ lwo4) ∧ (lwo28 n g)) ∧ lwo9) ∧ lwo4) ∧ (lwo50 n g x0)) ∧ lwo4) ∧ (lwo35 n g x1)) ∧ lwo2) ∧ (lwo36 n g x1)) ∧ (lwo51 n g x0)) ∧ (lwo26 n)) ∧ (lwo28 n g)) ∧ (lwo28 n g)) ∧ (lwo40 n g)) ∧ (lwo40 n g)) ∧ (lwo40 n g)) ∧ (lwo41 n g x1)) ∧ (lwo40 n g)) ∧ (lwo42 n g x1)) ∧ (lwo42 n g x1)) ∧ (lwo42 n g x1)) ∧ (lwo42 n g x1)) ∧ (lwo43 n g x1)) ∧ (lwo43 n g x1)) ∧ (lwo43 n g x1)) ∧ (lwo43 n g x1)) ∧ (lwo52 n g x0 x1)) ∧ (lwo52 n g x0 x1)) ∧ (lwo52 n g x0 x1)) ∧ (lwo52 n g x0 x1)) ∧ (lwo53 n g x0 x1)) ∧ (lwo53 n g x0 x1)) ∧ (lwo53 n g x0 x1)) ∧ lwo2) ∧ (lwo53 n g x0 x1)) ∧ (lwo53 n g x0 x1)) ∧ (lwo53 n g x0 x1)) ∧ (lwo28 n g)) ∧ (lwo33 n g x1)) ∧ (lwo46 n)) ∧ (lwo53 n g x0 x1)) ∧ (lwo53 n g x0 x1)) ∧ (lwo47 n g x1)) ∧ (lwo47 n g x1))) := by kernel_rfl
theorem lw27_g (n : Nat) (c : Nat) (g : Nat → Nat → Int) (c2 : Nat) (x0 : Int) (x1 : Int) : goodY (lw27 n c g c2 x0 x1) = true := by kernel_rfl
theorem lw28_o (n : Nat) (c : Nat) (g : Nat → Nat → Int) (c2 : Nat) (x0 : Int) (x1 : Int) : obY (lw28 n c g c2 x0 x1) = (((((((((((((((((((((((((((((((((((((((((((((((((((((((((((((((((((True ∧ (lwo61 n)) ∧ (lwo61 n)) ∧ (lwo61 n)) ∧ (lwo61 n)) ∧ lwo1) ∧ lwo1) ∧ lwo1) ∧ lwo1) ∧ lwo0) ∧ (lwo26 n)) ∧ lwo2) ∧ (lwo54 n g x1)) ∧ (lwo26 n)) ∧ lwo4) ∧ lwo2) ∧ (lwo28 n g)) ∧ (lwo26 n)) ∧ lwo2) ∧ (lwo29 n g)) ∧ lwo2) ∧ (lwo28 n g)) ∧ lwo4) ∧ (lwo28 n g)) ∧ lwo9) ∧ lwo4) ∧ (lwo30 n g x0)) ∧ lwo31) ∧ lwo32) ∧ (lwo55 n g x1)) ∧ lwo32) ∧ (lwo56 n g x1)) ∧ (lwo56 n g x1)) ∧ (lwo26 n)) ∧ (lwo28 n g)) ∧ (lwo28 n g)) ∧ (lwo40 n g)) ∧ (lwo40 n g)) ∧ (lwo40 n g)) ∧ lwo12) ∧ lwo13) ∧ (lwo40 n g)) ∧ lwo14) ∧ lwo14) ∧ lwo14) ∧ lwo14) ∧ (lwo57 n g x1)) ∧ (lwo57 n g x1)) ∧ (lwo57 n g x1)) ∧ (lwo57 n g x1)) ∧ (lwo52 n g x0 x1)) ∧ (lwo52 n g x0 x1)) ∧ (lwo52 n g x0 x1)) ∧ (lwo52 n g x0 x1)) ∧ (lwo58 n g x0 x1)) ∧ (lwo58 n g x0 x1)) ∧ (lwo58 n g x0 x1)) ∧ lwo2) ∧ (lwo58 n g x0 x1)) ∧ (lwo58 n g x0 x1)) ∧ (lwo58 n g x0 x1)) ∧ (lwo28 n g)) ∧ (lwo55 n g x1)) ∧ (lwo58 n g x0 x1)) ∧ (lwo58 n g x0 x1)) ∧ (lwo59 n g x1)) ∧ (lwo59 n g x1))) := by kernel_rfl
theorem lw28_g (n : Nat) (c : Nat) (g : Nat → Nat → Int) (c2 : Nat) (x0 : Int) (x1 : Int) : goodY (lw28 n c g c2 x0 x1) = true := by kernel_rfl
theorem lw29_o (n : Nat) (c : Nat) (g : Nat → Nat → Int) (c2 : Nat) (x0 : Int) (x1 : Int) : obY (lw29 n c g c2 x0 x1) = ((((((((((((((((((((((((((((((((((((((((((((((((((((((((((((((((True ∧ (lwo61 n)) ∧ (lwo61 n)) ∧ (lwo61 n)) ∧ (lwo61 n)) ∧ lwo1) ∧ lwo1) ∧ lwo1) ∧ lwo1) ∧ lwo0) ∧ (lwo26 n)) ∧ lwo2) ∧ (lwo54 n g x1)) ∧ (lwo26 n)) ∧ lwo4) ∧ lwo2) ∧ (lwo28 n g)) ∧ (lwo26 n)) ∧ lwo2) ∧ (lwo29 n g)) ∧ lwo2) ∧ (lwo28 n g)) ∧ lwo4) ∧ (lwo28 n g)) ∧ lwo9) ∧ lwo4) ∧ (lwo50 n g x0)) ∧ lwo4) ∧ (lwo56 n g x1)) ∧ (lwo51 n g x0)) ∧ (lwo26 n)) ∧ (lwo28 n g)) ∧ (lwo28 n g)) ∧ (lwo40 n g)) ∧ (lwo40 n g)) ∧ (lwo40 n g)) ∧ lwo12) ∧ lwo13) ∧ (lwo40 n g)) ∧ lwo14) ∧ lwo14) ∧ lwo14) ∧ lwo14) ∧ (lwo57 n g x1)) ∧ (lwo57 n g x1)) ∧ (lwo57 n g x1)) ∧ (lwo57 n g x1)) ∧ (lwo52 n g x0 x1)) ∧ (lwo52 n g x0 x1)) ∧ (lwo52 n g x0 x1)) ∧ (lwo52 n g x0 x1)) ∧ (lwo53 n g x0 x1)) ∧ (lwo53 n g x0 x1)) ∧ (lwo53 n g x0 x1)) ∧ lwo2) ∧ (lwo53 n g x0 x1)) ∧ (lwo53 n g x0 x1)) ∧ (lwo53 n g x0 x1)) ∧ (lwo28 n g)) ∧ (lwo55 n g x1)) ∧ (lwo53 n g x0 x1)) ∧ (lwo53 n g x0 x1)) ∧ (lwo59 n g x1)) ∧ (lwo59 n g x1))) := by kernel_rfl
theorem lw29_g (n : Nat) (c : Nat) (g : Nat → Nat → Int) (c2 : Nat) (x0 : Int) (x1 : Int) : goodY (lw29 n c g c2 x0 x1) = true := by kernel_rfl
theorem lw30_o (n : Nat) (c : Nat) (g : Nat → Nat → Int) (m : Nat) (c2 : Nat) (h : Nat → Nat → Int) (x0 : Int) (x1 : Int) : obY (lw30 n c g m c2 h x0 x1) = ((((((((((True ∧ (lwo24 n)) ∧ (lwo24 n)) ∧ (lwo24 n)) ∧ (lwo24 n)) ∧ (lwo25 n)) ∧ (lwo25 n)) ∧ (lwo25 n)) ∧ (lwo25 n)) ∧ (lwo19 m))) := by kernel_rfl
theorem lw30_g (n : Nat) (c : Nat) (g : Nat → Nat → Int) (m : Nat) (c2 : Nat) (h : Nat → Nat → Int) (x0 : Int) (x1 : Int) : goodY (lw30 n c g m c2 h x0 x1) = true := by kernel_rfl
theorem lw31_o (n : Nat) (c : Nat) (g : Nat → Nat → Int) (m : Nat) (c2 : Nat) (h : Nat → Nat → Int) (x0 : Int) (x1 : Int) : obY (lw31 n c g m c2 h x0 x1) = ((((((((((((((((((((((((((((((((((((((((((((((((((((((((((((((((((((((((True ∧ (lwo24 n)) ∧ (lwo24 n)) ∧ (lwo24 n)) ∧ (lwo24 n)) ∧ (lwo25 n)) ∧ (lwo25 n)) ∧ (lwo25 n)) ∧ (lwo25 n)) ∧ (lwo20 m)) ∧ (lwo26 n)) ∧ lwo2) ∧ (lwo27 n g x1)) ∧ (lwo26 n)) ∧ lwo4) ∧ lwo2) ∧ (lwo28 n g)) ∧ (lwo26 n)) ∧ lwo2) ∧ (lwo21 m)) ∧ (lwo62 n m g h)) ∧ lwo2) ∧ (lwo28 n g)) ∧ lwo4) ∧ (lwo28 n g)) ∧ lwo9) ∧ lwo4) ∧ (lwo30 n g x0)) ∧ lwo31) ∧ lwo32) ∧ (lwo33 n g x1)) ∧ lwo34) ∧ (lwo35 n g x1)) ∧ lwo2) ∧ (lwo36 n g x1)) ∧ lwo37) ∧ lwo4) ∧ lwo2) ∧ (lwo38 n g x0)) ∧ (lwo39 n g x0 x1)) ∧ (lwo26 n)) ∧ (lwo28 n g)) ∧ (lwo28 n g)) ∧ (lwo40 n g)) ∧ (lwo40 n g)) ∧ (lwo40 n g)) ∧ (lwo41 n g x1)) ∧ (lwo40 n g)) ∧ (lwo42 n g x1)) ∧ (lwo42 n g x1)) ∧ (lwo42 n g x1)) ∧ (lwo42 n g x1)) ∧ (lwo43 n g x1)) ∧ (lwo43 n g x1)) ∧ (lwo43 n g x1)) ∧ (lwo43 n g x1)) ∧ (lwo44 n g x0 x1)) ∧ (lwo44 n g x0 x1)) ∧ (lwo44 n g x0 x1)) ∧ (lwo44 n g x0 x1)) ∧ (lwo45 n g x0 x1)) ∧ (lwo45 n g x0 x1)) ∧ (lwo45 n g x0 x1)) ∧ lwo2) ∧ (lwo45 n g x0 x1)) ∧ (lwo45 n g x0 x1)) ∧ (lwo45 n g x0 x1)) ∧ (lwo62 n m g h)) ∧ (lwo45 n g x0 x1)) ∧ (lwo45 n g x0 x1)) ∧ (lwo63 n m g h x1)) ∧ (lwo63 n m g h x1))) := by kernel_rfl
theorem lw31_g (n : Nat) (c : Nat) (g : Nat → Nat → Int) (m : Nat) (c2 : Nat) (h : Nat → Nat → Int) (x0 : Int) (x1 : Int) : goodY (lw31 n c g m c2 h x0 x1) = true := by kernel_rfl
theorem lw32_o (n : Nat) (c : Nat) (g : Nat → Nat → Int) (m : Nat) (c2 : Nat) (h : Nat → Nat → Int) (x0 : Int) (x1 : Int) : obY (lw32 n c g m c2 h x0 x1) = ((((((((((((((((((((((((((((((((((((((((((((((((((((((((((((((((((((((((True ∧ (lwo24 n)) ∧ (lwo24 n)) ∧ (lwo24 n)) ∧ (lwo24 n)) ∧ (lwo25 n)) ∧ (lwo25 n)) ∧ (lwo25 n)) ∧ (lwo25 n)) ∧ (lwo20 m)) ∧ (lwo26 n)) ∧ lwo2) ∧ (lwo27 n g x1)) ∧ (lwo26 n)) ∧ lwo4) ∧ lwo2) ∧ (lwo28 n g)) ∧ (lwo26 n)) ∧ lwo2) ∧ (lwo21 m)) ∧ (lwo62 n m g h)) ∧ lwo2) ∧ (lwo28 n g)) ∧ lwo4) ∧ (lwo28 n g)) ∧ lwo9) ∧ lwo4) ∧ (lwo30 n g x0)) ∧ lwo31) ∧ lwo32) ∧ (lwo33 n g x1)) ∧ lwo34) ∧ (lwo35 n g x1)) ∧ lwo2) ∧ (lwo36 n g x1)) ∧ lwo37) ∧ lwo4) ∧ lwo2) ∧ (lwo38 n g x0)) ∧ (lwo48 n g x0 x1)) ∧ (lwo26 n)) ∧ (lwo28 n g)) ∧ (lwo28 n g)) ∧ (lwo40 n g)) ∧ (lwo40 n g)) ∧ (lwo40 n g)) ∧ (lwo41 n g x1)) ∧ (lwo40 n g)) ∧ (lwo42 n g x1)) ∧ (lwo42 n g x1)) ∧ (lwo42 n g x1)) ∧ (lwo42 n g x1)) ∧ (lwo43 n g x1)) ∧ (lwo43 n g x1)) ∧ (lwo43 n g x1)) ∧ (lwo43 n g x1)) ∧ (lwo44 n g x0 x1)) ∧ (lwo44 n g x0 x1)) ∧ (lwo44 n g x0 x1)) ∧ (lwo44 n g x0 x1)) ∧ (lwo49 n g x0 x1)) ∧ (lwo49 n g x0 x1)) ∧ (lwo49 n g x0 x1)) ∧ lwo2) ∧ (lwo49 n g x0 x1)) ∧ (lwo49 n g x0 x1)) ∧ (lwo49 n g x0 x1)) ∧ (lwo62 n m g h)) ∧ (lwo49 n g x0 x1)) ∧ (lwo49 n g x0 x1)) ∧ (lwo63 n m g h x1)) ∧ (lwo63 n m g h x1))) := by kernel_rfl
theorem lw32_g (n : Nat) (c : Nat) (g : Nat → Nat → Int) (m : Nat) (c2 : Nat) (h : Nat → Nat → Int) (x0 : Int) (x1 : Int) : goodY (lw32 n c g m c2 h x0 x1) = true := by kernel_rfl
theorem lw33_o (n : Nat) (c : Nat) (g : Nat → Nat → Int) (m : Nat) (c2 : Nat) (h : Nat → Nat → Int) (x0 : Int) (x1 : Int) : obY (lw33 n c g m c2 h x0 x1) = (((((((((((((((((((((((((((((((((((((((((((((((((((((((((((((((((True ∧ (lwo24 n)) ∧ (lwo24 n)) ∧ (lwo24 n)) ∧ (lwo24 n)) ∧ (lwo25 n)) ∧ (lwo25 n)) ∧ (lwo25 n)) ∧ (lwo25 n)) ∧ (lwo20 m)) ∧ (lwo26 n)) ∧ lwo2) ∧ (lwo27 n g x1)) ∧ (lwo26 n)) ∧ lwo4) ∧ lwo2) ∧ (lwo28 n g)) ∧ (lwo26 n)) ∧ lwo2) ∧ (lwo21 m)) ∧ (lwo62 n m g h)) ∧ lwo2) ∧ (lwo28 n g)) ∧ lwo4) ∧ (lwo28 n g)) ∧ lwo9) ∧ lwo4) ∧ (lwo50 n g x0)) ∧ lwo4) ∧ (lwo35 n g x1)) ∧ lwo2) ∧ (lwo36 n g x1)) ∧ (lwo51 n g x0)) ∧ (lwo26 n)) ∧ (lwo28 n g)) ∧ (lwo28 n g)) ∧ (lwo40 n g)) ∧ (lwo40 n g)) ∧ (lwo40 n g)) ∧ (lwo41 n g x1)) ∧ (lwo40 n g)) ∧ (lwo42 n g x1)) ∧ (lwo42 n g x1)) ∧ (lwo42 n g x1)) ∧ (lwo42 n g x1)) ∧ (lwo43 n g x1)) ∧ (lwo43 n g x1)) ∧ (lwo43 n g x1)) ∧ (lwo43 n g x1)) ∧ (lwo52 n g x0 x1)) ∧ (lwo52 n g x0 x1)) ∧ (lwo52 n g x0 x1)) ∧ (lwo52 n g x0 x1)) ∧ (lwo53 n g x0 x1)) ∧ (lwo53 n g x0 x1)) ∧ (lwo53 n g x0 x1)) ∧ lwo2) ∧ (lwo53 n g x0 x1)) ∧ (lwo53 n g x0 x1)) ∧ (lwo53 n g x0 x1)) ∧ (lwo62 n m g h)) ∧ (lwo53 n g x0 x1)) ∧ (lwo53 n g x0 x1)) ∧ (lwo63 n m g h x1)) ∧ (lwo63 n m g h x1))) := by kernel_rfl
theorem lw33_g (n : Nat) (c : Nat) (g : Nat → Nat → Int) (m : Nat) (c2 : Nat) (h : Nat → Nat → Int) (x0 : Int) (x1 : Int) : goodY (lw33 n c g m c2 h x0 x1) = true := by kernel_rfl
theorem lw34_o (n : Nat) (c : Nat) (g : Nat → Nat → Int) (m : Nat) (c2 : Nat) (h : Nat → Nat → Int) (x0 : Int) (x1 : Int) : obY (lw34 n c g m c2 h x0 x1) = (((((((((((((((((((((((((((((((((((((((((((((((((((((((((((((((((((True ∧ (lwo24 n)) ∧ (lwo24 n)) ∧ (lwo24 n)) ∧ (lwo24 n)) ∧ (lwo25 n)) ∧ (lwo25 n)) ∧ (lwo25 n)) ∧ (lwo25 n)) ∧ (lwo20 m)) ∧ (lwo26 n)) ∧ lwo2) ∧ (lwo54 n g x1)) ∧ (lwo26 n)) ∧ lwo4) ∧ lwo2) ∧ (lwo28 n g)) ∧ (lwo26 n)) ∧ lwo2) ∧ (lwo21 m)) ∧ (lwo62 n m g h)) ∧ lwo2) ∧ (lwo28 n g)) ∧ lwo4) ∧ (lwo28 n g)) ∧ lwo9) ∧ lwo4) ∧ (lwo30 n g x0)) ∧ lwo31) ∧ lwo32) ∧ (lwo55 n g x1)) ∧ lwo32) ∧ (lwo56 n g x1)) ∧ (lwo56 n g x1)) ∧ (lwo26 n)) ∧ (lwo28 n g)) ∧ (lwo28 n g)) ∧ (lwo40 n g)) ∧ (lwo40 n g)) ∧ (lwo40 n g)) ∧ lwo12) ∧ lwo13) ∧ (lwo40 n g)) ∧ lwo14) ∧ lwo14) ∧ lwo14) ∧ lwo14) ∧ (lwo57 n g x1)) ∧ (lwo57 n g x1)) ∧ (lwo57 n g x1)) ∧ (lwo57 n g x1)) ∧ (lwo52 n g x0 x1)) ∧ (lwo52 n g x0 x1)) ∧ (lwo52 n g x0 x1)) ∧ (lwo52 n g x0 x1)) ∧ (lwo58 n g x0 x1)) ∧ (lwo58 n g x0 x1)) ∧ (lwo58 n g x0 x1)) ∧ lwo2) ∧ (lwo58 n g x0 x1)) ∧ (lwo58 n g x0 x1)) ∧ (lwo58 n g x0 x1)) ∧ (lwo62 n m g h)) ∧ (lwo58 n g x0 x1)) ∧ (lwo58 n g x0 x1)) ∧ (lwo63 n m g h x1)) ∧ (lwo63 n m g h x1))) := by kernel_rfl
theorem lw34_g (n : Nat) (c : Nat) (g : Nat → Nat → Int) (m : Nat) (c2 : Nat) (h : Nat → Nat → Int) (x0 : Int) (x1 : Int) : goodY (lw34 n c g m c2 h x0 x1) = true := by kernel_rfl
theorem lw35_o (n : Nat) (c : Nat) (g : Nat → Nat → Int) (m : Nat) (c2 : Nat) (h : Nat → Nat → Int) (x0 : Int) (x1 : Int) : obY (lw35 n c g m c2 h x0 x1) = ((((((((((((((((((((((((((((((((((((((((((((((((((((((((((((((((True ∧ (lwo24 n)) ∧ (lwo24 n)) ∧ (lwo24 n)) ∧ (lwo24 n)) ∧ (lwo25 n)) ∧ (lwo25 n)) ∧ (lwo25 n)) ∧ (lwo25 n)) ∧ (lwo20 m)) ∧ (lwo26 n)) ∧ lwo2) ∧ (lwo54 n g x1)) ∧ (lwo26 n)) ∧ lwo4) ∧ lwo2) ∧ (lwo28 n g)) ∧ (lwo26 n)) ∧ lwo2) ∧ (lwo21 m)) ∧ (lwo62 n m g h)) ∧ lwo2) ∧ (lwo28 n g)) ∧ lwo4) ∧ (lwo28 n g)) ∧ lwo9) ∧ lwo4) ∧ (lwo50 n g x0)) ∧ lwo4) ∧ (lwo56 n g x1)) ∧ (lwo51 n g x0)) ∧ (lwo26 n)) ∧ (lwo28 n g)) ∧ (lwo28 n g)) ∧ (lwo40 n g)) ∧ (lwo40 n g)) ∧ (lwo40 n g)) ∧ lwo12) ∧ lwo13) ∧ (lwo40 n g)) ∧ lwo14) ∧ lwo14) ∧ lwo14) ∧ lwo14) ∧ (lwo57 n g x1)) ∧ (lwo57 n g x1)) ∧ (lwo57 n g x1)) ∧ (lwo57 n g x1)) ∧ (lwo52 n g x0 x1)) ∧ (lwo52 n g x0 x1)) ∧ (lwo52 n g x0 x1)) ∧ (lwo52 n g x0 x1)) ∧ (lwo53 n g x0 x1)) ∧ (lwo53 n g x0 x1)) ∧ (lwo53 n g x0 x1)) ∧ lwo2) ∧ (lwo53 n g x0 x1)) ∧ (lwo53 n g x0 x1)) ∧ (lwo53 n g x0 x1)) ∧ (lwo62 n m g h)) ∧ (lwo53 n g x0 x1)) ∧ (lwo53 n g x0 x1)) ∧ (lwo63 n m g h x1)) ∧ (lwo63 n m g h x1))) := by kernel_rfl
theorem lw35_g (n : Nat) (c : Nat) (g : Nat → Nat → Int) (m : Nat) (c2 : Nat) (h : Nat → Nat → Int) (x0 : Int) (x1 : Int) : goodY (lw35 n c g m c2 h x0 x1) = true := by kernel_rfl
theorem lw36_o (n : Nat) (c : Nat) (g : Nat → Nat → Int) (m : Nat) (c2 : Nat) (h : Nat → Nat → Int) (x0 : Int) (x1 : Int) : obY (lw36 n c g m c2 h x0 x1) = ((((((((((True ∧ (lwo24 n)) ∧ (lwo24 n)) ∧ (lwo24 n)) ∧ (lwo24 n)) ∧ (lwo60 n)) ∧ (lwo60 n)) ∧ (lwo60 n)) ∧ (lwo60 n)) ∧ lwo14)) := by kernel_rfl
theorem lw36_g (n : Nat) (c : Nat) (g : Nat → Nat → Int) (m : Nat) (c2 : Nat) (h : Nat → Nat → Int) (x0 : Int) (x1 : Int) : goodY (lw36 n c g m c2 h x0 x1) = true := by kernel_rfl
theorem lw37_o (n : Nat) (c : Nat) (g : Nat → Nat → Int) (m : Nat) (c2 : Nat) (h : Nat → Nat → Int) (x0 : Int) (x1 : Int) : obY (lw37 n c g m c2 h x0 x1) = ((((((((((True ∧ (lwo61 n)) ∧ (lwo61 n)) ∧ (lwo61 n)) ∧ (lwo61 n)) ∧ lwo1) ∧ lwo1) ∧ lwo1) ∧ lwo1) ∧ (lwo19 m))) := by kernel_rfl
theorem lw37_g (n : Nat) (c : Nat) (g : Nat → Nat → Int) (m : Nat) (c2 : Nat) (h : Nat → Nat → Int) (x0 : Int) (x1 : Int) : goodY (lw37 n c g m c2 h x0 x1) = true := by kernel_rfl
theorem lw38_o (n : Nat) (c : Nat) (g : Nat → Nat → Int) (m : Nat) (c2 : Nat) (h : Nat → Nat → Int) (x0 : Int) (x1 : Int) : obY (lw38 n c g m c2 h x0 x1) = ((((((((((((((((((((((((((((((((((((((((((((((((((((((((((((((((((((((((True ∧ (lwo61 n)) ∧ (lwo61 n)) ∧ (lwo61 n)) ∧ (lwo61 n)) ∧ lwo1) ∧ lwo1) ∧ lwo1) ∧ lwo1) ∧ (lwo20 m)) ∧ (lwo26 n)) ∧ lwo2) ∧ (lwo27 n g x1)) ∧ (lwo26 n)) ∧ lwo4) ∧ lwo2) ∧ (lwo28 n g)) ∧ (lwo26 n)) ∧ lwo2) ∧ (lwo21 m)) ∧ (lwo62 n m g h)) ∧ lwo2) ∧ (lwo28 n g)) ∧ lwo4) ∧ (lwo28 n g)) ∧ lwo9) ∧ lwo4) ∧ (lwo30 n g x0)) ∧ lwo31) ∧ lwo32) ∧ (lwo33 n g x1)) ∧ lwo34) ∧ (lwo35 n g x1)) ∧ lwo2) ∧ (lwo36 n g x1)) ∧ lwo37) ∧ lwo4) ∧ lwo2) ∧ (lwo38 n g x0)) ∧ (lwo39 n g x0 x1)) ∧ (lwo26 n)) ∧ (lwo28 n g)) ∧ (lwo28 n g)) ∧ (lwo40 n g)) ∧ (lwo40 n g)) ∧ (lwo40 n g)) ∧ (lwo41 n g x1)) ∧ (lwo40 n g)) ∧ (lwo42 n g x1)) ∧ (lwo42 n g x1)) ∧ (lwo42 n g x1)) ∧ (lwo42 n g x1)) ∧ (lwo43 n g x1)) ∧ (lwo43 n g x1)) ∧ (lwo43 n g x1)) ∧ (lwo43 n g x1)) ∧ (lwo44 n g x0 x1)) ∧ (lwo44 n g x0 x1)) ∧ (lwo44 n g x0 x1)) ∧ (lwo44 n g x0 x1)) ∧ (lwo45 n g x0 x1)) ∧ (lwo45 n g x0 x1)) ∧ (lwo45 n g x0 x1)) ∧ lwo2) ∧ (lwo45 n g x0 x1)) ∧ (lwo45 n g x0 x1)) ∧ (lwo45 n g x0 x1)) ∧ (lwo62 n m g h)) ∧ (lwo45 n g x0 x1)) ∧ (lwo45 n g x0 x1)) ∧ (lwo63 n m g h x1)) ∧ (lwo63 n m g h x1))) := by kernel_rfl
theorem lw38_g (n : Nat) (c : Nat) (g : Nat → Nat → Int) (m : Nat) (c2 : Nat) (h : Nat → Nat → Int) (x0 : Int) (x1 : Int) : goodY (lw38 n c g m c2 h x0 x1) = true := by kernel_rfl
theorem lw39_o (n : Nat) (c : Nat) (g : Nat → Nat → Int) (m : Nat) (c2 : Nat) (h : Nat → Nat → Int) (x0 : Int) (x1 : Int) : obY (lw39 n c g m c2 h x0 x1) = ((((((((((((((((((((((((((((((((((((((((((((((((((((((((((((((((((((((((True ∧ (lwo61 n)) ∧ (lwo61 n)) ∧ (lwo61 n)) ∧ (lwo61 n)) ∧ lwo1) ∧ lwo1) ∧ lwo1) ∧ lwo1) ∧ (lwo20 m)) ∧ (lwo26 n)) ∧ lwo2) ∧ (lwo27 n g x1)) ∧ (lwo26 n)) ∧ lwo4) ∧ lwo2) ∧ (lwo28 n g)) ∧ (lwo26 n)) ∧ lwo2) ∧ (lwo21 m)) ∧ (lwo62 n m g h)) ∧ lwo2) ∧ (lwo28 n g)) ∧ lwo4) ∧ (lwo28 n g)) ∧ lwo9) ∧ lwo4) ∧ (lwo30 n g x0)) ∧ lwo31) ∧ lwo32) ∧ (lwo33 n g x1)) ∧ lwo34) ∧ (lwo35 n g x1)) ∧ lwo2) ∧ (lwo36 n g x1)) ∧ lwo37) ∧ lwo4) ∧ lwo2) ∧ (lwo38 n g x0)) ∧ (lwo48 n g x0 x1)) ∧ (lwo26 n)) ∧ (lwo28 n g)) ∧ (lwo28 n g)) ∧ (lwo40 n g)) ∧ (lwo40 n g)) ∧ (lwo40 n g)) ∧ (lwo41 n g x1)) ∧ (lwo40 n g)) ∧ (lwo42 n g x1)) ∧ (lwo42 n g x1)) ∧ (lwo42 n g x1)) ∧ (lwo42 n g x1)) ∧ (lwo43 n g x1)) ∧ (lwo43 n g x1)) ∧ (lwo43 n g x1)) ∧ (lwo43 n g x1)) ∧ (lwo44 n g x0 x1)) ∧ (lwo44 n g x0 x1)) ∧ (lwo44 n g x0 x1)) ∧ (lwo44 n g x0 x1)) ∧ (lwo49 n g x0 x1)) ∧ (lwo49 n g x0 x1)) ∧ (lwo49 n g x0 x1)) ∧ lwo2) ∧ (lwo49 n g x0 x1)) ∧ (lwo49 n g x0 x1)) ∧ (lwo49 n g x0 x1)) ∧ (lwo62 n m g h)) ∧ (lwo49 n g x0 x1)) ∧ (lwo49 n g x0 x1)) ∧ (lwo63 n m g h x1)) ∧ (lwo63 n m g h x1))) := by kernel_rfl
theorem lw39_g (n : Nat) (c : Nat) (g : Nat → Nat → Int) (m : Nat) (c2 : Nat) (h : Nat → Nat → Int) (x0 : Int) (x1 : Int) : goodY (lw39 n c g m c2 h x0 x1) = true := by kernel_rfl
theorem lw40_o (n : Nat) (c : Nat) (g : Nat → Nat → Int) (m : Nat) (c2 : Nat) (h : Nat → Nat → Int) (x0 : Int) (x1 : Int) : obY (lw40 n c g m c2 h x0 x1) = (((((((((((((((((((((((((((((((((((((((((((((((((((((((((((((((((True ∧ (lwo61 n)) ∧ (lwo61 n)) ∧ (lwo61 n)) ∧ (lwo61 n)) ∧ lwo1) ∧ lwo1) ∧ lwo1) ∧ lwo1) ∧ (lwo20 m)) ∧ (lwo26 n)) ∧ lwo2) ∧ (lwo27 n g x1)) ∧ (lwo26 n)) ∧ lwo4) ∧ lwo2) ∧ (lwo28 n g)) ∧ (lwo26 n)) ∧ lwo2) ∧ (lwo21 m)) ∧ (lwo62 n m g h)) ∧ lwo2) ∧ (lwo28 n g)) ∧ lwo4) ∧ (lwo28 n g)) ∧ lwo9) ∧ lwo4) ∧ (lwo50 n g x0)) ∧ lwo4) ∧ (lwo35 n g x1)) ∧ lwo2) ∧ (lwo36 n g x1)) ∧ (lwo51 n g x0)) ∧ (lwo26 n)) ∧ (lwo28 n g)) ∧ (lwo28 n g)) ∧ (lwo40 n g)) ∧ (lwo40 n g)) ∧ (lwo40 n g)) ∧ (lwo41 n g x1)) ∧ (lwo40 n g)) ∧ (lwo42 n g x1)) ∧ (lwo42 n g x1)) ∧ (lwo42 n g x1)) ∧ (lwo42 n g x1)) ∧ (lwo43 n g x1)) ∧ (lwo43 n g x1)) ∧ (lwo43 n g x1)) ∧ (lwo43 n g x1)) ∧ (lwo52 n g x0 x1)) ∧ (lwo52 n g x0 x1)) ∧ (lwo52 n g x0 x1)) ∧ (lwo52 n g x0 x1)) ∧ (lwo53 n g x0 x1)) ∧ (lwo53 n g x0 x1)) ∧ (lwo53 n g x0 x1)) ∧ lwo2) ∧ (lwo53 n g x0 x1)) ∧ (lwo53 n g x0 x1)) ∧ (lwo53 n g x0 x1)) ∧ (lwo62 n m g h)) ∧ (lwo53 n g x0 x1)) ∧ (lwo53 n g x0 x1)) ∧ (lwo63 n m g h x1)) ∧ (lwo63 n m g h x1))) := by kernel_rfl
theorem lw40_g (n : Nat) (c : Nat) (g : Nat → Nat → Int) (m : Nat) (c2 : Nat) (h : Nat → Nat → Int) (x0 : Int) (x1 : Int) : goodY (lw40 n c g m c2 h x0 x1) = true := by kernel_rfl
theorem lw41_o (n : Nat) (c : Nat) (g : Nat → Nat → Int) (m : Nat) (c2 : Nat) (h : Nat → Nat → Int) (x0 : Int) (x1 : Int) : obY (lw41 n c g m c2 h x0 x1) = (((((((((((((((((((((((((((((((((((((((((((((((((((((((((((((((((((True ∧ (lwo61 n)) ∧ (lwo61 n)) ∧ (lwo61 n)) ∧ (lwo61 n)) ∧ lwo1) ∧ lwo1) ∧ lwo1) ∧ lwo1) ∧ (lwo20 m)) ∧ (lwo26 n)) ∧ lwo2) ∧ (lwo54 n g x1)) ∧ (lwo26 n)) ∧ lwo4) ∧ lwo2) ∧ (lwo28 n g)) ∧ (lwo26 n)) ∧ lwo2) ∧ (lwo21 m)) ∧ (lwo62 n m g h)) ∧ lwo2) ∧ (lwo28 n g)) ∧ lwo4) ∧ (lwo28 n g)) ∧ lwo9) ∧ lwo4) ∧ (lwo30 n g x0)) ∧ lwo31) ∧ lwo32) ∧ (lwo55 n g x1)) ∧ lwo32) ∧ (lwo56 n g x1)) ∧ (lwo56 n g x1)) ∧ (lwo26 n)) ∧ (lwo28 n g)) ∧ (lwo28 n g)) ∧ (lwo40 n g)) ∧ (lwo40 n g)) ∧ (lwo40 n g)) ∧ lwo12) ∧ lwo13) ∧ (lwo40 n g)) ∧ lwo14) ∧ lwo14) ∧ lwo14) ∧ lwo14) ∧ (lwo57 n g x1)) ∧ (lwo57 n g x1)) ∧ (lwo57 n g x1)) ∧ (lwo57 n g x1)) ∧ (lwo52 n g x0 x1)) ∧ (lwo52 n g x0 x1)) ∧ (lwo52 n g x0 x1)) ∧ (lwo52 n g x0 x1)) ∧ (lwo58 n g x0 x1)) ∧ (lwo58 n g x0 x1)) ∧ (lwo58 n g x0 x1)) ∧ lwo2) ∧ (lwo58 n g x0 x1)) ∧ (lwo58 n g x0 x1)) ∧ (lwo58 n g x0 x1)) ∧ (lwo62 n m g h)) ∧ (lwo58 n g x0 x1)) ∧ (lwo58 n g x0 x1)) ∧ (lwo63 n m g h x1)) ∧ (lwo63 n m g h x1))) := by kernel_rfl
theorem lw41_g (n : Nat) (c : Nat) (g : Nat → Nat → Int) (m : Nat) (c2 : Nat) (h : Nat → Nat → Int) (x0 : Int) (x1 : Int) : goodY (lw41 n c g m c2 h x0 x1) = true := by kernel_rfl
theorem lw42_o (n : Nat) (c : Nat) (g : Nat → Nat → Int) (m : Nat) (c2 : Nat) (h : Nat → Nat → Int) (x0 : Int) (x1 : Int) : obY (lw42 n c g m c2 h x0 x1) = ((((((((((((((((((((((((((((((((((((((((((((((((((((((((((((((((True ∧ (lwo61 n)) ∧ (lwo61 n)) ∧ (lwo61 n)) ∧ (lwo61 n)) ∧ lwo1) ∧ lwo1) ∧ lwo1) ∧ lwo1) ∧ (lwo20 m)) ∧ (lwo26 n)) ∧ lwo2) ∧ (lwo54 n g x1)) ∧ (lwo26 n)) ∧ lwo4) ∧ lwo2) ∧ (lwo28 n g)) ∧ (lwo26 n)) ∧ lwo2) ∧ (lwo21 m)) ∧ (lwo62 n m g h)) ∧ lwo2) ∧ (lwo28 n g)) ∧ lwo4) ∧ (lwo28 n g)) ∧ lwo9) ∧ lwo4) ∧ (lwo50 n g x0)) ∧ lwo4) ∧ (lwo56 n g x1)) ∧ (lwo51 n g x0)) ∧ (lwo26 n)) ∧ (lwo28 n g)) ∧ (lwo28 n g)) ∧ (lwo40 n g)) ∧ (lwo40 n g)) ∧ (lwo40 n g)) ∧ lwo12) ∧ lwo13) ∧ (lwo40 n g)) ∧ lwo14) ∧ lwo14) ∧ lwo14) ∧ lwo14) ∧ (lwo57 n g x1)) ∧ (lwo57 n g x1)) ∧ (lwo57 n g x1)) ∧ (lwo57 n g x1)) ∧ (lwo52 n g x0 x1)) ∧ (lwo52 n g x0 x1)) ∧ (lwo52 n g x0 x1)) ∧ (lwo52 n g x0 x1)) ∧ (lwo53 n g x0 x1)) ∧ (lwo53 n g x0 x1)) ∧ (lwo53 n g x0 x1)) ∧ lwo2) ∧ (lwo53 n g x0 x1)) ∧ (lwo53 n g x0 x1)) ∧ (lwo53 n g x0 x1)) ∧ (lwo62 n m g h)) ∧ (lwo53 n g x0 x1)) ∧ (lwo53 n g x0 x1)) ∧ (lwo63 n m g h x1)) ∧ (lwo63 n m g h x1))) := by kernel_rfl
theorem lw42_g (n : Nat) (c : Nat) (g : Nat → Nat → Int) (m : Nat) (c2 : Nat) (h : Nat → Nat → Int) (x0 : Int) (x1 : Int) : goodY (lw42 n c g m c2 h x0 x1) = true := by kernel_rfl
end Go.Proofs.YtecabbbjdnambaaGreatDoor
end
section
set_option linter.all false
set_option maxRecDepth 1000000
open Go.RowKit
namespace Go.Proofs.YtecabbbjdnambaaGreatDoor
open Mini
theorem th2_z {a b : Int} (h : th2 a b = 0) : a = 0 ∧ b = 0 := by
  unfold th2 at h
  split at h
  · rename_i c; exact ⟨c, h⟩
  · rename_i c; exact absurd h c
theorem th2_l {a b c : Int} (h : th2 a b ≠ 0) : th2 (th2 a b) c = th2 a b := if_neg h
theorem lkE_b {n : Nat} {g : Nat → Nat → Int} {x0 x1 : Int} (B : th2 (crV n g) (ixE x0 n) ≠ 0) : lkE n g x0 x1 = th2 (crV n g) (ixE x0 n) := if_neg B
theorem lkE_a {n : Nat} {g : Nat → Nat → Int} {x0 x1 : Int} (B : th2 (crV n g) (ixE x0 n) = 0) : lkE n g x0 x1 = th2 (crV n g) (ixE x1 n) := by
  have h : lkE n g x0 x1 = ixE x1 n := if_pos B
  rw [h, (th2_z B).1]; rfl
theorem lkX_t {n : Nat} {g : Nat → Nat → Int} {x0 x1 : Int} (A : th2 (crV n g) (ixE x1 n) = 0) (B : th2 (crV n g) (ixE x0 n) = 0) (F : fallB n g x0 x1 = true) : lkX n g x0 x1 = 0 := by
  unfold lkX; rw [if_pos ((lkE_a B).trans A), if_pos F]
theorem lkX_n {n : Nat} {g : Nat → Nat → Int} {x0 x1 : Int} (A : th2 (crV n g) (ixE x1 n) = 0) (B : th2 (crV n g) (ixE x0 n) = 0) (F : fallB n g x0 x1 = false) : lkX n g x0 x1 = 7 := by
  unfold lkX; rw [if_pos ((lkE_a B).trans A), F]; rfl
theorem lkC_f {n : Nat} {g : Nat → Nat → Int} {x0 x1 : Int} (A : th2 (crV n g) (ixE x1 n) = 0) (B : th2 (crV n g) (ixE x0 n) = 0) : lkC n g x0 x1 = fallC n g x0 x1 := by
  unfold lkC; rw [if_pos ((lkE_a B).trans A)]
  by_cases F : fallB n g x0 x1 = true
  · rw [if_pos F]
  · rw [if_neg F]; unfold fallC; rw [if_neg (fun c => F (decide_eq_true c))]
theorem lkX_b {n : Nat} {g : Nat → Nat → Int} {x0 x1 : Int} (B : th2 (crV n g) (ixE x0 n) ≠ 0) : lkX n g x0 x1 = th2 (crV n g) (ixE x0 n) := by
  unfold lkX; rw [if_neg (fun c => B ((lkE_b B).symm.trans c))]; exact lkE_b B
theorem lkX_a {n : Nat} {g : Nat → Nat → Int} {x0 x1 : Int} (A : th2 (crV n g) (ixE x1 n) ≠ 0) (B : th2 (crV n g) (ixE x0 n) = 0) : lkX n g x0 x1 = th2 (crV n g) (ixE x1 n) := by
  unfold lkX; rw [if_neg (fun c => A ((lkE_a B).symm.trans c))]; exact lkE_a B
theorem cbV_e {n : Nat} {g h : Nat → Nat → Int} {x : Int} (hn : n ≠ 0) (A : th2 (crV n g) (ixE x n) = 0) : cbV n g 0 h x = 2 := by
  unfold cbV; rw [A, if_neg (fun c => hn c.symm)]; rfl
theorem cbV_b {n m : Nat} {g h : Nat → Nat → Int} {x : Int} (A : th2 (crV n g) (ixE x n) ≠ 0) : cbV n g m h x = th2 (crV n g) (ixE x n) := if_neg A
theorem lwo0_h  : lwo0 := by first | rfl | decide
theorem lwo1_h  : lwo1 := by first | rfl | decide
theorem lwo2_h  : lwo2 := by first | rfl | decide
theorem lwo3_h (x1 : Int)  : lwo3 x1 := ⟨rfl, by omega, (by decide : (12 : Int) ≠ 0)⟩
theorem lwo4_h  : lwo4 := by first | rfl | decide
theorem lwo5_h  : lwo5 := by first | rfl | decide
theorem lwo6_h  : lwo6 := by first | rfl | decide
theorem lwo7_h  : lwo7 := by first | rfl | decide
theorem lwo8_h  : lwo8 := by first | rfl | decide
theorem lwo9_h  : lwo9 := by first | rfl | decide
theorem lwo10_h  : lwo10 := by first | rfl | decide
theorem lwo11_h  : lwo11 := by first | rfl | decide
theorem lwo12_h  : lwo12 := by first | rfl | decide
theorem lwo13_h  : lwo13 := by first | rfl | decide
theorem lwo14_h  : lwo14 := by first | rfl | decide
theorem lwo15_h (x1 : Int)  : lwo15 x1 := beq_iff_eq.2 rfl
theorem lwo16_h (x0 : Int) (x1 : Int)  : lwo16 x0 x1 := beq_iff_eq.2 rfl
theorem lwo17_h (x0 : Int) (x1 : Int)  : lwo17 x0 x1 := beq_iff_eq.2 rfl
theorem lwo18_h (x1 : Int)  : lwo18 x1 := beq_iff_eq.2 rfl
theorem lwo19_h (m : Nat) (M : 24 < m) : lwo19 m := decide_eq_true (by omega)
theorem lwo20_h (m : Nat) (M24 : m ≤ 24) : lwo20 m := decide_eq_false (by omega)
theorem lwo21_h (m : Nat) (m0 : m ≠ 0) (M24 : m ≤ 24) : lwo21 m := ⟨rfl, m0, by omega⟩
theorem lwo22_h (m : Nat) (h : Nat → Nat → Int)  : lwo22 m h := ⟨rfl, ⟨rfl, fun _ _ _ _ => rfl⟩, by omega⟩
theorem lwo23_h (m : Nat) (h : Nat → Nat → Int) (x1 : Int)  : lwo23 m h x1 := beq_iff_eq.2 rfl
theorem lwo24_h (n : Nat) (N : 24 < n) : lwo24 n := decide_eq_true (by omega)
theorem lwo25_h (n : Nat) (N65 : n = 65) : lwo25 n := bne_eq_false_iff_eq.2 (by omega)
theorem lwo26_h (n : Nat) (n0 : n ≠ 0) (nb : n ≤ 65) : lwo26 n := ⟨rfl, n0, by omega⟩
theorem lwo27_h (n : Nat) (g : Nat → Nat → Int) (x1 : Int) (nb : n ≤ 65) (A : th2 (crV n g) (ixE x1 n) = 0) : lwo27 n g x1 := ⟨⟨rfl, fun _ _ _ _ => rfl⟩, by omega, (th2_z A).1, (th2_z A).2⟩
theorem lwo28_h (n : Nat) (g : Nat → Nat → Int) (nb : n ≤ 65) : lwo28 n g := ⟨⟨rfl, fun _ _ _ _ => rfl⟩, by omega⟩
theorem lwo29_h (n : Nat) (g : Nat → Nat → Int) (nb : n ≤ 65) : lwo29 n g := ⟨⟨rfl, fun _ _ _ _ => rfl⟩, rfl, by omega⟩
theorem lwo30_h (n : Nat) (g : Nat → Nat → Int) (x0 : Int) (B : th2 (crV n g) (ixE x0 n) = 0) : lwo30 n g x0 := bne_eq_false_iff_eq.2 B
theorem lwo31_h  : lwo31 := by first | rfl | decide
theorem lwo32_h  : lwo32 := by first | rfl | decide
theorem lwo33_h (n : Nat) (g : Nat → Nat → Int) (x1 : Int) (A : th2 (crV n g) (ixE x1 n) = 0) : lwo33 n g x1 := bne_eq_false_iff_eq.2 A
theorem lwo34_h  : lwo34 := by first | rfl | decide
theorem lwo35_h (n : Nat) (g : Nat → Nat → Int) (x1 : Int) (A : th2 (crV n g) (ixE x1 n) = 0) : lwo35 n g x1 := beq_iff_eq.2 A
theorem lwo36_h (n : Nat) (g : Nat → Nat → Int) (x1 : Int) (nb : n ≤ 65) (A : th2 (crV n g) (ixE x1 n) = 0) : lwo36 n g x1 := ⟨⟨rfl, fun _ _ _ _ => rfl⟩, by omega, (crV_ok (th2_z A).1).2, ixE_ok (th2_z A).2⟩
theorem lwo37_h  : lwo37 := by first | rfl | decide
theorem lwo38_h (n : Nat) (g : Nat → Nat → Int) (x0 : Int) (nb : n ≤ 65) (B : th2 (crV n g) (ixE x0 n) = 0) : lwo38 n g x0 := ⟨⟨rfl, fun _ _ _ _ => rfl⟩, (crV_ok (th2_z B).1).2, ixE_ok (th2_z B).2, by omega⟩
theorem lwo39_h (n : Nat) (g : Nat → Nat → Int) (x0 : Int) (x1 : Int) (F : fallB n g x0 x1 = true) : lwo39 n g x0 x1 := congrArg Bool.not F
theorem lwo40_h (n : Nat) (g : Nat → Nat → Int)  : lwo40 n g := beq_iff_eq.2 rfl
theorem lwo41_h (n : Nat) (g : Nat → Nat → Int) (x1 : Int) (nb : n ≤ 65) : lwo41 n g x1 := ⟨⟨rfl, fun _ _ _ _ => rfl⟩, ⟨rfl, fun _ _ _ _ => rfl⟩, by have := cntF_le (basQ n g x1) n; show ((basN n g x1 : Nat) : Int) ≤ _; unfold basN; omega⟩
theorem lwo42_h (n : Nat) (g : Nat → Nat → Int) (x1 : Int)  : lwo42 n g x1 := decide_eq_true ⟨rfl, fun _ _ => rfl⟩
theorem lwo43_h (n : Nat) (g : Nat → Nat → Int) (x1 : Int) (A : th2 (crV n g) (ixE x1 n) = 0) : lwo43 n g x1 := beq_iff_eq.2 A.symm
theorem lwo44_h (n : Nat) (g : Nat → Nat → Int) (x0 : Int) (x1 : Int) (A : th2 (crV n g) (ixE x1 n) = 0) (B : th2 (crV n g) (ixE x0 n) = 0) : lwo44 n g x0 x1 := beq_iff_eq.2 (lkC_f A B)
theorem lwo45_h (n : Nat) (g : Nat → Nat → Int) (x0 : Int) (x1 : Int) (A : th2 (crV n g) (ixE x1 n) = 0) (B : th2 (crV n g) (ixE x0 n) = 0) (F : fallB n g x0 x1 = true) : lwo45 n g x0 x1 := beq_iff_eq.2 (lkX_t A B F)
theorem lwo46_h (n : Nat) (n0 : n ≠ 0) : lwo46 n := bne_iff_ne.2 (by omega)
theorem lwo47_h (n : Nat) (g : Nat → Nat → Int) (x1 : Int) (n0 : n ≠ 0) (A : th2 (crV n g) (ixE x1 n) = 0) : lwo47 n g x1 := beq_iff_eq.2 (cbV_e n0 A)
theorem lwo48_h (n : Nat) (g : Nat → Nat → Int) (x0 : Int) (x1 : Int) (F1 : fallB n g x0 x1 = false) : lwo48 n g x0 x1 := congrArg Bool.not F1
theorem lwo49_h (n : Nat) (g : Nat → Nat → Int) (x0 : Int) (x1 : Int) (A : th2 (crV n g) (ixE x1 n) = 0) (B : th2 (crV n g) (ixE x0 n) = 0) (F1 : fallB n g x0 x1 = false) : lwo49 n g x0 x1 := beq_iff_eq.2 (lkX_n A B F1)
theorem lwo50_h (n : Nat) (g : Nat → Nat → Int) (x0 : Int) (B1 : th2 (crV n g) (ixE x0 n) ≠ 0) : lwo50 n g x0 := bne_iff_ne.2 B1
theorem lwo51_h (n : Nat) (g : Nat → Nat → Int) (x0 : Int) (B1 : th2 (crV n g) (ixE x0 n) ≠ 0) : lwo51 n g x0 := beq_eq_false_iff_ne.2 B1
theorem lwo52_h (n : Nat) (g : Nat → Nat → Int) (x0 : Int) (x1 : Int) (L : lkE n g x0 x1 ≠ 0) : lwo52 n g x0 x1 := beq_iff_eq.2 (if_neg L)
theorem lwo53_h (n : Nat) (g : Nat → Nat → Int) (x0 : Int) (x1 : Int) (B1 : th2 (crV n g) (ixE x0 n) ≠ 0) : lwo53 n g x0 x1 := beq_iff_eq.2 (lkX_b B1)
theorem lwo54_h (n : Nat) (g : Nat → Nat → Int) (x1 : Int) (nb : n ≤ 65) (A1 : th2 (crV n g) (ixE x1 n) ≠ 0) : lwo54 n g x1 := ⟨⟨rfl, fun _ _ _ _ => rfl⟩, by omega, A1⟩
theorem lwo55_h (n : Nat) (g : Nat → Nat → Int) (x1 : Int) (A1 : th2 (crV n g) (ixE x1 n) ≠ 0) : lwo55 n g x1 := bne_iff_ne.2 A1
theorem lwo56_h (n : Nat) (g : Nat → Nat → Int) (x1 : Int) (A1 : th2 (crV n g) (ixE x1 n) ≠ 0) : lwo56 n g x1 := beq_eq_false_iff_ne.2 A1
theorem lwo57_h (n : Nat) (g : Nat → Nat → Int) (x1 : Int)  : lwo57 n g x1 := beq_iff_eq.2 rfl
theorem lwo58_h (n : Nat) (g : Nat → Nat → Int) (x0 : Int) (x1 : Int) (A1 : th2 (crV n g) (ixE x1 n) ≠ 0) (B : th2 (crV n g) (ixE x0 n) = 0) : lwo58 n g x0 x1 := beq_iff_eq.2 (lkX_a A1 B)
theorem lwo59_h (n : Nat) (g : Nat → Nat → Int) (x1 : Int) (A1 : th2 (crV n g) (ixE x1 n) ≠ 0) : lwo59 n g x1 := beq_iff_eq.2 (cbV_b A1)
theorem lwo60_h (n : Nat) (Nx : n ≠ 65) : lwo60 n := bne_iff_ne.2 (by omega)
theorem lwo61_h (n : Nat) (N24 : n ≤ 24) : lwo61 n := decide_eq_false (by omega)
theorem lwo62_h (n : Nat) (m : Nat) (g : Nat → Nat → Int) (h : Nat → Nat → Int) (nb : n ≤ 65) : lwo62 n m g h := ⟨⟨rfl, fun _ _ _ _ => rfl⟩, ⟨rfl, fun _ _ _ _ => rfl⟩, by omega⟩
theorem lwo63_h (n : Nat) (m : Nat) (g : Nat → Nat → Int) (h : Nat → Nat → Int) (x1 : Int)  : lwo63 n m g h x1 := beq_iff_eq.2 rfl
theorem lw0_p (x0 : Int) (x1 : Int)  : ∃ s1 R, SndF Tryz.prog 8 #[.slice none 0 0, .agg #[.int .i64 x0, .int .i64 x1], .slice none 0 0] ((aw3S0.push (.hole)).push (.hole)) (.bool true) s1 R 0 :=
  sndY (r := lw0 x0 x1) (by delta lw0; exact Eq.refl _) smx lwK_ok (lw0_g x0 x1) ((lw0_o x0 x1).symm ▸ ⟨⟨⟨⟨⟨⟨⟨⟨⟨⟨⟨⟨⟨⟨⟨⟨⟨⟨⟨⟨⟨⟨⟨⟨⟨⟨⟨⟨⟨⟨⟨⟨⟨⟨⟨⟨⟨⟨⟨⟨⟨⟨⟨⟨⟨⟨⟨⟨⟨⟨⟨⟨⟨⟨⟨⟨⟨⟨⟨⟨⟨⟨trivial, lwo0_h⟩, lwo0_h⟩, lwo0_h⟩, lwo0_h⟩, lwo1_h⟩, lwo1_h⟩, lwo1_h⟩, lwo1_h⟩, lwo0_h⟩, lwo2_h⟩, (lwo3_h x1)⟩, lwo4_h⟩, lwo2_h⟩, lwo5_h⟩, lwo2_h⟩, lwo6_h⟩, lwo2_h⟩, lwo7_h⟩, lwo8_h⟩, lwo4_h⟩, lwo7_h⟩, lwo8_h⟩, lwo9_h⟩, lwo4_h⟩, lwo8_h⟩, lwo4_h⟩, lwo10_h⟩, lwo10_h⟩, lwo5_h⟩, lwo7_h⟩, lwo11_h⟩, lwo11_h⟩, lwo11_h⟩, lwo12_h⟩, lwo13_h⟩, lwo11_h⟩, lwo14_h⟩, lwo14_h⟩, lwo14_h⟩, lwo14_h⟩, (lwo15_h x1)⟩, (lwo15_h x1)⟩, (lwo15_h x1)⟩, (lwo15_h x1)⟩, (lwo16_h x0 x1)⟩, (lwo16_h x0 x1)⟩, (lwo16_h x0 x1)⟩, (lwo16_h x0 x1)⟩, (lwo17_h x0 x1)⟩, (lwo17_h x0 x1)⟩, (lwo17_h x0 x1)⟩, lwo2_h⟩, (lwo17_h x0 x1)⟩, (lwo17_h x0 x1)⟩, (lwo17_h x0 x1)⟩, lwo7_h⟩, lwo8_h⟩, lwo8_h⟩, (lwo17_h x0 x1)⟩, (lwo17_h x0 x1)⟩, (lwo18_h x1)⟩, (lwo18_h x1)⟩)
theorem lw1_p (c2 : Nat) (x0 : Int) (x1 : Int)  : ∃ s1 R, SndF Tryz.prog 8 #[.slice none 0 0, .agg #[.int .i64 x0, .int .i64 x1], .slice (some ⟨7, 0, none⟩) 0 c2] ((aw3S0.push (.hole)).push (.hole)) (.bool true) s1 R 0 :=
  sndY (r := lw1 c2 x0 x1) (by delta lw1; exact Eq.refl _) smx lwK_ok (lw1_g c2 x0 x1) ((lw1_o c2 x0 x1).symm ▸ ⟨⟨⟨⟨⟨⟨⟨⟨⟨⟨⟨⟨⟨⟨⟨⟨⟨⟨⟨⟨⟨⟨⟨⟨⟨⟨⟨⟨⟨⟨⟨⟨⟨⟨⟨⟨⟨⟨⟨⟨⟨⟨⟨⟨⟨⟨⟨⟨⟨⟨⟨⟨⟨⟨⟨⟨⟨⟨⟨⟨⟨⟨trivial, lwo0_h⟩, lwo0_h⟩, lwo0_h⟩, lwo0_h⟩, lwo1_h⟩, lwo1_h⟩, lwo1_h⟩, lwo1_h⟩, lwo0_h⟩, lwo2_h⟩, (lwo3_h x1)⟩, lwo4_h⟩, lwo2_h⟩, lwo5_h⟩, lwo2_h⟩, lwo6_h⟩, lwo2_h⟩, lwo7_h⟩, lwo8_h⟩, lwo4_h⟩, lwo7_h⟩, lwo8_h⟩, lwo9_h⟩, lwo4_h⟩, lwo8_h⟩, lwo4_h⟩, lwo10_h⟩, lwo10_h⟩, lwo5_h⟩, lwo7_h⟩, lwo11_h⟩, lwo11_h⟩, lwo11_h⟩, lwo12_h⟩, lwo13_h⟩, lwo11_h⟩, lwo14_h⟩, lwo14_h⟩, lwo14_h⟩, lwo14_h⟩, (lwo15_h x1)⟩, (lwo15_h x1)⟩, (lwo15_h x1)⟩, (lwo15_h x1)⟩, (lwo16_h x0 x1)⟩, (lwo16_h x0 x1)⟩, (lwo16_h x0 x1)⟩, (lwo16_h x0 x1)⟩, (lwo17_h x0 x1)⟩, (lwo17_h x0 x1)⟩, (lwo17_h x0 x1)⟩, lwo2_h⟩, (lwo17_h x0 x1)⟩, (lwo17_h x0 x1)⟩, (lwo17_h x0 x1)⟩, lwo7_h⟩, lwo8_h⟩, lwo8_h⟩, (lwo17_h x0 x1)⟩, (lwo17_h x0 x1)⟩, (lwo18_h x1)⟩, (lwo18_h x1)⟩)
theorem lw2_p (m : Nat) (c2 : Nat) (h : Nat → Nat → Int) (x0 : Int) (x1 : Int) (M : 24 < m) : ∃ s1 R, SndF Tryz.prog 8 #[.slice none 0 0, .agg #[.int .i64 x0, .int .i64 x1], .slice (some ⟨7, 0, none⟩) m c2] ((aw3S0.push (.hole)).push (.rows m 1 (fun i j => .int .i64 (h i j)) 0 true 0 true)) (.bool true) s1 R 0 :=
  sndY (r := lw2 m c2 h x0 x1) (by delta lw2; exact Eq.refl _) smx lwK_ok (lw2_g m c2 h x0 x1) ((lw2_o m c2 h x0 x1).symm ▸ ⟨⟨⟨⟨⟨⟨⟨⟨⟨trivial, lwo0_h⟩, lwo0_h⟩, lwo0_h⟩, lwo0_h⟩, lwo1_h⟩, lwo1_h⟩, lwo1_h⟩, lwo1_h⟩, (lwo19_h m M)⟩)
theorem lw3_p (m : Nat) (c2 : Nat) (h : Nat → Nat → Int) (x0 : Int) (x1 : Int) (M24 : m ≤ 24) (m0 : m ≠ 0) : ∃ s1 R, SndF Tryz.prog 8 #[.slice none 0 0, .agg #[.int .i64 x0, .int .i64 x1], .slice (some ⟨7, 0, none⟩) m c2] ((aw3S0.push (.hole)).push (.rows m 1 (fun i j => .int .i64 (h i j)) 0 true 0 true)) (.bool true) s1 R 0 :=
  sndY (r := lw3 m c2 h x0 x1) (by delta lw3; exact Eq.refl _) smx lwK_ok (lw3_g m c2 h x0 x1) ((lw3_o m c2 h x0 x1).symm ▸ ⟨⟨⟨⟨⟨⟨⟨⟨⟨⟨⟨⟨⟨⟨⟨⟨⟨⟨⟨⟨⟨⟨⟨⟨⟨⟨⟨⟨⟨⟨⟨⟨⟨⟨⟨⟨⟨⟨⟨⟨⟨⟨⟨⟨⟨⟨⟨⟨⟨⟨⟨⟨⟨⟨⟨⟨⟨⟨⟨⟨⟨⟨⟨trivial, lwo0_h⟩, lwo0_h⟩, lwo0_h⟩, lwo0_h⟩, lwo1_h⟩, lwo1_h⟩, lwo1_h⟩, lwo1_h⟩, (lwo20_h m M24)⟩, lwo2_h⟩, (lwo3_h x1)⟩, lwo4_h⟩, lwo2_h⟩, lwo5_h⟩, lwo2_h⟩, (lwo21_h m m0 M24)⟩, (lwo22_h m h)⟩, lwo2_h⟩, lwo7_h⟩, lwo8_h⟩, lwo4_h⟩, lwo7_h⟩, lwo8_h⟩, lwo9_h⟩, lwo4_h⟩, lwo8_h⟩, lwo4_h⟩, lwo10_h⟩, lwo10_h⟩, lwo5_h⟩, lwo7_h⟩, lwo11_h⟩, lwo11_h⟩, lwo11_h⟩, lwo12_h⟩, lwo13_h⟩, lwo11_h⟩, lwo14_h⟩, lwo14_h⟩, lwo14_h⟩, lwo14_h⟩, (lwo15_h x1)⟩, (lwo15_h x1)⟩, (lwo15_h x1)⟩, (lwo15_h x1)⟩, (lwo16_h x0 x1)⟩, (lwo16_h x0 x1)⟩, (lwo16_h x0 x1)⟩, (lwo16_h x0 x1)⟩, (lwo17_h x0 x1)⟩, (lwo17_h x0 x1)⟩, (lwo17_h x0 x1)⟩, lwo2_h⟩, (lwo17_h x0 x1)⟩, (lwo17_h x0 x1)⟩, (lwo17_h x0 x1)⟩, lwo7_h⟩, lwo8_h⟩, lwo8_h⟩, (lwo17_h x0 x1)⟩, (lwo17_h x0 x1)⟩, (lwo23_h m h x1)⟩, (lwo23_h m h x1)⟩)
theorem lw4_p (c : Nat) (x0 : Int) (x1 : Int)  : ∃ s1 R, SndF Tryz.prog 8 #[.slice (some ⟨6, 0, none⟩) 0 c, .agg #[.int .i64 x0, .int .i64 x1], .slice none 0 0] ((aw3S0.push (.hole)).push (.hole)) (.bool true) s1 R 0 :=
  sndY (r := lw4 c x0 x1) (by delta lw4; exact Eq.refl _) smx lwK_ok (lw4_g c x0 x1) ((lw4_o c x0 x1).symm ▸ ⟨⟨⟨⟨⟨⟨⟨⟨⟨⟨⟨⟨⟨⟨⟨⟨⟨⟨⟨⟨⟨⟨⟨⟨⟨⟨⟨⟨⟨⟨⟨⟨⟨⟨⟨⟨⟨⟨⟨⟨⟨⟨⟨⟨⟨⟨⟨⟨⟨⟨⟨⟨⟨⟨⟨⟨⟨⟨⟨⟨⟨⟨trivial, lwo0_h⟩, lwo0_h⟩, lwo0_h⟩, lwo0_h⟩, lwo1_h⟩, lwo1_h⟩, lwo1_h⟩, lwo1_h⟩, lwo0_h⟩, lwo2_h⟩, (lwo3_h x1)⟩, lwo4_h⟩, lwo2_h⟩, lwo5_h⟩, lwo2_h⟩, lwo6_h⟩, lwo2_h⟩, lwo7_h⟩, lwo8_h⟩, lwo4_h⟩, lwo7_h⟩, lwo8_h⟩, lwo9_h⟩, lwo4_h⟩, lwo8_h⟩, lwo4_h⟩, lwo10_h⟩, lwo10_h⟩, lwo5_h⟩, lwo7_h⟩, lwo11_h⟩, lwo11_h⟩, lwo11_h⟩, lwo12_h⟩, lwo13_h⟩, lwo11_h⟩, lwo14_h⟩, lwo14_h⟩, lwo14_h⟩, lwo14_h⟩, (lwo15_h x1)⟩, (lwo15_h x1)⟩, (lwo15_h x1)⟩, (lwo15_h x1)⟩, (lwo16_h x0 x1)⟩, (lwo16_h x0 x1)⟩, (lwo16_h x0 x1)⟩, (lwo16_h x0 x1)⟩, (lwo17_h x0 x1)⟩, (lwo17_h x0 x1)⟩, (lwo17_h x0 x1)⟩, lwo2_h⟩, (lwo17_h x0 x1)⟩, (lwo17_h x0 x1)⟩, (lwo17_h x0 x1)⟩, lwo7_h⟩, lwo8_h⟩, lwo8_h⟩, (lwo17_h x0 x1)⟩, (lwo17_h x0 x1)⟩, (lwo18_h x1)⟩, (lwo18_h x1)⟩)
theorem lw5_p (c : Nat) (c2 : Nat) (x0 : Int) (x1 : Int)  : ∃ s1 R, SndF Tryz.prog 8 #[.slice (some ⟨6, 0, none⟩) 0 c, .agg #[.int .i64 x0, .int .i64 x1], .slice (some ⟨7, 0, none⟩) 0 c2] ((aw3S0.push (.hole)).push (.hole)) (.bool true) s1 R 0 :=
  sndY (r := lw5 c c2 x0 x1) (by delta lw5; exact Eq.refl _) smx lwK_ok (lw5_g c c2 x0 x1) ((lw5_o c c2 x0 x1).symm ▸ ⟨⟨⟨⟨⟨⟨⟨⟨⟨⟨⟨⟨⟨⟨⟨⟨⟨⟨⟨⟨⟨⟨⟨⟨⟨⟨⟨⟨⟨⟨⟨⟨⟨⟨⟨⟨⟨⟨⟨⟨⟨⟨⟨⟨⟨⟨⟨⟨⟨⟨⟨⟨⟨⟨⟨⟨⟨⟨⟨⟨⟨⟨trivial, lwo0_h⟩, lwo0_h⟩, lwo0_h⟩, lwo0_h⟩, lwo1_h⟩, lwo1_h⟩, lwo1_h⟩, lwo1_h⟩, lwo0_h⟩, lwo2_h⟩, (lwo3_h x1)⟩, lwo4_h⟩, lwo2_h⟩, lwo5_h⟩, lwo2_h⟩, lwo6_h⟩, lwo2_h⟩, lwo7_h⟩, lwo8_h⟩, lwo4_h⟩, lwo7_h⟩, lwo8_h⟩, lwo9_h⟩, lwo4_h⟩, lwo8_h⟩, lwo4_h⟩, lwo10_h⟩, lwo10_h⟩, lwo5_h⟩, lwo7_h⟩, lwo11_h⟩, lwo11_h⟩, lwo11_h⟩, lwo12_h⟩, lwo13_h⟩, lwo11_h⟩, lwo14_h⟩, lwo14_h⟩, lwo14_h⟩, lwo14_h⟩, (lwo15_h x1)⟩, (lwo15_h x1)⟩, (lwo15_h x1)⟩, (lwo15_h x1)⟩, (lwo16_h x0 x1)⟩, (lwo16_h x0 x1)⟩, (lwo16_h x0 x1)⟩, (lwo16_h x0 x1)⟩, (lwo17_h x0 x1)⟩, (lwo17_h x0 x1)⟩, (lwo17_h x0 x1)⟩, lwo2_h⟩, (lwo17_h x0 x1)⟩, (lwo17_h x0 x1)⟩, (lwo17_h x0 x1)⟩, lwo7_h⟩, lwo8_h⟩, lwo8_h⟩, (lwo17_h x0 x1)⟩, (lwo17_h x0 x1)⟩, (lwo18_h x1)⟩, (lwo18_h x1)⟩)
theorem lw6_p (c : Nat) (m : Nat) (c2 : Nat) (h : Nat → Nat → Int) (x0 : Int) (x1 : Int) (M : 24 < m) : ∃ s1 R, SndF Tryz.prog 8 #[.slice (some ⟨6, 0, none⟩) 0 c, .agg #[.int .i64 x0, .int .i64 x1], .slice (some ⟨7, 0, none⟩) m c2] ((aw3S0.push (.hole)).push (.rows m 1 (fun i j => .int .i64 (h i j)) 0 true 0 true)) (.bool true) s1 R 0 :=
  sndY (r := lw6 c m c2 h x0 x1) (by delta lw6; exact Eq.refl _) smx lwK_ok (lw6_g c m c2 h x0 x1) ((lw6_o c m c2 h x0 x1).symm ▸ ⟨⟨⟨⟨⟨⟨⟨⟨⟨trivial, lwo0_h⟩, lwo0_h⟩, lwo0_h⟩, lwo0_h⟩, lwo1_h⟩, lwo1_h⟩, lwo1_h⟩, lwo1_h⟩, (lwo19_h m M)⟩)
theorem lw7_p (c : Nat) (m : Nat) (c2 : Nat) (h : Nat → Nat → Int) (x0 : Int) (x1 : Int) (M24 : m ≤ 24) (m0 : m ≠ 0) : ∃ s1 R, SndF Tryz.prog 8 #[.slice (some ⟨6, 0, none⟩) 0 c, .agg #[.int .i64 x0, .int .i64 x1], .slice (some ⟨7, 0, none⟩) m c2] ((aw3S0.push (.hole)).push (.rows m 1 (fun i j => .int .i64 (h i j)) 0 true 0 true)) (.bool true) s1 R 0 :=
  sndY (r := lw7 c m c2 h x0 x1) (by delta lw7; exact Eq.refl _) smx lwK_ok (lw7_g c m c2 h x0 x1) ((lw7_o c m c2 h x0 x1).symm ▸ ⟨⟨⟨⟨⟨⟨⟨⟨⟨⟨⟨⟨⟨⟨⟨⟨⟨⟨⟨⟨⟨⟨⟨⟨⟨⟨⟨⟨⟨⟨⟨⟨⟨⟨⟨⟨⟨⟨⟨⟨⟨⟨⟨⟨⟨⟨⟨⟨⟨⟨⟨⟨⟨⟨⟨⟨⟨⟨⟨⟨⟨⟨⟨trivial, lwo0_h⟩, lwo0_h⟩, lwo0_h⟩, lwo0_h⟩, lwo1_h⟩, lwo1_h⟩, lwo1_h⟩, lwo1_h⟩, (lwo20_h m M24)⟩, lwo2_h⟩, (lwo3_h x1)⟩, lwo4_h⟩, lwo2_h⟩, lwo5_h⟩, lwo2_h⟩, (lwo21_h m m0 M24)⟩, (lwo22_h m h)⟩, lwo2_h⟩, lwo7_h⟩, lwo8_h⟩, lwo4_h⟩, lwo7_h⟩, lwo8_h⟩, lwo9_h⟩, lwo4_h⟩, lwo8_h⟩, lwo4_h⟩, lwo10_h⟩, lwo10_h⟩, lwo5_h⟩, lwo7_h⟩, lwo11_h⟩, lwo11_h⟩, lwo11_h⟩, lwo12_h⟩, lwo13_h⟩, lwo11_h⟩, lwo14_h⟩, lwo14_h⟩, lwo14_h⟩, lwo14_h⟩, (lwo15_h x1)⟩, (lwo15_h x1)⟩, (lwo15_h x1)⟩, (lwo15_h x1)⟩, (lwo16_h x0 x1)⟩, (lwo16_h x0 x1)⟩, (lwo16_h x0 x1)⟩, (lwo16_h x0 x1)⟩, (lwo17_h x0 x1)⟩, (lwo17_h x0 x1)⟩, (lwo17_h x0 x1)⟩, lwo2_h⟩, (lwo17_h x0 x1)⟩, (lwo17_h x0 x1)⟩, (lwo17_h x0 x1)⟩, lwo7_h⟩, lwo8_h⟩, lwo8_h⟩, (lwo17_h x0 x1)⟩, (lwo17_h x0 x1)⟩, (lwo23_h m h x1)⟩, (lwo23_h m h x1)⟩)
theorem lw8_p (n : Nat) (c : Nat) (g : Nat → Nat → Int) (x0 : Int) (x1 : Int) (N : 24 < n) (N65 : n = 65) (n0 : n ≠ 0) (nb : n ≤ 65) (A : th2 (crV n g) (ixE x1 n) = 0) (B : th2 (crV n g) (ixE x0 n) = 0) (F : fallB n g x0 x1 = true) : ∃ s1 R, SndF Tryz.prog 8 #[.slice (some ⟨6, 0, none⟩) n c, .agg #[.int .i64 x0, .int .i64 x1], .slice none 0 0] ((aw3S0.push (.rows n 1 (fun i j => .int .i64 (g i j)) 0 true 0 true)).push (.hole)) (.bool true) s1 R 0 :=
  sndY (r := lw8 n c g x0 x1) (by delta lw8; exact Eq.refl _) smx lwK_ok (lw8_g n c g x0 x1) ((lw8_o n c g x0 x1).symm ▸ ⟨⟨⟨⟨⟨⟨⟨⟨⟨⟨⟨⟨⟨⟨⟨⟨⟨⟨⟨⟨⟨⟨⟨⟨⟨⟨⟨⟨⟨⟨⟨⟨⟨⟨⟨⟨⟨⟨⟨⟨⟨⟨⟨⟨⟨⟨⟨⟨⟨⟨⟨⟨⟨⟨⟨⟨⟨⟨⟨⟨⟨⟨⟨⟨⟨⟨⟨⟨⟨⟨⟨⟨trivial, (lwo24_h n N)⟩, (lwo24_h n N)⟩, (lwo24_h n N)⟩, (lwo24_h n N)⟩, (lwo25_h n N65)⟩, (lwo25_h n N65)⟩, (lwo25_h n N65)⟩, (lwo25_h n N65)⟩, lwo0_h⟩, (lwo26_h n n0 nb)⟩, lwo2_h⟩, (lwo27_h n g x1 nb A)⟩, (lwo26_h n n0 nb)⟩, lwo4_h⟩, lwo2_h⟩, (lwo28_h n g nb)⟩, (lwo26_h n n0 nb)⟩, lwo2_h⟩, (lwo29_h n g nb)⟩, lwo2_h⟩, (lwo28_h n g nb)⟩, lwo4_h⟩, (lwo28_h n g nb)⟩, lwo9_h⟩, lwo4_h⟩, (lwo30_h n g x0 B)⟩, lwo31_h⟩, lwo32_h⟩, (lwo33_h n g x1 A)⟩, lwo34_h⟩, (lwo35_h n g x1 A)⟩, lwo2_h⟩, (lwo36_h n g x1 nb A)⟩, lwo37_h⟩, lwo4_h⟩, lwo2_h⟩, (lwo38_h n g x0 nb B)⟩, (lwo39_h n g x0 x1 F)⟩, (lwo26_h n n0 nb)⟩, (lwo28_h n g nb)⟩, (lwo28_h n g nb)⟩, (lwo40_h n g)⟩, (lwo40_h n g)⟩, (lwo40_h n g)⟩, (lwo41_h n g x1 nb)⟩, (lwo40_h n g)⟩, (lwo42_h n g x1)⟩, (lwo42_h n g x1)⟩, (lwo42_h n g x1)⟩, (lwo42_h n g x1)⟩, (lwo43_h n g x1 A)⟩, (lwo43_h n g x1 A)⟩, (lwo43_h n g x1 A)⟩, (lwo43_h n g x1 A)⟩, (lwo44_h n g x0 x1 A B)⟩, (lwo44_h n g x0 x1 A B)⟩, (lwo44_h n g x0 x1 A B)⟩, (lwo44_h n g x0 x1 A B)⟩, (lwo45_h n g x0 x1 A B F)⟩, (lwo45_h n g x0 x1 A B F)⟩, (lwo45_h n g x0 x1 A B F)⟩, lwo2_h⟩, (lwo45_h n g x0 x1 A B F)⟩, (lwo45_h n g x0 x1 A B F)⟩, (lwo45_h n g x0 x1 A B F)⟩, (lwo28_h n g nb)⟩, (lwo33_h n g x1 A)⟩, (lwo46_h n n0)⟩, (lwo45_h n g x0 x1 A B F)⟩, (lwo45_h n g x0 x1 A B F)⟩, (lwo47_h n g x1 n0 A)⟩, (lwo47_h n g x1 n0 A)⟩)
theorem lw9_p (n : Nat) (c : Nat) (g : Nat → Nat → Int) (x0 : Int) (x1 : Int) (N : 24 < n) (N65 : n = 65) (n0 : n ≠ 0) (nb : n ≤ 65) (A : th2 (crV n g) (ixE x1 n) = 0) (B : th2 (crV n g) (ixE x0 n) = 0) (F1 : fallB n g x0 x1 = false) : ∃ s1 R, SndF Tryz.prog 8 #[.slice (some ⟨6, 0, none⟩) n c, .agg #[.int .i64 x0, .int .i64 x1], .slice none 0 0] ((aw3S0.push (.rows n 1 (fun i j => .int .i64 (g i j)) 0 true 0 true)).push (.hole)) (.bool true) s1 R 0 :=
  sndY (r := lw9 n c g x0 x1) (by delta lw9; exact Eq.refl _) smx lwK_ok (lw9_g n c g x0 x1) ((lw9_o n c g x0 x1).symm ▸ ⟨⟨⟨⟨⟨⟨⟨⟨⟨⟨⟨⟨⟨⟨⟨⟨⟨⟨⟨⟨⟨⟨⟨⟨⟨⟨⟨⟨⟨⟨⟨⟨⟨⟨⟨⟨⟨⟨⟨⟨⟨⟨⟨⟨⟨⟨⟨⟨⟨⟨⟨⟨⟨⟨⟨⟨⟨⟨⟨⟨⟨⟨⟨⟨⟨⟨⟨⟨⟨⟨⟨⟨trivial, (lwo24_h n N)⟩, (lwo24_h n N)⟩, (lwo24_h n N)⟩, (lwo24_h n N)⟩, (lwo25_h n N65)⟩, (lwo25_h n N65)⟩, (lwo25_h n N65)⟩, (lwo25_h n N65)⟩, lwo0_h⟩, (lwo26_h n n0 nb)⟩, lwo2_h⟩, (lwo27_h n g x1 nb A)⟩, (lwo26_h n n0 nb)⟩, lwo4_h⟩, lwo2_h⟩, (lwo28_h n g nb)⟩, (lwo26_h n n0 nb)⟩, lwo2_h⟩, (lwo29_h n g nb)⟩, lwo2_h⟩, (lwo28_h n g nb)⟩, lwo4_h⟩, (lwo28_h n g nb)⟩, lwo9_h⟩, lwo4_h⟩, (lwo30_h n g x0 B)⟩, lwo31_h⟩, lwo32_h⟩, (lwo33_h n g x1 A)⟩, lwo34_h⟩, (lwo35_h n g x1 A)⟩, lwo2_h⟩, (lwo36_h n g x1 nb A)⟩, lwo37_h⟩, lwo4_h⟩, lwo2_h⟩, (lwo38_h n g x0 nb B)⟩, (lwo48_h n g x0 x1 F1)⟩, (lwo26_h n n0 nb)⟩, (lwo28_h n g nb)⟩, (lwo28_h n g nb)⟩, (lwo40_h n g)⟩, (lwo40_h n g)⟩, (lwo40_h n g)⟩, (lwo41_h n g x1 nb)⟩, (lwo40_h n g)⟩, (lwo42_h n g x1)⟩, (lwo42_h n g x1)⟩, (lwo42_h n g x1)⟩, (lwo42_h n g x1)⟩, (lwo43_h n g x1 A)⟩, (lwo43_h n g x1 A)⟩, (lwo43_h n g x1 A)⟩, (lwo43_h n g x1 A)⟩, (lwo44_h n g x0 x1 A B)⟩, (lwo44_h n g x0 x1 A B)⟩, (lwo44_h n g x0 x1 A B)⟩, (lwo44_h n g x0 x1 A B)⟩, (lwo49_h n g x0 x1 A B F1)⟩, (lwo49_h n g x0 x1 A B F1)⟩, (lwo49_h n g x0 x1 A B F1)⟩, lwo2_h⟩, (lwo49_h n g x0 x1 A B F1)⟩, (lwo49_h n g x0 x1 A B F1)⟩, (lwo49_h n g x0 x1 A B F1)⟩, (lwo28_h n g nb)⟩, (lwo33_h n g x1 A)⟩, (lwo46_h n n0)⟩, (lwo49_h n g x0 x1 A B F1)⟩, (lwo49_h n g x0 x1 A B F1)⟩, (lwo47_h n g x1 n0 A)⟩, (lwo47_h n g x1 n0 A)⟩)
theorem lw10_p (n : Nat) (c : Nat) (g : Nat → Nat → Int) (x0 : Int) (x1 : Int) (N : 24 < n) (N65 : n = 65) (n0 : n ≠ 0) (nb : n ≤ 65) (A : th2 (crV n g) (ixE x1 n) = 0) (B1 : th2 (crV n g) (ixE x0 n) ≠ 0) (L : lkE n g x0 x1 ≠ 0) : ∃ s1 R, SndF Tryz.prog 8 #[.slice (some ⟨6, 0, none⟩) n c, .agg #[.int .i64 x0, .int .i64 x1], .slice none 0 0] ((aw3S0.push (.rows n 1 (fun i j => .int .i64 (g i j)) 0 true 0 true)).push (.hole)) (.bool true) s1 R 0 :=
  sndY (r := lw10 n c g x0 x1) (by delta lw10; exact Eq.refl _) smx lwK_ok (lw10_g n c g x0 x1) ((lw10_o n c g x0 x1).symm ▸ ⟨⟨⟨⟨⟨⟨⟨⟨⟨⟨⟨⟨⟨⟨⟨⟨⟨⟨⟨⟨⟨⟨⟨⟨⟨⟨⟨⟨⟨⟨⟨⟨⟨⟨⟨⟨⟨⟨⟨⟨⟨⟨⟨⟨⟨⟨⟨⟨⟨⟨⟨⟨⟨⟨⟨⟨⟨⟨⟨⟨⟨⟨⟨⟨⟨trivial, (lwo24_h n N)⟩, (lwo24_h n N)⟩, (lwo24_h n N)⟩, (lwo24_h n N)⟩, (lwo25_h n N65)⟩, (lwo25_h n N65)⟩, (lwo25_h n N65)⟩, (lwo25_h n N65)⟩, lwo0_h⟩, (lwo26_h n n0 nb)⟩, lwo2_h⟩, (lwo27_h n g x1 nb A)⟩, (lwo26_h n n0 nb)⟩, lwo4_h⟩, lwo2_h⟩, (lwo28_h n g nb)⟩, (lwo26_h n n0 nb)⟩, lwo2_h⟩, (lwo29_h n g nb)⟩, lwo2_h⟩, (lwo28_h n g nb)⟩, lwo4_h⟩, (lwo28_h n g nb)⟩, lwo9_h⟩, lwo4_h⟩, (lwo50_h n g x0 B1)⟩, lwo4_h⟩, (lwo35_h n g x1 A)⟩, lwo2_h⟩, (lwo36_h n g x1 nb A)⟩, (lwo51_h n g x0 B1)⟩, (lwo26_h n n0 nb)⟩, (lwo28_h n g nb)⟩, (lwo28_h n g nb)⟩, (lwo40_h n g)⟩, (lwo40_h n g)⟩, (lwo40_h n g)⟩, (lwo41_h n g x1 nb)⟩, (lwo40_h n g)⟩, (lwo42_h n g x1)⟩, (lwo42_h n g x1)⟩, (lwo42_h n g x1)⟩, (lwo42_h n g x1)⟩, (lwo43_h n g x1 A)⟩, (lwo43_h n g x1 A)⟩, (lwo43_h n g x1 A)⟩, (lwo43_h n g x1 A)⟩, (lwo52_h n g x0 x1 L)⟩, (lwo52_h n g x0 x1 L)⟩, (lwo52_h n g x0 x1 L)⟩, (lwo52_h n g x0 x1 L)⟩, (lwo53_h n g x0 x1 B1)⟩, (lwo53_h n g x0 x1 B1)⟩, (lwo53_h n g x0 x1 B1)⟩, lwo2_h⟩, (lwo53_h n g x0 x1 B1)⟩, (lwo53_h n g x0 x1 B1)⟩, (lwo53_h n g x0 x1 B1)⟩, (lwo28_h n g nb)⟩, (lwo33_h n g x1 A)⟩, (lwo46_h n n0)⟩, (lwo53_h n g x0 x1 B1)⟩, (lwo53_h n g x0 x1 B1)⟩, (lwo47_h n g x1 n0 A)⟩, (lwo47_h n g x1 n0 A)⟩)
theorem lw11_p (n : Nat) (c : Nat) (g : Nat → Nat → Int) (x0 : Int) (x1 : Int) (N : 24 < n) (N65 : n = 65) (n0 : n ≠ 0) (nb : n ≤ 65) (A1 : th2 (crV n g) (ixE x1 n) ≠ 0) (B : th2 (crV n g) (ixE x0 n) = 0) (L : lkE n g x0 x1 ≠ 0) : ∃ s1 R, SndF Tryz.prog 8 #[.slice (some ⟨6, 0, none⟩) n c, .agg #[.int .i64 x0, .int .i64 x1], .slice none 0 0] ((aw3S0.push (.rows n 1 (fun i j => .int .i64 (g i j)) 0 true 0 true)).push (.hole)) (.bool true) s1 R 0 :=
  sndY (r := lw11 n c g x0 x1) (by delta lw11; exact Eq.refl _) smx lwK_ok (lw11_g n c g x0 x1) ((lw11_o n c g x0 x1).symm ▸ ⟨⟨⟨⟨⟨⟨⟨⟨⟨⟨⟨⟨⟨⟨⟨⟨⟨⟨⟨⟨⟨⟨⟨⟨⟨⟨⟨⟨⟨⟨⟨⟨⟨⟨⟨⟨⟨⟨⟨⟨⟨⟨⟨⟨⟨⟨⟨⟨⟨⟨⟨⟨⟨⟨⟨⟨⟨⟨⟨⟨⟨⟨⟨⟨⟨⟨trivial, (lwo24_h n N)⟩, (lwo24_h n N)⟩, (lwo24_h n N)⟩, (lwo24_h n N)⟩, (lwo25_h n N65)⟩, (lwo25_h n N65)⟩, (lwo25_h n N65)⟩, (lwo25_h n N65)⟩, lwo0_h⟩, (lwo26_h n n0 nb)⟩, lwo2_h⟩, (lwo54_h n g x1 nb A1)⟩, (lwo26_h n n0 nb)⟩, lwo4_h⟩, lwo2_h⟩, (lwo28_h n g nb)⟩, (lwo26_h n n0 nb)⟩, lwo2_h⟩, (lwo29_h n g nb)⟩, lwo2_h⟩, (lwo28_h n g nb)⟩, lwo4_h⟩, (lwo28_h n g nb)⟩, lwo9_h⟩, lwo4_h⟩, (lwo30_h n g x0 B)⟩, lwo31_h⟩, lwo32_h⟩, (lwo55_h n g x1 A1)⟩, lwo32_h⟩, (lwo56_h n g x1 A1)⟩, (lwo56_h n g x1 A1)⟩, (lwo26_h n n0 nb)⟩, (lwo28_h n g nb)⟩, (lwo28_h n g nb)⟩, (lwo40_h n g)⟩, (lwo40_h n g)⟩, (lwo40_h n g)⟩, lwo12_h⟩, lwo13_h⟩, (lwo40_h n g)⟩, lwo14_h⟩, lwo14_h⟩, lwo14_h⟩, lwo14_h⟩, (lwo57_h n g x1)⟩, (lwo57_h n g x1)⟩, (lwo57_h n g x1)⟩, (lwo57_h n g x1)⟩, (lwo52_h n g x0 x1 L)⟩, (lwo52_h n g x0 x1 L)⟩, (lwo52_h n g x0 x1 L)⟩, (lwo52_h n g x0 x1 L)⟩, (lwo58_h n g x0 x1 A1 B)⟩, (lwo58_h n g x0 x1 A1 B)⟩, (lwo58_h n g x0 x1 A1 B)⟩, lwo2_h⟩, (lwo58_h n g x0 x1 A1 B)⟩, (lwo58_h n g x0 x1 A1 B)⟩, (lwo58_h n g x0 x1 A1 B)⟩, (lwo28_h n g nb)⟩, (lwo55_h n g x1 A1)⟩, (lwo58_h n g x0 x1 A1 B)⟩, (lwo58_h n g x0 x1 A1 B)⟩, (lwo59_h n g x1 A1)⟩, (lwo59_h n g x1 A1)⟩)
theorem lw12_p (n : Nat) (c : Nat) (g : Nat → Nat → Int) (x0 : Int) (x1 : Int) (N : 24 < n) (N65 : n = 65) (n0 : n ≠ 0) (nb : n ≤ 65) (A1 : th2 (crV n g) (ixE x1 n) ≠ 0) (B1 : th2 (crV n g) (ixE x0 n) ≠ 0) (L : lkE n g x0 x1 ≠ 0) : ∃ s1 R, SndF Tryz.prog 8 #[.slice (some ⟨6, 0, none⟩) n c, .agg #[.int .i64 x0, .int .i64 x1], .slice none 0 0] ((aw3S0.push (.rows n 1 (fun i j => .int .i64 (g i j)) 0 true 0 true)).push (.hole)) (.bool true) s1 R 0 :=
  sndY (r := lw12 n c g x0 x1) (by delta lw12; exact Eq.refl _) smx lwK_ok (lw12_g n c g x0 x1) ((lw12_o n c g x0 x1).symm ▸ ⟨⟨⟨⟨⟨⟨⟨⟨⟨⟨⟨⟨⟨⟨⟨⟨⟨⟨⟨⟨⟨⟨⟨⟨⟨⟨⟨⟨⟨⟨⟨⟨⟨⟨⟨⟨⟨⟨⟨⟨⟨⟨⟨⟨⟨⟨⟨⟨⟨⟨⟨⟨⟨⟨⟨⟨⟨⟨⟨⟨⟨⟨⟨trivial, (lwo24_h n N)⟩, (lwo24_h n N)⟩, (lwo24_h n N)⟩, (lwo24_h n N)⟩, (lwo25_h n N65)⟩, (lwo25_h n N65)⟩, (lwo25_h n N65)⟩, (lwo25_h n N65)⟩, lwo0_h⟩, (lwo26_h n n0 nb)⟩, lwo2_h⟩, (lwo54_h n g x1 nb A1)⟩, (lwo26_h n n0 nb)⟩, lwo4_h⟩, lwo2_h⟩, (lwo28_h n g nb)⟩, (lwo26_h n n0 nb)⟩, lwo2_h⟩, (lwo29_h n g nb)⟩, lwo2_h⟩, (lwo28_h n g nb)⟩, lwo4_h⟩, (lwo28_h n g nb)⟩, lwo9_h⟩, lwo4_h⟩, (lwo50_h n g x0 B1)⟩, lwo4_h⟩, (lwo56_h n g x1 A1)⟩, (lwo51_h n g x0 B1)⟩, (lwo26_h n n0 nb)⟩, (lwo28_h n g nb)⟩, (lwo28_h n g nb)⟩, (lwo40_h n g)⟩, (lwo40_h n g)⟩, (lwo40_h n g)⟩, lwo12_h⟩, lwo13_h⟩, (lwo40_h n g)⟩, lwo14_h⟩, lwo14_h⟩, lwo14_h⟩, lwo14_h⟩, (lwo57_h n g x1)⟩, (lwo57_h n g x1)⟩, (lwo57_h n g x1)⟩, (lwo57_h n g x1)⟩, (lwo52_h n g x0 x1 L)⟩, (lwo52_h n g x0 x1 L)⟩, (lwo52_h n g x0 x1 L)⟩, (lwo52_h n g x0 x1 L)⟩, (lwo53_h n g x0 x1 B1)⟩, (lwo53_h n g x0 x1 B1)⟩, (lwo53_h n g x0 x1 B1)⟩, lwo2_h⟩, (lwo53_h n g x0 x1 B1)⟩, (lwo53_h n g x0 x1 B1)⟩, (lwo53_h n g x0 x1 B1)⟩, (lwo28_h n g nb)⟩, (lwo55_h n g x1 A1)⟩, (lwo53_h n g x0 x1 B1)⟩, (lwo53_h n g x0 x1 B1)⟩, (lwo59_h n g x1 A1)⟩, (lwo59_h n g x1 A1)⟩)
theorem lw13_p (n : Nat) (c : Nat) (g : Nat → Nat → Int) (x0 : Int) (x1 : Int) (N : 24 < n) (Nx : n ≠ 65) : ∃ s1 R, SndF Tryz.prog 8 #[.slice (some ⟨6, 0, none⟩) n c, .agg #[.int .i64 x0, .int .i64 x1], .slice none 0 0] ((aw3S0.push (.rows n 1 (fun i j => .int .i64 (g i j)) 0 true 0 true)).push (.hole)) (.bool true) s1 R 0 :=
  sndY (r := lw13 n c g x0 x1) (by delta lw13; exact Eq.refl _) smx lwK_ok (lw13_g n c g x0 x1) ((lw13_o n c g x0 x1).symm ▸ ⟨⟨⟨⟨⟨⟨⟨⟨⟨trivial, (lwo24_h n N)⟩, (lwo24_h n N)⟩, (lwo24_h n N)⟩, (lwo24_h n N)⟩, (lwo60_h n Nx)⟩, (lwo60_h n Nx)⟩, (lwo60_h n Nx)⟩, (lwo60_h n Nx)⟩, lwo14_h⟩)
theorem lw14_p (n : Nat) (c : Nat) (g : Nat → Nat → Int) (x0 : Int) (x1 : Int) (N24 : n ≤ 24) (n0 : n ≠ 0) (nb : n ≤ 65) (A : th2 (crV n g) (ixE x1 n) = 0) (B : th2 (crV n g) (ixE x0 n) = 0) (F : fallB n g x0 x1 = true) : ∃ s1 R, SndF Tryz.prog 8 #[.slice (some ⟨6, 0, none⟩) n c, .agg #[.int .i64 x0, .int .i64 x1], .slice none 0 0] ((aw3S0.push (.rows n 1 (fun i j => .int .i64 (g i j)) 0 true 0 true)).push (.hole)) (.bool true) s1 R 0 :=
  sndY (r := lw14 n c g x0 x1) (by delta lw14; exact Eq.refl _) smx lwK_ok (lw14_g n c g x0 x1) ((lw14_o n c g x0 x1).symm ▸ ⟨⟨⟨⟨⟨⟨⟨⟨⟨⟨⟨⟨⟨⟨⟨⟨⟨⟨⟨⟨⟨⟨⟨⟨⟨⟨⟨⟨⟨⟨⟨⟨⟨⟨⟨⟨⟨⟨⟨⟨⟨⟨⟨⟨⟨⟨⟨⟨⟨⟨⟨⟨⟨⟨⟨⟨⟨⟨⟨⟨⟨⟨⟨⟨⟨⟨⟨⟨⟨⟨⟨⟨trivial, (lwo61_h n N24)⟩, (lwo61_h n N24)⟩, (lwo61_h n N24)⟩, (lwo61_h n N24)⟩, lwo1_h⟩, lwo1_h⟩, lwo1_h⟩, lwo1_h⟩, lwo0_h⟩, (lwo26_h n n0 nb)⟩, lwo2_h⟩, (lwo27_h n g x1 nb A)⟩, (lwo26_h n n0 nb)⟩, lwo4_h⟩, lwo2_h⟩, (lwo28_h n g nb)⟩, (lwo26_h n n0 nb)⟩, lwo2_h⟩, (lwo29_h n g nb)⟩, lwo2_h⟩, (lwo28_h n g nb)⟩, lwo4_h⟩, (lwo28_h n g nb)⟩, lwo9_h⟩, lwo4_h⟩, (lwo30_h n g x0 B)⟩, lwo31_h⟩, lwo32_h⟩, (lwo33_h n g x1 A)⟩, lwo34_h⟩, (lwo35_h n g x1 A)⟩, lwo2_h⟩, (lwo36_h n g x1 nb A)⟩, lwo37_h⟩, lwo4_h⟩, lwo2_h⟩, (lwo38_h n g x0 nb B)⟩, (lwo39_h n g x0 x1 F)⟩, (lwo26_h n n0 nb)⟩, (lwo28_h n g nb)⟩, (lwo28_h n g nb)⟩, (lwo40_h n g)⟩, (lwo40_h n g)⟩, (lwo40_h n g)⟩, (lwo41_h n g x1 nb)⟩, (lwo40_h n g)⟩, (lwo42_h n g x1)⟩, (lwo42_h n g x1)⟩, (lwo42_h n g x1)⟩, (lwo42_h n g x1)⟩, (lwo43_h n g x1 A)⟩, (lwo43_h n g x1 A)⟩, (lwo43_h n g x1 A)⟩, (lwo43_h n g x1 A)⟩, (lwo44_h n g x0 x1 A B)⟩, (lwo44_h n g x0 x1 A B)⟩, (lwo44_h n g x0 x1 A B)⟩, (lwo44_h n g x0 x1 A B)⟩, (lwo45_h n g x0 x1 A B F)⟩, (lwo45_h n g x0 x1 A B F)⟩, (lwo45_h n g x0 x1 A B F)⟩, lwo2_h⟩, (lwo45_h n g x0 x1 A B F)⟩, (lwo45_h n g x0 x1 A B F)⟩, (lwo45_h n g x0 x1 A B F)⟩, (lwo28_h n g nb)⟩, (lwo33_h n g x1 A)⟩, (lwo46_h n n0)⟩, (lwo45_h n g x0 x1 A B F)⟩, (lwo45_h n g x0 x1 A B F)⟩, (lwo47_h n g x1 n0 A)⟩, (lwo47_h n g x1 n0 A)⟩)
theorem lw15_p (n : Nat) (c : Nat) (g : Nat → Nat → Int) (x0 : Int) (x1 : Int) (N24 : n ≤ 24) (n0 : n ≠ 0) (nb : n ≤ 65) (A : th2 (crV n g) (ixE x1 n) = 0) (B : th2 (crV n g) (ixE x0 n) = 0) (F1 : fallB n g x0 x1 = false) : ∃ s1 R, SndF Tryz.prog 8 #[.slice (some ⟨6, 0, none⟩) n c, .agg #[.int .i64 x0, .int .i64 x1], .slice none 0 0] ((aw3S0.push (.rows n 1 (fun i j => .int .i64 (g i j)) 0 true 0 true)).push (.hole)) (.bool true) s1 R 0 :=
  sndY (r := lw15 n c g x0 x1) (by delta lw15; exact Eq.refl _) smx lwK_ok (lw15_g n c g x0 x1) ((lw15_o n c g x0 x1).symm ▸ ⟨⟨⟨⟨⟨⟨⟨⟨⟨⟨⟨⟨⟨⟨⟨⟨⟨⟨⟨⟨⟨⟨⟨⟨⟨⟨⟨⟨⟨⟨⟨⟨⟨⟨⟨⟨⟨⟨⟨⟨⟨⟨⟨⟨⟨⟨⟨⟨⟨⟨⟨⟨⟨⟨⟨⟨⟨⟨⟨⟨⟨⟨⟨⟨⟨⟨⟨⟨⟨⟨⟨⟨trivial, (lwo61_h n N24)⟩, (lwo61_h n N24)⟩, (lwo61_h n N24)⟩, (lwo61_h n N24)⟩, lwo1_h⟩, lwo1_h⟩, lwo1_h⟩, lwo1_h⟩, lwo0_h⟩, (lwo26_h n n0 nb)⟩, lwo2_h⟩, (lwo27_h n g x1 nb A)⟩, (lwo26_h n n0 nb)⟩, lwo4_h⟩, lwo2_h⟩, (lwo28_h n g nb)⟩, (lwo26_h n n0 nb)⟩, lwo2_h⟩, (lwo29_h n g nb)⟩, lwo2_h⟩, (lwo28_h n g nb)⟩, lwo4_h⟩, (lwo28_h n g nb)⟩, lwo9_h⟩, lwo4_h⟩, (lwo30_h n g x0 B)⟩, lwo31_h⟩, lwo32_h⟩, (lwo33_h n g x1 A)⟩, lwo34_h⟩, (lwo35_h n g x1 A)⟩, lwo2_h⟩, (lwo36_h n g x1 nb A)⟩, lwo37_h⟩, lwo4_h⟩, lwo2_h⟩, (lwo38_h n g x0 nb B)⟩, (lwo48_h n g x0 x1 F1)⟩, (lwo26_h n n0 nb)⟩, (lwo28_h n g nb)⟩, (lwo28_h n g nb)⟩, (lwo40_h n g)⟩, (lwo40_h n g)⟩, (lwo40_h n g)⟩, (lwo41_h n g x1 nb)⟩, (lwo40_h n g)⟩, (lwo42_h n g x1)⟩, (lwo42_h n g x1)⟩, (lwo42_h n g x1)⟩, (lwo42_h n g x1)⟩, (lwo43_h n g x1 A)⟩, (lwo43_h n g x1 A)⟩, (lwo43_h n g x1 A)⟩, (lwo43_h n g x1 A)⟩, (lwo44_h n g x0 x1 A B)⟩, (lwo44_h n g x0 x1 A B)⟩, (lwo44_h n g x0 x1 A B)⟩, (lwo44_h n g x0 x1 A B)⟩, (lwo49_h n g x0 x1 A B F1)⟩, (lwo49_h n g x0 x1 A B F1)⟩, (lwo49_h n g x0 x1 A B F1)⟩, lwo2_h⟩, (lwo49_h n g x0 x1 A B F1)⟩, (lwo49_h n g x0 x1 A B F1)⟩, (lwo49_h n g x0 x1 A B F1)⟩, (lwo28_h n g nb)⟩, (lwo33_h n g x1 A)⟩, (lwo46_h n n0)⟩, (lwo49_h n g x0 x1 A B F1)⟩, (lwo49_h n g x0 x1 A B F1)⟩, (lwo47_h n g x1 n0 A)⟩, (lwo47_h n g x1 n0 A)⟩)
theorem lw16_p (n : Nat) (c : Nat) (g : Nat → Nat → Int) (x0 : Int) (x1 : Int) (N24 : n ≤ 24) (n0 : n ≠ 0) (nb : n ≤ 65) (A : th2 (crV n g) (ixE x1 n) = 0) (B1 : th2 (crV n g) (ixE x0 n) ≠ 0) (L : lkE n g x0 x1 ≠ 0) : ∃ s1 R, SndF Tryz.prog 8 #[.slice (some ⟨6, 0, none⟩) n c, .agg #[.int .i64 x0, .int .i64 x1], .slice none 0 0] ((aw3S0.push (.rows n 1 (fun i j => .int .i64 (g i j)) 0 true 0 true)).push (.hole)) (.bool true) s1 R 0 :=
  sndY (r := lw16 n c g x0 x1) (by delta lw16; exact Eq.refl _) smx lwK_ok (lw16_g n c g x0 x1) ((lw16_o n c g x0 x1).symm ▸ ⟨⟨⟨⟨⟨⟨⟨⟨⟨⟨⟨⟨⟨⟨⟨⟨⟨⟨⟨⟨⟨⟨⟨⟨⟨⟨⟨⟨⟨⟨⟨⟨⟨⟨⟨⟨⟨⟨⟨⟨⟨⟨⟨⟨⟨⟨⟨⟨⟨⟨⟨⟨⟨⟨⟨⟨⟨⟨⟨⟨⟨⟨⟨⟨⟨trivial, (lwo61_h n N24)⟩, (lwo61_h n N24)⟩, (lwo61_h n N24)⟩, (lwo61_h n N24)⟩, lwo1_h⟩, lwo1_h⟩, lwo1_h⟩, lwo1_h⟩, lwo0_h⟩, (lwo26_h n n0 nb)⟩, lwo2_h⟩, (lwo27_h n g x1 nb A)⟩, (lwo26_h n n0 nb)⟩, lwo4_h⟩, lwo2_h⟩, (lwo28_h n g nb)⟩, (lwo26_h n n0 nb)⟩, lwo2_h⟩, (lwo29_h n g nb)⟩, lwo2_h⟩, (lwo28_h n g nb)⟩, lwo4_h⟩, (lwo28_h n g nb)⟩, lwo9_h⟩, lwo4_h⟩, (lwo50_h n g x0 B1)⟩, lwo4_h⟩, (lwo35_h n g x1 A)⟩, lwo2_h⟩, (lwo36_h n g x1 nb A)⟩, (lwo51_h n g x0 B1)⟩, (lwo26_h n n0 nb)⟩, (lwo28_h n g nb)⟩, (lwo28_h n g nb)⟩, (lwo40_h n g)⟩, (lwo40_h n g)⟩, (lwo40_h n g)⟩, (lwo41_h n g x1 nb)⟩, (lwo40_h n g)⟩, (lwo42_h n g x1)⟩, (lwo42_h n g x1)⟩, (lwo42_h n g x1)⟩, (lwo42_h n g x1)⟩, (lwo43_h n g x1 A)⟩, (lwo43_h n g x1 A)⟩, (lwo43_h n g x1 A)⟩, (lwo43_h n g x1 A)⟩, (lwo52_h n g x0 x1 L)⟩, (lwo52_h n g x0 x1 L)⟩, (lwo52_h n g x0 x1 L)⟩, (lwo52_h n g x0 x1 L)⟩, (lwo53_h n g x0 x1 B1)⟩, (lwo53_h n g x0 x1 B1)⟩, (lwo53_h n g x0 x1 B1)⟩, lwo2_h⟩, (lwo53_h n g x0 x1 B1)⟩, (lwo53_h n g x0 x1 B1)⟩, (lwo53_h n g x0 x1 B1)⟩, (lwo28_h n g nb)⟩, (lwo33_h n g x1 A)⟩, (lwo46_h n n0)⟩, (lwo53_h n g x0 x1 B1)⟩, (lwo53_h n g x0 x1 B1)⟩, (lwo47_h n g x1 n0 A)⟩, (lwo47_h n g x1 n0 A)⟩)
theorem lw17_p (n : Nat) (c : Nat) (g : Nat → Nat → Int) (x0 : Int) (x1 : Int) (N24 : n ≤ 24) (n0 : n ≠ 0) (nb : n ≤ 65) (A1 : th2 (crV n g) (ixE x1 n) ≠ 0) (B : th2 (crV n g) (ixE x0 n) = 0) (L : lkE n g x0 x1 ≠ 0) : ∃ s1 R, SndF Tryz.prog 8 #[.slice (some ⟨6, 0, none⟩) n c, .agg #[.int .i64 x0, .int .i64 x1], .slice none 0 0] ((aw3S0.push (.rows n 1 (fun i j => .int .i64 (g i j)) 0 true 0 true)).push (.hole)) (.bool true) s1 R 0 :=
  sndY (r := lw17 n c g x0 x1) (by delta lw17; exact Eq.refl _) smx lwK_ok (lw17_g n c g x0 x1) ((lw17_o n c g x0 x1).symm ▸ ⟨⟨⟨⟨⟨⟨⟨⟨⟨⟨⟨⟨⟨⟨⟨⟨⟨⟨⟨⟨⟨⟨⟨⟨⟨⟨⟨⟨⟨⟨⟨⟨⟨⟨⟨⟨⟨⟨⟨⟨⟨⟨⟨⟨⟨⟨⟨⟨⟨⟨⟨⟨⟨⟨⟨⟨⟨⟨⟨⟨⟨⟨⟨⟨⟨⟨trivial, (lwo61_h n N24)⟩, (lwo61_h n N24)⟩, (lwo61_h n N24)⟩, (lwo61_h n N24)⟩, lwo1_h⟩, lwo1_h⟩, lwo1_h⟩, lwo1_h⟩, lwo0_h⟩, (lwo26_h n n0 nb)⟩, lwo2_h⟩, (lwo54_h n g x1 nb A1)⟩, (lwo26_h n n0 nb)⟩, lwo4_h⟩, lwo2_h⟩, (lwo28_h n g nb)⟩, (lwo26_h n n0 nb)⟩, lwo2_h⟩, (lwo29_h n g nb)⟩, lwo2_h⟩, (lwo28_h n g nb)⟩, lwo4_h⟩, (lwo28_h n g nb)⟩, lwo9_h⟩, lwo4_h⟩, (lwo30_h n g x0 B)⟩, lwo31_h⟩, lwo32_h⟩, (lwo55_h n g x1 A1)⟩, lwo32_h⟩, (lwo56_h n g x1 A1)⟩, (lwo56_h n g x1 A1)⟩, (lwo26_h n n0 nb)⟩, (lwo28_h n g nb)⟩, (lwo28_h n g nb)⟩, (lwo40_h n g)⟩, (lwo40_h n g)⟩, (lwo40_h n g)⟩, lwo12_h⟩, lwo13_h⟩, (lwo40_h n g)⟩, lwo14_h⟩, lwo14_h⟩, lwo14_h⟩, lwo14_h⟩, (lwo57_h n g x1)⟩, (lwo57_h n g x1)⟩, (lwo57_h n g x1)⟩, (lwo57_h n g x1)⟩, (lwo52_h n g x0 x1 L)⟩, (lwo52_h n g x0 x1 L)⟩, (lwo52_h n g x0 x1 L)⟩, (lwo52_h n g x0 x1 L)⟩, (lwo58_h n g x0 x1 A1 B)⟩, (lwo58_h n g x0 x1 A1 B)⟩, (lwo58_h n g x0 x1 A1 B)⟩, lwo2_h⟩, (lwo58_h n g x0 x1 A1 B)⟩, (lwo58_h n g x0 x1 A1 B)⟩, (lwo58_h n g x0 x1 A1 B)⟩, (lwo28_h n g nb)⟩, (lwo55_h n g x1 A1)⟩, (lwo58_h n g x0 x1 A1 B)⟩, (lwo58_h n g x0 x1 A1 B)⟩, (lwo59_h n g x1 A1)⟩, (lwo59_h n g x1 A1)⟩)
theorem lw18_p (n : Nat) (c : Nat) (g : Nat → Nat → Int) (x0 : Int) (x1 : Int) (N24 : n ≤ 24) (n0 : n ≠ 0) (nb : n ≤ 65) (A1 : th2 (crV n g) (ixE x1 n) ≠ 0) (B1 : th2 (crV n g) (ixE x0 n) ≠ 0) (L : lkE n g x0 x1 ≠ 0) : ∃ s1 R, SndF Tryz.prog 8 #[.slice (some ⟨6, 0, none⟩) n c, .agg #[.int .i64 x0, .int .i64 x1], .slice none 0 0] ((aw3S0.push (.rows n 1 (fun i j => .int .i64 (g i j)) 0 true 0 true)).push (.hole)) (.bool true) s1 R 0 :=
  sndY (r := lw18 n c g x0 x1) (by delta lw18; exact Eq.refl _) smx lwK_ok (lw18_g n c g x0 x1) ((lw18_o n c g x0 x1).symm ▸ ⟨⟨⟨⟨⟨⟨⟨⟨⟨⟨⟨⟨⟨⟨⟨⟨⟨⟨⟨⟨⟨⟨⟨⟨⟨⟨⟨⟨⟨⟨⟨⟨⟨⟨⟨⟨⟨⟨⟨⟨⟨⟨⟨⟨⟨⟨⟨⟨⟨⟨⟨⟨⟨⟨⟨⟨⟨⟨⟨⟨⟨⟨⟨trivial, (lwo61_h n N24)⟩, (lwo61_h n N24)⟩, (lwo61_h n N24)⟩, (lwo61_h n N24)⟩, lwo1_h⟩, lwo1_h⟩, lwo1_h⟩, lwo1_h⟩, lwo0_h⟩, (lwo26_h n n0 nb)⟩, lwo2_h⟩, (lwo54_h n g x1 nb A1)⟩, (lwo26_h n n0 nb)⟩, lwo4_h⟩, lwo2_h⟩, (lwo28_h n g nb)⟩, (lwo26_h n n0 nb)⟩, lwo2_h⟩, (lwo29_h n g nb)⟩, lwo2_h⟩, (lwo28_h n g nb)⟩, lwo4_h⟩, (lwo28_h n g nb)⟩, lwo9_h⟩, lwo4_h⟩, (lwo50_h n g x0 B1)⟩, lwo4_h⟩, (lwo56_h n g x1 A1)⟩, (lwo51_h n g x0 B1)⟩, (lwo26_h n n0 nb)⟩, (lwo28_h n g nb)⟩, (lwo28_h n g nb)⟩, (lwo40_h n g)⟩, (lwo40_h n g)⟩, (lwo40_h n g)⟩, lwo12_h⟩, lwo13_h⟩, (lwo40_h n g)⟩, lwo14_h⟩, lwo14_h⟩, lwo14_h⟩, lwo14_h⟩, (lwo57_h n g x1)⟩, (lwo57_h n g x1)⟩, (lwo57_h n g x1)⟩, (lwo57_h n g x1)⟩, (lwo52_h n g x0 x1 L)⟩, (lwo52_h n g x0 x1 L)⟩, (lwo52_h n g x0 x1 L)⟩, (lwo52_h n g x0 x1 L)⟩, (lwo53_h n g x0 x1 B1)⟩, (lwo53_h n g x0 x1 B1)⟩, (lwo53_h n g x0 x1 B1)⟩, lwo2_h⟩, (lwo53_h n g x0 x1 B1)⟩, (lwo53_h n g x0 x1 B1)⟩, (lwo53_h n g x0 x1 B1)⟩, (lwo28_h n g nb)⟩, (lwo55_h n g x1 A1)⟩, (lwo53_h n g x0 x1 B1)⟩, (lwo53_h n g x0 x1 B1)⟩, (lwo59_h n g x1 A1)⟩, (lwo59_h n g x1 A1)⟩)
theorem lw19_p (n : Nat) (c : Nat) (g : Nat → Nat → Int) (c2 : Nat) (x0 : Int) (x1 : Int) (N : 24 < n) (N65 : n = 65) (n0 : n ≠ 0) (nb : n ≤ 65) (A : th2 (crV n g) (ixE x1 n) = 0) (B : th2 (crV n g) (ixE x0 n) = 0) (F : fallB n g x0 x1 = true) : ∃ s1 R, SndF Tryz.prog 8 #[.slice (some ⟨6, 0, none⟩) n c, .agg #[.int .i64 x0, .int .i64 x1], .slice (some ⟨7, 0, none⟩) 0 c2] ((aw3S0.push (.rows n 1 (fun i j => .int .i64 (g i j)) 0 true 0 true)).push (.hole)) (.bool true) s1 R 0 :=
  sndY (r := lw19 n c g c2 x0 x1) (by delta lw19; exact Eq.refl _) smx lwK_ok (lw19_g n c g c2 x0 x1) ((lw19_o n c g c2 x0 x1).symm ▸ ⟨⟨⟨⟨⟨⟨⟨⟨⟨⟨⟨⟨⟨⟨⟨⟨⟨⟨⟨⟨⟨⟨⟨⟨⟨⟨⟨⟨⟨⟨⟨⟨⟨⟨⟨⟨⟨⟨⟨⟨⟨⟨⟨⟨⟨⟨⟨⟨⟨⟨⟨⟨⟨⟨⟨⟨⟨⟨⟨⟨⟨⟨⟨⟨⟨⟨⟨⟨⟨⟨⟨⟨trivial, (lwo24_h n N)⟩, (lwo24_h n N)⟩, (lwo24_h n N)⟩, (lwo24_h n N)⟩, (lwo25_h n N65)⟩, (lwo25_h n N65)⟩, (lwo25_h n N65)⟩, (lwo25_h n N65)⟩, lwo0_h⟩, (lwo26_h n n0 nb)⟩, lwo2_h⟩, (lwo27_h n g x1 nb A)⟩, (lwo26_h n n0 nb)⟩, lwo4_h⟩, lwo2_h⟩, (lwo28_h n g nb)⟩, (lwo26_h n n0 nb)⟩, lwo2_h⟩, (lwo29_h n g nb)⟩, lwo2_h⟩, (lwo28_h n g nb)⟩, lwo4_h⟩, (lwo28_h n g nb)⟩, lwo9_h⟩, lwo4_h⟩, (lwo30_h n g x0 B)⟩, lwo31_h⟩, lwo32_h⟩, (lwo33_h n g x1 A)⟩, lwo34_h⟩, (lwo35_h n g x1 A)⟩, lwo2_h⟩, (lwo36_h n g x1 nb A)⟩, lwo37_h⟩, lwo4_h⟩, lwo2_h⟩, (lwo38_h n g x0 nb B)⟩, (lwo39_h n g x0 x1 F)⟩, (lwo26_h n n0 nb)⟩, (lwo28_h n g nb)⟩, (lwo28_h n g nb)⟩, (lwo40_h n g)⟩, (lwo40_h n g)⟩, (lwo40_h n g)⟩, (lwo41_h n g x1 nb)⟩, (lwo40_h n g)⟩, (lwo42_h n g x1)⟩, (lwo42_h n g x1)⟩, (lwo42_h n g x1)⟩, (lwo42_h n g x1)⟩, (lwo43_h n g x1 A)⟩, (lwo43_h n g x1 A)⟩, (lwo43_h n g x1 A)⟩, (lwo43_h n g x1 A)⟩, (lwo44_h n g x0 x1 A B)⟩, (lwo44_h n g x0 x1 A B)⟩, (lwo44_h n g x0 x1 A B)⟩, (lwo44_h n g x0 x1 A B)⟩, (lwo45_h n g x0 x1 A B F)⟩, (lwo45_h n g x0 x1 A B F)⟩, (lwo45_h n g x0 x1 A B F)⟩, lwo2_h⟩, (lwo45_h n g x0 x1 A B F)⟩, (lwo45_h n g x0 x1 A B F)⟩, (lwo45_h n g x0 x1 A B F)⟩, (lwo28_h n g nb)⟩, (lwo33_h n g x1 A)⟩, (lwo46_h n n0)⟩, (lwo45_h n g x0 x1 A B F)⟩, (lwo45_h n g x0 x1 A B F)⟩, (lwo47_h n g x1 n0 A)⟩, (lwo47_h n g x1 n0 A)⟩)
theorem lw20_p (n : Nat) (c : Nat) (g : Nat → Nat → Int) (c2 : Nat) (x0 : Int) (x1 : Int) (N : 24 < n) (N65 : n = 65) (n0 : n ≠ 0) (nb : n ≤ 65) (A : th2 (crV n g) (ixE x1 n) = 0) (B : th2 (crV n g) (ixE x0 n) = 0) (F1 : fallB n g x0 x1 = false) : ∃ s1 R, SndF Tryz.prog 8 #[.slice (some ⟨6, 0, none⟩) n c, .agg #[.int .i64 x0, .int .i64 x1], .slice (some ⟨7, 0, none⟩) 0 c2] ((aw3S0.push (.rows n 1 (fun i j => .int .i64 (g i j)) 0 true 0 true)).push (.hole)) (.bool true) s1 R 0 :=
  sndY (r := lw20 n c g c2 x0 x1) (by delta lw20; exact Eq.refl _) smx lwK_ok (lw20_g n c g c2 x0 x1) ((lw20_o n c g c2 x0 x1).symm ▸ ⟨⟨⟨⟨⟨⟨⟨⟨⟨⟨⟨⟨⟨⟨⟨⟨⟨⟨⟨⟨⟨⟨⟨⟨⟨⟨⟨⟨⟨⟨⟨⟨⟨⟨⟨⟨⟨⟨⟨⟨⟨⟨⟨⟨⟨⟨⟨⟨⟨⟨⟨⟨⟨⟨⟨⟨⟨⟨⟨⟨⟨⟨⟨⟨⟨⟨⟨⟨⟨⟨⟨⟨trivial, (lwo24_h n N)⟩, (lwo24_h n N)⟩, (lwo24_h n N)⟩, (lwo24_h n N)⟩, (lwo25_h n N65)⟩, (lwo25_h n N65)⟩, (lwo25_h n N65)⟩, (lwo25_h n N65)⟩, lwo0_h⟩, (lwo26_h n n0 nb)⟩, lwo2_h⟩, (lwo27_h n g x1 nb A)⟩, (lwo26_h n n0 nb)⟩, lwo4_h⟩, lwo2_h⟩, (lwo28_h n g nb)⟩, (lwo26_h n n0 nb)⟩, lwo2_h⟩, (lwo29_h n g nb)⟩, lwo2_h⟩, (lwo28_h n g nb)⟩, lwo4_h⟩, (lwo28_h n g nb)⟩, lwo9_h⟩, lwo4_h⟩, (lwo30_h n g x0 B)⟩, lwo31_h⟩, lwo32_h⟩, (lwo33_h n g x1 A)⟩, lwo34_h⟩, (lwo35_h n g x1 A)⟩, lwo2_h⟩, (lwo36_h n g x1 nb A)⟩, lwo37_h⟩, lwo4_h⟩, lwo2_h⟩, (lwo38_h n g x0 nb B)⟩, (lwo48_h n g x0 x1 F1)⟩, (lwo26_h n n0 nb)⟩, (lwo28_h n g nb)⟩, (lwo28_h n g nb)⟩, (lwo40_h n g)⟩, (lwo40_h n g)⟩, (lwo40_h n g)⟩, (lwo41_h n g x1 nb)⟩, (lwo40_h n g)⟩, (lwo42_h n g x1)⟩, (lwo42_h n g x1)⟩, (lwo42_h n g x1)⟩, (lwo42_h n g x1)⟩, (lwo43_h n g x1 A)⟩, (lwo43_h n g x1 A)⟩, (lwo43_h n g x1 A)⟩, (lwo43_h n g x1 A)⟩, (lwo44_h n g x0 x1 A B)⟩, (lwo44_h n g x0 x1 A B)⟩, (lwo44_h n g x0 x1 A B)⟩, (lwo44_h n g x0 x1 A B)⟩, (lwo49_h n g x0 x1 A B F1)⟩, (lwo49_h n g x0 x1 A B F1)⟩, (lwo49_h n g x0 x1 A B F1)⟩, lwo2_h⟩, (lwo49_h n g x0 x1 A B F1)⟩, (lwo49_h n g x0 x1 A B F1)⟩, (lwo49_h n g x0 x1 A B F1)⟩, (lwo28_h n g nb)⟩, (lwo33_h n g x1 A)⟩, (lwo46_h n n0)⟩, (lwo49_h n g x0 x1 A B F1)⟩, (lwo49_h n g x0 x1 A B F1)⟩, (lwo47_h n g x1 n0 A)⟩, (lwo47_h n g x1 n0 A)⟩)
theorem lw21_p (n : Nat) (c : Nat) (g : Nat → Nat → Int) (c2 : Nat) (x0 : Int) (x1 : Int) (N : 24 < n) (N65 : n = 65) (n0 : n ≠ 0) (nb : n ≤ 65) (A : th2 (crV n g) (ixE x1 n) = 0) (B1 : th2 (crV n g) (ixE x0 n) ≠ 0) (L : lkE n g x0 x1 ≠ 0) : ∃ s1 R, SndF Tryz.prog 8 #[.slice (some ⟨6, 0, none⟩) n c, .agg #[.int .i64 x0, .int .i64 x1], .slice (some ⟨7, 0, none⟩) 0 c2] ((aw3S0.push (.rows n 1 (fun i j => .int .i64 (g i j)) 0 true 0 true)).push (.hole)) (.bool true) s1 R 0 :=
  sndY (r := lw21 n c g c2 x0 x1) (by delta lw21; exact Eq.refl _) smx lwK_ok (lw21_g n c g c2 x0 x1) ((lw21_o n c g c2 x0 x1).symm ▸ ⟨⟨⟨⟨⟨⟨⟨⟨⟨⟨⟨⟨⟨⟨⟨⟨⟨⟨⟨⟨⟨⟨⟨⟨⟨⟨⟨⟨⟨⟨⟨⟨⟨⟨⟨⟨⟨⟨⟨⟨⟨⟨⟨⟨⟨⟨⟨⟨⟨⟨⟨⟨⟨⟨⟨⟨⟨⟨⟨⟨⟨⟨⟨⟨⟨trivial, (lwo24_h n N)⟩, (lwo24_h n N)⟩, (lwo24_h n N)⟩, (lwo24_h n N)⟩, (lwo25_h n N65)⟩, (lwo25_h n N65)⟩, (lwo25_h n N65)⟩, (lwo25_h n N65)⟩, lwo0_h⟩, (lwo26_h n n0 nb)⟩, lwo2_h⟩, (lwo27_h n g x1 nb A)⟩, (lwo26_h n n0 nb)⟩, lwo4_h⟩, lwo2_h⟩, (lwo28_h n g nb)⟩, (lwo26_h n n0 nb)⟩, lwo2_h⟩, (lwo29_h n g nb)⟩, lwo2_h⟩, (lwo28_h n g nb)⟩, lwo4_h⟩, (lwo28_h n g nb)⟩, lwo9_h⟩, lwo4_h⟩, (lwo50_h n g x0 B1)⟩, lwo4_h⟩, (lwo35_h n g x1 A)⟩, lwo2_h⟩, (lwo36_h n g x1 nb A)⟩, (lwo51_h n g x0 B1)⟩, (lwo26_h n n0 nb)⟩, (lwo28_h n g nb)⟩, (lwo28_h n g nb)⟩, (lwo40_h n g)⟩, (lwo40_h n g)⟩, (lwo40_h n g)⟩, (lwo41_h n g x1 nb)⟩, (lwo40_h n g)⟩, (lwo42_h n g x1)⟩, (lwo42_h n g x1)⟩, (lwo42_h n g x1)⟩, (lwo42_h n g x1)⟩, (lwo43_h n g x1 A)⟩, (lwo43_h n g x1 A)⟩, (lwo43_h n g x1 A)⟩, (lwo43_h n g x1 A)⟩, (lwo52_h n g x0 x1 L)⟩, (lwo52_h n g x0 x1 L)⟩, (lwo52_h n g x0 x1 L)⟩, (lwo52_h n g x0 x1 L)⟩, (lwo53_h n g x0 x1 B1)⟩, (lwo53_h n g x0 x1 B1)⟩, (lwo53_h n g x0 x1 B1)⟩, lwo2_h⟩, (lwo53_h n g x0 x1 B1)⟩, (lwo53_h n g x0 x1 B1)⟩, (lwo53_h n g x0 x1 B1)⟩, (lwo28_h n g nb)⟩, (lwo33_h n g x1 A)⟩, (lwo46_h n n0)⟩, (lwo53_h n g x0 x1 B1)⟩, (lwo53_h n g x0 x1 B1)⟩, (lwo47_h n g x1 n0 A)⟩, (lwo47_h n g x1 n0 A)⟩)
theorem lw22_p (n : Nat) (c : Nat) (g : Nat → Nat → Int) (c2 : Nat) (x0 : Int) (x1 : Int) (N : 24 < n) (N65 : n = 65) (n0 : n ≠ 0) (nb : n ≤ 65) (A1 : th2 (crV n g) (ixE x1 n) ≠ 0) (B : th2 (crV n g) (ixE x0 n) = 0) (L : lkE n g x0 x1 ≠ 0) : ∃ s1 R, SndF Tryz.prog 8 #[.slice (some ⟨6, 0, none⟩) n c, .agg #[.int .i64 x0, .int .i64 x1], .slice (some ⟨7, 0, none⟩) 0 c2] ((aw3S0.push (.rows n 1 (fun i j => .int .i64 (g i j)) 0 true 0 true)).push (.hole)) (.bool true) s1 R 0 :=
  sndY (r := lw22 n c g c2 x0 x1) (by delta lw22; exact Eq.refl _) smx lwK_ok (lw22_g n c g c2 x0 x1) ((lw22_o n c g c2 x0 x1).symm ▸ ⟨⟨⟨⟨⟨⟨⟨⟨⟨⟨⟨⟨⟨⟨⟨⟨⟨⟨⟨⟨⟨⟨⟨⟨⟨⟨⟨⟨⟨⟨⟨⟨⟨⟨⟨⟨⟨⟨⟨⟨⟨⟨⟨⟨⟨⟨⟨⟨⟨⟨⟨⟨⟨⟨⟨⟨⟨⟨⟨⟨⟨⟨⟨⟨⟨⟨trivial, (lwo24_h n N)⟩, (lwo24_h n N)⟩, (lwo24_h n N)⟩, (lwo24_h n N)⟩, (lwo25_h n N65)⟩, (lwo25_h n N65)⟩, (lwo25_h n N65)⟩, (lwo25_h n N65)⟩, lwo0_h⟩, (lwo26_h n n0 nb)⟩, lwo2_h⟩, (lwo54_h n g x1 nb A1)⟩, (lwo26_h n n0 nb)⟩, lwo4_h⟩, lwo2_h⟩, (lwo28_h n g nb)⟩, (lwo26_h n n0 nb)⟩, lwo2_h⟩, (lwo29_h n g nb)⟩, lwo2_h⟩, (lwo28_h n g nb)⟩, lwo4_h⟩, (lwo28_h n g nb)⟩, lwo9_h⟩, lwo4_h⟩, (lwo30_h n g x0 B)⟩, lwo31_h⟩, lwo32_h⟩, (lwo55_h n g x1 A1)⟩, lwo32_h⟩, (lwo56_h n g x1 A1)⟩, (lwo56_h n g x1 A1)⟩, (lwo26_h n n0 nb)⟩, (lwo28_h n g nb)⟩, (lwo28_h n g nb)⟩, (lwo40_h n g)⟩, (lwo40_h n g)⟩, (lwo40_h n g)⟩, lwo12_h⟩, lwo13_h⟩, (lwo40_h n g)⟩, lwo14_h⟩, lwo14_h⟩, lwo14_h⟩, lwo14_h⟩, (lwo57_h n g x1)⟩, (lwo57_h n g x1)⟩, (lwo57_h n g x1)⟩, (lwo57_h n g x1)⟩, (lwo52_h n g x0 x1 L)⟩, (lwo52_h n g x0 x1 L)⟩, (lwo52_h n g x0 x1 L)⟩, (lwo52_h n g x0 x1 L)⟩, (lwo58_h n g x0 x1 A1 B)⟩, (lwo58_h n g x0 x1 A1 B)⟩, (lwo58_h n g x0 x1 A1 B)⟩, lwo2_h⟩, (lwo58_h n g x0 x1 A1 B)⟩, (lwo58_h n g x0 x1 A1 B)⟩, (lwo58_h n g x0 x1 A1 B)⟩, (lwo28_h n g nb)⟩, (lwo55_h n g x1 A1)⟩, (lwo58_h n g x0 x1 A1 B)⟩, (lwo58_h n g x0 x1 A1 B)⟩, (lwo59_h n g x1 A1)⟩, (lwo59_h n g x1 A1)⟩)
theorem lw23_p (n : Nat) (c : Nat) (g : Nat → Nat → Int) (c2 : Nat) (x0 : Int) (x1 : Int) (N : 24 < n) (N65 : n = 65) (n0 : n ≠ 0) (nb : n ≤ 65) (A1 : th2 (crV n g) (ixE x1 n) ≠ 0) (B1 : th2 (crV n g) (ixE x0 n) ≠ 0) (L : lkE n g x0 x1 ≠ 0) : ∃ s1 R, SndF Tryz.prog 8 #[.slice (some ⟨6, 0, none⟩) n c, .agg #[.int .i64 x0, .int .i64 x1], .slice (some ⟨7, 0, none⟩) 0 c2] ((aw3S0.push (.rows n 1 (fun i j => .int .i64 (g i j)) 0 true 0 true)).push (.hole)) (.bool true) s1 R 0 :=
  sndY (r := lw23 n c g c2 x0 x1) (by delta lw23; exact Eq.refl _) smx lwK_ok (lw23_g n c g c2 x0 x1) ((lw23_o n c g c2 x0 x1).symm ▸ ⟨⟨⟨⟨⟨⟨⟨⟨⟨⟨⟨⟨⟨⟨⟨⟨⟨⟨⟨⟨⟨⟨⟨⟨⟨⟨⟨⟨⟨⟨⟨⟨⟨⟨⟨⟨⟨⟨⟨⟨⟨⟨⟨⟨⟨⟨⟨⟨⟨⟨⟨⟨⟨⟨⟨⟨⟨⟨⟨⟨⟨⟨⟨trivial, (lwo24_h n N)⟩, (lwo24_h n N)⟩, (lwo24_h n N)⟩, (lwo24_h n N)⟩, (lwo25_h n N65)⟩, (lwo25_h n N65)⟩, (lwo25_h n N65)⟩, (lwo25_h n N65)⟩, lwo0_h⟩, (lwo26_h n n0 nb)⟩, lwo2_h⟩, (lwo54_h n g x1 nb A1)⟩, (lwo26_h n n0 nb)⟩, lwo4_h⟩, lwo2_h⟩, (lwo28_h n g nb)⟩, (lwo26_h n n0 nb)⟩, lwo2_h⟩, (lwo29_h n g nb)⟩, lwo2_h⟩, (lwo28_h n g nb)⟩, lwo4_h⟩, (lwo28_h n g nb)⟩, lwo9_h⟩, lwo4_h⟩, (lwo50_h n g x0 B1)⟩, lwo4_h⟩, (lwo56_h n g x1 A1)⟩, (lwo51_h n g x0 B1)⟩, (lwo26_h n n0 nb)⟩, (lwo28_h n g nb)⟩, (lwo28_h n g nb)⟩, (lwo40_h n g)⟩, (lwo40_h n g)⟩, (lwo40_h n g)⟩, lwo12_h⟩, lwo13_h⟩, (lwo40_h n g)⟩, lwo14_h⟩, lwo14_h⟩, lwo14_h⟩, lwo14_h⟩, (lwo57_h n g x1)⟩, (lwo57_h n g x1)⟩, (lwo57_h n g x1)⟩, (lwo57_h n g x1)⟩, (lwo52_h n g x0 x1 L)⟩, (lwo52_h n g x0 x1 L)⟩, (lwo52_h n g x0 x1 L)⟩, (lwo52_h n g x0 x1 L)⟩, (lwo53_h n g x0 x1 B1)⟩, (lwo53_h n g x0 x1 B1)⟩, (lwo53_h n g x0 x1 B1)⟩, lwo2_h⟩, (lwo53_h n g x0 x1 B1)⟩, (lwo53_h n g x0 x1 B1)⟩, (lwo53_h n g x0 x1 B1)⟩, (lwo28_h n g nb)⟩, (lwo55_h n g x1 A1)⟩, (lwo53_h n g x0 x1 B1)⟩, (lwo53_h n g x0 x1 B1)⟩, (lwo59_h n g x1 A1)⟩, (lwo59_h n g x1 A1)⟩)
theorem lw24_p (n : Nat) (c : Nat) (g : Nat → Nat → Int) (c2 : Nat) (x0 : Int) (x1 : Int) (N : 24 < n) (Nx : n ≠ 65) : ∃ s1 R, SndF Tryz.prog 8 #[.slice (some ⟨6, 0, none⟩) n c, .agg #[.int .i64 x0, .int .i64 x1], .slice (some ⟨7, 0, none⟩) 0 c2] ((aw3S0.push (.rows n 1 (fun i j => .int .i64 (g i j)) 0 true 0 true)).push (.hole)) (.bool true) s1 R 0 :=
  sndY (r := lw24 n c g c2 x0 x1) (by delta lw24; exact Eq.refl _) smx lwK_ok (lw24_g n c g c2 x0 x1) ((lw24_o n c g c2 x0 x1).symm ▸ ⟨⟨⟨⟨⟨⟨⟨⟨⟨trivial, (lwo24_h n N)⟩, (lwo24_h n N)⟩, (lwo24_h n N)⟩, (lwo24_h n N)⟩, (lwo60_h n Nx)⟩, (lwo60_h n Nx)⟩, (lwo60_h n Nx)⟩, (lwo60_h n Nx)⟩, lwo14_h⟩)
theorem lw25_p (n : Nat) (c : Nat) (g : Nat → Nat → Int) (c2 : Nat) (x0 : Int) (x1 : Int) (N24 : n ≤ 24) (n0 : n ≠ 0) (nb : n ≤ 65) (A : th2 (crV n g) (ixE x1 n) = 0) (B : th2 (crV n g) (ixE x0 n) = 0) (F : fallB n g x0 x1 = true) : ∃ s1 R, SndF Tryz.prog 8 #[.slice (some ⟨6, 0, none⟩) n c, .agg #[.int .i64 x0, .int .i64 x1], .slice (some ⟨7, 0, none⟩) 0 c2] ((aw3S0.push (.rows n 1 (fun i j => .int .i64 (g i j)) 0 true 0 true)).push (.hole)) (.bool true) s1 R 0 :=
  sndY (r := lw25 n c g c2 x0 x1) (by delta lw25; exact Eq.refl _) smx lwK_ok (lw25_g n c g c2 x0 x1) ((lw25_o n c g c2 x0 x1).symm ▸ ⟨⟨⟨⟨⟨⟨⟨⟨⟨⟨⟨⟨⟨⟨⟨⟨⟨⟨⟨⟨⟨⟨⟨⟨⟨⟨⟨⟨⟨⟨⟨⟨⟨⟨⟨⟨⟨⟨⟨⟨⟨⟨⟨⟨⟨⟨⟨⟨⟨⟨⟨⟨⟨⟨⟨⟨⟨⟨⟨⟨⟨⟨⟨⟨⟨⟨⟨⟨⟨⟨⟨⟨trivial, (lwo61_h n N24)⟩, (lwo61_h n N24)⟩, (lwo61_h n N24)⟩, (lwo61_h n N24)⟩, lwo1_h⟩, lwo1_h⟩, lwo1_h⟩, lwo1_h⟩, lwo0_h⟩, (lwo26_h n n0 nb)⟩, lwo2_h⟩, (lwo27_h n g x1 nb A)⟩, (lwo26_h n n0 nb)⟩, lwo4_h⟩, lwo2_h⟩, (lwo28_h n g nb)⟩, (lwo26_h n n0 nb)⟩, lwo2_h⟩, (lwo29_h n g nb)⟩, lwo2_h⟩, (lwo28_h n g nb)⟩, lwo4_h⟩, (lwo28_h n g nb)⟩, lwo9_h⟩, lwo4_h⟩, (lwo30_h n g x0 B)⟩, lwo31_h⟩, lwo32_h⟩, (lwo33_h n g x1 A)⟩, lwo34_h⟩, (lwo35_h n g x1 A)⟩, lwo2_h⟩, (lwo36_h n g x1 nb A)⟩, lwo37_h⟩, lwo4_h⟩, lwo2_h⟩, (lwo38_h n g x0 nb B)⟩, (lwo39_h n g x0 x1 F)⟩, (lwo26_h n n0 nb)⟩, (lwo28_h n g nb)⟩, (lwo28_h n g nb)⟩, (lwo40_h n g)⟩, (lwo40_h n g)⟩, (lwo40_h n g)⟩, (lwo41_h n g x1 nb)⟩, (lwo40_h n g)⟩, (lwo42_h n g x1)⟩, (lwo42_h n g x1)⟩, (lwo42_h n g x1)⟩, (lwo42_h n g x1)⟩, (lwo43_h n g x1 A)⟩, (lwo43_h n g x1 A)⟩, (lwo43_h n g x1 A)⟩, (lwo43_h n g x1 A)⟩, (lwo44_h n g x0 x1 A B)⟩, (lwo44_h n g x0 x1 A B)⟩, (lwo44_h n g x0 x1 A B)⟩, (lwo44_h n g x0 x1 A B)⟩, (lwo45_h n g x0 x1 A B F)⟩, (lwo45_h n g x0 x1 A B F)⟩, (lwo45_h n g x0 x1 A B F)⟩, lwo2_h⟩, (lwo45_h n g x0 x1 A B F)⟩, (lwo45_h n g x0 x1 A B F)⟩, (lwo45_h n g x0 x1 A B F)⟩, (lwo28_h n g nb)⟩, (lwo33_h n g x1 A)⟩, (lwo46_h n n0)⟩, (lwo45_h n g x0 x1 A B F)⟩, (lwo45_h n g x0 x1 A B F)⟩, (lwo47_h n g x1 n0 A)⟩, (lwo47_h n g x1 n0 A)⟩)
theorem lw26_p (n : Nat) (c : Nat) (g : Nat → Nat → Int) (c2 : Nat) (x0 : Int) (x1 : Int) (N24 : n ≤ 24) (n0 : n ≠ 0) (nb : n ≤ 65) (A : th2 (crV n g) (ixE x1 n) = 0) (B : th2 (crV n g) (ixE x0 n) = 0) (F1 : fallB n g x0 x1 = false) : ∃ s1 R, SndF Tryz.prog 8 #[.slice (some ⟨6, 0, none⟩) n c, .agg #[.int .i64 x0, .int .i64 x1], .slice (some ⟨7, 0, none⟩) 0 c2] ((aw3S0.push (.rows n 1 (fun i j => .int .i64 (g i j)) 0 true 0 true)).push (.hole)) (.bool true) s1 R 0 :=
  sndY (r := lw26 n c g c2 x0 x1) (by delta lw26; exact Eq.refl _) smx lwK_ok (lw26_g n c g c2 x0 x1) ((lw26_o n c g c2 x0 x1).symm ▸ ⟨⟨⟨⟨⟨⟨⟨⟨⟨⟨⟨⟨⟨⟨⟨⟨⟨⟨⟨⟨⟨⟨⟨⟨⟨⟨⟨⟨⟨⟨⟨⟨⟨⟨⟨⟨⟨⟨⟨⟨⟨⟨⟨⟨⟨⟨⟨⟨⟨⟨⟨⟨⟨⟨⟨⟨⟨⟨⟨⟨⟨⟨⟨⟨⟨⟨⟨⟨⟨⟨⟨⟨trivial, (lwo61_h n N24)⟩, (lwo61_h n N24)⟩, (lwo61_h n N24)⟩, (lwo61_h n N24)⟩, lwo1_h⟩, lwo1_h⟩, lwo1_h⟩, lwo1_h⟩, lwo0_h⟩, (lwo26_h n n0 nb)⟩, lwo2_h⟩, (lwo27_h n g x1 nb A)⟩, (lwo26_h n n0 nb)⟩, lwo4_h⟩, lwo2_h⟩, (lwo28_h n g nb)⟩, (lwo26_h n n0 nb)⟩, lwo2_h⟩, (lwo29_h n g nb)⟩, lwo2_h⟩, (lwo28_h n g nb)⟩, lwo4_h⟩, (lwo28_h n g nb)⟩, lwo9_h⟩, lwo4_h⟩, (lwo30_h n g x0 B)⟩, lwo31_h⟩, lwo32_h⟩, (lwo33_h n g x1 A)⟩, lwo34_h⟩, (lwo35_h n g x1 A)⟩, lwo2_h⟩, (lwo36_h n g x1 nb A)⟩, lwo37_h⟩, lwo4_h⟩, lwo2_h⟩, (lwo38_h n g x0 nb B)⟩, (lwo48_h n g x0 x1 F1)⟩, (lwo26_h n n0 nb)⟩, (lwo28_h n g nb)⟩, (lwo28_h n g nb)⟩, (lwo40_h n g)⟩, (lwo40_h n g)⟩, (lwo40_h n g)⟩, (lwo41_h n g x1 nb)⟩, (lwo40_h n g)⟩, (lwo42_h n g x1)⟩, (lwo42_h n g x1)⟩, (lwo42_h n g x1)⟩, (lwo42_h n g x1)⟩, (lwo43_h n g x1 A)⟩, (lwo43_h n g x1 A)⟩, (lwo43_h n g x1 A)⟩, (lwo43_h n g x1 A)⟩, (lwo44_h n g x0 x1 A B)⟩, (lwo44_h n g x0 x1 A B)⟩, (lwo44_h n g x0 x1 A B)⟩, (lwo44_h n g x0 x1 A B)⟩, (lwo49_h n g x0 x1 A B F1)⟩, (lwo49_h n g x0 x1 A B F1)⟩, (lwo49_h n g x0 x1 A B F1)⟩, lwo2_h⟩, (lwo49_h n g x0 x1 A B F1)⟩, (lwo49_h n g x0 x1 A B F1)⟩, (lwo49_h n g x0 x1 A B F1)⟩, (lwo28_h n g nb)⟩, (lwo33_h n g x1 A)⟩, (lwo46_h n n0)⟩, (lwo49_h n g x0 x1 A B F1)⟩, (lwo49_h n g x0 x1 A B F1)⟩, (lwo47_h n g x1 n0 A)⟩, (lwo47_h n g x1 n0 A)⟩)
theorem lw27_p (n : Nat) (c : Nat) (g : Nat → Nat → Int) (c2 : Nat) (x0 : Int) (x1 : Int) (N24 : n ≤ 24) (n0 : n ≠ 0) (nb : n ≤ 65) (A : th2 (crV n g) (ixE x1 n) = 0) (B1 : th2 (crV n g) (ixE x0 n) ≠ 0) (L : lkE n g x0 x1 ≠ 0) : ∃ s1 R, SndF Tryz.prog 8 #[.slice (some ⟨6, 0, none⟩) n c, .agg #[.int .i64 x0, .int .i64 x1], .slice (some ⟨7, 0, none⟩) 0 c2] ((aw3S0.push (.rows n 1 (fun i j => .int .i64 (g i j)) 0 true 0 true)).push (.hole)) (.bool true) s1 R 0 :=
  sndY (r := lw27 n c g c2 x0 x1) (by delta lw27; exact Eq.refl _) smx lwK_ok (lw27_g n c g c2 x0 x1) ((lw27_o n c g c2 x0 x1).symm ▸ ⟨⟨⟨⟨⟨⟨⟨⟨⟨⟨⟨⟨⟨⟨⟨⟨⟨⟨⟨⟨⟨⟨⟨⟨⟨⟨⟨⟨⟨⟨⟨⟨⟨⟨⟨⟨⟨⟨⟨⟨⟨⟨⟨⟨⟨⟨⟨⟨⟨⟨⟨⟨⟨⟨⟨⟨⟨⟨⟨⟨⟨⟨⟨⟨⟨trivial, (lwo61_h n N24)⟩, (lwo61_h n N24)⟩, (lwo61_h n N24)⟩, (lwo61_h n N24)⟩, lwo1_h⟩, lwo1_h⟩, lwo1_h⟩, lwo1_h⟩, lwo0_h⟩, (lwo26_h n n0 nb)⟩, lwo2_h⟩, (lwo27_h n g x1 nb A)⟩, (lwo26_h n n0 nb)⟩, lwo4_h⟩, lwo2_h⟩, (lwo28_h n g nb)⟩, (lwo26_h n n0 nb)⟩, lwo2_h⟩, (lwo29_h n g nb)⟩, lwo2_h⟩, (lwo28_h n g nb)⟩, lwo4_h⟩, (lwo28_h n g nb)⟩, lwo9_h⟩, lwo4_h⟩, (lwo50_h n g x0 B1)⟩, lwo4_h⟩, (lwo35_h n g x1 A)⟩, lwo2_h⟩, (lwo36_h n g x1 nb A)⟩, (lwo51_h n g x0 B1)⟩, (lwo26_h n n0 nb)⟩, (lwo28_h n g nb)⟩, (lwo28_h n g nb)⟩, (lwo40_h n g)⟩, (lwo40_h n g)⟩, (lwo40_h n g)⟩, (lwo41_h n g x1 nb)⟩, (lwo40_h n g)⟩, (lwo42_h n g x1)⟩, (lwo42_h n g x1)⟩, (lwo42_h n g x1)⟩, (lwo42_h n g x1)⟩, (lwo43_h n g x1 A)⟩, (lwo43_h n g x1 A)⟩, (lwo43_h n g x1 A)⟩, (lwo43_h n g x1 A)⟩, (lwo52_h n g x0 x1 L)⟩, (lwo52_h n g x0 x1 L)⟩, (lwo52_h n g x0 x1 L)⟩, (lwo52_h n g x0 x1 L)⟩, (lwo53_h n g x0 x1 B1)⟩, (lwo53_h n g x0 x1 B1)⟩, (lwo53_h n g x0 x1 B1)⟩, lwo2_h⟩, (lwo53_h n g x0 x1 B1)⟩, (lwo53_h n g x0 x1 B1)⟩, (lwo53_h n g x0 x1 B1)⟩, (lwo28_h n g nb)⟩, (lwo33_h n g x1 A)⟩, (lwo46_h n n0)⟩, (lwo53_h n g x0 x1 B1)⟩, (lwo53_h n g x0 x1 B1)⟩, (lwo47_h n g x1 n0 A)⟩, (lwo47_h n g x1 n0 A)⟩)
theorem lw28_p (n : Nat) (c : Nat) (g : Nat → Nat → Int) (c2 : Nat) (x0 : Int) (x1 : Int) (N24 : n ≤ 24) (n0 : n ≠ 0) (nb : n ≤ 65) (A1 : th2 (crV n g) (ixE x1 n) ≠ 0) (B : th2 (crV n g) (ixE x0 n) = 0) (L : lkE n g x0 x1 ≠ 0) : ∃ s1 R, SndF Tryz.prog 8 #[.slice (some ⟨6, 0, none⟩) n c, .agg #[.int .i64 x0, .int .i64 x1], .slice (some ⟨7, 0, none⟩) 0 c2] ((aw3S0.push (.rows n 1 (fun i j => .int .i64 (g i j)) 0 true 0 true)).push (.hole)) (.bool true) s1 R 0 :=
  sndY (r := lw28 n c g c2 x0 x1) (by delta lw28; exact Eq.refl _) smx lwK_ok (lw28_g n c g c2 x0 x1) ((lw28_o n c g c2 x0 x1).symm ▸ ⟨⟨⟨⟨⟨⟨⟨⟨⟨⟨⟨⟨⟨⟨⟨⟨⟨⟨⟨⟨⟨⟨⟨⟨⟨⟨⟨⟨⟨⟨⟨⟨⟨⟨⟨⟨⟨⟨⟨⟨⟨⟨⟨⟨⟨⟨⟨⟨⟨⟨⟨⟨⟨⟨⟨⟨⟨⟨⟨⟨⟨⟨⟨⟨⟨⟨trivial, (lwo61_h n N24)⟩, (lwo61_h n N24)⟩, (lwo61_h n N24)⟩, (lwo61_h n N24)⟩, lwo1_h⟩, lwo1_h⟩, lwo1_h⟩, lwo1_h⟩, lwo0_h⟩, (lwo26_h n n0 nb)⟩, lwo2_h⟩, (lwo54_h n g x1 nb A1)⟩, (lwo26_h n n0 nb)⟩, lwo4_h⟩, lwo2_h⟩, (lwo28_h n g nb)⟩, (lwo26_h n n0 nb)⟩, lwo2_h⟩, (lwo29_h n g nb)⟩, lwo2_h⟩, (lwo28_h n g nb)⟩, lwo4_h⟩, (lwo28_h n g nb)⟩, lwo9_h⟩, lwo4_h⟩, (lwo30_h n g x0 B)⟩, lwo31_h⟩, lwo32_h⟩, (lwo55_h n g x1 A1)⟩, lwo32_h⟩, (lwo56_h n g x1 A1)⟩, (lwo56_h n g x1 A1)⟩, (lwo26_h n n0 nb)⟩, (lwo28_h n g nb)⟩, (lwo28_h n g nb)⟩, (lwo40_h n g)⟩, (lwo40_h n g)⟩, (lwo40_h n g)⟩, lwo12_h⟩, lwo13_h⟩, (lwo40_h n g)⟩, lwo14_h⟩, lwo14_h⟩, lwo14_h⟩, lwo14_h⟩, (lwo57_h n g x1)⟩, (lwo57_h n g x1)⟩, (lwo57_h n g x1)⟩, (lwo57_h n g x1)⟩, (lwo52_h n g x0 x1 L)⟩, (lwo52_h n g x0 x1 L)⟩, (lwo52_h n g x0 x1 L)⟩, (lwo52_h n g x0 x1 L)⟩, (lwo58_h n g x0 x1 A1 B)⟩, (lwo58_h n g x0 x1 A1 B)⟩, (lwo58_h n g x0 x1 A1 B)⟩, lwo2_h⟩, (lwo58_h n g x0 x1 A1 B)⟩, (lwo58_h n g x0 x1 A1 B)⟩, (lwo58_h n g x0 x1 A1 B)⟩, (lwo28_h n g nb)⟩, (lwo55_h n g x1 A1)⟩, (lwo58_h n g x0 x1 A1 B)⟩, (lwo58_h n g x0 x1 A1 B)⟩, (lwo59_h n g x1 A1)⟩, (lwo59_h n g x1 A1)⟩)
theorem lw29_p (n : Nat) (c : Nat) (g : Nat → Nat → Int) (c2 : Nat) (x0 : Int) (x1 : Int) (N24 : n ≤ 24) (n0 : n ≠ 0) (nb : n ≤ 65) (A1 : th2 (crV n g) (ixE x1 n) ≠ 0) (B1 : th2 (crV n g) (ixE x0 n) ≠ 0) (L : lkE n g x0 x1 ≠ 0) : ∃ s1 R, SndF Tryz.prog 8 #[.slice (some ⟨6, 0, none⟩) n c, .agg #[.int .i64 x0, .int .i64 x1], .slice (some ⟨7, 0, none⟩) 0 c2] ((aw3S0.push (.rows n 1 (fun i j => .int .i64 (g i j)) 0 true 0 true)).push (.hole)) (.bool true) s1 R 0 :=
  sndY (r := lw29 n c g c2 x0 x1) (by delta lw29; exact Eq.refl _) smx lwK_ok (lw29_g n c g c2 x0 x1) ((lw29_o n c g c2 x0 x1).symm ▸ ⟨⟨⟨⟨⟨⟨⟨⟨⟨⟨⟨⟨⟨⟨⟨⟨⟨⟨⟨⟨⟨⟨⟨⟨⟨⟨⟨⟨⟨⟨⟨⟨⟨⟨⟨⟨⟨⟨⟨⟨⟨⟨⟨⟨⟨⟨⟨⟨⟨⟨⟨⟨⟨⟨⟨⟨⟨⟨⟨⟨⟨⟨⟨trivial, (lwo61_h n N24)⟩, (lwo61_h n N24)⟩, (lwo61_h n N24)⟩, (lwo61_h n N24)⟩, lwo1_h⟩, lwo1_h⟩, lwo1_h⟩, lwo1_h⟩, lwo0_h⟩, (lwo26_h n n0 nb)⟩, lwo2_h⟩, (lwo54_h n g x1 nb A1)⟩, (lwo26_h n n0 nb)⟩, lwo4_h⟩, lwo2_h⟩, (lwo28_h n g nb)⟩, (lwo26_h n n0 nb)⟩, lwo2_h⟩, (lwo29_h n g nb)⟩, lwo2_h⟩, (lwo28_h n g nb)⟩, lwo4_h⟩, (lwo28_h n g nb)⟩, lwo9_h⟩, lwo4_h⟩, (lwo50_h n g x0 B1)⟩, lwo4_h⟩, (lwo56_h n g x1 A1)⟩, (lwo51_h n g x0 B1)⟩, (lwo26_h n n0 nb)⟩, (lwo28_h n g nb)⟩, (lwo28_h n g nb)⟩, (lwo40_h n g)⟩, (lwo40_h n g)⟩, (lwo40_h n g)⟩, lwo12_h⟩, lwo13_h⟩, (lwo40_h n g)⟩, lwo14_h⟩, lwo14_h⟩, lwo14_h⟩, lwo14_h⟩, (lwo57_h n g x1)⟩, (lwo57_h n g x1)⟩, (lwo57_h n g x1)⟩, (lwo57_h n g x1)⟩, (lwo52_h n g x0 x1 L)⟩, (lwo52_h n g x0 x1 L)⟩, (lwo52_h n g x0 x1 L)⟩, (lwo52_h n g x0 x1 L)⟩, (lwo53_h n g x0 x1 B1)⟩, (lwo53_h n g x0 x1 B1)⟩, (lwo53_h n g x0 x1 B1)⟩, lwo2_h⟩, (lwo53_h n g x0 x1 B1)⟩, (lwo53_h n g x0 x1 B1)⟩, (lwo53_h n g x0 x1 B1)⟩, (lwo28_h n g nb)⟩, (lwo55_h n g x1 A1)⟩, (lwo53_h n g x0 x1 B1)⟩, (lwo53_h n g x0 x1 B1)⟩, (lwo59_h n g x1 A1)⟩, (lwo59_h n g x1 A1)⟩)
theorem lw30_p (n : Nat) (c : Nat) (g : Nat → Nat → Int) (m : Nat) (c2 : Nat) (h : Nat → Nat → Int) (x0 : Int) (x1 : Int) (N : 24 < n) (N65 : n = 65) (M : 24 < m) : ∃ s1 R, SndF Tryz.prog 8 #[.slice (some ⟨6, 0, none⟩) n c, .agg #[.int .i64 x0, .int .i64 x1], .slice (some ⟨7, 0, none⟩) m c2] ((aw3S0.push (.rows n 1 (fun i j => .int .i64 (g i j)) 0 true 0 true)).push (.rows m 1 (fun i j => .int .i64 (h i j)) 0 true 0 true)) (.bool true) s1 R 0 :=
  sndY (r := lw30 n c g m c2 h x0 x1) (by delta lw30; exact Eq.refl _) smx lwK_ok (lw30_g n c g m c2 h x0 x1) ((lw30_o n c g m c2 h x0 x1).symm ▸ ⟨⟨⟨⟨⟨⟨⟨⟨⟨trivial, (lwo24_h n N)⟩, (lwo24_h n N)⟩, (lwo24_h n N)⟩, (lwo24_h n N)⟩, (lwo25_h n N65)⟩, (lwo25_h n N65)⟩, (lwo25_h n N65)⟩, (lwo25_h n N65)⟩, (lwo19_h m M)⟩)
theorem lw31_p (n : Nat) (c : Nat) (g : Nat → Nat → Int) (m : Nat) (c2 : Nat) (h : Nat → Nat → Int) (x0 : Int) (x1 : Int) (N : 24 < n) (N65 : n = 65) (M24 : m ≤ 24) (n0 : n ≠ 0) (nb : n ≤ 65) (A : th2 (crV n g) (ixE x1 n) = 0) (m0 : m ≠ 0) (B : th2 (crV n g) (ixE x0 n) = 0) (F : fallB n g x0 x1 = true) : ∃ s1 R, SndF Tryz.prog 8 #[.slice (some ⟨6, 0, none⟩) n c, .agg #[.int .i64 x0, .int .i64 x1], .slice (some ⟨7, 0, none⟩) m c2] ((aw3S0.push (.rows n 1 (fun i j => .int .i64 (g i j)) 0 true 0 true)).push (.rows m 1 (fun i j => .int .i64 (h i j)) 0 true 0 true)) (.bool true) s1 R 0 :=
  sndY (r := lw31 n c g m c2 h x0 x1) (by delta lw31; exact Eq.refl _) smx lwK_ok (lw31_g n c g m c2 h x0 x1) ((lw31_o n c g m c2 h x0 x1).symm ▸ ⟨⟨⟨⟨⟨⟨⟨⟨⟨⟨⟨⟨⟨⟨⟨⟨⟨⟨⟨⟨⟨⟨⟨⟨⟨⟨⟨⟨⟨⟨⟨⟨⟨⟨⟨⟨⟨⟨⟨⟨⟨⟨⟨⟨⟨⟨⟨⟨⟨⟨⟨⟨⟨⟨⟨⟨⟨⟨⟨⟨⟨⟨⟨⟨⟨⟨⟨⟨⟨⟨⟨trivial, (lwo24_h n N)⟩, (lwo24_h n N)⟩, (lwo24_h n N)⟩, (lwo24_h n N)⟩, (lwo25_h n N65)⟩, (lwo25_h n N65)⟩, (lwo25_h n N65)⟩, (lwo25_h n N65)⟩, (lwo20_h m M24)⟩, (lwo26_h n n0 nb)⟩, lwo2_h⟩, (lwo27_h n g x1 nb A)⟩, (lwo26_h n n0 nb)⟩, lwo4_h⟩, lwo2_h⟩, (lwo28_h n g nb)⟩, (lwo26_h n n0 nb)⟩, lwo2_h⟩, (lwo21_h m m0 M24)⟩, (lwo62_h n m g h nb)⟩, lwo2_h⟩, (lwo28_h n g nb)⟩, lwo4_h⟩, (lwo28_h n g nb)⟩, lwo9_h⟩, lwo4_h⟩, (lwo30_h n g x0 B)⟩, lwo31_h⟩, lwo32_h⟩, (lwo33_h n g x1 A)⟩, lwo34_h⟩, (lwo35_h n g x1 A)⟩, lwo2_h⟩, (lwo36_h n g x1 nb A)⟩, lwo37_h⟩, lwo4_h⟩, lwo2_h⟩, (lwo38_h n g x0 nb B)⟩, (lwo39_h n g x0 x1 F)⟩, (lwo26_h n n0 nb)⟩, (lwo28_h n g nb)⟩, (lwo28_h n g nb)⟩, (lwo40_h n g)⟩, (lwo40_h n g)⟩, (lwo40_h n g)⟩, (lwo41_h n g x1 nb)⟩, (lwo40_h n g)⟩, (lwo42_h n g x1)⟩, (lwo42_h n g x1)⟩, (lwo42_h n g x1)⟩, (lwo42_h n g x1)⟩, (lwo43_h n g x1 A)⟩, (lwo43_h n g x1 A)⟩, (lwo43_h n g x1 A)⟩, (lwo43_h n g x1 A)⟩, (lwo44_h n g x0 x1 A B)⟩, (lwo44_h n g x0 x1 A B)⟩, (lwo44_h n g x0 x1 A B)⟩, (lwo44_h n g x0 x1 A B)⟩, (lwo45_h n g x0 x1 A B F)⟩, (lwo45_h n g x0 x1 A B F)⟩, (lwo45_h n g x0 x1 A B F)⟩, lwo2_h⟩, (lwo45_h n g x0 x1 A B F)⟩, (lwo45_h n g x0 x1 A B F)⟩, (lwo45_h n g x0 x1 A B F)⟩, (lwo62_h n m g h nb)⟩, (lwo45_h n g x0 x1 A B F)⟩, (lwo45_h n g x0 x1 A B F)⟩, (lwo63_h n m g h x1)⟩, (lwo63_h n m g h x1)⟩)
theorem lw32_p (n : Nat) (c : Nat) (g : Nat → Nat → Int) (m : Nat) (c2 : Nat) (h : Nat → Nat → Int) (x0 : Int) (x1 : Int) (N : 24 < n) (N65 : n = 65) (M24 : m ≤ 24) (n0 : n ≠ 0) (nb : n ≤ 65) (A : th2 (crV n g) (ixE x1 n) = 0) (m0 : m ≠ 0) (B : th2 (crV n g) (ixE x0 n) = 0) (F1 : fallB n g x0 x1 = false) : ∃ s1 R, SndF Tryz.prog 8 #[.slice (some ⟨6, 0, none⟩) n c, .agg #[.int .i64 x0, .int .i64 x1], .slice (some ⟨7, 0, none⟩) m c2] ((aw3S0.push (.rows n 1 (fun i j => .int .i64 (g i j)) 0 true 0 true)).push (.rows m 1 (fun i j => .int .i64 (h i j)) 0 true 0 true)) (.bool true) s1 R 0 :=
  sndY (r := lw32 n c g m c2 h x0 x1) (by delta lw32; exact Eq.refl _) smx lwK_ok (lw32_g n c g m c2 h x0 x1) ((lw32_o n c g m c2 h x0 x1).symm ▸ ⟨⟨⟨⟨⟨⟨⟨⟨⟨⟨⟨⟨⟨⟨⟨⟨⟨⟨⟨⟨⟨⟨⟨⟨⟨⟨⟨⟨⟨⟨⟨⟨⟨⟨⟨⟨⟨⟨⟨⟨⟨⟨⟨⟨⟨⟨⟨⟨⟨⟨⟨⟨⟨⟨⟨⟨⟨⟨⟨⟨⟨⟨⟨⟨⟨⟨⟨⟨⟨⟨⟨trivial, (lwo24_h n N)⟩, (lwo24_h n N)⟩, (lwo24_h n N)⟩, (lwo24_h n N)⟩, (lwo25_h n N65)⟩, (lwo25_h n N65)⟩, (lwo25_h n N65)⟩, (lwo25_h n N65)⟩, (lwo20_h m M24)⟩, (lwo26_h n n0 nb)⟩, lwo2_h⟩, (lwo27_h n g x1 nb A)⟩, (lwo26_h n n0 nb)⟩, lwo4_h⟩, lwo2_h⟩, (lwo28_h n g nb)⟩, (lwo26_h n n0 nb)⟩, lwo2_h⟩, (lwo21_h m m0 M24)⟩, (lwo62_h n m g h nb)⟩, lwo2_h⟩, (lwo28_h n g nb)⟩, lwo4_h⟩, (lwo28_h n g nb)⟩, lwo9_h⟩, lwo4_h⟩, (lwo30_h n g x0 B)⟩, lwo31_h⟩, lwo32_h⟩, (lwo33_h n g x1 A)⟩, lwo34_h⟩, (lwo35_h n g x1 A)⟩, lwo2_h⟩, (lwo36_h n g x1 nb A)⟩, lwo37_h⟩, lwo4_h⟩, lwo2_h⟩, (lwo38_h n g x0 nb B)⟩, (lwo48_h n g x0 x1 F1)⟩, (lwo26_h n n0 nb)⟩, (lwo28_h n g nb)⟩, (lwo28_h n g nb)⟩, (lwo40_h n g)⟩, (lwo40_h n g)⟩, (lwo40_h n g)⟩, (lwo41_h n g x1 nb)⟩, (lwo40_h n g)⟩, (lwo42_h n g x1)⟩, (lwo42_h n g x1)⟩, (lwo42_h n g x1)⟩, (lwo42_h n g x1)⟩, (lwo43_h n g x1 A)⟩, (lwo43_h n g x1 A)⟩, (lwo43_h n g x1 A)⟩, (lwo43_h n g x1 A)⟩, (lwo44_h n g x0 x1 A B)⟩, (lwo44_h n g x0 x1 A B)⟩, (lwo44_h n g x0 x1 A B)⟩, (lwo44_h n g x0 x1 A B)⟩, (lwo49_h n g x0 x1 A B F1)⟩, (lwo49_h n g x0 x1 A B F1)⟩, (lwo49_h n g x0 x1 A B F1)⟩, lwo2_h⟩, (lwo49_h n g x0 x1 A B F1)⟩, (lwo49_h n g x0 x1 A B F1)⟩, (lwo49_h n g x0 x1 A B F1)⟩, (lwo62_h n m g h nb)⟩, (lwo49_h n g x0 x1 A B F1)⟩, (lwo49_h n g x0 x1 A B F1)⟩, (lwo63_h n m g h x1)⟩, (lwo63_h n m g h x1)⟩)
theorem lw33_p (n : Nat) (c : Nat) (g : Nat → Nat → Int) (m : Nat) (c2 : Nat) (h : Nat → Nat → Int) (x0 : Int) (x1 : Int) (N : 24 < n) (N65 : n = 65) (M24 : m ≤ 24) (n0 : n ≠ 0) (nb : n ≤ 65) (A : th2 (crV n g) (ixE x1 n) = 0) (m0 : m ≠ 0) (B1 : th2 (crV n g) (ixE x0 n) ≠ 0) (L : lkE n g x0 x1 ≠ 0) : ∃ s1 R, SndF Tryz.prog 8 #[.slice (some ⟨6, 0, none⟩) n c, .agg #[.int .i64 x0, .int .i64 x1], .slice (some ⟨7, 0, none⟩) m c2] ((aw3S0.push (.rows n 1 (fun i j => .int .i64 (g i j)) 0 true 0 true)).push (.rows m 1 (fun i j => .int .i64 (h i j)) 0 true 0 true)) (.bool true) s1 R 0 :=
  sndY (r := lw33 n c g m c2 h x0 x1) (by delta lw33; exact Eq.refl _) smx lwK_ok (lw33_g n c g m c2 h x0 x1) ((lw33_o n c g m c2 h x0 x1).symm ▸ ⟨⟨⟨⟨⟨⟨⟨⟨⟨⟨⟨⟨⟨⟨⟨⟨⟨⟨⟨⟨⟨⟨⟨⟨⟨⟨⟨⟨⟨⟨⟨⟨⟨⟨⟨⟨⟨⟨⟨⟨⟨⟨⟨⟨⟨⟨⟨⟨⟨⟨⟨⟨⟨⟨⟨⟨⟨⟨⟨⟨⟨⟨⟨⟨trivial, (lwo24_h n N)⟩, (lwo24_h n N)⟩, (lwo24_h n N)⟩, (lwo24_h n N)⟩, (lwo25_h n N65)⟩, (lwo25_h n N65)⟩, (lwo25_h n N65)⟩, (lwo25_h n N65)⟩, (lwo20_h m M24)⟩, (lwo26_h n n0 nb)⟩, lwo2_h⟩, (lwo27_h n g x1 nb A)⟩, (lwo26_h n n0 nb)⟩, lwo4_h⟩, lwo2_h⟩, (lwo28_h n g nb)⟩, (lwo26_h n n0 nb)⟩, lwo2_h⟩, (lwo21_h m m0 M24)⟩, (lwo62_h n m g h nb)⟩, lwo2_h⟩, (lwo28_h n g nb)⟩, lwo4_h⟩, (lwo28_h n g nb)⟩, lwo9_h⟩, lwo4_h⟩, (lwo50_h n g x0 B1)⟩, lwo4_h⟩, (lwo35_h n g x1 A)⟩, lwo2_h⟩, (lwo36_h n g x1 nb A)⟩, (lwo51_h n g x0 B1)⟩, (lwo26_h n n0 nb)⟩, (lwo28_h n g nb)⟩, (lwo28_h n g nb)⟩, (lwo40_h n g)⟩, (lwo40_h n g)⟩, (lwo40_h n g)⟩, (lwo41_h n g x1 nb)⟩, (lwo40_h n g)⟩, (lwo42_h n g x1)⟩, (lwo42_h n g x1)⟩, (lwo42_h n g x1)⟩, (lwo42_h n g x1)⟩, (lwo43_h n g x1 A)⟩, (lwo43_h n g x1 A)⟩, (lwo43_h n g x1 A)⟩, (lwo43_h n g x1 A)⟩, (lwo52_h n g x0 x1 L)⟩, (lwo52_h n g x0 x1 L)⟩, (lwo52_h n g x0 x1 L)⟩, (lwo52_h n g x0 x1 L)⟩, (lwo53_h n g x0 x1 B1)⟩, (lwo53_h n g x0 x1 B1)⟩, (lwo53_h n g x0 x1 B1)⟩, lwo2_h⟩, (lwo53_h n g x0 x1 B1)⟩, (lwo53_h n g x0 x1 B1)⟩, (lwo53_h n g x0 x1 B1)⟩, (lwo62_h n m g h nb)⟩, (lwo53_h n g x0 x1 B1)⟩, (lwo53_h n g x0 x1 B1)⟩, (lwo63_h n m g h x1)⟩, (lwo63_h n m g h x1)⟩)
theorem lw34_p (n : Nat) (c : Nat) (g : Nat → Nat → Int) (m : Nat) (c2 : Nat) (h : Nat → Nat → Int) (x0 : Int) (x1 : Int) (N : 24 < n) (N65 : n = 65) (M24 : m ≤ 24) (n0 : n ≠ 0) (nb : n ≤ 65) (A1 : th2 (crV n g) (ixE x1 n) ≠ 0) (m0 : m ≠ 0) (B : th2 (crV n g) (ixE x0 n) = 0) (L : lkE n g x0 x1 ≠ 0) : ∃ s1 R, SndF Tryz.prog 8 #[.slice (some ⟨6, 0, none⟩) n c, .agg #[.int .i64 x0, .int .i64 x1], .slice (some ⟨7, 0, none⟩) m c2] ((aw3S0.push (.rows n 1 (fun i j => .int .i64 (g i j)) 0 true 0 true)).push (.rows m 1 (fun i j => .int .i64 (h i j)) 0 true 0 true)) (.bool true) s1 R 0 :=
  sndY (r := lw34 n c g m c2 h x0 x1) (by delta lw34; exact Eq.refl _) smx lwK_ok (lw34_g n c g m c2 h x0 x1) ((lw34_o n c g m c2 h x0 x1).symm ▸ ⟨⟨⟨⟨⟨⟨⟨⟨⟨⟨⟨⟨⟨⟨⟨⟨⟨⟨⟨⟨⟨⟨⟨⟨⟨⟨⟨⟨⟨⟨⟨⟨⟨⟨⟨⟨⟨⟨⟨⟨⟨⟨⟨⟨⟨⟨⟨⟨⟨⟨⟨⟨⟨⟨⟨⟨⟨⟨⟨⟨⟨⟨⟨⟨⟨⟨trivial, (lwo24_h n N)⟩, (lwo24_h n N)⟩, (lwo24_h n N)⟩, (lwo24_h n N)⟩, (lwo25_h n N65)⟩, (lwo25_h n N65)⟩, (lwo25_h n N65)⟩, (lwo25_h n N65)⟩, (lwo20_h m M24)⟩, (lwo26_h n n0 nb)⟩, lwo2_h⟩, (lwo54_h n g x1 nb A1)⟩, (lwo26_h n n0 nb)⟩, lwo4_h⟩, lwo2_h⟩, (lwo28_h n g nb)⟩, (lwo26_h n n0 nb)⟩, lwo2_h⟩, (lwo21_h m m0 M24)⟩, (lwo62_h n m g h nb)⟩, lwo2_h⟩, (lwo28_h n g nb)⟩, lwo4_h⟩, (lwo28_h n g nb)⟩, lwo9_h⟩, lwo4_h⟩, (lwo30_h n g x0 B)⟩, lwo31_h⟩, lwo32_h⟩, (lwo55_h n g x1 A1)⟩, lwo32_h⟩, (lwo56_h n g x1 A1)⟩, (lwo56_h n g x1 A1)⟩, (lwo26_h n n0 nb)⟩, (lwo28_h n g nb)⟩, (lwo28_h n g nb)⟩, (lwo40_h n g)⟩, (lwo40_h n g)⟩, (lwo40_h n g)⟩, lwo12_h⟩, lwo13_h⟩, (lwo40_h n g)⟩, lwo14_h⟩, lwo14_h⟩, lwo14_h⟩, lwo14_h⟩, (lwo57_h n g x1)⟩, (lwo57_h n g x1)⟩, (lwo57_h n g x1)⟩, (lwo57_h n g x1)⟩, (lwo52_h n g x0 x1 L)⟩, (lwo52_h n g x0 x1 L)⟩, (lwo52_h n g x0 x1 L)⟩, (lwo52_h n g x0 x1 L)⟩, (lwo58_h n g x0 x1 A1 B)⟩, (lwo58_h n g x0 x1 A1 B)⟩, (lwo58_h n g x0 x1 A1 B)⟩, lwo2_h⟩, (lwo58_h n g x0 x1 A1 B)⟩, (lwo58_h n g x0 x1 A1 B)⟩, (lwo58_h n g x0 x1 A1 B)⟩, (lwo62_h n m g h nb)⟩, (lwo58_h n g x0 x1 A1 B)⟩, (lwo58_h n g x0 x1 A1 B)⟩, (lwo63_h n m g h x1)⟩, (lwo63_h n m g h x1)⟩)
theorem lw35_p (n : Nat) (c : Nat) (g : Nat → Nat → Int) (m : Nat) (c2 : Nat) (h : Nat → Nat → Int) (x0 : Int) (x1 : Int) (N : 24 < n) (N65 : n = 65) (M24 : m ≤ 24) (n0 : n ≠ 0) (nb : n ≤ 65) (A1 : th2 (crV n g) (ixE x1 n) ≠ 0) (m0 : m ≠ 0) (B1 : th2 (crV n g) (ixE x0 n) ≠ 0) (L : lkE n g x0 x1 ≠ 0) : ∃ s1 R, SndF Tryz.prog 8 #[.slice (some ⟨6, 0, none⟩) n c, .agg #[.int .i64 x0, .int .i64 x1], .slice (some ⟨7, 0, none⟩) m c2] ((aw3S0.push (.rows n 1 (fun i j => .int .i64 (g i j)) 0 true 0 true)).push (.rows m 1 (fun i j => .int .i64 (h i j)) 0 true 0 true)) (.bool true) s1 R 0 :=
  sndY (r := lw35 n c g m c2 h x0 x1) (by delta lw35; exact Eq.refl _) smx lwK_ok (lw35_g n c g m c2 h x0 x1) ((lw35_o n c g m c2 h x0 x1).symm ▸ ⟨⟨⟨⟨⟨⟨⟨⟨⟨⟨⟨⟨⟨⟨⟨⟨⟨⟨⟨⟨⟨⟨⟨⟨⟨⟨⟨⟨⟨⟨⟨⟨⟨⟨⟨⟨⟨⟨⟨⟨⟨⟨⟨⟨⟨⟨⟨⟨⟨⟨⟨⟨⟨⟨⟨⟨⟨⟨⟨⟨⟨⟨⟨trivial, (lwo24_h n N)⟩, (lwo24_h n N)⟩, (lwo24_h n N)⟩, (lwo24_h n N)⟩, (lwo25_h n N65)⟩, (lwo25_h n N65)⟩, (lwo25_h n N65)⟩, (lwo25_h n N65)⟩, (lwo20_h m M24)⟩, (lwo26_h n n0 nb)⟩, lwo2_h⟩, (lwo54_h n g x1 nb A1)⟩, (lwo26_h n n0 nb)⟩, lwo4_h⟩, lwo2_h⟩, (lwo28_h n g nb)⟩, (lwo26_h n n0 nb)⟩, lwo2_h⟩, (lwo21_h m m0 M24)⟩, (lwo62_h n m g h nb)⟩, lwo2_h⟩, (lwo28_h n g nb)⟩, lwo4_h⟩, (lwo28_h n g nb)⟩, lwo9_h⟩, lwo4_h⟩, (lwo50_h n g x0 B1)⟩, lwo4_h⟩, (lwo56_h n g x1 A1)⟩, (lwo51_h n g x0 B1)⟩, (lwo26_h n n0 nb)⟩, (lwo28_h n g nb)⟩, (lwo28_h n g nb)⟩, (lwo40_h n g)⟩, (lwo40_h n g)⟩, (lwo40_h n g)⟩, lwo12_h⟩, lwo13_h⟩, (lwo40_h n g)⟩, lwo14_h⟩, lwo14_h⟩, lwo14_h⟩, lwo14_h⟩, (lwo57_h n g x1)⟩, (lwo57_h n g x1)⟩, (lwo57_h n g x1)⟩, (lwo57_h n g x1)⟩, (lwo52_h n g x0 x1 L)⟩, (lwo52_h n g x0 x1 L)⟩, (lwo52_h n g x0 x1 L)⟩, (lwo52_h n g x0 x1 L)⟩, (lwo53_h n g x0 x1 B1)⟩, (lwo53_h n g x0 x1 B1)⟩, (lwo53_h n g x0 x1 B1)⟩, lwo2_h⟩, (lwo53_h n g x0 x1 B1)⟩, (lwo53_h n g x0 x1 B1)⟩, (lwo53_h n g x0 x1 B1)⟩, (lwo62_h n m g h nb)⟩, (lwo53_h n g x0 x1 B1)⟩, (lwo53_h n g x0 x1 B1)⟩, (lwo63_h n m g h x1)⟩, (lwo63_h n m g h x1)⟩)
theorem lw36_p (n : Nat) (c : Nat) (g : Nat → Nat → Int) (m : Nat) (c2 : Nat) (h : Nat → Nat → Int) (x0 : Int) (x1 : Int) (N : 24 < n) (Nx : n ≠ 65) : ∃ s1 R, SndF Tryz.prog 8 #[.slice (some ⟨6, 0, none⟩) n c, .agg #[.int .i64 x0, .int .i64 x1], .slice (some ⟨7, 0, none⟩) m c2] ((aw3S0.push (.rows n 1 (fun i j => .int .i64 (g i j)) 0 true 0 true)).push (.rows m 1 (fun i j => .int .i64 (h i j)) 0 true 0 true)) (.bool true) s1 R 0 :=
  sndY (r := lw36 n c g m c2 h x0 x1) (by delta lw36; exact Eq.refl _) smx lwK_ok (lw36_g n c g m c2 h x0 x1) ((lw36_o n c g m c2 h x0 x1).symm ▸ ⟨⟨⟨⟨⟨⟨⟨⟨⟨trivial, (lwo24_h n N)⟩, (lwo24_h n N)⟩, (lwo24_h n N)⟩, (lwo24_h n N)⟩, (lwo60_h n Nx)⟩, (lwo60_h n Nx)⟩, (lwo60_h n Nx)⟩, (lwo60_h n Nx)⟩, lwo14_h⟩)
theorem lw37_p (n : Nat) (c : Nat) (g : Nat → Nat → Int) (m : Nat) (c2 : Nat) (h : Nat → Nat → Int) (x0 : Int) (x1 : Int) (N24 : n ≤ 24) (M : 24 < m) : ∃ s1 R, SndF Tryz.prog 8 #[.slice (some ⟨6, 0, none⟩) n c, .agg #[.int .i64 x0, .int .i64 x1], .slice (some ⟨7, 0, none⟩) m c2] ((aw3S0.push (.rows n 1 (fun i j => .int .i64 (g i j)) 0 true 0 true)).push (.rows m 1 (fun i j => .int .i64 (h i j)) 0 true 0 true)) (.bool true) s1 R 0 :=
  sndY (r := lw37 n c g m c2 h x0 x1) (by delta lw37; exact Eq.refl _) smx lwK_ok (lw37_g n c g m c2 h x0 x1) ((lw37_o n c g m c2 h x0 x1).symm ▸ ⟨⟨⟨⟨⟨⟨⟨⟨⟨trivial, (lwo61_h n N24)⟩, (lwo61_h n N24)⟩, (lwo61_h n N24)⟩, (lwo61_h n N24)⟩, lwo1_h⟩, lwo1_h⟩, lwo1_h⟩, lwo1_h⟩, (lwo19_h m M)⟩)
theorem lw38_p (n : Nat) (c : Nat) (g : Nat → Nat → Int) (m : Nat) (c2 : Nat) (h : Nat → Nat → Int) (x0 : Int) (x1 : Int) (N24 : n ≤ 24) (M24 : m ≤ 24) (n0 : n ≠ 0) (nb : n ≤ 65) (A : th2 (crV n g) (ixE x1 n) = 0) (m0 : m ≠ 0) (B : th2 (crV n g) (ixE x0 n) = 0) (F : fallB n g x0 x1 = true) : ∃ s1 R, SndF Tryz.prog 8 #[.slice (some ⟨6, 0, none⟩) n c, .agg #[.int .i64 x0, .int .i64 x1], .slice (some ⟨7, 0, none⟩) m c2] ((aw3S0.push (.rows n 1 (fun i j => .int .i64 (g i j)) 0 true 0 true)).push (.rows m 1 (fun i j => .int .i64 (h i j)) 0 true 0 true)) (.bool true) s1 R 0 :=
  sndY (r := lw38 n c g m c2 h x0 x1) (by delta lw38; exact Eq.refl _) smx lwK_ok (lw38_g n c g m c2 h x0 x1) ((lw38_o n c g m c2 h x0 x1).symm ▸ ⟨⟨⟨⟨⟨⟨⟨⟨⟨⟨⟨⟨⟨⟨⟨⟨⟨⟨⟨⟨⟨⟨⟨⟨⟨⟨⟨⟨⟨⟨⟨⟨⟨⟨⟨⟨⟨⟨⟨⟨⟨⟨⟨⟨⟨⟨⟨⟨⟨⟨⟨⟨⟨⟨⟨⟨⟨⟨⟨⟨⟨⟨⟨⟨⟨⟨⟨⟨⟨⟨⟨trivial, (lwo61_h n N24)⟩, (lwo61_h n N24)⟩, (lwo61_h n N24)⟩, (lwo61_h n N24)⟩, lwo1_h⟩, lwo1_h⟩, lwo1_h⟩, lwo1_h⟩, (lwo20_h m M24)⟩, (lwo26_h n n0 nb)⟩, lwo2_h⟩, (lwo27_h n g x1 nb A)⟩, (lwo26_h n n0 nb)⟩, lwo4_h⟩, lwo2_h⟩, (lwo28_h n g nb)⟩, (lwo26_h n n0 nb)⟩, lwo2_h⟩, (lwo21_h m m0 M24)⟩, (lwo62_h n m g h nb)⟩, lwo2_h⟩, (lwo28_h n g nb)⟩, lwo4_h⟩, (lwo28_h n g nb)⟩, lwo9_h⟩, lwo4_h⟩, (lwo30_h n g x0 B)⟩, lwo31_h⟩, lwo32_h⟩, (lwo33_h n g x1 A)⟩, lwo34_h⟩, (lwo35_h n g x1 A)⟩, lwo2_h⟩, (lwo36_h n g x1 nb A)⟩, lwo37_h⟩, lwo4_h⟩, lwo2_h⟩, (lwo38_h n g x0 nb B)⟩, (lwo39_h n g x0 x1 F)⟩, (lwo26_h n n0 nb)⟩, (lwo28_h n g nb)⟩, (lwo28_h n g nb)⟩, (lwo40_h n g)⟩, (lwo40_h n g)⟩, (lwo40_h n g)⟩, (lwo41_h n g x1 nb)⟩, (lwo40_h n g)⟩, (lwo42_h n g x1)⟩, (lwo42_h n g x1)⟩, (lwo42_h n g x1)⟩, (lwo42_h n g x1)⟩, (lwo43_h n g x1 A)⟩, (lwo43_h n g x1 A)⟩, (lwo43_h n g x1 A)⟩, (lwo43_h n g x1 A)⟩, (lwo44_h n g x0 x1 A B)⟩, (lwo44_h n g x0 x1 A B)⟩, (lwo44_h n g x0 x1 A B)⟩, (lwo44_h n g x0 x1 A B)⟩, (lwo45_h n g x0 x1 A B F)⟩, (lwo45_h n g x0 x1 A B F)⟩, (lwo45_h n g x0 x1 A B F)⟩, lwo2_h⟩, (lwo45_h n g x0 x1 A B F)⟩, (lwo45_h n g x0 x1 A B F)⟩, (lwo45_h n g x0 x1 A B F)⟩, (lwo62_h n m g h nb)⟩, (lwo45_h n g x0 x1 A B F)⟩, (lwo45_h n g x0 x1 A B F)⟩, (lwo63_h n m g h x1)⟩, (lwo63_h n m g h x1)⟩)
theorem lw39_p (n : Nat) (c : Nat) (g : Nat → Nat → Int) (m : Nat) (c2 : Nat) (h : Nat → Nat → Int) (x0 : Int) (x1 : Int) (N24 : n ≤ 24) (M24 : m ≤ 24) (n0 : n ≠ 0) (nb : n ≤ 65) (A : th2 (crV n g) (ixE x1 n) = 0) (m0 : m ≠ 0) (B : th2 (crV n g) (ixE x0 n) = 0) (F1 : fallB n g x0 x1 = false) : ∃ s1 R, SndF Tryz.prog 8 #[.slice (some ⟨6, 0, none⟩) n c, .agg #[.int .i64 x0, .int .i64 x1], .slice (some ⟨7, 0, none⟩) m c2] ((aw3S0.push (.rows n 1 (fun i j => .int .i64 (g i j)) 0 true 0 true)).push (.rows m 1 (fun i j => .int .i64 (h i j)) 0 true 0 true)) (.bool true) s1 R 0 :=
  sndY (r := lw39 n c g m c2 h x0 x1) (by delta lw39; exact Eq.refl _) smx lwK_ok (lw39_g n c g m c2 h x0 x1) ((lw39_o n c g m c2 h x0 x1).symm ▸ ⟨⟨⟨⟨⟨⟨⟨⟨⟨⟨⟨⟨⟨⟨⟨⟨⟨⟨⟨⟨⟨⟨⟨⟨⟨⟨⟨⟨⟨⟨⟨⟨⟨⟨⟨⟨⟨⟨⟨⟨⟨⟨⟨⟨⟨⟨⟨⟨⟨⟨⟨⟨⟨⟨⟨⟨⟨⟨⟨⟨⟨⟨⟨⟨⟨⟨⟨⟨⟨⟨⟨trivial, (lwo61_h n N24)⟩, (lwo61_h n N24)⟩, (lwo61_h n N24)⟩, (lwo61_h n N24)⟩, lwo1_h⟩, lwo1_h⟩, lwo1_h⟩, lwo1_h⟩, (lwo20_h m M24)⟩, (lwo26_h n n0 nb)⟩, lwo2_h⟩, (lwo27_h n g x1 nb A)⟩, (lwo26_h n n0 nb)⟩, lwo4_h⟩, lwo2_h⟩, (lwo28_h n g nb)⟩, (lwo26_h n n0 nb)⟩, lwo2_h⟩, (lwo21_h m m0 M24)⟩, (lwo62_h n m g h nb)⟩, lwo2_h⟩, (lwo28_h n g nb)⟩, lwo4_h⟩, (lwo28_h n g nb)⟩, lwo9_h⟩, lwo4_h⟩, (lwo30_h n g x0 B)⟩, lwo31_h⟩, lwo32_h⟩, (lwo33_h n g x1 A)⟩, lwo34_h⟩, (lwo35_h n g x1 A)⟩, lwo2_h⟩, (lwo36_h n g x1 nb A)⟩, lwo37_h⟩, lwo4_h⟩, lwo2_h⟩, (lwo38_h n g x0 nb B)⟩, (lwo48_h n g x0 x1 F1)⟩, (lwo26_h n n0 nb)⟩, (lwo28_h n g nb)⟩, (lwo28_h n g nb)⟩, (lwo40_h n g)⟩, (lwo40_h n g)⟩, (lwo40_h n g)⟩, (lwo41_h n g x1 nb)⟩, (lwo40_h n g)⟩, (lwo42_h n g x1)⟩, (lwo42_h n g x1)⟩, (lwo42_h n g x1)⟩, (lwo42_h n g x1)⟩, (lwo43_h n g x1 A)⟩, (lwo43_h n g x1 A)⟩, (lwo43_h n g x1 A)⟩, (lwo43_h n g x1 A)⟩, (lwo44_h n g x0 x1 A B)⟩, (lwo44_h n g x0 x1 A B)⟩, (lwo44_h n g x0 x1 A B)⟩, (lwo44_h n g x0 x1 A B)⟩, (lwo49_h n g x0 x1 A B F1)⟩, (lwo49_h n g x0 x1 A B F1)⟩, (lwo49_h n g x0 x1 A B F1)⟩, lwo2_h⟩, (lwo49_h n g x0 x1 A B F1)⟩, (lwo49_h n g x0 x1 A B F1)⟩, (lwo49_h n g x0 x1 A B F1)⟩, (lwo62_h n m g h nb)⟩, (lwo49_h n g x0 x1 A B F1)⟩, (lwo49_h n g x0 x1 A B F1)⟩, (lwo63_h n m g h x1)⟩, (lwo63_h n m g h x1)⟩)
theorem lw40_p (n : Nat) (c : Nat) (g : Nat → Nat → Int) (m : Nat) (c2 : Nat) (h : Nat → Nat → Int) (x0 : Int) (x1 : Int) (N24 : n ≤ 24) (M24 : m ≤ 24) (n0 : n ≠ 0) (nb : n ≤ 65) (A : th2 (crV n g) (ixE x1 n) = 0) (m0 : m ≠ 0) (B1 : th2 (crV n g) (ixE x0 n) ≠ 0) (L : lkE n g x0 x1 ≠ 0) : ∃ s1 R, SndF Tryz.prog 8 #[.slice (some ⟨6, 0, none⟩) n c, .agg #[.int .i64 x0, .int .i64 x1], .slice (some ⟨7, 0, none⟩) m c2] ((aw3S0.push (.rows n 1 (fun i j => .int .i64 (g i j)) 0 true 0 true)).push (.rows m 1 (fun i j => .int .i64 (h i j)) 0 true 0 true)) (.bool true) s1 R 0 :=
  sndY (r := lw40 n c g m c2 h x0 x1) (by delta lw40; exact Eq.refl _) smx lwK_ok (lw40_g n c g m c2 h x0 x1) ((lw40_o n c g m c2 h x0 x1).symm ▸ ⟨⟨⟨⟨⟨⟨⟨⟨⟨⟨⟨⟨⟨⟨⟨⟨⟨⟨⟨⟨⟨⟨⟨⟨⟨⟨⟨⟨⟨⟨⟨⟨⟨⟨⟨⟨⟨⟨⟨⟨⟨⟨⟨⟨⟨⟨⟨⟨⟨⟨⟨⟨⟨⟨⟨⟨⟨⟨⟨⟨⟨⟨⟨⟨trivial, (lwo61_h n N24)⟩, (lwo61_h n N24)⟩, (lwo61_h n N24)⟩, (lwo61_h n N24)⟩, lwo1_h⟩, lwo1_h⟩, lwo1_h⟩, lwo1_h⟩, (lwo20_h m M24)⟩, (lwo26_h n n0 nb)⟩, lwo2_h⟩, (lwo27_h n g x1 nb A)⟩, (lwo26_h n n0 nb)⟩, lwo4_h⟩, lwo2_h⟩, (lwo28_h n g nb)⟩, (lwo26_h n n0 nb)⟩, lwo2_h⟩, (lwo21_h m m0 M24)⟩, (lwo62_h n m g h nb)⟩, lwo2_h⟩, (lwo28_h n g nb)⟩, lwo4_h⟩, (lwo28_h n g nb)⟩, lwo9_h⟩, lwo4_h⟩, (lwo50_h n g x0 B1)⟩, lwo4_h⟩, (lwo35_h n g x1 A)⟩, lwo2_h⟩, (lwo36_h n g x1 nb A)⟩, (lwo51_h n g x0 B1)⟩, (lwo26_h n n0 nb)⟩, (lwo28_h n g nb)⟩, (lwo28_h n g nb)⟩, (lwo40_h n g)⟩, (lwo40_h n g)⟩, (lwo40_h n g)⟩, (lwo41_h n g x1 nb)⟩, (lwo40_h n g)⟩, (lwo42_h n g x1)⟩, (lwo42_h n g x1)⟩, (lwo42_h n g x1)⟩, (lwo42_h n g x1)⟩, (lwo43_h n g x1 A)⟩, (lwo43_h n g x1 A)⟩, (lwo43_h n g x1 A)⟩, (lwo43_h n g x1 A)⟩, (lwo52_h n g x0 x1 L)⟩, (lwo52_h n g x0 x1 L)⟩, (lwo52_h n g x0 x1 L)⟩, (lwo52_h n g x0 x1 L)⟩, (lwo53_h n g x0 x1 B1)⟩, (lwo53_h n g x0 x1 B1)⟩, (lwo53_h n g x0 x1 B1)⟩, lwo2_h⟩, (lwo53_h n g x0 x1 B1)⟩, (lwo53_h n g x0 x1 B1)⟩, (lwo53_h n g x0 x1 B1)⟩, (lwo62_h n m g h nb)⟩, (lwo53_h n g x0 x1 B1)⟩, (lwo53_h n g x0 x1 B1)⟩, (lwo63_h n m g h x1)⟩, (lwo63_h n m g h x1)⟩)
theorem lw41_p (n : Nat) (c : Nat) (g : Nat → Nat → Int) (m : Nat) (c2 : Nat) (h : Nat → Nat → Int) (x0 : Int) (x1 : Int) (N24 : n ≤ 24) (M24 : m ≤ 24) (n0 : n ≠ 0) (nb : n ≤ 65) (A1 : th2 (crV n g) (ixE x1 n) ≠ 0) (m0 : m ≠ 0) (B : th2 (crV n g) (ixE x0 n) = 0) (L : lkE n g x0 x1 ≠ 0) : ∃ s1 R, SndF Tryz.prog 8 #[.slice (some ⟨6, 0, none⟩) n c, .agg #[.int .i64 x0, .int .i64 x1], .slice (some ⟨7, 0, none⟩) m c2] ((aw3S0.push (.rows n 1 (fun i j => .int .i64 (g i j)) 0 true 0 true)).push (.rows m 1 (fun i j => .int .i64 (h i j)) 0 true 0 true)) (.bool true) s1 R 0 :=
  sndY (r := lw41 n c g m c2 h x0 x1) (by delta lw41; exact Eq.refl _) smx lwK_ok (lw41_g n c g m c2 h x0 x1) ((lw41_o n c g m c2 h x0 x1).symm ▸ ⟨⟨⟨⟨⟨⟨⟨⟨⟨⟨⟨⟨⟨⟨⟨⟨⟨⟨⟨⟨⟨⟨⟨⟨⟨⟨⟨⟨⟨⟨⟨⟨⟨⟨⟨⟨⟨⟨⟨⟨⟨⟨⟨⟨⟨⟨⟨⟨⟨⟨⟨⟨⟨⟨⟨⟨⟨⟨⟨⟨⟨⟨⟨⟨⟨⟨trivial, (lwo61_h n N24)⟩, (lwo61_h n N24)⟩, (lwo61_h n N24)⟩, (lwo61_h n N24)⟩, lwo1_h⟩, lwo1_h⟩, lwo1_h⟩, lwo1_h⟩, (lwo20_h m M24)⟩, (lwo26_h n n0 nb)⟩, lwo2_h⟩, (lwo54_h n g x1 nb A1)⟩, (lwo26_h n n0 nb)⟩, lwo4_h⟩, lwo2_h⟩, (lwo28_h n g nb)⟩, (lwo26_h n n0 nb)⟩, lwo2_h⟩, (lwo21_h m m0 M24)⟩, (lwo62_h n m g h nb)⟩, lwo2_h⟩, (lwo28_h n g nb)⟩, lwo4_h⟩, (lwo28_h n g nb)⟩, lwo9_h⟩, lwo4_h⟩, (lwo30_h n g x0 B)⟩, lwo31_h⟩, lwo32_h⟩, (lwo55_h n g x1 A1)⟩, lwo32_h⟩, (lwo56_h n g x1 A1)⟩, (lwo56_h n g x1 A1)⟩, (lwo26_h n n0 nb)⟩, (lwo28_h n g nb)⟩, (lwo28_h n g nb)⟩, (lwo40_h n g)⟩, (lwo40_h n g)⟩, (lwo40_h n g)⟩, lwo12_h⟩, lwo13_h⟩, (lwo40_h n g)⟩, lwo14_h⟩, lwo14_h⟩, lwo14_h⟩, lwo14_h⟩, (lwo57_h n g x1)⟩, (lwo57_h n g x1)⟩, (lwo57_h n g x1)⟩, (lwo57_h n g x1)⟩, (lwo52_h n g x0 x1 L)⟩, (lwo52_h n g x0 x1 L)⟩, (lwo52_h n g x0 x1 L)⟩, (lwo52_h n g x0 x1 L)⟩, (lwo58_h n g x0 x1 A1 B)⟩, (lwo58_h n g x0 x1 A1 B)⟩, (lwo58_h n g x0 x1 A1 B)⟩, lwo2_h⟩, (lwo58_h n g x0 x1 A1 B)⟩, (lwo58_h n g x0 x1 A1 B)⟩, (lwo58_h n g x0 x1 A1 B)⟩, (lwo62_h n m g h nb)⟩, (lwo58_h n g x0 x1 A1 B)⟩, (lwo58_h n g x0 x1 A1 B)⟩, (lwo63_h n m g h x1)⟩, (lwo63_h n m g h x1)⟩)
theorem lw42_p (n : Nat) (c : Nat) (g : Nat → Nat → Int) (m : Nat) (c2 : Nat) (h : Nat → Nat → Int) (x0 : Int) (x1 : Int) (N24 : n ≤ 24) (M24 : m ≤ 24) (n0 : n ≠ 0) (nb : n ≤ 65) (A1 : th2 (crV n g) (ixE x1 n) ≠ 0) (m0 : m ≠ 0) (B1 : th2 (crV n g) (ixE x0 n) ≠ 0) (L : lkE n g x0 x1 ≠ 0) : ∃ s1 R, SndF Tryz.prog 8 #[.slice (some ⟨6, 0, none⟩) n c, .agg #[.int .i64 x0, .int .i64 x1], .slice (some ⟨7, 0, none⟩) m c2] ((aw3S0.push (.rows n 1 (fun i j => .int .i64 (g i j)) 0 true 0 true)).push (.rows m 1 (fun i j => .int .i64 (h i j)) 0 true 0 true)) (.bool true) s1 R 0 :=
  sndY (r := lw42 n c g m c2 h x0 x1) (by delta lw42; exact Eq.refl _) smx lwK_ok (lw42_g n c g m c2 h x0 x1) ((lw42_o n c g m c2 h x0 x1).symm ▸ ⟨⟨⟨⟨⟨⟨⟨⟨⟨⟨⟨⟨⟨⟨⟨⟨⟨⟨⟨⟨⟨⟨⟨⟨⟨⟨⟨⟨⟨⟨⟨⟨⟨⟨⟨⟨⟨⟨⟨⟨⟨⟨⟨⟨⟨⟨⟨⟨⟨⟨⟨⟨⟨⟨⟨⟨⟨⟨⟨⟨⟨⟨⟨trivial, (lwo61_h n N24)⟩, (lwo61_h n N24)⟩, (lwo61_h n N24)⟩, (lwo61_h n N24)⟩, lwo1_h⟩, lwo1_h⟩, lwo1_h⟩, lwo1_h⟩, (lwo20_h m M24)⟩, (lwo26_h n n0 nb)⟩, lwo2_h⟩, (lwo54_h n g x1 nb A1)⟩, (lwo26_h n n0 nb)⟩, lwo4_h⟩, lwo2_h⟩, (lwo28_h n g nb)⟩, (lwo26_h n n0 nb)⟩, lwo2_h⟩, (lwo21_h m m0 M24)⟩, (lwo62_h n m g h nb)⟩, lwo2_h⟩, (lwo28_h n g nb)⟩, lwo4_h⟩, (lwo28_h n g nb)⟩, lwo9_h⟩, lwo4_h⟩, (lwo50_h n g x0 B1)⟩, lwo4_h⟩, (lwo56_h n g x1 A1)⟩, (lwo51_h n g x0 B1)⟩, (lwo26_h n n0 nb)⟩, (lwo28_h n g nb)⟩, (lwo28_h n g nb)⟩, (lwo40_h n g)⟩, (lwo40_h n g)⟩, (lwo40_h n g)⟩, lwo12_h⟩, lwo13_h⟩, (lwo40_h n g)⟩, lwo14_h⟩, lwo14_h⟩, lwo14_h⟩, lwo14_h⟩, (lwo57_h n g x1)⟩, (lwo57_h n g x1)⟩, (lwo57_h n g x1)⟩, (lwo57_h n g x1)⟩, (lwo52_h n g x0 x1 L)⟩, (lwo52_h n g x0 x1 L)⟩, (lwo52_h n g x0 x1 L)⟩, (lwo52_h n g x0 x1 L)⟩, (lwo53_h n g x0 x1 B1)⟩, (lwo53_h n g x0 x1 B1)⟩, (lwo53_h n g x0 x1 B1)⟩, lwo2_h⟩, (lwo53_h n g x0 x1 B1)⟩, (lwo53_h n g x0 x1 B1)⟩, (lwo53_h n g x0 x1 B1)⟩, (lwo62_h n m g h nb)⟩, (lwo53_h n g x0 x1 B1)⟩, (lwo53_h n g x0 x1 B1)⟩, (lwo63_h n m g h x1)⟩, (lwo63_h n m g h x1)⟩)
theorem lr_nil_nil (x0 : Int) (x1 : Int) : ∃ s1 R, SndF Tryz.prog 8 #[.slice none 0 0, .agg #[.int .i64 x0, .int .i64 x1], .slice none 0 0] ((aw3S0.push (.hole)).push (.hole)) (.bool true) s1 R 0 := by
  exact lw0_p x0 x1
theorem lr_nil_emp (c2 : Nat) (x0 : Int) (x1 : Int) : ∃ s1 R, SndF Tryz.prog 8 #[.slice none 0 0, .agg #[.int .i64 x0, .int .i64 x1], .slice (some ⟨7, 0, none⟩) 0 c2] ((aw3S0.push (.hole)).push (.hole)) (.bool true) s1 R 0 := by
  exact lw1_p c2 x0 x1
theorem lr_nil_row (m : Nat) (c2 : Nat) (h : Nat → Nat → Int) (x0 : Int) (x1 : Int) (m0 : m ≠ 0) : ∃ s1 R, SndF Tryz.prog 8 #[.slice none 0 0, .agg #[.int .i64 x0, .int .i64 x1], .slice (some ⟨7, 0, none⟩) m c2] ((aw3S0.push (.hole)).push (.rows m 1 (fun i j => .int .i64 (h i j)) 0 true 0 true)) (.bool true) s1 R 0 := by
  by_cases M : 24 < m
  · exact lw2_p m c2 h x0 x1 M
  · exact lw3_p m c2 h x0 x1 (by omega) m0
theorem lr_emp_nil (c : Nat) (x0 : Int) (x1 : Int) : ∃ s1 R, SndF Tryz.prog 8 #[.slice (some ⟨6, 0, none⟩) 0 c, .agg #[.int .i64 x0, .int .i64 x1], .slice none 0 0] ((aw3S0.push (.hole)).push (.hole)) (.bool true) s1 R 0 := by
  exact lw4_p c x0 x1
theorem lr_emp_emp (c : Nat) (c2 : Nat) (x0 : Int) (x1 : Int) : ∃ s1 R, SndF Tryz.prog 8 #[.slice (some ⟨6, 0, none⟩) 0 c, .agg #[.int .i64 x0, .int .i64 x1], .slice (some ⟨7, 0, none⟩) 0 c2] ((aw3S0.push (.hole)).push (.hole)) (.bool true) s1 R 0 := by
  exact lw5_p c c2 x0 x1
theorem lr_emp_row (c : Nat) (m : Nat) (c2 : Nat) (h : Nat → Nat → Int) (x0 : Int) (x1 : Int) (m0 : m ≠ 0) : ∃ s1 R, SndF Tryz.prog 8 #[.slice (some ⟨6, 0, none⟩) 0 c, .agg #[.int .i64 x0, .int .i64 x1], .slice (some ⟨7, 0, none⟩) m c2] ((aw3S0.push (.hole)).push (.rows m 1 (fun i j => .int .i64 (h i j)) 0 true 0 true)) (.bool true) s1 R 0 := by
  by_cases M : 24 < m
  · exact lw6_p c m c2 h x0 x1 M
  · exact lw7_p c m c2 h x0 x1 (by omega) m0
theorem lr_row_nil (n : Nat) (c : Nat) (g : Nat → Nat → Int) (x0 : Int) (x1 : Int) (n0 : n ≠ 0) : ∃ s1 R, SndF Tryz.prog 8 #[.slice (some ⟨6, 0, none⟩) n c, .agg #[.int .i64 x0, .int .i64 x1], .slice none 0 0] ((aw3S0.push (.rows n 1 (fun i j => .int .i64 (g i j)) 0 true 0 true)).push (.hole)) (.bool true) s1 R 0 := by
  by_cases N : 24 < n
  · by_cases N65 : n = 65
    · by_cases A : th2 (crV n g) (ixE x1 n) = 0
      · by_cases B : th2 (crV n g) (ixE x0 n) = 0
        · by_cases F : fallB n g x0 x1 = true
          · exact lw8_p n c g x0 x1 N N65 n0 (by omega) A B F
          · exact lw9_p n c g x0 x1 N N65 n0 (by omega) A B (by simpa using F)
        · exact lw10_p n c g x0 x1 N N65 n0 (by omega) A B (fun c => B ((lkE_b B).symm.trans c))
      · by_cases B : th2 (crV n g) (ixE x0 n) = 0
        · exact lw11_p n c g x0 x1 N N65 n0 (by omega) A B (fun c => A ((lkE_a B).symm.trans c))
        · exact lw12_p n c g x0 x1 N N65 n0 (by omega) A B (fun c => B ((lkE_b B).symm.trans c))
    · exact lw13_p n c g x0 x1 N (by omega)
  · by_cases A : th2 (crV n g) (ixE x1 n) = 0
    · by_cases B : th2 (crV n g) (ixE x0 n) = 0
      · by_cases F : fallB n g x0 x1 = true
        · exact lw14_p n c g x0 x1 (by omega) n0 (by omega) A B F
        · exact lw15_p n c g x0 x1 (by omega) n0 (by omega) A B (by simpa using F)
      · exact lw16_p n c g x0 x1 (by omega) n0 (by omega) A B (fun c => B ((lkE_b B).symm.trans c))
    · by_cases B : th2 (crV n g) (ixE x0 n) = 0
      · exact lw17_p n c g x0 x1 (by omega) n0 (by omega) A B (fun c => A ((lkE_a B).symm.trans c))
      · exact lw18_p n c g x0 x1 (by omega) n0 (by omega) A B (fun c => B ((lkE_b B).symm.trans c))
theorem lr_row_emp (n : Nat) (c : Nat) (g : Nat → Nat → Int) (c2 : Nat) (x0 : Int) (x1 : Int) (n0 : n ≠ 0) : ∃ s1 R, SndF Tryz.prog 8 #[.slice (some ⟨6, 0, none⟩) n c, .agg #[.int .i64 x0, .int .i64 x1], .slice (some ⟨7, 0, none⟩) 0 c2] ((aw3S0.push (.rows n 1 (fun i j => .int .i64 (g i j)) 0 true 0 true)).push (.hole)) (.bool true) s1 R 0 := by
  by_cases N : 24 < n
  · by_cases N65 : n = 65
    · by_cases A : th2 (crV n g) (ixE x1 n) = 0
      · by_cases B : th2 (crV n g) (ixE x0 n) = 0
        · by_cases F : fallB n g x0 x1 = true
          · exact lw19_p n c g c2 x0 x1 N N65 n0 (by omega) A B F
          · exact lw20_p n c g c2 x0 x1 N N65 n0 (by omega) A B (by simpa using F)
        · exact lw21_p n c g c2 x0 x1 N N65 n0 (by omega) A B (fun c => B ((lkE_b B).symm.trans c))
      · by_cases B : th2 (crV n g) (ixE x0 n) = 0
        · exact lw22_p n c g c2 x0 x1 N N65 n0 (by omega) A B (fun c => A ((lkE_a B).symm.trans c))
        · exact lw23_p n c g c2 x0 x1 N N65 n0 (by omega) A B (fun c => B ((lkE_b B).symm.trans c))
    · exact lw24_p n c g c2 x0 x1 N (by omega)
  · by_cases A : th2 (crV n g) (ixE x1 n) = 0
    · by_cases B : th2 (crV n g) (ixE x0 n) = 0
      · by_cases F : fallB n g x0 x1 = true
        · exact lw25_p n c g c2 x0 x1 (by omega) n0 (by omega) A B F
        · exact lw26_p n c g c2 x0 x1 (by omega) n0 (by omega) A B (by simpa using F)
      · exact lw27_p n c g c2 x0 x1 (by omega) n0 (by omega) A B (fun c => B ((lkE_b B).symm.trans c))
    · by_cases B : th2 (crV n g) (ixE x0 n) = 0
      · exact lw28_p n c g c2 x0 x1 (by omega) n0 (by omega) A B (fun c => A ((lkE_a B).symm.trans c))
      · exact lw29_p n c g c2 x0 x1 (by omega) n0 (by omega) A B (fun c => B ((lkE_b B).symm.trans c))
theorem lr_row_row (n : Nat) (c : Nat) (g : Nat → Nat → Int) (m : Nat) (c2 : Nat) (h : Nat → Nat → Int) (x0 : Int) (x1 : Int) (n0 : n ≠ 0) (m0 : m ≠ 0) : ∃ s1 R, SndF Tryz.prog 8 #[.slice (some ⟨6, 0, none⟩) n c, .agg #[.int .i64 x0, .int .i64 x1], .slice (some ⟨7, 0, none⟩) m c2] ((aw3S0.push (.rows n 1 (fun i j => .int .i64 (g i j)) 0 true 0 true)).push (.rows m 1 (fun i j => .int .i64 (h i j)) 0 true 0 true)) (.bool true) s1 R 0 := by
  by_cases N : 24 < n
  · by_cases N65 : n = 65
    · by_cases M : 24 < m
      · exact lw30_p n c g m c2 h x0 x1 N N65 M
      · by_cases A : th2 (crV n g) (ixE x1 n) = 0
        · by_cases B : th2 (crV n g) (ixE x0 n) = 0
          · by_cases F : fallB n g x0 x1 = true
            · exact lw31_p n c g m c2 h x0 x1 N N65 (by omega) n0 (by omega) A m0 B F
            · exact lw32_p n c g m c2 h x0 x1 N N65 (by omega) n0 (by omega) A m0 B (by simpa using F)
          · exact lw33_p n c g m c2 h x0 x1 N N65 (by omega) n0 (by omega) A m0 B (fun c => B ((lkE_b B).symm.trans c))
        · by_cases B : th2 (crV n g) (ixE x0 n) = 0
          · exact lw34_p n c g m c2 h x0 x1 N N65 (by omega) n0 (by omega) A m0 B (fun c => A ((lkE_a B).symm.trans c))
          · exact lw35_p n c g m c2 h x0 x1 N N65 (by omega) n0 (by omega) A m0 B (fun c => B ((lkE_b B).symm.trans c))
    · exact lw36_p n c g m c2 h x0 x1 N (by omega)
  · by_cases M : 24 < m
    · exact lw37_p n c g m c2 h x0 x1 (by omega) M
    · by_cases A : th2 (crV n g) (ixE x1 n) = 0
      · by_cases B : th2 (crV n g) (ixE x0 n) = 0
        · by_cases F : fallB n g x0 x1 = true
          · exact lw38_p n c g m c2 h x0 x1 (by omega) (by omega) n0 (by omega) A m0 B F
          · exact lw39_p n c g m c2 h x0 x1 (by omega) (by omega) n0 (by omega) A m0 B (by simpa using F)
        · exact lw40_p n c g m c2 h x0 x1 (by omega) (by omega) n0 (by omega) A m0 B (fun c => B ((lkE_b B).symm.trans c))
      · by_cases B : th2 (crV n g) (ixE x0 n) = 0
        · exact lw41_p n c g m c2 h x0 x1 (by omega) (by omega) n0 (by omega) A m0 B (fun c => A ((lkE_a B).symm.trans c))
        · exact lw42_p n c g m c2 h x0 x1 (by omega) (by omega) n0 (by omega) A m0 B (fun c => B ((lkE_b B).symm.trans c))
end Go.Proofs.YtecabbbjdnambaaGreatDoor
end
section
namespace Go.Proofs.YtecabbbjdnambaaGreatDoor
set_option linter.all false
open Go.ChangeShapes Go.WideShapes Go.RowKit
namespace Mini

def pairsK (g : TypeId → Option (List IntKind)) (P : Program) : Nat → List (Nat × TypeId) → Option (List IntKind)
  | _, [] => some []
  | off, x :: l => match g x.2 with
    | some ks => match (x.1 == off) && (P.cellsOf x.2 == ks.length) with
      | true => match pairsK g P (off + ks.length) l with
        | some r => some (ks ++ r)
        | none => none
      | false => none
    | none => none
def kindsT (P : Program) : Nat → TypeId → Option (List IntKind)
  | 0, _ => none
  | n + 1, t => match P.underlying t with
    | some (.int k) => some [k]
    | some (.array m e) => match pairsK (kindsT P n) P 0 ((List.range m).map fun i => (i * P.cellsOf e, e)) with
      | some ks => match P.cellsOf t == ks.length with
        | true => some ks
        | false => none
      | none => none
    | some (.struct fs) => match pairsK (kindsT P n) P 0 (fs.toList.map fun f => (f.offset, f.type)) with
      | some ks => match P.cellsOf t == ks.length with
        | true => some ks
        | false => none
      | none => none
    | _ => none
def wfs : List IntKind → List Int → Bool
  | k :: ks, n :: ns => (Lit.int k n).wf && wfs ks ns
  | _, _ => true
theorem backI_length : ∀ (ks : List IntKind) (ns : List Int), ns.length = ks.length → (backI ks ns).length = ks.length
  | [], [], _ => rfl
  | k :: ks, n :: ns, h => by simp only [backI, List.length_cons, backI_length ks ns (by simpa using h)]
  | [], n :: ns, h => by cases h
  | k :: ks, [], h => by cases h
theorem backI_append : ∀ (ks ks' : List IntKind) (ns ns' : List Int), ns.length = ks.length → backI (ks ++ ks') (ns ++ ns') = backI ks ns ++ backI ks' ns'
  | [], ks', [], ns', _ => rfl
  | k :: ks, ks', n :: ns, ns', h => by
    show Value.int k n :: backI (ks ++ ks') (ns ++ ns') = _
    rw [backI_append ks ks' ns ns' (by simpa using h)]
    rfl
  | [], ks', n :: ns, ns', h => by cases h
  | k :: ks, ks', [], ns', h => by cases h
theorem wfs_append : ∀ (ks ks' : List IntKind) (ns ns' : List Int), ns.length = ks.length → wfs ks ns = true → wfs ks' ns' = true → wfs (ks ++ ks') (ns ++ ns') = true
  | [], ks', [], ns', _, _, h => h
  | k :: ks, ks', n :: ns, ns', h, h1, h2 => by
    simp only [wfs, Bool.and_eq_true] at h1
    show ((Lit.int k n).wf && wfs (ks ++ ks') (ns ++ ns')) = true
    rw [h1.1, wfs_append ks ks' ns ns' (by simpa using h) h1.2 h2]
    rfl
  | [], ks', n :: ns, ns', h, _, _ => by cases h
  | k :: ks, ks', [], ns', h, _, _ => by cases h
theorem mapM_map' {α β γ : Type} (f : α → β) (g : β → Option γ) : ∀ l : List α, (l.map f).mapM g = l.mapM fun a => g (f a)
  | [] => rfl
  | a :: l => by simp [List.mapM_cons, mapM_map' f g l]

section
variable {H : Type} {enc : TypeId × Value → H} {P : Program}

def Flat (enc : TypeId × Value → H) (P : Program) (fuel : Nat) (t : TypeId) (cs : List Value) (d : DataW H) (ks : List IntKind) : Prop :=
  ∃ ns, ns.length = ks.length ∧ cs = backI ks ns ∧ wfs ks ns = true ∧ ∀ w b sp held, DataW.trod enc P w b sp held fuel t cs = some (d, [])
theorem flat_pairs {n fuel : Nat} (IH : ∀ (t : TypeId) (ks : List IntKind), kindsT P n t = some ks → ∀ (cs : List Value) (d : DataW H) (p : List MemPlace) w b sp held, DataW.trod enc P w b sp held fuel t cs = some (d, p) → p = [] ∧ Flat enc P fuel t cs d ks) :
    ∀ (L : List (Nat × TypeId)) (off : Nat) (ks : List IntKind) (cs : List Value) (xs : List (DataW H × List MemPlace)) (w : World) (b : Nat) (sp : Nat → Bool) (held : Bool), pairsK (kindsT P n) P off L = some ks → off + ks.length ≤ cs.length →
      L.mapM (fun x => DataW.trod enc P w b sp held fuel x.2 ((cs.drop x.1).take (P.cellsOf x.2))) = some xs →
      xs.flatMap (·.2) = [] ∧ ∃ ns, ns.length = ks.length ∧ (cs.drop off).take ks.length = backI ks ns ∧ wfs ks ns = true ∧ ∀ w b sp held, L.mapM (fun x => DataW.trod enc P w b sp held fuel x.2 ((cs.drop x.1).take (P.cellsOf x.2))) = some xs
  | [], off, ks, cs, xs, w, b, sp, held, hk, hl, hm => by
    cases hk
    simp at hm
    subst hm
    exact ⟨rfl, [], rfl, by simp [backI], rfl, fun _ _ _ _ => rfl⟩
  | x :: L, off, ks, cs, xs, w, b, sp, held, hk, hl, hm => by
    simp only [pairsK] at hk
    split at hk
    · rename_i ks1 hk1
      split at hk
      · rename_i hc
        simp only [Bool.and_eq_true, beq_iff_eq] at hc
        obtain ⟨hx, hcell⟩ := hc
        split at hk
        · rename_i r hr
          cases hk
          simp only [List.length_append] at hl
          simp only [List.mapM_cons, Option.bind_eq_bind, Option.bind_eq_some_iff, Option.pure_def, Option.some.injEq] at hm
          obtain ⟨y, hy, ys, hys, rfl⟩ := hm
          obtain ⟨d, p⟩ := y
          obtain ⟨rfl, ns1, l1, c1, f1, t1⟩ := IH x.2 ks1 hk1 _ d p w b sp held hy
          obtain ⟨e2, ns2, l2, c2, f2, t2⟩ := flat_pairs IH L (off + ks1.length) r cs ys w b sp held hr (by omega) hys
          refine ⟨by simpa using e2, ns1 ++ ns2, by simp [l1, l2], ?_, wfs_append _ _ _ _ l1 f1 f2, fun w' b' sp' held' => ?_⟩
          · rw [backI_append _ _ _ _ l1, ← c2, List.length_append, List.take_add, List.drop_drop]
            rw [hx, hcell] at c1
            rw [c1]
          · simp only [List.mapM_cons, Option.bind_eq_bind, Option.pure_def]
            rw [t1 w' b' sp' held', t2 w' b' sp' held']
            rfl
        · cases hk
      · cases hk
    · cases hk
theorem open_kinds : ∀ (n : Nat) (t : TypeId) (ks : List IntKind), kindsT P n t = some ks → ∀ (fuel : Nat) (cs : List Value) (d : DataW H) (p : List MemPlace) w b sp held, DataW.trod enc P w b sp held fuel t cs = some (d, p) → p = [] ∧ Flat enc P fuel t cs d ks
  | 0, t, ks, hk, fuel, cs, d, p, w, b, sp, held, h => by cases hk
  | n + 1, t, ks, hk, fuel, cs, d, p, w, b, sp, held, h => by
    cases fuel with
    | zero => simp [DataW.trod] at h
    | succ fuel =>
      simp only [kindsT] at hk
      split at hk
      · rename_i k ht
        cases hk
        obtain ⟨z, rfl, hx, hw⟩ := DataW.trod_int ht h
        cases hx
        refine ⟨rfl, [z], rfl, rfl, by simp [wfs, hw], fun w' b' sp' held' => ?_⟩
        simp [DataW.trod, ht, hw]
      · rename_i m e ht
        split at hk
        · rename_i ks' hk'
          split at hk
          · rename_i hc
            cases hk
            have hc := beq_iff_eq.1 hc
            simp only [DataW.trod, ht] at h
            split at h
            · rename_i hl
              obtain ⟨xs, hm, hx⟩ := Option.map_eq_some_iff.1 h
              have hm2 : ((List.range m).map fun i => (i * P.cellsOf e, e)).mapM (fun x => DataW.trod enc P w b sp held fuel x.2 ((cs.drop x.1).take (P.cellsOf x.2))) = some xs := by rw [mapM_map']; exact hm
              obtain ⟨e1, ns, l1, c1, f1, t1⟩ := flat_pairs (fun t ks hk cs d p w b sp held h => open_kinds n t ks hk fuel cs d p w b sp held h) _ 0 ks cs xs w b sp held hk' (by omega) hm2
              simp only [Prod.mk.injEq] at hx
              obtain ⟨rfl, rfl⟩ := hx
              refine ⟨e1, ns, l1, ?_, f1, fun w' b' sp' held' => ?_⟩
              · rw [← c1, List.drop_zero, List.take_of_length_le (by omega)]
              · have := t1 w' b' sp' held'
                rw [mapM_map'] at this
                simp only [DataW.trod, ht, if_pos hl]
                rw [this]
                simp [e1]
            · cases h
          · cases hk
        · cases hk
      · rename_i fs ht
        split at hk
        · rename_i ks' hk'
          split at hk
          · rename_i hc
            cases hk
            have hc := beq_iff_eq.1 hc
            simp only [DataW.trod, ht] at h
            split at h
            · rename_i hl
              obtain ⟨xs, hm, hx⟩ := Option.map_eq_some_iff.1 h
              have hm2 : (fs.toList.map fun f => (f.offset, f.type)).mapM (fun x => DataW.trod enc P w b sp held fuel x.2 ((cs.drop x.1).take (P.cellsOf x.2))) = some xs := by rw [mapM_map']; exact hm
              obtain ⟨e1, ns, l1, c1, f1, t1⟩ := flat_pairs (fun t ks hk cs d p w b sp held h => open_kinds n t ks hk fuel cs d p w b sp held h) _ 0 ks cs xs w b sp held hk' (by omega) hm2
              simp only [Prod.mk.injEq] at hx
              obtain ⟨rfl, rfl⟩ := hx
              refine ⟨e1, ns, l1, ?_, f1, fun w' b' sp' held' => ?_⟩
              · rw [← c1, List.drop_zero, List.take_of_length_le (by omega)]
              · have := t1 w' b' sp' held'
                rw [mapM_map'] at this
                simp only [DataW.trod, ht, if_pos hl]
                rw [this]
                simp [e1]
            · cases h
          · cases hk
        · cases hk
      · cases hk
def isRow (P : Program) (t : TypeId) : Bool := match P.underlying t with
  | some (.struct _) | some (.array _ _) => true
  | _ => false
theorem open_agg {w : World} {base b0 n : Nat} {spare : Nat → Bool} {held : Bool} {r : Reach} {t : TypeId} {v : Value} {d : DataW H} {ps : List MemPlace} {ks : List IntKind} (hr : isRow P t = true) (hk : kindsT P n t = some ks) (hval : Value.okWide P w r b0 t v) (hd : DataW.Trod enc P w base spare held t v d ps) :
    ∃ ns, ns.length = ks.length ∧ v = .agg (backI ks ns).toArray ∧ ps = [] ∧ wfs ks ns = true ∧ ∀ w b sp held, DataW.Trod enc P w b sp held t v d [] := by
  obtain ⟨cs, rfl⟩ : ∃ cs, v = .agg cs := by
    unfold isRow at hr
    unfold Value.okWide at hval
    split at hr
    · rename_i h; rw [h] at hval; obtain ⟨cs, h1, _⟩ := hval; exact ⟨cs, h1⟩
    · rename_i h; rw [h] at hval; obtain ⟨cs, h1, _⟩ := hval; exact ⟨cs, h1⟩
    · cases hr
  obtain ⟨fuel, hf⟩ := hd
  obtain ⟨rfl, ns, l1, c1, f1, t1⟩ := open_kinds n t ks hk fuel _ d ps w base spare held hf
  refine ⟨ns, l1, ?_, rfl, f1, fun w b sp held => ⟨fuel, t1 w b sp held⟩⟩
  congr 1
  apply Array.ext'
  simpa [Value.cells] using c1
theorem open_num {w : World} {base b0 : Nat} {spare : Nat → Bool} {held : Bool} {r : Reach} {t : TypeId} {k : IntKind} {v : Value} {d : DataW H} {ps : List MemPlace} (ht : P.underlying t = some (.int k)) (hval : Value.okWide P w r b0 t v) (hd : DataW.Trod enc P w base spare held t v d ps) :
    ∃ n, v = .int k n ∧ ps = [] ∧ (Lit.int k n).wf = true ∧ ∀ w b sp held, DataW.Trod enc P w b sp held t v d [] := by
  obtain ⟨n, rfl, rfl, rfl, hw⟩ := open_int ht hval hd
  exact ⟨n, rfl, rfl, hw, fun w b sp held => shut_int ht hw⟩
end
theorem bounds_i64 {n : Int} (h : (Lit.int .i64 n).wf = true) : -9223372036854775808 ≤ n ∧ n ≤ 9223372036854775807 := by
  simp [Lit.wf, IntKind.min, IntKind.max, IntKind.signed, IntKind.bits] at h
  omega
end Mini
end Go.Proofs.YtecabbbjdnambaaGreatDoor
end
section
namespace Go.Proofs.YtecabbbjdnambaaGreatDoor
set_option linter.all false
open Go.ChangeShapes Go.WideShapes Go.ChangeAt Go.RowKit

section
variable {H : Type} {enc : TypeId × Value → H} {P : Program}
theorem post_below {f : Func} {s : ChangeSpec} {W W' : World} {args : Array Value} {v : Value} {ds gs : List (DataW H)} {ps pa pv : List MemPlace} {apart fresh handsOn again : Bool} (hw : DataW.Whole enc P f.params.toList s.vars apart W args.toList ds gs ps)
    (ok : ∀ (j : Nat) (t : TypeId) (r : Value), f.resultTypes[j]? = some t → (v.resultList f.resultTypes.size)[j]? = some r → Value.okWide P W' .any 0 t r)
    (res : ∀ (b : Nat) (sp : Nat → Bool) (hd : Bool), DataW.TrodAll enc P W' b sp hd f.resultTypes.toList (v.resultList f.resultTypes.size) (s.fn H (ds ++ gs)).results [])
    (arg : ∀ sp : Nat → Bool, (∀ p ∈ ps, sp p.block = true) → DataW.TrodAll enc P W' 0 sp true f.params.toList args.toList (s.fn H (ds ++ gs)).args pa)
    (vrs : ∀ sp : Nat → Bool, (∀ p ∈ ps, sp p.block = true) → DataW.TrodVars enc P W' sp s.vars (s.fn H (ds ++ gs)).vars pv)
    (hps : ps = pa ++ pv) (hb : Below W.heap.size W W') : s.post enc P f apart fresh handsOn again W args v W' := by
  have hb' := hb
  have lt : ∀ p ∈ ps, p.block < W.heap.size := fun p hp => hw.lt p hp
  have old : ∀ p ∈ ps, (fun b => decide (b < W.heap.size)) p.block = true := fun p hp => by simpa using lt p hp
  have whole := hw
  obtain ⟨_, _, _, _, _, hz, hn⟩ := hw
  subst hps
  refine ⟨ds, gs, pa ++ pv, [], pa, pv, whole, res _ _ _, arg _ old, vrs _ old, World.keptBut_mono (fun p hp => ⟨hp, Or.inr (List.mem_append.1 hp)⟩) (hb'.frame (· ∈ pa ++ pv)), fun _ => ⟨ok, _, _, ([] ++ pa) ++ pv, ⟨[] ++ pa, pv, trodAll_append (arg _ (fun _ _ => rfl)) (res _ _ _), vrs _ (fun _ _ => rfl), rfl, fun b off hp => ?_, fun ha => ?_⟩, fun p hp _ => ?_⟩⟩
  · have hin : MemPlace.cell b off ∈ pa ++ pv := by simpa using hp
    exact (hb'.frozen (lt _ hin)).trans (hz b off hin)
  · simpa using hn ha
  · simpa using hp
end

section
open Go.Lib

theorem trod_lit {H : Type} {enc : TypeId × Value → H} {P : Program} {w : World} {base : Nat} {sp : Nat → Bool} {held : Bool} {fuel : Nat} {t : TypeId} {k : IntKind} {z : Int} {cs : List Value} {p : List MemPlace}
    (ht : P.underlying t = some (.int k)) (h : DataW.trod enc P w base sp held fuel t cs = some (.lit (.int k z), p)) : cs = [.int k z] := by
  obtain ⟨z', hc, hd, _⟩ := DataW.trod_int ht h
  cases hd
  exact hc
theorem cells_of_pairs {H : Type} {enc : TypeId × Value → H} {P : Program} {w : World} {base : Nat} {sp : Nat → Bool} {held : Bool} {fuel : Nat} {t e : TypeId} {n : Nat} {k : IntKind} {cs : List Value} {zs : List (Int × Int)} {p : List MemPlace} {fs : Array Field} {f0 f1 : Field}
    (ht : P.underlying t = some (.array n e)) (he : P.underlying e = some (.struct fs)) (hfs : fs.toList = [f0, f1]) (h0 : f0.offset = 0) (h1 : f1.offset = 1) (k0 : P.underlying f0.type = some (.int k)) (k1 : P.underlying f1.type = some (.int k))
    (c0 : P.cellsOf f0.type = 1) (c1 : P.cellsOf f1.type = 1) (hce : P.cellsOf e = 2)
    (h : DataW.trod enc P w base sp held fuel t cs = some (.agg (zs.map fun z => .agg [.lit (.int k z.1), .lit (.int k z.2)]), p)) :
    ∀ (i : Nat) (z : Int × Int), zs[i]? = some z → cs[i * 2]? = some (.int k z.1) ∧ cs[i * 2 + 1]? = some (.int k z.2) := by
  cases fuel with
  | zero => simp [DataW.trod] at h
  | succ fuel =>
    simp only [DataW.trod, ht, hce] at h
    split at h
    · rename_i hl
      obtain ⟨xs, hm, hx⟩ := Option.map_eq_some_iff.1 h
      have hxs : xs.map (·.1) = zs.map fun z => (DataW.agg [.lit (.int k z.1), .lit (.int k z.2)] : DataW H) := by
        have := congrArg Prod.fst hx
        simpa using this
      have hxl : xs.length = n := by simpa using mapM_length hm
      have hzl : zs.length = n := by
        have := congrArg List.length hxs
        simp at this
        omega
      intro i z hz
      have hi : i < n := by
        have := (List.getElem?_eq_some_iff.1 hz).1
        omega
      obtain ⟨b, hb, hf⟩ := mapM_at hm i i (by simp [hi])
      have h2 : (xs.map (·.1))[i]? = some b.1 := by simp [hb]
      rw [hxs] at h2
      simp only [List.getElem?_map, hz, Option.map_some, Option.some.injEq] at h2
      cases fuel with
      | zero => simp [DataW.trod] at hf
      | succ fuel =>
        simp only [DataW.trod, he] at hf
        split at hf
        · obtain ⟨ys, hy, hyb⟩ := Option.map_eq_some_iff.1 hf
          rw [hfs] at hy
          simp only [List.mapM_cons, List.mapM_nil, Option.bind_eq_bind, Option.bind_eq_some_iff, Option.pure_def, Option.some.injEq] at hy
          obtain ⟨y0, e0, l1, ⟨y1, e1, l2, rfl, rfl⟩, rfl⟩ := hy
          have hb1 := congrArg Prod.fst hyb
          simp only [List.map_cons, List.map_nil] at hb1
          rw [← h2] at hb1
          simp only [DataW.agg.injEq, List.cons.injEq, and_true] at hb1
          obtain ⟨q0, q1⟩ := hb1
          obtain ⟨d0, p0⟩ := y0
          obtain ⟨d1, p1⟩ := y1
          simp only at q0 q1
          subst q0 q1
          have g0 := trod_lit k0 e0
          have g1 := trod_lit k1 e1
          rw [h0, c0] at g0
          rw [h1, c1] at g1
          have a0 := congrArg (·[0]?) g0
          have a1 := congrArg (·[0]?) g1
          simp [List.getElem?_take, List.getElem?_drop] at a0 a1
          exact ⟨by simpa using a0, by simpa using a1⟩
        · cases hf
    · cases h
end
theorem pairs_of_laid {P : Program} {W : World} {name : String} {k : IntKind} {zs : List (Int × Int)} {g : Nat} {t e : TypeId} {n : Nat} {fs : Array Field} {f0 f1 : Field}
    (hg : P.globalNamed name = some g) (hty : (P.globals[g]?).map (·.type) = some t) (ht : P.underlying t = some (.array n e)) (he : P.underlying e = some (.struct fs)) (hfs : fs.toList = [f0, f1]) (h0 : f0.offset = 0) (h1 : f1.offset = 1) (k0 : P.underlying f0.type = some (.int k)) (k1 : P.underlying f1.type = some (.int k))
    (c0 : P.cellsOf f0.type = 1) (c1 : P.cellsOf f1.type = 1) (hce : P.cellsOf e = 2)
    (h : laidMet P [(name, .agg (zs.map fun z => .agg [.lit (.int k z.1), .lit (.int k z.2)]))] W) (i : Nat) (z : Int × Int) (hz : zs[i]? = some z) :
    W.cell? ⟨g, i * 2, none⟩ = some (.int k z.1) ∧ W.cell? ⟨g, i * 2 + 1, none⟩ = some (.int k z.2) := by
  obtain ⟨ps, ⟨g', t', cs, fuel, p, q, hg', ht', hvar, hd, _, _⟩, _⟩ := h
  obtain rfl := Option.some.inj (hg.symm.trans hg')
  obtain rfl := Option.some.inj (hty.symm.trans ht')
  obtain ⟨a, b⟩ := cells_of_pairs ht he hfs h0 h1 k0 k1 c0 c1 hce hd i z hz
  have r0 := World.var?_cell hg hvar (i * 2)
  have r1 := World.var?_cell hg hvar (i * 2 + 1)
  constructor
  · rw [r0]; simpa using a
  · rw [r1]; simpa using b
end Go.Proofs.YtecabbbjdnambaaGreatDoor
end
section
namespace Go.Proofs.YtecabbbjdnambaaGreatDoor
set_option linter.all false
open Go.ChangeShapes Go.WideShapes Go.ChangeAt Go.RowKit Go.Lib
theorem trod_pair {H : Type} {enc : TypeId × Value → H} {P : Program} {w : World} {base : Nat} {sp : Nat → Bool} {held : Bool} {fuel : Nat} {e : TypeId} {k : IntKind} {cs : List Value} {x y : Int} {p : List MemPlace} {fs : Array Field} {f0 f1 : Field}
    (he : P.underlying e = some (.struct fs)) (hfs : fs.toList = [f0, f1]) (h0 : f0.offset = 0) (h1 : f1.offset = 1) (k0 : P.underlying f0.type = some (.int k)) (k1 : P.underlying f1.type = some (.int k))
    (c0 : P.cellsOf f0.type = 1) (c1 : P.cellsOf f1.type = 1) (h : DataW.trod enc P w base sp held fuel e cs = some (.agg [.lit (.int k x), .lit (.int k y)], p)) : cs[0]? = some (.int k x) ∧ cs[1]? = some (.int k y) := by
  cases fuel with
  | zero => simp [DataW.trod] at h
  | succ fuel =>
    simp only [DataW.trod, he] at h
    split at h
    · obtain ⟨ys, hy, hyb⟩ := Option.map_eq_some_iff.1 h
      rw [hfs] at hy
      simp only [List.mapM_cons, List.mapM_nil, Option.bind_eq_bind, Option.bind_eq_some_iff, Option.pure_def, Option.some.injEq] at hy
      obtain ⟨y0, e0, l1, ⟨y1, e1, l2, rfl, rfl⟩, rfl⟩ := hy
      have hb1 := congrArg Prod.fst hyb
      simp only [List.map_cons, List.map_nil] at hb1
      simp only [DataW.agg.injEq, List.cons.injEq, and_true] at hb1
      obtain ⟨q0, q1⟩ := hb1
      obtain ⟨d0, p0⟩ := y0
      obtain ⟨d1, p1⟩ := y1
      simp only at q0 q1
      subst q0 q1
      have g0 := trod_lit k0 e0
      have g1 := trod_lit k1 e1
      rw [h0, c0] at g0
      rw [h1, c1] at g1
      have a0 := congrArg (·[0]?) g0
      have a1 := congrArg (·[0]?) g1
      simp [List.getElem?_take, List.getElem?_drop] at a0 a1
      exact ⟨by simpa using a0, by simpa using a1⟩
    · cases h
def quadD {H : Type} (k : IntKind) (z : Int × Int × Int × Int) : DataW H := .agg [.agg [.lit (.int k z.1), .lit (.int k z.2.1)], .agg [.lit (.int k z.2.2.1), .lit (.int k z.2.2.2)]]
theorem trod_quad {H : Type} {enc : TypeId × Value → H} {P : Program} {w : World} {base : Nat} {sp : Nat → Bool} {held : Bool} {fuel : Nat} {t e : TypeId} {k : IntKind} {cs : List Value} {z : Int × Int × Int × Int} {p : List MemPlace} {gs : Array Field} {g0 g1 : Field} {fs : Array Field} {f0 f1 : Field}
    (ht : P.underlying t = some (.struct gs)) (hgs : gs.toList = [g0, g1]) (o0 : g0.offset = 0) (o1 : g1.offset = 2) (t0 : g0.type = e) (t1 : g1.type = e) (ce : P.cellsOf e = 2)
    (he : P.underlying e = some (.struct fs)) (hfs : fs.toList = [f0, f1]) (h0 : f0.offset = 0) (h1 : f1.offset = 1) (k0 : P.underlying f0.type = some (.int k)) (k1 : P.underlying f1.type = some (.int k))
    (c0 : P.cellsOf f0.type = 1) (c1 : P.cellsOf f1.type = 1) (h : DataW.trod enc P w base sp held fuel t cs = some (quadD k z, p)) :
    cs[0]? = some (.int k z.1) ∧ cs[1]? = some (.int k z.2.1) ∧ cs[2]? = some (.int k z.2.2.1) ∧ cs[3]? = some (.int k z.2.2.2) := by
  unfold quadD at h
  cases fuel with
  | zero => simp [DataW.trod] at h
  | succ fuel =>
    simp only [DataW.trod, ht] at h
    split at h
    · obtain ⟨ys, hy, hyb⟩ := Option.map_eq_some_iff.1 h
      rw [hgs] at hy
      simp only [List.mapM_cons, List.mapM_nil, Option.bind_eq_bind, Option.bind_eq_some_iff, Option.pure_def, Option.some.injEq] at hy
      obtain ⟨y0, e0, l1, ⟨y1, e1, l2, rfl, rfl⟩, rfl⟩ := hy
      have hb1 := congrArg Prod.fst hyb
      simp only [List.map_cons, List.map_nil] at hb1
      simp only [DataW.agg.injEq, List.cons.injEq, and_true] at hb1
      obtain ⟨q0, q1⟩ := hb1
      obtain ⟨d0, p0⟩ := y0
      obtain ⟨d1, p1⟩ := y1
      simp only at q0 q1
      subst q0 q1
      rw [t0] at e0
      rw [t1] at e1
      have a := trod_pair he hfs h0 h1 k0 k1 c0 c1 e0
      have b := trod_pair he hfs h0 h1 k0 k1 c0 c1 e1
      rw [o0, ce] at a
      rw [o1, ce] at b
      simp [List.getElem?_take, List.getElem?_drop] at a b
      exact ⟨by simpa using a.1, by simpa using a.2, by simpa using b.1, by simpa using b.2⟩
    · cases h
theorem cells_of_quads {H : Type} {enc : TypeId × Value → H} {P : Program} {w : World} {base : Nat} {sp : Nat → Bool} {held : Bool} {fuel : Nat} {u t e : TypeId} {n : Nat} {k : IntKind} {cs : List Value} {zs : List (Int × Int × Int × Int)} {p : List MemPlace} {gs : Array Field} {g0 g1 : Field} {fs : Array Field} {f0 f1 : Field}
    (hu : P.underlying u = some (.array n t)) (ht : P.underlying t = some (.struct gs)) (hgs : gs.toList = [g0, g1]) (o0 : g0.offset = 0) (o1 : g1.offset = 2) (t0 : g0.type = e) (t1 : g1.type = e) (ce : P.cellsOf e = 2) (ct : P.cellsOf t = 4)
    (he : P.underlying e = some (.struct fs)) (hfs : fs.toList = [f0, f1]) (h0 : f0.offset = 0) (h1 : f1.offset = 1) (k0 : P.underlying f0.type = some (.int k)) (k1 : P.underlying f1.type = some (.int k))
    (c0 : P.cellsOf f0.type = 1) (c1 : P.cellsOf f1.type = 1)
    (h : DataW.trod enc P w base sp held fuel u cs = some (.agg (zs.map (quadD k)), p)) :
    ∀ (i : Nat) (z : Int × Int × Int × Int), zs[i]? = some z → cs[i * 4]? = some (.int k z.1) ∧ cs[i * 4 + 1]? = some (.int k z.2.1) ∧ cs[i * 4 + 2]? = some (.int k z.2.2.1) ∧ cs[i * 4 + 3]? = some (.int k z.2.2.2) := by
  cases fuel with
  | zero => simp [DataW.trod] at h
  | succ fuel =>
    simp only [DataW.trod, hu, ct] at h
    split at h
    · rename_i hl
      obtain ⟨xs, hm, hx⟩ := Option.map_eq_some_iff.1 h
      have hxs : xs.map (·.1) = zs.map (quadD (H := H) k) := by
        have := congrArg Prod.fst hx
        simpa using this
      have hxl : xs.length = n := by simpa using mapM_length hm
      have hzl : zs.length = n := by
        have := congrArg List.length hxs
        simp at this
        omega
      intro i z hz
      have hi : i < n := by
        have := (List.getElem?_eq_some_iff.1 hz).1
        omega
      obtain ⟨b, hb, hf⟩ := mapM_at hm i i (by simp [hi])
      have h2 : (xs.map (·.1))[i]? = some b.1 := by simp [hb]
      rw [hxs] at h2
      simp only [List.getElem?_map, hz, Option.map_some, Option.some.injEq] at h2
      obtain ⟨bd, bp⟩ := b
      simp only at h2
      subst h2
      have a := trod_quad ht hgs o0 o1 t0 t1 ce he hfs h0 h1 k0 k1 c0 c1 hf
      simp [List.getElem?_take, List.getElem?_drop] at a
      exact ⟨by simpa using a.1, by simpa using a.2.1, by simpa using a.2.2.1, by simpa using a.2.2.2⟩
    · cases h
theorem quads_of_laid {P : Program} {W : World} {name : String} {k : IntKind} {zs : List (Int × Int × Int × Int)} {g : Nat} {u t e : TypeId} {n : Nat} {gs : Array Field} {g0 g1 : Field} {fs : Array Field} {f0 f1 : Field}
    (hg : P.globalNamed name = some g) (hty : (P.globals[g]?).map (·.type) = some u)
    (hu : P.underlying u = some (.array n t)) (ht : P.underlying t = some (.struct gs)) (hgs : gs.toList = [g0, g1]) (o0 : g0.offset = 0) (o1 : g1.offset = 2) (t0 : g0.type = e) (t1 : g1.type = e) (ce : P.cellsOf e = 2) (ct : P.cellsOf t = 4)
    (he : P.underlying e = some (.struct fs)) (hfs : fs.toList = [f0, f1]) (h0 : f0.offset = 0) (h1 : f1.offset = 1) (k0 : P.underlying f0.type = some (.int k)) (k1 : P.underlying f1.type = some (.int k))
    (c0 : P.cellsOf f0.type = 1) (c1 : P.cellsOf f1.type = 1)
    (h : laidMet P [(name, .agg (zs.map (quadD k)))] W) (i : Nat) (z : Int × Int × Int × Int) (hz : zs[i]? = some z) :
    W.cell? ⟨g, i * 4, none⟩ = some (.int k z.1) ∧ W.cell? ⟨g, i * 4 + 1, none⟩ = some (.int k z.2.1) ∧ W.cell? ⟨g, i * 4 + 2, none⟩ = some (.int k z.2.2.1) ∧ W.cell? ⟨g, i * 4 + 3, none⟩ = some (.int k z.2.2.2) := by
  obtain ⟨ps, ⟨g', t', cs, fuel, p, q, hg', ht', hvar, hd, _, _⟩, _⟩ := h
  obtain rfl := Option.some.inj (hg.symm.trans hg')
  obtain rfl := Option.some.inj (hty.symm.trans ht')
  obtain ⟨a, b, c, d⟩ := cells_of_quads hu ht hgs o0 o1 t0 t1 ce ct he hfs h0 h1 k0 k1 c0 c1 hd i z hz
  have r0 := World.var?_cell hg hvar (i * 4)
  have r1 := World.var?_cell hg hvar (i * 4 + 1)
  have r2 := World.var?_cell hg hvar (i * 4 + 2)
  have r3 := World.var?_cell hg hvar (i * 4 + 3)
  exact ⟨by rw [r0]; simpa using a, by rw [r1]; simpa using b, by rw [r2]; simpa using c, by rw [r3]; simpa using d⟩
end Go.Proofs.YtecabbbjdnambaaGreatDoor
end
section
namespace Go.Proofs.YtecabbbjdnambaaGreatDoor
set_option linter.all false
open Go.RowKit
namespace Mini
variable {P : Program} {s s1 : St} {R W : Nat}

def rhoX (P : Program) (w : World) (ext : Nat → Option Loc) : Ren := fun b =>
  if b < P.globals.size then some ⟨b, 0, true, 0, match w.heap[b]? with | some (.cells cs _ _) => cs.size | _ => 0⟩ else ext b
theorem calls_ofX {f : FuncId} {args args' : Array Value} {v : Value} {w : World} {ext : Nat → Option Loc} (h : SndF P f args s v s1 R W) (hg : ground 8 v = true) (hn : P.globals.size ≤ s.next)
    (hh : ∀ b, b < P.globals.size → s.get b = .hole ∨ ∃ c e, s.get b = .cells c e true 0 true ∧ c ≠ [] ∧ c.all (ground 8) = true ∧ ∀ (i : Nat) (v : Value), c[i]? = some v → w.cell? ⟨b, i, none⟩ = some v)
    (hx : ∀ b, P.globals.size ≤ b → b < s.next → s.get b ≠ .hole → ∃ L o', ext b = some L ∧ (roO (s.get b) = false → P.globals.size ≤ L.blk) ∧ w.heap[L.blk]? = some o' ∧ OR (rhoX P w ext) L (s.get b) o')
    (hb : ∀ b, s.next ≤ b → ext b = none) (hi : ∀ b b' L L', P.globals.size ≤ b → P.globals.size ≤ b' → s.get b ≠ .hole → s.get b' ≠ .hole → (roO (s.get b) && roO (s.get b')) = false → ext b = some L → ext b' = some L' → L.blk = L'.blk → b = b')
    (ha : VRs (rhoX P w ext) args args') (hw : ∀ b, b < s.next → W.testBit b = false) : Calls P f args' w fun e w' => e = .returned v ∧ Below w.heap.size w w' := by
  have hG : Glob P (rhoX P w ext) := fun g hg => ⟨_, if_pos hg, rfl, rfl⟩
  have hlt : ∀ b, s.get b ≠ .hole → b < s.next := fun b hb => St.lt_of_live hb
  have hblk : ∀ b L, s.get b ≠ .hole → rhoX P w ext b = some L → (b < P.globals.size ∧ L.blk = b) ∨ (P.globals.size ≤ b ∧ ext b = some L ∧ (roO (s.get b) = false → P.globals.size ≤ L.blk)) := fun b L hb hL => by
    unfold rhoX at hL
    split at hL
    · rename_i c; cases hL; exact .inl ⟨c, rfl⟩
    · rename_i c
      obtain ⟨L2, o2, e1, e2, _⟩ := hx b (by omega) (hlt b hb) hb
      rw [hL] at e1
      cases e1
      exact .inr ⟨by omega, hL, e2⟩
  have hp : Pre P none s s1 R W none (rhoX P w ext) s.get w := by
    refine ⟨hG, trivial, fun _ _ _ => rfl, fun b h1 h2 => ⟨?_, St.get_beyond s b h1⟩, fun b hb => ?_, fun b b' L L' h1 h2 hq e1 e2 he => ?_⟩
    · show (if b < P.globals.size then _ else ext b) = none
      rw [if_neg (by omega)]
      exact hb b h1
    · by_cases c : b < P.globals.size
      · rcases hh b c with k | ⟨cs0, e, k1, k2, k3, k4⟩
        · exact absurd k hb
        · obtain ⟨cs, e', fr, q1, q2, q3⟩ := cells_of k2 k4
          refine ⟨_, .cells cs e' fr, if_pos c, q1, ?_⟩
          rw [k1]
          refine ⟨rfl, rfl, fun h => (by cases h), ?_, ?_, fun i u hi => ⟨u, by simpa using q3 i u hi, ground_refl 8 (List.all_eq_true.1 k3 u (List.mem_of_getElem? hi))⟩, fun h => (by cases h), fun h => (by cases h)⟩
          · simp only [q1]
          · simp only [q1, Nat.zero_add]; exact q2
      · obtain ⟨L, o', e1, _, e3, e4⟩ := hx b (by omega) (hlt b hb) hb
        exact ⟨L, o', by show (if b < P.globals.size then _ else ext b) = _; rw [if_neg c]; exact e1, e3, e4⟩
    · have htab : ∀ b, b < P.globals.size → s.get b ≠ .hole → roO (s.get b) = true := fun b hb hn => by
        rcases hh b hb with k | ⟨c, e, k1, _⟩
        · exact absurd k hn
        · rw [k1]; rfl
      rcases hblk b L h1 e1 with ⟨a1, a2⟩ | ⟨a1, a2, a3⟩ <;> rcases hblk b' L' h2 e2 with ⟨c1, c2⟩ | ⟨c1, c2, c3⟩
      · omega
      · rw [htab b a1 h1, Bool.true_and] at hq
        have := c3 hq
        omega
      · rw [htab b' c1 h2, Bool.and_true] at hq
        have := a3 hq
        omega
      · exact hi b b' L L' a1 c1 h1 h2 hq a2 c2 he
  refine callsIn_wide.1 (h.2 0 (rhoX P w ext) s.get args' w _ hp ha fun ρ1 v' w1 p1 _ hv => ?_)
  have hv' := ground_eq 8 hg hv
  subst hv'
  refine ⟨rfl, p1.os, p1.tape, p1.output, p1.size, fun k hk => p1.frame k hk fun b L hb hlt hL => ?_⟩
  have := hw b hlt
  rw [hb] at this
  cases this
theorem or_read {ρ : Ren} {n k : Nat} {g : Nat → Nat → Value} {e : TypeId} {cs : Array Value} {e' : TypeId} {fr : Nat × Nat} {blk base : Nat} (hl : base + n * k ≤ cs.size) (hg : ∀ i j, i < n → j < k → ground 8 (g i j) = true)
    (h : ∀ i j, i < n → j < k → cs[base + (i * k + j)]? = some (g i j)) : OR ρ ⟨blk, base, true, 0, cs.size⟩ (.rows n k g e true 0 true) (.cells cs e' fr) := by
  refine ⟨rfl, rfl, fun h => (by cases h), rfl, by rw [rowsL_len]; exact hl, fun i v hi => ?_, fun h => (by cases h), fun h => (by cases h)⟩
  have hlt : i < n * k := by
    have := (List.getElem?_eq_some_iff.1 hi).1
    rwa [rowsL_len] at this
  rw [rowsL_at hlt] at hi
  cases hi
  have hk : 0 < k := by
    rcases Nat.eq_zero_or_pos k with z | z
    · subst z; simp at hlt
    · exact z
  have h1 := (Nat.div_lt_iff_lt_mul hk).2 hlt
  have h2 := Nat.mod_lt i hk
  have h3 := h _ _ h1 h2
  rw [Nat.mul_comm, Nat.div_add_mod] at h3
  exact ⟨_, h3, ground_refl 8 (hg _ _ h1 h2)⟩
end Mini
end Go.Proofs.YtecabbbjdnambaaGreatDoor
end
