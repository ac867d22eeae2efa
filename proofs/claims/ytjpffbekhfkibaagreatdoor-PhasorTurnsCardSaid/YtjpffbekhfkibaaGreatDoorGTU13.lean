/-
  PhasorTurns: for all arguments the law returns true and leaves its arguments as they were, wherever the tables that its row lists are laid as the text lays them.
  The law PhasorTurns in each real world.
  Slices of numbers (or of structs and arrays of numbers) as arguments: what the program reads of them; a law over a row in the small world holds in the real one.
  From a call in the small world to a real one whose arguments lie in memory.
  Tables of structures of two pairs on a row's list.
  The last step of a row whose call leaves a world of which only 'Below' is known; tables of pairs on a row's list.
  Arguments that are made of integers alone (numbers, arrays and structs of them, in any depth), opened: their cells are numbers, and their data is the same in each world.
  The law PhasorTurns over a row that is not empty.
  A way through the law PhasorTurns.
  A way through the law PhasorTurns.
  A way through the law PhasorTurns.
  A way through the law PhasorTurns.
  A way through the law PhasorTurns.
  A way through the law PhasorTurns.
-/
import Derived.Test.YtjpffbekhfkibaaGreatDoorGTU12
import Derived.Test.YtjpffbekhfkibaaGreatDoorGTU2
import Derived.OpenShut
import Derived.RowKit
import Derived.WideShapes
import Derived.Below
import Derived.ChangeSame
import Derived.ProofKit
import Derived.JoinedCond
import Derived.JoinedOf
import Derived.JoinedAt
import Derived.RowKit3
import Derived.Lib.LaidTab
import Derived.LaidSub
import Derived.Deep.Slices
import Derived.WideKeyArgs
import Derived.Test.YtjpffbekhfkibaaGreatDoorCards
import Derived.Test.YtjpffbekhfkibaaGreatDoorTie
import Derived.WalkKit
import Derived.Deep.DeepHandedRow
section
set_option linter.all false
set_option maxRecDepth 1000000
set_option maxHeartbeats 1000000
open Go.RowKit
namespace Go.Proofs.YtjpffbekhfkibaaGreatDoor
open Mini
noncomputable def le_0 (c : Nat) (z0 z1 z2 z3 z4 z5 z6 z7 z8 z9 z10 z11 k : Int) : Option OutS := evFS Tryz.prog ltX 1000 3 (ltArgs 0 c z0 z1 z2 z3 z4 z5 z6 z7 z8 z9 z10 z11 k) (awS0.push .hole) ⟨[0, 0, .azz (.slice (some ⟨8, 0, none⟩) 0 0), .azz (.slice (some ⟨8, 0, none⟩) 0 0), .azz (.int .i64 k), 1, 0, .azz (.slice (some ⟨10, 0, none⟩) 0 0), .azz (.slice (some ⟨10, 0, none⟩) 0 0), .azz (.int .i64 k), .azz (.int .i64 (-k)), 1, 1, 1, 1, 0, 0, 1, 0, 0, 1, 0, 0, 0, 1, 1, 1, 1, 1, 2, 1, 2, 2, 2, 3, 1, 3, 3, 3, 4, 1, 4, 4, 4, 5, 1, 5, 5, 5, 0, 0, 2, 1, 1, 1, 0, 1, 1, 1, 1, 1, 0, 0, 1, 1, 0, 1, 2, 0, 1, 3, 0, 1, 4, 0, 1, 5, 0, 0, 1, 0, 0, 1, 1, 1, 0, 0, .azz (.int .i64 k), .azz (.int .i64 (k.tmod 6)), .azz (.int .i64 (k.tmod 6 + 6)), .azz (.int .i64 0), 0, 0, 0, 0, 0, 0, .azz (.int .i64 (0)), 2, 1, 1, 1, 0, 0, 0, 1, 0, 0, 0, 1, 0, 0, 1, 1, 0, 1, 1, 1, 1, 1, 1, 1, 1, 0, 1, 1, 0, 1, 1, 1, 0, 1, 1, 0, 1, 1, 1, 0, 0, 1, 1, 1, 1, 0, 1, 1, 1, 1, 1, 1, 1, 1, 2, 1, 1, 0, 1, 1, 1, 1, 1, 1, 0, 1, 1, 1, 1, 1, 1, 0, 0, 1, 2, 2, 2, 0, 1, 1, 2, 1, 1, 1, 1, 1, 3, 1, 1, 0, 1, 1, 2, 1, 1, 1, 0, 1, 1, 2, 1, 1, 1, 0, 0, 1, 3, 3, 3, 0, 1, 1, 3, 1, 1, 1, 1, 1, 4, 1, 1, 0, 1, 1, 3, 1, 1, 1, 0, 1, 1, 3, 1, 1, 1, 0, 0, 1, 4, 4, 4, 0, 1, 1, 4, 1, 1, 1, 1, 1, 5, 1, 1, 0, 1, 1, 4, 1, 1, 1, 0, 1, 1, 4, 1, 1, 1, 0, 0, 1, 5, 5, 5, 0, 1, 1, 5, 1, 1, 1, 1, 1, 0, 1, 1, 0, 1, 1, 5, 1, 1, 1, 0, 1, 1, 5, 1, 1, 1, 0, 0, 0, 1, 1], True⟩
def le_0_ob (c : Nat) (z0 z1 z2 z3 z4 z5 z6 z7 z8 z9 z10 z11 k : Int) : Prop := ltT0 (ltS1 ((((((((((((((((((((True ∧ ltb175) ∧ ltb176) ∧ ltb183) ∧ ltb183) ∧ ltb3 k) ∧ ltb178 k) ∧ ltb5) ∧ ltb184) ∧ ltb184) ∧ ltb3 k) ∧ ltb6 k) ∧ ltb180 k) ∧ ltb5) ∧ ltb5) ∧ ltb5) ∧ ltb181) ∧ ltb176) ∧ ltb5) ∧ ltb5) ∧ ltb182) z0 z1 z2 z3 z4 z5 z6 z7 z8 z9 z10 z11 k) z0 z1 z2 z3 z4 z5 z6 z7 z8 z9 z10 z11 k
theorem le_0_o (c : Nat) (z0 z1 z2 z3 z4 z5 z6 z7 z8 z9 z10 z11 k : Int) : obZ (le_0 c z0 z1 z2 z3 z4 z5 z6 z7 z8 z9 z10 z11 k) = le_0_ob c z0 z1 z2 z3 z4 z5 z6 z7 z8 z9 z10 z11 k := by kernel_rfl
theorem le_0_g (c : Nat) (z0 z1 z2 z3 z4 z5 z6 z7 z8 z9 z10 z11 k : Int) : goodZ (le_0 c z0 z1 z2 z3 z4 z5 z6 z7 z8 z9 z10 z11 k) = true := by kernel_rfl
theorem le_0_h (c : Nat) (z0 z1 z2 z3 z4 z5 z6 z7 z8 z9 z10 z11 k : Int) (hk : -128 ≤ k ∧ k ≤ 127) (hc : (k.tmod 6 + 6).tmod 6 = 0) : le_0_ob c z0 z1 z2 z3 z4 z5 z6 z7 z8 z9 z10 z11 k := ltT0_h (ltS1_h (show ((((((((((((((((((((True ∧ ltb175) ∧ ltb176) ∧ ltb183) ∧ ltb183) ∧ ltb3 k) ∧ ltb178 k) ∧ ltb5) ∧ ltb184) ∧ ltb184) ∧ ltb3 k) ∧ ltb6 k) ∧ ltb180 k) ∧ ltb5) ∧ ltb5) ∧ ltb5) ∧ ltb181) ∧ ltb176) ∧ ltb5) ∧ ltb5) ∧ ltb182) from ⟨⟨⟨⟨⟨⟨⟨⟨⟨⟨⟨⟨⟨⟨⟨⟨⟨⟨⟨⟨trivial, ltb175_ok⟩, ltb176_ok⟩, ltb183_ok⟩, ltb183_ok⟩, ltb3_ok k hk⟩, ltb178_ok k hk⟩, ltb5_ok⟩, ltb184_ok⟩, ltb184_ok⟩, ltb3_ok k hk⟩, ltb6_ok k hk⟩, ltb180_ok k hk⟩, ltb5_ok⟩, ltb5_ok⟩, ltb5_ok⟩, ltb181_ok⟩, ltb176_ok⟩, ltb5_ok⟩, ltb5_ok⟩, ltb182_ok⟩) z0 z1 z2 z3 z4 z5 z6 z7 z8 z9 z10 z11 k hk) z0 z1 z2 z3 z4 z5 z6 z7 z8 z9 z10 z11 k hk hc
theorem le_0_true (c : Nat) (z0 z1 z2 z3 z4 z5 z6 z7 z8 z9 z10 z11 k : Int) (hk : -128 ≤ k ∧ k ≤ 127) (hc : (k.tmod 6 + 6).tmod 6 = 0) : ∃ s1 R, SndF Tryz.prog 3 (ltArgs 0 c z0 z1 z2 z3 z4 z5 z6 z7 z8 z9 z10 z11 k) (awS0.push .hole) (.bool true) s1 R 0 :=
  sndZ (r := le_0 c z0 z1 z2 z3 z4 z5 z6 z7 z8 z9 z10 z11 k) (by delta le_0; exact Eq.refl _) smx ltX_ok (le_0_g c z0 z1 z2 z3 z4 z5 z6 z7 z8 z9 z10 z11 k) ((le_0_o c z0 z1 z2 z3 z4 z5 z6 z7 z8 z9 z10 z11 k).symm ▸ le_0_h c z0 z1 z2 z3 z4 z5 z6 z7 z8 z9 z10 z11 k hk hc)
end Go.Proofs.YtjpffbekhfkibaaGreatDoor
end
section
set_option linter.all false
set_option maxRecDepth 1000000
set_option maxHeartbeats 1000000
open Go.RowKit
namespace Go.Proofs.YtjpffbekhfkibaaGreatDoor
open Mini
noncomputable def le_1 (c : Nat) (z0 z1 z2 z3 z4 z5 z6 z7 z8 z9 z10 z11 k : Int) : Option OutS := evFS Tryz.prog ltX 1000 3 (ltArgs 0 c z0 z1 z2 z3 z4 z5 z6 z7 z8 z9 z10 z11 k) (awS0.push .hole) ⟨[0, 0, .azz (.slice (some ⟨8, 0, none⟩) 0 0), .azz (.slice (some ⟨8, 0, none⟩) 0 0), .azz (.int .i64 k), 1, 0, .azz (.slice (some ⟨10, 0, none⟩) 0 0), .azz (.slice (some ⟨10, 0, none⟩) 0 0), .azz (.int .i64 k), .azz (.int .i64 (-k)), 1, 1, 1, 1, 0, 0, 1, 0, 0, 1, 0, 0, 0, 1, 1, 1, 1, 1, 2, 1, 2, 2, 2, 3, 1, 3, 3, 3, 4, 1, 4, 4, 4, 5, 1, 5, 5, 5, 0, 0, 2, 1, 1, 1, 0, 1, 1, 1, 1, 1, 0, 0, 1, 1, 0, 1, 2, 0, 1, 3, 0, 1, 4, 0, 1, 5, 0, 0, 1, 0, 0, 1, 1, 1, 0, 0, .azz (.int .i64 k), .azz (.int .i64 (k.tmod 6)), .azz (.int .i64 (k.tmod 6 + 6)), .azz (.int .i64 1), 0, 0, 0, 0, 0, 0, .azz (.int .i64 (-1)), 2, 1, 1, 1, 0, 0, 0, 1, 0, 0, 0, 0, 1, 1, 0, 1, 1, 1, 1, 1, 1, 1, 1, 0, 1, 1, 0, 1, 1, 1, 0, 1, 1, 0, 1, 1, 1, 0, 0, 1, 1, 1, 1, 1, 0, 0, 1, 1, 1, 1, 1, 1, 1, 1, 2, 1, 1, 0, 1, 1, 1, 1, 1, 1, 0, 1, 1, 1, 1, 1, 1, 0, 0, 1, 2, 2, 2, 0, 1, 1, 2, 1, 1, 1, 1, 1, 3, 1, 1, 0, 1, 1, 2, 1, 1, 1, 0, 1, 1, 2, 1, 1, 1, 0, 0, 1, 3, 3, 3, 0, 1, 1, 3, 1, 1, 1, 1, 1, 4, 1, 1, 0, 1, 1, 3, 1, 1, 1, 0, 1, 1, 3, 1, 1, 1, 0, 0, 1, 4, 4, 4, 0, 1, 1, 4, 1, 1, 1, 1, 1, 5, 1, 1, 0, 1, 1, 4, 1, 1, 1, 0, 1, 1, 4, 1, 1, 1, 0, 0, 1, 5, 5, 5, 0, 1, 1, 5, 1, 1, 1, 1, 1, 0, 1, 1, 0, 1, 1, 5, 1, 1, 1, 0, 1, 1, 5, 1, 1, 1, 0, 0, 0, 1, 1], True⟩
def le_1_ob (c : Nat) (z0 z1 z2 z3 z4 z5 z6 z7 z8 z9 z10 z11 k : Int) : Prop := ltT1 (ltS1 ((((((((((((((((((((True ∧ ltb175) ∧ ltb176) ∧ ltb183) ∧ ltb183) ∧ ltb3 k) ∧ ltb178 k) ∧ ltb5) ∧ ltb184) ∧ ltb184) ∧ ltb3 k) ∧ ltb6 k) ∧ ltb180 k) ∧ ltb5) ∧ ltb5) ∧ ltb5) ∧ ltb181) ∧ ltb176) ∧ ltb5) ∧ ltb5) ∧ ltb182) z0 z1 z2 z3 z4 z5 z6 z7 z8 z9 z10 z11 k) z0 z1 z2 z3 z4 z5 z6 z7 z8 z9 z10 z11 k
theorem le_1_o (c : Nat) (z0 z1 z2 z3 z4 z5 z6 z7 z8 z9 z10 z11 k : Int) : obZ (le_1 c z0 z1 z2 z3 z4 z5 z6 z7 z8 z9 z10 z11 k) = le_1_ob c z0 z1 z2 z3 z4 z5 z6 z7 z8 z9 z10 z11 k := by kernel_rfl
theorem le_1_g (c : Nat) (z0 z1 z2 z3 z4 z5 z6 z7 z8 z9 z10 z11 k : Int) : goodZ (le_1 c z0 z1 z2 z3 z4 z5 z6 z7 z8 z9 z10 z11 k) = true := by kernel_rfl
theorem le_1_h (c : Nat) (z0 z1 z2 z3 z4 z5 z6 z7 z8 z9 z10 z11 k : Int) (hk : -128 ≤ k ∧ k ≤ 127) (hc : (k.tmod 6 + 6).tmod 6 = 1) : le_1_ob c z0 z1 z2 z3 z4 z5 z6 z7 z8 z9 z10 z11 k := ltT1_h (ltS1_h (show ((((((((((((((((((((True ∧ ltb175) ∧ ltb176) ∧ ltb183) ∧ ltb183) ∧ ltb3 k) ∧ ltb178 k) ∧ ltb5) ∧ ltb184) ∧ ltb184) ∧ ltb3 k) ∧ ltb6 k) ∧ ltb180 k) ∧ ltb5) ∧ ltb5) ∧ ltb5) ∧ ltb181) ∧ ltb176) ∧ ltb5) ∧ ltb5) ∧ ltb182) from ⟨⟨⟨⟨⟨⟨⟨⟨⟨⟨⟨⟨⟨⟨⟨⟨⟨⟨⟨⟨trivial, ltb175_ok⟩, ltb176_ok⟩, ltb183_ok⟩, ltb183_ok⟩, ltb3_ok k hk⟩, ltb178_ok k hk⟩, ltb5_ok⟩, ltb184_ok⟩, ltb184_ok⟩, ltb3_ok k hk⟩, ltb6_ok k hk⟩, ltb180_ok k hk⟩, ltb5_ok⟩, ltb5_ok⟩, ltb5_ok⟩, ltb181_ok⟩, ltb176_ok⟩, ltb5_ok⟩, ltb5_ok⟩, ltb182_ok⟩) z0 z1 z2 z3 z4 z5 z6 z7 z8 z9 z10 z11 k hk) z0 z1 z2 z3 z4 z5 z6 z7 z8 z9 z10 z11 k hk hc
theorem le_1_true (c : Nat) (z0 z1 z2 z3 z4 z5 z6 z7 z8 z9 z10 z11 k : Int) (hk : -128 ≤ k ∧ k ≤ 127) (hc : (k.tmod 6 + 6).tmod 6 = 1) : ∃ s1 R, SndF Tryz.prog 3 (ltArgs 0 c z0 z1 z2 z3 z4 z5 z6 z7 z8 z9 z10 z11 k) (awS0.push .hole) (.bool true) s1 R 0 :=
  sndZ (r := le_1 c z0 z1 z2 z3 z4 z5 z6 z7 z8 z9 z10 z11 k) (by delta le_1; exact Eq.refl _) smx ltX_ok (le_1_g c z0 z1 z2 z3 z4 z5 z6 z7 z8 z9 z10 z11 k) ((le_1_o c z0 z1 z2 z3 z4 z5 z6 z7 z8 z9 z10 z11 k).symm ▸ le_1_h c z0 z1 z2 z3 z4 z5 z6 z7 z8 z9 z10 z11 k hk hc)
end Go.Proofs.YtjpffbekhfkibaaGreatDoor
end
section
set_option linter.all false
set_option maxRecDepth 1000000
set_option maxHeartbeats 1000000
open Go.RowKit
namespace Go.Proofs.YtjpffbekhfkibaaGreatDoor
open Mini
noncomputable def le_2 (c : Nat) (z0 z1 z2 z3 z4 z5 z6 z7 z8 z9 z10 z11 k : Int) : Option OutS := evFS Tryz.prog ltX 1000 3 (ltArgs 0 c z0 z1 z2 z3 z4 z5 z6 z7 z8 z9 z10 z11 k) (awS0.push .hole) ⟨[0, 0, .azz (.slice (some ⟨8, 0, none⟩) 0 0), .azz (.slice (some ⟨8, 0, none⟩) 0 0), .azz (.int .i64 k), 1, 0, .azz (.slice (some ⟨10, 0, none⟩) 0 0), .azz (.slice (some ⟨10, 0, none⟩) 0 0), .azz (.int .i64 k), .azz (.int .i64 (-k)), 1, 1, 1, 1, 0, 0, 1, 0, 0, 1, 0, 0, 0, 1, 1, 1, 1, 1, 2, 1, 2, 2, 2, 3, 1, 3, 3, 3, 4, 1, 4, 4, 4, 5, 1, 5, 5, 5, 0, 0, 2, 1, 1, 1, 0, 1, 1, 1, 1, 1, 0, 0, 1, 1, 0, 1, 2, 0, 1, 3, 0, 1, 4, 0, 1, 5, 0, 0, 1, 0, 0, 1, 1, 1, 0, 0, .azz (.int .i64 k), .azz (.int .i64 (k.tmod 6)), .azz (.int .i64 (k.tmod 6 + 6)), .azz (.int .i64 2), 0, 0, 0, 0, 0, 0, .azz (.int .i64 (-2)), 2, 1, 1, 1, 0, 0, 0, 1, 0, 0, 0, 0, 1, 1, 0, 1, 1, 1, 1, 1, 1, 1, 1, 0, 1, 1, 0, 1, 1, 1, 0, 1, 1, 0, 1, 1, 1, 0, 0, 1, 1, 1, 1, 0, 1, 1, 1, 1, 1, 1, 1, 1, 2, 1, 1, 0, 1, 1, 1, 1, 1, 1, 0, 1, 1, 1, 1, 1, 1, 0, 0, 1, 2, 2, 2, 1, 0, 0, 1, 1, 2, 1, 1, 1, 1, 1, 3, 1, 1, 0, 1, 1, 2, 1, 1, 1, 0, 1, 1, 2, 1, 1, 1, 0, 0, 1, 3, 3, 3, 0, 1, 1, 3, 1, 1, 1, 1, 1, 4, 1, 1, 0, 1, 1, 3, 1, 1, 1, 0, 1, 1, 3, 1, 1, 1, 0, 0, 1, 4, 4, 4, 0, 1, 1, 4, 1, 1, 1, 1, 1, 5, 1, 1, 0, 1, 1, 4, 1, 1, 1, 0, 1, 1, 4, 1, 1, 1, 0, 0, 1, 5, 5, 5, 0, 1, 1, 5, 1, 1, 1, 1, 1, 0, 1, 1, 0, 1, 1, 5, 1, 1, 1, 0, 1, 1, 5, 1, 1, 1, 0, 0, 0, 1, 1], True⟩
def le_2_ob (c : Nat) (z0 z1 z2 z3 z4 z5 z6 z7 z8 z9 z10 z11 k : Int) : Prop := ltT2 (ltS1 ((((((((((((((((((((True ∧ ltb175) ∧ ltb176) ∧ ltb183) ∧ ltb183) ∧ ltb3 k) ∧ ltb178 k) ∧ ltb5) ∧ ltb184) ∧ ltb184) ∧ ltb3 k) ∧ ltb6 k) ∧ ltb180 k) ∧ ltb5) ∧ ltb5) ∧ ltb5) ∧ ltb181) ∧ ltb176) ∧ ltb5) ∧ ltb5) ∧ ltb182) z0 z1 z2 z3 z4 z5 z6 z7 z8 z9 z10 z11 k) z0 z1 z2 z3 z4 z5 z6 z7 z8 z9 z10 z11 k
theorem le_2_o (c : Nat) (z0 z1 z2 z3 z4 z5 z6 z7 z8 z9 z10 z11 k : Int) : obZ (le_2 c z0 z1 z2 z3 z4 z5 z6 z7 z8 z9 z10 z11 k) = le_2_ob c z0 z1 z2 z3 z4 z5 z6 z7 z8 z9 z10 z11 k := by kernel_rfl
theorem le_2_g (c : Nat) (z0 z1 z2 z3 z4 z5 z6 z7 z8 z9 z10 z11 k : Int) : goodZ (le_2 c z0 z1 z2 z3 z4 z5 z6 z7 z8 z9 z10 z11 k) = true := by kernel_rfl
theorem le_2_h (c : Nat) (z0 z1 z2 z3 z4 z5 z6 z7 z8 z9 z10 z11 k : Int) (hk : -128 ≤ k ∧ k ≤ 127) (hc : (k.tmod 6 + 6).tmod 6 = 2) : le_2_ob c z0 z1 z2 z3 z4 z5 z6 z7 z8 z9 z10 z11 k := ltT2_h (ltS1_h (show ((((((((((((((((((((True ∧ ltb175) ∧ ltb176) ∧ ltb183) ∧ ltb183) ∧ ltb3 k) ∧ ltb178 k) ∧ ltb5) ∧ ltb184) ∧ ltb184) ∧ ltb3 k) ∧ ltb6 k) ∧ ltb180 k) ∧ ltb5) ∧ ltb5) ∧ ltb5) ∧ ltb181) ∧ ltb176) ∧ ltb5) ∧ ltb5) ∧ ltb182) from ⟨⟨⟨⟨⟨⟨⟨⟨⟨⟨⟨⟨⟨⟨⟨⟨⟨⟨⟨⟨trivial, ltb175_ok⟩, ltb176_ok⟩, ltb183_ok⟩, ltb183_ok⟩, ltb3_ok k hk⟩, ltb178_ok k hk⟩, ltb5_ok⟩, ltb184_ok⟩, ltb184_ok⟩, ltb3_ok k hk⟩, ltb6_ok k hk⟩, ltb180_ok k hk⟩, ltb5_ok⟩, ltb5_ok⟩, ltb5_ok⟩, ltb181_ok⟩, ltb176_ok⟩, ltb5_ok⟩, ltb5_ok⟩, ltb182_ok⟩) z0 z1 z2 z3 z4 z5 z6 z7 z8 z9 z10 z11 k hk) z0 z1 z2 z3 z4 z5 z6 z7 z8 z9 z10 z11 k hk hc
theorem le_2_true (c : Nat) (z0 z1 z2 z3 z4 z5 z6 z7 z8 z9 z10 z11 k : Int) (hk : -128 ≤ k ∧ k ≤ 127) (hc : (k.tmod 6 + 6).tmod 6 = 2) : ∃ s1 R, SndF Tryz.prog 3 (ltArgs 0 c z0 z1 z2 z3 z4 z5 z6 z7 z8 z9 z10 z11 k) (awS0.push .hole) (.bool true) s1 R 0 :=
  sndZ (r := le_2 c z0 z1 z2 z3 z4 z5 z6 z7 z8 z9 z10 z11 k) (by delta le_2; exact Eq.refl _) smx ltX_ok (le_2_g c z0 z1 z2 z3 z4 z5 z6 z7 z8 z9 z10 z11 k) ((le_2_o c z0 z1 z2 z3 z4 z5 z6 z7 z8 z9 z10 z11 k).symm ▸ le_2_h c z0 z1 z2 z3 z4 z5 z6 z7 z8 z9 z10 z11 k hk hc)
end Go.Proofs.YtjpffbekhfkibaaGreatDoor
end
section
set_option linter.all false
set_option maxRecDepth 1000000
set_option maxHeartbeats 1000000
open Go.RowKit
namespace Go.Proofs.YtjpffbekhfkibaaGreatDoor
open Mini
noncomputable def le_3 (c : Nat) (z0 z1 z2 z3 z4 z5 z6 z7 z8 z9 z10 z11 k : Int) : Option OutS := evFS Tryz.prog ltX 1000 3 (ltArgs 0 c z0 z1 z2 z3 z4 z5 z6 z7 z8 z9 z10 z11 k) (awS0.push .hole) ⟨[0, 0, .azz (.slice (some ⟨8, 0, none⟩) 0 0), .azz (.slice (some ⟨8, 0, none⟩) 0 0), .azz (.int .i64 k), 1, 0, .azz (.slice (some ⟨10, 0, none⟩) 0 0), .azz (.slice (some ⟨10, 0, none⟩) 0 0), .azz (.int .i64 k), .azz (.int .i64 (-k)), 1, 1, 1, 1, 0, 0, 1, 0, 0, 1, 0, 0, 0, 1, 1, 1, 1, 1, 2, 1, 2, 2, 2, 3, 1, 3, 3, 3, 4, 1, 4, 4, 4, 5, 1, 5, 5, 5, 0, 0, 2, 1, 1, 1, 0, 1, 1, 1, 1, 1, 0, 0, 1, 1, 0, 1, 2, 0, 1, 3, 0, 1, 4, 0, 1, 5, 0, 0, 1, 0, 0, 1, 1, 1, 0, 0, .azz (.int .i64 k), .azz (.int .i64 (k.tmod 6)), .azz (.int .i64 (k.tmod 6 + 6)), .azz (.int .i64 3), 0, 0, 0, 0, 0, 0, .azz (.int .i64 (-3)), 2, 1, 1, 1, 0, 0, 0, 1, 0, 0, 0, 0, 1, 1, 0, 1, 1, 1, 1, 1, 1, 1, 1, 0, 1, 1, 0, 1, 1, 1, 0, 1, 1, 0, 1, 1, 1, 0, 0, 1, 1, 1, 1, 0, 1, 1, 1, 1, 1, 1, 1, 1, 2, 1, 1, 0, 1, 1, 1, 1, 1, 1, 0, 1, 1, 1, 1, 1, 1, 0, 0, 1, 2, 2, 2, 0, 1, 1, 2, 1, 1, 1, 1, 1, 3, 1, 1, 0, 1, 1, 2, 1, 1, 1, 0, 1, 1, 2, 1, 1, 1, 0, 0, 1, 3, 3, 3, 1, 0, 0, 1, 1, 3, 1, 1, 1, 1, 1, 4, 1, 1, 0, 1, 1, 3, 1, 1, 1, 0, 1, 1, 3, 1, 1, 1, 0, 0, 1, 4, 4, 4, 0, 1, 1, 4, 1, 1, 1, 1, 1, 5, 1, 1, 0, 1, 1, 4, 1, 1, 1, 0, 1, 1, 4, 1, 1, 1, 0, 0, 1, 5, 5, 5, 0, 1, 1, 5, 1, 1, 1, 1, 1, 0, 1, 1, 0, 1, 1, 5, 1, 1, 1, 0, 1, 1, 5, 1, 1, 1, 0, 0, 0, 1, 1], True⟩
def le_3_ob (c : Nat) (z0 z1 z2 z3 z4 z5 z6 z7 z8 z9 z10 z11 k : Int) : Prop := ltT3 (ltS1 ((((((((((((((((((((True ∧ ltb175) ∧ ltb176) ∧ ltb183) ∧ ltb183) ∧ ltb3 k) ∧ ltb178 k) ∧ ltb5) ∧ ltb184) ∧ ltb184) ∧ ltb3 k) ∧ ltb6 k) ∧ ltb180 k) ∧ ltb5) ∧ ltb5) ∧ ltb5) ∧ ltb181) ∧ ltb176) ∧ ltb5) ∧ ltb5) ∧ ltb182) z0 z1 z2 z3 z4 z5 z6 z7 z8 z9 z10 z11 k) z0 z1 z2 z3 z4 z5 z6 z7 z8 z9 z10 z11 k
theorem le_3_o (c : Nat) (z0 z1 z2 z3 z4 z5 z6 z7 z8 z9 z10 z11 k : Int) : obZ (le_3 c z0 z1 z2 z3 z4 z5 z6 z7 z8 z9 z10 z11 k) = le_3_ob c z0 z1 z2 z3 z4 z5 z6 z7 z8 z9 z10 z11 k := by kernel_rfl
theorem le_3_g (c : Nat) (z0 z1 z2 z3 z4 z5 z6 z7 z8 z9 z10 z11 k : Int) : goodZ (le_3 c z0 z1 z2 z3 z4 z5 z6 z7 z8 z9 z10 z11 k) = true := by kernel_rfl
theorem le_3_h (c : Nat) (z0 z1 z2 z3 z4 z5 z6 z7 z8 z9 z10 z11 k : Int) (hk : -128 ≤ k ∧ k ≤ 127) (hc : (k.tmod 6 + 6).tmod 6 = 3) : le_3_ob c z0 z1 z2 z3 z4 z5 z6 z7 z8 z9 z10 z11 k := ltT3_h (ltS1_h (show ((((((((((((((((((((True ∧ ltb175) ∧ ltb176) ∧ ltb183) ∧ ltb183) ∧ ltb3 k) ∧ ltb178 k) ∧ ltb5) ∧ ltb184) ∧ ltb184) ∧ ltb3 k) ∧ ltb6 k) ∧ ltb180 k) ∧ ltb5) ∧ ltb5) ∧ ltb5) ∧ ltb181) ∧ ltb176) ∧ ltb5) ∧ ltb5) ∧ ltb182) from ⟨⟨⟨⟨⟨⟨⟨⟨⟨⟨⟨⟨⟨⟨⟨⟨⟨⟨⟨⟨trivial, ltb175_ok⟩, ltb176_ok⟩, ltb183_ok⟩, ltb183_ok⟩, ltb3_ok k hk⟩, ltb178_ok k hk⟩, ltb5_ok⟩, ltb184_ok⟩, ltb184_ok⟩, ltb3_ok k hk⟩, ltb6_ok k hk⟩, ltb180_ok k hk⟩, ltb5_ok⟩, ltb5_ok⟩, ltb5_ok⟩, ltb181_ok⟩, ltb176_ok⟩, ltb5_ok⟩, ltb5_ok⟩, ltb182_ok⟩) z0 z1 z2 z3 z4 z5 z6 z7 z8 z9 z10 z11 k hk) z0 z1 z2 z3 z4 z5 z6 z7 z8 z9 z10 z11 k hk hc
theorem le_3_true (c : Nat) (z0 z1 z2 z3 z4 z5 z6 z7 z8 z9 z10 z11 k : Int) (hk : -128 ≤ k ∧ k ≤ 127) (hc : (k.tmod 6 + 6).tmod 6 = 3) : ∃ s1 R, SndF Tryz.prog 3 (ltArgs 0 c z0 z1 z2 z3 z4 z5 z6 z7 z8 z9 z10 z11 k) (awS0.push .hole) (.bool true) s1 R 0 :=
  sndZ (r := le_3 c z0 z1 z2 z3 z4 z5 z6 z7 z8 z9 z10 z11 k) (by delta le_3; exact Eq.refl _) smx ltX_ok (le_3_g c z0 z1 z2 z3 z4 z5 z6 z7 z8 z9 z10 z11 k) ((le_3_o c z0 z1 z2 z3 z4 z5 z6 z7 z8 z9 z10 z11 k).symm ▸ le_3_h c z0 z1 z2 z3 z4 z5 z6 z7 z8 z9 z10 z11 k hk hc)
end Go.Proofs.YtjpffbekhfkibaaGreatDoor
end
section
set_option linter.all false
set_option maxRecDepth 1000000
set_option maxHeartbeats 1000000
open Go.RowKit
namespace Go.Proofs.YtjpffbekhfkibaaGreatDoor
open Mini
noncomputable def le_4 (c : Nat) (z0 z1 z2 z3 z4 z5 z6 z7 z8 z9 z10 z11 k : Int) : Option OutS := evFS Tryz.prog ltX 1000 3 (ltArgs 0 c z0 z1 z2 z3 z4 z5 z6 z7 z8 z9 z10 z11 k) (awS0.push .hole) ⟨[0, 0, .azz (.slice (some ⟨8, 0, none⟩) 0 0), .azz (.slice (some ⟨8, 0, none⟩) 0 0), .azz (.int .i64 k), 1, 0, .azz (.slice (some ⟨10, 0, none⟩) 0 0), .azz (.slice (some ⟨10, 0, none⟩) 0 0), .azz (.int .i64 k), .azz (.int .i64 (-k)), 1, 1, 1, 1, 0, 0, 1, 0, 0, 1, 0, 0, 0, 1, 1, 1, 1, 1, 2, 1, 2, 2, 2, 3, 1, 3, 3, 3, 4, 1, 4, 4, 4, 5, 1, 5, 5, 5, 0, 0, 2, 1, 1, 1, 0, 1, 1, 1, 1, 1, 0, 0, 1, 1, 0, 1, 2, 0, 1, 3, 0, 1, 4, 0, 1, 5, 0, 0, 1, 0, 0, 1, 1, 1, 0, 0, .azz (.int .i64 k), .azz (.int .i64 (k.tmod 6)), .azz (.int .i64 (k.tmod 6 + 6)), .azz (.int .i64 4), 0, 0, 0, 0, 0, 0, .azz (.int .i64 (-4)), 2, 1, 1, 1, 0, 0, 0, 1, 0, 0, 0, 0, 1, 1, 0, 1, 1, 1, 1, 1, 1, 1, 1, 0, 1, 1, 0, 1, 1, 1, 0, 1, 1, 0, 1, 1, 1, 0, 0, 1, 1, 1, 1, 0, 1, 1, 1, 1, 1, 1, 1, 1, 2, 1, 1, 0, 1, 1, 1, 1, 1, 1, 0, 1, 1, 1, 1, 1, 1, 0, 0, 1, 2, 2, 2, 0, 1, 1, 2, 1, 1, 1, 1, 1, 3, 1, 1, 0, 1, 1, 2, 1, 1, 1, 0, 1, 1, 2, 1, 1, 1, 0, 0, 1, 3, 3, 3, 0, 1, 1, 3, 1, 1, 1, 1, 1, 4, 1, 1, 0, 1, 1, 3, 1, 1, 1, 0, 1, 1, 3, 1, 1, 1, 0, 0, 1, 4, 4, 4, 1, 0, 0, 1, 1, 4, 1, 1, 1, 1, 1, 5, 1, 1, 0, 1, 1, 4, 1, 1, 1, 0, 1, 1, 4, 1, 1, 1, 0, 0, 1, 5, 5, 5, 0, 1, 1, 5, 1, 1, 1, 1, 1, 0, 1, 1, 0, 1, 1, 5, 1, 1, 1, 0, 1, 1, 5, 1, 1, 1, 0, 0, 0, 1, 1], True⟩
def le_4_ob (c : Nat) (z0 z1 z2 z3 z4 z5 z6 z7 z8 z9 z10 z11 k : Int) : Prop := ltT4 (ltS1 ((((((((((((((((((((True ∧ ltb175) ∧ ltb176) ∧ ltb183) ∧ ltb183) ∧ ltb3 k) ∧ ltb178 k) ∧ ltb5) ∧ ltb184) ∧ ltb184) ∧ ltb3 k) ∧ ltb6 k) ∧ ltb180 k) ∧ ltb5) ∧ ltb5) ∧ ltb5) ∧ ltb181) ∧ ltb176) ∧ ltb5) ∧ ltb5) ∧ ltb182) z0 z1 z2 z3 z4 z5 z6 z7 z8 z9 z10 z11 k) z0 z1 z2 z3 z4 z5 z6 z7 z8 z9 z10 z11 k
theorem le_4_o (c : Nat) (z0 z1 z2 z3 z4 z5 z6 z7 z8 z9 z10 z11 k : Int) : obZ (le_4 c z0 z1 z2 z3 z4 z5 z6 z7 z8 z9 z10 z11 k) = le_4_ob c z0 z1 z2 z3 z4 z5 z6 z7 z8 z9 z10 z11 k := by kernel_rfl
theorem le_4_g (c : Nat) (z0 z1 z2 z3 z4 z5 z6 z7 z8 z9 z10 z11 k : Int) : goodZ (le_4 c z0 z1 z2 z3 z4 z5 z6 z7 z8 z9 z10 z11 k) = true := by kernel_rfl
theorem le_4_h (c : Nat) (z0 z1 z2 z3 z4 z5 z6 z7 z8 z9 z10 z11 k : Int) (hk : -128 ≤ k ∧ k ≤ 127) (hc : (k.tmod 6 + 6).tmod 6 = 4) : le_4_ob c z0 z1 z2 z3 z4 z5 z6 z7 z8 z9 z10 z11 k := ltT4_h (ltS1_h (show ((((((((((((((((((((True ∧ ltb175) ∧ ltb176) ∧ ltb183) ∧ ltb183) ∧ ltb3 k) ∧ ltb178 k) ∧ ltb5) ∧ ltb184) ∧ ltb184) ∧ ltb3 k) ∧ ltb6 k) ∧ ltb180 k) ∧ ltb5) ∧ ltb5) ∧ ltb5) ∧ ltb181) ∧ ltb176) ∧ ltb5) ∧ ltb5) ∧ ltb182) from ⟨⟨⟨⟨⟨⟨⟨⟨⟨⟨⟨⟨⟨⟨⟨⟨⟨⟨⟨⟨trivial, ltb175_ok⟩, ltb176_ok⟩, ltb183_ok⟩, ltb183_ok⟩, ltb3_ok k hk⟩, ltb178_ok k hk⟩, ltb5_ok⟩, ltb184_ok⟩, ltb184_ok⟩, ltb3_ok k hk⟩, ltb6_ok k hk⟩, ltb180_ok k hk⟩, ltb5_ok⟩, ltb5_ok⟩, ltb5_ok⟩, ltb181_ok⟩, ltb176_ok⟩, ltb5_ok⟩, ltb5_ok⟩, ltb182_ok⟩) z0 z1 z2 z3 z4 z5 z6 z7 z8 z9 z10 z11 k hk) z0 z1 z2 z3 z4 z5 z6 z7 z8 z9 z10 z11 k hk hc
theorem le_4_true (c : Nat) (z0 z1 z2 z3 z4 z5 z6 z7 z8 z9 z10 z11 k : Int) (hk : -128 ≤ k ∧ k ≤ 127) (hc : (k.tmod 6 + 6).tmod 6 = 4) : ∃ s1 R, SndF Tryz.prog 3 (ltArgs 0 c z0 z1 z2 z3 z4 z5 z6 z7 z8 z9 z10 z11 k) (awS0.push .hole) (.bool true) s1 R 0 :=
  sndZ (r := le_4 c z0 z1 z2 z3 z4 z5 z6 z7 z8 z9 z10 z11 k) (by delta le_4; exact Eq.refl _) smx ltX_ok (le_4_g c z0 z1 z2 z3 z4 z5 z6 z7 z8 z9 z10 z11 k) ((le_4_o c z0 z1 z2 z3 z4 z5 z6 z7 z8 z9 z10 z11 k).symm ▸ le_4_h c z0 z1 z2 z3 z4 z5 z6 z7 z8 z9 z10 z11 k hk hc)
end Go.Proofs.YtjpffbekhfkibaaGreatDoor
end
section
set_option linter.all false
set_option maxRecDepth 1000000
set_option maxHeartbeats 1000000
open Go.RowKit
namespace Go.Proofs.YtjpffbekhfkibaaGreatDoor
open Mini
noncomputable def le_5 (c : Nat) (z0 z1 z2 z3 z4 z5 z6 z7 z8 z9 z10 z11 k : Int) : Option OutS := evFS Tryz.prog ltX 1000 3 (ltArgs 0 c z0 z1 z2 z3 z4 z5 z6 z7 z8 z9 z10 z11 k) (awS0.push .hole) ⟨[0, 0, .azz (.slice (some ⟨8, 0, none⟩) 0 0), .azz (.slice (some ⟨8, 0, none⟩) 0 0), .azz (.int .i64 k), 1, 0, .azz (.slice (some ⟨10, 0, none⟩) 0 0), .azz (.slice (some ⟨10, 0, none⟩) 0 0), .azz (.int .i64 k), .azz (.int .i64 (-k)), 1, 1, 1, 1, 0, 0, 1, 0, 0, 1, 0, 0, 0, 1, 1, 1, 1, 1, 2, 1, 2, 2, 2, 3, 1, 3, 3, 3, 4, 1, 4, 4, 4, 5, 1, 5, 5, 5, 0, 0, 2, 1, 1, 1, 0, 1, 1, 1, 1, 1, 0, 0, 1, 1, 0, 1, 2, 0, 1, 3, 0, 1, 4, 0, 1, 5, 0, 0, 1, 0, 0, 1, 1, 1, 0, 0, .azz (.int .i64 k), .azz (.int .i64 (k.tmod 6)), .azz (.int .i64 (k.tmod 6 + 6)), .azz (.int .i64 5), 0, 0, 0, 0, 0, 0, .azz (.int .i64 (-5)), 2, 1, 1, 1, 0, 0, 0, 1, 0, 0, 0, 0, 1, 1, 0, 1, 1, 1, 1, 1, 1, 1, 1, 0, 1, 1, 0, 1, 1, 1, 0, 1, 1, 0, 1, 1, 1, 0, 0, 1, 1, 1, 1, 0, 1, 1, 1, 1, 1, 1, 1, 1, 2, 1, 1, 0, 1, 1, 1, 1, 1, 1, 0, 1, 1, 1, 1, 1, 1, 0, 0, 1, 2, 2, 2, 0, 1, 1, 2, 1, 1, 1, 1, 1, 3, 1, 1, 0, 1, 1, 2, 1, 1, 1, 0, 1, 1, 2, 1, 1, 1, 0, 0, 1, 3, 3, 3, 0, 1, 1, 3, 1, 1, 1, 1, 1, 4, 1, 1, 0, 1, 1, 3, 1, 1, 1, 0, 1, 1, 3, 1, 1, 1, 0, 0, 1, 4, 4, 4, 0, 1, 1, 4, 1, 1, 1, 1, 1, 5, 1, 1, 0, 1, 1, 4, 1, 1, 1, 0, 1, 1, 4, 1, 1, 1, 0, 0, 1, 5, 5, 5, 1, 0, 0, 1, 1, 5, 1, 1, 1, 1, 1, 0, 1, 1, 0, 1, 1, 5, 1, 1, 1, 0, 1, 1, 5, 1, 1, 1, 0, 0, 0, 1, 1], True⟩
def le_5_ob (c : Nat) (z0 z1 z2 z3 z4 z5 z6 z7 z8 z9 z10 z11 k : Int) : Prop := ltT5 (ltS1 ((((((((((((((((((((True ∧ ltb175) ∧ ltb176) ∧ ltb183) ∧ ltb183) ∧ ltb3 k) ∧ ltb178 k) ∧ ltb5) ∧ ltb184) ∧ ltb184) ∧ ltb3 k) ∧ ltb6 k) ∧ ltb180 k) ∧ ltb5) ∧ ltb5) ∧ ltb5) ∧ ltb181) ∧ ltb176) ∧ ltb5) ∧ ltb5) ∧ ltb182) z0 z1 z2 z3 z4 z5 z6 z7 z8 z9 z10 z11 k) z0 z1 z2 z3 z4 z5 z6 z7 z8 z9 z10 z11 k
theorem le_5_o (c : Nat) (z0 z1 z2 z3 z4 z5 z6 z7 z8 z9 z10 z11 k : Int) : obZ (le_5 c z0 z1 z2 z3 z4 z5 z6 z7 z8 z9 z10 z11 k) = le_5_ob c z0 z1 z2 z3 z4 z5 z6 z7 z8 z9 z10 z11 k := by kernel_rfl
theorem le_5_g (c : Nat) (z0 z1 z2 z3 z4 z5 z6 z7 z8 z9 z10 z11 k : Int) : goodZ (le_5 c z0 z1 z2 z3 z4 z5 z6 z7 z8 z9 z10 z11 k) = true := by kernel_rfl
theorem le_5_h (c : Nat) (z0 z1 z2 z3 z4 z5 z6 z7 z8 z9 z10 z11 k : Int) (hk : -128 ≤ k ∧ k ≤ 127) (hc : (k.tmod 6 + 6).tmod 6 = 5) : le_5_ob c z0 z1 z2 z3 z4 z5 z6 z7 z8 z9 z10 z11 k := ltT5_h (ltS1_h (show ((((((((((((((((((((True ∧ ltb175) ∧ ltb176) ∧ ltb183) ∧ ltb183) ∧ ltb3 k) ∧ ltb178 k) ∧ ltb5) ∧ ltb184) ∧ ltb184) ∧ ltb3 k) ∧ ltb6 k) ∧ ltb180 k) ∧ ltb5) ∧ ltb5) ∧ ltb5) ∧ ltb181) ∧ ltb176) ∧ ltb5) ∧ ltb5) ∧ ltb182) from ⟨⟨⟨⟨⟨⟨⟨⟨⟨⟨⟨⟨⟨⟨⟨⟨⟨⟨⟨⟨trivial, ltb175_ok⟩, ltb176_ok⟩, ltb183_ok⟩, ltb183_ok⟩, ltb3_ok k hk⟩, ltb178_ok k hk⟩, ltb5_ok⟩, ltb184_ok⟩, ltb184_ok⟩, ltb3_ok k hk⟩, ltb6_ok k hk⟩, ltb180_ok k hk⟩, ltb5_ok⟩, ltb5_ok⟩, ltb5_ok⟩, ltb181_ok⟩, ltb176_ok⟩, ltb5_ok⟩, ltb5_ok⟩, ltb182_ok⟩) z0 z1 z2 z3 z4 z5 z6 z7 z8 z9 z10 z11 k hk) z0 z1 z2 z3 z4 z5 z6 z7 z8 z9 z10 z11 k hk hc
theorem le_5_true (c : Nat) (z0 z1 z2 z3 z4 z5 z6 z7 z8 z9 z10 z11 k : Int) (hk : -128 ≤ k ∧ k ≤ 127) (hc : (k.tmod 6 + 6).tmod 6 = 5) : ∃ s1 R, SndF Tryz.prog 3 (ltArgs 0 c z0 z1 z2 z3 z4 z5 z6 z7 z8 z9 z10 z11 k) (awS0.push .hole) (.bool true) s1 R 0 :=
  sndZ (r := le_5 c z0 z1 z2 z3 z4 z5 z6 z7 z8 z9 z10 z11 k) (by delta le_5; exact Eq.refl _) smx ltX_ok (le_5_g c z0 z1 z2 z3 z4 z5 z6 z7 z8 z9 z10 z11 k) ((le_5_o c z0 z1 z2 z3 z4 z5 z6 z7 z8 z9 z10 z11 k).symm ▸ le_5_h c z0 z1 z2 z3 z4 z5 z6 z7 z8 z9 z10 z11 k hk hc)
end Go.Proofs.YtjpffbekhfkibaaGreatDoor
end
section
set_option linter.all false
set_option maxRecDepth 1000000
set_option maxHeartbeats 1000000
open Go.RowKit
namespace Go.Proofs.YtjpffbekhfkibaaGreatDoor
open Mini
theorem lt_true (m c : Nat) (g : Nat → Nat → Int) (e : TypeId) (z0 z1 z2 z3 z4 z5 z6 z7 z8 z9 z10 z11 k : Int) (hi : m + 1 ≤ 12) (hk : -128 ≤ k ∧ k ≤ 127) : ∃ s1 R, SndF Tryz.prog 3 (ltArgs (m + 1) c z0 z1 z2 z3 z4 z5 z6 z7 z8 z9 z10 z11 k) (ltS (m + 1) g e) (.bool true) s1 R 0 := by
  have h1 := Int.tmod_lt_of_pos (k.tmod 6 + 6) (b := 6) (by omega)
  have h2 := Int.lt_tmod_of_pos k (b := 6) (by omega)
  have h3 := Int.tmod_nonneg (a := k.tmod 6 + 6) 6 (by omega)
  have h : (k.tmod 6 + 6).tmod 6 = 0 ∨ (k.tmod 6 + 6).tmod 6 = 1 ∨ (k.tmod 6 + 6).tmod 6 = 2 ∨ (k.tmod 6 + 6).tmod 6 = 3 ∨ (k.tmod 6 + 6).tmod 6 = 4 ∨ (k.tmod 6 + 6).tmod 6 = 5 := by omega
  rcases h with h | h | h | h | h | h
  · exact lt_0_true m c g e z0 z1 z2 z3 z4 z5 z6 z7 z8 z9 z10 z11 k hi hk h
  · exact lt_1_true m c g e z0 z1 z2 z3 z4 z5 z6 z7 z8 z9 z10 z11 k hi hk h
  · exact lt_2_true m c g e z0 z1 z2 z3 z4 z5 z6 z7 z8 z9 z10 z11 k hi hk h
  · exact lt_3_true m c g e z0 z1 z2 z3 z4 z5 z6 z7 z8 z9 z10 z11 k hi hk h
  · exact lt_4_true m c g e z0 z1 z2 z3 z4 z5 z6 z7 z8 z9 z10 z11 k hi hk h
  · exact lt_5_true m c g e z0 z1 z2 z3 z4 z5 z6 z7 z8 z9 z10 z11 k hi hk h
theorem lz_true (z0 z1 z2 z3 z4 z5 z6 z7 z8 z9 z10 z11 k : Int) (hk : -128 ≤ k ∧ k ≤ 127) : ∃ s1 R, SndF Tryz.prog 3 #[.slice none 0 0, .agg #[.int .i8 z0, .int .i8 z1, .int .i8 z2, .int .i8 z3, .int .i8 z4, .int .i8 z5, .int .i8 z6, .int .i8 z7, .int .i8 z8, .int .i8 z9, .int .i8 z10, .int .i8 z11], .int .i8 k] awS0 (.bool true) s1 R 0 := by
  have h1 := Int.tmod_lt_of_pos (k.tmod 6 + 6) (b := 6) (by omega)
  have h2 := Int.lt_tmod_of_pos k (b := 6) (by omega)
  have h3 := Int.tmod_nonneg (a := k.tmod 6 + 6) 6 (by omega)
  have h : (k.tmod 6 + 6).tmod 6 = 0 ∨ (k.tmod 6 + 6).tmod 6 = 1 ∨ (k.tmod 6 + 6).tmod 6 = 2 ∨ (k.tmod 6 + 6).tmod 6 = 3 ∨ (k.tmod 6 + 6).tmod 6 = 4 ∨ (k.tmod 6 + 6).tmod 6 = 5 := by omega
  rcases h with h | h | h | h | h | h
  · exact lz_0_true z0 z1 z2 z3 z4 z5 z6 z7 z8 z9 z10 z11 k hk h
  · exact lz_1_true z0 z1 z2 z3 z4 z5 z6 z7 z8 z9 z10 z11 k hk h
  · exact lz_2_true z0 z1 z2 z3 z4 z5 z6 z7 z8 z9 z10 z11 k hk h
  · exact lz_3_true z0 z1 z2 z3 z4 z5 z6 z7 z8 z9 z10 z11 k hk h
  · exact lz_4_true z0 z1 z2 z3 z4 z5 z6 z7 z8 z9 z10 z11 k hk h
  · exact lz_5_true z0 z1 z2 z3 z4 z5 z6 z7 z8 z9 z10 z11 k hk h
theorem le_true (c : Nat) (z0 z1 z2 z3 z4 z5 z6 z7 z8 z9 z10 z11 k : Int) (hk : -128 ≤ k ∧ k ≤ 127) : ∃ s1 R, SndF Tryz.prog 3 (ltArgs 0 c z0 z1 z2 z3 z4 z5 z6 z7 z8 z9 z10 z11 k) (awS0.push .hole) (.bool true) s1 R 0 := by
  have h1 := Int.tmod_lt_of_pos (k.tmod 6 + 6) (b := 6) (by omega)
  have h2 := Int.lt_tmod_of_pos k (b := 6) (by omega)
  have h3 := Int.tmod_nonneg (a := k.tmod 6 + 6) 6 (by omega)
  have h : (k.tmod 6 + 6).tmod 6 = 0 ∨ (k.tmod 6 + 6).tmod 6 = 1 ∨ (k.tmod 6 + 6).tmod 6 = 2 ∨ (k.tmod 6 + 6).tmod 6 = 3 ∨ (k.tmod 6 + 6).tmod 6 = 4 ∨ (k.tmod 6 + 6).tmod 6 = 5 := by omega
  rcases h with h | h | h | h | h | h
  · exact le_0_true c z0 z1 z2 z3 z4 z5 z6 z7 z8 z9 z10 z11 k hk h
  · exact le_1_true c z0 z1 z2 z3 z4 z5 z6 z7 z8 z9 z10 z11 k hk h
  · exact le_2_true c z0 z1 z2 z3 z4 z5 z6 z7 z8 z9 z10 z11 k hk h
  · exact le_3_true c z0 z1 z2 z3 z4 z5 z6 z7 z8 z9 z10 z11 k hk h
  · exact le_4_true c z0 z1 z2 z3 z4 z5 z6 z7 z8 z9 z10 z11 k hk h
  · exact le_5_true c z0 z1 z2 z3 z4 z5 z6 z7 z8 z9 z10 z11 k hk h
noncomputable def lm_0 (n c : Nat) (g : Nat → Nat → Int) (e : TypeId) (z0 z1 z2 z3 z4 z5 z6 z7 z8 z9 z10 z11 k : Int) : Option OutS := evFS Tryz.prog ltX 1000 3 (ltArgs n c z0 z1 z2 z3 z4 z5 z6 z7 z8 z9 z10 z11 k) (ltS n g e) ⟨[1], True⟩
theorem lm_g (n c : Nat) (g : Nat → Nat → Int) (e : TypeId) (z0 z1 z2 z3 z4 z5 z6 z7 z8 z9 z10 z11 k : Int) : goodZ (lm_0 n c g e z0 z1 z2 z3 z4 z5 z6 z7 z8 z9 z10 z11 k) = true := by kernel_rfl
theorem lm_o (n c : Nat) (g : Nat → Nat → Int) (e : TypeId) (z0 z1 z2 z3 z4 z5 z6 z7 z8 z9 z10 z11 k : Int) : obZ (lm_0 n c g e z0 z1 z2 z3 z4 z5 z6 z7 z8 z9 z10 z11 k) = (True ∧ decide ((n : Int) > (12 : Int)) = true) := by kernel_rfl
theorem lm_true (n c : Nat) (g : Nat → Nat → Int) (e : TypeId) (z0 z1 z2 z3 z4 z5 z6 z7 z8 z9 z10 z11 k : Int) (h : 12 < n) : ∃ s1 R, SndF Tryz.prog 3 (ltArgs n c z0 z1 z2 z3 z4 z5 z6 z7 z8 z9 z10 z11 k) (ltS n g e) (.bool true) s1 R 0 :=
  sndZ (r := lm_0 n c g e z0 z1 z2 z3 z4 z5 z6 z7 z8 z9 z10 z11 k) (by delta lm_0; exact Eq.refl _) smx ltX_ok (lm_g n c g e z0 z1 z2 z3 z4 z5 z6 z7 z8 z9 z10 z11 k) ((lm_o n c g e z0 z1 z2 z3 z4 z5 z6 z7 z8 z9 z10 z11 k).symm ▸ ⟨trivial, decide_eq_true (by omega)⟩)
end Go.Proofs.YtjpffbekhfkibaaGreatDoor
end
section
namespace Go.Proofs.YtjpffbekhfkibaaGreatDoor
set_option linter.all false
open Go.ChangeShapes Go.WideShapes Go.RowKit
namespace Mini

def pairsK (g : TypeId → Option (List IntKind)) (P : Program) : Nat → List (Nat × TypeId) → Option (List IntKind)
  | _, [] => some []
  | off, x :: l => match g x.2 with
    | some ks => match (x.1 == off) && (P.cellsOf x.2 == ks.length) with
      | true => match pairsK g P (off + ks.length) l with
        | some r => some (ks ++ r)
        | none => none
      | false => none
    | none => none
def kindsT (P : Program) : Nat → TypeId → Option (List IntKind)
  | 0, _ => none
  | n + 1, t => match P.underlying t with
    | some (.int k) => some [k]
    | some (.array m e) => match pairsK (kindsT P n) P 0 ((List.range m).map fun i => (i * P.cellsOf e, e)) with
      | some ks => match P.cellsOf t == ks.length with
        | true => some ks
        | false => none
      | none => none
    | some (.struct fs) => match pairsK (kindsT P n) P 0 (fs.toList.map fun f => (f.offset, f.type)) with
      | some ks => match P.cellsOf t == ks.length with
        | true => some ks
        | false => none
      | none => none
    | _ => none
def wfs : List IntKind → List Int → Bool
  | k :: ks, n :: ns => (Lit.int k n).wf && wfs ks ns
  | _, _ => true
theorem backI_length : ∀ (ks : List IntKind) (ns : List Int), ns.length = ks.length → (backI ks ns).length = ks.length
  | [], [], _ => rfl
  | k :: ks, n :: ns, h => by simp only [backI, List.length_cons, backI_length ks ns (by simpa using h)]
  | [], n :: ns, h => by cases h
  | k :: ks, [], h => by cases h
theorem backI_append : ∀ (ks ks' : List IntKind) (ns ns' : List Int), ns.length = ks.length → backI (ks ++ ks') (ns ++ ns') = backI ks ns ++ backI ks' ns'
  | [], ks', [], ns', _ => rfl
  | k :: ks, ks', n :: ns, ns', h => by
    show Value.int k n :: backI (ks ++ ks') (ns ++ ns') = _
    rw [backI_append ks ks' ns ns' (by simpa using h)]
    rfl
  | [], ks', n :: ns, ns', h => by cases h
  | k :: ks, ks', [], ns', h => by cases h
theorem wfs_append : ∀ (ks ks' : List IntKind) (ns ns' : List Int), ns.length = ks.length → wfs ks ns = true → wfs ks' ns' = true → wfs (ks ++ ks') (ns ++ ns') = true
  | [], ks', [], ns', _, _, h => h
  | k :: ks, ks', n :: ns, ns', h, h1, h2 => by
    simp only [wfs, Bool.and_eq_true] at h1
    show ((Lit.int k n).wf && wfs (ks ++ ks') (ns ++ ns')) = true
    rw [h1.1, wfs_append ks ks' ns ns' (by simpa using h) h1.2 h2]
    rfl
  | [], ks', n :: ns, ns', h, _, _ => by cases h
  | k :: ks, ks', [], ns', h, _, _ => by cases h
theorem mapM_map' {α β γ : Type} (f : α → β) (g : β → Option γ) : ∀ l : List α, (l.map f).mapM g = l.mapM fun a => g (f a)
  | [] => rfl
  | a :: l => by simp [List.mapM_cons, mapM_map' f g l]

section
variable {H : Type} {enc : TypeId × Value → H} {P : Program}

def Flat (enc : TypeId × Value → H) (P : Program) (fuel : Nat) (t : TypeId) (cs : List Value) (d : DataW H) (ks : List IntKind) : Prop :=
  ∃ ns, ns.length = ks.length ∧ cs = backI ks ns ∧ wfs ks ns = true ∧ ∀ w b sp held, DataW.trod enc P w b sp held fuel t cs = some (d, [])
theorem flat_pairs {n fuel : Nat} (IH : ∀ (t : TypeId) (ks : List IntKind), kindsT P n t = some ks → ∀ (cs : List Value) (d : DataW H) (p : List MemPlace) w b sp held, DataW.trod enc P w b sp held fuel t cs = some (d, p) → p = [] ∧ Flat enc P fuel t cs d ks) :
    ∀ (L : List (Nat × TypeId)) (off : Nat) (ks : List IntKind) (cs : List Value) (xs : List (DataW H × List MemPlace)) (w : World) (b : Nat) (sp : Nat → Bool) (held : Bool), pairsK (kindsT P n) P off L = some ks → off + ks.length ≤ cs.length →
      L.mapM (fun x => DataW.trod enc P w b sp held fuel x.2 ((cs.drop x.1).take (P.cellsOf x.2))) = some xs →
      xs.flatMap (·.2) = [] ∧ ∃ ns, ns.length = ks.length ∧ (cs.drop off).take ks.length = backI ks ns ∧ wfs ks ns = true ∧ ∀ w b sp held, L.mapM (fun x => DataW.trod enc P w b sp held fuel x.2 ((cs.drop x.1).take (P.cellsOf x.2))) = some xs
  | [], off, ks, cs, xs, w, b, sp, held, hk, hl, hm => by
    cases hk
    simp at hm
    subst hm
    exact ⟨rfl, [], rfl, by simp [backI], rfl, fun _ _ _ _ => rfl⟩
  | x :: L, off, ks, cs, xs, w, b, sp, held, hk, hl, hm => by
    simp only [pairsK] at hk
    split at hk
    · rename_i ks1 hk1
      split at hk
      · rename_i hc
        simp only [Bool.and_eq_true, beq_iff_eq] at hc
        obtain ⟨hx, hcell⟩ := hc
        split at hk
        · rename_i r hr
          cases hk
          simp only [List.length_append] at hl
          simp only [List.mapM_cons, Option.bind_eq_bind, Option.bind_eq_some_iff, Option.pure_def, Option.some.injEq] at hm
          obtain ⟨y, hy, ys, hys, rfl⟩ := hm
          obtain ⟨d, p⟩ := y
          obtain ⟨rfl, ns1, l1, c1, f1, t1⟩ := IH x.2 ks1 hk1 _ d p w b sp held hy
          obtain ⟨e2, ns2, l2, c2, f2, t2⟩ := flat_pairs IH L (off + ks1.length) r cs ys w b sp held hr (by omega) hys
          refine ⟨by simpa using e2, ns1 ++ ns2, by simp [l1, l2], ?_, wfs_append _ _ _ _ l1 f1 f2, fun w' b' sp' held' => ?_⟩
          · rw [backI_append _ _ _ _ l1, ← c2, List.length_append, List.take_add, List.drop_drop]
            rw [hx, hcell] at c1
            rw [c1]
          · simp only [List.mapM_cons, Option.bind_eq_bind, Option.pure_def]
            rw [t1 w' b' sp' held', t2 w' b' sp' held']
            rfl
        · cases hk
      · cases hk
    · cases hk
theorem open_kinds : ∀ (n : Nat) (t : TypeId) (ks : List IntKind), kindsT P n t = some ks → ∀ (fuel : Nat) (cs : List Value) (d : DataW H) (p : List MemPlace) w b sp held, DataW.trod enc P w b sp held fuel t cs = some (d, p) → p = [] ∧ Flat enc P fuel t cs d ks
  | 0, t, ks, hk, fuel, cs, d, p, w, b, sp, held, h => by cases hk
  | n + 1, t, ks, hk, fuel, cs, d, p, w, b, sp, held, h => by
    cases fuel with
    | zero => simp [DataW.trod] at h
    | succ fuel =>
      simp only [kindsT] at hk
      split at hk
      · rename_i k ht
        cases hk
        obtain ⟨z, rfl, hx, hw⟩ := DataW.trod_int ht h
        cases hx
        refine ⟨rfl, [z], rfl, rfl, by simp [wfs, hw], fun w' b' sp' held' => ?_⟩
        simp [DataW.trod, ht, hw]
      · rename_i m e ht
        split at hk
        · rename_i ks' hk'
          split at hk
          · rename_i hc
            cases hk
            have hc := beq_iff_eq.1 hc
            simp only [DataW.trod, ht] at h
            split at h
            · rename_i hl
              obtain ⟨xs, hm, hx⟩ := Option.map_eq_some_iff.1 h
              have hm2 : ((List.range m).map fun i => (i * P.cellsOf e, e)).mapM (fun x => DataW.trod enc P w b sp held fuel x.2 ((cs.drop x.1).take (P.cellsOf x.2))) = some xs := by rw [mapM_map']; exact hm
              obtain ⟨e1, ns, l1, c1, f1, t1⟩ := flat_pairs (fun t ks hk cs d p w b sp held h => open_kinds n t ks hk fuel cs d p w b sp held h) _ 0 ks cs xs w b sp held hk' (by omega) hm2
              simp only [Prod.mk.injEq] at hx
              obtain ⟨rfl, rfl⟩ := hx
              refine ⟨e1, ns, l1, ?_, f1, fun w' b' sp' held' => ?_⟩
              · rw [← c1, List.drop_zero, List.take_of_length_le (by omega)]
              · have := t1 w' b' sp' held'
                rw [mapM_map'] at this
                simp only [DataW.trod, ht, if_pos hl]
                rw [this]
                simp [e1]
            · cases h
          · cases hk
        · cases hk
      · rename_i fs ht
        split at hk
        · rename_i ks' hk'
          split at hk
          · rename_i hc
            cases hk
            have hc := beq_iff_eq.1 hc
            simp only [DataW.trod, ht] at h
            split at h
            · rename_i hl
              obtain ⟨xs, hm, hx⟩ := Option.map_eq_some_iff.1 h
              have hm2 : (fs.toList.map fun f => (f.offset, f.type)).mapM (fun x => DataW.trod enc P w b sp held fuel x.2 ((cs.drop x.1).take (P.cellsOf x.2))) = some xs := by rw [mapM_map']; exact hm
              obtain ⟨e1, ns, l1, c1, f1, t1⟩ := flat_pairs (fun t ks hk cs d p w b sp held h => open_kinds n t ks hk fuel cs d p w b sp held h) _ 0 ks cs xs w b sp held hk' (by omega) hm2
              simp only [Prod.mk.injEq] at hx
              obtain ⟨rfl, rfl⟩ := hx
              refine ⟨e1, ns, l1, ?_, f1, fun w' b' sp' held' => ?_⟩
              · rw [← c1, List.drop_zero, List.take_of_length_le (by omega)]
              · have := t1 w' b' sp' held'
                rw [mapM_map'] at this
                simp only [DataW.trod, ht, if_pos hl]
                rw [this]
                simp [e1]
            · cases h
          · cases hk
        · cases hk
      · cases hk
def isRow (P : Program) (t : TypeId) : Bool := match P.underlying t with
  | some (.struct _) | some (.array _ _) => true
  | _ => false
theorem open_agg {w : World} {base b0 n : Nat} {spare : Nat → Bool} {held : Bool} {r : Reach} {t : TypeId} {v : Value} {d : DataW H} {ps : List MemPlace} {ks : List IntKind} (hr : isRow P t = true) (hk : kindsT P n t = some ks) (hval : Value.okWide P w r b0 t v) (hd : DataW.Trod enc P w base spare held t v d ps) :
    ∃ ns, ns.length = ks.length ∧ v = .agg (backI ks ns).toArray ∧ ps = [] ∧ wfs ks ns = true ∧ ∀ w b sp held, DataW.Trod enc P w b sp held t v d [] := by
  obtain ⟨cs, rfl⟩ : ∃ cs, v = .agg cs := by
    unfold isRow at hr
    unfold Value.okWide at hval
    split at hr
    · rename_i h; rw [h] at hval; obtain ⟨cs, h1, _⟩ := hval; exact ⟨cs, h1⟩
    · rename_i h; rw [h] at hval; obtain ⟨cs, h1, _⟩ := hval; exact ⟨cs, h1⟩
    · cases hr
  obtain ⟨fuel, hf⟩ := hd
  obtain ⟨rfl, ns, l1, c1, f1, t1⟩ := open_kinds n t ks hk fuel _ d ps w base spare held hf
  refine ⟨ns, l1, ?_, rfl, f1, fun w b sp held => ⟨fuel, t1 w b sp held⟩⟩
  congr 1
  apply Array.ext'
  simpa [Value.cells] using c1
theorem open_num {w : World} {base b0 : Nat} {spare : Nat → Bool} {held : Bool} {r : Reach} {t : TypeId} {k : IntKind} {v : Value} {d : DataW H} {ps : List MemPlace} (ht : P.underlying t = some (.int k)) (hval : Value.okWide P w r b0 t v) (hd : DataW.Trod enc P w base spare held t v d ps) :
    ∃ n, v = .int k n ∧ ps = [] ∧ (Lit.int k n).wf = true ∧ ∀ w b sp held, DataW.Trod enc P w b sp held t v d [] := by
  obtain ⟨n, rfl, rfl, rfl, hw⟩ := open_int ht hval hd
  exact ⟨n, rfl, rfl, hw, fun w b sp held => shut_int ht hw⟩
end
theorem bounds_i64 {n : Int} (h : (Lit.int .i64 n).wf = true) : -9223372036854775808 ≤ n ∧ n ≤ 9223372036854775807 := by
  simp [Lit.wf, IntKind.min, IntKind.max, IntKind.signed, IntKind.bits] at h
  omega
end Mini
end Go.Proofs.YtjpffbekhfkibaaGreatDoor
end
section
namespace Go.Proofs.YtjpffbekhfkibaaGreatDoor
set_option linter.all false
open Go.ChangeShapes Go.WideShapes Go.ChangeAt Go.RowKit

section
variable {H : Type} {enc : TypeId × Value → H} {P : Program}
theorem post_below {f : Func} {s : ChangeSpec} {W W' : World} {args : Array Value} {v : Value} {ds gs : List (DataW H)} {ps pa pv : List MemPlace} {apart fresh handsOn again : Bool} (hw : DataW.Whole enc P f.params.toList s.vars apart W args.toList ds gs ps)
    (ok : ∀ (j : Nat) (t : TypeId) (r : Value), f.resultTypes[j]? = some t → (v.resultList f.resultTypes.size)[j]? = some r → Value.okWide P W' .any 0 t r)
    (res : ∀ (b : Nat) (sp : Nat → Bool) (hd : Bool), DataW.TrodAll enc P W' b sp hd f.resultTypes.toList (v.resultList f.resultTypes.size) (s.fn H (ds ++ gs)).results [])
    (arg : ∀ sp : Nat → Bool, (∀ p ∈ ps, sp p.block = true) → DataW.TrodAll enc P W' 0 sp true f.params.toList args.toList (s.fn H (ds ++ gs)).args pa)
    (vrs : ∀ sp : Nat → Bool, (∀ p ∈ ps, sp p.block = true) → DataW.TrodVars enc P W' sp s.vars (s.fn H (ds ++ gs)).vars pv)
    (hps : ps = pa ++ pv) (hb : Below W.heap.size W W') : s.post enc P f apart fresh handsOn again W args v W' := by
  have hb' := hb
  have lt : ∀ p ∈ ps, p.block < W.heap.size := fun p hp => hw.lt p hp
  have old : ∀ p ∈ ps, (fun b => decide (b < W.heap.size)) p.block = true := fun p hp => by simpa using lt p hp
  have whole := hw
  obtain ⟨_, _, _, _, _, hz, hn⟩ := hw
  subst hps
  refine ⟨ds, gs, pa ++ pv, [], pa, pv, whole, res _ _ _, arg _ old, vrs _ old, World.keptBut_mono (fun p hp => ⟨hp, Or.inr (List.mem_append.1 hp)⟩) (hb'.frame (· ∈ pa ++ pv)), fun _ => ⟨ok, _, _, ([] ++ pa) ++ pv, ⟨[] ++ pa, pv, trodAll_append (arg _ (fun _ _ => rfl)) (res _ _ _), vrs _ (fun _ _ => rfl), rfl, fun b off hp => ?_, fun ha => ?_⟩, fun p hp _ => ?_⟩⟩
  · have hin : MemPlace.cell b off ∈ pa ++ pv := by simpa using hp
    exact (hb'.frozen (lt _ hin)).trans (hz b off hin)
  · simpa using hn ha
  · simpa using hp
end

section
open Go.Lib

theorem trod_lit {H : Type} {enc : TypeId × Value → H} {P : Program} {w : World} {base : Nat} {sp : Nat → Bool} {held : Bool} {fuel : Nat} {t : TypeId} {k : IntKind} {z : Int} {cs : List Value} {p : List MemPlace}
    (ht : P.underlying t = some (.int k)) (h : DataW.trod enc P w base sp held fuel t cs = some (.lit (.int k z), p)) : cs = [.int k z] := by
  obtain ⟨z', hc, hd, _⟩ := DataW.trod_int ht h
  cases hd
  exact hc
theorem cells_of_pairs {H : Type} {enc : TypeId × Value → H} {P : Program} {w : World} {base : Nat} {sp : Nat → Bool} {held : Bool} {fuel : Nat} {t e : TypeId} {n : Nat} {k : IntKind} {cs : List Value} {zs : List (Int × Int)} {p : List MemPlace} {fs : Array Field} {f0 f1 : Field}
    (ht : P.underlying t = some (.array n e)) (he : P.underlying e = some (.struct fs)) (hfs : fs.toList = [f0, f1]) (h0 : f0.offset = 0) (h1 : f1.offset = 1) (k0 : P.underlying f0.type = some (.int k)) (k1 : P.underlying f1.type = some (.int k))
    (c0 : P.cellsOf f0.type = 1) (c1 : P.cellsOf f1.type = 1) (hce : P.cellsOf e = 2)
    (h : DataW.trod enc P w base sp held fuel t cs = some (.agg (zs.map fun z => .agg [.lit (.int k z.1), .lit (.int k z.2)]), p)) :
    ∀ (i : Nat) (z : Int × Int), zs[i]? = some z → cs[i * 2]? = some (.int k z.1) ∧ cs[i * 2 + 1]? = some (.int k z.2) := by
  cases fuel with
  | zero => simp [DataW.trod] at h
  | succ fuel =>
    simp only [DataW.trod, ht, hce] at h
    split at h
    · rename_i hl
      obtain ⟨xs, hm, hx⟩ := Option.map_eq_some_iff.1 h
      have hxs : xs.map (·.1) = zs.map fun z => (DataW.agg [.lit (.int k z.1), .lit (.int k z.2)] : DataW H) := by
        have := congrArg Prod.fst hx
        simpa using this
      have hxl : xs.length = n := by simpa using mapM_length hm
      have hzl : zs.length = n := by
        have := congrArg List.length hxs
        simp at this
        omega
      intro i z hz
      have hi : i < n := by
        have := (List.getElem?_eq_some_iff.1 hz).1
        omega
      obtain ⟨b, hb, hf⟩ := mapM_at hm i i (by simp [hi])
      have h2 : (xs.map (·.1))[i]? = some b.1 := by simp [hb]
      rw [hxs] at h2
      simp only [List.getElem?_map, hz, Option.map_some, Option.some.injEq] at h2
      cases fuel with
      | zero => simp [DataW.trod] at hf
      | succ fuel =>
        simp only [DataW.trod, he] at hf
        split at hf
        · obtain ⟨ys, hy, hyb⟩ := Option.map_eq_some_iff.1 hf
          rw [hfs] at hy
          simp only [List.mapM_cons, List.mapM_nil, Option.bind_eq_bind, Option.bind_eq_some_iff, Option.pure_def, Option.some.injEq] at hy
          obtain ⟨y0, e0, l1, ⟨y1, e1, l2, rfl, rfl⟩, rfl⟩ := hy
          have hb1 := congrArg Prod.fst hyb
          simp only [List.map_cons, List.map_nil] at hb1
          rw [← h2] at hb1
          simp only [DataW.agg.injEq, List.cons.injEq, and_true] at hb1
          obtain ⟨q0, q1⟩ := hb1
          obtain ⟨d0, p0⟩ := y0
          obtain ⟨d1, p1⟩ := y1
          simp only at q0 q1
          subst q0 q1
          have g0 := trod_lit k0 e0
          have g1 := trod_lit k1 e1
          rw [h0, c0] at g0
          rw [h1, c1] at g1
          have a0 := congrArg (·[0]?) g0
          have a1 := congrArg (·[0]?) g1
          simp [List.getElem?_take, List.getElem?_drop] at a0 a1
          exact ⟨by simpa using a0, by simpa using a1⟩
        · cases hf
    · cases h
end
theorem pairs_of_laid {P : Program} {W : World} {name : String} {k : IntKind} {zs : List (Int × Int)} {g : Nat} {t e : TypeId} {n : Nat} {fs : Array Field} {f0 f1 : Field}
    (hg : P.globalNamed name = some g) (hty : (P.globals[g]?).map (·.type) = some t) (ht : P.underlying t = some (.array n e)) (he : P.underlying e = some (.struct fs)) (hfs : fs.toList = [f0, f1]) (h0 : f0.offset = 0) (h1 : f1.offset = 1) (k0 : P.underlying f0.type = some (.int k)) (k1 : P.underlying f1.type = some (.int k))
    (c0 : P.cellsOf f0.type = 1) (c1 : P.cellsOf f1.type = 1) (hce : P.cellsOf e = 2)
    (h : laidMet P [(name, .agg (zs.map fun z => .agg [.lit (.int k z.1), .lit (.int k z.2)]))] W) (i : Nat) (z : Int × Int) (hz : zs[i]? = some z) :
    W.cell? ⟨g, i * 2, none⟩ = some (.int k z.1) ∧ W.cell? ⟨g, i * 2 + 1, none⟩ = some (.int k z.2) := by
  obtain ⟨ps, ⟨g', t', cs, fuel, p, q, hg', ht', hvar, hd, _, _⟩, _⟩ := h
  obtain rfl := Option.some.inj (hg.symm.trans hg')
  obtain rfl := Option.some.inj (hty.symm.trans ht')
  obtain ⟨a, b⟩ := cells_of_pairs ht he hfs h0 h1 k0 k1 c0 c1 hce hd i z hz
  have r0 := World.var?_cell hg hvar (i * 2)
  have r1 := World.var?_cell hg hvar (i * 2 + 1)
  constructor
  · rw [r0]; simpa using a
  · rw [r1]; simpa using b
end Go.Proofs.YtjpffbekhfkibaaGreatDoor
end
section
namespace Go.Proofs.YtjpffbekhfkibaaGreatDoor
set_option linter.all false
open Go.ChangeShapes Go.WideShapes Go.ChangeAt Go.RowKit Go.Lib
theorem trod_pair {H : Type} {enc : TypeId × Value → H} {P : Program} {w : World} {base : Nat} {sp : Nat → Bool} {held : Bool} {fuel : Nat} {e : TypeId} {k : IntKind} {cs : List Value} {x y : Int} {p : List MemPlace} {fs : Array Field} {f0 f1 : Field}
    (he : P.underlying e = some (.struct fs)) (hfs : fs.toList = [f0, f1]) (h0 : f0.offset = 0) (h1 : f1.offset = 1) (k0 : P.underlying f0.type = some (.int k)) (k1 : P.underlying f1.type = some (.int k))
    (c0 : P.cellsOf f0.type = 1) (c1 : P.cellsOf f1.type = 1) (h : DataW.trod enc P w base sp held fuel e cs = some (.agg [.lit (.int k x), .lit (.int k y)], p)) : cs[0]? = some (.int k x) ∧ cs[1]? = some (.int k y) := by
  cases fuel with
  | zero => simp [DataW.trod] at h
  | succ fuel =>
    simp only [DataW.trod, he] at h
    split at h
    · obtain ⟨ys, hy, hyb⟩ := Option.map_eq_some_iff.1 h
      rw [hfs] at hy
      simp only [List.mapM_cons, List.mapM_nil, Option.bind_eq_bind, Option.bind_eq_some_iff, Option.pure_def, Option.some.injEq] at hy
      obtain ⟨y0, e0, l1, ⟨y1, e1, l2, rfl, rfl⟩, rfl⟩ := hy
      have hb1 := congrArg Prod.fst hyb
      simp only [List.map_cons, List.map_nil] at hb1
      simp only [DataW.agg.injEq, List.cons.injEq, and_true] at hb1
      obtain ⟨q0, q1⟩ := hb1
      obtain ⟨d0, p0⟩ := y0
      obtain ⟨d1, p1⟩ := y1
      simp only at q0 q1
      subst q0 q1
      have g0 := trod_lit k0 e0
      have g1 := trod_lit k1 e1
      rw [h0, c0] at g0
      rw [h1, c1] at g1
      have a0 := congrArg (·[0]?) g0
      have a1 := congrArg (·[0]?) g1
      simp [List.getElem?_take, List.getElem?_drop] at a0 a1
      exact ⟨by simpa using a0, by simpa using a1⟩
    · cases h
def quadD {H : Type} (k : IntKind) (z : Int × Int × Int × Int) : DataW H := .agg [.agg [.lit (.int k z.1), .lit (.int k z.2.1)], .agg [.lit (.int k z.2.2.1), .lit (.int k z.2.2.2)]]
theorem trod_quad {H : Type} {enc : TypeId × Value → H} {P : Program} {w : World} {base : Nat} {sp : Nat → Bool} {held : Bool} {fuel : Nat} {t e : TypeId} {k : IntKind} {cs : List Value} {z : Int × Int × Int × Int} {p : List MemPlace} {gs : Array Field} {g0 g1 : Field} {fs : Array Field} {f0 f1 : Field}
    (ht : P.underlying t = some (.struct gs)) (hgs : gs.toList = [g0, g1]) (o0 : g0.offset = 0) (o1 : g1.offset = 2) (t0 : g0.type = e) (t1 : g1.type = e) (ce : P.cellsOf e = 2)
    (he : P.underlying e = some (.struct fs)) (hfs : fs.toList = [f0, f1]) (h0 : f0.offset = 0) (h1 : f1.offset = 1) (k0 : P.underlying f0.type = some (.int k)) (k1 : P.underlying f1.type = some (.int k))
    (c0 : P.cellsOf f0.type = 1) (c1 : P.cellsOf f1.type = 1) (h : DataW.trod enc P w base sp held fuel t cs = some (quadD k z, p)) :
    cs[0]? = some (.int k z.1) ∧ cs[1]? = some (.int k z.2.1) ∧ cs[2]? = some (.int k z.2.2.1) ∧ cs[3]? = some (.int k z.2.2.2) := by
  unfold quadD at h
  cases fuel with
  | zero => simp [DataW.trod] at h
  | succ fuel =>
    simp only [DataW.trod, ht] at h
    split at h
    · obtain ⟨ys, hy, hyb⟩ := Option.map_eq_some_iff.1 h
      rw [hgs] at hy
      simp only [List.mapM_cons, List.mapM_nil, Option.bind_eq_bind, Option.bind_eq_some_iff, Option.pure_def, Option.some.injEq] at hy
      obtain ⟨y0, e0, l1, ⟨y1, e1, l2, rfl, rfl⟩, rfl⟩ := hy
      have hb1 := congrArg Prod.fst hyb
      simp only [List.map_cons, List.map_nil] at hb1
      simp only [DataW.agg.injEq, List.cons.injEq, and_true] at hb1
      obtain ⟨q0, q1⟩ := hb1
      obtain ⟨d0, p0⟩ := y0
      obtain ⟨d1, p1⟩ := y1
      simp only at q0 q1
      subst q0 q1
      rw [t0] at e0
      rw [t1] at e1
      have a := trod_pair he hfs h0 h1 k0 k1 c0 c1 e0
      have b := trod_pair he hfs h0 h1 k0 k1 c0 c1 e1
      rw [o0, ce] at a
      rw [o1, ce] at b
      simp [List.getElem?_take, List.getElem?_drop] at a b
      exact ⟨by simpa using a.1, by simpa using a.2, by simpa using b.1, by simpa using b.2⟩
    · cases h
theorem cells_of_quads {H : Type} {enc : TypeId × Value → H} {P : Program} {w : World} {base : Nat} {sp : Nat → Bool} {held : Bool} {fuel : Nat} {u t e : TypeId} {n : Nat} {k : IntKind} {cs : List Value} {zs : List (Int × Int × Int × Int)} {p : List MemPlace} {gs : Array Field} {g0 g1 : Field} {fs : Array Field} {f0 f1 : Field}
    (hu : P.underlying u = some (.array n t)) (ht : P.underlying t = some (.struct gs)) (hgs : gs.toList = [g0, g1]) (o0 : g0.offset = 0) (o1 : g1.offset = 2) (t0 : g0.type = e) (t1 : g1.type = e) (ce : P.cellsOf e = 2) (ct : P.cellsOf t = 4)
    (he : P.underlying e = some (.struct fs)) (hfs : fs.toList = [f0, f1]) (h0 : f0.offset = 0) (h1 : f1.offset = 1) (k0 : P.underlying f0.type = some (.int k)) (k1 : P.underlying f1.type = some (.int k))
    (c0 : P.cellsOf f0.type = 1) (c1 : P.cellsOf f1.type = 1)
    (h : DataW.trod enc P w base sp held fuel u cs = some (.agg (zs.map (quadD k)), p)) :
    ∀ (i : Nat) (z : Int × Int × Int × Int), zs[i]? = some z → cs[i * 4]? = some (.int k z.1) ∧ cs[i * 4 + 1]? = some (.int k z.2.1) ∧ cs[i * 4 + 2]? = some (.int k z.2.2.1) ∧ cs[i * 4 + 3]? = some (.int k z.2.2.2) := by
  cases fuel with
  | zero => simp [DataW.trod] at h
  | succ fuel =>
    simp only [DataW.trod, hu, ct] at h
    split at h
    · rename_i hl
      obtain ⟨xs, hm, hx⟩ := Option.map_eq_some_iff.1 h
      have hxs : xs.map (·.1) = zs.map (quadD (H := H) k) := by
        have := congrArg Prod.fst hx
        simpa using this
      have hxl : xs.length = n := by simpa using mapM_length hm
      have hzl : zs.length = n := by
        have := congrArg List.length hxs
        simp at this
        omega
      intro i z hz
      have hi : i < n := by
        have := (List.getElem?_eq_some_iff.1 hz).1
        omega
      obtain ⟨b, hb, hf⟩ := mapM_at hm i i (by simp [hi])
      have h2 : (xs.map (·.1))[i]? = some b.1 := by simp [hb]
      rw [hxs] at h2
      simp only [List.getElem?_map, hz, Option.map_some, Option.some.injEq] at h2
      obtain ⟨bd, bp⟩ := b
      simp only at h2
      subst h2
      have a := trod_quad ht hgs o0 o1 t0 t1 ce he hfs h0 h1 k0 k1 c0 c1 hf
      simp [List.getElem?_take, List.getElem?_drop] at a
      exact ⟨by simpa using a.1, by simpa using a.2.1, by simpa using a.2.2.1, by simpa using a.2.2.2⟩
    · cases h
theorem quads_of_laid {P : Program} {W : World} {name : String} {k : IntKind} {zs : List (Int × Int × Int × Int)} {g : Nat} {u t e : TypeId} {n : Nat} {gs : Array Field} {g0 g1 : Field} {fs : Array Field} {f0 f1 : Field}
    (hg : P.globalNamed name = some g) (hty : (P.globals[g]?).map (·.type) = some u)
    (hu : P.underlying u = some (.array n t)) (ht : P.underlying t = some (.struct gs)) (hgs : gs.toList = [g0, g1]) (o0 : g0.offset = 0) (o1 : g1.offset = 2) (t0 : g0.type = e) (t1 : g1.type = e) (ce : P.cellsOf e = 2) (ct : P.cellsOf t = 4)
    (he : P.underlying e = some (.struct fs)) (hfs : fs.toList = [f0, f1]) (h0 : f0.offset = 0) (h1 : f1.offset = 1) (k0 : P.underlying f0.type = some (.int k)) (k1 : P.underlying f1.type = some (.int k))
    (c0 : P.cellsOf f0.type = 1) (c1 : P.cellsOf f1.type = 1)
    (h : laidMet P [(name, .agg (zs.map (quadD k)))] W) (i : Nat) (z : Int × Int × Int × Int) (hz : zs[i]? = some z) :
    W.cell? ⟨g, i * 4, none⟩ = some (.int k z.1) ∧ W.cell? ⟨g, i * 4 + 1, none⟩ = some (.int k z.2.1) ∧ W.cell? ⟨g, i * 4 + 2, none⟩ = some (.int k z.2.2.1) ∧ W.cell? ⟨g, i * 4 + 3, none⟩ = some (.int k z.2.2.2) := by
  obtain ⟨ps, ⟨g', t', cs, fuel, p, q, hg', ht', hvar, hd, _, _⟩, _⟩ := h
  obtain rfl := Option.some.inj (hg.symm.trans hg')
  obtain rfl := Option.some.inj (hty.symm.trans ht')
  obtain ⟨a, b, c, d⟩ := cells_of_quads hu ht hgs o0 o1 t0 t1 ce ct he hfs h0 h1 k0 k1 c0 c1 hd i z hz
  have r0 := World.var?_cell hg hvar (i * 4)
  have r1 := World.var?_cell hg hvar (i * 4 + 1)
  have r2 := World.var?_cell hg hvar (i * 4 + 2)
  have r3 := World.var?_cell hg hvar (i * 4 + 3)
  exact ⟨by rw [r0]; simpa using a, by rw [r1]; simpa using b, by rw [r2]; simpa using c, by rw [r3]; simpa using d⟩
end Go.Proofs.YtjpffbekhfkibaaGreatDoor
end
section
namespace Go.Proofs.YtjpffbekhfkibaaGreatDoor
set_option linter.all false
open Go.RowKit
namespace Mini
variable {P : Program} {s s1 : St} {R W : Nat}

def rhoX (P : Program) (w : World) (ext : Nat → Option Loc) : Ren := fun b =>
  if b < P.globals.size then some ⟨b, 0, true, 0, match w.heap[b]? with | some (.cells cs _ _) => cs.size | _ => 0⟩ else ext b
theorem calls_ofX {f : FuncId} {args args' : Array Value} {v : Value} {w : World} {ext : Nat → Option Loc} (h : SndF P f args s v s1 R W) (hg : ground 8 v = true) (hn : P.globals.size ≤ s.next)
    (hh : ∀ b, b < P.globals.size → s.get b = .hole ∨ ∃ c e, s.get b = .cells c e true 0 true ∧ c ≠ [] ∧ c.all (ground 8) = true ∧ ∀ (i : Nat) (v : Value), c[i]? = some v → w.cell? ⟨b, i, none⟩ = some v)
    (hx : ∀ b, P.globals.size ≤ b → b < s.next → s.get b ≠ .hole → ∃ L o', ext b = some L ∧ (roO (s.get b) = false → P.globals.size ≤ L.blk) ∧ w.heap[L.blk]? = some o' ∧ OR (rhoX P w ext) L (s.get b) o')
    (hb : ∀ b, s.next ≤ b → ext b = none) (hi : ∀ b b' L L', P.globals.size ≤ b → P.globals.size ≤ b' → s.get b ≠ .hole → s.get b' ≠ .hole → (roO (s.get b) && roO (s.get b')) = false → ext b = some L → ext b' = some L' → L.blk = L'.blk → b = b')
    (ha : VRs (rhoX P w ext) args args') (hw : ∀ b, b < s.next → W.testBit b = false) : Calls P f args' w fun e w' => e = .returned v ∧ Below w.heap.size w w' := by
  have hG : Glob P (rhoX P w ext) := fun g hg => ⟨_, if_pos hg, rfl, rfl⟩
  have hlt : ∀ b, s.get b ≠ .hole → b < s.next := fun b hb => St.lt_of_live hb
  have hblk : ∀ b L, s.get b ≠ .hole → rhoX P w ext b = some L → (b < P.globals.size ∧ L.blk = b) ∨ (P.globals.size ≤ b ∧ ext b = some L ∧ (roO (s.get b) = false → P.globals.size ≤ L.blk)) := fun b L hb hL => by
    unfold rhoX at hL
    split at hL
    · rename_i c; cases hL; exact .inl ⟨c, rfl⟩
    · rename_i c
      obtain ⟨L2, o2, e1, e2, _⟩ := hx b (by omega) (hlt b hb) hb
      rw [hL] at e1
      cases e1
      exact .inr ⟨by omega, hL, e2⟩
  have hp : Pre P none s s1 R W none (rhoX P w ext) s.get w := by
    refine ⟨hG, trivial, fun _ _ _ => rfl, fun b h1 h2 => ⟨?_, St.get_beyond s b h1⟩, fun b hb => ?_, fun b b' L L' h1 h2 hq e1 e2 he => ?_⟩
    · show (if b < P.globals.size then _ else ext b) = none
      rw [if_neg (by omega)]
      exact hb b h1
    · by_cases c : b < P.globals.size
      · rcases hh b c with k | ⟨cs0, e, k1, k2, k3, k4⟩
        · exact absurd k hb
        · obtain ⟨cs, e', fr, q1, q2, q3⟩ := cells_of k2 k4
          refine ⟨_, .cells cs e' fr, if_pos c, q1, ?_⟩
          rw [k1]
          refine ⟨rfl, rfl, fun h => (by cases h), ?_, ?_, fun i u hi => ⟨u, by simpa using q3 i u hi, ground_refl 8 (List.all_eq_true.1 k3 u (List.mem_of_getElem? hi))⟩, fun h => (by cases h), fun h => (by cases h)⟩
          · simp only [q1]
          · simp only [q1, Nat.zero_add]; exact q2
      · obtain ⟨L, o', e1, _, e3, e4⟩ := hx b (by omega) (hlt b hb) hb
        exact ⟨L, o', by show (if b < P.globals.size then _ else ext b) = _; rw [if_neg c]; exact e1, e3, e4⟩
    · have htab : ∀ b, b < P.globals.size → s.get b ≠ .hole → roO (s.get b) = true := fun b hb hn => by
        rcases hh b hb with k | ⟨c, e, k1, _⟩
        · exact absurd k hn
        · rw [k1]; rfl
      rcases hblk b L h1 e1 with ⟨a1, a2⟩ | ⟨a1, a2, a3⟩ <;> rcases hblk b' L' h2 e2 with ⟨c1, c2⟩ | ⟨c1, c2, c3⟩
      · omega
      · rw [htab b a1 h1, Bool.true_and] at hq
        have := c3 hq
        omega
      · rw [htab b' c1 h2, Bool.and_true] at hq
        have := a3 hq
        omega
      · exact hi b b' L L' a1 c1 h1 h2 hq a2 c2 he
  refine callsIn_wide.1 (h.2 0 (rhoX P w ext) s.get args' w _ hp ha fun ρ1 v' w1 p1 _ hv => ?_)
  have hv' := ground_eq 8 hg hv
  subst hv'
  refine ⟨rfl, p1.os, p1.tape, p1.output, p1.size, fun k hk => p1.frame k hk fun b L hb hlt hL => ?_⟩
  have := hw b hlt
  rw [hb] at this
  cases this
theorem or_read {ρ : Ren} {n k : Nat} {g : Nat → Nat → Value} {e : TypeId} {cs : Array Value} {e' : TypeId} {fr : Nat × Nat} {blk base : Nat} (hl : base + n * k ≤ cs.size) (hg : ∀ i j, i < n → j < k → ground 8 (g i j) = true)
    (h : ∀ i j, i < n → j < k → cs[base + (i * k + j)]? = some (g i j)) : OR ρ ⟨blk, base, true, 0, cs.size⟩ (.rows n k g e true 0 true) (.cells cs e' fr) := by
  refine ⟨rfl, rfl, fun h => (by cases h), rfl, by rw [rowsL_len]; exact hl, fun i v hi => ?_, fun h => (by cases h), fun h => (by cases h)⟩
  have hlt : i < n * k := by
    have := (List.getElem?_eq_some_iff.1 hi).1
    rwa [rowsL_len] at this
  rw [rowsL_at hlt] at hi
  cases hi
  have hk : 0 < k := by
    rcases Nat.eq_zero_or_pos k with z | z
    · subst z; simp at hlt
    · exact z
  have h1 := (Nat.div_lt_iff_lt_mul hk).2 hlt
  have h2 := Nat.mod_lt i hk
  have h3 := h _ _ h1 h2
  rw [Nat.mul_comm, Nat.div_add_mod] at h3
  exact ⟨_, h3, ground_refl 8 (hg _ _ h1 h2)⟩
end Mini
end Go.Proofs.YtjpffbekhfkibaaGreatDoor
end
section
namespace Go.Proofs.YtjpffbekhfkibaaGreatDoor
set_option linter.all false
open Go.ChangeShapes Go.WideShapes Go.ChangeAt Go.RowKit Go.Lib Go.Deep
namespace Mini
def RowsAt (W : World) (ks : List IntKind) (v : Value) : Prop := v = .slice none 0 0 ∨ ∃ (b off len cap : Nat) (g : Nat → Nat → Int), v = .slice (some ⟨b, off, none⟩) len cap ∧ len ≤ cap ∧ cap ≤ maxLen ∧
  ∀ i j, i < len → j < ks.length → W.cell? ⟨b, off + (i * ks.length + j), none⟩ = some (.int (ks.getD j .i64) (g i j)) ∧ (Lit.int (ks.getD j .i64) (g i j)).wf = true
theorem wfs_at : ∀ {ks : List IntKind} {ns : List Int} {j : Nat}, ns.length = ks.length → wfs ks ns = true → j < ks.length → (Lit.int (ks.getD j .i64) (ns.getD j 0)).wf = true
  | [], _, j, _, _, h => absurd h (by simp)
  | k :: ks, [], j, h, _, _ => by cases h
  | k :: ks, n :: ns, 0, _, h, _ => by simp only [wfs, Bool.and_eq_true] at h; exact h.1
  | k :: ks, n :: ns, j + 1, hl, h, hj => by
    simp only [wfs, Bool.and_eq_true] at h
    have := wfs_at (ks := ks) (ns := ns) (j := j) (by simpa using hl) h.2 (by simpa using hj)
    simpa using this
theorem backI_at : ∀ {ks : List IntKind} {ns : List Int} {j : Nat}, ns.length = ks.length → j < ks.length → (backI ks ns)[j]? = some (.int (ks.getD j .i64) (ns.getD j 0))
  | [], _, j, _, h => absurd h (by simp)
  | k :: ks, [], j, h, _ => by cases h
  | k :: ks, n :: ns, 0, _, _ => rfl
  | k :: ks, n :: ns, j + 1, hl, hj => by
    have := backI_at (ks := ks) (ns := ns) (j := j) (by simpa using hl) (by simpa using hj)
    simpa [backI] using this
theorem rows_of {H : Type} {enc : TypeId × Value → H} {P : Program} {W : World} {base m : Nat} {t e : TypeId} {v : Value} {d : DataW H} {p : List MemPlace} {ks : List IntKind} (ht : P.underlying t = some (.slice e)) (hk : kindsT P m e = some ks) (hc : P.cellsOf e = ks.length)
    (hv : Value.okWide P W .any base t v) (h : DataW.Trod enc P W 0 (fun _ => true) true t v d p) : RowsAt W ks v := by
  obtain ⟨a, len, cap, rfl⟩ := okWide_slice ht hv
  obtain ⟨fuel, hf⟩ := h
  rcases open_slice ht hf with ⟨hcs, _⟩ | ⟨a', len', cap', m', n, D, Pl, hcs, _, hl, hmx, hm, _, hx⟩
  · left
    simpa [Value.cells] using hcs
  · right
    have hcs : Value.slice a len cap = .slice (some a') len' cap' := by simpa [Value.cells] using hcs
    cases hcs
    simp only [Value.okWide, ht, Cell.okWide, Cell.ok, World.has] at hv
    obtain ⟨b, off, spot⟩ := a'
    have hs : spot = none := hv.2.2.2.1
    subst hs
    have hm' : len ≤ m' := by rw [hm]; exact hl
    have z0 : ∀ i, ∃ ns : List Int, i < len → ns.length = ks.length ∧ wfs ks ns = true ∧ ∀ j, j < ks.length → W.cell? ⟨b, off + (i * ks.length + j), none⟩ = (backI ks ns)[j]? := fun i => by
      by_cases hi : i < len
      · obtain ⟨cs', q1, q2⟩ := hx i (by omega)
        rw [hc] at q1
        obtain ⟨_, hlen, hcell⟩ := World.cells?_some q1
        obtain ⟨_, ns, l1, c1, f1, _⟩ := open_kinds m e ks hk n cs' (D i) (Pl i) W 0 (fun _ => true) true q2
        refine ⟨ns, fun _ => ⟨l1, f1, fun j hj => ?_⟩⟩
        have h2 := hcell j hj
        rw [Go.WideShapes.add_plain, Go.WideShapes.add_plain] at h2
        rw [← c1, ← h2]
        congr 2
        omega
      · exact ⟨[], fun h => absurd h hi⟩
    refine ⟨b, off, len, cap, fun i j => (Classical.choose (z0 i)).getD j 0, rfl, hl, hmx, fun i j hi hj => ?_⟩
    obtain ⟨e1, e2, e3⟩ := Classical.choose_spec (z0 i) hi
    exact ⟨(e3 j hj).trans (backI_at e1 hj), wfs_at e1 e2 hj⟩
def extAt (N b off sz : Nat) : Nat → Option Mini.Loc := fun x => if x = N then some ⟨b, off, true, 0, sz⟩ else none
theorem cell_obj {W : World} {b off : Nat} {v : Value} (h : W.cell? ⟨b, off, none⟩ = some v) : ∃ cs e fr, W.heap[b]? = some (.cells cs e fr) ∧ cs[off]? = some v := by
  unfold World.cell? at h
  split at h
  · rename_i c e fr hc
    exact ⟨c, e, fr, hc, by simpa using h⟩
  · cases h
theorem vrs_one {ρ : Ren} {pre post : List Value} {u u' : Value} (h1 : pre.all (ground 8) = true) (h2 : post.all (ground 8) = true) (hu : VR ρ u u') : VRs ρ (pre ++ u :: post).toArray (pre ++ u' :: post).toArray := by
  refine ⟨by simp, fun i x x' e1 e2 => ?_⟩
  simp only [List.getElem?_toArray] at e1 e2
  rw [List.all_eq_true] at h1 h2
  rcases Nat.lt_trichotomy i pre.length with c | c | c
  · rw [List.getElem?_append_left c] at e1 e2
    rw [e1] at e2
    cases e2
    exact ground_refl 8 (h1 _ (List.mem_of_getElem? e1))
  · rw [List.getElem?_append_right (by omega)] at e1 e2
    rw [c, Nat.sub_self] at e1 e2
    cases e1
    cases e2
    exact hu
  · rw [List.getElem?_append_right (by omega)] at e1 e2
    obtain ⟨q, hq⟩ : ∃ q, i - pre.length = q + 1 := ⟨i - pre.length - 1, by omega⟩
    rw [hq] at e1 e2
    simp only [List.getElem?_cons_succ] at e1 e2
    rw [e1] at e2
    cases e2
    exact ground_refl 8 (h2 _ (List.mem_of_getElem? e1))
theorem calls_row1 {P : Program} {f : FuncId} {S0 : St} {W : World} {ks : List IntKind} {pre post : List Value} {v0 : Value} {G : (Nat → Nat → Int) → Nat → Nat → Value} (hh : Holds P S0 W) (hn : S0.next = P.globals.size) (hw0 : ∀ b, b < P.globals.size → b < S0.next)
    (hp1 : pre.all (ground 8) = true) (hp2 : post.all (ground 8) = true) (hG : ∀ g i j, j < ks.length → G g i j = .int (ks.getD j .i64) (g i j)) (hk : 0 < ks.length) (hv : RowsAt W ks v0)
    (hnil : ∃ s1 R, SndF P f (pre ++ .slice none 0 0 :: post).toArray S0 (.bool true) s1 R 0)
    (hemp : ∀ c, ∃ s1 R, SndF P f (pre ++ .slice (some ⟨S0.next, 0, none⟩) 0 c :: post).toArray (S0.push .hole) (.bool true) s1 R 0)
    (hrow : ∀ n c g, 0 < n → n ≤ c → c ≤ maxLen → (∀ i j, i < n → j < ks.length → (Lit.int (ks.getD j .i64) (g i j)).wf = true) → ∃ s1 R, SndF P f (pre ++ .slice (some ⟨S0.next, 0, none⟩) n c :: post).toArray (S0.push (.rows n ks.length (G g) 0 true 0 true)) (.bool true) s1 R 0) :
    Calls P f (pre ++ v0 :: post).toArray W fun e W' => e = .returned (.bool true) ∧ Below W.heap.size W W' := by
  have hold : ∀ (o : MObj) b, b < P.globals.size → (S0.push o).get b = S0.get b := fun o b hb => St.get_push_old S0 o b (hw0 b hb)
  have hnx : ∀ o : MObj, (S0.push o).next = S0.next + 1 := fun o => rfl
  have hnew : ∀ o : MObj, (S0.push o).get S0.next = o := fun o => St.get_push_new S0 o
  rcases hv with rfl | ⟨b, off, len, cap, g, rfl, hl, hmx, hc⟩
  · obtain ⟨s1, R, h⟩ := hnil
    exact calls_of h rfl (by simp only [List.all_append, List.all_cons, hp1, hp2, ground, Bool.and_self]) (fun b _ => by simp) hh
  · rcases Nat.eq_zero_or_pos len with z | z
    · subst z
      obtain ⟨s1, R, h⟩ := hemp cap
      refine calls_ofX (ext := extAt S0.next b off 0) h rfl (by rw [hnx]; omega) (fun x hx => by rw [hold _ x hx]; exact hh.holds x hx) (fun x h1 h2 h3 => ?_) (fun x hx => if_neg (by rw [hnx] at hx; omega)) (fun x y L L' h1 h2 h3 h4 _ h5 h6 _ => ?_) (vrs_one hp1 hp2 ?_) (fun x _ => by simp)
      · rw [hnx] at h2
        have : x = S0.next := by omega
        subst this
        exact absurd (hnew _) h3
      · unfold extAt at h5 h6
        split at h5
        · split at h6
          · omega
          · cases h6
        · cases h5
      · exact .slice S0.next 0 0 cap cap ⟨b, off, true, 0, 0⟩ (by unfold rhoX; rw [if_neg (by omega)]; exact if_pos rfl) (.inl rfl)
    · obtain ⟨s1, R, h⟩ := hrow len cap g z hl hmx (fun i j hi hj => (hc i j hi hj).2)
      have c0 := (hc 0 0 z hk).1
      obtain ⟨cs, e', fr, ho, _⟩ := cell_obj c0
      have hcs : ∀ i j, i < len → j < ks.length → cs[off + (i * ks.length + j)]? = some (G g i j) := fun i j hi hj => by
        obtain ⟨c1, e1, f1, o1, r1⟩ := cell_obj (hc i j hi hj).1
        rw [ho] at o1
        cases o1
        rw [hG g i j hj]
        exact r1
      have hsize : off + len * ks.length ≤ cs.size := by
        have := (Array.getElem?_eq_some_iff.1 (hcs (len - 1) (ks.length - 1) (by omega) (by omega))).1
        have e1 : (len - 1) * ks.length + ks.length = len * ks.length := by
          obtain ⟨q, rfl⟩ : ∃ q, len = q + 1 := ⟨len - 1, by omega⟩
          simp [Nat.succ_mul]
        omega
      refine calls_ofX (ext := extAt S0.next b off cs.size) h rfl (by rw [hnx]; omega) (fun x hx => by rw [hold _ x hx]; exact hh.holds x hx) (fun x h1 h2 h3 => ?_) (fun x hx => if_neg (by rw [hnx] at hx; omega)) (fun x y L L' h1 h2 h3 h4 _ h5 h6 _ => ?_) (vrs_one hp1 hp2 ?_) (fun x _ => by simp)
      · rw [hnx] at h2
        have : x = S0.next := by omega
        subst this
        have hr := hnew (.rows len ks.length (G g) 0 true 0 true)
        refine ⟨⟨b, off, true, 0, cs.size⟩, .cells cs e' fr, if_pos rfl, fun h => ?_, ho, ?_⟩
        · rw [hr] at h; cases h
        · rw [hr]
          exact or_read hsize (fun i j _ hj => by rw [hG g i j hj]; rfl) fun i j hi hj => hcs i j hi hj
      · unfold extAt at h5 h6
        split at h5
        · split at h6
          · omega
          · cases h6
        · cases h5
      · exact .slice S0.next 0 len cap cap ⟨b, off, true, 0, cs.size⟩ (by unfold rhoX; rw [if_neg (by omega)]; exact if_pos rfl) (.inl rfl)
end Mini
end Go.Proofs.YtjpffbekhfkibaaGreatDoor
end
section
set_option linter.all false
set_option maxRecDepth 1000000
open Go.RowKit
namespace Go.Proofs.YtjpffbekhfkibaaGreatDoor
open Mini
theorem awS0n : awS0.next = Tryz.prog.globals.size := by kernel_rfl
theorem lt_calls {W : World} (hh : Holds Tryz.prog awS0 W) (v0 : Value) (z0 z1 z2 z3 z4 z5 z6 z7 z8 z9 z10 z11 k : Int) (hk : (Lit.int .i8 k).wf = true) (hv : RowsAt W [.i8, .i8] v0) :
    Calls Tryz.prog 3 #[v0, .agg #[.int .i8 z0, .int .i8 z1, .int .i8 z2, .int .i8 z3, .int .i8 z4, .int .i8 z5, .int .i8 z6, .int .i8 z7, .int .i8 z8, .int .i8 z9, .int .i8 z10, .int .i8 z11], .int .i8 k] W fun e W' => e = .returned (.bool true) ∧ Below W.heap.size W W' := by
  have hb : -128 ≤ k ∧ k ≤ 127 := by
    simp [Lit.wf, IntKind.min, IntKind.max, IntKind.signed, IntKind.bits] at hk
    omega
  refine calls_row1 (pre := []) (post := [.agg #[.int .i8 z0, .int .i8 z1, .int .i8 z2, .int .i8 z3, .int .i8 z4, .int .i8 z5, .int .i8 z6, .int .i8 z7, .int .i8 z8, .int .i8 z9, .int .i8 z10, .int .i8 z11], .int .i8 k]) (G := fun g i j => .int .i8 (g i j)) hh awS0n (fun b hb => by rw [awS0n]; exact hb) rfl rfl (fun g i j hj => ?_) (by decide) hv ?_ (fun c => ?_) (fun n c g h0 _ _ _ => ?_)
  · match j, hj with
    | 0, _ => rfl
    | 1, _ => rfl
  · exact lz_true z0 z1 z2 z3 z4 z5 z6 z7 z8 z9 z10 z11 k hb
  · exact le_true c z0 z1 z2 z3 z4 z5 z6 z7 z8 z9 z10 z11 k hb
  · by_cases h : 12 < n
    · exact lm_true n c g 0 z0 z1 z2 z3 z4 z5 z6 z7 z8 z9 z10 z11 k h
    · obtain ⟨m, rfl⟩ : ∃ m, n = m + 1 := ⟨n - 1, by omega⟩
      exact lt_true m c g 0 z0 z1 z2 z3 z4 z5 z6 z7 z8 z9 z10 z11 k (by omega) hb
end Go.Proofs.YtjpffbekhfkibaaGreatDoor
end
section
set_option linter.all false
namespace Go.Proofs.YtjpffbekhfkibaaGreatDoor.phasorTurns
open Go.ChangeShapes Go.WideShapes Go.ChangeAt Go.RowKit Mini

theorem own : ownKnob Tryz.prog.godebug = none := by kernel_rfl
theorem gt0N : Tryz.prog.globalNamed "bipole/phasor.powers" = some 0 := by kernel_rfl
theorem gt0T : (Tryz.prog.globals[0]?).map (·.type) = some 153 := by kernel_rfl
def t0 : List (Int × Int) := [(1, 0), (0, -1), (-1, 0), (0, 1)]
theorem onet0 : (Rows.phasorTurnsRow.laid.filter fun x => x.1 == "bipole/phasor.powers") = [("bipole/phasor.powers", .agg (t0.map fun z => .agg [.lit (.int .i64 z.1), .lit (.int .i64 z.2)]))] := by kernel_rfl
theorem cellst0 {W : World} (h : laidMetH Tryz.prog Rows.phasorTurnsRow.laid W) (i : Nat) (z : Int × Int) (hz : t0[i]? = some z) : W.cell? ⟨0, i * 2, none⟩ = some (.int .i64 z.1) ∧ W.cell? ⟨0, i * 2 + 1, none⟩ = some (.int .i64 z.2) := by
  have h1 := laidMetH.filter (P := Tryz.prog) (fun x => x.1 == "bipole/phasor.powers") h
  rw [onet0] at h1
  exact pairs_of_laid gt0N gt0T Tryz.underlying153 Tryz.underlying152 rfl rfl rfl Tryz.underlying3 Tryz.underlying3 (by kernel_rfl) (by kernel_rfl) (by kernel_rfl) h1 i z hz
theorem s0t0 : awS0.get 0 = .cells ((t0.flatMap fun z => [z.1, z.2]).map fun n => Value.int .i64 n) 153 true 0 true := by kernel_rfl
theorem gt2N : Tryz.prog.globalNamed "internal/strconv.uint64pow10" = some 2 := by kernel_rfl
theorem gt2T : (Tryz.prog.globals[2]?).map (·.type) = some 173 := by kernel_rfl
def t2 : List Int := (List.range 20).map fun i => ((10 ^ i : Nat) : Int)
theorem onet2 : (Rows.phasorTurnsRow.laid.filter fun x => x.1 == "internal/strconv.uint64pow10") = [("internal/strconv.uint64pow10", Lib.tabData .u64 t2)] := by kernel_rfl
theorem cellst2 {W : World} (h : laidMetH Tryz.prog Rows.phasorTurnsRow.laid W) (i : Nat) (hi : i < 20) : W.cell? ⟨2, i, none⟩ = some (.int .u64 (t2.getD i 0)) := by
  have h1 := laidMetH.filter (P := Tryz.prog) (fun x => x.1 == "internal/strconv.uint64pow10") h
  rw [onet2] at h1
  exact (Lib.tabIs_of_head (rest := []) gt2N gt2T Tryz.underlying173 Tryz.underlying162 (by kernel_rfl) (by kernel_rfl) h1).cell gt2N i (by simpa [t2] using hi)
theorem s0t2 : awS0.get 2 = .cells (t2.map fun n => Value.int .u64 n) 173 true 0 true := by kernel_rfl
theorem holds0 {W : World} (h : laidMetH Tryz.prog Rows.phasorTurnsRow.laid W) : Holds Tryz.prog awS0 W := by
  refine ⟨by kernel_rfl, fun b hb => ?_⟩
  rw [show Tryz.prog.globals.size = 6 by kernel_rfl] at hb
  match b, hb with
  | 0, _ =>
    refine .inr ⟨_, _, s0t0, by simp [t0], by kernel_rfl, fun i v hi => ?_⟩
    have p0 := cellst0 h 0 (1, 0) rfl
    have p1 := cellst0 h 1 (0, -1) rfl
    have p2 := cellst0 h 2 (-1, 0) rfl
    have p3 := cellst0 h 3 (0, 1) rfl
    match i, hi with
    | 0, hi => simp [t0] at hi; subst hi; exact p0.1
    | 1, hi => simp [t0] at hi; subst hi; exact p0.2
    | 2, hi => simp [t0] at hi; subst hi; exact p1.1
    | 3, hi => simp [t0] at hi; subst hi; exact p1.2
    | 4, hi => simp [t0] at hi; subst hi; exact p2.1
    | 5, hi => simp [t0] at hi; subst hi; exact p2.2
    | 6, hi => simp [t0] at hi; subst hi; exact p3.1
    | 7, hi => simp [t0] at hi; subst hi; exact p3.2
    | i + 8, hi => simp [t0] at hi
  | 1, _ => exact .inl (by kernel_rfl)
  | 2, _ =>
    refine .inr ⟨_, _, s0t2, by simp [t2], by kernel_rfl, fun i v hi => ?_⟩
    have hlt : i < 20 := by
      have := (List.getElem?_eq_some_iff.1 hi).1
      simpa [t2] using this
    rw [cellst2 h i hlt]
    simp only [List.getElem?_map, Option.map_eq_some_iff] at hi
    obtain ⟨a, h1, rfl⟩ := hi
    simp [List.getD, h1]
  | 3, _ => exact .inl (by kernel_rfl)
  | 4, _ => exact .inl (by kernel_rfl)
  | 5, _ => exact .inl (by kernel_rfl)
  | b + 6, hb => omega

set_option maxRecDepth 100000 in
theorem contract (H : Type) (enc : TypeId × Value → H) (W : World) (base : Nat) (args : Array Value) (ds gs : List (DataW H)) (before : List MemPlace)
    (hval : ∀ (j : Nat) t v, Tryz.f3.params[j]? = some t → args[j]? = some v → Value.okWide Tryz.prog W .any base t v)
    (hW : DataW.Whole enc Tryz.prog Tryz.f3.params.toList Rows.phasorTurnsSpec.vars false W args.toList ds gs before) (hL : laidMetH Tryz.prog Rows.phasorTurnsRow.laid W) :
    Calls Tryz.prog 3 args W fun e W' => ∃ v, e = .returned v ∧ Rows.phasorTurnsSpec.post enc Tryz.prog Tryz.f3 false true false false W args v W' := by
  have hW' := hW
  obtain ⟨p, q, hA0, hV, rfl, hfz, hnd⟩ := hW
  have hA : DataW.TrodAll enc Tryz.prog W 0 (fun _ => true) true Tryz.f3.params.toList args.toList ds p := hA0
  rw [Tryz.params3] at hA hval
  obtain ⟨v0, vs0, d0, ds0, p0, q0, hargs, rfl, rfl, h0, r0⟩ := trodAll_cons hA
  obtain ⟨v1, vs1, d1, ds1, p1, q1, rfl, rfl, rfl, h1, r1⟩ := trodAll_cons r0
  obtain ⟨v2, vs2, d2, ds2, p2, q2, rfl, rfl, rfl, h2, r2⟩ := trodAll_cons r1
  obtain ⟨rfl, rfl, rfl⟩ := trodAll_nil r2
  obtain rfl : args = #[v0, v1, v2] := by apply Array.ext'; simpa using hargs
  obtain ⟨rfl, rfl⟩ := trodVars_none hV
  have hk0 := h0
  have o0 := rows_of (P := Tryz.prog) (m := 6) (ks := [.i8, .i8]) Tryz.underlying22 (by kernel_rfl) (by kernel_rfl) (hval 0 22 v0 rfl rfl) h0
  obtain ⟨ns1, l1, rfl, rfl, f1, t1⟩ := open_agg (n := 6) (ks := [.i8, .i8, .i8, .i8, .i8, .i8, .i8, .i8, .i8, .i8, .i8, .i8]) (by kernel_rfl) (by kernel_rfl) (hval 1 25 v1 rfl rfl) h1
  have l1_0 : ns1.length = 12 := l1
  clear l1
  obtain ⟨x1_0, ns1_0, rfl, l1_1⟩ := len_cons l1_0
  obtain ⟨x1_1, ns1_1, rfl, l1_2⟩ := len_cons l1_1
  obtain ⟨x1_2, ns1_2, rfl, l1_3⟩ := len_cons l1_2
  obtain ⟨x1_3, ns1_3, rfl, l1_4⟩ := len_cons l1_3
  obtain ⟨x1_4, ns1_4, rfl, l1_5⟩ := len_cons l1_4
  obtain ⟨x1_5, ns1_5, rfl, l1_6⟩ := len_cons l1_5
  obtain ⟨x1_6, ns1_6, rfl, l1_7⟩ := len_cons l1_6
  obtain ⟨x1_7, ns1_7, rfl, l1_8⟩ := len_cons l1_7
  obtain ⟨x1_8, ns1_8, rfl, l1_9⟩ := len_cons l1_8
  obtain ⟨x1_9, ns1_9, rfl, l1_10⟩ := len_cons l1_9
  obtain ⟨x1_10, ns1_10, rfl, l1_11⟩ := len_cons l1_10
  obtain ⟨x1_11, ns1_11, rfl, l1_12⟩ := len_cons l1_11
  obtain rfl := len_nil l1_12
  obtain ⟨x2, rfl, rfl, f2, t2⟩ := open_num Tryz.underlying23 (hval 2 23 v2 rfl rfl) h2
  clear hA0
  simp only [List.append_nil] at hW'
  refine (lt_calls (holds0 hL) v0 x1_0 x1_1 x1_2 x1_3 x1_4 x1_5 x1_6 x1_7 x1_8 x1_9 x1_10 x1_11 x2 f2 o0).mono fun e W' ⟨he, hb⟩ => ?_
  subst he
  exact ⟨_, rfl, post_below (pa := p0 ++ ([] ++ ([] ++ []))) (pv := []) hW' (ok_one (by kernel_rfl) rfl (okWide_bool_mk Tryz.underlying4 _)) (fun _ _ _ => trodAll_cons_mk (shut_bool Tryz.underlying4 _) trodAll_mk0)
    (fun sp hsp => trodAll_cons_mk (WideElems.Trod_stays (P := Tryz.prog) (by kernel_rfl) (by kernel_rfl) (of_decide_eq_true (by kernel_rfl)) hk0 (fun x hx => hb.same (hW'.lt x (by simp [hx]))) (fun x hx => hsp x (by simp [hx]))) (trodAll_cons_mk (t1 _ _ _ _) (trodAll_cons_mk (t2 _ _ _ _) (trodAll_mk0))))
    (fun _ _ => rfl) (by simp) hb⟩

def setTab (b : Nat) (cs : Array Value) (h : Array Obj) : Array Obj := h.modify b fun
  | .cells _ t frozen => .cells cs t frozen
  | o => o
noncomputable def laidWorld (os : Os) : World :=
  { World.holding Tryz.prog os ⟨#[], #[], []⟩ with heap := setTab 5 #[.int .u8 (0), .int .u8 (1), .int .u8 (56), .int .u8 (2), .int .u8 (57), .int .u8 (49), .int .u8 (28), .int .u8 (3), .int .u8 (61), .int .u8 (58), .int .u8 (42), .int .u8 (50), .int .u8 (38), .int .u8 (29), .int .u8 (17), .int .u8 (4), .int .u8 (62), .int .u8 (47), .int .u8 (59), .int .u8 (36), .int .u8 (45), .int .u8 (43), .int .u8 (51), .int .u8 (22), .int .u8 (53), .int .u8 (39), .int .u8 (33), .int .u8 (30), .int .u8 (24), .int .u8 (18), .int .u8 (12), .int .u8 (5), .int .u8 (63), .int .u8 (55), .int .u8 (48), .int .u8 (27), .int .u8 (60), .int .u8 (41), .int .u8 (37), .int .u8 (16), .int .u8 (46), .int .u8 (35), .int .u8 (44), .int .u8 (21), .int .u8 (52), .int .u8 (32), .int .u8 (23), .int .u8 (11), .int .u8 (54), .int .u8 (26), .int .u8 (40), .int .u8 (15), .int .u8 (34), .int .u8 (20), .int .u8 (31), .int .u8 (10), .int .u8 (25), .int .u8 (14), .int .u8 (19), .int .u8 (9), .int .u8 (13), .int .u8 (8), .int .u8 (7), .int .u8 (6)] (setTab 4 #[.int .u8 (0), .int .u8 (1), .int .u8 (28), .int .u8 (2), .int .u8 (29), .int .u8 (14), .int .u8 (24), .int .u8 (3), .int .u8 (30), .int .u8 (22), .int .u8 (20), .int .u8 (15), .int .u8 (25), .int .u8 (17), .int .u8 (4), .int .u8 (8), .int .u8 (31), .int .u8 (27), .int .u8 (13), .int .u8 (23), .int .u8 (21), .int .u8 (19), .int .u8 (16), .int .u8 (7), .int .u8 (26), .int .u8 (12), .int .u8 (18), .int .u8 (6), .int .u8 (11), .int .u8 (5), .int .u8 (10), .int .u8 (9)] (setTab 2 #[.int .u64 (1), .int .u64 (10), .int .u64 (100), .int .u64 (1000), .int .u64 (10000), .int .u64 (100000), .int .u64 (1000000), .int .u64 (10000000), .int .u64 (100000000), .int .u64 (1000000000), .int .u64 (10000000000), .int .u64 (100000000000), .int .u64 (1000000000000), .int .u64 (10000000000000), .int .u64 (100000000000000), .int .u64 (1000000000000000), .int .u64 (10000000000000000), .int .u64 (100000000000000000), .int .u64 (1000000000000000000), .int .u64 (10000000000000000000)] (setTab 0 #[.int .i64 (1), .int .i64 (0), .int .i64 (0), .int .i64 (-1), .int .i64 (-1), .int .i64 (0), .int .i64 (0), .int .i64 (1)] ((World.holding Tryz.prog os ⟨#[], #[], []⟩).heap)))) }
def wArgs : Array Value := #[.slice none 0 0, .agg #[.int .i8 0, .int .i8 0, .int .i8 0, .int .i8 0, .int .i8 0, .int .i8 0, .int .i8 0, .int .i8 0, .int .i8 0, .int .i8 0, .int .i8 0, .int .i8 0], .int .i8 0]
theorem laid_met (os : Os) : laidMet Tryz.prog Rows.phasorTurnsRow.laid ((laidWorld os).forCall (fun _ _ => 0) ⟨#[], wArgs, []⟩).memory :=
  laidMet_of_run' 8 (by kernel_rfl) (by kernel_rfl)
theorem reads (os : Os) {H : Type} (enc : TypeId × Value → H) : ∃ places, DataW.whole enc Tryz.prog ((laidWorld os).forCall (fun _ _ => 0) ⟨#[], wArgs, []⟩).memory Tryz.f3.params.toList Rows.phasorTurnsSpec.vars false wArgs.toList 8 = some ([.nil, .agg [.agg [.lit (.int .i8 0), .lit (.int .i8 0)], .agg [.lit (.int .i8 0), .lit (.int .i8 0)], .agg [.lit (.int .i8 0), .lit (.int .i8 0)], .agg [.lit (.int .i8 0), .lit (.int .i8 0)], .agg [.lit (.int .i8 0), .lit (.int .i8 0)], .agg [.lit (.int .i8 0), .lit (.int .i8 0)]], .lit (.int .i8 0)], [], places) :=
  ⟨[], by kernel_rfl⟩
set_option maxRecDepth 100000 in
theorem lifted (os : Os) (started : os.Started) (H : Type) (enc : TypeId × Value → H) (F : Stop.Interp) :
    ReturnsInHanded {} Tryz.checked os 3 .any ((OpenSpec.ofChange Rows.phasorTurnsSpec).preRow enc Tryz.prog Tryz.f3 Rows.phasorTurnsRow.domain false Rows.phasorTurnsRow.laid) (((OpenSpec.ofChange Rows.phasorTurnsSpec).at F).post enc Tryz.prog Tryz.f3 false true false false) := by
  obtain ⟨places, hx⟩ := reads os enc
  refine returnsInHanded_of_row (C := Tryz.checked) (s := OpenSpec.ofChange Rows.phasorTurnsSpec) own started (by kernel_rfl) Tryz.func3
    (witness_row_at (enc := enc) (C := Tryz.checked) false (laidWorld os) wArgs rfl (by kernel_rfl) (by kernel_rfl) (by kernel_rfl)
      (OpenSpec.preRow_of_cond 8 hx (by kernel_rfl) (fun k hk => by cases hk) (by kernel_rfl) (laid_met os))) ?_
  intro W base args ds gs before hval hW _ _ _ hL _ _
  exact contract H enc W base args ds gs before hval hW hL
theorem said : Rows.PhasorTurnsSaid :=
  OpenClaim.holds_of_cond 3 Tryz.f3 rfl rfl rfl rfl rfl rfl rfl ⟨rfl, rfl, rfl, rfl, rfl⟩ rfl rfl rfl rfl rfl (by kernel_rfl) Tryz.func3 (by kernel_rfl)
    (of_decide_eq_true (by kernel_rfl)) (by unfold Func.isWrapper; first | (rw [if_pos (by decide +kernel)]; kernel_rfl) | (rw [if_neg (by decide +kernel)]; exact ⟨rfl, rfl⟩))
    (fun os started H enc _ F => by rw [OpenClaim.pre_eq_preRow]; exact lifted os started H enc F)
theorem plain (f : FuncId) (fn : Func) (hf : Tryz.pinned.checked.prog.funcNamed "bipole/bipolelaw01.PhasorTurns" = some f) (hfn : Tryz.pinned.checked.prog.funcs[f]? = some fn) :
    false = Tryz.pinned.checked.prog.looks [] ∧ ∀ (j : Nat) t, fn.params[j]? = some t → Tryz.pinned.checked.prog.wantsStandIn t = false := by
  obtain rfl : f = 3 := Option.some.inj ((show Tryz.prog.funcNamed "bipole/bipolelaw01.PhasorTurns" = some 3 by kernel_rfl).symm.trans hf) |>.symm
  obtain rfl : fn = Tryz.f3 := (Option.some.inj (Tryz.func3.symm.trans hfn)).symm
  refine ⟨by kernel_rfl, fun j t ht => ?_⟩
  rw [Tryz.params3] at ht
  have hm : t = 22 ∨ t = 25 ∨ t = 23 := by simpa using Array.mem_of_getElem? ht
  rcases hm with rfl | rfl | rfl
  · exact (show Tryz.prog.wantsStandIn 22 = false by kernel_rfl)
  · exact (show Tryz.prog.wantsStandIn 25 = false by kernel_rfl)
  · exact (show Tryz.prog.wantsStandIn 23 = false by kernel_rfl)
theorem card : Rows.PhasorTurnsCardSaid :=
  Claim7.holds_tied_plain_at .later [] _ _ _ _ said (fun _ h => by cases h) (by kernel_rfl) (fun _ h => by cases h) phasorTurns_row_tie rfl ⟨rfl, rfl⟩ (by kernel_rfl) rfl plain (by kernel_rfl)
end Go.Proofs.YtjpffbekhfkibaaGreatDoor.phasorTurns
end
