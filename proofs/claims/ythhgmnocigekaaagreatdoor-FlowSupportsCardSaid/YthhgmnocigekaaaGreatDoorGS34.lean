/-
  FlowSupports: for all arguments the law returns true and leaves its arguments as they were, wherever the tables that its row lists are laid as the text lays them.
  The law FlowSupports in each real world.
  Slices of numbers (or of structs and arrays of numbers) as arguments: what the program reads of them; a law over a row in the small world holds in the real one.
  From a call in the small world to a real one whose arguments lie in memory.
  Tables of structures of two pairs on a row's list.
  The last step of a row whose call leaves a world of which only 'Below' is known; tables of pairs on a row's list.
  Arguments that are made of integers alone (numbers, arrays and structs of them, in any depth), opened: their cells are numbers, and their data is the same in each world.
  The law FlowSupports: it returns true over any row, and over none.
  The ways through the law FlowSupports.
  THE SMALL WORLD: a loop that neither reads nor writes what lies below N goes the same way where tables are known there.
  THE SMALL WORLD: a known function without arguments where tables of integers and of strings hold.
  A law reckoned in the small world: what it answers and what must hold, told apart.
  The whole.
-/
import Derived.Test.YthhgmnocigekaaaGreatDoorGS5
import Derived.Test.YthhgmnocigekaaaGreatDoorGS6
import Derived.Test.YthhgmnocigekaaaGreatDoorGS7
import Derived.Test.YthhgmnocigekaaaGreatDoorGS8
import Derived.Test.YthhgmnocigekaaaGreatDoorGS9
import Derived.Test.YthhgmnocigekaaaGreatDoorGS10
import Derived.Test.YthhgmnocigekaaaGreatDoorGS11
import Derived.Test.YthhgmnocigekaaaGreatDoorGS12
import Derived.Test.YthhgmnocigekaaaGreatDoorGS13
import Derived.Test.YthhgmnocigekaaaGreatDoorGS14
import Derived.Test.YthhgmnocigekaaaGreatDoorGS15
import Derived.Test.YthhgmnocigekaaaGreatDoorGS16
import Derived.Test.YthhgmnocigekaaaGreatDoorGS17
import Derived.Test.YthhgmnocigekaaaGreatDoorGS18
import Derived.Test.YthhgmnocigekaaaGreatDoorGS19
import Derived.Test.YthhgmnocigekaaaGreatDoorGS20
import Derived.Test.YthhgmnocigekaaaGreatDoorGS21
import Derived.Test.YthhgmnocigekaaaGreatDoorGS22
import Derived.Test.YthhgmnocigekaaaGreatDoorGS23
import Derived.Test.YthhgmnocigekaaaGreatDoorGS24
import Derived.Test.YthhgmnocigekaaaGreatDoorGS25
import Derived.Test.YthhgmnocigekaaaGreatDoorGS26
import Derived.Test.YthhgmnocigekaaaGreatDoorGS27
import Derived.Test.YthhgmnocigekaaaGreatDoorGS28
import Derived.Test.YthhgmnocigekaaaGreatDoorGS29
import Derived.Test.YthhgmnocigekaaaGreatDoorGS30
import Derived.Test.YthhgmnocigekaaaGreatDoorGS31
import Derived.Test.YthhgmnocigekaaaGreatDoorGS32
import Derived.Test.YthhgmnocigekaaaGreatDoorGS33
import Derived.Test.YthhgmnocigekaaaGreatDoorGS2
import Derived.Test.YthhgmnocigekaaaGreatDoorGS3
import Derived.OpenShut
import Derived.RowKit
import Derived.WideShapes
import Derived.Below
import Derived.ChangeSame
import Derived.ProofKit
import Derived.JoinedCond
import Derived.JoinedOf
import Derived.JoinedAt
import Derived.RowKit3
import Derived.Lib.LaidTab
import Derived.LaidSub
import Derived.Deep.Slices
import Derived.WideKeyArgs
import Derived.Test.YthhgmnocigekaaaGreatDoorCards
import Derived.Test.YthhgmnocigekaaaGreatDoorTie
import Derived.WalkKit
import Derived.Deep.DeepHandedRow
section
set_option linter.all false
set_option maxRecDepth 1000000
open Go.RowKit
namespace Go.Proofs.YthhgmnocigekaaaGreatDoor
open Mini
theorem aw5X0 : FOk Tryz.prog (joinX 131) := joinX_ok fun bk o c xs sep w h1 h2 h3 h4 h5 => Tryz.strings_Join bk o c xs sep w h1 h2 h3 h4 h5
theorem aw5X : FOk Tryz.prog (orX (orX awK (evNF Tryz.prog (joinX 131) 400 84)) (joinX 131)) := orX_ok (orX_ok awK_ok (evNF_ok (by kernel_rfl) aw5X0)) aw5X0
theorem aw5m : Tryz.prog.follows .mixedOrders = true := by kernel_rfl
theorem aw5g27 : SndC Tryz.prog none (dropS 27 aw5B) aw5A27.act aw5S27 .ret aw5A28.act aw5S28 aw5R27 aw5W27 := chain_last aw5m aw5X aw5c27
theorem aw5g26 : SndC Tryz.prog none (dropS 26 aw5B) aw5A26.act aw5S26 .ret aw5A28.act aw5S28 aw5RR26 aw5WW26 := by
  have h := chain_step aw5m aw5X (by kernel_rfl) aw5c26 aw5g27
  rwa [show aw5R26 ||| aw5R27 = aw5RR26 from by decide +kernel, show aw5W26 ||| aw5W27 = aw5WW26 from by decide +kernel] at h
theorem aw5g25 : SndC Tryz.prog none (dropS 25 aw5B) aw5A25.act aw5S25 .ret aw5A28.act aw5S28 aw5RR25 aw5WW25 := by
  have h := chain_step aw5m aw5X (by kernel_rfl) aw5c25 aw5g26
  rwa [show aw5R25 ||| aw5RR26 = aw5RR25 from by decide +kernel, show aw5W25 ||| aw5WW26 = aw5WW25 from by decide +kernel] at h
theorem aw5g24 : SndC Tryz.prog none (dropS 24 aw5B) aw5A24.act aw5S24 .ret aw5A28.act aw5S28 aw5RR24 aw5WW24 := by
  have h := chain_step aw5m aw5X (by kernel_rfl) aw5c24 aw5g25
  rwa [show aw5R24 ||| aw5RR25 = aw5RR24 from by decide +kernel, show aw5W24 ||| aw5WW25 = aw5WW24 from by decide +kernel] at h
theorem aw5g23 : SndC Tryz.prog none (dropS 23 aw5B) aw5A23.act aw5S23 .ret aw5A28.act aw5S28 aw5RR23 aw5WW23 := by
  have h := chain_step aw5m aw5X (by kernel_rfl) aw5c23 aw5g24
  rwa [show aw5R23 ||| aw5RR24 = aw5RR23 from by decide +kernel, show aw5W23 ||| aw5WW24 = aw5WW23 from by decide +kernel] at h
theorem aw5g22 : SndC Tryz.prog none (dropS 22 aw5B) aw5A22.act aw5S22 .ret aw5A28.act aw5S28 aw5RR22 aw5WW22 := by
  have h := chain_step aw5m aw5X (by kernel_rfl) aw5c22 aw5g23
  rwa [show aw5R22 ||| aw5RR23 = aw5RR22 from by decide +kernel, show aw5W22 ||| aw5WW23 = aw5WW22 from by decide +kernel] at h
theorem aw5g21 : SndC Tryz.prog none (dropS 21 aw5B) aw5A21.act aw5S21 .ret aw5A28.act aw5S28 aw5RR21 aw5WW21 := by
  have h := chain_step aw5m aw5X (by kernel_rfl) aw5c21 aw5g22
  rwa [show aw5R21 ||| aw5RR22 = aw5RR21 from by decide +kernel, show aw5W21 ||| aw5WW22 = aw5WW21 from by decide +kernel] at h
theorem aw5g20 : SndC Tryz.prog none (dropS 20 aw5B) aw5A20.act aw5S20 .ret aw5A28.act aw5S28 aw5RR20 aw5WW20 := by
  have h := chain_step aw5m aw5X (by kernel_rfl) aw5c20 aw5g21
  rwa [show aw5R20 ||| aw5RR21 = aw5RR20 from by decide +kernel, show aw5W20 ||| aw5WW21 = aw5WW20 from by decide +kernel] at h
theorem aw5g19 : SndC Tryz.prog none (dropS 19 aw5B) aw5A19.act aw5S19 .ret aw5A28.act aw5S28 aw5RR19 aw5WW19 := by
  have h := chain_step aw5m aw5X (by kernel_rfl) aw5c19 aw5g20
  rwa [show aw5R19 ||| aw5RR20 = aw5RR19 from by decide +kernel, show aw5W19 ||| aw5WW20 = aw5WW19 from by decide +kernel] at h
theorem aw5g18 : SndC Tryz.prog none (dropS 18 aw5B) aw5A18.act aw5S18 .ret aw5A28.act aw5S28 aw5RR18 aw5WW18 := by
  have h := chain_step aw5m aw5X (by kernel_rfl) aw5c18 aw5g19
  rwa [show aw5R18 ||| aw5RR19 = aw5RR18 from by decide +kernel, show aw5W18 ||| aw5WW19 = aw5WW18 from by decide +kernel] at h
theorem aw5g17 : SndC Tryz.prog none (dropS 17 aw5B) aw5A17.act aw5S17 .ret aw5A28.act aw5S28 aw5RR17 aw5WW17 := by
  have h := chain_step aw5m aw5X (by kernel_rfl) aw5c17 aw5g18
  rwa [show aw5R17 ||| aw5RR18 = aw5RR17 from by decide +kernel, show aw5W17 ||| aw5WW18 = aw5WW17 from by decide +kernel] at h
theorem aw5g16 : SndC Tryz.prog none (dropS 16 aw5B) aw5A16.act aw5S16 .ret aw5A28.act aw5S28 aw5RR16 aw5WW16 := by
  have h := chain_step aw5m aw5X (by kernel_rfl) aw5c16 aw5g17
  rwa [show aw5R16 ||| aw5RR17 = aw5RR16 from by decide +kernel, show aw5W16 ||| aw5WW17 = aw5WW16 from by decide +kernel] at h
theorem aw5g15 : SndC Tryz.prog none (dropS 15 aw5B) aw5A15.act aw5S15 .ret aw5A28.act aw5S28 aw5RR15 aw5WW15 := by
  have h := chain_step aw5m aw5X (by kernel_rfl) aw5c15 aw5g16
  rwa [show aw5R15 ||| aw5RR16 = aw5RR15 from by decide +kernel, show aw5W15 ||| aw5WW16 = aw5WW15 from by decide +kernel] at h
theorem aw5g14 : SndC Tryz.prog none (dropS 14 aw5B) aw5A14.act aw5S14 .ret aw5A28.act aw5S28 aw5RR14 aw5WW14 := by
  have h := chain_step aw5m aw5X (by kernel_rfl) aw5c14 aw5g15
  rwa [show aw5R14 ||| aw5RR15 = aw5RR14 from by decide +kernel, show aw5W14 ||| aw5WW15 = aw5WW14 from by decide +kernel] at h
theorem aw5g13 : SndC Tryz.prog none (dropS 13 aw5B) aw5A13.act aw5S13 .ret aw5A28.act aw5S28 aw5RR13 aw5WW13 := by
  have h := chain_step aw5m aw5X (by kernel_rfl) aw5c13 aw5g14
  rwa [show aw5R13 ||| aw5RR14 = aw5RR13 from by decide +kernel, show aw5W13 ||| aw5WW14 = aw5WW13 from by decide +kernel] at h
theorem aw5g12 : SndC Tryz.prog none (dropS 12 aw5B) aw5A12.act aw5S12 .ret aw5A28.act aw5S28 aw5RR12 aw5WW12 := by
  have h := chain_step aw5m aw5X (by kernel_rfl) aw5c12 aw5g13
  rwa [show aw5R12 ||| aw5RR13 = aw5RR12 from by decide +kernel, show aw5W12 ||| aw5WW13 = aw5WW12 from by decide +kernel] at h
theorem aw5g11 : SndC Tryz.prog none (dropS 11 aw5B) aw5A11.act aw5S11 .ret aw5A28.act aw5S28 aw5RR11 aw5WW11 := by
  have h := chain_step aw5m aw5X (by kernel_rfl) aw5c11 aw5g12
  rwa [show aw5R11 ||| aw5RR12 = aw5RR11 from by decide +kernel, show aw5W11 ||| aw5WW12 = aw5WW11 from by decide +kernel] at h
theorem aw5g10 : SndC Tryz.prog none (dropS 10 aw5B) aw5A10.act aw5S10 .ret aw5A28.act aw5S28 aw5RR10 aw5WW10 := by
  have h := chain_step aw5m aw5X (by kernel_rfl) aw5c10 aw5g11
  rwa [show aw5R10 ||| aw5RR11 = aw5RR10 from by decide +kernel, show aw5W10 ||| aw5WW11 = aw5WW10 from by decide +kernel] at h
theorem aw5g9 : SndC Tryz.prog none (dropS 9 aw5B) aw5A9.act aw5S9 .ret aw5A28.act aw5S28 aw5RR9 aw5WW9 := by
  have h := chain_step aw5m aw5X (by kernel_rfl) aw5c9 aw5g10
  rwa [show aw5R9 ||| aw5RR10 = aw5RR9 from by decide +kernel, show aw5W9 ||| aw5WW10 = aw5WW9 from by decide +kernel] at h
theorem aw5g8 : SndC Tryz.prog none (dropS 8 aw5B) aw5A8.act aw5S8 .ret aw5A28.act aw5S28 aw5RR8 aw5WW8 := by
  have h := chain_step aw5m aw5X (by kernel_rfl) aw5c8 aw5g9
  rwa [show aw5R8 ||| aw5RR9 = aw5RR8 from by decide +kernel, show aw5W8 ||| aw5WW9 = aw5WW8 from by decide +kernel] at h
theorem aw5g7 : SndC Tryz.prog none (dropS 7 aw5B) aw5A7.act aw5S7 .ret aw5A28.act aw5S28 aw5RR7 aw5WW7 := by
  have h := chain_step aw5m aw5X (by kernel_rfl) aw5c7 aw5g8
  rwa [show aw5R7 ||| aw5RR8 = aw5RR7 from by decide +kernel, show aw5W7 ||| aw5WW8 = aw5WW7 from by decide +kernel] at h
theorem aw5g6 : SndC Tryz.prog none (dropS 6 aw5B) aw5A6.act aw5S6 .ret aw5A28.act aw5S28 aw5RR6 aw5WW6 := by
  have h := chain_step aw5m aw5X (by kernel_rfl) aw5c6 aw5g7
  rwa [show aw5R6 ||| aw5RR7 = aw5RR6 from by decide +kernel, show aw5W6 ||| aw5WW7 = aw5WW6 from by decide +kernel] at h
theorem aw5g5 : SndC Tryz.prog none (dropS 5 aw5B) aw5A5.act aw5S5 .ret aw5A28.act aw5S28 aw5RR5 aw5WW5 := by
  have h := chain_step aw5m aw5X (by kernel_rfl) aw5c5 aw5g6
  rwa [show aw5R5 ||| aw5RR6 = aw5RR5 from by decide +kernel, show aw5W5 ||| aw5WW6 = aw5WW5 from by decide +kernel] at h
theorem aw5g4 : SndC Tryz.prog none (dropS 4 aw5B) aw5A4.act aw5S4 .ret aw5A28.act aw5S28 aw5RR4 aw5WW4 := by
  have h := chain_step aw5m aw5X (by kernel_rfl) aw5c4 aw5g5
  rwa [show aw5R4 ||| aw5RR5 = aw5RR4 from by decide +kernel, show aw5W4 ||| aw5WW5 = aw5WW4 from by decide +kernel] at h
theorem aw5g3 : SndC Tryz.prog none (dropS 3 aw5B) aw5A3.act aw5S3 .ret aw5A28.act aw5S28 aw5RR3 aw5WW3 := by
  have h := chain_step aw5m aw5X (by kernel_rfl) aw5c3 aw5g4
  rwa [show aw5R3 ||| aw5RR4 = aw5RR3 from by decide +kernel, show aw5W3 ||| aw5WW4 = aw5WW3 from by decide +kernel] at h
theorem aw5g2 : SndC Tryz.prog none (dropS 2 aw5B) aw5A2.act aw5S2 .ret aw5A28.act aw5S28 aw5RR2 aw5WW2 := by
  have h := chain_step aw5m aw5X (by kernel_rfl) aw5c2 aw5g3
  rwa [show aw5R2 ||| aw5RR3 = aw5RR2 from by decide +kernel, show aw5W2 ||| aw5WW3 = aw5WW2 from by decide +kernel] at h
theorem aw5g1 : SndC Tryz.prog none (dropS 1 aw5B) aw5A1.act aw5S1 .ret aw5A28.act aw5S28 aw5RR1 aw5WW1 := by
  have h := chain_step aw5m aw5X (by kernel_rfl) aw5c1 aw5g2
  rwa [show aw5R1 ||| aw5RR2 = aw5RR1 from by decide +kernel, show aw5W1 ||| aw5WW2 = aw5WW1 from by decide +kernel] at h
theorem aw5g0 : SndC Tryz.prog none (dropS 0 aw5B) aw5A0.act aw5S0 .ret aw5A28.act aw5S28 aw5RR0 aw5WW0 := by
  have h := chain_step aw5m aw5X (by kernel_rfl) aw5c0 aw5g1
  rwa [show aw5R0 ||| aw5RR1 = aw5RR0 from by decide +kernel, show aw5W0 ||| aw5WW1 = aw5WW0 from by decide +kernel] at h
theorem aw5f : SndF Tryz.prog 8 #[] aw5S0 (.bool true) aw5S28 (aw5RR0 ||| 0) aw5WW0 :=
  sndF_of (vs := [.bool true]) Tryz.func8 (show _ = some aw5B by kernel_rfl) (.inr rfl) (by kernel_rfl) (show SndC Tryz.prog none aw5B (startA Tryz.f8 #[]) aw5S0 .ret aw5A28.act aw5S28 aw5RR0 aw5WW0 from ((startM_act _ _).symm.trans (congrArg MA.act (show startM Tryz.f8 #[] = aw5A0 by kernel_rfl))) ▸ aw5g0) (by kernel_rfl)
theorem aw5_calls (w : World) (h : Holds Tryz.prog aw5S0 w) : Calls Tryz.prog 8 #[] w fun e w' => e = .returned (.bool true) ∧ Below w.heap.size w w' :=
  calls_of aw5f (by kernel_rfl) (by kernel_rfl) (fun b hb => by
    have hb : b < Tryz.prog.globals.size := hb
    rw [show Tryz.prog.globals.size = 4 by kernel_rfl] at hb
    revert b; decide +kernel) h
end Go.Proofs.YthhgmnocigekaaaGreatDoor
end
section
namespace Go.Proofs.YthhgmnocigekaaaGreatDoor
set_option linter.all false
namespace Mini
def obY (r : Option OutS) : Prop := match r with
  | some (_, _, _, _, q) => q.ob
  | none => False
def goodY (r : Option OutS) : Bool := match r with
  | some (.bool true, _, _, 0, ⟨[], _⟩) => true
  | _ => false
theorem sndY {P : Program} {X : CallS} {n : Nat} {f : FuncId} {xs : Array Value} {s : St} {q : Orc} {r : Option OutS} (he : r = evFS P X n f xs s q) (hm : P.follows .mixedOrders = true) (hX : FOkS P X) (hg : goodY r = true) (ho : obY r) : ∃ s1 R, SndF P f xs s (.bool true) s1 R 0 := by
  unfold goodY at hg
  split at hg
  · exact ⟨_, _, (evFS_ok hm hX n _ _ _ _ _ _ _ _ _ he.symm).2 ho⟩
  · cases hg
end Mini
end Go.Proofs.YthhgmnocigekaaaGreatDoor
end
section
namespace Go.Proofs.YthhgmnocigekaaaGreatDoor
set_option linter.all false
open Go.RowKit
namespace Mini
variable {P : Program} {s0 s : St}
def valsEqT : List Value → List Value → Bool
  | [], _ => true
  | .int k a :: l, .int k' b :: l' => decide (k = k') && (a == b) && valsEqT l l'
  | .string a :: l, .string b :: l' => decide (a.data.toList = b.data.toList) && valsEqT l l'
  | _, _ => false
theorem valsEqT_at : ∀ (c c' : List Value), valsEqT c c' = true → ∀ (i : Nat) (v : Value), c[i]? = some v → c'[i]? = some v ∧ ((∃ k a, v = .int k a) ∨ ∃ a, v = .string a)
  | [], c', h, i, v, hi => by simp at hi
  | x :: l, [], h, i, v, hi => by cases x <;> simp [valsEqT] at h
  | x :: l, y :: l', h, i, v, hi => by
    cases x with
    | int k a => cases y with
      | int k' b =>
        simp only [valsEqT, Bool.and_eq_true, decide_eq_true_eq, beq_iff_eq] at h
        obtain ⟨⟨rfl, rfl⟩, h3⟩ := h
        cases i with
        | zero => simp at hi; subst hi; exact ⟨rfl, .inl ⟨k, a, rfl⟩⟩
        | succ i => exact valsEqT_at l l' h3 i v (by simpa using hi)
      | _ => simp [valsEqT] at h
    | string a => cases y with
      | string b =>
        simp only [valsEqT, Bool.and_eq_true, decide_eq_true_eq] at h
        obtain ⟨h2, h3⟩ := h
        have e : a = b := by
          cases a; cases b
          exact congrArg ByteArray.mk (Array.ext' h2)
        subst e
        cases i with
        | zero => simp at hi; subst hi; exact ⟨rfl, .inr ⟨a, rfl⟩⟩
        | succ i => exact valsEqT_at l l' h3 i v (by simpa using hi)
      | _ => simp [valsEqT] at h
    | _ => simp [valsEqT] at h
theorem string_inv {ρ : Ren} {a : ByteArray} {v' : Value} (h : VR ρ (.string a) v') : v' = .string a := by cases h; rfl
def tabEqT : MObj → MObj → Bool
  | .hole, _ => true
  | .cells c _ _ _ _, .cells c' _ _ _ _ => valsEqT c c'
  | _, _ => false
def tabsEqT (s0 s : St) : Nat → Bool
  | 0 => true
  | n + 1 => tabEqT (s0.get n) (s.get n) && tabsEqT s0 s n
theorem tabsEqT_at : ∀ (n : Nat), tabsEqT s0 s n = true → ∀ b, b < n → tabEqT (s0.get b) (s.get b) = true
  | 0, h, b, hb => by omega
  | n + 1, h, b, hb => by
    simp only [tabsEqT, Bool.and_eq_true] at h
    rcases Nat.lt_or_ge b n with c | c
    · exact tabsEqT_at n h.2 b c
    · rw [show b = n from by omega]; exact h.1
theorem holdsT_of {ρ : Ren} {C : Nat → MObj} {w : World} (hn : s0.next = P.globals.size) (hok : tabsOk s0 s0.next = true) (heq : tabsEqT s0 s s0.next = true) (hG : Glob P ρ) (ag : ∀ b, (2 ^ s0.next - 1).testBit b = true → b < s.next → C b = s.get b) (hr : WRel ρ C w) : Holds P s0 w := by
  refine ⟨hn, fun b hb => ?_⟩
  rw [← hn] at hb
  have h1 := tabsOk_at _ hok b hb
  have h2 := tabsEqT_at _ heq b hb
  cases hs : s0.get b with
  | hole => exact .inl rfl
  | cells c e opn sz r =>
    rw [hs] at h1 h2
    cases ho : s.get b with
    | cells c' e' opn' sz' r' =>
      rw [ho] at h2
      simp only [tabEqT] at h2
      cases opn <;> cases r <;> cases sz <;> simp only [tabOk, Bool.and_eq_true, Bool.not_eq_true', Bool.false_eq_true] at h1
      refine .inr ⟨c, e, rfl, by intro hc; rw [hc] at h1; simp at h1, h1.2, fun i v hi => ?_⟩
      obtain ⟨k1, k2⟩ := valsEqT_at c c' h2 i v hi
      have hlt : b < s.next := St.lt_of_live (by rw [ho]; simp)
      have hC : C b = .cells c' e' opn' sz' r' := (ag b (by rw [Nat.testBit_two_pow_sub_one]; simpa using hb) hlt).trans ho
      obtain ⟨L, cs, fr, q1, q2, q3⟩ := row_of hr hC
      obtain ⟨L', g1, g2, g3⟩ := hG b (hn ▸ hb)
      rw [q1] at g1
      cases g1
      obtain ⟨p1, p2, p3, p4, p5, p6, p7, p8⟩ := q3
      obtain ⟨v', z1, z2⟩ := p6 i _ k1
      have e : v' = v := by
        rcases k2 with ⟨k, a, rfl⟩ | ⟨a, rfl⟩
        · exact int_inv z2
        · exact string_inv z2
      subst e
      rw [g2] at q2
      rw [cell_row q2]
      rw [g3, Nat.zero_add] at z1
      exact z1
    | _ => rw [ho] at h2; simp [tabEqT] at h2
  | _ => rw [hs] at h1; simp [tabOk] at h1
def tabT (s0 : St) (f0 : FuncId) : CallS := fun f xs s q =>
  match decide (f = f0) && xs.toList.isEmpty && tabsOk s0 s0.next && tabsEqT s0 s s0.next with
  | true => some (.bool true, s, 2 ^ s0.next - 1, 0, q)
  | false => none
theorem tabT_ok {f0 : FuncId} (hn : s0.next = P.globals.size) (h : ∀ w, Holds P s0 w → Calls P f0 #[] w fun e w' => e = .returned (.bool true) ∧ Below w.heap.size w w') : FOkS P (tabT s0 f0) := fun f xs s q v s1 R W q1 he => by
  unfold tabT at he
  split at he
  · rename_i hc
    cases he
    simp only [Bool.and_eq_true, decide_eq_true_eq] at hc
    obtain ⟨⟨⟨rfl, h2⟩, h3⟩, h4⟩ := hc
    have hx : xs = #[] := by
      apply Array.ext'
      simpa using h2
    subst hx
    refine ⟨id, fun _ => sndF_quietG rfl fun ρ C args' w hG ag hr ha => ?_⟩
    have ea : args' = #[] := Array.eq_empty_of_size_eq_zero (ha.1.symm.trans rfl)
    subst ea
    exact h w (holdsT_of hn h3 h4 hG ag hr)
  · cases he
end Mini
end Go.Proofs.YthhgmnocigekaaaGreatDoor
end
section
namespace Go.Proofs.YthhgmnocigekaaaGreatDoor
set_option linter.all false
namespace Mini
variable {P : Program} {R : Nat}
theorem wT_get (T l : List MObj) {b : Nat} (h : T.length ≤ b) : (wS 0 (T ++ l)).get b = (wS T.length l).get b := by
  have e1 := wS_get 0 (T ++ l) b
  have e2 := wS_get T.length l (b - T.length)
  rw [Nat.zero_add] at e1
  rw [show T.length + (b - T.length) = b from by omega] at e2
  rw [e1, e2]
  simp only [List.getD_eq_getElem?_getD]
  rw [List.getElem?_append_right h]
def keepN (B : Nat) : Nat → Option Nat := fun b => if b < B then some b else none
theorem keepN_some {B b x : Nat} (h : keepN B b = some x) : b < B ∧ x = b := by
  unfold keepN at h
  split at h
  · rename_i hc; cases h; exact ⟨hc, rfl⟩
  · cases h
theorem keepN_lt {B b : Nat} (h : b < B) : keepN B b = some b := if_pos h
theorem Snd.tabs {tr : Tr} {A A1 : MA} {e : Exit} {T l0 l1 : List MObj} (hN : T.length = P.globals.size) (h : Snd P none tr A.act (wS T.length l0) e A1.act (wS T.length l1) R 0) (hl : l0.length ≤ l1.length)
    (hR : ∀ b, b < T.length → R.testBit b = false) (h0 : ∀ o, o ∈ l0 → keepO (below (T.length + l0.length)) o) (hk1 : ∀ o, o ∈ l1 → keepO (below (T.length + l1.length)) o) (hd : A.defers = []) (hd1 : A1.defers = [])
    (hA : allKeep (T.length + l0.length) A A.n = true) (hA1 : allKeep (T.length + l1.length) A1 A1.n = true) : Snd P none tr A.act (wS 0 (T ++ l0)) e A1.act (wS 0 (T ++ l1)) R 0 := by
  have hst := h.1
  have n0 : (wS T.length l0).next = T.length + l0.length := wS_next _ _
  have n1 : (wS T.length l1).next = T.length + l1.length := wS_next _ _
  have m0 : (wS 0 (T ++ l0)).next = T.length + l0.length := by rw [wS_next, List.length_append]; omega
  have m1 : (wS 0 (T ++ l1)).next = T.length + l1.length := by rw [wS_next, List.length_append]; omega
  have hb0 : ∀ {B b : Nat}, below B b = true → b < B := fun h => Nat.le_of_ble_eq_true h
  refine h.embed (ι := id) (κ := keepN (T.length + l1.length)) ⟨fun g hg => ⟨by rw [n0]; omega, rfl⟩, fun b hb => by rw [m0]; rw [n0] at hb; exact hb, fun b b' _ _ h => h, fun b _ h => h, fun b _ hw => by simp at hw, fun b hb hbit => ?_, ⟨by rw [m0, m1]; omega, fun b hb hw => ?_⟩, fun b hb => ?_, fun b x hb hx => ?_, fun b b' x h1 h2 => ?_, fun x hx hxw => by simp at hxw, fun x h1 h2 => ?_⟩ (.inl ⟨rfl, rfl⟩) ?_ ?_
  · have hb2 : T.length ≤ b := by
      rcases Nat.lt_or_ge b T.length with c | c
      · rw [or_bit, hR b c] at hbit; simp at hbit
      · exact c
    show WO _ ((wS 0 (T ++ l0)).get b) _
    rw [wT_get T l0 hb2]
    refine keep_wo (N := below (T.length + l0.length)) (fun x hx => ⟨by rw [n0]; exact hb0 hx, rfl⟩) ?_
    have e2 := wS_get T.length l0 (b - T.length)
    rw [show T.length + (b - T.length) = b from by omega] at e2
    rw [e2]
    exact h0 _ (getD_mem (by rw [n0] at hb; omega))
  · rw [m0] at hb
    rcases Nat.lt_or_ge b T.length with c | c
    · have e1 := wS_get 0 (T ++ l0) b
      have e2 := wS_get 0 (T ++ l1) b
      rw [Nat.zero_add] at e1 e2
      rw [e1, e2]
      simp only [List.getD_eq_getElem?_getD]
      rw [List.getElem?_append_left c, List.getElem?_append_left c]
    · rw [wT_get T l0 c, wT_get T l1 c]
      exact hst.2 b (by rw [n0]; exact hb) (by simp)
  · rw [n0] at hb
    exact keepN_lt (by omega)
  · rw [n0] at hb
    obtain ⟨hc, rfl⟩ := keepN_some hx
    exact ⟨by rw [m0]; exact hb, by rw [m1]; exact hc⟩
  · rw [← (keepN_some h1).2, ← (keepN_some h2).2]
  · rw [m0] at h1
    rw [m1] at h2
    refine .inr ⟨x, by rw [n0]; exact h1, by rw [n1]; exact h2, keepN_lt h2, ?_⟩
    rw [wT_get T l1 (by omega)]
    refine keep_wo (N := below (T.length + l1.length)) (fun y hy => keepN_lt (hb0 hy)) ?_
    have e2 := wS_get T.length l1 (x - T.length)
    rw [show T.length + (x - T.length) = x from by omega] at e2
    rw [e2]
    exact hk1 _ (getD_mem (by omega))
  · exact (fits_self hd hA).wa (fun x hx => ⟨by rw [n0]; exact hb0 hx, rfl⟩)
  · exact (fits_self hd1 hA1).wa (fun x hx => keepN_lt (hb0 hx))
end Mini
end Go.Proofs.YthhgmnocigekaaaGreatDoor
end
section
set_option linter.all false
set_option maxRecDepth 1000000
open Go.RowKit
namespace Go.Proofs.YthhgmnocigekaaaGreatDoor
open Mini
noncomputable def lsK : CallS := bothX kMps (bothX kCed (bothX kRcd (bothX kSameI (bothX (kAll [c_supported, c_rsupported, c_cSupport, c_rcSupport]) (tabX aw5S0 8)))))
def lsArgs (sd sg sr x : Int) (n c : Nat) : Array Value := #[.agg #[.int .i64 sd, .int .i64 sg, .int .i64 sr], .int .i64 x, .slice (some ⟨4, 0, none⟩) n c]
def lsNil (sd sg sr x : Int) : Array Value := #[.agg #[.int .i64 sd, .int .i64 sg, .int .i64 sr], .int .i64 x, .slice none 0 0]
noncomputable def lsS (n : Nat) (g : Nat → Nat → Int) : St := aw5S0.push (rowI 1 n g 0 true 0 true)
noncomputable def lsT : List MObj := getL aw5S0 0 4
def lsU (sd sg sr x : Int) : Int := if th2 (spE sd sg sr) (devE x) = 0 then sp sd sg sr x else 0
def lsG1 (x : Int) : Nat → Nat → Int := fun i j => [x].getD (i * 1 + j) 0
noncomputable def ls_1 (sd sg sr x : Int) (n c m : Nat) (g : Nat → Nat → Int) : Option OutS := evFS Tryz.prog lsK 1000 4 (lsArgs sd sg sr x n c) (lsS n g) ⟨[0, 0, 0, 0, 0, .row 0 0, 0, 1, 0, 0, 1, 1, 0, 0, 0, 1, .lp 65420 (lsgA0 sd sg sr x (spE sd sg sr) (cedVal n g) (lsU sd sg sr x) (th2 (spE sd sg sr) (devE x)) (rcdVal sd sg sr 1 (lsG1 x)) (rcdVal sd sg sr n g) (sp sd sg sr x) n c) 0 (lsT ++ lsgL sd sg sr x (spE sd sg sr) (cedVal n g) (lsU sd sg sr x) (th2 (spE sd sg sr) (devE x)) (rcdVal sd sg sr 1 (lsG1 x)) (rcdVal sd sg sr n g) (sp sd sg sr x) n c g) (.exit 0) (lsgE1 sd sg sr x (spE sd sg sr) (cedVal n g) (lsU sd sg sr x) (th2 (spE sd sg sr) (devE x)) (rcdVal sd sg sr 1 (lsG1 x)) (rcdVal sd sg sr n g) (sp sd sg sr x) n c m) (lsT ++ (lsgL sd sg sr x (spE sd sg sr) (cedVal n g) (lsU sd sg sr x) (th2 (spE sd sg sr) (devE x)) (rcdVal sd sg sr 1 (lsG1 x)) (rcdVal sd sg sr n g) (sp sd sg sr x) n c g ++ [lsgO sd sg sr x (spE sd sg sr) (cedVal n g) (lsU sd sg sr x) (th2 (spE sd sg sr) (devE x)) (rcdVal sd sg sr 1 (lsG1 x)) (rcdVal sd sg sr n g) (sp sd sg sr x) g (m + 1)])) 4080 0, 1, 1, 1, 1, 1, 1, 1, 1, 1, 1, 1, 1, 1, 1, 1, 1, 1, 1], True⟩
noncomputable def ls_2 (sd sg sr x : Int) (n c : Nat) (g : Nat → Nat → Int) : Option OutS := evFS Tryz.prog lsK 1000 4 (lsArgs sd sg sr x n c) (lsS n g) ⟨[0, 0, 0, 0, 0, .row 0 0, 0, 1, 0, 0, 1, 1, 1, 1, 1, 0, 0, 0, 0, 0, 0, 1, 1, 1, 1, 1, 1, 1, 1, 1, 1, 1, 0, 0, 1, 1, 1, 1, 1, 1, 1], True⟩
noncomputable def ls_3 (sd sg sr x : Int) (n c m : Nat) (g : Nat → Nat → Int) : Option OutS := evFS Tryz.prog lsK 1000 4 (lsArgs sd sg sr x n c) (lsS n g) ⟨[0, 0, 0, 0, 0, .row 0 0, 0, 1, 0, 0, 1, 1, 0, 0, 0, 0, .lp 65420 (lsgA0 sd sg sr x (spE sd sg sr) (cedVal n g) (lsU sd sg sr x) (th2 (spE sd sg sr) (devE x)) (rcdVal sd sg sr 1 (lsG1 x)) (rcdVal sd sg sr n g) (0) n c) 0 (lsT ++ lsgL sd sg sr x (spE sd sg sr) (cedVal n g) (lsU sd sg sr x) (th2 (spE sd sg sr) (devE x)) (rcdVal sd sg sr 1 (lsG1 x)) (rcdVal sd sg sr n g) (0) n c g) (.exit 0) (lsgE1 sd sg sr x (spE sd sg sr) (cedVal n g) (lsU sd sg sr x) (th2 (spE sd sg sr) (devE x)) (rcdVal sd sg sr 1 (lsG1 x)) (rcdVal sd sg sr n g) (0) n c m) (lsT ++ (lsgL sd sg sr x (spE sd sg sr) (cedVal n g) (lsU sd sg sr x) (th2 (spE sd sg sr) (devE x)) (rcdVal sd sg sr 1 (lsG1 x)) (rcdVal sd sg sr n g) (0) n c g ++ [lsgO sd sg sr x (spE sd sg sr) (cedVal n g) (lsU sd sg sr x) (th2 (spE sd sg sr) (devE x)) (rcdVal sd sg sr 1 (lsG1 x)) (rcdVal sd sg sr n g) (0) g (m + 1)])) 4080 0, 1, 1, 1, 1, 1, 1, 1, 1, 1, 1, 1, 1, 1, 1, 1, 1, 1, 1], True⟩
noncomputable def ls_4 (sd sg sr x : Int) (n c : Nat) (g : Nat → Nat → Int) : Option OutS := evFS Tryz.prog lsK 1000 4 (lsArgs sd sg sr x n c) (lsS n g) ⟨[0, 0, 0, 0, 0, .row 0 0, 0, 1, 0, 0, 1, 1, 1, 1, 0, 0, 0, 0, 0, 0, 0, 1, 1, 1, 1, 1, 1, 1, 1, 1, 1, 1, 0, 0, 1, 1, 1, 1, 1, 1, 1], True⟩
noncomputable def ls_5 (sd sg sr x : Int) (n c : Nat) (g : Nat → Nat → Int) : Option OutS := evFS Tryz.prog lsK 1000 4 (lsArgs sd sg sr x n c) (lsS n g) ⟨[0, 0, 0, 0, 0, .row 0 0, 0, 1, 0, 1, 1, 0, 0, 0, 0, 0, 0, 0, 1, 1, 1, 1, 1, 1, 1, 1, 1, 1, 1, 0, 0, 1, 1, 1, 1, 1, 1, 1], True⟩
noncomputable def ls_6 (sd sg sr x : Int) (n c : Nat) (g : Nat → Nat → Int) : Option OutS := evFS Tryz.prog lsK 1000 4 (lsArgs sd sg sr x n c) (lsS n g) ⟨[1, 1, 1, 1, 0, .row 0 0, 1, 1, 0, 1, 1, 0, 0, 0, 0, 0, 0, 0, 1, 1, 1, 1, 1, 1, 1, 1, 1, 1, 1, 0, 0, 1, 1, 1, 1, 1, 1, 1], True⟩
noncomputable def ls_7 (sd sg sr x : Int) (n c : Nat) (g : Nat → Nat → Int) : Option OutS := evFS Tryz.prog lsK 1000 4 (lsArgs sd sg sr x n c) (lsS n g) ⟨[1, 1, 1, 1, 0, .row 0 0, 1, 1, 0, 0, 1, 1, 1, 1, 1, 0, 0, 0, 0, 0, 0, 1, 1, 1, 1, 1, 1, 1, 1, 1, 1, 1, 0, 0, 1, 1, 1, 1, 1, 1, 1], True⟩
noncomputable def ls_8 (sd sg sr x : Int) (n c : Nat) (g : Nat → Nat → Int) : Option OutS := evFS Tryz.prog lsK 1000 4 (lsArgs sd sg sr x n c) (lsS n g) ⟨[1, 1, 1, 1, 0, .row 0 0, 1, 1, 0, 0, 1, 1, 1, 1, 0, 0, 0, 0, 0, 0, 0, 1, 1, 1, 1, 1, 1, 1, 1, 1, 1, 1, 0, 0, 1, 1, 1, 1, 1, 1, 1], True⟩
noncomputable def ls_A (sd sg sr x : Int) (n c : Nat) (g : Nat → Nat → Int) : Option OutS := evFS Tryz.prog lsK 1000 4 (lsArgs sd sg sr x n c) (lsS n g) ⟨[1, 1, 1, 1, 1], True⟩
noncomputable def ls_n1 (sd sg sr x : Int) : Option OutS := evFS Tryz.prog lsK 1000 4 (lsNil sd sg sr x) aw5S0 ⟨[0, 0, 0, 0, 0, 0, 1, 0, 0, 1, 1, 0, 0, 0, 0, 0, 0, 1, 1, 1, 1, 1, 1, 0, 1, 1, 1, 1, 1, 1, 1, 1, 1, 1, 1, 0, 0, 1, 1, 1, 1, 1, 1, 1], True⟩
noncomputable def ls_e1 (sd sg sr x : Int) (c : Nat) : Option OutS := evFS Tryz.prog lsK 1000 4 (lsArgs sd sg sr x 0 c) (aw5S0.push .hole) ⟨[0, 0, 0, 0, 0, 0, 1, 0, 0, 1, 1, 0, 0, 0, 0, 0, 0, 1, 1, 1, 1, 1, 1, 0, 1, 1, 1, 1, 1, 1, 1, 1, 1, 1, 1, 0, 0, 1, 1, 1, 1, 1, 1, 1], True⟩
noncomputable def ls_n2 (sd sg sr x : Int) : Option OutS := evFS Tryz.prog lsK 1000 4 (lsNil sd sg sr x) aw5S0 ⟨[0, 0, 0, 0, 0, 0, 1, 0, 0, 1, 1, 0, 0, 0, 0, 0, 0, 0, 1, 1, 1, 1, 1, 0, 1, 1, 1, 1, 1, 1, 1, 1, 1, 1, 1, 0, 0, 1, 1, 1, 1, 1, 1, 1], True⟩
noncomputable def ls_e2 (sd sg sr x : Int) (c : Nat) : Option OutS := evFS Tryz.prog lsK 1000 4 (lsArgs sd sg sr x 0 c) (aw5S0.push .hole) ⟨[0, 0, 0, 0, 0, 0, 1, 0, 0, 1, 1, 0, 0, 0, 0, 0, 0, 0, 1, 1, 1, 1, 1, 0, 1, 1, 1, 1, 1, 1, 1, 1, 1, 1, 1, 0, 0, 1, 1, 1, 1, 1, 1, 1], True⟩
noncomputable def ls_n3 (sd sg sr x : Int) : Option OutS := evFS Tryz.prog lsK 1000 4 (lsNil sd sg sr x) aw5S0 ⟨[0, 0, 0, 0, 0, 0, 1, 0, 1, 1, 1, 0, 0, 0, 0, 0, 0, 0, 1, 1, 1, 1, 1, 1, 1, 1, 1, 1, 1, 0, 0, 1, 1, 1, 1, 1, 1, 1], True⟩
noncomputable def ls_e3 (sd sg sr x : Int) (c : Nat) : Option OutS := evFS Tryz.prog lsK 1000 4 (lsArgs sd sg sr x 0 c) (aw5S0.push .hole) ⟨[0, 0, 0, 0, 0, 0, 1, 0, 1, 1, 1, 0, 0, 0, 0, 0, 0, 0, 1, 1, 1, 1, 1, 1, 1, 1, 1, 1, 1, 0, 0, 1, 1, 1, 1, 1, 1, 1], True⟩
theorem lsK_ok : FOkS Tryz.prog lsK := bothX_ok kMps_ok (bothX_ok kCed_ok (bothX_ok kRcd_ok (bothX_ok kSameI_ok (bothX_ok (kAll_ok _ ⟨k_supported, k_rsupported, k_cSupport, k_rcSupport, trivial⟩) (tabX_ok (by kernel_rfl) aw5_calls)))))
theorem lsT_len : lsT.length = Tryz.prog.globals.size := by kernel_rfl
theorem lsg_tab (sd sg sr x u1 u2 a7 a8 a11 a12 a13 : Int) (m c : Nat) (g : Nat → Nat → Int) (hx : a12 = 0 ∧ spIn sd sg sr ∧ ∀ i, i < m + 1 → devIn (g i 0)) (hn : m + 1 ≤ 1048576) :
    SndC Tryz.prog none (.loop lsgX) (lsgA0 sd sg sr x u1 u2 a7 a8 a11 a12 a13 (m + 1) c).act (wS 0 (lsT ++ lsgL sd sg sr x u1 u2 a7 a8 a11 a12 a13 (m + 1) c g)) (.exit 0) (lsgE1 sd sg sr x u1 u2 a7 a8 a11 a12 a13 (m + 1) c m).act (wS 0 (lsT ++ (lsgL sd sg sr x u1 u2 a7 a8 a11 a12 a13 (m + 1) c g ++ [lsgO sd sg sr x u1 u2 a7 a8 a11 a12 a13 g (m + 1)]))) 4080 0 := by
  refine Snd.tabs (T := lsT) lsT_len (lsg_loop sd sg sr x u1 u2 a7 a8 a11 a12 a13 (m + 1) c g hx hn) (by simp) (by exact (by decide : ∀ b, b < 4 → Nat.testBit 4080 b = false)) (lsgL_keep sd sg sr x u1 u2 a7 a8 a11 a12 a13 (m + 1) c g) (fun o ho => ?_) rfl rfl (by kernel_rfl) (by kernel_rfl)
  rcases List.mem_append.1 ho with h | h
  · simp only [lsgL, List.mem_cons, List.not_mem_nil, or_false] at h
    rcases h with rfl | rfl | rfl | rfl | rfl | rfl | rfl | rfl
    all_goals first | rfl | exact rowI_keep _ _ _ _ _ _ _ | exact fill_keep rfl (fun a => rfl)
  · rw [show o = lsgO sd sg sr x u1 u2 a7 a8 a11 a12 a13 g (m + 1) from by simpa [cur] using h]
    exact fill_keep rfl (fun a => rfl)
section
variable (sd sg sr x : Int) (n c m : Nat) (g : Nat → Nat → Int)
theorem ls_1_o : obY (ls_1 sd sg sr x n c m g) = ((((((((((((((((((((((((((((((((((((((((((((((True ∧ ((decide ((((n : Nat)) : Int) > (20 : Int))) = false)) ∧ ((decide ((((n : Nat)) : Int) > (20 : Int))) = false)) ∧ ((decide ((((n : Nat)) : Int) > (20 : Int))) = false)) ∧ ((decide ((((n : Nat)) : Int) > (20 : Int))) = false)) ∧ (false = false)) ∧ True) ∧ ((n = n) ∧ ((n ≠ (0 : Nat)) ∧ ((n * 8) ≤ (140737488355328 : Nat))))) ∧ True) ∧ ((decide ((((n : Nat)) : Int) > (256 : Int))) = false)) ∧ (((n = n) ∧ (∀ (i : Nat), ((i < n) → (∀ (j : Nat), ((j < (1 : Nat)) → ((Value.int .i64 (g i j)) = (Value.int .i64 (gI (Value.int .i64 (g i j)))))))))) ∧ ((((n : Nat)) : Int) ≤ (9223372036854775807 : Int)))) ∧ ((decide ((0 : Int) < (((2 : Nat)) : Int))) = true)) ∧ ((0 : Int) = (Int.ofNat 0))) ∧ (((spE sd sg sr) != (0 : Int)) = false)) ∧ ((decide ((IntKind.i64.wrap ((0 : Int) + (1 : Int))) < (((2 : Nat)) : Int))) = true)) ∧ ((IntKind.i64.wrap ((0 : Int) + (1 : Int))) = (Int.ofNat 1))) ∧ (((cedVal n (fun (i : Nat) => (fun (j : Nat) => (gI (Value.int .i64 (g i j)))))) != (0 : Int)) = false)) ∧ ((decide ((IntKind.i64.wrap ((IntKind.i64.wrap ((0 : Int) + (1 : Int))) + (1 : Int))) < (((2 : Nat)) : Int))) = false)) ∧ (((0 : Int) != (0 : Int)) = false)) ∧ (((n = n) ∧ (∀ (i : Nat), ((i < n) → (∀ (j : Nat), ((j < (1 : Nat)) → ((Value.int .i64 (g i j)) = (Value.int .i64 (gI (Value.int .i64 (g i j)))))))))) ∧ ((n ≤ (1048576 : Nat)) ∧ ((spIn sd sg sr) ∧ (∀ (i : Nat), ((i < n) → (devIn (gI (Value.int .i64 (g i 0)))))))))) ∧ ((1 = 1) ∧ ((((1 : Nat)) : Int) ≤ (9223372036854775807 : Int)))) ∧ (((n = n) ∧ (∀ (i : Nat), ((i < n) → (∀ (j : Nat), ((j < (1 : Nat)) → ((Value.int .i64 (g i j)) = (Value.int .i64 (gI (Value.int .i64 (g i j)))))))))) ∧ ((((n : Nat)) : Int) ≤ (9223372036854775807 : Int)))) ∧ (((rcdVal sd sg sr (1 : Nat) (fun (i : Nat) => (fun (j : Nat) => (List.getD (x :: []) ((i * 1) + j) (0 : Int))))) == (0 : Int)) = true)) ∧ ((spIn sd sg sr) ∧ (devIn x))) ∧ ((((lsgA0 sd sg sr x (spE sd sg sr) (cedVal n g) (lsU sd sg sr x) (th2 (spE sd sg sr) (devE x)) (rcdVal sd sg sr (1 : Nat) (lsG1 x)) (rcdVal sd sg sr n g) (sp sd sg sr x) n c) = (lsgA0 sd sg sr x (spE sd sg sr) (cedVal n g) (lsU sd sg sr x) (th2 (spE sd sg sr) (devE x)) (rcdVal sd sg sr (1 : Nat) (lsG1 x)) (rcdVal sd sg sr n g) (sp sd sg sr x) n c)) ∧ ((12 = (0 + 12)) ∧ ((HAppend.hAppend (List.replicate (0 : Nat) MObj.hole) (HAppend.hAppend lsT (lsgL sd sg sr x (spE sd sg sr) (cedVal n g) (lsU sd sg sr x) (th2 (spE sd sg sr) (devE x)) (rcdVal sd sg sr (1 : Nat) (lsG1 x)) (rcdVal sd sg sr n g) (sp sd sg sr x) n c g))) = (HAppend.hAppend (List.replicate (0 : Nat) MObj.hole) (HAppend.hAppend lsT (lsgL sd sg sr x (spE sd sg sr) (cedVal n g) (lsU sd sg sr x) (th2 (spE sd sg sr) (devE x)) (rcdVal sd sg sr (1 : Nat) (lsG1 x)) (rcdVal sd sg sr n g) (sp sd sg sr x) n c g)))))) ∧ SndC Tryz.prog none (.loop lsgX) (lsgA0 sd sg sr x (spE sd sg sr) (cedVal n g) (lsU sd sg sr x) (th2 (spE sd sg sr) (devE x)) (rcdVal sd sg sr 1 (lsG1 x)) (rcdVal sd sg sr n g) (sp sd sg sr x) n c).act (wS 0 (lsT ++ lsgL sd sg sr x (spE sd sg sr) (cedVal n g) (lsU sd sg sr x) (th2 (spE sd sg sr) (devE x)) (rcdVal sd sg sr 1 (lsG1 x)) (rcdVal sd sg sr n g) (sp sd sg sr x) n c g)) (.exit 0) (lsgE1 sd sg sr x (spE sd sg sr) (cedVal n g) (lsU sd sg sr x) (th2 (spE sd sg sr) (devE x)) (rcdVal sd sg sr 1 (lsG1 x)) (rcdVal sd sg sr n g) (sp sd sg sr x) n c m).act (wS 0 (lsT ++ (lsgL sd sg sr x (spE sd sg sr) (cedVal n g) (lsU sd sg sr x) (th2 (spE sd sg sr) (devE x)) (rcdVal sd sg sr 1 (lsG1 x)) (rcdVal sd sg sr n g) (sp sd sg sr x) n c g ++ [lsgO sd sg sr x (spE sd sg sr) (cedVal n g) (lsU sd sg sr x) (th2 (spE sd sg sr) (devE x)) (rcdVal sd sg sr 1 (lsG1 x)) (rcdVal sd sg sr n g) (sp sd sg sr x) g (m + 1)]))) 4080 0)) ∧ True) ∧ True) ∧ (((spE sd sg sr) == (spE sd sg sr)) = true)) ∧ (((spE sd sg sr) == (spE sd sg sr)) = true)) ∧ (((spE sd sg sr) == (spE sd sg sr)) = true)) ∧ (((spE sd sg sr) == (spE sd sg sr)) = true)) ∧ (((lsU sd sg sr x) == (sp sd sg sr x)) = true)) ∧ (((lsU sd sg sr x) == (sp sd sg sr x)) = true)) ∧ (((lsU sd sg sr x) == (sp sd sg sr x)) = true)) ∧ (((lsU sd sg sr x) == (sp sd sg sr x)) = true)) ∧ (((th2 (spE sd sg sr) (devE x)) == (rcdVal sd sg sr (1 : Nat) (lsG1 x))) = true)) ∧ (((th2 (spE sd sg sr) (devE x)) == (rcdVal sd sg sr (1 : Nat) (lsG1 x))) = true)) ∧ (((th2 (spE sd sg sr) (devE x)) == (rcdVal sd sg sr (1 : Nat) (lsG1 x))) = true)) ∧ (((n = n) ∧ (∀ (i : Nat), ((i < n) → (∀ (j : Nat), ((j < (1 : Nat)) → ((fillG mpsZ (mpsW sd sg sr g) n i j) = (Value.int .i64 (gI (fillG mpsZ (mpsW sd sg sr g) n i j))))))))) ∧ ((((m + 1) = (m + 1)) ∧ (∀ (i : Nat), ((i < (m + 1)) → (∀ (j : Nat), ((j < (1 : Nat)) → ((fillG [] (lsgW sd sg sr x (spE sd sg sr) (cedVal n g) (lsU sd sg sr x) (th2 (spE sd sg sr) (devE x)) (rcdVal sd sg sr (1 : Nat) (lsG1 x)) (rcdVal sd sg sr n g) (sp sd sg sr x) g) (m + 1) i j) = (Value.int .i64 (gI (fillG [] (lsgW sd sg sr x (spE sd sg sr) (cedVal n g) (lsU sd sg sr x) (th2 (spE sd sg sr) (devE x)) (rcdVal sd sg sr (1 : Nat) (lsG1 x)) (rcdVal sd sg sr n g) (sp sd sg sr x) g) (m + 1) i j))))))))) ∧ ((((n : Nat)) : Int) ≤ (9223372036854775807 : Int))))) ∧ (((th2 (spE sd sg sr) (devE x)) == (rcdVal sd sg sr (1 : Nat) (lsG1 x))) = true)) ∧ ((decide ((n = (m + 1)) ∧ (sameI (fun (i : Nat) => (fun (j : Nat) => (gI (fillG mpsZ (mpsW sd sg sr g) n i j)))) (fun (i : Nat) => (fun (j : Nat) => (gI (fillG [] (lsgW sd sg sr x (spE sd sg sr) (cedVal n g) (lsU sd sg sr x) (th2 (spE sd sg sr) (devE x)) (rcdVal sd sg sr (1 : Nat) (lsG1 x)) (rcdVal sd sg sr n g) (sp sd sg sr x) g) (m + 1) i j)))) n))) = true)) ∧ ((decide ((n = (m + 1)) ∧ (sameI (fun (i : Nat) => (fun (j : Nat) => (gI (fillG mpsZ (mpsW sd sg sr g) n i j)))) (fun (i : Nat) => (fun (j : Nat) => (gI (fillG [] (lsgW sd sg sr x (spE sd sg sr) (cedVal n g) (lsU sd sg sr x) (th2 (spE sd sg sr) (devE x)) (rcdVal sd sg sr (1 : Nat) (lsG1 x)) (rcdVal sd sg sr n g) (sp sd sg sr x) g) (m + 1) i j)))) n))) = true)) ∧ ((decide ((n = (m + 1)) ∧ (sameI (fun (i : Nat) => (fun (j : Nat) => (gI (fillG mpsZ (mpsW sd sg sr g) n i j)))) (fun (i : Nat) => (fun (j : Nat) => (gI (fillG [] (lsgW sd sg sr x (spE sd sg sr) (cedVal n g) (lsU sd sg sr x) (th2 (spE sd sg sr) (devE x)) (rcdVal sd sg sr (1 : Nat) (lsG1 x)) (rcdVal sd sg sr n g) (sp sd sg sr x) g) (m + 1) i j)))) n))) = true)) ∧ ((decide ((n = (m + 1)) ∧ (sameI (fun (i : Nat) => (fun (j : Nat) => (gI (fillG mpsZ (mpsW sd sg sr g) n i j)))) (fun (i : Nat) => (fun (j : Nat) => (gI (fillG [] (lsgW sd sg sr x (spE sd sg sr) (cedVal n g) (lsU sd sg sr x) (th2 (spE sd sg sr) (devE x)) (rcdVal sd sg sr (1 : Nat) (lsG1 x)) (rcdVal sd sg sr n g) (sp sd sg sr x) g) (m + 1) i j)))) n))) = true)) ∧ (((0 : Int) == (rcdVal sd sg sr n g)) = true)) ∧ (((0 : Int) == (rcdVal sd sg sr n g)) = true))) := by kernel_rfl
theorem ls_1_g : goodY (ls_1 sd sg sr x n c m g) = true := by kernel_rfl
theorem ls_2_o : obY (ls_2 sd sg sr x n c g) = ((((((((((((((((((((((((((((((((((((((((((((((((((True ∧ ((decide ((((n : Nat)) : Int) > (20 : Int))) = false)) ∧ ((decide ((((n : Nat)) : Int) > (20 : Int))) = false)) ∧ ((decide ((((n : Nat)) : Int) > (20 : Int))) = false)) ∧ ((decide ((((n : Nat)) : Int) > (20 : Int))) = false)) ∧ (false = false)) ∧ True) ∧ ((n = n) ∧ ((n ≠ (0 : Nat)) ∧ ((n * 8) ≤ (140737488355328 : Nat))))) ∧ True) ∧ ((decide ((((n : Nat)) : Int) > (256 : Int))) = false)) ∧ (((n = n) ∧ (∀ (i : Nat), ((i < n) → (∀ (j : Nat), ((j < (1 : Nat)) → ((Value.int .i64 (g i j)) = (Value.int .i64 (gI (Value.int .i64 (g i j)))))))))) ∧ ((((n : Nat)) : Int) ≤ (9223372036854775807 : Int)))) ∧ ((decide ((0 : Int) < (((2 : Nat)) : Int))) = true)) ∧ ((0 : Int) = (Int.ofNat 0))) ∧ (((spE sd sg sr) != (0 : Int)) = false)) ∧ ((decide ((IntKind.i64.wrap ((0 : Int) + (1 : Int))) < (((2 : Nat)) : Int))) = true)) ∧ ((IntKind.i64.wrap ((0 : Int) + (1 : Int))) = (Int.ofNat 1))) ∧ (((cedVal n (fun (i : Nat) => (fun (j : Nat) => (gI (Value.int .i64 (g i j)))))) != (0 : Int)) = true)) ∧ (((cedVal n (fun (i : Nat) => (fun (j : Nat) => (gI (Value.int .i64 (g i j)))))) != (0 : Int)) = true)) ∧ ((1 = 1) ∧ ((((1 : Nat)) : Int) ≤ (9223372036854775807 : Int)))) ∧ (((n = n) ∧ (∀ (i : Nat), ((i < n) → (∀ (j : Nat), ((j < (1 : Nat)) → ((Value.int .i64 (g i j)) = (Value.int .i64 (gI (Value.int .i64 (g i j)))))))))) ∧ ((((n : Nat)) : Int) ≤ (9223372036854775807 : Int)))) ∧ (((rcdVal sd sg sr (1 : Nat) (fun (i : Nat) => (fun (j : Nat) => (List.getD (x :: []) ((i * 1) + j) (0 : Int))))) == (0 : Int)) = true)) ∧ ((spIn sd sg sr) ∧ (devIn x))) ∧ (((rcdVal sd sg sr n (fun (i : Nat) => (fun (j : Nat) => (gI (Value.int .i64 (g i j)))))) == (0 : Int)) = false)) ∧ (((rcdVal sd sg sr n (fun (i : Nat) => (fun (j : Nat) => (gI (Value.int .i64 (g i j)))))) == (0 : Int)) = false)) ∧ (((rcdVal sd sg sr n (fun (i : Nat) => (fun (j : Nat) => (gI (Value.int .i64 (g i j)))))) == (0 : Int)) = false)) ∧ (((rcdVal sd sg sr n (fun (i : Nat) => (fun (j : Nat) => (gI (Value.int .i64 (g i j)))))) == (0 : Int)) = false)) ∧ (((rcdVal sd sg sr n (fun (i : Nat) => (fun (j : Nat) => (gI (Value.int .i64 (g i j)))))) == (0 : Int)) = false)) ∧ (false = false)) ∧ True) ∧ True) ∧ (((spE sd sg sr) == (spE sd sg sr)) = true)) ∧ (((spE sd sg sr) == (spE sd sg sr)) = true)) ∧ (((spE sd sg sr) == (spE sd sg sr)) = true)) ∧ (((spE sd sg sr) == (spE sd sg sr)) = true)) ∧ (((if ((th2 (spE sd sg sr) (devE x)) = (0 : Int)) then (sp sd sg sr x) else (0 : Int)) == (sp sd sg sr x)) = true)) ∧ (((if ((th2 (spE sd sg sr) (devE x)) = (0 : Int)) then (sp sd sg sr x) else (0 : Int)) == (sp sd sg sr x)) = true)) ∧ (((if ((th2 (spE sd sg sr) (devE x)) = (0 : Int)) then (sp sd sg sr x) else (0 : Int)) == (sp sd sg sr x)) = true)) ∧ (((if ((th2 (spE sd sg sr) (devE x)) = (0 : Int)) then (sp sd sg sr x) else (0 : Int)) == (sp sd sg sr x)) = true)) ∧ (((th2 (spE sd sg sr) (devE x)) == (rcdVal sd sg sr (1 : Nat) (fun (i : Nat) => (fun (j : Nat) => (List.getD (x :: []) ((i * 1) + j) (0 : Int)))))) = true)) ∧ (((th2 (spE sd sg sr) (devE x)) == (rcdVal sd sg sr (1 : Nat) (fun (i : Nat) => (fun (j : Nat) => (List.getD (x :: []) ((i * 1) + j) (0 : Int)))))) = true)) ∧ (((th2 (spE sd sg sr) (devE x)) == (rcdVal sd sg sr (1 : Nat) (fun (i : Nat) => (fun (j : Nat) => (List.getD (x :: []) ((i * 1) + j) (0 : Int)))))) = true)) ∧ (((((0 : Nat)) : Int) != (((0 : Nat)) : Int)) = false)) ∧ ((decide ((0 : Int) < (((0 : Nat)) : Int))) = false)) ∧ (((th2 (spE sd sg sr) (devE x)) == (rcdVal sd sg sr (1 : Nat) (fun (i : Nat) => (fun (j : Nat) => (List.getD (x :: []) ((i * 1) + j) (0 : Int)))))) = true)) ∧ (true = true)) ∧ (true = true)) ∧ (true = true)) ∧ (true = true)) ∧ (((cedVal n (fun (i : Nat) => (fun (j : Nat) => (gI (Value.int .i64 (g i j)))))) == (rcdVal sd sg sr n (fun (i : Nat) => (fun (j : Nat) => (gI (Value.int .i64 (g i j))))))) = true)) ∧ (((cedVal n (fun (i : Nat) => (fun (j : Nat) => (gI (Value.int .i64 (g i j)))))) == (rcdVal sd sg sr n (fun (i : Nat) => (fun (j : Nat) => (gI (Value.int .i64 (g i j))))))) = true))) := by kernel_rfl
theorem ls_2_g : goodY (ls_2 sd sg sr x n c g) = true := by kernel_rfl
theorem ls_3_o : obY (ls_3 sd sg sr x n c m g) = (((((((((((((((((((((((((((((((((((((((((((((True ∧ ((decide ((((n : Nat)) : Int) > (20 : Int))) = false)) ∧ ((decide ((((n : Nat)) : Int) > (20 : Int))) = false)) ∧ ((decide ((((n : Nat)) : Int) > (20 : Int))) = false)) ∧ ((decide ((((n : Nat)) : Int) > (20 : Int))) = false)) ∧ (false = false)) ∧ True) ∧ ((n = n) ∧ ((n ≠ (0 : Nat)) ∧ ((n * 8) ≤ (140737488355328 : Nat))))) ∧ True) ∧ ((decide ((((n : Nat)) : Int) > (256 : Int))) = false)) ∧ (((n = n) ∧ (∀ (i : Nat), ((i < n) → (∀ (j : Nat), ((j < (1 : Nat)) → ((Value.int .i64 (g i j)) = (Value.int .i64 (gI (Value.int .i64 (g i j)))))))))) ∧ ((((n : Nat)) : Int) ≤ (9223372036854775807 : Int)))) ∧ ((decide ((0 : Int) < (((2 : Nat)) : Int))) = true)) ∧ ((0 : Int) = (Int.ofNat 0))) ∧ (((spE sd sg sr) != (0 : Int)) = false)) ∧ ((decide ((IntKind.i64.wrap ((0 : Int) + (1 : Int))) < (((2 : Nat)) : Int))) = true)) ∧ ((IntKind.i64.wrap ((0 : Int) + (1 : Int))) = (Int.ofNat 1))) ∧ (((cedVal n (fun (i : Nat) => (fun (j : Nat) => (gI (Value.int .i64 (g i j)))))) != (0 : Int)) = false)) ∧ ((decide ((IntKind.i64.wrap ((IntKind.i64.wrap ((0 : Int) + (1 : Int))) + (1 : Int))) < (((2 : Nat)) : Int))) = false)) ∧ (((0 : Int) != (0 : Int)) = false)) ∧ (((n = n) ∧ (∀ (i : Nat), ((i < n) → (∀ (j : Nat), ((j < (1 : Nat)) → ((Value.int .i64 (g i j)) = (Value.int .i64 (gI (Value.int .i64 (g i j)))))))))) ∧ ((n ≤ (1048576 : Nat)) ∧ ((spIn sd sg sr) ∧ (∀ (i : Nat), ((i < n) → (devIn (gI (Value.int .i64 (g i 0)))))))))) ∧ ((1 = 1) ∧ ((((1 : Nat)) : Int) ≤ (9223372036854775807 : Int)))) ∧ (((n = n) ∧ (∀ (i : Nat), ((i < n) → (∀ (j : Nat), ((j < (1 : Nat)) → ((Value.int .i64 (g i j)) = (Value.int .i64 (gI (Value.int .i64 (g i j)))))))))) ∧ ((((n : Nat)) : Int) ≤ (9223372036854775807 : Int)))) ∧ (((rcdVal sd sg sr (1 : Nat) (fun (i : Nat) => (fun (j : Nat) => (List.getD (x :: []) ((i * 1) + j) (0 : Int))))) == (0 : Int)) = false)) ∧ ((((lsgA0 sd sg sr x (spE sd sg sr) (cedVal n g) (lsU sd sg sr x) (th2 (spE sd sg sr) (devE x)) (rcdVal sd sg sr (1 : Nat) (lsG1 x)) (rcdVal sd sg sr n g) (0 : Int) n c) = (lsgA0 sd sg sr x (spE sd sg sr) (cedVal n g) (lsU sd sg sr x) (th2 (spE sd sg sr) (devE x)) (rcdVal sd sg sr (1 : Nat) (lsG1 x)) (rcdVal sd sg sr n g) (0 : Int) n c)) ∧ ((12 = (0 + 12)) ∧ ((HAppend.hAppend (List.replicate (0 : Nat) MObj.hole) (HAppend.hAppend lsT (lsgL sd sg sr x (spE sd sg sr) (cedVal n g) (lsU sd sg sr x) (th2 (spE sd sg sr) (devE x)) (rcdVal sd sg sr (1 : Nat) (lsG1 x)) (rcdVal sd sg sr n g) (0 : Int) n c g))) = (HAppend.hAppend (List.replicate (0 : Nat) MObj.hole) (HAppend.hAppend lsT (lsgL sd sg sr x (spE sd sg sr) (cedVal n g) (lsU sd sg sr x) (th2 (spE sd sg sr) (devE x)) (rcdVal sd sg sr (1 : Nat) (lsG1 x)) (rcdVal sd sg sr n g) (0 : Int) n c g)))))) ∧ SndC Tryz.prog none (.loop lsgX) (lsgA0 sd sg sr x (spE sd sg sr) (cedVal n g) (lsU sd sg sr x) (th2 (spE sd sg sr) (devE x)) (rcdVal sd sg sr 1 (lsG1 x)) (rcdVal sd sg sr n g) (0) n c).act (wS 0 (lsT ++ lsgL sd sg sr x (spE sd sg sr) (cedVal n g) (lsU sd sg sr x) (th2 (spE sd sg sr) (devE x)) (rcdVal sd sg sr 1 (lsG1 x)) (rcdVal sd sg sr n g) (0) n c g)) (.exit 0) (lsgE1 sd sg sr x (spE sd sg sr) (cedVal n g) (lsU sd sg sr x) (th2 (spE sd sg sr) (devE x)) (rcdVal sd sg sr 1 (lsG1 x)) (rcdVal sd sg sr n g) (0) n c m).act (wS 0 (lsT ++ (lsgL sd sg sr x (spE sd sg sr) (cedVal n g) (lsU sd sg sr x) (th2 (spE sd sg sr) (devE x)) (rcdVal sd sg sr 1 (lsG1 x)) (rcdVal sd sg sr n g) (0) n c g ++ [lsgO sd sg sr x (spE sd sg sr) (cedVal n g) (lsU sd sg sr x) (th2 (spE sd sg sr) (devE x)) (rcdVal sd sg sr 1 (lsG1 x)) (rcdVal sd sg sr n g) (0) g (m + 1)]))) 4080 0)) ∧ True) ∧ True) ∧ (((spE sd sg sr) == (spE sd sg sr)) = true)) ∧ (((spE sd sg sr) == (spE sd sg sr)) = true)) ∧ (((spE sd sg sr) == (spE sd sg sr)) = true)) ∧ (((spE sd sg sr) == (spE sd sg sr)) = true)) ∧ (((lsU sd sg sr x) == (0 : Int)) = true)) ∧ (((lsU sd sg sr x) == (0 : Int)) = true)) ∧ (((lsU sd sg sr x) == (0 : Int)) = true)) ∧ (((lsU sd sg sr x) == (0 : Int)) = true)) ∧ (((th2 (spE sd sg sr) (devE x)) == (rcdVal sd sg sr (1 : Nat) (lsG1 x))) = true)) ∧ (((th2 (spE sd sg sr) (devE x)) == (rcdVal sd sg sr (1 : Nat) (lsG1 x))) = true)) ∧ (((th2 (spE sd sg sr) (devE x)) == (rcdVal sd sg sr (1 : Nat) (lsG1 x))) = true)) ∧ (((n = n) ∧ (∀ (i : Nat), ((i < n) → (∀ (j : Nat), ((j < (1 : Nat)) → ((fillG mpsZ (mpsW sd sg sr g) n i j) = (Value.int .i64 (gI (fillG mpsZ (mpsW sd sg sr g) n i j))))))))) ∧ ((((m + 1) = (m + 1)) ∧ (∀ (i : Nat), ((i < (m + 1)) → (∀ (j : Nat), ((j < (1 : Nat)) → ((fillG [] (lsgW sd sg sr x (spE sd sg sr) (cedVal n g) (lsU sd sg sr x) (th2 (spE sd sg sr) (devE x)) (rcdVal sd sg sr (1 : Nat) (lsG1 x)) (rcdVal sd sg sr n g) (0 : Int) g) (m + 1) i j) = (Value.int .i64 (gI (fillG [] (lsgW sd sg sr x (spE sd sg sr) (cedVal n g) (lsU sd sg sr x) (th2 (spE sd sg sr) (devE x)) (rcdVal sd sg sr (1 : Nat) (lsG1 x)) (rcdVal sd sg sr n g) (0 : Int) g) (m + 1) i j))))))))) ∧ ((((n : Nat)) : Int) ≤ (9223372036854775807 : Int))))) ∧ (((th2 (spE sd sg sr) (devE x)) == (rcdVal sd sg sr (1 : Nat) (lsG1 x))) = true)) ∧ ((decide ((n = (m + 1)) ∧ (sameI (fun (i : Nat) => (fun (j : Nat) => (gI (fillG mpsZ (mpsW sd sg sr g) n i j)))) (fun (i : Nat) => (fun (j : Nat) => (gI (fillG [] (lsgW sd sg sr x (spE sd sg sr) (cedVal n g) (lsU sd sg sr x) (th2 (spE sd sg sr) (devE x)) (rcdVal sd sg sr (1 : Nat) (lsG1 x)) (rcdVal sd sg sr n g) (0 : Int) g) (m + 1) i j)))) n))) = true)) ∧ ((decide ((n = (m + 1)) ∧ (sameI (fun (i : Nat) => (fun (j : Nat) => (gI (fillG mpsZ (mpsW sd sg sr g) n i j)))) (fun (i : Nat) => (fun (j : Nat) => (gI (fillG [] (lsgW sd sg sr x (spE sd sg sr) (cedVal n g) (lsU sd sg sr x) (th2 (spE sd sg sr) (devE x)) (rcdVal sd sg sr (1 : Nat) (lsG1 x)) (rcdVal sd sg sr n g) (0 : Int) g) (m + 1) i j)))) n))) = true)) ∧ ((decide ((n = (m + 1)) ∧ (sameI (fun (i : Nat) => (fun (j : Nat) => (gI (fillG mpsZ (mpsW sd sg sr g) n i j)))) (fun (i : Nat) => (fun (j : Nat) => (gI (fillG [] (lsgW sd sg sr x (spE sd sg sr) (cedVal n g) (lsU sd sg sr x) (th2 (spE sd sg sr) (devE x)) (rcdVal sd sg sr (1 : Nat) (lsG1 x)) (rcdVal sd sg sr n g) (0 : Int) g) (m + 1) i j)))) n))) = true)) ∧ ((decide ((n = (m + 1)) ∧ (sameI (fun (i : Nat) => (fun (j : Nat) => (gI (fillG mpsZ (mpsW sd sg sr g) n i j)))) (fun (i : Nat) => (fun (j : Nat) => (gI (fillG [] (lsgW sd sg sr x (spE sd sg sr) (cedVal n g) (lsU sd sg sr x) (th2 (spE sd sg sr) (devE x)) (rcdVal sd sg sr (1 : Nat) (lsG1 x)) (rcdVal sd sg sr n g) (0 : Int) g) (m + 1) i j)))) n))) = true)) ∧ (((0 : Int) == (rcdVal sd sg sr n g)) = true)) ∧ (((0 : Int) == (rcdVal sd sg sr n g)) = true))) := by kernel_rfl
theorem ls_3_g : goodY (ls_3 sd sg sr x n c m g) = true := by kernel_rfl
theorem ls_4_o : obY (ls_4 sd sg sr x n c g) = (((((((((((((((((((((((((((((((((((((((((((((((((True ∧ ((decide ((((n : Nat)) : Int) > (20 : Int))) = false)) ∧ ((decide ((((n : Nat)) : Int) > (20 : Int))) = false)) ∧ ((decide ((((n : Nat)) : Int) > (20 : Int))) = false)) ∧ ((decide ((((n : Nat)) : Int) > (20 : Int))) = false)) ∧ (false = false)) ∧ True) ∧ ((n = n) ∧ ((n ≠ (0 : Nat)) ∧ ((n * 8) ≤ (140737488355328 : Nat))))) ∧ True) ∧ ((decide ((((n : Nat)) : Int) > (256 : Int))) = false)) ∧ (((n = n) ∧ (∀ (i : Nat), ((i < n) → (∀ (j : Nat), ((j < (1 : Nat)) → ((Value.int .i64 (g i j)) = (Value.int .i64 (gI (Value.int .i64 (g i j)))))))))) ∧ ((((n : Nat)) : Int) ≤ (9223372036854775807 : Int)))) ∧ ((decide ((0 : Int) < (((2 : Nat)) : Int))) = true)) ∧ ((0 : Int) = (Int.ofNat 0))) ∧ (((spE sd sg sr) != (0 : Int)) = false)) ∧ ((decide ((IntKind.i64.wrap ((0 : Int) + (1 : Int))) < (((2 : Nat)) : Int))) = true)) ∧ ((IntKind.i64.wrap ((0 : Int) + (1 : Int))) = (Int.ofNat 1))) ∧ (((cedVal n (fun (i : Nat) => (fun (j : Nat) => (gI (Value.int .i64 (g i j)))))) != (0 : Int)) = true)) ∧ (((cedVal n (fun (i : Nat) => (fun (j : Nat) => (gI (Value.int .i64 (g i j)))))) != (0 : Int)) = true)) ∧ ((1 = 1) ∧ ((((1 : Nat)) : Int) ≤ (9223372036854775807 : Int)))) ∧ (((n = n) ∧ (∀ (i : Nat), ((i < n) → (∀ (j : Nat), ((j < (1 : Nat)) → ((Value.int .i64 (g i j)) = (Value.int .i64 (gI (Value.int .i64 (g i j)))))))))) ∧ ((((n : Nat)) : Int) ≤ (9223372036854775807 : Int)))) ∧ (((rcdVal sd sg sr (1 : Nat) (fun (i : Nat) => (fun (j : Nat) => (List.getD (x :: []) ((i * 1) + j) (0 : Int))))) == (0 : Int)) = false)) ∧ (((rcdVal sd sg sr n (fun (i : Nat) => (fun (j : Nat) => (gI (Value.int .i64 (g i j)))))) == (0 : Int)) = false)) ∧ (((rcdVal sd sg sr n (fun (i : Nat) => (fun (j : Nat) => (gI (Value.int .i64 (g i j)))))) == (0 : Int)) = false)) ∧ (((rcdVal sd sg sr n (fun (i : Nat) => (fun (j : Nat) => (gI (Value.int .i64 (g i j)))))) == (0 : Int)) = false)) ∧ (((rcdVal sd sg sr n (fun (i : Nat) => (fun (j : Nat) => (gI (Value.int .i64 (g i j)))))) == (0 : Int)) = false)) ∧ (((rcdVal sd sg sr n (fun (i : Nat) => (fun (j : Nat) => (gI (Value.int .i64 (g i j)))))) == (0 : Int)) = false)) ∧ (false = false)) ∧ True) ∧ True) ∧ (((spE sd sg sr) == (spE sd sg sr)) = true)) ∧ (((spE sd sg sr) == (spE sd sg sr)) = true)) ∧ (((spE sd sg sr) == (spE sd sg sr)) = true)) ∧ (((spE sd sg sr) == (spE sd sg sr)) = true)) ∧ (((if ((th2 (spE sd sg sr) (devE x)) = (0 : Int)) then (sp sd sg sr x) else (0 : Int)) == (0 : Int)) = true)) ∧ (((if ((th2 (spE sd sg sr) (devE x)) = (0 : Int)) then (sp sd sg sr x) else (0 : Int)) == (0 : Int)) = true)) ∧ (((if ((th2 (spE sd sg sr) (devE x)) = (0 : Int)) then (sp sd sg sr x) else (0 : Int)) == (0 : Int)) = true)) ∧ (((if ((th2 (spE sd sg sr) (devE x)) = (0 : Int)) then (sp sd sg sr x) else (0 : Int)) == (0 : Int)) = true)) ∧ (((th2 (spE sd sg sr) (devE x)) == (rcdVal sd sg sr (1 : Nat) (fun (i : Nat) => (fun (j : Nat) => (List.getD (x :: []) ((i * 1) + j) (0 : Int)))))) = true)) ∧ (((th2 (spE sd sg sr) (devE x)) == (rcdVal sd sg sr (1 : Nat) (fun (i : Nat) => (fun (j : Nat) => (List.getD (x :: []) ((i * 1) + j) (0 : Int)))))) = true)) ∧ (((th2 (spE sd sg sr) (devE x)) == (rcdVal sd sg sr (1 : Nat) (fun (i : Nat) => (fun (j : Nat) => (List.getD (x :: []) ((i * 1) + j) (0 : Int)))))) = true)) ∧ (((((0 : Nat)) : Int) != (((0 : Nat)) : Int)) = false)) ∧ ((decide ((0 : Int) < (((0 : Nat)) : Int))) = false)) ∧ (((th2 (spE sd sg sr) (devE x)) == (rcdVal sd sg sr (1 : Nat) (fun (i : Nat) => (fun (j : Nat) => (List.getD (x :: []) ((i * 1) + j) (0 : Int)))))) = true)) ∧ (true = true)) ∧ (true = true)) ∧ (true = true)) ∧ (true = true)) ∧ (((cedVal n (fun (i : Nat) => (fun (j : Nat) => (gI (Value.int .i64 (g i j)))))) == (rcdVal sd sg sr n (fun (i : Nat) => (fun (j : Nat) => (gI (Value.int .i64 (g i j))))))) = true)) ∧ (((cedVal n (fun (i : Nat) => (fun (j : Nat) => (gI (Value.int .i64 (g i j)))))) == (rcdVal sd sg sr n (fun (i : Nat) => (fun (j : Nat) => (gI (Value.int .i64 (g i j))))))) = true))) := by kernel_rfl
theorem ls_4_g : goodY (ls_4 sd sg sr x n c g) = true := by kernel_rfl
theorem ls_5_o : obY (ls_5 sd sg sr x n c g) = ((((((((((((((((((((((((((((((((((((((((((((((True ∧ ((decide ((((n : Nat)) : Int) > (20 : Int))) = false)) ∧ ((decide ((((n : Nat)) : Int) > (20 : Int))) = false)) ∧ ((decide ((((n : Nat)) : Int) > (20 : Int))) = false)) ∧ ((decide ((((n : Nat)) : Int) > (20 : Int))) = false)) ∧ (false = false)) ∧ True) ∧ ((n = n) ∧ ((n ≠ (0 : Nat)) ∧ ((n * 8) ≤ (140737488355328 : Nat))))) ∧ True) ∧ ((decide ((((n : Nat)) : Int) > (256 : Int))) = false)) ∧ (((n = n) ∧ (∀ (i : Nat), ((i < n) → (∀ (j : Nat), ((j < (1 : Nat)) → ((Value.int .i64 (g i j)) = (Value.int .i64 (gI (Value.int .i64 (g i j)))))))))) ∧ ((((n : Nat)) : Int) ≤ (9223372036854775807 : Int)))) ∧ ((decide ((0 : Int) < (((2 : Nat)) : Int))) = true)) ∧ ((0 : Int) = (Int.ofNat 0))) ∧ (((spE sd sg sr) != (0 : Int)) = true)) ∧ (((spE sd sg sr) != (0 : Int)) = true)) ∧ ((1 = 1) ∧ ((((1 : Nat)) : Int) ≤ (9223372036854775807 : Int)))) ∧ (((n = n) ∧ (∀ (i : Nat), ((i < n) → (∀ (j : Nat), ((j < (1 : Nat)) → ((Value.int .i64 (g i j)) = (Value.int .i64 (gI (Value.int .i64 (g i j)))))))))) ∧ ((((n : Nat)) : Int) ≤ (9223372036854775807 : Int)))) ∧ (((rcdVal sd sg sr (1 : Nat) (fun (i : Nat) => (fun (j : Nat) => (List.getD (x :: []) ((i * 1) + j) (0 : Int))))) == (0 : Int)) = false)) ∧ (((rcdVal sd sg sr n (fun (i : Nat) => (fun (j : Nat) => (gI (Value.int .i64 (g i j)))))) == (0 : Int)) = false)) ∧ (((rcdVal sd sg sr n (fun (i : Nat) => (fun (j : Nat) => (gI (Value.int .i64 (g i j)))))) == (0 : Int)) = false)) ∧ (((rcdVal sd sg sr n (fun (i : Nat) => (fun (j : Nat) => (gI (Value.int .i64 (g i j)))))) == (0 : Int)) = false)) ∧ (((rcdVal sd sg sr n (fun (i : Nat) => (fun (j : Nat) => (gI (Value.int .i64 (g i j)))))) == (0 : Int)) = false)) ∧ (((rcdVal sd sg sr n (fun (i : Nat) => (fun (j : Nat) => (gI (Value.int .i64 (g i j)))))) == (0 : Int)) = false)) ∧ (false = false)) ∧ True) ∧ True) ∧ (((spE sd sg sr) == (spE sd sg sr)) = true)) ∧ (((spE sd sg sr) == (spE sd sg sr)) = true)) ∧ (((spE sd sg sr) == (spE sd sg sr)) = true)) ∧ (((spE sd sg sr) == (spE sd sg sr)) = true)) ∧ (((if ((th2 (spE sd sg sr) (devE x)) = (0 : Int)) then (sp sd sg sr x) else (0 : Int)) == (0 : Int)) = true)) ∧ (((if ((th2 (spE sd sg sr) (devE x)) = (0 : Int)) then (sp sd sg sr x) else (0 : Int)) == (0 : Int)) = true)) ∧ (((if ((th2 (spE sd sg sr) (devE x)) = (0 : Int)) then (sp sd sg sr x) else (0 : Int)) == (0 : Int)) = true)) ∧ (((if ((th2 (spE sd sg sr) (devE x)) = (0 : Int)) then (sp sd sg sr x) else (0 : Int)) == (0 : Int)) = true)) ∧ (((th2 (spE sd sg sr) (devE x)) == (rcdVal sd sg sr (1 : Nat) (fun (i : Nat) => (fun (j : Nat) => (List.getD (x :: []) ((i * 1) + j) (0 : Int)))))) = true)) ∧ (((th2 (spE sd sg sr) (devE x)) == (rcdVal sd sg sr (1 : Nat) (fun (i : Nat) => (fun (j : Nat) => (List.getD (x :: []) ((i * 1) + j) (0 : Int)))))) = true)) ∧ (((th2 (spE sd sg sr) (devE x)) == (rcdVal sd sg sr (1 : Nat) (fun (i : Nat) => (fun (j : Nat) => (List.getD (x :: []) ((i * 1) + j) (0 : Int)))))) = true)) ∧ (((((0 : Nat)) : Int) != (((0 : Nat)) : Int)) = false)) ∧ ((decide ((0 : Int) < (((0 : Nat)) : Int))) = false)) ∧ (((th2 (spE sd sg sr) (devE x)) == (rcdVal sd sg sr (1 : Nat) (fun (i : Nat) => (fun (j : Nat) => (List.getD (x :: []) ((i * 1) + j) (0 : Int)))))) = true)) ∧ (true = true)) ∧ (true = true)) ∧ (true = true)) ∧ (true = true)) ∧ (((spE sd sg sr) == (rcdVal sd sg sr n (fun (i : Nat) => (fun (j : Nat) => (gI (Value.int .i64 (g i j))))))) = true)) ∧ (((spE sd sg sr) == (rcdVal sd sg sr n (fun (i : Nat) => (fun (j : Nat) => (gI (Value.int .i64 (g i j))))))) = true))) := by kernel_rfl
theorem ls_5_g : goodY (ls_5 sd sg sr x n c g) = true := by kernel_rfl
theorem ls_6_o : obY (ls_6 sd sg sr x n c g) = (((((((((((((((((((((((((((((((((((((((((((((True ∧ ((decide ((((n : Nat)) : Int) > (20 : Int))) = true)) ∧ ((decide ((((n : Nat)) : Int) > (20 : Int))) = true)) ∧ ((decide ((((n : Nat)) : Int) > (20 : Int))) = true)) ∧ ((decide ((((n : Nat)) : Int) > (20 : Int))) = true)) ∧ (((((n : Nat)) : Int) != (257 : Int)) = false)) ∧ True) ∧ ((n = n) ∧ ((n ≠ (0 : Nat)) ∧ ((n * 8) ≤ (140737488355328 : Nat))))) ∧ True) ∧ ((decide ((((n : Nat)) : Int) > (256 : Int))) = true)) ∧ ((decide ((0 : Int) < (((2 : Nat)) : Int))) = true)) ∧ ((0 : Int) = (Int.ofNat 0))) ∧ (((spE sd sg sr) != (0 : Int)) = true)) ∧ (((spE sd sg sr) != (0 : Int)) = true)) ∧ ((1 = 1) ∧ ((((1 : Nat)) : Int) ≤ (9223372036854775807 : Int)))) ∧ (((n = n) ∧ (∀ (i : Nat), ((i < n) → (∀ (j : Nat), ((j < (1 : Nat)) → ((Value.int .i64 (g i j)) = (Value.int .i64 (gI (Value.int .i64 (g i j)))))))))) ∧ ((((n : Nat)) : Int) ≤ (9223372036854775807 : Int)))) ∧ (((rcdVal sd sg sr (1 : Nat) (fun (i : Nat) => (fun (j : Nat) => (List.getD (x :: []) ((i * 1) + j) (0 : Int))))) == (0 : Int)) = false)) ∧ (((rcdVal sd sg sr n (fun (i : Nat) => (fun (j : Nat) => (gI (Value.int .i64 (g i j)))))) == (0 : Int)) = false)) ∧ (((rcdVal sd sg sr n (fun (i : Nat) => (fun (j : Nat) => (gI (Value.int .i64 (g i j)))))) == (0 : Int)) = false)) ∧ (((rcdVal sd sg sr n (fun (i : Nat) => (fun (j : Nat) => (gI (Value.int .i64 (g i j)))))) == (0 : Int)) = false)) ∧ (((rcdVal sd sg sr n (fun (i : Nat) => (fun (j : Nat) => (gI (Value.int .i64 (g i j)))))) == (0 : Int)) = false)) ∧ (((rcdVal sd sg sr n (fun (i : Nat) => (fun (j : Nat) => (gI (Value.int .i64 (g i j)))))) == (0 : Int)) = false)) ∧ (false = false)) ∧ True) ∧ True) ∧ (((spE sd sg sr) == (spE sd sg sr)) = true)) ∧ (((spE sd sg sr) == (spE sd sg sr)) = true)) ∧ (((spE sd sg sr) == (spE sd sg sr)) = true)) ∧ (((spE sd sg sr) == (spE sd sg sr)) = true)) ∧ (((if ((th2 (spE sd sg sr) (devE x)) = (0 : Int)) then (sp sd sg sr x) else (0 : Int)) == (0 : Int)) = true)) ∧ (((if ((th2 (spE sd sg sr) (devE x)) = (0 : Int)) then (sp sd sg sr x) else (0 : Int)) == (0 : Int)) = true)) ∧ (((if ((th2 (spE sd sg sr) (devE x)) = (0 : Int)) then (sp sd sg sr x) else (0 : Int)) == (0 : Int)) = true)) ∧ (((if ((th2 (spE sd sg sr) (devE x)) = (0 : Int)) then (sp sd sg sr x) else (0 : Int)) == (0 : Int)) = true)) ∧ (((th2 (spE sd sg sr) (devE x)) == (rcdVal sd sg sr (1 : Nat) (fun (i : Nat) => (fun (j : Nat) => (List.getD (x :: []) ((i * 1) + j) (0 : Int)))))) = true)) ∧ (((th2 (spE sd sg sr) (devE x)) == (rcdVal sd sg sr (1 : Nat) (fun (i : Nat) => (fun (j : Nat) => (List.getD (x :: []) ((i * 1) + j) (0 : Int)))))) = true)) ∧ (((th2 (spE sd sg sr) (devE x)) == (rcdVal sd sg sr (1 : Nat) (fun (i : Nat) => (fun (j : Nat) => (List.getD (x :: []) ((i * 1) + j) (0 : Int)))))) = true)) ∧ (((((0 : Nat)) : Int) != (((0 : Nat)) : Int)) = false)) ∧ ((decide ((0 : Int) < (((0 : Nat)) : Int))) = false)) ∧ (((th2 (spE sd sg sr) (devE x)) == (rcdVal sd sg sr (1 : Nat) (fun (i : Nat) => (fun (j : Nat) => (List.getD (x :: []) ((i * 1) + j) (0 : Int)))))) = true)) ∧ (true = true)) ∧ (true = true)) ∧ (true = true)) ∧ (true = true)) ∧ (((spE sd sg sr) == (rcdVal sd sg sr n (fun (i : Nat) => (fun (j : Nat) => (gI (Value.int .i64 (g i j))))))) = true)) ∧ (((spE sd sg sr) == (rcdVal sd sg sr n (fun (i : Nat) => (fun (j : Nat) => (gI (Value.int .i64 (g i j))))))) = true))) := by kernel_rfl
theorem ls_6_g : goodY (ls_6 sd sg sr x n c g) = true := by kernel_rfl
theorem ls_7_o : obY (ls_7 sd sg sr x n c g) = (((((((((((((((((((((((((((((((((((((((((((((((((True ∧ ((decide ((((n : Nat)) : Int) > (20 : Int))) = true)) ∧ ((decide ((((n : Nat)) : Int) > (20 : Int))) = true)) ∧ ((decide ((((n : Nat)) : Int) > (20 : Int))) = true)) ∧ ((decide ((((n : Nat)) : Int) > (20 : Int))) = true)) ∧ (((((n : Nat)) : Int) != (257 : Int)) = false)) ∧ True) ∧ ((n = n) ∧ ((n ≠ (0 : Nat)) ∧ ((n * 8) ≤ (140737488355328 : Nat))))) ∧ True) ∧ ((decide ((((n : Nat)) : Int) > (256 : Int))) = true)) ∧ ((decide ((0 : Int) < (((2 : Nat)) : Int))) = true)) ∧ ((0 : Int) = (Int.ofNat 0))) ∧ (((spE sd sg sr) != (0 : Int)) = false)) ∧ ((decide ((IntKind.i64.wrap ((0 : Int) + (1 : Int))) < (((2 : Nat)) : Int))) = true)) ∧ ((IntKind.i64.wrap ((0 : Int) + (1 : Int))) = (Int.ofNat 1))) ∧ (((5 : Int) != (0 : Int)) = true)) ∧ (((5 : Int) != (0 : Int)) = true)) ∧ ((1 = 1) ∧ ((((1 : Nat)) : Int) ≤ (9223372036854775807 : Int)))) ∧ (((n = n) ∧ (∀ (i : Nat), ((i < n) → (∀ (j : Nat), ((j < (1 : Nat)) → ((Value.int .i64 (g i j)) = (Value.int .i64 (gI (Value.int .i64 (g i j)))))))))) ∧ ((((n : Nat)) : Int) ≤ (9223372036854775807 : Int)))) ∧ (((rcdVal sd sg sr (1 : Nat) (fun (i : Nat) => (fun (j : Nat) => (List.getD (x :: []) ((i * 1) + j) (0 : Int))))) == (0 : Int)) = true)) ∧ ((spIn sd sg sr) ∧ (devIn x))) ∧ (((rcdVal sd sg sr n (fun (i : Nat) => (fun (j : Nat) => (gI (Value.int .i64 (g i j)))))) == (0 : Int)) = false)) ∧ (((rcdVal sd sg sr n (fun (i : Nat) => (fun (j : Nat) => (gI (Value.int .i64 (g i j)))))) == (0 : Int)) = false)) ∧ (((rcdVal sd sg sr n (fun (i : Nat) => (fun (j : Nat) => (gI (Value.int .i64 (g i j)))))) == (0 : Int)) = false)) ∧ (((rcdVal sd sg sr n (fun (i : Nat) => (fun (j : Nat) => (gI (Value.int .i64 (g i j)))))) == (0 : Int)) = false)) ∧ (((rcdVal sd sg sr n (fun (i : Nat) => (fun (j : Nat) => (gI (Value.int .i64 (g i j)))))) == (0 : Int)) = false)) ∧ (false = false)) ∧ True) ∧ True) ∧ (((spE sd sg sr) == (spE sd sg sr)) = true)) ∧ (((spE sd sg sr) == (spE sd sg sr)) = true)) ∧ (((spE sd sg sr) == (spE sd sg sr)) = true)) ∧ (((spE sd sg sr) == (spE sd sg sr)) = true)) ∧ (((if ((th2 (spE sd sg sr) (devE x)) = (0 : Int)) then (sp sd sg sr x) else (0 : Int)) == (sp sd sg sr x)) = true)) ∧ (((if ((th2 (spE sd sg sr) (devE x)) = (0 : Int)) then (sp sd sg sr x) else (0 : Int)) == (sp sd sg sr x)) = true)) ∧ (((if ((th2 (spE sd sg sr) (devE x)) = (0 : Int)) then (sp sd sg sr x) else (0 : Int)) == (sp sd sg sr x)) = true)) ∧ (((if ((th2 (spE sd sg sr) (devE x)) = (0 : Int)) then (sp sd sg sr x) else (0 : Int)) == (sp sd sg sr x)) = true)) ∧ (((th2 (spE sd sg sr) (devE x)) == (rcdVal sd sg sr (1 : Nat) (fun (i : Nat) => (fun (j : Nat) => (List.getD (x :: []) ((i * 1) + j) (0 : Int)))))) = true)) ∧ (((th2 (spE sd sg sr) (devE x)) == (rcdVal sd sg sr (1 : Nat) (fun (i : Nat) => (fun (j : Nat) => (List.getD (x :: []) ((i * 1) + j) (0 : Int)))))) = true)) ∧ (((th2 (spE sd sg sr) (devE x)) == (rcdVal sd sg sr (1 : Nat) (fun (i : Nat) => (fun (j : Nat) => (List.getD (x :: []) ((i * 1) + j) (0 : Int)))))) = true)) ∧ (((((0 : Nat)) : Int) != (((0 : Nat)) : Int)) = false)) ∧ ((decide ((0 : Int) < (((0 : Nat)) : Int))) = false)) ∧ (((th2 (spE sd sg sr) (devE x)) == (rcdVal sd sg sr (1 : Nat) (fun (i : Nat) => (fun (j : Nat) => (List.getD (x :: []) ((i * 1) + j) (0 : Int)))))) = true)) ∧ (true = true)) ∧ (true = true)) ∧ (true = true)) ∧ (true = true)) ∧ (((5 : Int) == (rcdVal sd sg sr n (fun (i : Nat) => (fun (j : Nat) => (gI (Value.int .i64 (g i j))))))) = true)) ∧ (((5 : Int) == (rcdVal sd sg sr n (fun (i : Nat) => (fun (j : Nat) => (gI (Value.int .i64 (g i j))))))) = true))) := by kernel_rfl
theorem ls_7_g : goodY (ls_7 sd sg sr x n c g) = true := by kernel_rfl
theorem ls_8_o : obY (ls_8 sd sg sr x n c g) = ((((((((((((((((((((((((((((((((((((((((((((((((True ∧ ((decide ((((n : Nat)) : Int) > (20 : Int))) = true)) ∧ ((decide ((((n : Nat)) : Int) > (20 : Int))) = true)) ∧ ((decide ((((n : Nat)) : Int) > (20 : Int))) = true)) ∧ ((decide ((((n : Nat)) : Int) > (20 : Int))) = true)) ∧ (((((n : Nat)) : Int) != (257 : Int)) = false)) ∧ True) ∧ ((n = n) ∧ ((n ≠ (0 : Nat)) ∧ ((n * 8) ≤ (140737488355328 : Nat))))) ∧ True) ∧ ((decide ((((n : Nat)) : Int) > (256 : Int))) = true)) ∧ ((decide ((0 : Int) < (((2 : Nat)) : Int))) = true)) ∧ ((0 : Int) = (Int.ofNat 0))) ∧ (((spE sd sg sr) != (0 : Int)) = false)) ∧ ((decide ((IntKind.i64.wrap ((0 : Int) + (1 : Int))) < (((2 : Nat)) : Int))) = true)) ∧ ((IntKind.i64.wrap ((0 : Int) + (1 : Int))) = (Int.ofNat 1))) ∧ (((5 : Int) != (0 : Int)) = true)) ∧ (((5 : Int) != (0 : Int)) = true)) ∧ ((1 = 1) ∧ ((((1 : Nat)) : Int) ≤ (9223372036854775807 : Int)))) ∧ (((n = n) ∧ (∀ (i : Nat), ((i < n) → (∀ (j : Nat), ((j < (1 : Nat)) → ((Value.int .i64 (g i j)) = (Value.int .i64 (gI (Value.int .i64 (g i j)))))))))) ∧ ((((n : Nat)) : Int) ≤ (9223372036854775807 : Int)))) ∧ (((rcdVal sd sg sr (1 : Nat) (fun (i : Nat) => (fun (j : Nat) => (List.getD (x :: []) ((i * 1) + j) (0 : Int))))) == (0 : Int)) = false)) ∧ (((rcdVal sd sg sr n (fun (i : Nat) => (fun (j : Nat) => (gI (Value.int .i64 (g i j)))))) == (0 : Int)) = false)) ∧ (((rcdVal sd sg sr n (fun (i : Nat) => (fun (j : Nat) => (gI (Value.int .i64 (g i j)))))) == (0 : Int)) = false)) ∧ (((rcdVal sd sg sr n (fun (i : Nat) => (fun (j : Nat) => (gI (Value.int .i64 (g i j)))))) == (0 : Int)) = false)) ∧ (((rcdVal sd sg sr n (fun (i : Nat) => (fun (j : Nat) => (gI (Value.int .i64 (g i j)))))) == (0 : Int)) = false)) ∧ (((rcdVal sd sg sr n (fun (i : Nat) => (fun (j : Nat) => (gI (Value.int .i64 (g i j)))))) == (0 : Int)) = false)) ∧ (false = false)) ∧ True) ∧ True) ∧ (((spE sd sg sr) == (spE sd sg sr)) = true)) ∧ (((spE sd sg sr) == (spE sd sg sr)) = true)) ∧ (((spE sd sg sr) == (spE sd sg sr)) = true)) ∧ (((spE sd sg sr) == (spE sd sg sr)) = true)) ∧ (((if ((th2 (spE sd sg sr) (devE x)) = (0 : Int)) then (sp sd sg sr x) else (0 : Int)) == (0 : Int)) = true)) ∧ (((if ((th2 (spE sd sg sr) (devE x)) = (0 : Int)) then (sp sd sg sr x) else (0 : Int)) == (0 : Int)) = true)) ∧ (((if ((th2 (spE sd sg sr) (devE x)) = (0 : Int)) then (sp sd sg sr x) else (0 : Int)) == (0 : Int)) = true)) ∧ (((if ((th2 (spE sd sg sr) (devE x)) = (0 : Int)) then (sp sd sg sr x) else (0 : Int)) == (0 : Int)) = true)) ∧ (((th2 (spE sd sg sr) (devE x)) == (rcdVal sd sg sr (1 : Nat) (fun (i : Nat) => (fun (j : Nat) => (List.getD (x :: []) ((i * 1) + j) (0 : Int)))))) = true)) ∧ (((th2 (spE sd sg sr) (devE x)) == (rcdVal sd sg sr (1 : Nat) (fun (i : Nat) => (fun (j : Nat) => (List.getD (x :: []) ((i * 1) + j) (0 : Int)))))) = true)) ∧ (((th2 (spE sd sg sr) (devE x)) == (rcdVal sd sg sr (1 : Nat) (fun (i : Nat) => (fun (j : Nat) => (List.getD (x :: []) ((i * 1) + j) (0 : Int)))))) = true)) ∧ (((((0 : Nat)) : Int) != (((0 : Nat)) : Int)) = false)) ∧ ((decide ((0 : Int) < (((0 : Nat)) : Int))) = false)) ∧ (((th2 (spE sd sg sr) (devE x)) == (rcdVal sd sg sr (1 : Nat) (fun (i : Nat) => (fun (j : Nat) => (List.getD (x :: []) ((i * 1) + j) (0 : Int)))))) = true)) ∧ (true = true)) ∧ (true = true)) ∧ (true = true)) ∧ (true = true)) ∧ (((5 : Int) == (rcdVal sd sg sr n (fun (i : Nat) => (fun (j : Nat) => (gI (Value.int .i64 (g i j))))))) = true)) ∧ (((5 : Int) == (rcdVal sd sg sr n (fun (i : Nat) => (fun (j : Nat) => (gI (Value.int .i64 (g i j))))))) = true))) := by kernel_rfl
theorem ls_8_g : goodY (ls_8 sd sg sr x n c g) = true := by kernel_rfl
theorem ls_A_o : obY (ls_A sd sg sr x n c g) = ((((((True ∧ ((decide ((((n : Nat)) : Int) > (20 : Int))) = true)) ∧ ((decide ((((n : Nat)) : Int) > (20 : Int))) = true)) ∧ ((decide ((((n : Nat)) : Int) > (20 : Int))) = true)) ∧ ((decide ((((n : Nat)) : Int) > (20 : Int))) = true)) ∧ (((((n : Nat)) : Int) != (257 : Int)) = true))) := by kernel_rfl
theorem ls_A_g : goodY (ls_A sd sg sr x n c g) = true := by kernel_rfl
theorem ls_n1_o : obY (ls_n1 sd sg sr x) = ((((((((((((((((((((((((((((((((((((((((((((((((((((((True ∧ ((decide ((((0 : Nat)) : Int) > (20 : Int))) = false)) ∧ ((decide ((((0 : Nat)) : Int) > (20 : Int))) = false)) ∧ ((decide ((((0 : Nat)) : Int) > (20 : Int))) = false)) ∧ ((decide ((((0 : Nat)) : Int) > (20 : Int))) = false)) ∧ (false = false)) ∧ True) ∧ True) ∧ ((decide ((((0 : Nat)) : Int) > (256 : Int))) = false)) ∧ ((0 = 0) ∧ ((((0 : Nat)) : Int) ≤ (9223372036854775807 : Int)))) ∧ ((decide ((0 : Int) < (((2 : Nat)) : Int))) = true)) ∧ ((0 : Int) = (Int.ofNat 0))) ∧ (((spE sd sg sr) != (0 : Int)) = false)) ∧ ((decide ((IntKind.i64.wrap ((0 : Int) + (1 : Int))) < (((2 : Nat)) : Int))) = true)) ∧ ((IntKind.i64.wrap ((0 : Int) + (1 : Int))) = (Int.ofNat 1))) ∧ (((cedVal (0 : Nat) (fun (i : Nat) => (fun (j : Nat) => (List.getD [] ((i * 1) + j) (0 : Int))))) != (0 : Int)) = false)) ∧ ((decide ((IntKind.i64.wrap ((IntKind.i64.wrap ((0 : Int) + (1 : Int))) + (1 : Int))) < (((2 : Nat)) : Int))) = false)) ∧ (((0 : Int) != (0 : Int)) = false)) ∧ ((0 = 0) ∧ (((0 : Nat) ≤ (1048576 : Nat)) ∧ ((spIn sd sg sr) ∧ (∀ (i : Nat), ((i < (0 : Nat)) → (devIn (List.getD [] ((i * 1) + 0) (0 : Int))))))))) ∧ ((1 = 1) ∧ ((((1 : Nat)) : Int) ≤ (9223372036854775807 : Int)))) ∧ True) ∧ (((spE sd sg sr) != (0 : Int)) = false)) ∧ ((decide ((((0 : Nat)) : Int) > (256 : Int))) = false)) ∧ ((decide ((0 : Int) < (((0 : Nat)) : Int))) = false)) ∧ (((rcdVal sd sg sr (1 : Nat) (fun (i : Nat) => (fun (j : Nat) => (List.getD (x :: []) ((i * 1) + j) (0 : Int))))) == (0 : Int)) = true)) ∧ ((spIn sd sg sr) ∧ (devIn x))) ∧ (((0 : Int) == (0 : Int)) = true)) ∧ (((0 : Int) == (0 : Int)) = true)) ∧ (((0 : Int) == (0 : Int)) = true)) ∧ (((0 : Int) == (0 : Int)) = true)) ∧ (((0 : Int) == (0 : Int)) = true)) ∧ ((decide ((0 : Int) < (((0 : Nat)) : Int))) = false)) ∧ True) ∧ True) ∧ (((spE sd sg sr) == (spE sd sg sr)) = true)) ∧ (((spE sd sg sr) == (spE sd sg sr)) = true)) ∧ (((spE sd sg sr) == (spE sd sg sr)) = true)) ∧ (((spE sd sg sr) == (spE sd sg sr)) = true)) ∧ (((if ((th2 (spE sd sg sr) (devE x)) = (0 : Int)) then (sp sd sg sr x) else (0 : Int)) == (sp sd sg sr x)) = true)) ∧ (((if ((th2 (spE sd sg sr) (devE x)) = (0 : Int)) then (sp sd sg sr x) else (0 : Int)) == (sp sd sg sr x)) = true)) ∧ (((if ((th2 (spE sd sg sr) (devE x)) = (0 : Int)) then (sp sd sg sr x) else (0 : Int)) == (sp sd sg sr x)) = true)) ∧ (((if ((th2 (spE sd sg sr) (devE x)) = (0 : Int)) then (sp sd sg sr x) else (0 : Int)) == (sp sd sg sr x)) = true)) ∧ (((th2 (spE sd sg sr) (devE x)) == (rcdVal sd sg sr (1 : Nat) (fun (i : Nat) => (fun (j : Nat) => (List.getD (x :: []) ((i * 1) + j) (0 : Int)))))) = true)) ∧ (((th2 (spE sd sg sr) (devE x)) == (rcdVal sd sg sr (1 : Nat) (fun (i : Nat) => (fun (j : Nat) => (List.getD (x :: []) ((i * 1) + j) (0 : Int)))))) = true)) ∧ (((th2 (spE sd sg sr) (devE x)) == (rcdVal sd sg sr (1 : Nat) (fun (i : Nat) => (fun (j : Nat) => (List.getD (x :: []) ((i * 1) + j) (0 : Int)))))) = true)) ∧ (((((0 : Nat)) : Int) != (((0 : Nat)) : Int)) = false)) ∧ ((decide ((0 : Int) < (((0 : Nat)) : Int))) = false)) ∧ (((th2 (spE sd sg sr) (devE x)) == (rcdVal sd sg sr (1 : Nat) (fun (i : Nat) => (fun (j : Nat) => (List.getD (x :: []) ((i * 1) + j) (0 : Int)))))) = true)) ∧ (true = true)) ∧ (true = true)) ∧ (true = true)) ∧ (true = true)) ∧ (((0 : Int) == (0 : Int)) = true)) ∧ (((0 : Int) == (0 : Int)) = true))) := by kernel_rfl
theorem ls_n1_g : goodY (ls_n1 sd sg sr x) = true := by kernel_rfl
theorem ls_n2_o : obY (ls_n2 sd sg sr x) = (((((((((((((((((((((((((((((((((((((((((((((((((((((True ∧ ((decide ((((0 : Nat)) : Int) > (20 : Int))) = false)) ∧ ((decide ((((0 : Nat)) : Int) > (20 : Int))) = false)) ∧ ((decide ((((0 : Nat)) : Int) > (20 : Int))) = false)) ∧ ((decide ((((0 : Nat)) : Int) > (20 : Int))) = false)) ∧ (false = false)) ∧ True) ∧ True) ∧ ((decide ((((0 : Nat)) : Int) > (256 : Int))) = false)) ∧ ((0 = 0) ∧ ((((0 : Nat)) : Int) ≤ (9223372036854775807 : Int)))) ∧ ((decide ((0 : Int) < (((2 : Nat)) : Int))) = true)) ∧ ((0 : Int) = (Int.ofNat 0))) ∧ (((spE sd sg sr) != (0 : Int)) = false)) ∧ ((decide ((IntKind.i64.wrap ((0 : Int) + (1 : Int))) < (((2 : Nat)) : Int))) = true)) ∧ ((IntKind.i64.wrap ((0 : Int) + (1 : Int))) = (Int.ofNat 1))) ∧ (((cedVal (0 : Nat) (fun (i : Nat) => (fun (j : Nat) => (List.getD [] ((i * 1) + j) (0 : Int))))) != (0 : Int)) = false)) ∧ ((decide ((IntKind.i64.wrap ((IntKind.i64.wrap ((0 : Int) + (1 : Int))) + (1 : Int))) < (((2 : Nat)) : Int))) = false)) ∧ (((0 : Int) != (0 : Int)) = false)) ∧ ((0 = 0) ∧ (((0 : Nat) ≤ (1048576 : Nat)) ∧ ((spIn sd sg sr) ∧ (∀ (i : Nat), ((i < (0 : Nat)) → (devIn (List.getD [] ((i * 1) + 0) (0 : Int))))))))) ∧ ((1 = 1) ∧ ((((1 : Nat)) : Int) ≤ (9223372036854775807 : Int)))) ∧ True) ∧ (((spE sd sg sr) != (0 : Int)) = false)) ∧ ((decide ((((0 : Nat)) : Int) > (256 : Int))) = false)) ∧ ((decide ((0 : Int) < (((0 : Nat)) : Int))) = false)) ∧ (((rcdVal sd sg sr (1 : Nat) (fun (i : Nat) => (fun (j : Nat) => (List.getD (x :: []) ((i * 1) + j) (0 : Int))))) == (0 : Int)) = false)) ∧ (((0 : Int) == (0 : Int)) = true)) ∧ (((0 : Int) == (0 : Int)) = true)) ∧ (((0 : Int) == (0 : Int)) = true)) ∧ (((0 : Int) == (0 : Int)) = true)) ∧ (((0 : Int) == (0 : Int)) = true)) ∧ ((decide ((0 : Int) < (((0 : Nat)) : Int))) = false)) ∧ True) ∧ True) ∧ (((spE sd sg sr) == (spE sd sg sr)) = true)) ∧ (((spE sd sg sr) == (spE sd sg sr)) = true)) ∧ (((spE sd sg sr) == (spE sd sg sr)) = true)) ∧ (((spE sd sg sr) == (spE sd sg sr)) = true)) ∧ (((if ((th2 (spE sd sg sr) (devE x)) = (0 : Int)) then (sp sd sg sr x) else (0 : Int)) == (0 : Int)) = true)) ∧ (((if ((th2 (spE sd sg sr) (devE x)) = (0 : Int)) then (sp sd sg sr x) else (0 : Int)) == (0 : Int)) = true)) ∧ (((if ((th2 (spE sd sg sr) (devE x)) = (0 : Int)) then (sp sd sg sr x) else (0 : Int)) == (0 : Int)) = true)) ∧ (((if ((th2 (spE sd sg sr) (devE x)) = (0 : Int)) then (sp sd sg sr x) else (0 : Int)) == (0 : Int)) = true)) ∧ (((th2 (spE sd sg sr) (devE x)) == (rcdVal sd sg sr (1 : Nat) (fun (i : Nat) => (fun (j : Nat) => (List.getD (x :: []) ((i * 1) + j) (0 : Int)))))) = true)) ∧ (((th2 (spE sd sg sr) (devE x)) == (rcdVal sd sg sr (1 : Nat) (fun (i : Nat) => (fun (j : Nat) => (List.getD (x :: []) ((i * 1) + j) (0 : Int)))))) = true)) ∧ (((th2 (spE sd sg sr) (devE x)) == (rcdVal sd sg sr (1 : Nat) (fun (i : Nat) => (fun (j : Nat) => (List.getD (x :: []) ((i * 1) + j) (0 : Int)))))) = true)) ∧ (((((0 : Nat)) : Int) != (((0 : Nat)) : Int)) = false)) ∧ ((decide ((0 : Int) < (((0 : Nat)) : Int))) = false)) ∧ (((th2 (spE sd sg sr) (devE x)) == (rcdVal sd sg sr (1 : Nat) (fun (i : Nat) => (fun (j : Nat) => (List.getD (x :: []) ((i * 1) + j) (0 : Int)))))) = true)) ∧ (true = true)) ∧ (true = true)) ∧ (true = true)) ∧ (true = true)) ∧ (((0 : Int) == (0 : Int)) = true)) ∧ (((0 : Int) == (0 : Int)) = true))) := by kernel_rfl
theorem ls_n2_g : goodY (ls_n2 sd sg sr x) = true := by kernel_rfl
theorem ls_n3_o : obY (ls_n3 sd sg sr x) = ((((((((((((((((((((((((((((((((((((((((((((((True ∧ ((decide ((((0 : Nat)) : Int) > (20 : Int))) = false)) ∧ ((decide ((((0 : Nat)) : Int) > (20 : Int))) = false)) ∧ ((decide ((((0 : Nat)) : Int) > (20 : Int))) = false)) ∧ ((decide ((((0 : Nat)) : Int) > (20 : Int))) = false)) ∧ (false = false)) ∧ True) ∧ True) ∧ ((decide ((((0 : Nat)) : Int) > (256 : Int))) = false)) ∧ ((0 = 0) ∧ ((((0 : Nat)) : Int) ≤ (9223372036854775807 : Int)))) ∧ ((decide ((0 : Int) < (((2 : Nat)) : Int))) = true)) ∧ ((0 : Int) = (Int.ofNat 0))) ∧ (((spE sd sg sr) != (0 : Int)) = true)) ∧ (((spE sd sg sr) != (0 : Int)) = true)) ∧ ((1 = 1) ∧ ((((1 : Nat)) : Int) ≤ (9223372036854775807 : Int)))) ∧ True) ∧ (((spE sd sg sr) != (0 : Int)) = true)) ∧ (((rcdVal sd sg sr (1 : Nat) (fun (i : Nat) => (fun (j : Nat) => (List.getD (x :: []) ((i * 1) + j) (0 : Int))))) == (0 : Int)) = false)) ∧ (((spE sd sg sr) == (0 : Int)) = false)) ∧ (((spE sd sg sr) == (0 : Int)) = false)) ∧ (((spE sd sg sr) == (0 : Int)) = false)) ∧ (((spE sd sg sr) == (0 : Int)) = false)) ∧ (((spE sd sg sr) == (0 : Int)) = false)) ∧ (false = false)) ∧ True) ∧ True) ∧ (((spE sd sg sr) == (spE sd sg sr)) = true)) ∧ (((spE sd sg sr) == (spE sd sg sr)) = true)) ∧ (((spE sd sg sr) == (spE sd sg sr)) = true)) ∧ (((spE sd sg sr) == (spE sd sg sr)) = true)) ∧ (((if ((th2 (spE sd sg sr) (devE x)) = (0 : Int)) then (sp sd sg sr x) else (0 : Int)) == (0 : Int)) = true)) ∧ (((if ((th2 (spE sd sg sr) (devE x)) = (0 : Int)) then (sp sd sg sr x) else (0 : Int)) == (0 : Int)) = true)) ∧ (((if ((th2 (spE sd sg sr) (devE x)) = (0 : Int)) then (sp sd sg sr x) else (0 : Int)) == (0 : Int)) = true)) ∧ (((if ((th2 (spE sd sg sr) (devE x)) = (0 : Int)) then (sp sd sg sr x) else (0 : Int)) == (0 : Int)) = true)) ∧ (((th2 (spE sd sg sr) (devE x)) == (rcdVal sd sg sr (1 : Nat) (fun (i : Nat) => (fun (j : Nat) => (List.getD (x :: []) ((i * 1) + j) (0 : Int)))))) = true)) ∧ (((th2 (spE sd sg sr) (devE x)) == (rcdVal sd sg sr (1 : Nat) (fun (i : Nat) => (fun (j : Nat) => (List.getD (x :: []) ((i * 1) + j) (0 : Int)))))) = true)) ∧ (((th2 (spE sd sg sr) (devE x)) == (rcdVal sd sg sr (1 : Nat) (fun (i : Nat) => (fun (j : Nat) => (List.getD (x :: []) ((i * 1) + j) (0 : Int)))))) = true)) ∧ (((((0 : Nat)) : Int) != (((0 : Nat)) : Int)) = false)) ∧ ((decide ((0 : Int) < (((0 : Nat)) : Int))) = false)) ∧ (((th2 (spE sd sg sr) (devE x)) == (rcdVal sd sg sr (1 : Nat) (fun (i : Nat) => (fun (j : Nat) => (List.getD (x :: []) ((i * 1) + j) (0 : Int)))))) = true)) ∧ (true = true)) ∧ (true = true)) ∧ (true = true)) ∧ (true = true)) ∧ (((spE sd sg sr) == (spE sd sg sr)) = true)) ∧ (((spE sd sg sr) == (spE sd sg sr)) = true))) := by kernel_rfl
theorem ls_n3_g : goodY (ls_n3 sd sg sr x) = true := by kernel_rfl
theorem ls_e1_o : obY (ls_e1 sd sg sr x c) = ((((((((((((((((((((((((((((((((((((((((((((((((((((((True ∧ ((decide ((((0 : Nat)) : Int) > (20 : Int))) = false)) ∧ ((decide ((((0 : Nat)) : Int) > (20 : Int))) = false)) ∧ ((decide ((((0 : Nat)) : Int) > (20 : Int))) = false)) ∧ ((decide ((((0 : Nat)) : Int) > (20 : Int))) = false)) ∧ (false = false)) ∧ True) ∧ True) ∧ ((decide ((((0 : Nat)) : Int) > (256 : Int))) = false)) ∧ ((0 = 0) ∧ ((((0 : Nat)) : Int) ≤ (9223372036854775807 : Int)))) ∧ ((decide ((0 : Int) < (((2 : Nat)) : Int))) = true)) ∧ ((0 : Int) = (Int.ofNat 0))) ∧ (((spE sd sg sr) != (0 : Int)) = false)) ∧ ((decide ((IntKind.i64.wrap ((0 : Int) + (1 : Int))) < (((2 : Nat)) : Int))) = true)) ∧ ((IntKind.i64.wrap ((0 : Int) + (1 : Int))) = (Int.ofNat 1))) ∧ (((cedVal (0 : Nat) (fun (i : Nat) => (fun (j : Nat) => (List.getD [] ((i * 1) + j) (0 : Int))))) != (0 : Int)) = false)) ∧ ((decide ((IntKind.i64.wrap ((IntKind.i64.wrap ((0 : Int) + (1 : Int))) + (1 : Int))) < (((2 : Nat)) : Int))) = false)) ∧ (((0 : Int) != (0 : Int)) = false)) ∧ ((0 = 0) ∧ (((0 : Nat) ≤ (1048576 : Nat)) ∧ ((spIn sd sg sr) ∧ (∀ (i : Nat), ((i < (0 : Nat)) → (devIn (List.getD [] ((i * 1) + 0) (0 : Int))))))))) ∧ ((1 = 1) ∧ ((((1 : Nat)) : Int) ≤ (9223372036854775807 : Int)))) ∧ True) ∧ (((spE sd sg sr) != (0 : Int)) = false)) ∧ ((decide ((((0 : Nat)) : Int) > (256 : Int))) = false)) ∧ ((decide ((0 : Int) < (((0 : Nat)) : Int))) = false)) ∧ (((rcdVal sd sg sr (1 : Nat) (fun (i : Nat) => (fun (j : Nat) => (List.getD (x :: []) ((i * 1) + j) (0 : Int))))) == (0 : Int)) = true)) ∧ ((spIn sd sg sr) ∧ (devIn x))) ∧ (((0 : Int) == (0 : Int)) = true)) ∧ (((0 : Int) == (0 : Int)) = true)) ∧ (((0 : Int) == (0 : Int)) = true)) ∧ (((0 : Int) == (0 : Int)) = true)) ∧ (((0 : Int) == (0 : Int)) = true)) ∧ ((decide ((0 : Int) < (((0 : Nat)) : Int))) = false)) ∧ True) ∧ True) ∧ (((spE sd sg sr) == (spE sd sg sr)) = true)) ∧ (((spE sd sg sr) == (spE sd sg sr)) = true)) ∧ (((spE sd sg sr) == (spE sd sg sr)) = true)) ∧ (((spE sd sg sr) == (spE sd sg sr)) = true)) ∧ (((if ((th2 (spE sd sg sr) (devE x)) = (0 : Int)) then (sp sd sg sr x) else (0 : Int)) == (sp sd sg sr x)) = true)) ∧ (((if ((th2 (spE sd sg sr) (devE x)) = (0 : Int)) then (sp sd sg sr x) else (0 : Int)) == (sp sd sg sr x)) = true)) ∧ (((if ((th2 (spE sd sg sr) (devE x)) = (0 : Int)) then (sp sd sg sr x) else (0 : Int)) == (sp sd sg sr x)) = true)) ∧ (((if ((th2 (spE sd sg sr) (devE x)) = (0 : Int)) then (sp sd sg sr x) else (0 : Int)) == (sp sd sg sr x)) = true)) ∧ (((th2 (spE sd sg sr) (devE x)) == (rcdVal sd sg sr (1 : Nat) (fun (i : Nat) => (fun (j : Nat) => (List.getD (x :: []) ((i * 1) + j) (0 : Int)))))) = true)) ∧ (((th2 (spE sd sg sr) (devE x)) == (rcdVal sd sg sr (1 : Nat) (fun (i : Nat) => (fun (j : Nat) => (List.getD (x :: []) ((i * 1) + j) (0 : Int)))))) = true)) ∧ (((th2 (spE sd sg sr) (devE x)) == (rcdVal sd sg sr (1 : Nat) (fun (i : Nat) => (fun (j : Nat) => (List.getD (x :: []) ((i * 1) + j) (0 : Int)))))) = true)) ∧ (((((0 : Nat)) : Int) != (((0 : Nat)) : Int)) = false)) ∧ ((decide ((0 : Int) < (((0 : Nat)) : Int))) = false)) ∧ (((th2 (spE sd sg sr) (devE x)) == (rcdVal sd sg sr (1 : Nat) (fun (i : Nat) => (fun (j : Nat) => (List.getD (x :: []) ((i * 1) + j) (0 : Int)))))) = true)) ∧ (true = true)) ∧ (true = true)) ∧ (true = true)) ∧ (true = true)) ∧ (((0 : Int) == (0 : Int)) = true)) ∧ (((0 : Int) == (0 : Int)) = true))) := by kernel_rfl
theorem ls_e1_g : goodY (ls_e1 sd sg sr x c) = true := by kernel_rfl
theorem ls_e2_o : obY (ls_e2 sd sg sr x c) = (((((((((((((((((((((((((((((((((((((((((((((((((((((True ∧ ((decide ((((0 : Nat)) : Int) > (20 : Int))) = false)) ∧ ((decide ((((0 : Nat)) : Int) > (20 : Int))) = false)) ∧ ((decide ((((0 : Nat)) : Int) > (20 : Int))) = false)) ∧ ((decide ((((0 : Nat)) : Int) > (20 : Int))) = false)) ∧ (false = false)) ∧ True) ∧ True) ∧ ((decide ((((0 : Nat)) : Int) > (256 : Int))) = false)) ∧ ((0 = 0) ∧ ((((0 : Nat)) : Int) ≤ (9223372036854775807 : Int)))) ∧ ((decide ((0 : Int) < (((2 : Nat)) : Int))) = true)) ∧ ((0 : Int) = (Int.ofNat 0))) ∧ (((spE sd sg sr) != (0 : Int)) = false)) ∧ ((decide ((IntKind.i64.wrap ((0 : Int) + (1 : Int))) < (((2 : Nat)) : Int))) = true)) ∧ ((IntKind.i64.wrap ((0 : Int) + (1 : Int))) = (Int.ofNat 1))) ∧ (((cedVal (0 : Nat) (fun (i : Nat) => (fun (j : Nat) => (List.getD [] ((i * 1) + j) (0 : Int))))) != (0 : Int)) = false)) ∧ ((decide ((IntKind.i64.wrap ((IntKind.i64.wrap ((0 : Int) + (1 : Int))) + (1 : Int))) < (((2 : Nat)) : Int))) = false)) ∧ (((0 : Int) != (0 : Int)) = false)) ∧ ((0 = 0) ∧ (((0 : Nat) ≤ (1048576 : Nat)) ∧ ((spIn sd sg sr) ∧ (∀ (i : Nat), ((i < (0 : Nat)) → (devIn (List.getD [] ((i * 1) + 0) (0 : Int))))))))) ∧ ((1 = 1) ∧ ((((1 : Nat)) : Int) ≤ (9223372036854775807 : Int)))) ∧ True) ∧ (((spE sd sg sr) != (0 : Int)) = false)) ∧ ((decide ((((0 : Nat)) : Int) > (256 : Int))) = false)) ∧ ((decide ((0 : Int) < (((0 : Nat)) : Int))) = false)) ∧ (((rcdVal sd sg sr (1 : Nat) (fun (i : Nat) => (fun (j : Nat) => (List.getD (x :: []) ((i * 1) + j) (0 : Int))))) == (0 : Int)) = false)) ∧ (((0 : Int) == (0 : Int)) = true)) ∧ (((0 : Int) == (0 : Int)) = true)) ∧ (((0 : Int) == (0 : Int)) = true)) ∧ (((0 : Int) == (0 : Int)) = true)) ∧ (((0 : Int) == (0 : Int)) = true)) ∧ ((decide ((0 : Int) < (((0 : Nat)) : Int))) = false)) ∧ True) ∧ True) ∧ (((spE sd sg sr) == (spE sd sg sr)) = true)) ∧ (((spE sd sg sr) == (spE sd sg sr)) = true)) ∧ (((spE sd sg sr) == (spE sd sg sr)) = true)) ∧ (((spE sd sg sr) == (spE sd sg sr)) = true)) ∧ (((if ((th2 (spE sd sg sr) (devE x)) = (0 : Int)) then (sp sd sg sr x) else (0 : Int)) == (0 : Int)) = true)) ∧ (((if ((th2 (spE sd sg sr) (devE x)) = (0 : Int)) then (sp sd sg sr x) else (0 : Int)) == (0 : Int)) = true)) ∧ (((if ((th2 (spE sd sg sr) (devE x)) = (0 : Int)) then (sp sd sg sr x) else (0 : Int)) == (0 : Int)) = true)) ∧ (((if ((th2 (spE sd sg sr) (devE x)) = (0 : Int)) then (sp sd sg sr x) else (0 : Int)) == (0 : Int)) = true)) ∧ (((th2 (spE sd sg sr) (devE x)) == (rcdVal sd sg sr (1 : Nat) (fun (i : Nat) => (fun (j : Nat) => (List.getD (x :: []) ((i * 1) + j) (0 : Int)))))) = true)) ∧ (((th2 (spE sd sg sr) (devE x)) == (rcdVal sd sg sr (1 : Nat) (fun (i : Nat) => (fun (j : Nat) => (List.getD (x :: []) ((i * 1) + j) (0 : Int)))))) = true)) ∧ (((th2 (spE sd sg sr) (devE x)) == (rcdVal sd sg sr (1 : Nat) (fun (i : Nat) => (fun (j : Nat) => (List.getD (x :: []) ((i * 1) + j) (0 : Int)))))) = true)) ∧ (((((0 : Nat)) : Int) != (((0 : Nat)) : Int)) = false)) ∧ ((decide ((0 : Int) < (((0 : Nat)) : Int))) = false)) ∧ (((th2 (spE sd sg sr) (devE x)) == (rcdVal sd sg sr (1 : Nat) (fun (i : Nat) => (fun (j : Nat) => (List.getD (x :: []) ((i * 1) + j) (0 : Int)))))) = true)) ∧ (true = true)) ∧ (true = true)) ∧ (true = true)) ∧ (true = true)) ∧ (((0 : Int) == (0 : Int)) = true)) ∧ (((0 : Int) == (0 : Int)) = true))) := by kernel_rfl
theorem ls_e2_g : goodY (ls_e2 sd sg sr x c) = true := by kernel_rfl
theorem ls_e3_o : obY (ls_e3 sd sg sr x c) = ((((((((((((((((((((((((((((((((((((((((((((((True ∧ ((decide ((((0 : Nat)) : Int) > (20 : Int))) = false)) ∧ ((decide ((((0 : Nat)) : Int) > (20 : Int))) = false)) ∧ ((decide ((((0 : Nat)) : Int) > (20 : Int))) = false)) ∧ ((decide ((((0 : Nat)) : Int) > (20 : Int))) = false)) ∧ (false = false)) ∧ True) ∧ True) ∧ ((decide ((((0 : Nat)) : Int) > (256 : Int))) = false)) ∧ ((0 = 0) ∧ ((((0 : Nat)) : Int) ≤ (9223372036854775807 : Int)))) ∧ ((decide ((0 : Int) < (((2 : Nat)) : Int))) = true)) ∧ ((0 : Int) = (Int.ofNat 0))) ∧ (((spE sd sg sr) != (0 : Int)) = true)) ∧ (((spE sd sg sr) != (0 : Int)) = true)) ∧ ((1 = 1) ∧ ((((1 : Nat)) : Int) ≤ (9223372036854775807 : Int)))) ∧ True) ∧ (((spE sd sg sr) != (0 : Int)) = true)) ∧ (((rcdVal sd sg sr (1 : Nat) (fun (i : Nat) => (fun (j : Nat) => (List.getD (x :: []) ((i * 1) + j) (0 : Int))))) == (0 : Int)) = false)) ∧ (((spE sd sg sr) == (0 : Int)) = false)) ∧ (((spE sd sg sr) == (0 : Int)) = false)) ∧ (((spE sd sg sr) == (0 : Int)) = false)) ∧ (((spE sd sg sr) == (0 : Int)) = false)) ∧ (((spE sd sg sr) == (0 : Int)) = false)) ∧ (false = false)) ∧ True) ∧ True) ∧ (((spE sd sg sr) == (spE sd sg sr)) = true)) ∧ (((spE sd sg sr) == (spE sd sg sr)) = true)) ∧ (((spE sd sg sr) == (spE sd sg sr)) = true)) ∧ (((spE sd sg sr) == (spE sd sg sr)) = true)) ∧ (((if ((th2 (spE sd sg sr) (devE x)) = (0 : Int)) then (sp sd sg sr x) else (0 : Int)) == (0 : Int)) = true)) ∧ (((if ((th2 (spE sd sg sr) (devE x)) = (0 : Int)) then (sp sd sg sr x) else (0 : Int)) == (0 : Int)) = true)) ∧ (((if ((th2 (spE sd sg sr) (devE x)) = (0 : Int)) then (sp sd sg sr x) else (0 : Int)) == (0 : Int)) = true)) ∧ (((if ((th2 (spE sd sg sr) (devE x)) = (0 : Int)) then (sp sd sg sr x) else (0 : Int)) == (0 : Int)) = true)) ∧ (((th2 (spE sd sg sr) (devE x)) == (rcdVal sd sg sr (1 : Nat) (fun (i : Nat) => (fun (j : Nat) => (List.getD (x :: []) ((i * 1) + j) (0 : Int)))))) = true)) ∧ (((th2 (spE sd sg sr) (devE x)) == (rcdVal sd sg sr (1 : Nat) (fun (i : Nat) => (fun (j : Nat) => (List.getD (x :: []) ((i * 1) + j) (0 : Int)))))) = true)) ∧ (((th2 (spE sd sg sr) (devE x)) == (rcdVal sd sg sr (1 : Nat) (fun (i : Nat) => (fun (j : Nat) => (List.getD (x :: []) ((i * 1) + j) (0 : Int)))))) = true)) ∧ (((((0 : Nat)) : Int) != (((0 : Nat)) : Int)) = false)) ∧ ((decide ((0 : Int) < (((0 : Nat)) : Int))) = false)) ∧ (((th2 (spE sd sg sr) (devE x)) == (rcdVal sd sg sr (1 : Nat) (fun (i : Nat) => (fun (j : Nat) => (List.getD (x :: []) ((i * 1) + j) (0 : Int)))))) = true)) ∧ (true = true)) ∧ (true = true)) ∧ (true = true)) ∧ (true = true)) ∧ (((spE sd sg sr) == (spE sd sg sr)) = true)) ∧ (((spE sd sg sr) == (spE sd sg sr)) = true))) := by kernel_rfl
theorem ls_e3_g : goodY (ls_e3 sd sg sr x c) = true := by kernel_rfl
end
end Go.Proofs.YthhgmnocigekaaaGreatDoor
end
section
set_option linter.all false
set_option maxRecDepth 1000000
open Go.RowKit
namespace Go.Proofs.YthhgmnocigekaaaGreatDoor
open Mini
theorem rcd1 {sd sg sr : Int} (G : Nat → Nat → Int) : rcdVal sd sg sr 1 G = th2 (spE sd sg sr) (devE (G 0 0)) := by
  unfold rcdVal th2
  by_cases h : spE sd sg sr = 0
  · rw [if_neg (by simpa using h), if_neg (by decide), if_pos h]
    simp only [feN]
    split
    · rename_i h; exact h.symm
    · rfl
  · rw [if_pos h, if_neg h]
theorem rcdx {sd sg sr : Int} (x : Int) : rcdVal sd sg sr 1 (fun i j => [x].getD (i * 1 + j) 0) = th2 (spE sd sg sr) (devE x) := rcd1 _
theorem fillI {z : List Value} {w : Nat → List Value} {n : Nat} {v : Nat → Int} (hw : ∀ i, w i = [.int .i64 (v i)]) : ∀ i, i < n → ∀ j, j < 1 → fillG z w n i j = .int .i64 (gI (fillG z w n i j)) := fun i hi j hj => by
  have h0 : j = 0 := by omega
  subst h0
  unfold fillG
  rw [if_pos hi, hw i]
  rfl
theorem rcd0 {sd sg sr : Int} (G : Nat → Nat → Int) : rcdVal sd sg sr 0 G = spE sd sg sr := by
  unfold rcdVal
  by_cases h : spE sd sg sr = 0
  · rw [if_neg (by simpa using h), if_neg (by decide), h]; rfl
  · rw [if_pos h]
theorem th2_0 {b : Int} {a : Int} (h : a = 0) : th2 a b = b := if_pos h
theorem th2_1 {b : Int} {a : Int} (h : a ≠ 0) : th2 a b = a := if_neg h
theorem rcd_ok {sd sg sr : Int} {n : Nat} {g : Nat → Nat → Int} (h : spE sd sg sr = 0) (hn : n ≤ 256) : rcdVal sd sg sr n g = cedVal n g := by
  unfold rcdVal cedVal
  rw [if_neg (by simpa using h), if_neg (by omega)]
theorem rcd_5 {sd sg sr : Int} {n : Nat} {g : Nat → Nat → Int} (h : spE sd sg sr = 0) (hn : 256 < n) : rcdVal sd sg sr n g = 5 := by
  unfold rcdVal
  rw [if_neg (by simpa using h), if_pos hn]
theorem rcd_e {sd sg sr : Int} {n : Nat} {g : Nat → Nat → Int} (h : spE sd sg sr ≠ 0) : rcdVal sd sg sr n g = spE sd sg sr := by
  unfold rcdVal
  rw [if_pos h]
theorem ced_in {n : Nat} {g : Nat → Nat → Int} (h : cedVal n g = 0) : ∀ i, i < n → devIn (g i 0) := fun i hi => devE_in (feN_zero h i hi)
set_option maxHeartbeats 4000000
theorem ls_true (sd sg sr x : Int) (n c : Nat) (g : Nat → Nat → Int) (h0 : 0 < n) : ∃ s1 R, SndF Tryz.prog 4 (lsArgs sd sg sr x n c) (lsS n g) (.bool true) s1 R 0 := by
  by_cases hA : 20 < n ∧ n ≠ 257
  · obtain ⟨hA1, hA2⟩ := hA
    exact sndY (r := ls_A sd sg sr x n c g) (by delta ls_A; exact Eq.refl _) smx lsK_ok (ls_A_g sd sg sr x n c g) ((ls_A_o sd sg sr x n c g).symm ▸ (by
      repeat' (first | (with_reducible assumption) | exact hs | exact hd | exact ⟨rfl, fun _ _ _ _ => rfl⟩ | apply And.intro)
      all_goals first | trivial | rfl | assumption | exact decide_eq_true (by omega) | exact decide_eq_false (by omega) | exact bne_iff_ne.2 (by assumption) | exact bne_eq_false_iff_eq.2 (by assumption) | exact beq_iff_eq.2 (by assumption) | exact beq_eq_false_iff_ne.2 (by assumption) | exact bne_iff_ne.2 (by omega) | exact bne_eq_false_iff_eq.2 (by omega) | exact (fun _ _ _ _ => rfl) | exact (fun i hi => absurd hi (Nat.not_lt_zero i)) | exact (fun _ _ _ _ => rfl) | exact beq_iff_eq.2 ((rcdx _).trans h1) | exact beq_eq_false_iff_ne.2 (fun e => h1 ((rcdx _).symm.trans e)) | exact beq_iff_eq.2 (rcdx _).symm | exact beq_iff_eq.2 hu | exact beq_iff_eq.2 (h2.symm) | exact h2 | exact decide_eq_true ⟨rfl, hsame⟩ | exact hloop | (exact beq_iff_eq.2 (by rw [rcd0]; assumption)) | (exact beq_eq_false_iff_ne.2 (by rw [rcd0]; assumption)) | exact fillI (fun _ => rfl) | omega))
  by_cases hE : spE sd sg sr = 0
  · have hs := spE_in hE
    have hlt : n ≤ 257 := by omega
    by_cases h257 : n = 257
    · have h2 : rcdVal sd sg sr n g = 5 := rcd_5 hE (by omega)
      have h2n : rcdVal sd sg sr n g ≠ 0 := by rw [h2]; decide
      by_cases hD : devE x = 0
      · have h1 : th2 (spE sd sg sr) (devE x) = 0 := (th2_0 hE).trans hD
        have hd := devE_in hD
        have hu : (if th2 (spE sd sg sr) (devE x) = 0 then sp sd sg sr x else 0) = sp sd sg sr x := if_pos h1
        exact sndY (r := ls_7 sd sg sr x n c g) (by delta ls_7; exact Eq.refl _) smx lsK_ok (ls_7_g sd sg sr x n c g) ((ls_7_o sd sg sr x n c g).symm ▸ (by
          repeat' (first | (with_reducible assumption) | exact hs | exact hd | exact ⟨rfl, fun _ _ _ _ => rfl⟩ | apply And.intro)
          all_goals first | trivial | rfl | assumption | exact decide_eq_true (by omega) | exact decide_eq_false (by omega) | exact bne_iff_ne.2 (by assumption) | exact bne_eq_false_iff_eq.2 (by assumption) | exact beq_iff_eq.2 (by assumption) | exact beq_eq_false_iff_ne.2 (by assumption) | exact bne_iff_ne.2 (by omega) | exact bne_eq_false_iff_eq.2 (by omega) | exact (fun _ _ _ _ => rfl) | exact (fun i hi => absurd hi (Nat.not_lt_zero i)) | exact (fun _ _ _ _ => rfl) | exact beq_iff_eq.2 ((rcdx _).trans h1) | exact beq_eq_false_iff_ne.2 (fun e => h1 ((rcdx _).symm.trans e)) | exact beq_iff_eq.2 (rcdx _).symm | exact beq_iff_eq.2 hu | exact beq_iff_eq.2 (h2.symm) | exact h2 | exact decide_eq_true ⟨rfl, hsame⟩ | exact hloop | (exact beq_iff_eq.2 (by rw [rcd0]; assumption)) | (exact beq_eq_false_iff_ne.2 (by rw [rcd0]; assumption)) | exact fillI (fun _ => rfl) | omega))
      · have h1 : th2 (spE sd sg sr) (devE x) ≠ 0 := by rw [th2_0 hE]; exact hD
        have hu : (if th2 (spE sd sg sr) (devE x) = 0 then sp sd sg sr x else 0) = 0 := if_neg h1
        exact sndY (r := ls_8 sd sg sr x n c g) (by delta ls_8; exact Eq.refl _) smx lsK_ok (ls_8_g sd sg sr x n c g) ((ls_8_o sd sg sr x n c g).symm ▸ (by
          repeat' (first | (with_reducible assumption) | exact hs | exact hd | exact ⟨rfl, fun _ _ _ _ => rfl⟩ | apply And.intro)
          all_goals first | trivial | rfl | assumption | exact decide_eq_true (by omega) | exact decide_eq_false (by omega) | exact bne_iff_ne.2 (by assumption) | exact bne_eq_false_iff_eq.2 (by assumption) | exact beq_iff_eq.2 (by assumption) | exact beq_eq_false_iff_ne.2 (by assumption) | exact bne_iff_ne.2 (by omega) | exact bne_eq_false_iff_eq.2 (by omega) | exact (fun _ _ _ _ => rfl) | exact (fun i hi => absurd hi (Nat.not_lt_zero i)) | exact (fun _ _ _ _ => rfl) | exact beq_iff_eq.2 ((rcdx _).trans h1) | exact beq_eq_false_iff_ne.2 (fun e => h1 ((rcdx _).symm.trans e)) | exact beq_iff_eq.2 (rcdx _).symm | exact beq_iff_eq.2 hu | exact beq_iff_eq.2 (h2.symm) | exact h2 | exact decide_eq_true ⟨rfl, hsame⟩ | exact hloop | (exact beq_iff_eq.2 (by rw [rcd0]; assumption)) | (exact beq_eq_false_iff_ne.2 (by rw [rcd0]; assumption)) | exact fillI (fun _ => rfl) | omega))
    · have hn : n ≤ 20 := by omega
      have h2e : rcdVal sd sg sr n g = cedVal n g := rcd_ok hE (by omega)
      by_cases hL : cedVal n g = 0
      · have h2 : rcdVal sd sg sr n g = 0 := h2e.trans hL
        have hd2 := ced_in hL
        obtain ⟨m, rfl⟩ : ∃ m, n = m + 1 := ⟨n - 1, by omega⟩
        by_cases hD : devE x = 0
        · have h1 : th2 (spE sd sg sr) (devE x) = 0 := (th2_0 hE).trans hD
          have hd := devE_in hD
          have hu : (if th2 (spE sd sg sr) (devE x) = 0 then sp sd sg sr x else 0) = sp sd sg sr x := if_pos h1
          have hloop := lsg_tab sd sg sr x (spE sd sg sr) (cedVal (m + 1) g) (lsU sd sg sr x) (th2 (spE sd sg sr) (devE x)) (rcdVal sd sg sr 1 (lsG1 x)) (rcdVal sd sg sr (m + 1) g) (sp sd sg sr x) m c g ⟨h2, hs, hd2⟩ (by omega)
          exact sndY (r := ls_1 sd sg sr x (m + 1) c m g) (by delta ls_1; exact Eq.refl _) smx lsK_ok (ls_1_g sd sg sr x (m + 1) c m g) ((ls_1_o sd sg sr x (m + 1) c m g).symm ▸ (by
            have hsame : sameI (fun i j => gI (fillG mpsZ (mpsW sd sg sr g) (m + 1) i j)) (fun i j => gI (fillG [] (lsgW sd sg sr x (spE sd sg sr) (cedVal (m + 1) g) (lsU sd sg sr x) (th2 (spE sd sg sr) (devE x)) (rcdVal sd sg sr 1 (lsG1 x)) (rcdVal sd sg sr (m + 1) g) (sp sd sg sr x) g) (m + 1) i j)) (m + 1) := fun i hi => by simp only [fillG, if_pos hi]; rfl
            repeat' (first | (with_reducible assumption) | exact hs | exact hd | exact ⟨rfl, fun _ _ _ _ => rfl⟩ | apply And.intro)
            all_goals first | trivial | rfl | assumption | exact decide_eq_true (by omega) | exact decide_eq_false (by omega) | exact bne_iff_ne.2 (by assumption) | exact bne_eq_false_iff_eq.2 (by assumption) | exact beq_iff_eq.2 (by assumption) | exact beq_eq_false_iff_ne.2 (by assumption) | exact bne_iff_ne.2 (by omega) | exact bne_eq_false_iff_eq.2 (by omega) | exact (fun _ _ _ _ => rfl) | exact (fun i hi => absurd hi (Nat.not_lt_zero i)) | exact (fun _ _ _ _ => rfl) | exact beq_iff_eq.2 ((rcdx _).trans h1) | exact beq_eq_false_iff_ne.2 (fun e => h1 ((rcdx _).symm.trans e)) | exact beq_iff_eq.2 (rcdx _).symm | exact beq_iff_eq.2 hu | exact beq_iff_eq.2 (h2.symm) | exact h2 | exact decide_eq_true ⟨rfl, hsame⟩ | exact hloop | (exact beq_iff_eq.2 (by rw [rcd0]; assumption)) | (exact beq_eq_false_iff_ne.2 (by rw [rcd0]; assumption)) | exact fillI (fun _ => rfl) | omega))
        · have h1 : th2 (spE sd sg sr) (devE x) ≠ 0 := by rw [th2_0 hE]; exact hD
          have hu : (if th2 (spE sd sg sr) (devE x) = 0 then sp sd sg sr x else 0) = 0 := if_neg h1
          have hloop := lsg_tab sd sg sr x (spE sd sg sr) (cedVal (m + 1) g) (lsU sd sg sr x) (th2 (spE sd sg sr) (devE x)) (rcdVal sd sg sr 1 (lsG1 x)) (rcdVal sd sg sr (m + 1) g) (0) m c g ⟨h2, hs, hd2⟩ (by omega)
          exact sndY (r := ls_3 sd sg sr x (m + 1) c m g) (by delta ls_3; exact Eq.refl _) smx lsK_ok (ls_3_g sd sg sr x (m + 1) c m g) ((ls_3_o sd sg sr x (m + 1) c m g).symm ▸ (by
            have hsame : sameI (fun i j => gI (fillG mpsZ (mpsW sd sg sr g) (m + 1) i j)) (fun i j => gI (fillG [] (lsgW sd sg sr x (spE sd sg sr) (cedVal (m + 1) g) (lsU sd sg sr x) (th2 (spE sd sg sr) (devE x)) (rcdVal sd sg sr 1 (lsG1 x)) (rcdVal sd sg sr (m + 1) g) (0) g) (m + 1) i j)) (m + 1) := fun i hi => by simp only [fillG, if_pos hi]; rfl
            repeat' (first | (with_reducible assumption) | exact hs | exact hd | exact ⟨rfl, fun _ _ _ _ => rfl⟩ | apply And.intro)
            all_goals first | trivial | rfl | assumption | exact decide_eq_true (by omega) | exact decide_eq_false (by omega) | exact bne_iff_ne.2 (by assumption) | exact bne_eq_false_iff_eq.2 (by assumption) | exact beq_iff_eq.2 (by assumption) | exact beq_eq_false_iff_ne.2 (by assumption) | exact bne_iff_ne.2 (by omega) | exact bne_eq_false_iff_eq.2 (by omega) | exact (fun _ _ _ _ => rfl) | exact (fun i hi => absurd hi (Nat.not_lt_zero i)) | exact (fun _ _ _ _ => rfl) | exact beq_iff_eq.2 ((rcdx _).trans h1) | exact beq_eq_false_iff_ne.2 (fun e => h1 ((rcdx _).symm.trans e)) | exact beq_iff_eq.2 (rcdx _).symm | exact beq_iff_eq.2 hu | exact beq_iff_eq.2 (h2.symm) | exact h2 | exact decide_eq_true ⟨rfl, hsame⟩ | exact hloop | (exact beq_iff_eq.2 (by rw [rcd0]; assumption)) | (exact beq_eq_false_iff_ne.2 (by rw [rcd0]; assumption)) | exact fillI (fun _ => rfl) | omega))
      · have h2 : rcdVal sd sg sr n g = cedVal n g := h2e
        have h2n : rcdVal sd sg sr n g ≠ 0 := by rw [h2e]; exact hL
        by_cases hD : devE x = 0
        · have h1 : th2 (spE sd sg sr) (devE x) = 0 := (th2_0 hE).trans hD
          have hd := devE_in hD
          have hu : (if th2 (spE sd sg sr) (devE x) = 0 then sp sd sg sr x else 0) = sp sd sg sr x := if_pos h1
          exact sndY (r := ls_2 sd sg sr x n c g) (by delta ls_2; exact Eq.refl _) smx lsK_ok (ls_2_g sd sg sr x n c g) ((ls_2_o sd sg sr x n c g).symm ▸ (by
            repeat' (first | (with_reducible assumption) | exact hs | exact hd | exact ⟨rfl, fun _ _ _ _ => rfl⟩ | apply And.intro)
            all_goals first | trivial | rfl | assumption | exact decide_eq_true (by omega) | exact decide_eq_false (by omega) | exact bne_iff_ne.2 (by assumption) | exact bne_eq_false_iff_eq.2 (by assumption) | exact beq_iff_eq.2 (by assumption) | exact beq_eq_false_iff_ne.2 (by assumption) | exact bne_iff_ne.2 (by omega) | exact bne_eq_false_iff_eq.2 (by omega) | exact (fun _ _ _ _ => rfl) | exact (fun i hi => absurd hi (Nat.not_lt_zero i)) | exact (fun _ _ _ _ => rfl) | exact beq_iff_eq.2 ((rcdx _).trans h1) | exact beq_eq_false_iff_ne.2 (fun e => h1 ((rcdx _).symm.trans e)) | exact beq_iff_eq.2 (rcdx _).symm | exact beq_iff_eq.2 hu | exact beq_iff_eq.2 (h2.symm) | exact h2 | exact decide_eq_true ⟨rfl, hsame⟩ | exact hloop | (exact beq_iff_eq.2 (by rw [rcd0]; assumption)) | (exact beq_eq_false_iff_ne.2 (by rw [rcd0]; assumption)) | exact fillI (fun _ => rfl) | omega))
        · have h1 : th2 (spE sd sg sr) (devE x) ≠ 0 := by rw [th2_0 hE]; exact hD
          have hu : (if th2 (spE sd sg sr) (devE x) = 0 then sp sd sg sr x else 0) = 0 := if_neg h1
          exact sndY (r := ls_4 sd sg sr x n c g) (by delta ls_4; exact Eq.refl _) smx lsK_ok (ls_4_g sd sg sr x n c g) ((ls_4_o sd sg sr x n c g).symm ▸ (by
            repeat' (first | (with_reducible assumption) | exact hs | exact hd | exact ⟨rfl, fun _ _ _ _ => rfl⟩ | apply And.intro)
            all_goals first | trivial | rfl | assumption | exact decide_eq_true (by omega) | exact decide_eq_false (by omega) | exact bne_iff_ne.2 (by assumption) | exact bne_eq_false_iff_eq.2 (by assumption) | exact beq_iff_eq.2 (by assumption) | exact beq_eq_false_iff_ne.2 (by assumption) | exact bne_iff_ne.2 (by omega) | exact bne_eq_false_iff_eq.2 (by omega) | exact (fun _ _ _ _ => rfl) | exact (fun i hi => absurd hi (Nat.not_lt_zero i)) | exact (fun _ _ _ _ => rfl) | exact beq_iff_eq.2 ((rcdx _).trans h1) | exact beq_eq_false_iff_ne.2 (fun e => h1 ((rcdx _).symm.trans e)) | exact beq_iff_eq.2 (rcdx _).symm | exact beq_iff_eq.2 hu | exact beq_iff_eq.2 (h2.symm) | exact h2 | exact decide_eq_true ⟨rfl, hsame⟩ | exact hloop | (exact beq_iff_eq.2 (by rw [rcd0]; assumption)) | (exact beq_eq_false_iff_ne.2 (by rw [rcd0]; assumption)) | exact fillI (fun _ => rfl) | omega))
  · have h2 : rcdVal sd sg sr n g = spE sd sg sr := rcd_e hE
    have h2n : rcdVal sd sg sr n g ≠ 0 := by rw [h2]; exact hE
    have h1 : th2 (spE sd sg sr) (devE x) ≠ 0 := by rw [th2_1 hE]; exact hE
    have hu : (if th2 (spE sd sg sr) (devE x) = 0 then sp sd sg sr x else 0) = 0 := if_neg h1
    by_cases h257 : n = 257
    · exact sndY (r := ls_6 sd sg sr x n c g) (by delta ls_6; exact Eq.refl _) smx lsK_ok (ls_6_g sd sg sr x n c g) ((ls_6_o sd sg sr x n c g).symm ▸ (by
        repeat' (first | (with_reducible assumption) | exact hs | exact hd | exact ⟨rfl, fun _ _ _ _ => rfl⟩ | apply And.intro)
        all_goals first | trivial | rfl | assumption | exact decide_eq_true (by omega) | exact decide_eq_false (by omega) | exact bne_iff_ne.2 (by assumption) | exact bne_eq_false_iff_eq.2 (by assumption) | exact beq_iff_eq.2 (by assumption) | exact beq_eq_false_iff_ne.2 (by assumption) | exact bne_iff_ne.2 (by omega) | exact bne_eq_false_iff_eq.2 (by omega) | exact (fun _ _ _ _ => rfl) | exact (fun i hi => absurd hi (Nat.not_lt_zero i)) | exact (fun _ _ _ _ => rfl) | exact beq_iff_eq.2 ((rcdx _).trans h1) | exact beq_eq_false_iff_ne.2 (fun e => h1 ((rcdx _).symm.trans e)) | exact beq_iff_eq.2 (rcdx _).symm | exact beq_iff_eq.2 hu | exact beq_iff_eq.2 (h2.symm) | exact h2 | exact decide_eq_true ⟨rfl, hsame⟩ | exact hloop | (exact beq_iff_eq.2 (by rw [rcd0]; assumption)) | (exact beq_eq_false_iff_ne.2 (by rw [rcd0]; assumption)) | exact fillI (fun _ => rfl) | omega))
    · have hn : n ≤ 20 := by omega
      exact sndY (r := ls_5 sd sg sr x n c g) (by delta ls_5; exact Eq.refl _) smx lsK_ok (ls_5_g sd sg sr x n c g) ((ls_5_o sd sg sr x n c g).symm ▸ (by
        repeat' (first | (with_reducible assumption) | exact hs | exact hd | exact ⟨rfl, fun _ _ _ _ => rfl⟩ | apply And.intro)
        all_goals first | trivial | rfl | assumption | exact decide_eq_true (by omega) | exact decide_eq_false (by omega) | exact bne_iff_ne.2 (by assumption) | exact bne_eq_false_iff_eq.2 (by assumption) | exact beq_iff_eq.2 (by assumption) | exact beq_eq_false_iff_ne.2 (by assumption) | exact bne_iff_ne.2 (by omega) | exact bne_eq_false_iff_eq.2 (by omega) | exact (fun _ _ _ _ => rfl) | exact (fun i hi => absurd hi (Nat.not_lt_zero i)) | exact (fun _ _ _ _ => rfl) | exact beq_iff_eq.2 ((rcdx _).trans h1) | exact beq_eq_false_iff_ne.2 (fun e => h1 ((rcdx _).symm.trans e)) | exact beq_iff_eq.2 (rcdx _).symm | exact beq_iff_eq.2 hu | exact beq_iff_eq.2 (h2.symm) | exact h2 | exact decide_eq_true ⟨rfl, hsame⟩ | exact hloop | (exact beq_iff_eq.2 (by rw [rcd0]; assumption)) | (exact beq_eq_false_iff_ne.2 (by rw [rcd0]; assumption)) | exact fillI (fun _ => rfl) | omega))
theorem ls_nil (sd sg sr x : Int) : ∃ s1 R, SndF Tryz.prog 4 (lsNil sd sg sr x) aw5S0 (.bool true) s1 R 0 := by
  by_cases hE : spE sd sg sr = 0
  · have hs := spE_in hE
    by_cases hD : devE x = 0
    · have h1 : th2 (spE sd sg sr) (devE x) = 0 := (th2_0 hE).trans hD
      have hd := devE_in hD
      have hu : (if th2 (spE sd sg sr) (devE x) = 0 then sp sd sg sr x else 0) = sp sd sg sr x := if_pos h1
      exact sndY (r := ls_n1 sd sg sr x) (by delta ls_n1; exact Eq.refl _) smx lsK_ok (ls_n1_g sd sg sr x) ((ls_n1_o sd sg sr x).symm ▸ (by
        repeat' (first | (with_reducible assumption) | exact hs | exact hd | exact ⟨rfl, fun _ _ _ _ => rfl⟩ | apply And.intro)
        all_goals first | trivial | rfl | assumption | exact decide_eq_true (by omega) | exact decide_eq_false (by omega) | exact bne_iff_ne.2 (by assumption) | exact bne_eq_false_iff_eq.2 (by assumption) | exact beq_iff_eq.2 (by assumption) | exact beq_eq_false_iff_ne.2 (by assumption) | exact bne_iff_ne.2 (by omega) | exact bne_eq_false_iff_eq.2 (by omega) | exact (fun _ _ _ _ => rfl) | exact (fun i hi => absurd hi (Nat.not_lt_zero i)) | exact (fun _ _ _ _ => rfl) | exact beq_iff_eq.2 ((rcdx _).trans h1) | exact beq_eq_false_iff_ne.2 (fun e => h1 ((rcdx _).symm.trans e)) | exact beq_iff_eq.2 (rcdx _).symm | exact beq_iff_eq.2 hu | exact beq_iff_eq.2 (h2.symm) | exact h2 | exact decide_eq_true ⟨rfl, hsame⟩ | exact hloop | (exact beq_iff_eq.2 (by rw [rcd0]; assumption)) | (exact beq_eq_false_iff_ne.2 (by rw [rcd0]; assumption)) | exact fillI (fun _ => rfl) | omega))
    · have h1 : th2 (spE sd sg sr) (devE x) ≠ 0 := by rw [th2_0 hE]; exact hD
      have hu : (if th2 (spE sd sg sr) (devE x) = 0 then sp sd sg sr x else 0) = 0 := if_neg h1
      exact sndY (r := ls_n2 sd sg sr x) (by delta ls_n2; exact Eq.refl _) smx lsK_ok (ls_n2_g sd sg sr x) ((ls_n2_o sd sg sr x).symm ▸ (by
        repeat' (first | (with_reducible assumption) | exact hs | exact hd | exact ⟨rfl, fun _ _ _ _ => rfl⟩ | apply And.intro)
        all_goals first | trivial | rfl | assumption | exact decide_eq_true (by omega) | exact decide_eq_false (by omega) | exact bne_iff_ne.2 (by assumption) | exact bne_eq_false_iff_eq.2 (by assumption) | exact beq_iff_eq.2 (by assumption) | exact beq_eq_false_iff_ne.2 (by assumption) | exact bne_iff_ne.2 (by omega) | exact bne_eq_false_iff_eq.2 (by omega) | exact (fun _ _ _ _ => rfl) | exact (fun i hi => absurd hi (Nat.not_lt_zero i)) | exact (fun _ _ _ _ => rfl) | exact beq_iff_eq.2 ((rcdx _).trans h1) | exact beq_eq_false_iff_ne.2 (fun e => h1 ((rcdx _).symm.trans e)) | exact beq_iff_eq.2 (rcdx _).symm | exact beq_iff_eq.2 hu | exact beq_iff_eq.2 (h2.symm) | exact h2 | exact decide_eq_true ⟨rfl, hsame⟩ | exact hloop | (exact beq_iff_eq.2 (by rw [rcd0]; assumption)) | (exact beq_eq_false_iff_ne.2 (by rw [rcd0]; assumption)) | exact fillI (fun _ => rfl) | omega))
  · have h1 : th2 (spE sd sg sr) (devE x) ≠ 0 := by rw [th2_1 hE]; exact hE
    have hu : (if th2 (spE sd sg sr) (devE x) = 0 then sp sd sg sr x else 0) = 0 := if_neg h1
    have h2 : spE sd sg sr = spE sd sg sr := rfl
    exact sndY (r := ls_n3 sd sg sr x) (by delta ls_n3; exact Eq.refl _) smx lsK_ok (ls_n3_g sd sg sr x) ((ls_n3_o sd sg sr x).symm ▸ (by
      repeat' (first | (with_reducible assumption) | exact hs | exact hd | exact ⟨rfl, fun _ _ _ _ => rfl⟩ | apply And.intro)
      all_goals first | trivial | rfl | assumption | exact decide_eq_true (by omega) | exact decide_eq_false (by omega) | exact bne_iff_ne.2 (by assumption) | exact bne_eq_false_iff_eq.2 (by assumption) | exact beq_iff_eq.2 (by assumption) | exact beq_eq_false_iff_ne.2 (by assumption) | exact bne_iff_ne.2 (by omega) | exact bne_eq_false_iff_eq.2 (by omega) | exact (fun _ _ _ _ => rfl) | exact (fun i hi => absurd hi (Nat.not_lt_zero i)) | exact (fun _ _ _ _ => rfl) | exact beq_iff_eq.2 ((rcdx _).trans h1) | exact beq_eq_false_iff_ne.2 (fun e => h1 ((rcdx _).symm.trans e)) | exact beq_iff_eq.2 (rcdx _).symm | exact beq_iff_eq.2 hu | exact beq_iff_eq.2 (h2.symm) | exact h2 | exact decide_eq_true ⟨rfl, hsame⟩ | exact hloop | (exact beq_iff_eq.2 (by rw [rcd0]; assumption)) | (exact beq_eq_false_iff_ne.2 (by rw [rcd0]; assumption)) | exact fillI (fun _ => rfl) | omega))

theorem ls_emp (sd sg sr x : Int) (c : Nat) : ∃ s1 R, SndF Tryz.prog 4 (lsArgs sd sg sr x 0 c) (aw5S0.push .hole) (.bool true) s1 R 0 := by
  by_cases hE : spE sd sg sr = 0
  · have hs := spE_in hE
    by_cases hD : devE x = 0
    · have h1 : th2 (spE sd sg sr) (devE x) = 0 := (th2_0 hE).trans hD
      have hd := devE_in hD
      have hu : (if th2 (spE sd sg sr) (devE x) = 0 then sp sd sg sr x else 0) = sp sd sg sr x := if_pos h1
      exact sndY (r := ls_e1 sd sg sr x c) (by delta ls_e1; exact Eq.refl _) smx lsK_ok (ls_e1_g sd sg sr x c) ((ls_e1_o sd sg sr x c).symm ▸ (by
        repeat' (first | (with_reducible assumption) | exact hs | exact hd | exact ⟨rfl, fun _ _ _ _ => rfl⟩ | apply And.intro)
        all_goals first | trivial | rfl | assumption | exact decide_eq_true (by omega) | exact decide_eq_false (by omega) | exact bne_iff_ne.2 (by assumption) | exact bne_eq_false_iff_eq.2 (by assumption) | exact beq_iff_eq.2 (by assumption) | exact beq_eq_false_iff_ne.2 (by assumption) | exact bne_iff_ne.2 (by omega) | exact bne_eq_false_iff_eq.2 (by omega) | exact (fun _ _ _ _ => rfl) | exact (fun i hi => absurd hi (Nat.not_lt_zero i)) | exact (fun _ _ _ _ => rfl) | exact beq_iff_eq.2 ((rcdx _).trans h1) | exact beq_eq_false_iff_ne.2 (fun e => h1 ((rcdx _).symm.trans e)) | exact beq_iff_eq.2 (rcdx _).symm | exact beq_iff_eq.2 hu | exact beq_iff_eq.2 (h2.symm) | exact h2 | exact decide_eq_true ⟨rfl, hsame⟩ | exact hloop | (exact beq_iff_eq.2 (by rw [rcd0]; assumption)) | (exact beq_eq_false_iff_ne.2 (by rw [rcd0]; assumption)) | exact fillI (fun _ => rfl) | omega))
    · have h1 : th2 (spE sd sg sr) (devE x) ≠ 0 := by rw [th2_0 hE]; exact hD
      have hu : (if th2 (spE sd sg sr) (devE x) = 0 then sp sd sg sr x else 0) = 0 := if_neg h1
      exact sndY (r := ls_e2 sd sg sr x c) (by delta ls_e2; exact Eq.refl _) smx lsK_ok (ls_e2_g sd sg sr x c) ((ls_e2_o sd sg sr x c).symm ▸ (by
        repeat' (first | (with_reducible assumption) | exact hs | exact hd | exact ⟨rfl, fun _ _ _ _ => rfl⟩ | apply And.intro)
        all_goals first | trivial | rfl | assumption | exact decide_eq_true (by omega) | exact decide_eq_false (by omega) | exact bne_iff_ne.2 (by assumption) | exact bne_eq_false_iff_eq.2 (by assumption) | exact beq_iff_eq.2 (by assumption) | exact beq_eq_false_iff_ne.2 (by assumption) | exact bne_iff_ne.2 (by omega) | exact bne_eq_false_iff_eq.2 (by omega) | exact (fun _ _ _ _ => rfl) | exact (fun i hi => absurd hi (Nat.not_lt_zero i)) | exact (fun _ _ _ _ => rfl) | exact beq_iff_eq.2 ((rcdx _).trans h1) | exact beq_eq_false_iff_ne.2 (fun e => h1 ((rcdx _).symm.trans e)) | exact beq_iff_eq.2 (rcdx _).symm | exact beq_iff_eq.2 hu | exact beq_iff_eq.2 (h2.symm) | exact h2 | exact decide_eq_true ⟨rfl, hsame⟩ | exact hloop | (exact beq_iff_eq.2 (by rw [rcd0]; assumption)) | (exact beq_eq_false_iff_ne.2 (by rw [rcd0]; assumption)) | exact fillI (fun _ => rfl) | omega))
  · have h1 : th2 (spE sd sg sr) (devE x) ≠ 0 := by rw [th2_1 hE]; exact hE
    have hu : (if th2 (spE sd sg sr) (devE x) = 0 then sp sd sg sr x else 0) = 0 := if_neg h1
    have h2 : spE sd sg sr = spE sd sg sr := rfl
    exact sndY (r := ls_e3 sd sg sr x c) (by delta ls_e3; exact Eq.refl _) smx lsK_ok (ls_e3_g sd sg sr x c) ((ls_e3_o sd sg sr x c).symm ▸ (by
      repeat' (first | (with_reducible assumption) | exact hs | exact hd | exact ⟨rfl, fun _ _ _ _ => rfl⟩ | apply And.intro)
      all_goals first | trivial | rfl | assumption | exact decide_eq_true (by omega) | exact decide_eq_false (by omega) | exact bne_iff_ne.2 (by assumption) | exact bne_eq_false_iff_eq.2 (by assumption) | exact beq_iff_eq.2 (by assumption) | exact beq_eq_false_iff_ne.2 (by assumption) | exact bne_iff_ne.2 (by omega) | exact bne_eq_false_iff_eq.2 (by omega) | exact (fun _ _ _ _ => rfl) | exact (fun i hi => absurd hi (Nat.not_lt_zero i)) | exact (fun _ _ _ _ => rfl) | exact beq_iff_eq.2 ((rcdx _).trans h1) | exact beq_eq_false_iff_ne.2 (fun e => h1 ((rcdx _).symm.trans e)) | exact beq_iff_eq.2 (rcdx _).symm | exact beq_iff_eq.2 hu | exact beq_iff_eq.2 (h2.symm) | exact h2 | exact decide_eq_true ⟨rfl, hsame⟩ | exact hloop | (exact beq_iff_eq.2 (by rw [rcd0]; assumption)) | (exact beq_eq_false_iff_ne.2 (by rw [rcd0]; assumption)) | exact fillI (fun _ => rfl) | omega))

end Go.Proofs.YthhgmnocigekaaaGreatDoor
end
section
namespace Go.Proofs.YthhgmnocigekaaaGreatDoor
set_option linter.all false
open Go.ChangeShapes Go.WideShapes Go.RowKit
namespace Mini

def pairsK (g : TypeId → Option (List IntKind)) (P : Program) : Nat → List (Nat × TypeId) → Option (List IntKind)
  | _, [] => some []
  | off, x :: l => match g x.2 with
    | some ks => match (x.1 == off) && (P.cellsOf x.2 == ks.length) with
      | true => match pairsK g P (off + ks.length) l with
        | some r => some (ks ++ r)
        | none => none
      | false => none
    | none => none
def kindsT (P : Program) : Nat → TypeId → Option (List IntKind)
  | 0, _ => none
  | n + 1, t => match P.underlying t with
    | some (.int k) => some [k]
    | some (.array m e) => match pairsK (kindsT P n) P 0 ((List.range m).map fun i => (i * P.cellsOf e, e)) with
      | some ks => match P.cellsOf t == ks.length with
        | true => some ks
        | false => none
      | none => none
    | some (.struct fs) => match pairsK (kindsT P n) P 0 (fs.toList.map fun f => (f.offset, f.type)) with
      | some ks => match P.cellsOf t == ks.length with
        | true => some ks
        | false => none
      | none => none
    | _ => none
def wfs : List IntKind → List Int → Bool
  | k :: ks, n :: ns => (Lit.int k n).wf && wfs ks ns
  | _, _ => true
theorem backI_length : ∀ (ks : List IntKind) (ns : List Int), ns.length = ks.length → (backI ks ns).length = ks.length
  | [], [], _ => rfl
  | k :: ks, n :: ns, h => by simp only [backI, List.length_cons, backI_length ks ns (by simpa using h)]
  | [], n :: ns, h => by cases h
  | k :: ks, [], h => by cases h
theorem backI_append : ∀ (ks ks' : List IntKind) (ns ns' : List Int), ns.length = ks.length → backI (ks ++ ks') (ns ++ ns') = backI ks ns ++ backI ks' ns'
  | [], ks', [], ns', _ => rfl
  | k :: ks, ks', n :: ns, ns', h => by
    show Value.int k n :: backI (ks ++ ks') (ns ++ ns') = _
    rw [backI_append ks ks' ns ns' (by simpa using h)]
    rfl
  | [], ks', n :: ns, ns', h => by cases h
  | k :: ks, ks', [], ns', h => by cases h
theorem wfs_append : ∀ (ks ks' : List IntKind) (ns ns' : List Int), ns.length = ks.length → wfs ks ns = true → wfs ks' ns' = true → wfs (ks ++ ks') (ns ++ ns') = true
  | [], ks', [], ns', _, _, h => h
  | k :: ks, ks', n :: ns, ns', h, h1, h2 => by
    simp only [wfs, Bool.and_eq_true] at h1
    show ((Lit.int k n).wf && wfs (ks ++ ks') (ns ++ ns')) = true
    rw [h1.1, wfs_append ks ks' ns ns' (by simpa using h) h1.2 h2]
    rfl
  | [], ks', n :: ns, ns', h, _, _ => by cases h
  | k :: ks, ks', [], ns', h, _, _ => by cases h
theorem mapM_map' {α β γ : Type} (f : α → β) (g : β → Option γ) : ∀ l : List α, (l.map f).mapM g = l.mapM fun a => g (f a)
  | [] => rfl
  | a :: l => by simp [List.mapM_cons, mapM_map' f g l]

section
variable {H : Type} {enc : TypeId × Value → H} {P : Program}

def Flat (enc : TypeId × Value → H) (P : Program) (fuel : Nat) (t : TypeId) (cs : List Value) (d : DataW H) (ks : List IntKind) : Prop :=
  ∃ ns, ns.length = ks.length ∧ cs = backI ks ns ∧ wfs ks ns = true ∧ ∀ w b sp held, DataW.trod enc P w b sp held fuel t cs = some (d, [])
theorem flat_pairs {n fuel : Nat} (IH : ∀ (t : TypeId) (ks : List IntKind), kindsT P n t = some ks → ∀ (cs : List Value) (d : DataW H) (p : List MemPlace) w b sp held, DataW.trod enc P w b sp held fuel t cs = some (d, p) → p = [] ∧ Flat enc P fuel t cs d ks) :
    ∀ (L : List (Nat × TypeId)) (off : Nat) (ks : List IntKind) (cs : List Value) (xs : List (DataW H × List MemPlace)) (w : World) (b : Nat) (sp : Nat → Bool) (held : Bool), pairsK (kindsT P n) P off L = some ks → off + ks.length ≤ cs.length →
      L.mapM (fun x => DataW.trod enc P w b sp held fuel x.2 ((cs.drop x.1).take (P.cellsOf x.2))) = some xs →
      xs.flatMap (·.2) = [] ∧ ∃ ns, ns.length = ks.length ∧ (cs.drop off).take ks.length = backI ks ns ∧ wfs ks ns = true ∧ ∀ w b sp held, L.mapM (fun x => DataW.trod enc P w b sp held fuel x.2 ((cs.drop x.1).take (P.cellsOf x.2))) = some xs
  | [], off, ks, cs, xs, w, b, sp, held, hk, hl, hm => by
    cases hk
    simp at hm
    subst hm
    exact ⟨rfl, [], rfl, by simp [backI], rfl, fun _ _ _ _ => rfl⟩
  | x :: L, off, ks, cs, xs, w, b, sp, held, hk, hl, hm => by
    simp only [pairsK] at hk
    split at hk
    · rename_i ks1 hk1
      split at hk
      · rename_i hc
        simp only [Bool.and_eq_true, beq_iff_eq] at hc
        obtain ⟨hx, hcell⟩ := hc
        split at hk
        · rename_i r hr
          cases hk
          simp only [List.length_append] at hl
          simp only [List.mapM_cons, Option.bind_eq_bind, Option.bind_eq_some_iff, Option.pure_def, Option.some.injEq] at hm
          obtain ⟨y, hy, ys, hys, rfl⟩ := hm
          obtain ⟨d, p⟩ := y
          obtain ⟨rfl, ns1, l1, c1, f1, t1⟩ := IH x.2 ks1 hk1 _ d p w b sp held hy
          obtain ⟨e2, ns2, l2, c2, f2, t2⟩ := flat_pairs IH L (off + ks1.length) r cs ys w b sp held hr (by omega) hys
          refine ⟨by simpa using e2, ns1 ++ ns2, by simp [l1, l2], ?_, wfs_append _ _ _ _ l1 f1 f2, fun w' b' sp' held' => ?_⟩
          · rw [backI_append _ _ _ _ l1, ← c2, List.length_append, List.take_add, List.drop_drop]
            rw [hx, hcell] at c1
            rw [c1]
          · simp only [List.mapM_cons, Option.bind_eq_bind, Option.pure_def]
            rw [t1 w' b' sp' held', t2 w' b' sp' held']
            rfl
        · cases hk
      · cases hk
    · cases hk
theorem open_kinds : ∀ (n : Nat) (t : TypeId) (ks : List IntKind), kindsT P n t = some ks → ∀ (fuel : Nat) (cs : List Value) (d : DataW H) (p : List MemPlace) w b sp held, DataW.trod enc P w b sp held fuel t cs = some (d, p) → p = [] ∧ Flat enc P fuel t cs d ks
  | 0, t, ks, hk, fuel, cs, d, p, w, b, sp, held, h => by cases hk
  | n + 1, t, ks, hk, fuel, cs, d, p, w, b, sp, held, h => by
    cases fuel with
    | zero => simp [DataW.trod] at h
    | succ fuel =>
      simp only [kindsT] at hk
      split at hk
      · rename_i k ht
        cases hk
        obtain ⟨z, rfl, hx, hw⟩ := DataW.trod_int ht h
        cases hx
        refine ⟨rfl, [z], rfl, rfl, by simp [wfs, hw], fun w' b' sp' held' => ?_⟩
        simp [DataW.trod, ht, hw]
      · rename_i m e ht
        split at hk
        · rename_i ks' hk'
          split at hk
          · rename_i hc
            cases hk
            have hc := beq_iff_eq.1 hc
            simp only [DataW.trod, ht] at h
            split at h
            · rename_i hl
              obtain ⟨xs, hm, hx⟩ := Option.map_eq_some_iff.1 h
              have hm2 : ((List.range m).map fun i => (i * P.cellsOf e, e)).mapM (fun x => DataW.trod enc P w b sp held fuel x.2 ((cs.drop x.1).take (P.cellsOf x.2))) = some xs := by rw [mapM_map']; exact hm
              obtain ⟨e1, ns, l1, c1, f1, t1⟩ := flat_pairs (fun t ks hk cs d p w b sp held h => open_kinds n t ks hk fuel cs d p w b sp held h) _ 0 ks cs xs w b sp held hk' (by omega) hm2
              simp only [Prod.mk.injEq] at hx
              obtain ⟨rfl, rfl⟩ := hx
              refine ⟨e1, ns, l1, ?_, f1, fun w' b' sp' held' => ?_⟩
              · rw [← c1, List.drop_zero, List.take_of_length_le (by omega)]
              · have := t1 w' b' sp' held'
                rw [mapM_map'] at this
                simp only [DataW.trod, ht, if_pos hl]
                rw [this]
                simp [e1]
            · cases h
          · cases hk
        · cases hk
      · rename_i fs ht
        split at hk
        · rename_i ks' hk'
          split at hk
          · rename_i hc
            cases hk
            have hc := beq_iff_eq.1 hc
            simp only [DataW.trod, ht] at h
            split at h
            · rename_i hl
              obtain ⟨xs, hm, hx⟩ := Option.map_eq_some_iff.1 h
              have hm2 : (fs.toList.map fun f => (f.offset, f.type)).mapM (fun x => DataW.trod enc P w b sp held fuel x.2 ((cs.drop x.1).take (P.cellsOf x.2))) = some xs := by rw [mapM_map']; exact hm
              obtain ⟨e1, ns, l1, c1, f1, t1⟩ := flat_pairs (fun t ks hk cs d p w b sp held h => open_kinds n t ks hk fuel cs d p w b sp held h) _ 0 ks cs xs w b sp held hk' (by omega) hm2
              simp only [Prod.mk.injEq] at hx
              obtain ⟨rfl, rfl⟩ := hx
              refine ⟨e1, ns, l1, ?_, f1, fun w' b' sp' held' => ?_⟩
              · rw [← c1, List.drop_zero, List.take_of_length_le (by omega)]
              · have := t1 w' b' sp' held'
                rw [mapM_map'] at this
                simp only [DataW.trod, ht, if_pos hl]
                rw [this]
                simp [e1]
            · cases h
          · cases hk
        · cases hk
      · cases hk
def isRow (P : Program) (t : TypeId) : Bool := match P.underlying t with
  | some (.struct _) | some (.array _ _) => true
  | _ => false
theorem open_agg {w : World} {base b0 n : Nat} {spare : Nat → Bool} {held : Bool} {r : Reach} {t : TypeId} {v : Value} {d : DataW H} {ps : List MemPlace} {ks : List IntKind} (hr : isRow P t = true) (hk : kindsT P n t = some ks) (hval : Value.okWide P w r b0 t v) (hd : DataW.Trod enc P w base spare held t v d ps) :
    ∃ ns, ns.length = ks.length ∧ v = .agg (backI ks ns).toArray ∧ ps = [] ∧ wfs ks ns = true ∧ ∀ w b sp held, DataW.Trod enc P w b sp held t v d [] := by
  obtain ⟨cs, rfl⟩ : ∃ cs, v = .agg cs := by
    unfold isRow at hr
    unfold Value.okWide at hval
    split at hr
    · rename_i h; rw [h] at hval; obtain ⟨cs, h1, _⟩ := hval; exact ⟨cs, h1⟩
    · rename_i h; rw [h] at hval; obtain ⟨cs, h1, _⟩ := hval; exact ⟨cs, h1⟩
    · cases hr
  obtain ⟨fuel, hf⟩ := hd
  obtain ⟨rfl, ns, l1, c1, f1, t1⟩ := open_kinds n t ks hk fuel _ d ps w base spare held hf
  refine ⟨ns, l1, ?_, rfl, f1, fun w b sp held => ⟨fuel, t1 w b sp held⟩⟩
  congr 1
  apply Array.ext'
  simpa [Value.cells] using c1
theorem open_num {w : World} {base b0 : Nat} {spare : Nat → Bool} {held : Bool} {r : Reach} {t : TypeId} {k : IntKind} {v : Value} {d : DataW H} {ps : List MemPlace} (ht : P.underlying t = some (.int k)) (hval : Value.okWide P w r b0 t v) (hd : DataW.Trod enc P w base spare held t v d ps) :
    ∃ n, v = .int k n ∧ ps = [] ∧ (Lit.int k n).wf = true ∧ ∀ w b sp held, DataW.Trod enc P w b sp held t v d [] := by
  obtain ⟨n, rfl, rfl, rfl, hw⟩ := open_int ht hval hd
  exact ⟨n, rfl, rfl, hw, fun w b sp held => shut_int ht hw⟩
end
theorem bounds_i64 {n : Int} (h : (Lit.int .i64 n).wf = true) : -9223372036854775808 ≤ n ∧ n ≤ 9223372036854775807 := by
  simp [Lit.wf, IntKind.min, IntKind.max, IntKind.signed, IntKind.bits] at h
  omega
end Mini
end Go.Proofs.YthhgmnocigekaaaGreatDoor
end
section
namespace Go.Proofs.YthhgmnocigekaaaGreatDoor
set_option linter.all false
open Go.ChangeShapes Go.WideShapes Go.ChangeAt Go.RowKit

section
variable {H : Type} {enc : TypeId × Value → H} {P : Program}
theorem post_below {f : Func} {s : ChangeSpec} {W W' : World} {args : Array Value} {v : Value} {ds gs : List (DataW H)} {ps pa pv : List MemPlace} {apart fresh handsOn again : Bool} (hw : DataW.Whole enc P f.params.toList s.vars apart W args.toList ds gs ps)
    (ok : ∀ (j : Nat) (t : TypeId) (r : Value), f.resultTypes[j]? = some t → (v.resultList f.resultTypes.size)[j]? = some r → Value.okWide P W' .any 0 t r)
    (res : ∀ (b : Nat) (sp : Nat → Bool) (hd : Bool), DataW.TrodAll enc P W' b sp hd f.resultTypes.toList (v.resultList f.resultTypes.size) (s.fn H (ds ++ gs)).results [])
    (arg : ∀ sp : Nat → Bool, (∀ p ∈ ps, sp p.block = true) → DataW.TrodAll enc P W' 0 sp true f.params.toList args.toList (s.fn H (ds ++ gs)).args pa)
    (vrs : ∀ sp : Nat → Bool, (∀ p ∈ ps, sp p.block = true) → DataW.TrodVars enc P W' sp s.vars (s.fn H (ds ++ gs)).vars pv)
    (hps : ps = pa ++ pv) (hb : Below W.heap.size W W') : s.post enc P f apart fresh handsOn again W args v W' := by
  have hb' := hb
  have lt : ∀ p ∈ ps, p.block < W.heap.size := fun p hp => hw.lt p hp
  have old : ∀ p ∈ ps, (fun b => decide (b < W.heap.size)) p.block = true := fun p hp => by simpa using lt p hp
  have whole := hw
  obtain ⟨_, _, _, _, _, hz, hn⟩ := hw
  subst hps
  refine ⟨ds, gs, pa ++ pv, [], pa, pv, whole, res _ _ _, arg _ old, vrs _ old, World.keptBut_mono (fun p hp => ⟨hp, Or.inr (List.mem_append.1 hp)⟩) (hb'.frame (· ∈ pa ++ pv)), fun _ => ⟨ok, _, _, ([] ++ pa) ++ pv, ⟨[] ++ pa, pv, trodAll_append (arg _ (fun _ _ => rfl)) (res _ _ _), vrs _ (fun _ _ => rfl), rfl, fun b off hp => ?_, fun ha => ?_⟩, fun p hp _ => ?_⟩⟩
  · have hin : MemPlace.cell b off ∈ pa ++ pv := by simpa using hp
    exact (hb'.frozen (lt _ hin)).trans (hz b off hin)
  · simpa using hn ha
  · simpa using hp
end

section
open Go.Lib

theorem trod_lit {H : Type} {enc : TypeId × Value → H} {P : Program} {w : World} {base : Nat} {sp : Nat → Bool} {held : Bool} {fuel : Nat} {t : TypeId} {k : IntKind} {z : Int} {cs : List Value} {p : List MemPlace}
    (ht : P.underlying t = some (.int k)) (h : DataW.trod enc P w base sp held fuel t cs = some (.lit (.int k z), p)) : cs = [.int k z] := by
  obtain ⟨z', hc, hd, _⟩ := DataW.trod_int ht h
  cases hd
  exact hc
theorem cells_of_pairs {H : Type} {enc : TypeId × Value → H} {P : Program} {w : World} {base : Nat} {sp : Nat → Bool} {held : Bool} {fuel : Nat} {t e : TypeId} {n : Nat} {k : IntKind} {cs : List Value} {zs : List (Int × Int)} {p : List MemPlace} {fs : Array Field} {f0 f1 : Field}
    (ht : P.underlying t = some (.array n e)) (he : P.underlying e = some (.struct fs)) (hfs : fs.toList = [f0, f1]) (h0 : f0.offset = 0) (h1 : f1.offset = 1) (k0 : P.underlying f0.type = some (.int k)) (k1 : P.underlying f1.type = some (.int k))
    (c0 : P.cellsOf f0.type = 1) (c1 : P.cellsOf f1.type = 1) (hce : P.cellsOf e = 2)
    (h : DataW.trod enc P w base sp held fuel t cs = some (.agg (zs.map fun z => .agg [.lit (.int k z.1), .lit (.int k z.2)]), p)) :
    ∀ (i : Nat) (z : Int × Int), zs[i]? = some z → cs[i * 2]? = some (.int k z.1) ∧ cs[i * 2 + 1]? = some (.int k z.2) := by
  cases fuel with
  | zero => simp [DataW.trod] at h
  | succ fuel =>
    simp only [DataW.trod, ht, hce] at h
    split at h
    · rename_i hl
      obtain ⟨xs, hm, hx⟩ := Option.map_eq_some_iff.1 h
      have hxs : xs.map (·.1) = zs.map fun z => (DataW.agg [.lit (.int k z.1), .lit (.int k z.2)] : DataW H) := by
        have := congrArg Prod.fst hx
        simpa using this
      have hxl : xs.length = n := by simpa using mapM_length hm
      have hzl : zs.length = n := by
        have := congrArg List.length hxs
        simp at this
        omega
      intro i z hz
      have hi : i < n := by
        have := (List.getElem?_eq_some_iff.1 hz).1
        omega
      obtain ⟨b, hb, hf⟩ := mapM_at hm i i (by simp [hi])
      have h2 : (xs.map (·.1))[i]? = some b.1 := by simp [hb]
      rw [hxs] at h2
      simp only [List.getElem?_map, hz, Option.map_some, Option.some.injEq] at h2
      cases fuel with
      | zero => simp [DataW.trod] at hf
      | succ fuel =>
        simp only [DataW.trod, he] at hf
        split at hf
        · obtain ⟨ys, hy, hyb⟩ := Option.map_eq_some_iff.1 hf
          rw [hfs] at hy
          simp only [List.mapM_cons, List.mapM_nil, Option.bind_eq_bind, Option.bind_eq_some_iff, Option.pure_def, Option.some.injEq] at hy
          obtain ⟨y0, e0, l1, ⟨y1, e1, l2, rfl, rfl⟩, rfl⟩ := hy
          have hb1 := congrArg Prod.fst hyb
          simp only [List.map_cons, List.map_nil] at hb1
          rw [← h2] at hb1
          simp only [DataW.agg.injEq, List.cons.injEq, and_true] at hb1
          obtain ⟨q0, q1⟩ := hb1
          obtain ⟨d0, p0⟩ := y0
          obtain ⟨d1, p1⟩ := y1
          simp only at q0 q1
          subst q0 q1
          have g0 := trod_lit k0 e0
          have g1 := trod_lit k1 e1
          rw [h0, c0] at g0
          rw [h1, c1] at g1
          have a0 := congrArg (·[0]?) g0
          have a1 := congrArg (·[0]?) g1
          simp [List.getElem?_take, List.getElem?_drop] at a0 a1
          exact ⟨by simpa using a0, by simpa using a1⟩
        · cases hf
    · cases h
end
theorem pairs_of_laid {P : Program} {W : World} {name : String} {k : IntKind} {zs : List (Int × Int)} {g : Nat} {t e : TypeId} {n : Nat} {fs : Array Field} {f0 f1 : Field}
    (hg : P.globalNamed name = some g) (hty : (P.globals[g]?).map (·.type) = some t) (ht : P.underlying t = some (.array n e)) (he : P.underlying e = some (.struct fs)) (hfs : fs.toList = [f0, f1]) (h0 : f0.offset = 0) (h1 : f1.offset = 1) (k0 : P.underlying f0.type = some (.int k)) (k1 : P.underlying f1.type = some (.int k))
    (c0 : P.cellsOf f0.type = 1) (c1 : P.cellsOf f1.type = 1) (hce : P.cellsOf e = 2)
    (h : laidMet P [(name, .agg (zs.map fun z => .agg [.lit (.int k z.1), .lit (.int k z.2)]))] W) (i : Nat) (z : Int × Int) (hz : zs[i]? = some z) :
    W.cell? ⟨g, i * 2, none⟩ = some (.int k z.1) ∧ W.cell? ⟨g, i * 2 + 1, none⟩ = some (.int k z.2) := by
  obtain ⟨ps, ⟨g', t', cs, fuel, p, q, hg', ht', hvar, hd, _, _⟩, _⟩ := h
  obtain rfl := Option.some.inj (hg.symm.trans hg')
  obtain rfl := Option.some.inj (hty.symm.trans ht')
  obtain ⟨a, b⟩ := cells_of_pairs ht he hfs h0 h1 k0 k1 c0 c1 hce hd i z hz
  have r0 := World.var?_cell hg hvar (i * 2)
  have r1 := World.var?_cell hg hvar (i * 2 + 1)
  constructor
  · rw [r0]; simpa using a
  · rw [r1]; simpa using b
end Go.Proofs.YthhgmnocigekaaaGreatDoor
end
section
namespace Go.Proofs.YthhgmnocigekaaaGreatDoor
set_option linter.all false
open Go.ChangeShapes Go.WideShapes Go.ChangeAt Go.RowKit Go.Lib
theorem trod_pair {H : Type} {enc : TypeId × Value → H} {P : Program} {w : World} {base : Nat} {sp : Nat → Bool} {held : Bool} {fuel : Nat} {e : TypeId} {k : IntKind} {cs : List Value} {x y : Int} {p : List MemPlace} {fs : Array Field} {f0 f1 : Field}
    (he : P.underlying e = some (.struct fs)) (hfs : fs.toList = [f0, f1]) (h0 : f0.offset = 0) (h1 : f1.offset = 1) (k0 : P.underlying f0.type = some (.int k)) (k1 : P.underlying f1.type = some (.int k))
    (c0 : P.cellsOf f0.type = 1) (c1 : P.cellsOf f1.type = 1) (h : DataW.trod enc P w base sp held fuel e cs = some (.agg [.lit (.int k x), .lit (.int k y)], p)) : cs[0]? = some (.int k x) ∧ cs[1]? = some (.int k y) := by
  cases fuel with
  | zero => simp [DataW.trod] at h
  | succ fuel =>
    simp only [DataW.trod, he] at h
    split at h
    · obtain ⟨ys, hy, hyb⟩ := Option.map_eq_some_iff.1 h
      rw [hfs] at hy
      simp only [List.mapM_cons, List.mapM_nil, Option.bind_eq_bind, Option.bind_eq_some_iff, Option.pure_def, Option.some.injEq] at hy
      obtain ⟨y0, e0, l1, ⟨y1, e1, l2, rfl, rfl⟩, rfl⟩ := hy
      have hb1 := congrArg Prod.fst hyb
      simp only [List.map_cons, List.map_nil] at hb1
      simp only [DataW.agg.injEq, List.cons.injEq, and_true] at hb1
      obtain ⟨q0, q1⟩ := hb1
      obtain ⟨d0, p0⟩ := y0
      obtain ⟨d1, p1⟩ := y1
      simp only at q0 q1
      subst q0 q1
      have g0 := trod_lit k0 e0
      have g1 := trod_lit k1 e1
      rw [h0, c0] at g0
      rw [h1, c1] at g1
      have a0 := congrArg (·[0]?) g0
      have a1 := congrArg (·[0]?) g1
      simp [List.getElem?_take, List.getElem?_drop] at a0 a1
      exact ⟨by simpa using a0, by simpa using a1⟩
    · cases h
def quadD {H : Type} (k : IntKind) (z : Int × Int × Int × Int) : DataW H := .agg [.agg [.lit (.int k z.1), .lit (.int k z.2.1)], .agg [.lit (.int k z.2.2.1), .lit (.int k z.2.2.2)]]
theorem trod_quad {H : Type} {enc : TypeId × Value → H} {P : Program} {w : World} {base : Nat} {sp : Nat → Bool} {held : Bool} {fuel : Nat} {t e : TypeId} {k : IntKind} {cs : List Value} {z : Int × Int × Int × Int} {p : List MemPlace} {gs : Array Field} {g0 g1 : Field} {fs : Array Field} {f0 f1 : Field}
    (ht : P.underlying t = some (.struct gs)) (hgs : gs.toList = [g0, g1]) (o0 : g0.offset = 0) (o1 : g1.offset = 2) (t0 : g0.type = e) (t1 : g1.type = e) (ce : P.cellsOf e = 2)
    (he : P.underlying e = some (.struct fs)) (hfs : fs.toList = [f0, f1]) (h0 : f0.offset = 0) (h1 : f1.offset = 1) (k0 : P.underlying f0.type = some (.int k)) (k1 : P.underlying f1.type = some (.int k))
    (c0 : P.cellsOf f0.type = 1) (c1 : P.cellsOf f1.type = 1) (h : DataW.trod enc P w base sp held fuel t cs = some (quadD k z, p)) :
    cs[0]? = some (.int k z.1) ∧ cs[1]? = some (.int k z.2.1) ∧ cs[2]? = some (.int k z.2.2.1) ∧ cs[3]? = some (.int k z.2.2.2) := by
  unfold quadD at h
  cases fuel with
  | zero => simp [DataW.trod] at h
  | succ fuel =>
    simp only [DataW.trod, ht] at h
    split at h
    · obtain ⟨ys, hy, hyb⟩ := Option.map_eq_some_iff.1 h
      rw [hgs] at hy
      simp only [List.mapM_cons, List.mapM_nil, Option.bind_eq_bind, Option.bind_eq_some_iff, Option.pure_def, Option.some.injEq] at hy
      obtain ⟨y0, e0, l1, ⟨y1, e1, l2, rfl, rfl⟩, rfl⟩ := hy
      have hb1 := congrArg Prod.fst hyb
      simp only [List.map_cons, List.map_nil] at hb1
      simp only [DataW.agg.injEq, List.cons.injEq, and_true] at hb1
      obtain ⟨q0, q1⟩ := hb1
      obtain ⟨d0, p0⟩ := y0
      obtain ⟨d1, p1⟩ := y1
      simp only at q0 q1
      subst q0 q1
      rw [t0] at e0
      rw [t1] at e1
      have a := trod_pair he hfs h0 h1 k0 k1 c0 c1 e0
      have b := trod_pair he hfs h0 h1 k0 k1 c0 c1 e1
      rw [o0, ce] at a
      rw [o1, ce] at b
      simp [List.getElem?_take, List.getElem?_drop] at a b
      exact ⟨by simpa using a.1, by simpa using a.2, by simpa using b.1, by simpa using b.2⟩
    · cases h
theorem cells_of_quads {H : Type} {enc : TypeId × Value → H} {P : Program} {w : World} {base : Nat} {sp : Nat → Bool} {held : Bool} {fuel : Nat} {u t e : TypeId} {n : Nat} {k : IntKind} {cs : List Value} {zs : List (Int × Int × Int × Int)} {p : List MemPlace} {gs : Array Field} {g0 g1 : Field} {fs : Array Field} {f0 f1 : Field}
    (hu : P.underlying u = some (.array n t)) (ht : P.underlying t = some (.struct gs)) (hgs : gs.toList = [g0, g1]) (o0 : g0.offset = 0) (o1 : g1.offset = 2) (t0 : g0.type = e) (t1 : g1.type = e) (ce : P.cellsOf e = 2) (ct : P.cellsOf t = 4)
    (he : P.underlying e = some (.struct fs)) (hfs : fs.toList = [f0, f1]) (h0 : f0.offset = 0) (h1 : f1.offset = 1) (k0 : P.underlying f0.type = some (.int k)) (k1 : P.underlying f1.type = some (.int k))
    (c0 : P.cellsOf f0.type = 1) (c1 : P.cellsOf f1.type = 1)
    (h : DataW.trod enc P w base sp held fuel u cs = some (.agg (zs.map (quadD k)), p)) :
    ∀ (i : Nat) (z : Int × Int × Int × Int), zs[i]? = some z → cs[i * 4]? = some (.int k z.1) ∧ cs[i * 4 + 1]? = some (.int k z.2.1) ∧ cs[i * 4 + 2]? = some (.int k z.2.2.1) ∧ cs[i * 4 + 3]? = some (.int k z.2.2.2) := by
  cases fuel with
  | zero => simp [DataW.trod] at h
  | succ fuel =>
    simp only [DataW.trod, hu, ct] at h
    split at h
    · rename_i hl
      obtain ⟨xs, hm, hx⟩ := Option.map_eq_some_iff.1 h
      have hxs : xs.map (·.1) = zs.map (quadD (H := H) k) := by
        have := congrArg Prod.fst hx
        simpa using this
      have hxl : xs.length = n := by simpa using mapM_length hm
      have hzl : zs.length = n := by
        have := congrArg List.length hxs
        simp at this
        omega
      intro i z hz
      have hi : i < n := by
        have := (List.getElem?_eq_some_iff.1 hz).1
        omega
      obtain ⟨b, hb, hf⟩ := mapM_at hm i i (by simp [hi])
      have h2 : (xs.map (·.1))[i]? = some b.1 := by simp [hb]
      rw [hxs] at h2
      simp only [List.getElem?_map, hz, Option.map_some, Option.some.injEq] at h2
      obtain ⟨bd, bp⟩ := b
      simp only at h2
      subst h2
      have a := trod_quad ht hgs o0 o1 t0 t1 ce he hfs h0 h1 k0 k1 c0 c1 hf
      simp [List.getElem?_take, List.getElem?_drop] at a
      exact ⟨by simpa using a.1, by simpa using a.2.1, by simpa using a.2.2.1, by simpa using a.2.2.2⟩
    · cases h
theorem quads_of_laid {P : Program} {W : World} {name : String} {k : IntKind} {zs : List (Int × Int × Int × Int)} {g : Nat} {u t e : TypeId} {n : Nat} {gs : Array Field} {g0 g1 : Field} {fs : Array Field} {f0 f1 : Field}
    (hg : P.globalNamed name = some g) (hty : (P.globals[g]?).map (·.type) = some u)
    (hu : P.underlying u = some (.array n t)) (ht : P.underlying t = some (.struct gs)) (hgs : gs.toList = [g0, g1]) (o0 : g0.offset = 0) (o1 : g1.offset = 2) (t0 : g0.type = e) (t1 : g1.type = e) (ce : P.cellsOf e = 2) (ct : P.cellsOf t = 4)
    (he : P.underlying e = some (.struct fs)) (hfs : fs.toList = [f0, f1]) (h0 : f0.offset = 0) (h1 : f1.offset = 1) (k0 : P.underlying f0.type = some (.int k)) (k1 : P.underlying f1.type = some (.int k))
    (c0 : P.cellsOf f0.type = 1) (c1 : P.cellsOf f1.type = 1)
    (h : laidMet P [(name, .agg (zs.map (quadD k)))] W) (i : Nat) (z : Int × Int × Int × Int) (hz : zs[i]? = some z) :
    W.cell? ⟨g, i * 4, none⟩ = some (.int k z.1) ∧ W.cell? ⟨g, i * 4 + 1, none⟩ = some (.int k z.2.1) ∧ W.cell? ⟨g, i * 4 + 2, none⟩ = some (.int k z.2.2.1) ∧ W.cell? ⟨g, i * 4 + 3, none⟩ = some (.int k z.2.2.2) := by
  obtain ⟨ps, ⟨g', t', cs, fuel, p, q, hg', ht', hvar, hd, _, _⟩, _⟩ := h
  obtain rfl := Option.some.inj (hg.symm.trans hg')
  obtain rfl := Option.some.inj (hty.symm.trans ht')
  obtain ⟨a, b, c, d⟩ := cells_of_quads hu ht hgs o0 o1 t0 t1 ce ct he hfs h0 h1 k0 k1 c0 c1 hd i z hz
  have r0 := World.var?_cell hg hvar (i * 4)
  have r1 := World.var?_cell hg hvar (i * 4 + 1)
  have r2 := World.var?_cell hg hvar (i * 4 + 2)
  have r3 := World.var?_cell hg hvar (i * 4 + 3)
  exact ⟨by rw [r0]; simpa using a, by rw [r1]; simpa using b, by rw [r2]; simpa using c, by rw [r3]; simpa using d⟩
end Go.Proofs.YthhgmnocigekaaaGreatDoor
end
section
namespace Go.Proofs.YthhgmnocigekaaaGreatDoor
set_option linter.all false
open Go.RowKit
namespace Mini
variable {P : Program} {s s1 : St} {R W : Nat}

def rhoX (P : Program) (w : World) (ext : Nat → Option Loc) : Ren := fun b =>
  if b < P.globals.size then some ⟨b, 0, true, 0, match w.heap[b]? with | some (.cells cs _ _) => cs.size | _ => 0⟩ else ext b
theorem calls_ofX {f : FuncId} {args args' : Array Value} {v : Value} {w : World} {ext : Nat → Option Loc} (h : SndF P f args s v s1 R W) (hg : ground 8 v = true) (hn : P.globals.size ≤ s.next)
    (hh : ∀ b, b < P.globals.size → s.get b = .hole ∨ ∃ c e, s.get b = .cells c e true 0 true ∧ c ≠ [] ∧ c.all (ground 8) = true ∧ ∀ (i : Nat) (v : Value), c[i]? = some v → w.cell? ⟨b, i, none⟩ = some v)
    (hx : ∀ b, P.globals.size ≤ b → b < s.next → s.get b ≠ .hole → ∃ L o', ext b = some L ∧ (roO (s.get b) = false → P.globals.size ≤ L.blk) ∧ w.heap[L.blk]? = some o' ∧ OR (rhoX P w ext) L (s.get b) o')
    (hb : ∀ b, s.next ≤ b → ext b = none) (hi : ∀ b b' L L', P.globals.size ≤ b → P.globals.size ≤ b' → s.get b ≠ .hole → s.get b' ≠ .hole → (roO (s.get b) && roO (s.get b')) = false → ext b = some L → ext b' = some L' → L.blk = L'.blk → b = b')
    (ha : VRs (rhoX P w ext) args args') (hw : ∀ b, b < s.next → W.testBit b = false) : Calls P f args' w fun e w' => e = .returned v ∧ Below w.heap.size w w' := by
  have hG : Glob P (rhoX P w ext) := fun g hg => ⟨_, if_pos hg, rfl, rfl⟩
  have hlt : ∀ b, s.get b ≠ .hole → b < s.next := fun b hb => St.lt_of_live hb
  have hblk : ∀ b L, s.get b ≠ .hole → rhoX P w ext b = some L → (b < P.globals.size ∧ L.blk = b) ∨ (P.globals.size ≤ b ∧ ext b = some L ∧ (roO (s.get b) = false → P.globals.size ≤ L.blk)) := fun b L hb hL => by
    unfold rhoX at hL
    split at hL
    · rename_i c; cases hL; exact .inl ⟨c, rfl⟩
    · rename_i c
      obtain ⟨L2, o2, e1, e2, _⟩ := hx b (by omega) (hlt b hb) hb
      rw [hL] at e1
      cases e1
      exact .inr ⟨by omega, hL, e2⟩
  have hp : Pre P none s s1 R W none (rhoX P w ext) s.get w := by
    refine ⟨hG, trivial, fun _ _ _ => rfl, fun b h1 h2 => ⟨?_, St.get_beyond s b h1⟩, fun b hb => ?_, fun b b' L L' h1 h2 hq e1 e2 he => ?_⟩
    · show (if b < P.globals.size then _ else ext b) = none
      rw [if_neg (by omega)]
      exact hb b h1
    · by_cases c : b < P.globals.size
      · rcases hh b c with k | ⟨cs0, e, k1, k2, k3, k4⟩
        · exact absurd k hb
        · obtain ⟨cs, e', fr, q1, q2, q3⟩ := cells_of k2 k4
          refine ⟨_, .cells cs e' fr, if_pos c, q1, ?_⟩
          rw [k1]
          refine ⟨rfl, rfl, fun h => (by cases h), ?_, ?_, fun i u hi => ⟨u, by simpa using q3 i u hi, ground_refl 8 (List.all_eq_true.1 k3 u (List.mem_of_getElem? hi))⟩, fun h => (by cases h), fun h => (by cases h)⟩
          · simp only [q1]
          · simp only [q1, Nat.zero_add]; exact q2
      · obtain ⟨L, o', e1, _, e3, e4⟩ := hx b (by omega) (hlt b hb) hb
        exact ⟨L, o', by show (if b < P.globals.size then _ else ext b) = _; rw [if_neg c]; exact e1, e3, e4⟩
    · have htab : ∀ b, b < P.globals.size → s.get b ≠ .hole → roO (s.get b) = true := fun b hb hn => by
        rcases hh b hb with k | ⟨c, e, k1, _⟩
        · exact absurd k hn
        · rw [k1]; rfl
      rcases hblk b L h1 e1 with ⟨a1, a2⟩ | ⟨a1, a2, a3⟩ <;> rcases hblk b' L' h2 e2 with ⟨c1, c2⟩ | ⟨c1, c2, c3⟩
      · omega
      · rw [htab b a1 h1, Bool.true_and] at hq
        have := c3 hq
        omega
      · rw [htab b' c1 h2, Bool.and_true] at hq
        have := a3 hq
        omega
      · exact hi b b' L L' a1 c1 h1 h2 hq a2 c2 he
  refine callsIn_wide.1 (h.2 0 (rhoX P w ext) s.get args' w _ hp ha fun ρ1 v' w1 p1 _ hv => ?_)
  have hv' := ground_eq 8 hg hv
  subst hv'
  refine ⟨rfl, p1.os, p1.tape, p1.output, p1.size, fun k hk => p1.frame k hk fun b L hb hlt hL => ?_⟩
  have := hw b hlt
  rw [hb] at this
  cases this
theorem or_read {ρ : Ren} {n k : Nat} {g : Nat → Nat → Value} {e : TypeId} {cs : Array Value} {e' : TypeId} {fr : Nat × Nat} {blk base : Nat} (hl : base + n * k ≤ cs.size) (hg : ∀ i j, i < n → j < k → ground 8 (g i j) = true)
    (h : ∀ i j, i < n → j < k → cs[base + (i * k + j)]? = some (g i j)) : OR ρ ⟨blk, base, true, 0, cs.size⟩ (.rows n k g e true 0 true) (.cells cs e' fr) := by
  refine ⟨rfl, rfl, fun h => (by cases h), rfl, by rw [rowsL_len]; exact hl, fun i v hi => ?_, fun h => (by cases h), fun h => (by cases h)⟩
  have hlt : i < n * k := by
    have := (List.getElem?_eq_some_iff.1 hi).1
    rwa [rowsL_len] at this
  rw [rowsL_at hlt] at hi
  cases hi
  have hk : 0 < k := by
    rcases Nat.eq_zero_or_pos k with z | z
    · subst z; simp at hlt
    · exact z
  have h1 := (Nat.div_lt_iff_lt_mul hk).2 hlt
  have h2 := Nat.mod_lt i hk
  have h3 := h _ _ h1 h2
  rw [Nat.mul_comm, Nat.div_add_mod] at h3
  exact ⟨_, h3, ground_refl 8 (hg _ _ h1 h2)⟩
end Mini
end Go.Proofs.YthhgmnocigekaaaGreatDoor
end
section
namespace Go.Proofs.YthhgmnocigekaaaGreatDoor
set_option linter.all false
open Go.ChangeShapes Go.WideShapes Go.ChangeAt Go.RowKit Go.Lib Go.Deep
namespace Mini
def RowsAt (W : World) (ks : List IntKind) (v : Value) : Prop := v = .slice none 0 0 ∨ ∃ (b off len cap : Nat) (g : Nat → Nat → Int), v = .slice (some ⟨b, off, none⟩) len cap ∧ len ≤ cap ∧ cap ≤ maxLen ∧
  ∀ i j, i < len → j < ks.length → W.cell? ⟨b, off + (i * ks.length + j), none⟩ = some (.int (ks.getD j .i64) (g i j)) ∧ (Lit.int (ks.getD j .i64) (g i j)).wf = true
theorem wfs_at : ∀ {ks : List IntKind} {ns : List Int} {j : Nat}, ns.length = ks.length → wfs ks ns = true → j < ks.length → (Lit.int (ks.getD j .i64) (ns.getD j 0)).wf = true
  | [], _, j, _, _, h => absurd h (by simp)
  | k :: ks, [], j, h, _, _ => by cases h
  | k :: ks, n :: ns, 0, _, h, _ => by simp only [wfs, Bool.and_eq_true] at h; exact h.1
  | k :: ks, n :: ns, j + 1, hl, h, hj => by
    simp only [wfs, Bool.and_eq_true] at h
    have := wfs_at (ks := ks) (ns := ns) (j := j) (by simpa using hl) h.2 (by simpa using hj)
    simpa using this
theorem backI_at : ∀ {ks : List IntKind} {ns : List Int} {j : Nat}, ns.length = ks.length → j < ks.length → (backI ks ns)[j]? = some (.int (ks.getD j .i64) (ns.getD j 0))
  | [], _, j, _, h => absurd h (by simp)
  | k :: ks, [], j, h, _ => by cases h
  | k :: ks, n :: ns, 0, _, _ => rfl
  | k :: ks, n :: ns, j + 1, hl, hj => by
    have := backI_at (ks := ks) (ns := ns) (j := j) (by simpa using hl) (by simpa using hj)
    simpa [backI] using this
theorem rows_of {H : Type} {enc : TypeId × Value → H} {P : Program} {W : World} {base m : Nat} {t e : TypeId} {v : Value} {d : DataW H} {p : List MemPlace} {ks : List IntKind} (ht : P.underlying t = some (.slice e)) (hk : kindsT P m e = some ks) (hc : P.cellsOf e = ks.length)
    (hv : Value.okWide P W .any base t v) (h : DataW.Trod enc P W 0 (fun _ => true) true t v d p) : RowsAt W ks v := by
  obtain ⟨a, len, cap, rfl⟩ := okWide_slice ht hv
  obtain ⟨fuel, hf⟩ := h
  rcases open_slice ht hf with ⟨hcs, _⟩ | ⟨a', len', cap', m', n, D, Pl, hcs, _, hl, hmx, hm, _, hx⟩
  · left
    simpa [Value.cells] using hcs
  · right
    have hcs : Value.slice a len cap = .slice (some a') len' cap' := by simpa [Value.cells] using hcs
    cases hcs
    simp only [Value.okWide, ht, Cell.okWide, Cell.ok, World.has] at hv
    obtain ⟨b, off, spot⟩ := a'
    have hs : spot = none := hv.2.2.2.1
    subst hs
    have hm' : len ≤ m' := by rw [hm]; exact hl
    have z0 : ∀ i, ∃ ns : List Int, i < len → ns.length = ks.length ∧ wfs ks ns = true ∧ ∀ j, j < ks.length → W.cell? ⟨b, off + (i * ks.length + j), none⟩ = (backI ks ns)[j]? := fun i => by
      by_cases hi : i < len
      · obtain ⟨cs', q1, q2⟩ := hx i (by omega)
        rw [hc] at q1
        obtain ⟨_, hlen, hcell⟩ := World.cells?_some q1
        obtain ⟨_, ns, l1, c1, f1, _⟩ := open_kinds m e ks hk n cs' (D i) (Pl i) W 0 (fun _ => true) true q2
        refine ⟨ns, fun _ => ⟨l1, f1, fun j hj => ?_⟩⟩
        have h2 := hcell j hj
        rw [Go.WideShapes.add_plain, Go.WideShapes.add_plain] at h2
        rw [← c1, ← h2]
        congr 2
        omega
      · exact ⟨[], fun h => absurd h hi⟩
    refine ⟨b, off, len, cap, fun i j => (Classical.choose (z0 i)).getD j 0, rfl, hl, hmx, fun i j hi hj => ?_⟩
    obtain ⟨e1, e2, e3⟩ := Classical.choose_spec (z0 i) hi
    exact ⟨(e3 j hj).trans (backI_at e1 hj), wfs_at e1 e2 hj⟩
def extAt (N b off sz : Nat) : Nat → Option Mini.Loc := fun x => if x = N then some ⟨b, off, true, 0, sz⟩ else none
theorem cell_obj {W : World} {b off : Nat} {v : Value} (h : W.cell? ⟨b, off, none⟩ = some v) : ∃ cs e fr, W.heap[b]? = some (.cells cs e fr) ∧ cs[off]? = some v := by
  unfold World.cell? at h
  split at h
  · rename_i c e fr hc
    exact ⟨c, e, fr, hc, by simpa using h⟩
  · cases h
theorem vrs_one {ρ : Ren} {pre post : List Value} {u u' : Value} (h1 : pre.all (ground 8) = true) (h2 : post.all (ground 8) = true) (hu : VR ρ u u') : VRs ρ (pre ++ u :: post).toArray (pre ++ u' :: post).toArray := by
  refine ⟨by simp, fun i x x' e1 e2 => ?_⟩
  simp only [List.getElem?_toArray] at e1 e2
  rw [List.all_eq_true] at h1 h2
  rcases Nat.lt_trichotomy i pre.length with c | c | c
  · rw [List.getElem?_append_left c] at e1 e2
    rw [e1] at e2
    cases e2
    exact ground_refl 8 (h1 _ (List.mem_of_getElem? e1))
  · rw [List.getElem?_append_right (by omega)] at e1 e2
    rw [c, Nat.sub_self] at e1 e2
    cases e1
    cases e2
    exact hu
  · rw [List.getElem?_append_right (by omega)] at e1 e2
    obtain ⟨q, hq⟩ : ∃ q, i - pre.length = q + 1 := ⟨i - pre.length - 1, by omega⟩
    rw [hq] at e1 e2
    simp only [List.getElem?_cons_succ] at e1 e2
    rw [e1] at e2
    cases e2
    exact ground_refl 8 (h2 _ (List.mem_of_getElem? e1))
theorem calls_row1 {P : Program} {f : FuncId} {S0 : St} {W : World} {ks : List IntKind} {pre post : List Value} {v0 : Value} {G : (Nat → Nat → Int) → Nat → Nat → Value} (hh : Holds P S0 W) (hn : S0.next = P.globals.size) (hw0 : ∀ b, b < P.globals.size → b < S0.next)
    (hp1 : pre.all (ground 8) = true) (hp2 : post.all (ground 8) = true) (hG : ∀ g i j, j < ks.length → G g i j = .int (ks.getD j .i64) (g i j)) (hk : 0 < ks.length) (hv : RowsAt W ks v0)
    (hnil : ∃ s1 R, SndF P f (pre ++ .slice none 0 0 :: post).toArray S0 (.bool true) s1 R 0)
    (hemp : ∀ c, ∃ s1 R, SndF P f (pre ++ .slice (some ⟨S0.next, 0, none⟩) 0 c :: post).toArray (S0.push .hole) (.bool true) s1 R 0)
    (hrow : ∀ n c g, 0 < n → n ≤ c → c ≤ maxLen → (∀ i j, i < n → j < ks.length → (Lit.int (ks.getD j .i64) (g i j)).wf = true) → ∃ s1 R, SndF P f (pre ++ .slice (some ⟨S0.next, 0, none⟩) n c :: post).toArray (S0.push (.rows n ks.length (G g) 0 true 0 true)) (.bool true) s1 R 0) :
    Calls P f (pre ++ v0 :: post).toArray W fun e W' => e = .returned (.bool true) ∧ Below W.heap.size W W' := by
  have hold : ∀ (o : MObj) b, b < P.globals.size → (S0.push o).get b = S0.get b := fun o b hb => St.get_push_old S0 o b (hw0 b hb)
  have hnx : ∀ o : MObj, (S0.push o).next = S0.next + 1 := fun o => rfl
  have hnew : ∀ o : MObj, (S0.push o).get S0.next = o := fun o => St.get_push_new S0 o
  rcases hv with rfl | ⟨b, off, len, cap, g, rfl, hl, hmx, hc⟩
  · obtain ⟨s1, R, h⟩ := hnil
    exact calls_of h rfl (by simp only [List.all_append, List.all_cons, hp1, hp2, ground, Bool.and_self]) (fun b _ => by simp) hh
  · rcases Nat.eq_zero_or_pos len with z | z
    · subst z
      obtain ⟨s1, R, h⟩ := hemp cap
      refine calls_ofX (ext := extAt S0.next b off 0) h rfl (by rw [hnx]; omega) (fun x hx => by rw [hold _ x hx]; exact hh.holds x hx) (fun x h1 h2 h3 => ?_) (fun x hx => if_neg (by rw [hnx] at hx; omega)) (fun x y L L' h1 h2 h3 h4 _ h5 h6 _ => ?_) (vrs_one hp1 hp2 ?_) (fun x _ => by simp)
      · rw [hnx] at h2
        have : x = S0.next := by omega
        subst this
        exact absurd (hnew _) h3
      · unfold extAt at h5 h6
        split at h5
        · split at h6
          · omega
          · cases h6
        · cases h5
      · exact .slice S0.next 0 0 cap cap ⟨b, off, true, 0, 0⟩ (by unfold rhoX; rw [if_neg (by omega)]; exact if_pos rfl) (.inl rfl)
    · obtain ⟨s1, R, h⟩ := hrow len cap g z hl hmx (fun i j hi hj => (hc i j hi hj).2)
      have c0 := (hc 0 0 z hk).1
      obtain ⟨cs, e', fr, ho, _⟩ := cell_obj c0
      have hcs : ∀ i j, i < len → j < ks.length → cs[off + (i * ks.length + j)]? = some (G g i j) := fun i j hi hj => by
        obtain ⟨c1, e1, f1, o1, r1⟩ := cell_obj (hc i j hi hj).1
        rw [ho] at o1
        cases o1
        rw [hG g i j hj]
        exact r1
      have hsize : off + len * ks.length ≤ cs.size := by
        have := (Array.getElem?_eq_some_iff.1 (hcs (len - 1) (ks.length - 1) (by omega) (by omega))).1
        have e1 : (len - 1) * ks.length + ks.length = len * ks.length := by
          obtain ⟨q, rfl⟩ : ∃ q, len = q + 1 := ⟨len - 1, by omega⟩
          simp [Nat.succ_mul]
        omega
      refine calls_ofX (ext := extAt S0.next b off cs.size) h rfl (by rw [hnx]; omega) (fun x hx => by rw [hold _ x hx]; exact hh.holds x hx) (fun x h1 h2 h3 => ?_) (fun x hx => if_neg (by rw [hnx] at hx; omega)) (fun x y L L' h1 h2 h3 h4 _ h5 h6 _ => ?_) (vrs_one hp1 hp2 ?_) (fun x _ => by simp)
      · rw [hnx] at h2
        have : x = S0.next := by omega
        subst this
        have hr := hnew (.rows len ks.length (G g) 0 true 0 true)
        refine ⟨⟨b, off, true, 0, cs.size⟩, .cells cs e' fr, if_pos rfl, fun h => ?_, ho, ?_⟩
        · rw [hr] at h; cases h
        · rw [hr]
          exact or_read hsize (fun i j _ hj => by rw [hG g i j hj]; rfl) fun i j hi hj => hcs i j hi hj
      · unfold extAt at h5 h6
        split at h5
        · split at h6
          · omega
          · cases h6
        · cases h5
      · exact .slice S0.next 0 len cap cap ⟨b, off, true, 0, cs.size⟩ (by unfold rhoX; rw [if_neg (by omega)]; exact if_pos rfl) (.inl rfl)
theorem calls_row1o {P : Program} {f : FuncId} {S0 : St} {W : World} {ks : List IntKind} {pre post : List Value} {v0 : Value} {G : (Nat → Nat → Int) → Nat → Nat → Value} (hh : Holds P S0 W) (hn : S0.next = P.globals.size) (hw0 : ∀ b, b < P.globals.size → b < S0.next)
    (hp1 : pre.all (ground 8) = true) (hp2 : post.all (ground 8) = true) (hG : ∀ g i j, j < ks.length → G g i j = .int (ks.getD j .i64) (g i j)) (hk : 0 < ks.length) (hv : RowsAt W ks v0)
    (hnil : ∃ s1 R, SndF P f (pre ++ .slice none 0 0 :: post).toArray S0 (.bool true) s1 R 0)
    (hemp : ∀ c, ∃ s1 R, SndF P f (pre ++ .slice (some ⟨S0.next, 0, none⟩) 0 c :: post).toArray (S0.push .hole) (.bool true) s1 R 0)
    (hrow : ∀ n c g, 0 < n → n ≤ c → c ≤ maxLen → (∀ i j, i < n → j < ks.length → (Lit.int (ks.getD j .i64) (g i j)).wf = true) → ∃ o s1 R, (o = .rows n ks.length (G g) 0 true 0 true ∨ o = .cells (rowsL n ks.length (G g)) 0 true 0 true) ∧ SndF P f (pre ++ .slice (some ⟨S0.next, 0, none⟩) n c :: post).toArray (S0.push o) (.bool true) s1 R 0) :
    Calls P f (pre ++ v0 :: post).toArray W fun e W' => e = .returned (.bool true) ∧ Below W.heap.size W W' := by
  have hold : ∀ (o : MObj) b, b < P.globals.size → (S0.push o).get b = S0.get b := fun o b hb => St.get_push_old S0 o b (hw0 b hb)
  have hnx : ∀ o : MObj, (S0.push o).next = S0.next + 1 := fun o => rfl
  have hnew : ∀ o : MObj, (S0.push o).get S0.next = o := fun o => St.get_push_new S0 o
  rcases hv with rfl | ⟨b, off, len, cap, g, rfl, hl, hmx, hc⟩
  · obtain ⟨s1, R, h⟩ := hnil
    exact calls_of h rfl (by simp only [List.all_append, List.all_cons, hp1, hp2, ground, Bool.and_self]) (fun b _ => by simp) hh
  · rcases Nat.eq_zero_or_pos len with z | z
    · subst z
      obtain ⟨s1, R, h⟩ := hemp cap
      refine calls_ofX (ext := extAt S0.next b off 0) h rfl (by rw [hnx]; omega) (fun x hx => by rw [hold _ x hx]; exact hh.holds x hx) (fun x h1 h2 h3 => ?_) (fun x hx => if_neg (by rw [hnx] at hx; omega)) (fun x y L L' h1 h2 h3 h4 _ h5 h6 _ => ?_) (vrs_one hp1 hp2 ?_) (fun x _ => by simp)
      · rw [hnx] at h2
        have : x = S0.next := by omega
        subst this
        exact absurd (hnew _) h3
      · unfold extAt at h5 h6
        split at h5
        · split at h6
          · omega
          · cases h6
        · cases h5
      · exact .slice S0.next 0 0 cap cap ⟨b, off, true, 0, 0⟩ (by unfold rhoX; rw [if_neg (by omega)]; exact if_pos rfl) (.inl rfl)
    · obtain ⟨o, s1, R, hobj, h⟩ := hrow len cap g z hl hmx (fun i j hi hj => (hc i j hi hj).2)
      have c0 := (hc 0 0 z hk).1
      obtain ⟨cs, e', fr, ho, _⟩ := cell_obj c0
      have hcs : ∀ i j, i < len → j < ks.length → cs[off + (i * ks.length + j)]? = some (G g i j) := fun i j hi hj => by
        obtain ⟨c1, e1, f1, o1, r1⟩ := cell_obj (hc i j hi hj).1
        rw [ho] at o1
        cases o1
        rw [hG g i j hj]
        exact r1
      have hsize : off + len * ks.length ≤ cs.size := by
        have := (Array.getElem?_eq_some_iff.1 (hcs (len - 1) (ks.length - 1) (by omega) (by omega))).1
        have e1 : (len - 1) * ks.length + ks.length = len * ks.length := by
          obtain ⟨q, rfl⟩ : ∃ q, len = q + 1 := ⟨len - 1, by omega⟩
          simp [Nat.succ_mul]
        omega
      refine calls_ofX (ext := extAt S0.next b off cs.size) h rfl (by rw [hnx]; omega) (fun x hx => by rw [hold _ x hx]; exact hh.holds x hx) (fun x h1 h2 h3 => ?_) (fun x hx => if_neg (by rw [hnx] at hx; omega)) (fun x y L L' h1 h2 h3 h4 _ h5 h6 _ => ?_) (vrs_one hp1 hp2 ?_) (fun x _ => by simp)
      · rw [hnx] at h2
        have : x = S0.next := by omega
        subst this
        have hr := hnew o
        have hro := or_read (ρ := rhoX P W (extAt S0.next b off cs.size)) (e := 0) (blk := b) (e' := e') (fr := fr) hsize (fun i j _ hj => by rw [hG g i j hj]; rfl) fun i j hi hj => hcs i j hi hj
        refine ⟨⟨b, off, true, 0, cs.size⟩, .cells cs e' fr, if_pos rfl, fun h => ?_, ho, ?_⟩
        · rw [hr] at h
          rcases hobj with rfl | rfl <;> cases h
        · rw [hr]
          rcases hobj with rfl | rfl
          · exact hro
          · exact Mini.or_congr (show nrm (.rows len ks.length (G g) 0 true 0 true) = nrm (.cells (rowsL len ks.length (G g)) 0 true 0 true) from rfl) hro
      · unfold extAt at h5 h6
        split at h5
        · split at h6
          · omega
          · cases h6
        · cases h5
      · exact .slice S0.next 0 len cap cap ⟨b, off, true, 0, cs.size⟩ (by unfold rhoX; rw [if_neg (by omega)]; exact if_pos rfl) (.inl rfl)
end Mini
end Go.Proofs.YthhgmnocigekaaaGreatDoor
end
section
set_option linter.all false
set_option maxRecDepth 1000000
open Go.RowKit
namespace Go.Proofs.YthhgmnocigekaaaGreatDoor
open Mini
theorem awn : aw5S0.next = Tryz.prog.globals.size := by kernel_rfl
theorem ls_calls {W : World} (hh : Holds Tryz.prog aw5S0 W) (v0 : Value) (sd sg sr x : Int) (hv : RowsAt W [.i64] v0) :
    Calls Tryz.prog 4 #[.agg #[.int .i64 sd, .int .i64 sg, .int .i64 sr], .int .i64 x, v0] W fun e W' => e = .returned (.bool true) ∧ Below W.heap.size W W' := by
  refine calls_row1 (pre := [.agg #[.int .i64 sd, .int .i64 sg, .int .i64 sr], .int .i64 x]) (post := []) (G := fun g i j => .int .i64 (g i j)) hh awn (fun b hb => by rw [awn]; exact hb) rfl rfl (fun g i j hj => ?_) (by decide) hv ?_ (fun c => ?_) (fun n c g h0 _ _ _ => ?_)
  · match j, hj with
    | 0, _ => rfl
  · exact ls_nil sd sg sr x
  · exact ls_emp sd sg sr x c
  · exact ls_true sd sg sr x n c g h0
end Go.Proofs.YthhgmnocigekaaaGreatDoor
end
section
set_option linter.all false
namespace Go.Proofs.YthhgmnocigekaaaGreatDoor.flowSupports
open Go.ChangeShapes Go.WideShapes Go.ChangeAt Go.RowKit Mini

theorem own : ownKnob Tryz.prog.godebug = none := by kernel_rfl
theorem gt0N : Tryz.prog.globalNamed "internal/strconv.uint64pow10" = some 0 := by kernel_rfl
theorem gt0T : (Tryz.prog.globals[0]?).map (·.type) = some 255 := by kernel_rfl
def t0 : List Int := (List.range 20).map fun i => ((10 ^ i : Nat) : Int)
theorem onet0 : (Rows.flowSupportsRow.laid.filter fun x => x.1 == "internal/strconv.uint64pow10") = [("internal/strconv.uint64pow10", Lib.tabData .u64 t0)] := by kernel_rfl
theorem cellst0 {W : World} (h : laidMetH Tryz.prog Rows.flowSupportsRow.laid W) (i : Nat) (hi : i < 20) : W.cell? ⟨0, i, none⟩ = some (.int .u64 (t0.getD i 0)) := by
  have h1 := laidMetH.filter (P := Tryz.prog) (fun x => x.1 == "internal/strconv.uint64pow10") h
  rw [onet0] at h1
  exact (Lib.tabIs_of_head (rest := []) gt0N gt0T Tryz.underlying255 Tryz.underlying216 (by kernel_rfl) (by kernel_rfl) h1).cell gt0N i (by simpa [t0] using hi)
theorem s0t0 : aw5S0.get 0 = .cells (t0.map fun n => Value.int .u64 n) 255 true 0 true := by kernel_rfl
theorem holds0 {W : World} (h : laidMetH Tryz.prog Rows.flowSupportsRow.laid W) : Holds Tryz.prog aw5S0 W := by
  refine ⟨by kernel_rfl, fun b hb => ?_⟩
  rw [show Tryz.prog.globals.size = 4 by kernel_rfl] at hb
  match b, hb with
  | 0, _ =>
    refine .inr ⟨_, _, s0t0, by simp [t0], by kernel_rfl, fun i v hi => ?_⟩
    have hlt : i < 20 := by
      have := (List.getElem?_eq_some_iff.1 hi).1
      simpa [t0] using this
    rw [cellst0 h i hlt]
    simp only [List.getElem?_map, Option.map_eq_some_iff] at hi
    obtain ⟨a, h1, rfl⟩ := hi
    simp [List.getD, h1]
  | 1, _ => exact .inl (by kernel_rfl)
  | 2, _ => exact .inl (by kernel_rfl)
  | 3, _ => exact .inl (by kernel_rfl)
  | b + 4, hb => omega

set_option maxRecDepth 100000 in
theorem contract (H : Type) (enc : TypeId × Value → H) (W : World) (base : Nat) (args : Array Value) (ds gs : List (DataW H)) (before : List MemPlace)
    (hval : ∀ (j : Nat) t v, Tryz.f4.params[j]? = some t → args[j]? = some v → Value.okWide Tryz.prog W .any base t v)
    (hW : DataW.Whole enc Tryz.prog Tryz.f4.params.toList Rows.flowSupportsSpec.vars false W args.toList ds gs before) (hL : laidMetH Tryz.prog Rows.flowSupportsRow.laid W) :
    Calls Tryz.prog 4 args W fun e W' => ∃ v, e = .returned v ∧ Rows.flowSupportsSpec.post enc Tryz.prog Tryz.f4 false true false false W args v W' := by
  have hW' := hW
  obtain ⟨p, q, hA0, hV, rfl, hfz, hnd⟩ := hW
  have hA : DataW.TrodAll enc Tryz.prog W 0 (fun _ => true) true Tryz.f4.params.toList args.toList ds p := hA0
  rw [Tryz.params4] at hA hval
  obtain ⟨v0, vs0, d0, ds0, p0, q0, hargs, rfl, rfl, h0, r0⟩ := trodAll_cons hA
  obtain ⟨v1, vs1, d1, ds1, p1, q1, rfl, rfl, rfl, h1, r1⟩ := trodAll_cons r0
  obtain ⟨v2, vs2, d2, ds2, p2, q2, rfl, rfl, rfl, h2, r2⟩ := trodAll_cons r1
  obtain ⟨rfl, rfl, rfl⟩ := trodAll_nil r2
  obtain rfl : args = #[v0, v1, v2] := by apply Array.ext'; simpa using hargs
  obtain ⟨rfl, rfl⟩ := trodVars_none hV
  obtain ⟨ns0, l0, rfl, rfl, f0, t0⟩ := open_agg (n := 6) (ks := [.i64, .i64, .i64]) (by kernel_rfl) (by kernel_rfl) (hval 0 46 v0 rfl rfl) h0
  have l0_0 : ns0.length = 3 := l0
  clear l0
  obtain ⟨x0_0, ns0_0, rfl, l0_1⟩ := len_cons l0_0
  obtain ⟨x0_1, ns0_1, rfl, l0_2⟩ := len_cons l0_1
  obtain ⟨x0_2, ns0_2, rfl, l0_3⟩ := len_cons l0_2
  obtain rfl := len_nil l0_3
  obtain ⟨x1, rfl, rfl, f1, t1⟩ := open_num Tryz.underlying3 (hval 1 3 v1 rfl rfl) h1
  have hk2 := h2
  have o2 := rows_of (P := Tryz.prog) (m := 6) (ks := [.i64]) Tryz.underlying24 (by kernel_rfl) (by kernel_rfl) (hval 2 24 v2 rfl rfl) h2
  clear hA0
  simp only [List.append_nil] at hW'
  refine (ls_calls (holds0 hL) v2 x0_0 x0_1 x0_2 x1 o2).mono fun e W' ⟨he, hb⟩ => ?_
  subst he
  exact ⟨_, rfl, post_below (pa := [] ++ ([] ++ (p2 ++ []))) (pv := []) hW' (ok_one (by kernel_rfl) rfl (okWide_bool_mk Tryz.underlying4 _)) (fun _ _ _ => trodAll_cons_mk (shut_bool Tryz.underlying4 _) trodAll_mk0)
    (fun sp hsp => trodAll_cons_mk (t0 _ _ _ _) (trodAll_cons_mk (t1 _ _ _ _) (trodAll_cons_mk (WideElems.Trod_stays (P := Tryz.prog) (by kernel_rfl) (by kernel_rfl) (of_decide_eq_true (by kernel_rfl)) hk2 (fun x hx => hb.same (hW'.lt x (by simp [hx]))) (fun x hx => hsp x (by simp [hx]))) (trodAll_mk0))))
    (fun _ _ => rfl) (by simp) hb⟩

def setTab (b : Nat) (cs : Array Value) (h : Array Obj) : Array Obj := h.modify b fun
  | .cells _ t frozen => .cells cs t frozen
  | o => o
noncomputable def laidWorld (os : Os) : World :=
  { World.holding Tryz.prog os ⟨#[], #[], []⟩ with heap := setTab 3 #[.int .u8 (0), .int .u8 (1), .int .u8 (56), .int .u8 (2), .int .u8 (57), .int .u8 (49), .int .u8 (28), .int .u8 (3), .int .u8 (61), .int .u8 (58), .int .u8 (42), .int .u8 (50), .int .u8 (38), .int .u8 (29), .int .u8 (17), .int .u8 (4), .int .u8 (62), .int .u8 (47), .int .u8 (59), .int .u8 (36), .int .u8 (45), .int .u8 (43), .int .u8 (51), .int .u8 (22), .int .u8 (53), .int .u8 (39), .int .u8 (33), .int .u8 (30), .int .u8 (24), .int .u8 (18), .int .u8 (12), .int .u8 (5), .int .u8 (63), .int .u8 (55), .int .u8 (48), .int .u8 (27), .int .u8 (60), .int .u8 (41), .int .u8 (37), .int .u8 (16), .int .u8 (46), .int .u8 (35), .int .u8 (44), .int .u8 (21), .int .u8 (52), .int .u8 (32), .int .u8 (23), .int .u8 (11), .int .u8 (54), .int .u8 (26), .int .u8 (40), .int .u8 (15), .int .u8 (34), .int .u8 (20), .int .u8 (31), .int .u8 (10), .int .u8 (25), .int .u8 (14), .int .u8 (19), .int .u8 (9), .int .u8 (13), .int .u8 (8), .int .u8 (7), .int .u8 (6)] (setTab 2 #[.int .u8 (0), .int .u8 (1), .int .u8 (28), .int .u8 (2), .int .u8 (29), .int .u8 (14), .int .u8 (24), .int .u8 (3), .int .u8 (30), .int .u8 (22), .int .u8 (20), .int .u8 (15), .int .u8 (25), .int .u8 (17), .int .u8 (4), .int .u8 (8), .int .u8 (31), .int .u8 (27), .int .u8 (13), .int .u8 (23), .int .u8 (21), .int .u8 (19), .int .u8 (16), .int .u8 (7), .int .u8 (26), .int .u8 (12), .int .u8 (18), .int .u8 (6), .int .u8 (11), .int .u8 (5), .int .u8 (10), .int .u8 (9)] (setTab 0 #[.int .u64 (1), .int .u64 (10), .int .u64 (100), .int .u64 (1000), .int .u64 (10000), .int .u64 (100000), .int .u64 (1000000), .int .u64 (10000000), .int .u64 (100000000), .int .u64 (1000000000), .int .u64 (10000000000), .int .u64 (100000000000), .int .u64 (1000000000000), .int .u64 (10000000000000), .int .u64 (100000000000000), .int .u64 (1000000000000000), .int .u64 (10000000000000000), .int .u64 (100000000000000000), .int .u64 (1000000000000000000), .int .u64 (10000000000000000000)] ((World.holding Tryz.prog os ⟨#[], #[], []⟩).heap))) }
def wArgs : Array Value := #[.agg #[.int .i64 0, .int .i64 0, .int .i64 0], .int .i64 0, .slice none 0 0]
theorem laid_met (os : Os) : laidMet Tryz.prog Rows.flowSupportsRow.laid ((laidWorld os).forCall (fun _ _ => 0) ⟨#[], wArgs, []⟩).memory :=
  laidMet_of_run' 8 (by kernel_rfl) (by kernel_rfl)
theorem reads (os : Os) {H : Type} (enc : TypeId × Value → H) : ∃ places, DataW.whole enc Tryz.prog ((laidWorld os).forCall (fun _ _ => 0) ⟨#[], wArgs, []⟩).memory Tryz.f4.params.toList Rows.flowSupportsSpec.vars false wArgs.toList 8 = some ([.agg [.lit (.int .i64 0), .lit (.int .i64 0), .lit (.int .i64 0)], .lit (.int .i64 0), .nil], [], places) :=
  ⟨[], by kernel_rfl⟩
set_option maxRecDepth 100000 in
theorem lifted (os : Os) (started : os.Started) (H : Type) (enc : TypeId × Value → H) (F : Stop.Interp) :
    ReturnsInHanded {} Tryz.checked os 4 .any ((OpenSpec.ofChange Rows.flowSupportsSpec).preRow enc Tryz.prog Tryz.f4 Rows.flowSupportsRow.domain false Rows.flowSupportsRow.laid) (((OpenSpec.ofChange Rows.flowSupportsSpec).at F).post enc Tryz.prog Tryz.f4 false true false false) := by
  obtain ⟨places, hx⟩ := reads os enc
  refine returnsInHanded_of_row (C := Tryz.checked) (s := OpenSpec.ofChange Rows.flowSupportsSpec) own started (by kernel_rfl) Tryz.func4
    (witness_row_at (enc := enc) (C := Tryz.checked) false (laidWorld os) wArgs rfl (by kernel_rfl) (by kernel_rfl) (by kernel_rfl)
      (OpenSpec.preRow_of_cond 8 hx (by kernel_rfl) (fun k hk => by cases hk) (by kernel_rfl) (laid_met os))) ?_
  intro W base args ds gs before hval hW _ _ _ hL _ _
  exact contract H enc W base args ds gs before hval hW hL
theorem said : Rows.FlowSupportsSaid :=
  OpenClaim.holds_of_cond 4 Tryz.f4 rfl rfl rfl rfl rfl rfl rfl ⟨rfl, rfl, rfl, rfl, rfl⟩ rfl rfl rfl rfl rfl (by kernel_rfl) Tryz.func4 (by kernel_rfl)
    (of_decide_eq_true (by kernel_rfl)) (by unfold Func.isWrapper; first | (rw [if_pos (by decide +kernel)]; kernel_rfl) | (rw [if_neg (by decide +kernel)]; exact ⟨rfl, rfl⟩))
    (fun os started H enc _ F => by rw [OpenClaim.pre_eq_preRow]; exact lifted os started H enc F)
theorem plain (f : FuncId) (fn : Func) (hf : Tryz.pinned.checked.prog.funcNamed "bipole/bipolelaw05.FlowSupports" = some f) (hfn : Tryz.pinned.checked.prog.funcs[f]? = some fn) :
    false = Tryz.pinned.checked.prog.looks [] ∧ ∀ (j : Nat) t, fn.params[j]? = some t → Tryz.pinned.checked.prog.wantsStandIn t = false := by
  obtain rfl : f = 4 := Option.some.inj ((show Tryz.prog.funcNamed "bipole/bipolelaw05.FlowSupports" = some 4 by kernel_rfl).symm.trans hf) |>.symm
  obtain rfl : fn = Tryz.f4 := (Option.some.inj (Tryz.func4.symm.trans hfn)).symm
  refine ⟨by kernel_rfl, fun j t ht => ?_⟩
  rw [Tryz.params4] at ht
  have hm : t = 46 ∨ t = 3 ∨ t = 24 := by simpa using Array.mem_of_getElem? ht
  rcases hm with rfl | rfl | rfl
  · exact (show Tryz.prog.wantsStandIn 46 = false by kernel_rfl)
  · exact (show Tryz.prog.wantsStandIn 3 = false by kernel_rfl)
  · exact (show Tryz.prog.wantsStandIn 24 = false by kernel_rfl)
theorem card : Rows.FlowSupportsCardSaid :=
  Claim7.holds_tied_plain_at .later [] _ _ _ _ said (fun _ h => by cases h) (by kernel_rfl) (fun _ h => by cases h) flowSupports_row_tie rfl ⟨rfl, rfl⟩ (by kernel_rfl) rfl plain (by kernel_rfl)
end Go.Proofs.YthhgmnocigekaaaGreatDoor.flowSupports
end
