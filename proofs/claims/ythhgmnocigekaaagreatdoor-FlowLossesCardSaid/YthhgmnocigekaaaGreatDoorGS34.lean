/-
  The law FlowLosses in each real world.
  Slices of numbers (or of structs and arrays of numbers) as arguments: what the program reads of them; a law over a row in the small world holds in the real one.
  From a call in the small world to a real one whose arguments lie in memory.
  Tables of structures of two pairs on a row's list.
  The last step of a row whose call leaves a world of which only 'Below' is known; tables of pairs on a row's list.
  Arguments that are made of integers alone (numbers, arrays and structs of them, in any depth), opened: their cells are numbers, and their data is the same in each world.
  The law FlowLosses: it returns true over any row, and over none.
  The ways through the law FlowLosses.
  THE SMALL WORLD: a known function without arguments where tables of integers and of strings hold.
  A law reckoned in the small world: what it answers and what must hold, told apart.
  The whole.
-/
import Derived.Test.YthhgmnocigekaaaGreatDoorGS5
import Derived.Test.YthhgmnocigekaaaGreatDoorGS6
import Derived.Test.YthhgmnocigekaaaGreatDoorGS7
import Derived.Test.YthhgmnocigekaaaGreatDoorGS8
import Derived.Test.YthhgmnocigekaaaGreatDoorGS9
import Derived.Test.YthhgmnocigekaaaGreatDoorGS10
import Derived.Test.YthhgmnocigekaaaGreatDoorGS11
import Derived.Test.YthhgmnocigekaaaGreatDoorGS12
import Derived.Test.YthhgmnocigekaaaGreatDoorGS13
import Derived.Test.YthhgmnocigekaaaGreatDoorGS14
import Derived.Test.YthhgmnocigekaaaGreatDoorGS15
import Derived.Test.YthhgmnocigekaaaGreatDoorGS16
import Derived.Test.YthhgmnocigekaaaGreatDoorGS17
import Derived.Test.YthhgmnocigekaaaGreatDoorGS18
import Derived.Test.YthhgmnocigekaaaGreatDoorGS19
import Derived.Test.YthhgmnocigekaaaGreatDoorGS20
import Derived.Test.YthhgmnocigekaaaGreatDoorGS21
import Derived.Test.YthhgmnocigekaaaGreatDoorGS22
import Derived.Test.YthhgmnocigekaaaGreatDoorGS23
import Derived.Test.YthhgmnocigekaaaGreatDoorGS24
import Derived.Test.YthhgmnocigekaaaGreatDoorGS25
import Derived.Test.YthhgmnocigekaaaGreatDoorGS26
import Derived.Test.YthhgmnocigekaaaGreatDoorGS27
import Derived.Test.YthhgmnocigekaaaGreatDoorGS28
import Derived.Test.YthhgmnocigekaaaGreatDoorGS29
import Derived.Test.YthhgmnocigekaaaGreatDoorGS30
import Derived.Test.YthhgmnocigekaaaGreatDoorGS31
import Derived.Test.YthhgmnocigekaaaGreatDoorGS32
import Derived.Test.YthhgmnocigekaaaGreatDoorGS33
import Derived.Test.YthhgmnocigekaaaGreatDoorGS2
import Derived.Test.YthhgmnocigekaaaGreatDoorGS3
import Derived.OpenShut
import Derived.RowKit
import Derived.WideShapes
import Derived.Below
import Derived.ChangeSame
import Derived.ProofKit
import Derived.JoinedCond
import Derived.JoinedOf
import Derived.JoinedAt
import Derived.RowKit3
import Derived.Lib.LaidTab
import Derived.LaidSub
import Derived.Deep.Slices
import Derived.WideKeyArgs
section
set_option linter.all false
set_option maxRecDepth 1000000
open Go.RowKit
namespace Go.Proofs.YthhgmnocigekaaaGreatDoor
open Mini
theorem aw5X0 : FOk Tryz.prog (joinX 131) := joinX_ok fun bk o c xs sep w h1 h2 h3 h4 h5 => Tryz.strings_Join bk o c xs sep w h1 h2 h3 h4 h5
theorem aw5X : FOk Tryz.prog (orX (orX awK (evNF Tryz.prog (joinX 131) 400 84)) (joinX 131)) := orX_ok (orX_ok awK_ok (evNF_ok (by kernel_rfl) aw5X0)) aw5X0
theorem aw5m : Tryz.prog.follows .mixedOrders = true := by kernel_rfl
theorem aw5g27 : SndC Tryz.prog none (dropS 27 aw5B) aw5A27.act aw5S27 .ret aw5A28.act aw5S28 aw5R27 aw5W27 := chain_last aw5m aw5X aw5c27
theorem aw5g26 : SndC Tryz.prog none (dropS 26 aw5B) aw5A26.act aw5S26 .ret aw5A28.act aw5S28 aw5RR26 aw5WW26 := by
  have h := chain_step aw5m aw5X (by kernel_rfl) aw5c26 aw5g27
  rwa [show aw5R26 ||| aw5R27 = aw5RR26 from by decide +kernel, show aw5W26 ||| aw5W27 = aw5WW26 from by decide +kernel] at h
theorem aw5g25 : SndC Tryz.prog none (dropS 25 aw5B) aw5A25.act aw5S25 .ret aw5A28.act aw5S28 aw5RR25 aw5WW25 := by
  have h := chain_step aw5m aw5X (by kernel_rfl) aw5c25 aw5g26
  rwa [show aw5R25 ||| aw5RR26 = aw5RR25 from by decide +kernel, show aw5W25 ||| aw5WW26 = aw5WW25 from by decide +kernel] at h
theorem aw5g24 : SndC Tryz.prog none (dropS 24 aw5B) aw5A24.act aw5S24 .ret aw5A28.act aw5S28 aw5RR24 aw5WW24 := by
  have h := chain_step aw5m aw5X (by kernel_rfl) aw5c24 aw5g25
  rwa [show aw5R24 ||| aw5RR25 = aw5RR24 from by decide +kernel, show aw5W24 ||| aw5WW25 = aw5WW24 from by decide +kernel] at h
theorem aw5g23 : SndC Tryz.prog none (dropS 23 aw5B) aw5A23.act aw5S23 .ret aw5A28.act aw5S28 aw5RR23 aw5WW23 := by
  have h := chain_step aw5m aw5X (by kernel_rfl) aw5c23 aw5g24
  rwa [show aw5R23 ||| aw5RR24 = aw5RR23 from by decide +kernel, show aw5W23 ||| aw5WW24 = aw5WW23 from by decide +kernel] at h
theorem aw5g22 : SndC Tryz.prog none (dropS 22 aw5B) aw5A22.act aw5S22 .ret aw5A28.act aw5S28 aw5RR22 aw5WW22 := by
  have h := chain_step aw5m aw5X (by kernel_rfl) aw5c22 aw5g23
  rwa [show aw5R22 ||| aw5RR23 = aw5RR22 from by decide +kernel, show aw5W22 ||| aw5WW23 = aw5WW22 from by decide +kernel] at h
theorem aw5g21 : SndC Tryz.prog none (dropS 21 aw5B) aw5A21.act aw5S21 .ret aw5A28.act aw5S28 aw5RR21 aw5WW21 := by
  have h := chain_step aw5m aw5X (by kernel_rfl) aw5c21 aw5g22
  rwa [show aw5R21 ||| aw5RR22 = aw5RR21 from by decide +kernel, show aw5W21 ||| aw5WW22 = aw5WW21 from by decide +kernel] at h
theorem aw5g20 : SndC Tryz.prog none (dropS 20 aw5B) aw5A20.act aw5S20 .ret aw5A28.act aw5S28 aw5RR20 aw5WW20 := by
  have h := chain_step aw5m aw5X (by kernel_rfl) aw5c20 aw5g21
  rwa [show aw5R20 ||| aw5RR21 = aw5RR20 from by decide +kernel, show aw5W20 ||| aw5WW21 = aw5WW20 from by decide +kernel] at h
theorem aw5g19 : SndC Tryz.prog none (dropS 19 aw5B) aw5A19.act aw5S19 .ret aw5A28.act aw5S28 aw5RR19 aw5WW19 := by
  have h := chain_step aw5m aw5X (by kernel_rfl) aw5c19 aw5g20
  rwa [show aw5R19 ||| aw5RR20 = aw5RR19 from by decide +kernel, show aw5W19 ||| aw5WW20 = aw5WW19 from by decide +kernel] at h
theorem aw5g18 : SndC Tryz.prog none (dropS 18 aw5B) aw5A18.act aw5S18 .ret aw5A28.act aw5S28 aw5RR18 aw5WW18 := by
  have h := chain_step aw5m aw5X (by kernel_rfl) aw5c18 aw5g19
  rwa [show aw5R18 ||| aw5RR19 = aw5RR18 from by decide +kernel, show aw5W18 ||| aw5WW19 = aw5WW18 from by decide +kernel] at h
theorem aw5g17 : SndC Tryz.prog none (dropS 17 aw5B) aw5A17.act aw5S17 .ret aw5A28.act aw5S28 aw5RR17 aw5WW17 := by
  have h := chain_step aw5m aw5X (by kernel_rfl) aw5c17 aw5g18
  rwa [show aw5R17 ||| aw5RR18 = aw5RR17 from by decide +kernel, show aw5W17 ||| aw5WW18 = aw5WW17 from by decide +kernel] at h
theorem aw5g16 : SndC Tryz.prog none (dropS 16 aw5B) aw5A16.act aw5S16 .ret aw5A28.act aw5S28 aw5RR16 aw5WW16 := by
  have h := chain_step aw5m aw5X (by kernel_rfl) aw5c16 aw5g17
  rwa [show aw5R16 ||| aw5RR17 = aw5RR16 from by decide +kernel, show aw5W16 ||| aw5WW17 = aw5WW16 from by decide +kernel] at h
theorem aw5g15 : SndC Tryz.prog none (dropS 15 aw5B) aw5A15.act aw5S15 .ret aw5A28.act aw5S28 aw5RR15 aw5WW15 := by
  have h := chain_step aw5m aw5X (by kernel_rfl) aw5c15 aw5g16
  rwa [show aw5R15 ||| aw5RR16 = aw5RR15 from by decide +kernel, show aw5W15 ||| aw5WW16 = aw5WW15 from by decide +kernel] at h
theorem aw5g14 : SndC Tryz.prog none (dropS 14 aw5B) aw5A14.act aw5S14 .ret aw5A28.act aw5S28 aw5RR14 aw5WW14 := by
  have h := chain_step aw5m aw5X (by kernel_rfl) aw5c14 aw5g15
  rwa [show aw5R14 ||| aw5RR15 = aw5RR14 from by decide +kernel, show aw5W14 ||| aw5WW15 = aw5WW14 from by decide +kernel] at h
theorem aw5g13 : SndC Tryz.prog none (dropS 13 aw5B) aw5A13.act aw5S13 .ret aw5A28.act aw5S28 aw5RR13 aw5WW13 := by
  have h := chain_step aw5m aw5X (by kernel_rfl) aw5c13 aw5g14
  rwa [show aw5R13 ||| aw5RR14 = aw5RR13 from by decide +kernel, show aw5W13 ||| aw5WW14 = aw5WW13 from by decide +kernel] at h
theorem aw5g12 : SndC Tryz.prog none (dropS 12 aw5B) aw5A12.act aw5S12 .ret aw5A28.act aw5S28 aw5RR12 aw5WW12 := by
  have h := chain_step aw5m aw5X (by kernel_rfl) aw5c12 aw5g13
  rwa [show aw5R12 ||| aw5RR13 = aw5RR12 from by decide +kernel, show aw5W12 ||| aw5WW13 = aw5WW12 from by decide +kernel] at h
theorem aw5g11 : SndC Tryz.prog none (dropS 11 aw5B) aw5A11.act aw5S11 .ret aw5A28.act aw5S28 aw5RR11 aw5WW11 := by
  have h := chain_step aw5m aw5X (by kernel_rfl) aw5c11 aw5g12
  rwa [show aw5R11 ||| aw5RR12 = aw5RR11 from by decide +kernel, show aw5W11 ||| aw5WW12 = aw5WW11 from by decide +kernel] at h
theorem aw5g10 : SndC Tryz.prog none (dropS 10 aw5B) aw5A10.act aw5S10 .ret aw5A28.act aw5S28 aw5RR10 aw5WW10 := by
  have h := chain_step aw5m aw5X (by kernel_rfl) aw5c10 aw5g11
  rwa [show aw5R10 ||| aw5RR11 = aw5RR10 from by decide +kernel, show aw5W10 ||| aw5WW11 = aw5WW10 from by decide +kernel] at h
theorem aw5g9 : SndC Tryz.prog none (dropS 9 aw5B) aw5A9.act aw5S9 .ret aw5A28.act aw5S28 aw5RR9 aw5WW9 := by
  have h := chain_step aw5m aw5X (by kernel_rfl) aw5c9 aw5g10
  rwa [show aw5R9 ||| aw5RR10 = aw5RR9 from by decide +kernel, show aw5W9 ||| aw5WW10 = aw5WW9 from by decide +kernel] at h
theorem aw5g8 : SndC Tryz.prog none (dropS 8 aw5B) aw5A8.act aw5S8 .ret aw5A28.act aw5S28 aw5RR8 aw5WW8 := by
  have h := chain_step aw5m aw5X (by kernel_rfl) aw5c8 aw5g9
  rwa [show aw5R8 ||| aw5RR9 = aw5RR8 from by decide +kernel, show aw5W8 ||| aw5WW9 = aw5WW8 from by decide +kernel] at h
theorem aw5g7 : SndC Tryz.prog none (dropS 7 aw5B) aw5A7.act aw5S7 .ret aw5A28.act aw5S28 aw5RR7 aw5WW7 := by
  have h := chain_step aw5m aw5X (by kernel_rfl) aw5c7 aw5g8
  rwa [show aw5R7 ||| aw5RR8 = aw5RR7 from by decide +kernel, show aw5W7 ||| aw5WW8 = aw5WW7 from by decide +kernel] at h
theorem aw5g6 : SndC Tryz.prog none (dropS 6 aw5B) aw5A6.act aw5S6 .ret aw5A28.act aw5S28 aw5RR6 aw5WW6 := by
  have h := chain_step aw5m aw5X (by kernel_rfl) aw5c6 aw5g7
  rwa [show aw5R6 ||| aw5RR7 = aw5RR6 from by decide +kernel, show aw5W6 ||| aw5WW7 = aw5WW6 from by decide +kernel] at h
theorem aw5g5 : SndC Tryz.prog none (dropS 5 aw5B) aw5A5.act aw5S5 .ret aw5A28.act aw5S28 aw5RR5 aw5WW5 := by
  have h := chain_step aw5m aw5X (by kernel_rfl) aw5c5 aw5g6
  rwa [show aw5R5 ||| aw5RR6 = aw5RR5 from by decide +kernel, show aw5W5 ||| aw5WW6 = aw5WW5 from by decide +kernel] at h
theorem aw5g4 : SndC Tryz.prog none (dropS 4 aw5B) aw5A4.act aw5S4 .ret aw5A28.act aw5S28 aw5RR4 aw5WW4 := by
  have h := chain_step aw5m aw5X (by kernel_rfl) aw5c4 aw5g5
  rwa [show aw5R4 ||| aw5RR5 = aw5RR4 from by decide +kernel, show aw5W4 ||| aw5WW5 = aw5WW4 from by decide +kernel] at h
theorem aw5g3 : SndC Tryz.prog none (dropS 3 aw5B) aw5A3.act aw5S3 .ret aw5A28.act aw5S28 aw5RR3 aw5WW3 := by
  have h := chain_step aw5m aw5X (by kernel_rfl) aw5c3 aw5g4
  rwa [show aw5R3 ||| aw5RR4 = aw5RR3 from by decide +kernel, show aw5W3 ||| aw5WW4 = aw5WW3 from by decide +kernel] at h
theorem aw5g2 : SndC Tryz.prog none (dropS 2 aw5B) aw5A2.act aw5S2 .ret aw5A28.act aw5S28 aw5RR2 aw5WW2 := by
  have h := chain_step aw5m aw5X (by kernel_rfl) aw5c2 aw5g3
  rwa [show aw5R2 ||| aw5RR3 = aw5RR2 from by decide +kernel, show aw5W2 ||| aw5WW3 = aw5WW2 from by decide +kernel] at h
theorem aw5g1 : SndC Tryz.prog none (dropS 1 aw5B) aw5A1.act aw5S1 .ret aw5A28.act aw5S28 aw5RR1 aw5WW1 := by
  have h := chain_step aw5m aw5X (by kernel_rfl) aw5c1 aw5g2
  rwa [show aw5R1 ||| aw5RR2 = aw5RR1 from by decide +kernel, show aw5W1 ||| aw5WW2 = aw5WW1 from by decide +kernel] at h
theorem aw5g0 : SndC Tryz.prog none (dropS 0 aw5B) aw5A0.act aw5S0 .ret aw5A28.act aw5S28 aw5RR0 aw5WW0 := by
  have h := chain_step aw5m aw5X (by kernel_rfl) aw5c0 aw5g1
  rwa [show aw5R0 ||| aw5RR1 = aw5RR0 from by decide +kernel, show aw5W0 ||| aw5WW1 = aw5WW0 from by decide +kernel] at h
theorem aw5f : SndF Tryz.prog 8 #[] aw5S0 (.bool true) aw5S28 (aw5RR0 ||| 0) aw5WW0 :=
  sndF_of (vs := [.bool true]) Tryz.func8 (show _ = some aw5B by kernel_rfl) (.inr rfl) (by kernel_rfl) (show SndC Tryz.prog none aw5B (startA Tryz.f8 #[]) aw5S0 .ret aw5A28.act aw5S28 aw5RR0 aw5WW0 from ((startM_act _ _).symm.trans (congrArg MA.act (show startM Tryz.f8 #[] = aw5A0 by kernel_rfl))) ▸ aw5g0) (by kernel_rfl)
theorem aw5_calls (w : World) (h : Holds Tryz.prog aw5S0 w) : Calls Tryz.prog 8 #[] w fun e w' => e = .returned (.bool true) ∧ Below w.heap.size w w' :=
  calls_of aw5f (by kernel_rfl) (by kernel_rfl) (fun b hb => by
    have hb : b < Tryz.prog.globals.size := hb
    rw [show Tryz.prog.globals.size = 4 by kernel_rfl] at hb
    revert b; decide +kernel) h
end Go.Proofs.YthhgmnocigekaaaGreatDoor
end
section
namespace Go.Proofs.YthhgmnocigekaaaGreatDoor
set_option linter.all false
namespace Mini
def obY (r : Option OutS) : Prop := match r with
  | some (_, _, _, _, q) => q.ob
  | none => False
def goodY (r : Option OutS) : Bool := match r with
  | some (.bool true, _, _, 0, ⟨[], _⟩) => true
  | _ => false
theorem sndY {P : Program} {X : CallS} {n : Nat} {f : FuncId} {xs : Array Value} {s : St} {q : Orc} {r : Option OutS} (he : r = evFS P X n f xs s q) (hm : P.follows .mixedOrders = true) (hX : FOkS P X) (hg : goodY r = true) (ho : obY r) : ∃ s1 R, SndF P f xs s (.bool true) s1 R 0 := by
  unfold goodY at hg
  split at hg
  · exact ⟨_, _, (evFS_ok hm hX n _ _ _ _ _ _ _ _ _ he.symm).2 ho⟩
  · cases hg
end Mini
end Go.Proofs.YthhgmnocigekaaaGreatDoor
end
section
namespace Go.Proofs.YthhgmnocigekaaaGreatDoor
set_option linter.all false
open Go.RowKit
namespace Mini
variable {P : Program} {s0 s : St}
def valsEqT : List Value → List Value → Bool
  | [], _ => true
  | .int k a :: l, .int k' b :: l' => decide (k = k') && (a == b) && valsEqT l l'
  | .string a :: l, .string b :: l' => decide (a.data.toList = b.data.toList) && valsEqT l l'
  | _, _ => false
theorem valsEqT_at : ∀ (c c' : List Value), valsEqT c c' = true → ∀ (i : Nat) (v : Value), c[i]? = some v → c'[i]? = some v ∧ ((∃ k a, v = .int k a) ∨ ∃ a, v = .string a)
  | [], c', h, i, v, hi => by simp at hi
  | x :: l, [], h, i, v, hi => by cases x <;> simp [valsEqT] at h
  | x :: l, y :: l', h, i, v, hi => by
    cases x with
    | int k a => cases y with
      | int k' b =>
        simp only [valsEqT, Bool.and_eq_true, decide_eq_true_eq, beq_iff_eq] at h
        obtain ⟨⟨rfl, rfl⟩, h3⟩ := h
        cases i with
        | zero => simp at hi; subst hi; exact ⟨rfl, .inl ⟨k, a, rfl⟩⟩
        | succ i => exact valsEqT_at l l' h3 i v (by simpa using hi)
      | _ => simp [valsEqT] at h
    | string a => cases y with
      | string b =>
        simp only [valsEqT, Bool.and_eq_true, decide_eq_true_eq] at h
        obtain ⟨h2, h3⟩ := h
        have e : a = b := by
          cases a; cases b
          exact congrArg ByteArray.mk (Array.ext' h2)
        subst e
        cases i with
        | zero => simp at hi; subst hi; exact ⟨rfl, .inr ⟨a, rfl⟩⟩
        | succ i => exact valsEqT_at l l' h3 i v (by simpa using hi)
      | _ => simp [valsEqT] at h
    | _ => simp [valsEqT] at h
theorem string_inv {ρ : Ren} {a : ByteArray} {v' : Value} (h : VR ρ (.string a) v') : v' = .string a := by cases h; rfl
def tabEqT : MObj → MObj → Bool
  | .hole, _ => true
  | .cells c _ _ _ _, .cells c' _ _ _ _ => valsEqT c c'
  | _, _ => false
def tabsEqT (s0 s : St) : Nat → Bool
  | 0 => true
  | n + 1 => tabEqT (s0.get n) (s.get n) && tabsEqT s0 s n
theorem tabsEqT_at : ∀ (n : Nat), tabsEqT s0 s n = true → ∀ b, b < n → tabEqT (s0.get b) (s.get b) = true
  | 0, h, b, hb => by omega
  | n + 1, h, b, hb => by
    simp only [tabsEqT, Bool.and_eq_true] at h
    rcases Nat.lt_or_ge b n with c | c
    · exact tabsEqT_at n h.2 b c
    · rw [show b = n from by omega]; exact h.1
theorem holdsT_of {ρ : Ren} {C : Nat → MObj} {w : World} (hn : s0.next = P.globals.size) (hok : tabsOk s0 s0.next = true) (heq : tabsEqT s0 s s0.next = true) (hG : Glob P ρ) (ag : ∀ b, (2 ^ s0.next - 1).testBit b = true → b < s.next → C b = s.get b) (hr : WRel ρ C w) : Holds P s0 w := by
  refine ⟨hn, fun b hb => ?_⟩
  rw [← hn] at hb
  have h1 := tabsOk_at _ hok b hb
  have h2 := tabsEqT_at _ heq b hb
  cases hs : s0.get b with
  | hole => exact .inl rfl
  | cells c e opn sz r =>
    rw [hs] at h1 h2
    cases ho : s.get b with
    | cells c' e' opn' sz' r' =>
      rw [ho] at h2
      simp only [tabEqT] at h2
      cases opn <;> cases r <;> cases sz <;> simp only [tabOk, Bool.and_eq_true, Bool.not_eq_true', Bool.false_eq_true] at h1
      refine .inr ⟨c, e, rfl, by intro hc; rw [hc] at h1; simp at h1, h1.2, fun i v hi => ?_⟩
      obtain ⟨k1, k2⟩ := valsEqT_at c c' h2 i v hi
      have hlt : b < s.next := St.lt_of_live (by rw [ho]; simp)
      have hC : C b = .cells c' e' opn' sz' r' := (ag b (by rw [Nat.testBit_two_pow_sub_one]; simpa using hb) hlt).trans ho
      obtain ⟨L, cs, fr, q1, q2, q3⟩ := row_of hr hC
      obtain ⟨L', g1, g2, g3⟩ := hG b (hn ▸ hb)
      rw [q1] at g1
      cases g1
      obtain ⟨p1, p2, p3, p4, p5, p6, p7, p8⟩ := q3
      obtain ⟨v', z1, z2⟩ := p6 i _ k1
      have e : v' = v := by
        rcases k2 with ⟨k, a, rfl⟩ | ⟨a, rfl⟩
        · exact int_inv z2
        · exact string_inv z2
      subst e
      rw [g2] at q2
      rw [cell_row q2]
      rw [g3, Nat.zero_add] at z1
      exact z1
    | _ => rw [ho] at h2; simp [tabEqT] at h2
  | _ => rw [hs] at h1; simp [tabOk] at h1
def tabT (s0 : St) (f0 : FuncId) : CallS := fun f xs s q =>
  match decide (f = f0) && xs.toList.isEmpty && tabsOk s0 s0.next && tabsEqT s0 s s0.next with
  | true => some (.bool true, s, 2 ^ s0.next - 1, 0, q)
  | false => none
theorem tabT_ok {f0 : FuncId} (hn : s0.next = P.globals.size) (h : ∀ w, Holds P s0 w → Calls P f0 #[] w fun e w' => e = .returned (.bool true) ∧ Below w.heap.size w w') : FOkS P (tabT s0 f0) := fun f xs s q v s1 R W q1 he => by
  unfold tabT at he
  split at he
  · rename_i hc
    cases he
    simp only [Bool.and_eq_true, decide_eq_true_eq] at hc
    obtain ⟨⟨⟨rfl, h2⟩, h3⟩, h4⟩ := hc
    have hx : xs = #[] := by
      apply Array.ext'
      simpa using h2
    subst hx
    refine ⟨id, fun _ => sndF_quietG rfl fun ρ C args' w hG ag hr ha => ?_⟩
    have ea : args' = #[] := Array.eq_empty_of_size_eq_zero (ha.1.symm.trans rfl)
    subst ea
    exact h w (holdsT_of hn h3 h4 hG ag hr)
  · cases he
end Mini
end Go.Proofs.YthhgmnocigekaaaGreatDoor
end
section
set_option linter.all false
set_option maxRecDepth 1000000
open Go.RowKit
namespace Go.Proofs.YthhgmnocigekaaaGreatDoor
open Mini
noncomputable def llK : CallS := bothX kBal (bothX kRcp (bothX kRBal (bothX (kAll [c_tLoss, c_tDelivered, c_needed, c_rneeded, c_rcPower, c_rloss, c_rdelivered, c_cLosses, c_rcLosses]) (tabX aw5S0 8))))
def llArgs (lf ll lq pw : Int) (n c : Nat) : Array Value := #[.agg #[.int .i64 lf, .int .i64 ll, .int .i64 lq], .int .i64 pw, .slice (some ⟨4, 0, none⟩) n c]
def llNil (lf ll lq pw : Int) : Array Value := #[.agg #[.int .i64 lf, .int .i64 ll, .int .i64 lq], .int .i64 pw, .slice none 0 0]
noncomputable def llS (n : Nat) (g : Nat → Nat → Int) : St := aw5S0.push (rowI 1 n g 0 true 0 true)
noncomputable def ll_A (lf ll lq pw : Int) (n c : Nat) (g : Nat → Nat → Int) : Option OutS := evFS Tryz.prog llK 1000 3 (llArgs lf ll lq pw n c) (llS n g) ⟨[1, 1, 1, 1, 1], True⟩
noncomputable def ll_1 (lf ll lq pw : Int) (n c : Nat) (g : Nat → Nat → Int) : Option OutS := evFS Tryz.prog llK 1000 3 (llArgs lf ll lq pw n c) (llS n g) ⟨[0, 0, 0, 0, 0, .row 0 0, 1, 0, 1, 1, 1, 1, 1, 1, 1, 1, 1, 1, 1, 1, 1, 1, 1, 1, 1, 1, 1, 1, 1, 1, 1, 1, 1, 1, 1, 1, 1, 1, 1, 1, 1, 1, 1], True⟩
noncomputable def ll_2 (lf ll lq pw : Int) (n c : Nat) (g : Nat → Nat → Int) : Option OutS := evFS Tryz.prog llK 1000 3 (llArgs lf ll lq pw n c) (llS n g) ⟨[0, 0, 0, 0, 0, .row 0 0, 1, 0, 0, 1, 1, 1, 1, 1, 1, 1, 1, 1, 1, 1, 1, 1, 1, 1, 1, 1, 1, 1, 1, 1, 1, 1, 1, 1, 1, 1, 1, 1, 1, 1, 1, 1, 1], True⟩
noncomputable def ll_3 (lf ll lq pw : Int) (n c : Nat) (g : Nat → Nat → Int) : Option OutS := evFS Tryz.prog llK 1000 3 (llArgs lf ll lq pw n c) (llS n g) ⟨[0, 0, 0, 0, 0, .row 0 0, 1, 1, 1, 1, 1, 1, 1, 1, 1, 1, 1, 1, 1, 1, 1, 1, 1, 1, 1, 1, 1, 1, 1, 1, 1, 1, 1, 1, 1, 1, 1, 1, 1, 1, 1, 1, 1], True⟩
noncomputable def ll_4 (lf ll lq pw : Int) (n c : Nat) (g : Nat → Nat → Int) : Option OutS := evFS Tryz.prog llK 1000 3 (llArgs lf ll lq pw n c) (llS n g) ⟨[0, 0, 0, 0, 0, .row 0 0, 1, 1, 0, 1, 1, 1, 1, 1, 1, 1, 1, 1, 1, 1, 1, 1, 1, 1, 1, 1, 1, 1, 1, 1, 1, 1, 1, 1, 1, 1, 1, 1, 1, 1, 1, 1, 1], True⟩
noncomputable def ll_5 (lf ll lq pw : Int) (n c : Nat) (g : Nat → Nat → Int) : Option OutS := evFS Tryz.prog llK 1000 3 (llArgs lf ll lq pw n c) (llS n g) ⟨[0, 0, 0, 0, 0, .row 0 0, 0, 1, 1, 1, 1, 1, 1, 1, 1, 1, 1, 1, 1, 1, 1, 1, 1, 1, 1, 1, 1, 1, 1, 1, 1, 1, 1, 1, 1, 1, 1, 1, 1, 1, 1, 1], True⟩
noncomputable def ll_6 (lf ll lq pw : Int) (n c : Nat) (g : Nat → Nat → Int) : Option OutS := evFS Tryz.prog llK 1000 3 (llArgs lf ll lq pw n c) (llS n g) ⟨[0, 0, 0, 0, 0, .row 0 0, 0, 0, 1, 1, 1, 1, 1, 1, 1, 1, 1, 1, 1, 1, 1, 1, 1, 1, 1, 1, 1, 1, 1, 1, 1, 1, 1, 1, 1, 1, 1, 1, 1, 1, 1, 1], True⟩
noncomputable def ll_7 (lf ll lq pw : Int) (n c : Nat) (g : Nat → Nat → Int) : Option OutS := evFS Tryz.prog llK 1000 3 (llArgs lf ll lq pw n c) (llS n g) ⟨[1, 1, 1, 1, 0, .row 0 0, 1, 0, 0, 1, 1, 1, 1, 1, 1, 1, 1, 1, 1, 1, 1, 1, 1, 1, 1, 1, 1, 1, 1, 1, 1, 1, 1, 1, 1, 1, 1, 1, 1, 1, 1, 1, 1], True⟩
noncomputable def ll_8 (lf ll lq pw : Int) (n c : Nat) (g : Nat → Nat → Int) : Option OutS := evFS Tryz.prog llK 1000 3 (llArgs lf ll lq pw n c) (llS n g) ⟨[1, 1, 1, 1, 0, .row 0 0, 1, 1, 0, 1, 1, 1, 1, 1, 1, 1, 1, 1, 1, 1, 1, 1, 1, 1, 1, 1, 1, 1, 1, 1, 1, 1, 1, 1, 1, 1, 1, 1, 1, 1, 1, 1, 1], True⟩
noncomputable def ll_9 (lf ll lq pw : Int) (n c : Nat) (g : Nat → Nat → Int) : Option OutS := evFS Tryz.prog llK 1000 3 (llArgs lf ll lq pw n c) (llS n g) ⟨[1, 1, 1, 1, 0, .row 0 0, 0, 0, 1, 1, 1, 1, 1, 1, 1, 1, 1, 1, 1, 1, 1, 1, 1, 1, 1, 1, 1, 1, 1, 1, 1, 1, 1, 1, 1, 1, 1, 1, 1, 1, 1, 1], True⟩
noncomputable def ll_n1 (lf ll lq pw : Int) : Option OutS := evFS Tryz.prog llK 1000 3 (llNil lf ll lq pw) aw5S0 ⟨[0, 0, 0, 0, 0, 1, 0, 0, 0, 0, 1, 0, 1, 1, 1, 1, 1, 1, 1, 1, 1, 1, 1, 1, 1, 1, 1, 1, 1, 1, 1, 1, 1, 1, 1, 1, 1, 1, 1, 1, 1, 1, 1, 1, 1, 1], True⟩
noncomputable def ll_e1 (lf ll lq pw : Int) (c : Nat) : Option OutS := evFS Tryz.prog llK 1000 3 (llArgs lf ll lq pw 0 c) (aw5S0.push .hole) ⟨[0, 0, 0, 0, 0, 1, 0, 0, 0, 0, 1, 0, 1, 1, 1, 1, 1, 1, 1, 1, 1, 1, 1, 1, 1, 1, 1, 1, 1, 1, 1, 1, 1, 1, 1, 1, 1, 1, 1, 1, 1, 1, 1, 1, 1, 1], True⟩
noncomputable def ll_n2 (lf ll lq pw : Int) : Option OutS := evFS Tryz.prog llK 1000 3 (llNil lf ll lq pw) aw5S0 ⟨[0, 0, 0, 0, 0, 1, 1, 0, 0, 0, 1, 0, 1, 1, 1, 1, 1, 1, 1, 1, 1, 1, 1, 1, 1, 1, 1, 1, 1, 1, 1, 1, 1, 1, 1, 1, 1, 1, 1, 1, 1, 1, 1, 1, 1, 1], True⟩
noncomputable def ll_e2 (lf ll lq pw : Int) (c : Nat) : Option OutS := evFS Tryz.prog llK 1000 3 (llArgs lf ll lq pw 0 c) (aw5S0.push .hole) ⟨[0, 0, 0, 0, 0, 1, 1, 0, 0, 0, 1, 0, 1, 1, 1, 1, 1, 1, 1, 1, 1, 1, 1, 1, 1, 1, 1, 1, 1, 1, 1, 1, 1, 1, 1, 1, 1, 1, 1, 1, 1, 1, 1, 1, 1, 1], True⟩
noncomputable def ll_n3 (lf ll lq pw : Int) : Option OutS := evFS Tryz.prog llK 1000 3 (llNil lf ll lq pw) aw5S0 ⟨[0, 0, 0, 0, 0, 0, 0, 0, 0, 1, 0, 1, 1, 1, 1, 1, 1, 1, 1, 1, 1, 1, 1, 1, 1, 1, 1, 1, 1, 1, 1, 1, 1, 1, 1, 1, 1, 1, 1, 1, 1, 1, 1, 1, 1], True⟩
noncomputable def ll_e3 (lf ll lq pw : Int) (c : Nat) : Option OutS := evFS Tryz.prog llK 1000 3 (llArgs lf ll lq pw 0 c) (aw5S0.push .hole) ⟨[0, 0, 0, 0, 0, 0, 0, 0, 0, 1, 0, 1, 1, 1, 1, 1, 1, 1, 1, 1, 1, 1, 1, 1, 1, 1, 1, 1, 1, 1, 1, 1, 1, 1, 1, 1, 1, 1, 1, 1, 1, 1, 1, 1, 1], True⟩
noncomputable def ll_n4 (lf ll lq pw : Int) : Option OutS := evFS Tryz.prog llK 1000 3 (llNil lf ll lq pw) aw5S0 ⟨[0, 0, 0, 0, 0, 0, 1, 0, 1, 1, 1, 1, 1, 1, 1, 1, 1, 1, 1, 1, 1, 1, 1, 1, 1, 1, 1, 1, 1, 1, 1, 1, 1, 1, 1, 1, 1, 1, 1, 1, 1, 1], True⟩
noncomputable def ll_e4 (lf ll lq pw : Int) (c : Nat) : Option OutS := evFS Tryz.prog llK 1000 3 (llArgs lf ll lq pw 0 c) (aw5S0.push .hole) ⟨[0, 0, 0, 0, 0, 0, 1, 0, 1, 1, 1, 1, 1, 1, 1, 1, 1, 1, 1, 1, 1, 1, 1, 1, 1, 1, 1, 1, 1, 1, 1, 1, 1, 1, 1, 1, 1, 1, 1, 1, 1, 1], True⟩
theorem llK_ok : FOkS Tryz.prog llK := bothX_ok kBal_ok (bothX_ok kRcp_ok (bothX_ok kRBal_ok (bothX_ok (kAll_ok _ ⟨k_tLoss, k_tDelivered, k_needed, k_rneeded, k_rcPower, k_rloss, k_rdelivered, k_cLosses, k_rcLosses, trivial⟩) (tabX_ok (by kernel_rfl) aw5_calls))))
section
variable (lf ll lq pw : Int) (n c : Nat) (g : Nat → Nat → Int)
theorem ll_A_o : obY (ll_A lf ll lq pw n c g) = ((((((True ∧ ((decide ((((n : Nat)) : Int) > (20 : Int))) = true)) ∧ ((decide ((((n : Nat)) : Int) > (20 : Int))) = true)) ∧ ((decide ((((n : Nat)) : Int) > (20 : Int))) = true)) ∧ ((decide ((((n : Nat)) : Int) > (20 : Int))) = true)) ∧ (((((n : Nat)) : Int) != (257 : Int)) = true))) := by kernel_rfl
theorem ll_A_g : goodY (ll_A lf ll lq pw n c g) = true := by kernel_rfl
theorem ll_1_o : obY (ll_1 lf ll lq pw n c g) = (((((((((((((((((((((((((((((((((((((((((((((((((((((((((True ∧ ((decide ((((n : Nat)) : Int) > (20 : Int))) = false)) ∧ ((decide ((((n : Nat)) : Int) > (20 : Int))) = false)) ∧ ((decide ((((n : Nat)) : Int) > (20 : Int))) = false)) ∧ ((decide ((((n : Nat)) : Int) > (20 : Int))) = false)) ∧ (false = false)) ∧ True) ∧ True) ∧ True) ∧ ((n = n) ∧ ((n ≠ (0 : Nat)) ∧ ((n * 8) ≤ (140737488355328 : Nat))))) ∧ (((n = n) ∧ (∀ (i : Nat), ((i < n) → (∀ (j : Nat), ((j < (1 : Nat)) → ((Value.int .i64 (g i j)) = (Value.int .i64 (gI (Value.int .i64 (g i j)))))))))) ∧ ((((n : Nat)) : Int) ≤ (9223372036854775807 : Int)))) ∧ True) ∧ True) ∧ (((th2 (lsE lf ll lq) (pwE pw)) == (0 : Int)) = true)) ∧ ((lsIn lf ll lq) ∧ (pwIn pw))) ∧ ((lsIn lf ll lq) ∧ (pwIn pw))) ∧ ((((0 : Int) ≤ lf) ∧ (lf ≤ (1000 : Int))) ∧ ((((0 : Int) ≤ ll) ∧ (ll ≤ (1000 : Int))) ∧ (((0 : Int) ≤ lq) ∧ (lq ≤ (1000 : Int)))))) ∧ ((Bool.not (ndB lf ll lq pw)) = false)) ∧ (((n = n) ∧ (∀ (i : Nat), ((i < n) → (∀ (j : Nat), ((j < (1 : Nat)) → ((Value.int .i64 (g i j)) = (Value.int .i64 (gI (Value.int .i64 (g i j)))))))))) ∧ ((((n : Nat)) : Int) ≤ (9223372036854775807 : Int)))) ∧ (((rcpVal lf ll lq n (fun (i : Nat) => (fun (j : Nat) => (gI (Value.int .i64 (g i j)))))) == (0 : Int)) = true)) ∧ (((n = n) ∧ (∀ (i : Nat), ((i < n) → (∀ (j : Nat), ((j < (1 : Nat)) → ((Value.int .i64 (g i j)) = (Value.int .i64 (gI (Value.int .i64 (g i j)))))))))) ∧ (((lsIn lf ll lq) ∧ (∀ (i : Nat), ((i < n) → (pwIn (gI (Value.int .i64 (g i 0))))))) ∧ (n ≤ (256 : Nat))))) ∧ True) ∧ True) ∧ (((lsE lf ll lq) == (lsE lf ll lq)) = true)) ∧ (((lsE lf ll lq) == (lsE lf ll lq)) = true)) ∧ (((lsE lf ll lq) == (lsE lf ll lq)) = true)) ∧ (((lsE lf ll lq) == (lsE lf ll lq)) = true)) ∧ ((Bool.and ((if ((th2 (lsE lf ll lq) (pwE pw)) = (0 : Int)) then (lLo lf ll lq pw) else (0 : Int)) == (lLo lf ll lq pw)) (Bool.and ((if ((th2 (lsE lf ll lq) (pwE pw)) = (0 : Int)) then (lHi lf ll lq pw) else (0 : Int)) == (lHi lf ll lq pw)) true)) = true)) ∧ ((Bool.and ((if ((th2 (lsE lf ll lq) (pwE pw)) = (0 : Int)) then (lLo lf ll lq pw) else (0 : Int)) == (lLo lf ll lq pw)) (Bool.and ((if ((th2 (lsE lf ll lq) (pwE pw)) = (0 : Int)) then (lHi lf ll lq pw) else (0 : Int)) == (lHi lf ll lq pw)) true)) = true)) ∧ ((Bool.and ((if ((th2 (lsE lf ll lq) (pwE pw)) = (0 : Int)) then (lLo lf ll lq pw) else (0 : Int)) == (lLo lf ll lq pw)) (Bool.and ((if ((th2 (lsE lf ll lq) (pwE pw)) = (0 : Int)) then (lHi lf ll lq pw) else (0 : Int)) == (lHi lf ll lq pw)) true)) = true)) ∧ ((Bool.and ((if ((th2 (lsE lf ll lq) (pwE pw)) = (0 : Int)) then (lLo lf ll lq pw) else (0 : Int)) == (lLo lf ll lq pw)) (Bool.and ((if ((th2 (lsE lf ll lq) (pwE pw)) = (0 : Int)) then (lHi lf ll lq pw) else (0 : Int)) == (lHi lf ll lq pw)) true)) = true)) ∧ (((th2 (lsE lf ll lq) (pwE pw)) == (th2 (lsE lf ll lq) (pwE pw))) = true)) ∧ (((th2 (lsE lf ll lq) (pwE pw)) == (th2 (lsE lf ll lq) (pwE pw))) = true)) ∧ (((th2 (lsE lf ll lq) (pwE pw)) == (th2 (lsE lf ll lq) (pwE pw))) = true)) ∧ (((th2 (lsE lf ll lq) (pwE pw)) == (th2 (lsE lf ll lq) (pwE pw))) = true)) ∧ ((Bool.and ((if ((th2 (lsE lf ll lq) (pwE pw)) = (0 : Int)) then (dLo lf ll lq pw) else (0 : Int)) == (dLo lf ll lq pw)) (Bool.and ((if ((th2 (lsE lf ll lq) (pwE pw)) = (0 : Int)) then (dHi lf ll lq pw) else (0 : Int)) == (dHi lf ll lq pw)) true)) = true)) ∧ ((Bool.and ((if ((th2 (lsE lf ll lq) (pwE pw)) = (0 : Int)) then (dLo lf ll lq pw) else (0 : Int)) == (dLo lf ll lq pw)) (Bool.and ((if ((th2 (lsE lf ll lq) (pwE pw)) = (0 : Int)) then (dHi lf ll lq pw) else (0 : Int)) == (dHi lf ll lq pw)) true)) = true)) ∧ ((Bool.and ((if ((th2 (lsE lf ll lq) (pwE pw)) = (0 : Int)) then (dLo lf ll lq pw) else (0 : Int)) == (dLo lf ll lq pw)) (Bool.and ((if ((th2 (lsE lf ll lq) (pwE pw)) = (0 : Int)) then (dHi lf ll lq pw) else (0 : Int)) == (dHi lf ll lq pw)) true)) = true)) ∧ ((Bool.and ((if ((th2 (lsE lf ll lq) (pwE pw)) = (0 : Int)) then (dLo lf ll lq pw) else (0 : Int)) == (dLo lf ll lq pw)) (Bool.and ((if ((th2 (lsE lf ll lq) (pwE pw)) = (0 : Int)) then (dHi lf ll lq pw) else (0 : Int)) == (dHi lf ll lq pw)) true)) = true)) ∧ (((th2 (lsE lf ll lq) (pwE pw)) == (th2 (lsE lf ll lq) (pwE pw))) = true)) ∧ (((th2 (lsE lf ll lq) (pwE pw)) == (th2 (lsE lf ll lq) (pwE pw))) = true)) ∧ (((th2 (lsE lf ll lq) (pwE pw)) == (th2 (lsE lf ll lq) (pwE pw))) = true)) ∧ (((th2 (lsE lf ll lq) (pwE pw)) == (th2 (lsE lf ll lq) (pwE pw))) = true)) ∧ (((if ((ndE lf ll lq pw) = (0 : Int)) then (ndP lf ll lq pw) else (0 : Int)) == (ndP lf ll lq pw)) = true)) ∧ (((if ((ndE lf ll lq pw) = (0 : Int)) then (ndP lf ll lq pw) else (0 : Int)) == (ndP lf ll lq pw)) = true)) ∧ (((if ((ndE lf ll lq pw) = (0 : Int)) then (ndP lf ll lq pw) else (0 : Int)) == (ndP lf ll lq pw)) = true)) ∧ (((if ((ndE lf ll lq pw) = (0 : Int)) then (ndP lf ll lq pw) else (0 : Int)) == (ndP lf ll lq pw)) = true)) ∧ (((if ((ndE lf ll lq pw) = (0 : Int)) then (if ((ndB lf ll lq pw) = true) then (0 : Int) else (7 : Int)) else (ndE lf ll lq pw)) == (th2 (lsE lf ll lq) (pwE pw))) = true)) ∧ (((if ((ndE lf ll lq pw) = (0 : Int)) then (if ((ndB lf ll lq pw) = true) then (0 : Int) else (7 : Int)) else (ndE lf ll lq pw)) == (th2 (lsE lf ll lq) (pwE pw))) = true)) ∧ (((if ((ndE lf ll lq pw) = (0 : Int)) then (if ((ndB lf ll lq pw) = true) then (0 : Int) else (7 : Int)) else (ndE lf ll lq pw)) == (th2 (lsE lf ll lq) (pwE pw))) = true)) ∧ (((if ((ndE lf ll lq pw) = (0 : Int)) then (if ((ndB lf ll lq pw) = true) then (0 : Int) else (7 : Int)) else (ndE lf ll lq pw)) == (th2 (lsE lf ll lq) (pwE pw))) = true)) ∧ ((Bool.and ((if ((bfE lf ll lq n (fun (i : Nat) => (fun (j : Nat) => (gI (Value.int .i64 (g i j)))))) = (0 : Int)) then ((bfS lf ll lq n (fun (i : Nat) => (fun (j : Nat) => (gI (Value.int .i64 (g i j))))))).1 else (0 : Int)) == (bsum (fun (k : Nat) => (dLo lf ll lq (gI (Value.int .i64 (g k 0))))) n)) (Bool.and ((if ((bfE lf ll lq n (fun (i : Nat) => (fun (j : Nat) => (gI (Value.int .i64 (g i j)))))) = (0 : Int)) then ((bfS lf ll lq n (fun (i : Nat) => (fun (j : Nat) => (gI (Value.int .i64 (g i j))))))).2 else (0 : Int)) == (bsum (fun (k : Nat) => (dHi lf ll lq (gI (Value.int .i64 (g k 0))))) n)) true)) = true)) ∧ ((Bool.and ((if ((bfE lf ll lq n (fun (i : Nat) => (fun (j : Nat) => (gI (Value.int .i64 (g i j)))))) = (0 : Int)) then ((bfS lf ll lq n (fun (i : Nat) => (fun (j : Nat) => (gI (Value.int .i64 (g i j))))))).1 else (0 : Int)) == (bsum (fun (k : Nat) => (dLo lf ll lq (gI (Value.int .i64 (g k 0))))) n)) (Bool.and ((if ((bfE lf ll lq n (fun (i : Nat) => (fun (j : Nat) => (gI (Value.int .i64 (g i j)))))) = (0 : Int)) then ((bfS lf ll lq n (fun (i : Nat) => (fun (j : Nat) => (gI (Value.int .i64 (g i j))))))).2 else (0 : Int)) == (bsum (fun (k : Nat) => (dHi lf ll lq (gI (Value.int .i64 (g k 0))))) n)) true)) = true)) ∧ ((Bool.and ((if ((bfE lf ll lq n (fun (i : Nat) => (fun (j : Nat) => (gI (Value.int .i64 (g i j)))))) = (0 : Int)) then ((bfS lf ll lq n (fun (i : Nat) => (fun (j : Nat) => (gI (Value.int .i64 (g i j))))))).1 else (0 : Int)) == (bsum (fun (k : Nat) => (dLo lf ll lq (gI (Value.int .i64 (g k 0))))) n)) (Bool.and ((if ((bfE lf ll lq n (fun (i : Nat) => (fun (j : Nat) => (gI (Value.int .i64 (g i j)))))) = (0 : Int)) then ((bfS lf ll lq n (fun (i : Nat) => (fun (j : Nat) => (gI (Value.int .i64 (g i j))))))).2 else (0 : Int)) == (bsum (fun (k : Nat) => (dHi lf ll lq (gI (Value.int .i64 (g k 0))))) n)) true)) = true)) ∧ ((Bool.and ((if ((bfE lf ll lq n (fun (i : Nat) => (fun (j : Nat) => (gI (Value.int .i64 (g i j)))))) = (0 : Int)) then ((bfS lf ll lq n (fun (i : Nat) => (fun (j : Nat) => (gI (Value.int .i64 (g i j))))))).1 else (0 : Int)) == (bsum (fun (k : Nat) => (dLo lf ll lq (gI (Value.int .i64 (g k 0))))) n)) (Bool.and ((if ((bfE lf ll lq n (fun (i : Nat) => (fun (j : Nat) => (gI (Value.int .i64 (g i j)))))) = (0 : Int)) then ((bfS lf ll lq n (fun (i : Nat) => (fun (j : Nat) => (gI (Value.int .i64 (g i j))))))).2 else (0 : Int)) == (bsum (fun (k : Nat) => (dHi lf ll lq (gI (Value.int .i64 (g k 0))))) n)) true)) = true)) ∧ (((bfE lf ll lq n (fun (i : Nat) => (fun (j : Nat) => (gI (Value.int .i64 (g i j)))))) == (rcpVal lf ll lq n (fun (i : Nat) => (fun (j : Nat) => (gI (Value.int .i64 (g i j))))))) = true)) ∧ (((bfE lf ll lq n (fun (i : Nat) => (fun (j : Nat) => (gI (Value.int .i64 (g i j)))))) == (rcpVal lf ll lq n (fun (i : Nat) => (fun (j : Nat) => (gI (Value.int .i64 (g i j))))))) = true))) := by kernel_rfl
theorem ll_1_g : goodY (ll_1 lf ll lq pw n c g) = true := by kernel_rfl
theorem ll_2_o : obY (ll_2 lf ll lq pw n c g) = ((((((((((((((((((((((((((((((((((((((((((((((((((((((((True ∧ ((decide ((((n : Nat)) : Int) > (20 : Int))) = false)) ∧ ((decide ((((n : Nat)) : Int) > (20 : Int))) = false)) ∧ ((decide ((((n : Nat)) : Int) > (20 : Int))) = false)) ∧ ((decide ((((n : Nat)) : Int) > (20 : Int))) = false)) ∧ (false = false)) ∧ True) ∧ True) ∧ True) ∧ ((n = n) ∧ ((n ≠ (0 : Nat)) ∧ ((n * 8) ≤ (140737488355328 : Nat))))) ∧ (((n = n) ∧ (∀ (i : Nat), ((i < n) → (∀ (j : Nat), ((j < (1 : Nat)) → ((Value.int .i64 (g i j)) = (Value.int .i64 (gI (Value.int .i64 (g i j)))))))))) ∧ ((((n : Nat)) : Int) ≤ (9223372036854775807 : Int)))) ∧ True) ∧ True) ∧ (((th2 (lsE lf ll lq) (pwE pw)) == (0 : Int)) = true)) ∧ ((lsIn lf ll lq) ∧ (pwIn pw))) ∧ ((lsIn lf ll lq) ∧ (pwIn pw))) ∧ ((((0 : Int) ≤ lf) ∧ (lf ≤ (1000 : Int))) ∧ ((((0 : Int) ≤ ll) ∧ (ll ≤ (1000 : Int))) ∧ (((0 : Int) ≤ lq) ∧ (lq ≤ (1000 : Int)))))) ∧ ((Bool.not (ndB lf ll lq pw)) = false)) ∧ (((n = n) ∧ (∀ (i : Nat), ((i < n) → (∀ (j : Nat), ((j < (1 : Nat)) → ((Value.int .i64 (g i j)) = (Value.int .i64 (gI (Value.int .i64 (g i j)))))))))) ∧ ((((n : Nat)) : Int) ≤ (9223372036854775807 : Int)))) ∧ (((rcpVal lf ll lq n (fun (i : Nat) => (fun (j : Nat) => (gI (Value.int .i64 (g i j)))))) == (0 : Int)) = false)) ∧ True) ∧ True) ∧ (((lsE lf ll lq) == (lsE lf ll lq)) = true)) ∧ (((lsE lf ll lq) == (lsE lf ll lq)) = true)) ∧ (((lsE lf ll lq) == (lsE lf ll lq)) = true)) ∧ (((lsE lf ll lq) == (lsE lf ll lq)) = true)) ∧ ((Bool.and ((if ((th2 (lsE lf ll lq) (pwE pw)) = (0 : Int)) then (lLo lf ll lq pw) else (0 : Int)) == (lLo lf ll lq pw)) (Bool.and ((if ((th2 (lsE lf ll lq) (pwE pw)) = (0 : Int)) then (lHi lf ll lq pw) else (0 : Int)) == (lHi lf ll lq pw)) true)) = true)) ∧ ((Bool.and ((if ((th2 (lsE lf ll lq) (pwE pw)) = (0 : Int)) then (lLo lf ll lq pw) else (0 : Int)) == (lLo lf ll lq pw)) (Bool.and ((if ((th2 (lsE lf ll lq) (pwE pw)) = (0 : Int)) then (lHi lf ll lq pw) else (0 : Int)) == (lHi lf ll lq pw)) true)) = true)) ∧ ((Bool.and ((if ((th2 (lsE lf ll lq) (pwE pw)) = (0 : Int)) then (lLo lf ll lq pw) else (0 : Int)) == (lLo lf ll lq pw)) (Bool.and ((if ((th2 (lsE lf ll lq) (pwE pw)) = (0 : Int)) then (lHi lf ll lq pw) else (0 : Int)) == (lHi lf ll lq pw)) true)) = true)) ∧ ((Bool.and ((if ((th2 (lsE lf ll lq) (pwE pw)) = (0 : Int)) then (lLo lf ll lq pw) else (0 : Int)) == (lLo lf ll lq pw)) (Bool.and ((if ((th2 (lsE lf ll lq) (pwE pw)) = (0 : Int)) then (lHi lf ll lq pw) else (0 : Int)) == (lHi lf ll lq pw)) true)) = true)) ∧ (((th2 (lsE lf ll lq) (pwE pw)) == (th2 (lsE lf ll lq) (pwE pw))) = true)) ∧ (((th2 (lsE lf ll lq) (pwE pw)) == (th2 (lsE lf ll lq) (pwE pw))) = true)) ∧ (((th2 (lsE lf ll lq) (pwE pw)) == (th2 (lsE lf ll lq) (pwE pw))) = true)) ∧ (((th2 (lsE lf ll lq) (pwE pw)) == (th2 (lsE lf ll lq) (pwE pw))) = true)) ∧ ((Bool.and ((if ((th2 (lsE lf ll lq) (pwE pw)) = (0 : Int)) then (dLo lf ll lq pw) else (0 : Int)) == (dLo lf ll lq pw)) (Bool.and ((if ((th2 (lsE lf ll lq) (pwE pw)) = (0 : Int)) then (dHi lf ll lq pw) else (0 : Int)) == (dHi lf ll lq pw)) true)) = true)) ∧ ((Bool.and ((if ((th2 (lsE lf ll lq) (pwE pw)) = (0 : Int)) then (dLo lf ll lq pw) else (0 : Int)) == (dLo lf ll lq pw)) (Bool.and ((if ((th2 (lsE lf ll lq) (pwE pw)) = (0 : Int)) then (dHi lf ll lq pw) else (0 : Int)) == (dHi lf ll lq pw)) true)) = true)) ∧ ((Bool.and ((if ((th2 (lsE lf ll lq) (pwE pw)) = (0 : Int)) then (dLo lf ll lq pw) else (0 : Int)) == (dLo lf ll lq pw)) (Bool.and ((if ((th2 (lsE lf ll lq) (pwE pw)) = (0 : Int)) then (dHi lf ll lq pw) else (0 : Int)) == (dHi lf ll lq pw)) true)) = true)) ∧ ((Bool.and ((if ((th2 (lsE lf ll lq) (pwE pw)) = (0 : Int)) then (dLo lf ll lq pw) else (0 : Int)) == (dLo lf ll lq pw)) (Bool.and ((if ((th2 (lsE lf ll lq) (pwE pw)) = (0 : Int)) then (dHi lf ll lq pw) else (0 : Int)) == (dHi lf ll lq pw)) true)) = true)) ∧ (((th2 (lsE lf ll lq) (pwE pw)) == (th2 (lsE lf ll lq) (pwE pw))) = true)) ∧ (((th2 (lsE lf ll lq) (pwE pw)) == (th2 (lsE lf ll lq) (pwE pw))) = true)) ∧ (((th2 (lsE lf ll lq) (pwE pw)) == (th2 (lsE lf ll lq) (pwE pw))) = true)) ∧ (((th2 (lsE lf ll lq) (pwE pw)) == (th2 (lsE lf ll lq) (pwE pw))) = true)) ∧ (((if ((ndE lf ll lq pw) = (0 : Int)) then (ndP lf ll lq pw) else (0 : Int)) == (ndP lf ll lq pw)) = true)) ∧ (((if ((ndE lf ll lq pw) = (0 : Int)) then (ndP lf ll lq pw) else (0 : Int)) == (ndP lf ll lq pw)) = true)) ∧ (((if ((ndE lf ll lq pw) = (0 : Int)) then (ndP lf ll lq pw) else (0 : Int)) == (ndP lf ll lq pw)) = true)) ∧ (((if ((ndE lf ll lq pw) = (0 : Int)) then (ndP lf ll lq pw) else (0 : Int)) == (ndP lf ll lq pw)) = true)) ∧ (((if ((ndE lf ll lq pw) = (0 : Int)) then (if ((ndB lf ll lq pw) = true) then (0 : Int) else (7 : Int)) else (ndE lf ll lq pw)) == (th2 (lsE lf ll lq) (pwE pw))) = true)) ∧ (((if ((ndE lf ll lq pw) = (0 : Int)) then (if ((ndB lf ll lq pw) = true) then (0 : Int) else (7 : Int)) else (ndE lf ll lq pw)) == (th2 (lsE lf ll lq) (pwE pw))) = true)) ∧ (((if ((ndE lf ll lq pw) = (0 : Int)) then (if ((ndB lf ll lq pw) = true) then (0 : Int) else (7 : Int)) else (ndE lf ll lq pw)) == (th2 (lsE lf ll lq) (pwE pw))) = true)) ∧ (((if ((ndE lf ll lq pw) = (0 : Int)) then (if ((ndB lf ll lq pw) = true) then (0 : Int) else (7 : Int)) else (ndE lf ll lq pw)) == (th2 (lsE lf ll lq) (pwE pw))) = true)) ∧ ((Bool.and ((if ((bfE lf ll lq n (fun (i : Nat) => (fun (j : Nat) => (gI (Value.int .i64 (g i j)))))) = (0 : Int)) then ((bfS lf ll lq n (fun (i : Nat) => (fun (j : Nat) => (gI (Value.int .i64 (g i j))))))).1 else (0 : Int)) == (0 : Int)) (Bool.and ((if ((bfE lf ll lq n (fun (i : Nat) => (fun (j : Nat) => (gI (Value.int .i64 (g i j)))))) = (0 : Int)) then ((bfS lf ll lq n (fun (i : Nat) => (fun (j : Nat) => (gI (Value.int .i64 (g i j))))))).2 else (0 : Int)) == (0 : Int)) true)) = true)) ∧ ((Bool.and ((if ((bfE lf ll lq n (fun (i : Nat) => (fun (j : Nat) => (gI (Value.int .i64 (g i j)))))) = (0 : Int)) then ((bfS lf ll lq n (fun (i : Nat) => (fun (j : Nat) => (gI (Value.int .i64 (g i j))))))).1 else (0 : Int)) == (0 : Int)) (Bool.and ((if ((bfE lf ll lq n (fun (i : Nat) => (fun (j : Nat) => (gI (Value.int .i64 (g i j)))))) = (0 : Int)) then ((bfS lf ll lq n (fun (i : Nat) => (fun (j : Nat) => (gI (Value.int .i64 (g i j))))))).2 else (0 : Int)) == (0 : Int)) true)) = true)) ∧ ((Bool.and ((if ((bfE lf ll lq n (fun (i : Nat) => (fun (j : Nat) => (gI (Value.int .i64 (g i j)))))) = (0 : Int)) then ((bfS lf ll lq n (fun (i : Nat) => (fun (j : Nat) => (gI (Value.int .i64 (g i j))))))).1 else (0 : Int)) == (0 : Int)) (Bool.and ((if ((bfE lf ll lq n (fun (i : Nat) => (fun (j : Nat) => (gI (Value.int .i64 (g i j)))))) = (0 : Int)) then ((bfS lf ll lq n (fun (i : Nat) => (fun (j : Nat) => (gI (Value.int .i64 (g i j))))))).2 else (0 : Int)) == (0 : Int)) true)) = true)) ∧ ((Bool.and ((if ((bfE lf ll lq n (fun (i : Nat) => (fun (j : Nat) => (gI (Value.int .i64 (g i j)))))) = (0 : Int)) then ((bfS lf ll lq n (fun (i : Nat) => (fun (j : Nat) => (gI (Value.int .i64 (g i j))))))).1 else (0 : Int)) == (0 : Int)) (Bool.and ((if ((bfE lf ll lq n (fun (i : Nat) => (fun (j : Nat) => (gI (Value.int .i64 (g i j)))))) = (0 : Int)) then ((bfS lf ll lq n (fun (i : Nat) => (fun (j : Nat) => (gI (Value.int .i64 (g i j))))))).2 else (0 : Int)) == (0 : Int)) true)) = true)) ∧ (((bfE lf ll lq n (fun (i : Nat) => (fun (j : Nat) => (gI (Value.int .i64 (g i j)))))) == (rcpVal lf ll lq n (fun (i : Nat) => (fun (j : Nat) => (gI (Value.int .i64 (g i j))))))) = true)) ∧ (((bfE lf ll lq n (fun (i : Nat) => (fun (j : Nat) => (gI (Value.int .i64 (g i j)))))) == (rcpVal lf ll lq n (fun (i : Nat) => (fun (j : Nat) => (gI (Value.int .i64 (g i j))))))) = true))) := by kernel_rfl
theorem ll_2_g : goodY (ll_2 lf ll lq pw n c g) = true := by kernel_rfl
theorem ll_3_o : obY (ll_3 lf ll lq pw n c g) = (((((((((((((((((((((((((((((((((((((((((((((((((((((((((True ∧ ((decide ((((n : Nat)) : Int) > (20 : Int))) = false)) ∧ ((decide ((((n : Nat)) : Int) > (20 : Int))) = false)) ∧ ((decide ((((n : Nat)) : Int) > (20 : Int))) = false)) ∧ ((decide ((((n : Nat)) : Int) > (20 : Int))) = false)) ∧ (false = false)) ∧ True) ∧ True) ∧ True) ∧ ((n = n) ∧ ((n ≠ (0 : Nat)) ∧ ((n * 8) ≤ (140737488355328 : Nat))))) ∧ (((n = n) ∧ (∀ (i : Nat), ((i < n) → (∀ (j : Nat), ((j < (1 : Nat)) → ((Value.int .i64 (g i j)) = (Value.int .i64 (gI (Value.int .i64 (g i j)))))))))) ∧ ((((n : Nat)) : Int) ≤ (9223372036854775807 : Int)))) ∧ True) ∧ True) ∧ (((th2 (lsE lf ll lq) (pwE pw)) == (0 : Int)) = true)) ∧ ((lsIn lf ll lq) ∧ (pwIn pw))) ∧ ((lsIn lf ll lq) ∧ (pwIn pw))) ∧ ((((0 : Int) ≤ lf) ∧ (lf ≤ (1000 : Int))) ∧ ((((0 : Int) ≤ ll) ∧ (ll ≤ (1000 : Int))) ∧ (((0 : Int) ≤ lq) ∧ (lq ≤ (1000 : Int)))))) ∧ ((Bool.not (ndB lf ll lq pw)) = true)) ∧ (((n = n) ∧ (∀ (i : Nat), ((i < n) → (∀ (j : Nat), ((j < (1 : Nat)) → ((Value.int .i64 (g i j)) = (Value.int .i64 (gI (Value.int .i64 (g i j)))))))))) ∧ ((((n : Nat)) : Int) ≤ (9223372036854775807 : Int)))) ∧ (((rcpVal lf ll lq n (fun (i : Nat) => (fun (j : Nat) => (gI (Value.int .i64 (g i j)))))) == (0 : Int)) = true)) ∧ (((n = n) ∧ (∀ (i : Nat), ((i < n) → (∀ (j : Nat), ((j < (1 : Nat)) → ((Value.int .i64 (g i j)) = (Value.int .i64 (gI (Value.int .i64 (g i j)))))))))) ∧ (((lsIn lf ll lq) ∧ (∀ (i : Nat), ((i < n) → (pwIn (gI (Value.int .i64 (g i 0))))))) ∧ (n ≤ (256 : Nat))))) ∧ True) ∧ True) ∧ (((lsE lf ll lq) == (lsE lf ll lq)) = true)) ∧ (((lsE lf ll lq) == (lsE lf ll lq)) = true)) ∧ (((lsE lf ll lq) == (lsE lf ll lq)) = true)) ∧ (((lsE lf ll lq) == (lsE lf ll lq)) = true)) ∧ ((Bool.and ((if ((th2 (lsE lf ll lq) (pwE pw)) = (0 : Int)) then (lLo lf ll lq pw) else (0 : Int)) == (lLo lf ll lq pw)) (Bool.and ((if ((th2 (lsE lf ll lq) (pwE pw)) = (0 : Int)) then (lHi lf ll lq pw) else (0 : Int)) == (lHi lf ll lq pw)) true)) = true)) ∧ ((Bool.and ((if ((th2 (lsE lf ll lq) (pwE pw)) = (0 : Int)) then (lLo lf ll lq pw) else (0 : Int)) == (lLo lf ll lq pw)) (Bool.and ((if ((th2 (lsE lf ll lq) (pwE pw)) = (0 : Int)) then (lHi lf ll lq pw) else (0 : Int)) == (lHi lf ll lq pw)) true)) = true)) ∧ ((Bool.and ((if ((th2 (lsE lf ll lq) (pwE pw)) = (0 : Int)) then (lLo lf ll lq pw) else (0 : Int)) == (lLo lf ll lq pw)) (Bool.and ((if ((th2 (lsE lf ll lq) (pwE pw)) = (0 : Int)) then (lHi lf ll lq pw) else (0 : Int)) == (lHi lf ll lq pw)) true)) = true)) ∧ ((Bool.and ((if ((th2 (lsE lf ll lq) (pwE pw)) = (0 : Int)) then (lLo lf ll lq pw) else (0 : Int)) == (lLo lf ll lq pw)) (Bool.and ((if ((th2 (lsE lf ll lq) (pwE pw)) = (0 : Int)) then (lHi lf ll lq pw) else (0 : Int)) == (lHi lf ll lq pw)) true)) = true)) ∧ (((th2 (lsE lf ll lq) (pwE pw)) == (th2 (lsE lf ll lq) (pwE pw))) = true)) ∧ (((th2 (lsE lf ll lq) (pwE pw)) == (th2 (lsE lf ll lq) (pwE pw))) = true)) ∧ (((th2 (lsE lf ll lq) (pwE pw)) == (th2 (lsE lf ll lq) (pwE pw))) = true)) ∧ (((th2 (lsE lf ll lq) (pwE pw)) == (th2 (lsE lf ll lq) (pwE pw))) = true)) ∧ ((Bool.and ((if ((th2 (lsE lf ll lq) (pwE pw)) = (0 : Int)) then (dLo lf ll lq pw) else (0 : Int)) == (dLo lf ll lq pw)) (Bool.and ((if ((th2 (lsE lf ll lq) (pwE pw)) = (0 : Int)) then (dHi lf ll lq pw) else (0 : Int)) == (dHi lf ll lq pw)) true)) = true)) ∧ ((Bool.and ((if ((th2 (lsE lf ll lq) (pwE pw)) = (0 : Int)) then (dLo lf ll lq pw) else (0 : Int)) == (dLo lf ll lq pw)) (Bool.and ((if ((th2 (lsE lf ll lq) (pwE pw)) = (0 : Int)) then (dHi lf ll lq pw) else (0 : Int)) == (dHi lf ll lq pw)) true)) = true)) ∧ ((Bool.and ((if ((th2 (lsE lf ll lq) (pwE pw)) = (0 : Int)) then (dLo lf ll lq pw) else (0 : Int)) == (dLo lf ll lq pw)) (Bool.and ((if ((th2 (lsE lf ll lq) (pwE pw)) = (0 : Int)) then (dHi lf ll lq pw) else (0 : Int)) == (dHi lf ll lq pw)) true)) = true)) ∧ ((Bool.and ((if ((th2 (lsE lf ll lq) (pwE pw)) = (0 : Int)) then (dLo lf ll lq pw) else (0 : Int)) == (dLo lf ll lq pw)) (Bool.and ((if ((th2 (lsE lf ll lq) (pwE pw)) = (0 : Int)) then (dHi lf ll lq pw) else (0 : Int)) == (dHi lf ll lq pw)) true)) = true)) ∧ (((th2 (lsE lf ll lq) (pwE pw)) == (th2 (lsE lf ll lq) (pwE pw))) = true)) ∧ (((th2 (lsE lf ll lq) (pwE pw)) == (th2 (lsE lf ll lq) (pwE pw))) = true)) ∧ (((th2 (lsE lf ll lq) (pwE pw)) == (th2 (lsE lf ll lq) (pwE pw))) = true)) ∧ (((th2 (lsE lf ll lq) (pwE pw)) == (th2 (lsE lf ll lq) (pwE pw))) = true)) ∧ (((if ((ndE lf ll lq pw) = (0 : Int)) then (ndP lf ll lq pw) else (0 : Int)) == (ndP lf ll lq pw)) = true)) ∧ (((if ((ndE lf ll lq pw) = (0 : Int)) then (ndP lf ll lq pw) else (0 : Int)) == (ndP lf ll lq pw)) = true)) ∧ (((if ((ndE lf ll lq pw) = (0 : Int)) then (ndP lf ll lq pw) else (0 : Int)) == (ndP lf ll lq pw)) = true)) ∧ (((if ((ndE lf ll lq pw) = (0 : Int)) then (ndP lf ll lq pw) else (0 : Int)) == (ndP lf ll lq pw)) = true)) ∧ (((if ((ndE lf ll lq pw) = (0 : Int)) then (if ((ndB lf ll lq pw) = true) then (0 : Int) else (7 : Int)) else (ndE lf ll lq pw)) == (7 : Int)) = true)) ∧ (((if ((ndE lf ll lq pw) = (0 : Int)) then (if ((ndB lf ll lq pw) = true) then (0 : Int) else (7 : Int)) else (ndE lf ll lq pw)) == (7 : Int)) = true)) ∧ (((if ((ndE lf ll lq pw) = (0 : Int)) then (if ((ndB lf ll lq pw) = true) then (0 : Int) else (7 : Int)) else (ndE lf ll lq pw)) == (7 : Int)) = true)) ∧ (((if ((ndE lf ll lq pw) = (0 : Int)) then (if ((ndB lf ll lq pw) = true) then (0 : Int) else (7 : Int)) else (ndE lf ll lq pw)) == (7 : Int)) = true)) ∧ ((Bool.and ((if ((bfE lf ll lq n (fun (i : Nat) => (fun (j : Nat) => (gI (Value.int .i64 (g i j)))))) = (0 : Int)) then ((bfS lf ll lq n (fun (i : Nat) => (fun (j : Nat) => (gI (Value.int .i64 (g i j))))))).1 else (0 : Int)) == (bsum (fun (k : Nat) => (dLo lf ll lq (gI (Value.int .i64 (g k 0))))) n)) (Bool.and ((if ((bfE lf ll lq n (fun (i : Nat) => (fun (j : Nat) => (gI (Value.int .i64 (g i j)))))) = (0 : Int)) then ((bfS lf ll lq n (fun (i : Nat) => (fun (j : Nat) => (gI (Value.int .i64 (g i j))))))).2 else (0 : Int)) == (bsum (fun (k : Nat) => (dHi lf ll lq (gI (Value.int .i64 (g k 0))))) n)) true)) = true)) ∧ ((Bool.and ((if ((bfE lf ll lq n (fun (i : Nat) => (fun (j : Nat) => (gI (Value.int .i64 (g i j)))))) = (0 : Int)) then ((bfS lf ll lq n (fun (i : Nat) => (fun (j : Nat) => (gI (Value.int .i64 (g i j))))))).1 else (0 : Int)) == (bsum (fun (k : Nat) => (dLo lf ll lq (gI (Value.int .i64 (g k 0))))) n)) (Bool.and ((if ((bfE lf ll lq n (fun (i : Nat) => (fun (j : Nat) => (gI (Value.int .i64 (g i j)))))) = (0 : Int)) then ((bfS lf ll lq n (fun (i : Nat) => (fun (j : Nat) => (gI (Value.int .i64 (g i j))))))).2 else (0 : Int)) == (bsum (fun (k : Nat) => (dHi lf ll lq (gI (Value.int .i64 (g k 0))))) n)) true)) = true)) ∧ ((Bool.and ((if ((bfE lf ll lq n (fun (i : Nat) => (fun (j : Nat) => (gI (Value.int .i64 (g i j)))))) = (0 : Int)) then ((bfS lf ll lq n (fun (i : Nat) => (fun (j : Nat) => (gI (Value.int .i64 (g i j))))))).1 else (0 : Int)) == (bsum (fun (k : Nat) => (dLo lf ll lq (gI (Value.int .i64 (g k 0))))) n)) (Bool.and ((if ((bfE lf ll lq n (fun (i : Nat) => (fun (j : Nat) => (gI (Value.int .i64 (g i j)))))) = (0 : Int)) then ((bfS lf ll lq n (fun (i : Nat) => (fun (j : Nat) => (gI (Value.int .i64 (g i j))))))).2 else (0 : Int)) == (bsum (fun (k : Nat) => (dHi lf ll lq (gI (Value.int .i64 (g k 0))))) n)) true)) = true)) ∧ ((Bool.and ((if ((bfE lf ll lq n (fun (i : Nat) => (fun (j : Nat) => (gI (Value.int .i64 (g i j)))))) = (0 : Int)) then ((bfS lf ll lq n (fun (i : Nat) => (fun (j : Nat) => (gI (Value.int .i64 (g i j))))))).1 else (0 : Int)) == (bsum (fun (k : Nat) => (dLo lf ll lq (gI (Value.int .i64 (g k 0))))) n)) (Bool.and ((if ((bfE lf ll lq n (fun (i : Nat) => (fun (j : Nat) => (gI (Value.int .i64 (g i j)))))) = (0 : Int)) then ((bfS lf ll lq n (fun (i : Nat) => (fun (j : Nat) => (gI (Value.int .i64 (g i j))))))).2 else (0 : Int)) == (bsum (fun (k : Nat) => (dHi lf ll lq (gI (Value.int .i64 (g k 0))))) n)) true)) = true)) ∧ (((bfE lf ll lq n (fun (i : Nat) => (fun (j : Nat) => (gI (Value.int .i64 (g i j)))))) == (rcpVal lf ll lq n (fun (i : Nat) => (fun (j : Nat) => (gI (Value.int .i64 (g i j))))))) = true)) ∧ (((bfE lf ll lq n (fun (i : Nat) => (fun (j : Nat) => (gI (Value.int .i64 (g i j)))))) == (rcpVal lf ll lq n (fun (i : Nat) => (fun (j : Nat) => (gI (Value.int .i64 (g i j))))))) = true))) := by kernel_rfl
theorem ll_3_g : goodY (ll_3 lf ll lq pw n c g) = true := by kernel_rfl
theorem ll_4_o : obY (ll_4 lf ll lq pw n c g) = ((((((((((((((((((((((((((((((((((((((((((((((((((((((((True ∧ ((decide ((((n : Nat)) : Int) > (20 : Int))) = false)) ∧ ((decide ((((n : Nat)) : Int) > (20 : Int))) = false)) ∧ ((decide ((((n : Nat)) : Int) > (20 : Int))) = false)) ∧ ((decide ((((n : Nat)) : Int) > (20 : Int))) = false)) ∧ (false = false)) ∧ True) ∧ True) ∧ True) ∧ ((n = n) ∧ ((n ≠ (0 : Nat)) ∧ ((n * 8) ≤ (140737488355328 : Nat))))) ∧ (((n = n) ∧ (∀ (i : Nat), ((i < n) → (∀ (j : Nat), ((j < (1 : Nat)) → ((Value.int .i64 (g i j)) = (Value.int .i64 (gI (Value.int .i64 (g i j)))))))))) ∧ ((((n : Nat)) : Int) ≤ (9223372036854775807 : Int)))) ∧ True) ∧ True) ∧ (((th2 (lsE lf ll lq) (pwE pw)) == (0 : Int)) = true)) ∧ ((lsIn lf ll lq) ∧ (pwIn pw))) ∧ ((lsIn lf ll lq) ∧ (pwIn pw))) ∧ ((((0 : Int) ≤ lf) ∧ (lf ≤ (1000 : Int))) ∧ ((((0 : Int) ≤ ll) ∧ (ll ≤ (1000 : Int))) ∧ (((0 : Int) ≤ lq) ∧ (lq ≤ (1000 : Int)))))) ∧ ((Bool.not (ndB lf ll lq pw)) = true)) ∧ (((n = n) ∧ (∀ (i : Nat), ((i < n) → (∀ (j : Nat), ((j < (1 : Nat)) → ((Value.int .i64 (g i j)) = (Value.int .i64 (gI (Value.int .i64 (g i j)))))))))) ∧ ((((n : Nat)) : Int) ≤ (9223372036854775807 : Int)))) ∧ (((rcpVal lf ll lq n (fun (i : Nat) => (fun (j : Nat) => (gI (Value.int .i64 (g i j)))))) == (0 : Int)) = false)) ∧ True) ∧ True) ∧ (((lsE lf ll lq) == (lsE lf ll lq)) = true)) ∧ (((lsE lf ll lq) == (lsE lf ll lq)) = true)) ∧ (((lsE lf ll lq) == (lsE lf ll lq)) = true)) ∧ (((lsE lf ll lq) == (lsE lf ll lq)) = true)) ∧ ((Bool.and ((if ((th2 (lsE lf ll lq) (pwE pw)) = (0 : Int)) then (lLo lf ll lq pw) else (0 : Int)) == (lLo lf ll lq pw)) (Bool.and ((if ((th2 (lsE lf ll lq) (pwE pw)) = (0 : Int)) then (lHi lf ll lq pw) else (0 : Int)) == (lHi lf ll lq pw)) true)) = true)) ∧ ((Bool.and ((if ((th2 (lsE lf ll lq) (pwE pw)) = (0 : Int)) then (lLo lf ll lq pw) else (0 : Int)) == (lLo lf ll lq pw)) (Bool.and ((if ((th2 (lsE lf ll lq) (pwE pw)) = (0 : Int)) then (lHi lf ll lq pw) else (0 : Int)) == (lHi lf ll lq pw)) true)) = true)) ∧ ((Bool.and ((if ((th2 (lsE lf ll lq) (pwE pw)) = (0 : Int)) then (lLo lf ll lq pw) else (0 : Int)) == (lLo lf ll lq pw)) (Bool.and ((if ((th2 (lsE lf ll lq) (pwE pw)) = (0 : Int)) then (lHi lf ll lq pw) else (0 : Int)) == (lHi lf ll lq pw)) true)) = true)) ∧ ((Bool.and ((if ((th2 (lsE lf ll lq) (pwE pw)) = (0 : Int)) then (lLo lf ll lq pw) else (0 : Int)) == (lLo lf ll lq pw)) (Bool.and ((if ((th2 (lsE lf ll lq) (pwE pw)) = (0 : Int)) then (lHi lf ll lq pw) else (0 : Int)) == (lHi lf ll lq pw)) true)) = true)) ∧ (((th2 (lsE lf ll lq) (pwE pw)) == (th2 (lsE lf ll lq) (pwE pw))) = true)) ∧ (((th2 (lsE lf ll lq) (pwE pw)) == (th2 (lsE lf ll lq) (pwE pw))) = true)) ∧ (((th2 (lsE lf ll lq) (pwE pw)) == (th2 (lsE lf ll lq) (pwE pw))) = true)) ∧ (((th2 (lsE lf ll lq) (pwE pw)) == (th2 (lsE lf ll lq) (pwE pw))) = true)) ∧ ((Bool.and ((if ((th2 (lsE lf ll lq) (pwE pw)) = (0 : Int)) then (dLo lf ll lq pw) else (0 : Int)) == (dLo lf ll lq pw)) (Bool.and ((if ((th2 (lsE lf ll lq) (pwE pw)) = (0 : Int)) then (dHi lf ll lq pw) else (0 : Int)) == (dHi lf ll lq pw)) true)) = true)) ∧ ((Bool.and ((if ((th2 (lsE lf ll lq) (pwE pw)) = (0 : Int)) then (dLo lf ll lq pw) else (0 : Int)) == (dLo lf ll lq pw)) (Bool.and ((if ((th2 (lsE lf ll lq) (pwE pw)) = (0 : Int)) then (dHi lf ll lq pw) else (0 : Int)) == (dHi lf ll lq pw)) true)) = true)) ∧ ((Bool.and ((if ((th2 (lsE lf ll lq) (pwE pw)) = (0 : Int)) then (dLo lf ll lq pw) else (0 : Int)) == (dLo lf ll lq pw)) (Bool.and ((if ((th2 (lsE lf ll lq) (pwE pw)) = (0 : Int)) then (dHi lf ll lq pw) else (0 : Int)) == (dHi lf ll lq pw)) true)) = true)) ∧ ((Bool.and ((if ((th2 (lsE lf ll lq) (pwE pw)) = (0 : Int)) then (dLo lf ll lq pw) else (0 : Int)) == (dLo lf ll lq pw)) (Bool.and ((if ((th2 (lsE lf ll lq) (pwE pw)) = (0 : Int)) then (dHi lf ll lq pw) else (0 : Int)) == (dHi lf ll lq pw)) true)) = true)) ∧ (((th2 (lsE lf ll lq) (pwE pw)) == (th2 (lsE lf ll lq) (pwE pw))) = true)) ∧ (((th2 (lsE lf ll lq) (pwE pw)) == (th2 (lsE lf ll lq) (pwE pw))) = true)) ∧ (((th2 (lsE lf ll lq) (pwE pw)) == (th2 (lsE lf ll lq) (pwE pw))) = true)) ∧ (((th2 (lsE lf ll lq) (pwE pw)) == (th2 (lsE lf ll lq) (pwE pw))) = true)) ∧ (((if ((ndE lf ll lq pw) = (0 : Int)) then (ndP lf ll lq pw) else (0 : Int)) == (ndP lf ll lq pw)) = true)) ∧ (((if ((ndE lf ll lq pw) = (0 : Int)) then (ndP lf ll lq pw) else (0 : Int)) == (ndP lf ll lq pw)) = true)) ∧ (((if ((ndE lf ll lq pw) = (0 : Int)) then (ndP lf ll lq pw) else (0 : Int)) == (ndP lf ll lq pw)) = true)) ∧ (((if ((ndE lf ll lq pw) = (0 : Int)) then (ndP lf ll lq pw) else (0 : Int)) == (ndP lf ll lq pw)) = true)) ∧ (((if ((ndE lf ll lq pw) = (0 : Int)) then (if ((ndB lf ll lq pw) = true) then (0 : Int) else (7 : Int)) else (ndE lf ll lq pw)) == (7 : Int)) = true)) ∧ (((if ((ndE lf ll lq pw) = (0 : Int)) then (if ((ndB lf ll lq pw) = true) then (0 : Int) else (7 : Int)) else (ndE lf ll lq pw)) == (7 : Int)) = true)) ∧ (((if ((ndE lf ll lq pw) = (0 : Int)) then (if ((ndB lf ll lq pw) = true) then (0 : Int) else (7 : Int)) else (ndE lf ll lq pw)) == (7 : Int)) = true)) ∧ (((if ((ndE lf ll lq pw) = (0 : Int)) then (if ((ndB lf ll lq pw) = true) then (0 : Int) else (7 : Int)) else (ndE lf ll lq pw)) == (7 : Int)) = true)) ∧ ((Bool.and ((if ((bfE lf ll lq n (fun (i : Nat) => (fun (j : Nat) => (gI (Value.int .i64 (g i j)))))) = (0 : Int)) then ((bfS lf ll lq n (fun (i : Nat) => (fun (j : Nat) => (gI (Value.int .i64 (g i j))))))).1 else (0 : Int)) == (0 : Int)) (Bool.and ((if ((bfE lf ll lq n (fun (i : Nat) => (fun (j : Nat) => (gI (Value.int .i64 (g i j)))))) = (0 : Int)) then ((bfS lf ll lq n (fun (i : Nat) => (fun (j : Nat) => (gI (Value.int .i64 (g i j))))))).2 else (0 : Int)) == (0 : Int)) true)) = true)) ∧ ((Bool.and ((if ((bfE lf ll lq n (fun (i : Nat) => (fun (j : Nat) => (gI (Value.int .i64 (g i j)))))) = (0 : Int)) then ((bfS lf ll lq n (fun (i : Nat) => (fun (j : Nat) => (gI (Value.int .i64 (g i j))))))).1 else (0 : Int)) == (0 : Int)) (Bool.and ((if ((bfE lf ll lq n (fun (i : Nat) => (fun (j : Nat) => (gI (Value.int .i64 (g i j)))))) = (0 : Int)) then ((bfS lf ll lq n (fun (i : Nat) => (fun (j : Nat) => (gI (Value.int .i64 (g i j))))))).2 else (0 : Int)) == (0 : Int)) true)) = true)) ∧ ((Bool.and ((if ((bfE lf ll lq n (fun (i : Nat) => (fun (j : Nat) => (gI (Value.int .i64 (g i j)))))) = (0 : Int)) then ((bfS lf ll lq n (fun (i : Nat) => (fun (j : Nat) => (gI (Value.int .i64 (g i j))))))).1 else (0 : Int)) == (0 : Int)) (Bool.and ((if ((bfE lf ll lq n (fun (i : Nat) => (fun (j : Nat) => (gI (Value.int .i64 (g i j)))))) = (0 : Int)) then ((bfS lf ll lq n (fun (i : Nat) => (fun (j : Nat) => (gI (Value.int .i64 (g i j))))))).2 else (0 : Int)) == (0 : Int)) true)) = true)) ∧ ((Bool.and ((if ((bfE lf ll lq n (fun (i : Nat) => (fun (j : Nat) => (gI (Value.int .i64 (g i j)))))) = (0 : Int)) then ((bfS lf ll lq n (fun (i : Nat) => (fun (j : Nat) => (gI (Value.int .i64 (g i j))))))).1 else (0 : Int)) == (0 : Int)) (Bool.and ((if ((bfE lf ll lq n (fun (i : Nat) => (fun (j : Nat) => (gI (Value.int .i64 (g i j)))))) = (0 : Int)) then ((bfS lf ll lq n (fun (i : Nat) => (fun (j : Nat) => (gI (Value.int .i64 (g i j))))))).2 else (0 : Int)) == (0 : Int)) true)) = true)) ∧ (((bfE lf ll lq n (fun (i : Nat) => (fun (j : Nat) => (gI (Value.int .i64 (g i j)))))) == (rcpVal lf ll lq n (fun (i : Nat) => (fun (j : Nat) => (gI (Value.int .i64 (g i j))))))) = true)) ∧ (((bfE lf ll lq n (fun (i : Nat) => (fun (j : Nat) => (gI (Value.int .i64 (g i j)))))) == (rcpVal lf ll lq n (fun (i : Nat) => (fun (j : Nat) => (gI (Value.int .i64 (g i j))))))) = true))) := by kernel_rfl
theorem ll_4_g : goodY (ll_4 lf ll lq pw n c g) = true := by kernel_rfl
theorem ll_5_o : obY (ll_5 lf ll lq pw n c g) = (((((((((((((((((((((((((((((((((((((((((((((((((((((True ∧ ((decide ((((n : Nat)) : Int) > (20 : Int))) = false)) ∧ ((decide ((((n : Nat)) : Int) > (20 : Int))) = false)) ∧ ((decide ((((n : Nat)) : Int) > (20 : Int))) = false)) ∧ ((decide ((((n : Nat)) : Int) > (20 : Int))) = false)) ∧ (false = false)) ∧ True) ∧ True) ∧ True) ∧ ((n = n) ∧ ((n ≠ (0 : Nat)) ∧ ((n * 8) ≤ (140737488355328 : Nat))))) ∧ (((n = n) ∧ (∀ (i : Nat), ((i < n) → (∀ (j : Nat), ((j < (1 : Nat)) → ((Value.int .i64 (g i j)) = (Value.int .i64 (gI (Value.int .i64 (g i j)))))))))) ∧ ((((n : Nat)) : Int) ≤ (9223372036854775807 : Int)))) ∧ True) ∧ True) ∧ (((th2 (lsE lf ll lq) (pwE pw)) == (0 : Int)) = false)) ∧ (((n = n) ∧ (∀ (i : Nat), ((i < n) → (∀ (j : Nat), ((j < (1 : Nat)) → ((Value.int .i64 (g i j)) = (Value.int .i64 (gI (Value.int .i64 (g i j)))))))))) ∧ ((((n : Nat)) : Int) ≤ (9223372036854775807 : Int)))) ∧ (((rcpVal lf ll lq n (fun (i : Nat) => (fun (j : Nat) => (gI (Value.int .i64 (g i j)))))) == (0 : Int)) = true)) ∧ (((n = n) ∧ (∀ (i : Nat), ((i < n) → (∀ (j : Nat), ((j < (1 : Nat)) → ((Value.int .i64 (g i j)) = (Value.int .i64 (gI (Value.int .i64 (g i j)))))))))) ∧ (((lsIn lf ll lq) ∧ (∀ (i : Nat), ((i < n) → (pwIn (gI (Value.int .i64 (g i 0))))))) ∧ (n ≤ (256 : Nat))))) ∧ True) ∧ True) ∧ (((lsE lf ll lq) == (lsE lf ll lq)) = true)) ∧ (((lsE lf ll lq) == (lsE lf ll lq)) = true)) ∧ (((lsE lf ll lq) == (lsE lf ll lq)) = true)) ∧ (((lsE lf ll lq) == (lsE lf ll lq)) = true)) ∧ ((Bool.and ((if ((th2 (lsE lf ll lq) (pwE pw)) = (0 : Int)) then (lLo lf ll lq pw) else (0 : Int)) == (0 : Int)) (Bool.and ((if ((th2 (lsE lf ll lq) (pwE pw)) = (0 : Int)) then (lHi lf ll lq pw) else (0 : Int)) == (0 : Int)) true)) = true)) ∧ ((Bool.and ((if ((th2 (lsE lf ll lq) (pwE pw)) = (0 : Int)) then (lLo lf ll lq pw) else (0 : Int)) == (0 : Int)) (Bool.and ((if ((th2 (lsE lf ll lq) (pwE pw)) = (0 : Int)) then (lHi lf ll lq pw) else (0 : Int)) == (0 : Int)) true)) = true)) ∧ ((Bool.and ((if ((th2 (lsE lf ll lq) (pwE pw)) = (0 : Int)) then (lLo lf ll lq pw) else (0 : Int)) == (0 : Int)) (Bool.and ((if ((th2 (lsE lf ll lq) (pwE pw)) = (0 : Int)) then (lHi lf ll lq pw) else (0 : Int)) == (0 : Int)) true)) = true)) ∧ ((Bool.and ((if ((th2 (lsE lf ll lq) (pwE pw)) = (0 : Int)) then (lLo lf ll lq pw) else (0 : Int)) == (0 : Int)) (Bool.and ((if ((th2 (lsE lf ll lq) (pwE pw)) = (0 : Int)) then (lHi lf ll lq pw) else (0 : Int)) == (0 : Int)) true)) = true)) ∧ (((th2 (lsE lf ll lq) (pwE pw)) == (th2 (lsE lf ll lq) (pwE pw))) = true)) ∧ (((th2 (lsE lf ll lq) (pwE pw)) == (th2 (lsE lf ll lq) (pwE pw))) = true)) ∧ (((th2 (lsE lf ll lq) (pwE pw)) == (th2 (lsE lf ll lq) (pwE pw))) = true)) ∧ (((th2 (lsE lf ll lq) (pwE pw)) == (th2 (lsE lf ll lq) (pwE pw))) = true)) ∧ ((Bool.and ((if ((th2 (lsE lf ll lq) (pwE pw)) = (0 : Int)) then (dLo lf ll lq pw) else (0 : Int)) == (0 : Int)) (Bool.and ((if ((th2 (lsE lf ll lq) (pwE pw)) = (0 : Int)) then (dHi lf ll lq pw) else (0 : Int)) == (0 : Int)) true)) = true)) ∧ ((Bool.and ((if ((th2 (lsE lf ll lq) (pwE pw)) = (0 : Int)) then (dLo lf ll lq pw) else (0 : Int)) == (0 : Int)) (Bool.and ((if ((th2 (lsE lf ll lq) (pwE pw)) = (0 : Int)) then (dHi lf ll lq pw) else (0 : Int)) == (0 : Int)) true)) = true)) ∧ ((Bool.and ((if ((th2 (lsE lf ll lq) (pwE pw)) = (0 : Int)) then (dLo lf ll lq pw) else (0 : Int)) == (0 : Int)) (Bool.and ((if ((th2 (lsE lf ll lq) (pwE pw)) = (0 : Int)) then (dHi lf ll lq pw) else (0 : Int)) == (0 : Int)) true)) = true)) ∧ ((Bool.and ((if ((th2 (lsE lf ll lq) (pwE pw)) = (0 : Int)) then (dLo lf ll lq pw) else (0 : Int)) == (0 : Int)) (Bool.and ((if ((th2 (lsE lf ll lq) (pwE pw)) = (0 : Int)) then (dHi lf ll lq pw) else (0 : Int)) == (0 : Int)) true)) = true)) ∧ (((th2 (lsE lf ll lq) (pwE pw)) == (th2 (lsE lf ll lq) (pwE pw))) = true)) ∧ (((th2 (lsE lf ll lq) (pwE pw)) == (th2 (lsE lf ll lq) (pwE pw))) = true)) ∧ (((th2 (lsE lf ll lq) (pwE pw)) == (th2 (lsE lf ll lq) (pwE pw))) = true)) ∧ (((th2 (lsE lf ll lq) (pwE pw)) == (th2 (lsE lf ll lq) (pwE pw))) = true)) ∧ (((if ((ndE lf ll lq pw) = (0 : Int)) then (ndP lf ll lq pw) else (0 : Int)) == (0 : Int)) = true)) ∧ (((if ((ndE lf ll lq pw) = (0 : Int)) then (ndP lf ll lq pw) else (0 : Int)) == (0 : Int)) = true)) ∧ (((if ((ndE lf ll lq pw) = (0 : Int)) then (ndP lf ll lq pw) else (0 : Int)) == (0 : Int)) = true)) ∧ (((if ((ndE lf ll lq pw) = (0 : Int)) then (ndP lf ll lq pw) else (0 : Int)) == (0 : Int)) = true)) ∧ (((if ((ndE lf ll lq pw) = (0 : Int)) then (if ((ndB lf ll lq pw) = true) then (0 : Int) else (7 : Int)) else (ndE lf ll lq pw)) == (th2 (lsE lf ll lq) (pwE pw))) = true)) ∧ (((if ((ndE lf ll lq pw) = (0 : Int)) then (if ((ndB lf ll lq pw) = true) then (0 : Int) else (7 : Int)) else (ndE lf ll lq pw)) == (th2 (lsE lf ll lq) (pwE pw))) = true)) ∧ (((if ((ndE lf ll lq pw) = (0 : Int)) then (if ((ndB lf ll lq pw) = true) then (0 : Int) else (7 : Int)) else (ndE lf ll lq pw)) == (th2 (lsE lf ll lq) (pwE pw))) = true)) ∧ (((if ((ndE lf ll lq pw) = (0 : Int)) then (if ((ndB lf ll lq pw) = true) then (0 : Int) else (7 : Int)) else (ndE lf ll lq pw)) == (th2 (lsE lf ll lq) (pwE pw))) = true)) ∧ ((Bool.and ((if ((bfE lf ll lq n (fun (i : Nat) => (fun (j : Nat) => (gI (Value.int .i64 (g i j)))))) = (0 : Int)) then ((bfS lf ll lq n (fun (i : Nat) => (fun (j : Nat) => (gI (Value.int .i64 (g i j))))))).1 else (0 : Int)) == (bsum (fun (k : Nat) => (dLo lf ll lq (gI (Value.int .i64 (g k 0))))) n)) (Bool.and ((if ((bfE lf ll lq n (fun (i : Nat) => (fun (j : Nat) => (gI (Value.int .i64 (g i j)))))) = (0 : Int)) then ((bfS lf ll lq n (fun (i : Nat) => (fun (j : Nat) => (gI (Value.int .i64 (g i j))))))).2 else (0 : Int)) == (bsum (fun (k : Nat) => (dHi lf ll lq (gI (Value.int .i64 (g k 0))))) n)) true)) = true)) ∧ ((Bool.and ((if ((bfE lf ll lq n (fun (i : Nat) => (fun (j : Nat) => (gI (Value.int .i64 (g i j)))))) = (0 : Int)) then ((bfS lf ll lq n (fun (i : Nat) => (fun (j : Nat) => (gI (Value.int .i64 (g i j))))))).1 else (0 : Int)) == (bsum (fun (k : Nat) => (dLo lf ll lq (gI (Value.int .i64 (g k 0))))) n)) (Bool.and ((if ((bfE lf ll lq n (fun (i : Nat) => (fun (j : Nat) => (gI (Value.int .i64 (g i j)))))) = (0 : Int)) then ((bfS lf ll lq n (fun (i : Nat) => (fun (j : Nat) => (gI (Value.int .i64 (g i j))))))).2 else (0 : Int)) == (bsum (fun (k : Nat) => (dHi lf ll lq (gI (Value.int .i64 (g k 0))))) n)) true)) = true)) ∧ ((Bool.and ((if ((bfE lf ll lq n (fun (i : Nat) => (fun (j : Nat) => (gI (Value.int .i64 (g i j)))))) = (0 : Int)) then ((bfS lf ll lq n (fun (i : Nat) => (fun (j : Nat) => (gI (Value.int .i64 (g i j))))))).1 else (0 : Int)) == (bsum (fun (k : Nat) => (dLo lf ll lq (gI (Value.int .i64 (g k 0))))) n)) (Bool.and ((if ((bfE lf ll lq n (fun (i : Nat) => (fun (j : Nat) => (gI (Value.int .i64 (g i j)))))) = (0 : Int)) then ((bfS lf ll lq n (fun (i : Nat) => (fun (j : Nat) => (gI (Value.int .i64 (g i j))))))).2 else (0 : Int)) == (bsum (fun (k : Nat) => (dHi lf ll lq (gI (Value.int .i64 (g k 0))))) n)) true)) = true)) ∧ ((Bool.and ((if ((bfE lf ll lq n (fun (i : Nat) => (fun (j : Nat) => (gI (Value.int .i64 (g i j)))))) = (0 : Int)) then ((bfS lf ll lq n (fun (i : Nat) => (fun (j : Nat) => (gI (Value.int .i64 (g i j))))))).1 else (0 : Int)) == (bsum (fun (k : Nat) => (dLo lf ll lq (gI (Value.int .i64 (g k 0))))) n)) (Bool.and ((if ((bfE lf ll lq n (fun (i : Nat) => (fun (j : Nat) => (gI (Value.int .i64 (g i j)))))) = (0 : Int)) then ((bfS lf ll lq n (fun (i : Nat) => (fun (j : Nat) => (gI (Value.int .i64 (g i j))))))).2 else (0 : Int)) == (bsum (fun (k : Nat) => (dHi lf ll lq (gI (Value.int .i64 (g k 0))))) n)) true)) = true)) ∧ (((bfE lf ll lq n (fun (i : Nat) => (fun (j : Nat) => (gI (Value.int .i64 (g i j)))))) == (rcpVal lf ll lq n (fun (i : Nat) => (fun (j : Nat) => (gI (Value.int .i64 (g i j))))))) = true)) ∧ (((bfE lf ll lq n (fun (i : Nat) => (fun (j : Nat) => (gI (Value.int .i64 (g i j)))))) == (rcpVal lf ll lq n (fun (i : Nat) => (fun (j : Nat) => (gI (Value.int .i64 (g i j))))))) = true))) := by kernel_rfl
theorem ll_5_g : goodY (ll_5 lf ll lq pw n c g) = true := by kernel_rfl
theorem ll_6_o : obY (ll_6 lf ll lq pw n c g) = ((((((((((((((((((((((((((((((((((((((((((((((((((((True ∧ ((decide ((((n : Nat)) : Int) > (20 : Int))) = false)) ∧ ((decide ((((n : Nat)) : Int) > (20 : Int))) = false)) ∧ ((decide ((((n : Nat)) : Int) > (20 : Int))) = false)) ∧ ((decide ((((n : Nat)) : Int) > (20 : Int))) = false)) ∧ (false = false)) ∧ True) ∧ True) ∧ True) ∧ ((n = n) ∧ ((n ≠ (0 : Nat)) ∧ ((n * 8) ≤ (140737488355328 : Nat))))) ∧ (((n = n) ∧ (∀ (i : Nat), ((i < n) → (∀ (j : Nat), ((j < (1 : Nat)) → ((Value.int .i64 (g i j)) = (Value.int .i64 (gI (Value.int .i64 (g i j)))))))))) ∧ ((((n : Nat)) : Int) ≤ (9223372036854775807 : Int)))) ∧ True) ∧ True) ∧ (((th2 (lsE lf ll lq) (pwE pw)) == (0 : Int)) = false)) ∧ (((n = n) ∧ (∀ (i : Nat), ((i < n) → (∀ (j : Nat), ((j < (1 : Nat)) → ((Value.int .i64 (g i j)) = (Value.int .i64 (gI (Value.int .i64 (g i j)))))))))) ∧ ((((n : Nat)) : Int) ≤ (9223372036854775807 : Int)))) ∧ (((rcpVal lf ll lq n (fun (i : Nat) => (fun (j : Nat) => (gI (Value.int .i64 (g i j)))))) == (0 : Int)) = false)) ∧ True) ∧ True) ∧ (((lsE lf ll lq) == (lsE lf ll lq)) = true)) ∧ (((lsE lf ll lq) == (lsE lf ll lq)) = true)) ∧ (((lsE lf ll lq) == (lsE lf ll lq)) = true)) ∧ (((lsE lf ll lq) == (lsE lf ll lq)) = true)) ∧ ((Bool.and ((if ((th2 (lsE lf ll lq) (pwE pw)) = (0 : Int)) then (lLo lf ll lq pw) else (0 : Int)) == (0 : Int)) (Bool.and ((if ((th2 (lsE lf ll lq) (pwE pw)) = (0 : Int)) then (lHi lf ll lq pw) else (0 : Int)) == (0 : Int)) true)) = true)) ∧ ((Bool.and ((if ((th2 (lsE lf ll lq) (pwE pw)) = (0 : Int)) then (lLo lf ll lq pw) else (0 : Int)) == (0 : Int)) (Bool.and ((if ((th2 (lsE lf ll lq) (pwE pw)) = (0 : Int)) then (lHi lf ll lq pw) else (0 : Int)) == (0 : Int)) true)) = true)) ∧ ((Bool.and ((if ((th2 (lsE lf ll lq) (pwE pw)) = (0 : Int)) then (lLo lf ll lq pw) else (0 : Int)) == (0 : Int)) (Bool.and ((if ((th2 (lsE lf ll lq) (pwE pw)) = (0 : Int)) then (lHi lf ll lq pw) else (0 : Int)) == (0 : Int)) true)) = true)) ∧ ((Bool.and ((if ((th2 (lsE lf ll lq) (pwE pw)) = (0 : Int)) then (lLo lf ll lq pw) else (0 : Int)) == (0 : Int)) (Bool.and ((if ((th2 (lsE lf ll lq) (pwE pw)) = (0 : Int)) then (lHi lf ll lq pw) else (0 : Int)) == (0 : Int)) true)) = true)) ∧ (((th2 (lsE lf ll lq) (pwE pw)) == (th2 (lsE lf ll lq) (pwE pw))) = true)) ∧ (((th2 (lsE lf ll lq) (pwE pw)) == (th2 (lsE lf ll lq) (pwE pw))) = true)) ∧ (((th2 (lsE lf ll lq) (pwE pw)) == (th2 (lsE lf ll lq) (pwE pw))) = true)) ∧ (((th2 (lsE lf ll lq) (pwE pw)) == (th2 (lsE lf ll lq) (pwE pw))) = true)) ∧ ((Bool.and ((if ((th2 (lsE lf ll lq) (pwE pw)) = (0 : Int)) then (dLo lf ll lq pw) else (0 : Int)) == (0 : Int)) (Bool.and ((if ((th2 (lsE lf ll lq) (pwE pw)) = (0 : Int)) then (dHi lf ll lq pw) else (0 : Int)) == (0 : Int)) true)) = true)) ∧ ((Bool.and ((if ((th2 (lsE lf ll lq) (pwE pw)) = (0 : Int)) then (dLo lf ll lq pw) else (0 : Int)) == (0 : Int)) (Bool.and ((if ((th2 (lsE lf ll lq) (pwE pw)) = (0 : Int)) then (dHi lf ll lq pw) else (0 : Int)) == (0 : Int)) true)) = true)) ∧ ((Bool.and ((if ((th2 (lsE lf ll lq) (pwE pw)) = (0 : Int)) then (dLo lf ll lq pw) else (0 : Int)) == (0 : Int)) (Bool.and ((if ((th2 (lsE lf ll lq) (pwE pw)) = (0 : Int)) then (dHi lf ll lq pw) else (0 : Int)) == (0 : Int)) true)) = true)) ∧ ((Bool.and ((if ((th2 (lsE lf ll lq) (pwE pw)) = (0 : Int)) then (dLo lf ll lq pw) else (0 : Int)) == (0 : Int)) (Bool.and ((if ((th2 (lsE lf ll lq) (pwE pw)) = (0 : Int)) then (dHi lf ll lq pw) else (0 : Int)) == (0 : Int)) true)) = true)) ∧ (((th2 (lsE lf ll lq) (pwE pw)) == (th2 (lsE lf ll lq) (pwE pw))) = true)) ∧ (((th2 (lsE lf ll lq) (pwE pw)) == (th2 (lsE lf ll lq) (pwE pw))) = true)) ∧ (((th2 (lsE lf ll lq) (pwE pw)) == (th2 (lsE lf ll lq) (pwE pw))) = true)) ∧ (((th2 (lsE lf ll lq) (pwE pw)) == (th2 (lsE lf ll lq) (pwE pw))) = true)) ∧ (((if ((ndE lf ll lq pw) = (0 : Int)) then (ndP lf ll lq pw) else (0 : Int)) == (0 : Int)) = true)) ∧ (((if ((ndE lf ll lq pw) = (0 : Int)) then (ndP lf ll lq pw) else (0 : Int)) == (0 : Int)) = true)) ∧ (((if ((ndE lf ll lq pw) = (0 : Int)) then (ndP lf ll lq pw) else (0 : Int)) == (0 : Int)) = true)) ∧ (((if ((ndE lf ll lq pw) = (0 : Int)) then (ndP lf ll lq pw) else (0 : Int)) == (0 : Int)) = true)) ∧ (((if ((ndE lf ll lq pw) = (0 : Int)) then (if ((ndB lf ll lq pw) = true) then (0 : Int) else (7 : Int)) else (ndE lf ll lq pw)) == (th2 (lsE lf ll lq) (pwE pw))) = true)) ∧ (((if ((ndE lf ll lq pw) = (0 : Int)) then (if ((ndB lf ll lq pw) = true) then (0 : Int) else (7 : Int)) else (ndE lf ll lq pw)) == (th2 (lsE lf ll lq) (pwE pw))) = true)) ∧ (((if ((ndE lf ll lq pw) = (0 : Int)) then (if ((ndB lf ll lq pw) = true) then (0 : Int) else (7 : Int)) else (ndE lf ll lq pw)) == (th2 (lsE lf ll lq) (pwE pw))) = true)) ∧ (((if ((ndE lf ll lq pw) = (0 : Int)) then (if ((ndB lf ll lq pw) = true) then (0 : Int) else (7 : Int)) else (ndE lf ll lq pw)) == (th2 (lsE lf ll lq) (pwE pw))) = true)) ∧ ((Bool.and ((if ((bfE lf ll lq n (fun (i : Nat) => (fun (j : Nat) => (gI (Value.int .i64 (g i j)))))) = (0 : Int)) then ((bfS lf ll lq n (fun (i : Nat) => (fun (j : Nat) => (gI (Value.int .i64 (g i j))))))).1 else (0 : Int)) == (0 : Int)) (Bool.and ((if ((bfE lf ll lq n (fun (i : Nat) => (fun (j : Nat) => (gI (Value.int .i64 (g i j)))))) = (0 : Int)) then ((bfS lf ll lq n (fun (i : Nat) => (fun (j : Nat) => (gI (Value.int .i64 (g i j))))))).2 else (0 : Int)) == (0 : Int)) true)) = true)) ∧ ((Bool.and ((if ((bfE lf ll lq n (fun (i : Nat) => (fun (j : Nat) => (gI (Value.int .i64 (g i j)))))) = (0 : Int)) then ((bfS lf ll lq n (fun (i : Nat) => (fun (j : Nat) => (gI (Value.int .i64 (g i j))))))).1 else (0 : Int)) == (0 : Int)) (Bool.and ((if ((bfE lf ll lq n (fun (i : Nat) => (fun (j : Nat) => (gI (Value.int .i64 (g i j)))))) = (0 : Int)) then ((bfS lf ll lq n (fun (i : Nat) => (fun (j : Nat) => (gI (Value.int .i64 (g i j))))))).2 else (0 : Int)) == (0 : Int)) true)) = true)) ∧ ((Bool.and ((if ((bfE lf ll lq n (fun (i : Nat) => (fun (j : Nat) => (gI (Value.int .i64 (g i j)))))) = (0 : Int)) then ((bfS lf ll lq n (fun (i : Nat) => (fun (j : Nat) => (gI (Value.int .i64 (g i j))))))).1 else (0 : Int)) == (0 : Int)) (Bool.and ((if ((bfE lf ll lq n (fun (i : Nat) => (fun (j : Nat) => (gI (Value.int .i64 (g i j)))))) = (0 : Int)) then ((bfS lf ll lq n (fun (i : Nat) => (fun (j : Nat) => (gI (Value.int .i64 (g i j))))))).2 else (0 : Int)) == (0 : Int)) true)) = true)) ∧ ((Bool.and ((if ((bfE lf ll lq n (fun (i : Nat) => (fun (j : Nat) => (gI (Value.int .i64 (g i j)))))) = (0 : Int)) then ((bfS lf ll lq n (fun (i : Nat) => (fun (j : Nat) => (gI (Value.int .i64 (g i j))))))).1 else (0 : Int)) == (0 : Int)) (Bool.and ((if ((bfE lf ll lq n (fun (i : Nat) => (fun (j : Nat) => (gI (Value.int .i64 (g i j)))))) = (0 : Int)) then ((bfS lf ll lq n (fun (i : Nat) => (fun (j : Nat) => (gI (Value.int .i64 (g i j))))))).2 else (0 : Int)) == (0 : Int)) true)) = true)) ∧ (((bfE lf ll lq n (fun (i : Nat) => (fun (j : Nat) => (gI (Value.int .i64 (g i j)))))) == (rcpVal lf ll lq n (fun (i : Nat) => (fun (j : Nat) => (gI (Value.int .i64 (g i j))))))) = true)) ∧ (((bfE lf ll lq n (fun (i : Nat) => (fun (j : Nat) => (gI (Value.int .i64 (g i j)))))) == (rcpVal lf ll lq n (fun (i : Nat) => (fun (j : Nat) => (gI (Value.int .i64 (g i j))))))) = true))) := by kernel_rfl
theorem ll_6_g : goodY (ll_6 lf ll lq pw n c g) = true := by kernel_rfl
theorem ll_7_o : obY (ll_7 lf ll lq pw n c g) = ((((((((((((((((((((((((((((((((((((((((((((((((((((((((True ∧ ((decide ((((n : Nat)) : Int) > (20 : Int))) = true)) ∧ ((decide ((((n : Nat)) : Int) > (20 : Int))) = true)) ∧ ((decide ((((n : Nat)) : Int) > (20 : Int))) = true)) ∧ ((decide ((((n : Nat)) : Int) > (20 : Int))) = true)) ∧ (((((n : Nat)) : Int) != (257 : Int)) = false)) ∧ True) ∧ True) ∧ True) ∧ ((n = n) ∧ ((n ≠ (0 : Nat)) ∧ ((n * 8) ≤ (140737488355328 : Nat))))) ∧ (((n = n) ∧ (∀ (i : Nat), ((i < n) → (∀ (j : Nat), ((j < (1 : Nat)) → ((Value.int .i64 (g i j)) = (Value.int .i64 (gI (Value.int .i64 (g i j)))))))))) ∧ ((((n : Nat)) : Int) ≤ (9223372036854775807 : Int)))) ∧ True) ∧ True) ∧ (((th2 (lsE lf ll lq) (pwE pw)) == (0 : Int)) = true)) ∧ ((lsIn lf ll lq) ∧ (pwIn pw))) ∧ ((lsIn lf ll lq) ∧ (pwIn pw))) ∧ ((((0 : Int) ≤ lf) ∧ (lf ≤ (1000 : Int))) ∧ ((((0 : Int) ≤ ll) ∧ (ll ≤ (1000 : Int))) ∧ (((0 : Int) ≤ lq) ∧ (lq ≤ (1000 : Int)))))) ∧ ((Bool.not (ndB lf ll lq pw)) = false)) ∧ (((n = n) ∧ (∀ (i : Nat), ((i < n) → (∀ (j : Nat), ((j < (1 : Nat)) → ((Value.int .i64 (g i j)) = (Value.int .i64 (gI (Value.int .i64 (g i j)))))))))) ∧ ((((n : Nat)) : Int) ≤ (9223372036854775807 : Int)))) ∧ (((rcpVal lf ll lq n (fun (i : Nat) => (fun (j : Nat) => (gI (Value.int .i64 (g i j)))))) == (0 : Int)) = false)) ∧ True) ∧ True) ∧ (((lsE lf ll lq) == (lsE lf ll lq)) = true)) ∧ (((lsE lf ll lq) == (lsE lf ll lq)) = true)) ∧ (((lsE lf ll lq) == (lsE lf ll lq)) = true)) ∧ (((lsE lf ll lq) == (lsE lf ll lq)) = true)) ∧ ((Bool.and ((if ((th2 (lsE lf ll lq) (pwE pw)) = (0 : Int)) then (lLo lf ll lq pw) else (0 : Int)) == (lLo lf ll lq pw)) (Bool.and ((if ((th2 (lsE lf ll lq) (pwE pw)) = (0 : Int)) then (lHi lf ll lq pw) else (0 : Int)) == (lHi lf ll lq pw)) true)) = true)) ∧ ((Bool.and ((if ((th2 (lsE lf ll lq) (pwE pw)) = (0 : Int)) then (lLo lf ll lq pw) else (0 : Int)) == (lLo lf ll lq pw)) (Bool.and ((if ((th2 (lsE lf ll lq) (pwE pw)) = (0 : Int)) then (lHi lf ll lq pw) else (0 : Int)) == (lHi lf ll lq pw)) true)) = true)) ∧ ((Bool.and ((if ((th2 (lsE lf ll lq) (pwE pw)) = (0 : Int)) then (lLo lf ll lq pw) else (0 : Int)) == (lLo lf ll lq pw)) (Bool.and ((if ((th2 (lsE lf ll lq) (pwE pw)) = (0 : Int)) then (lHi lf ll lq pw) else (0 : Int)) == (lHi lf ll lq pw)) true)) = true)) ∧ ((Bool.and ((if ((th2 (lsE lf ll lq) (pwE pw)) = (0 : Int)) then (lLo lf ll lq pw) else (0 : Int)) == (lLo lf ll lq pw)) (Bool.and ((if ((th2 (lsE lf ll lq) (pwE pw)) = (0 : Int)) then (lHi lf ll lq pw) else (0 : Int)) == (lHi lf ll lq pw)) true)) = true)) ∧ (((th2 (lsE lf ll lq) (pwE pw)) == (th2 (lsE lf ll lq) (pwE pw))) = true)) ∧ (((th2 (lsE lf ll lq) (pwE pw)) == (th2 (lsE lf ll lq) (pwE pw))) = true)) ∧ (((th2 (lsE lf ll lq) (pwE pw)) == (th2 (lsE lf ll lq) (pwE pw))) = true)) ∧ (((th2 (lsE lf ll lq) (pwE pw)) == (th2 (lsE lf ll lq) (pwE pw))) = true)) ∧ ((Bool.and ((if ((th2 (lsE lf ll lq) (pwE pw)) = (0 : Int)) then (dLo lf ll lq pw) else (0 : Int)) == (dLo lf ll lq pw)) (Bool.and ((if ((th2 (lsE lf ll lq) (pwE pw)) = (0 : Int)) then (dHi lf ll lq pw) else (0 : Int)) == (dHi lf ll lq pw)) true)) = true)) ∧ ((Bool.and ((if ((th2 (lsE lf ll lq) (pwE pw)) = (0 : Int)) then (dLo lf ll lq pw) else (0 : Int)) == (dLo lf ll lq pw)) (Bool.and ((if ((th2 (lsE lf ll lq) (pwE pw)) = (0 : Int)) then (dHi lf ll lq pw) else (0 : Int)) == (dHi lf ll lq pw)) true)) = true)) ∧ ((Bool.and ((if ((th2 (lsE lf ll lq) (pwE pw)) = (0 : Int)) then (dLo lf ll lq pw) else (0 : Int)) == (dLo lf ll lq pw)) (Bool.and ((if ((th2 (lsE lf ll lq) (pwE pw)) = (0 : Int)) then (dHi lf ll lq pw) else (0 : Int)) == (dHi lf ll lq pw)) true)) = true)) ∧ ((Bool.and ((if ((th2 (lsE lf ll lq) (pwE pw)) = (0 : Int)) then (dLo lf ll lq pw) else (0 : Int)) == (dLo lf ll lq pw)) (Bool.and ((if ((th2 (lsE lf ll lq) (pwE pw)) = (0 : Int)) then (dHi lf ll lq pw) else (0 : Int)) == (dHi lf ll lq pw)) true)) = true)) ∧ (((th2 (lsE lf ll lq) (pwE pw)) == (th2 (lsE lf ll lq) (pwE pw))) = true)) ∧ (((th2 (lsE lf ll lq) (pwE pw)) == (th2 (lsE lf ll lq) (pwE pw))) = true)) ∧ (((th2 (lsE lf ll lq) (pwE pw)) == (th2 (lsE lf ll lq) (pwE pw))) = true)) ∧ (((th2 (lsE lf ll lq) (pwE pw)) == (th2 (lsE lf ll lq) (pwE pw))) = true)) ∧ (((if ((ndE lf ll lq pw) = (0 : Int)) then (ndP lf ll lq pw) else (0 : Int)) == (ndP lf ll lq pw)) = true)) ∧ (((if ((ndE lf ll lq pw) = (0 : Int)) then (ndP lf ll lq pw) else (0 : Int)) == (ndP lf ll lq pw)) = true)) ∧ (((if ((ndE lf ll lq pw) = (0 : Int)) then (ndP lf ll lq pw) else (0 : Int)) == (ndP lf ll lq pw)) = true)) ∧ (((if ((ndE lf ll lq pw) = (0 : Int)) then (ndP lf ll lq pw) else (0 : Int)) == (ndP lf ll lq pw)) = true)) ∧ (((if ((ndE lf ll lq pw) = (0 : Int)) then (if ((ndB lf ll lq pw) = true) then (0 : Int) else (7 : Int)) else (ndE lf ll lq pw)) == (th2 (lsE lf ll lq) (pwE pw))) = true)) ∧ (((if ((ndE lf ll lq pw) = (0 : Int)) then (if ((ndB lf ll lq pw) = true) then (0 : Int) else (7 : Int)) else (ndE lf ll lq pw)) == (th2 (lsE lf ll lq) (pwE pw))) = true)) ∧ (((if ((ndE lf ll lq pw) = (0 : Int)) then (if ((ndB lf ll lq pw) = true) then (0 : Int) else (7 : Int)) else (ndE lf ll lq pw)) == (th2 (lsE lf ll lq) (pwE pw))) = true)) ∧ (((if ((ndE lf ll lq pw) = (0 : Int)) then (if ((ndB lf ll lq pw) = true) then (0 : Int) else (7 : Int)) else (ndE lf ll lq pw)) == (th2 (lsE lf ll lq) (pwE pw))) = true)) ∧ ((Bool.and ((if ((bfE lf ll lq n (fun (i : Nat) => (fun (j : Nat) => (gI (Value.int .i64 (g i j)))))) = (0 : Int)) then ((bfS lf ll lq n (fun (i : Nat) => (fun (j : Nat) => (gI (Value.int .i64 (g i j))))))).1 else (0 : Int)) == (0 : Int)) (Bool.and ((if ((bfE lf ll lq n (fun (i : Nat) => (fun (j : Nat) => (gI (Value.int .i64 (g i j)))))) = (0 : Int)) then ((bfS lf ll lq n (fun (i : Nat) => (fun (j : Nat) => (gI (Value.int .i64 (g i j))))))).2 else (0 : Int)) == (0 : Int)) true)) = true)) ∧ ((Bool.and ((if ((bfE lf ll lq n (fun (i : Nat) => (fun (j : Nat) => (gI (Value.int .i64 (g i j)))))) = (0 : Int)) then ((bfS lf ll lq n (fun (i : Nat) => (fun (j : Nat) => (gI (Value.int .i64 (g i j))))))).1 else (0 : Int)) == (0 : Int)) (Bool.and ((if ((bfE lf ll lq n (fun (i : Nat) => (fun (j : Nat) => (gI (Value.int .i64 (g i j)))))) = (0 : Int)) then ((bfS lf ll lq n (fun (i : Nat) => (fun (j : Nat) => (gI (Value.int .i64 (g i j))))))).2 else (0 : Int)) == (0 : Int)) true)) = true)) ∧ ((Bool.and ((if ((bfE lf ll lq n (fun (i : Nat) => (fun (j : Nat) => (gI (Value.int .i64 (g i j)))))) = (0 : Int)) then ((bfS lf ll lq n (fun (i : Nat) => (fun (j : Nat) => (gI (Value.int .i64 (g i j))))))).1 else (0 : Int)) == (0 : Int)) (Bool.and ((if ((bfE lf ll lq n (fun (i : Nat) => (fun (j : Nat) => (gI (Value.int .i64 (g i j)))))) = (0 : Int)) then ((bfS lf ll lq n (fun (i : Nat) => (fun (j : Nat) => (gI (Value.int .i64 (g i j))))))).2 else (0 : Int)) == (0 : Int)) true)) = true)) ∧ ((Bool.and ((if ((bfE lf ll lq n (fun (i : Nat) => (fun (j : Nat) => (gI (Value.int .i64 (g i j)))))) = (0 : Int)) then ((bfS lf ll lq n (fun (i : Nat) => (fun (j : Nat) => (gI (Value.int .i64 (g i j))))))).1 else (0 : Int)) == (0 : Int)) (Bool.and ((if ((bfE lf ll lq n (fun (i : Nat) => (fun (j : Nat) => (gI (Value.int .i64 (g i j)))))) = (0 : Int)) then ((bfS lf ll lq n (fun (i : Nat) => (fun (j : Nat) => (gI (Value.int .i64 (g i j))))))).2 else (0 : Int)) == (0 : Int)) true)) = true)) ∧ (((bfE lf ll lq n (fun (i : Nat) => (fun (j : Nat) => (gI (Value.int .i64 (g i j)))))) == (rcpVal lf ll lq n (fun (i : Nat) => (fun (j : Nat) => (gI (Value.int .i64 (g i j))))))) = true)) ∧ (((bfE lf ll lq n (fun (i : Nat) => (fun (j : Nat) => (gI (Value.int .i64 (g i j)))))) == (rcpVal lf ll lq n (fun (i : Nat) => (fun (j : Nat) => (gI (Value.int .i64 (g i j))))))) = true))) := by kernel_rfl
theorem ll_7_g : goodY (ll_7 lf ll lq pw n c g) = true := by kernel_rfl
theorem ll_8_o : obY (ll_8 lf ll lq pw n c g) = ((((((((((((((((((((((((((((((((((((((((((((((((((((((((True ∧ ((decide ((((n : Nat)) : Int) > (20 : Int))) = true)) ∧ ((decide ((((n : Nat)) : Int) > (20 : Int))) = true)) ∧ ((decide ((((n : Nat)) : Int) > (20 : Int))) = true)) ∧ ((decide ((((n : Nat)) : Int) > (20 : Int))) = true)) ∧ (((((n : Nat)) : Int) != (257 : Int)) = false)) ∧ True) ∧ True) ∧ True) ∧ ((n = n) ∧ ((n ≠ (0 : Nat)) ∧ ((n * 8) ≤ (140737488355328 : Nat))))) ∧ (((n = n) ∧ (∀ (i : Nat), ((i < n) → (∀ (j : Nat), ((j < (1 : Nat)) → ((Value.int .i64 (g i j)) = (Value.int .i64 (gI (Value.int .i64 (g i j)))))))))) ∧ ((((n : Nat)) : Int) ≤ (9223372036854775807 : Int)))) ∧ True) ∧ True) ∧ (((th2 (lsE lf ll lq) (pwE pw)) == (0 : Int)) = true)) ∧ ((lsIn lf ll lq) ∧ (pwIn pw))) ∧ ((lsIn lf ll lq) ∧ (pwIn pw))) ∧ ((((0 : Int) ≤ lf) ∧ (lf ≤ (1000 : Int))) ∧ ((((0 : Int) ≤ ll) ∧ (ll ≤ (1000 : Int))) ∧ (((0 : Int) ≤ lq) ∧ (lq ≤ (1000 : Int)))))) ∧ ((Bool.not (ndB lf ll lq pw)) = true)) ∧ (((n = n) ∧ (∀ (i : Nat), ((i < n) → (∀ (j : Nat), ((j < (1 : Nat)) → ((Value.int .i64 (g i j)) = (Value.int .i64 (gI (Value.int .i64 (g i j)))))))))) ∧ ((((n : Nat)) : Int) ≤ (9223372036854775807 : Int)))) ∧ (((rcpVal lf ll lq n (fun (i : Nat) => (fun (j : Nat) => (gI (Value.int .i64 (g i j)))))) == (0 : Int)) = false)) ∧ True) ∧ True) ∧ (((lsE lf ll lq) == (lsE lf ll lq)) = true)) ∧ (((lsE lf ll lq) == (lsE lf ll lq)) = true)) ∧ (((lsE lf ll lq) == (lsE lf ll lq)) = true)) ∧ (((lsE lf ll lq) == (lsE lf ll lq)) = true)) ∧ ((Bool.and ((if ((th2 (lsE lf ll lq) (pwE pw)) = (0 : Int)) then (lLo lf ll lq pw) else (0 : Int)) == (lLo lf ll lq pw)) (Bool.and ((if ((th2 (lsE lf ll lq) (pwE pw)) = (0 : Int)) then (lHi lf ll lq pw) else (0 : Int)) == (lHi lf ll lq pw)) true)) = true)) ∧ ((Bool.and ((if ((th2 (lsE lf ll lq) (pwE pw)) = (0 : Int)) then (lLo lf ll lq pw) else (0 : Int)) == (lLo lf ll lq pw)) (Bool.and ((if ((th2 (lsE lf ll lq) (pwE pw)) = (0 : Int)) then (lHi lf ll lq pw) else (0 : Int)) == (lHi lf ll lq pw)) true)) = true)) ∧ ((Bool.and ((if ((th2 (lsE lf ll lq) (pwE pw)) = (0 : Int)) then (lLo lf ll lq pw) else (0 : Int)) == (lLo lf ll lq pw)) (Bool.and ((if ((th2 (lsE lf ll lq) (pwE pw)) = (0 : Int)) then (lHi lf ll lq pw) else (0 : Int)) == (lHi lf ll lq pw)) true)) = true)) ∧ ((Bool.and ((if ((th2 (lsE lf ll lq) (pwE pw)) = (0 : Int)) then (lLo lf ll lq pw) else (0 : Int)) == (lLo lf ll lq pw)) (Bool.and ((if ((th2 (lsE lf ll lq) (pwE pw)) = (0 : Int)) then (lHi lf ll lq pw) else (0 : Int)) == (lHi lf ll lq pw)) true)) = true)) ∧ (((th2 (lsE lf ll lq) (pwE pw)) == (th2 (lsE lf ll lq) (pwE pw))) = true)) ∧ (((th2 (lsE lf ll lq) (pwE pw)) == (th2 (lsE lf ll lq) (pwE pw))) = true)) ∧ (((th2 (lsE lf ll lq) (pwE pw)) == (th2 (lsE lf ll lq) (pwE pw))) = true)) ∧ (((th2 (lsE lf ll lq) (pwE pw)) == (th2 (lsE lf ll lq) (pwE pw))) = true)) ∧ ((Bool.and ((if ((th2 (lsE lf ll lq) (pwE pw)) = (0 : Int)) then (dLo lf ll lq pw) else (0 : Int)) == (dLo lf ll lq pw)) (Bool.and ((if ((th2 (lsE lf ll lq) (pwE pw)) = (0 : Int)) then (dHi lf ll lq pw) else (0 : Int)) == (dHi lf ll lq pw)) true)) = true)) ∧ ((Bool.and ((if ((th2 (lsE lf ll lq) (pwE pw)) = (0 : Int)) then (dLo lf ll lq pw) else (0 : Int)) == (dLo lf ll lq pw)) (Bool.and ((if ((th2 (lsE lf ll lq) (pwE pw)) = (0 : Int)) then (dHi lf ll lq pw) else (0 : Int)) == (dHi lf ll lq pw)) true)) = true)) ∧ ((Bool.and ((if ((th2 (lsE lf ll lq) (pwE pw)) = (0 : Int)) then (dLo lf ll lq pw) else (0 : Int)) == (dLo lf ll lq pw)) (Bool.and ((if ((th2 (lsE lf ll lq) (pwE pw)) = (0 : Int)) then (dHi lf ll lq pw) else (0 : Int)) == (dHi lf ll lq pw)) true)) = true)) ∧ ((Bool.and ((if ((th2 (lsE lf ll lq) (pwE pw)) = (0 : Int)) then (dLo lf ll lq pw) else (0 : Int)) == (dLo lf ll lq pw)) (Bool.and ((if ((th2 (lsE lf ll lq) (pwE pw)) = (0 : Int)) then (dHi lf ll lq pw) else (0 : Int)) == (dHi lf ll lq pw)) true)) = true)) ∧ (((th2 (lsE lf ll lq) (pwE pw)) == (th2 (lsE lf ll lq) (pwE pw))) = true)) ∧ (((th2 (lsE lf ll lq) (pwE pw)) == (th2 (lsE lf ll lq) (pwE pw))) = true)) ∧ (((th2 (lsE lf ll lq) (pwE pw)) == (th2 (lsE lf ll lq) (pwE pw))) = true)) ∧ (((th2 (lsE lf ll lq) (pwE pw)) == (th2 (lsE lf ll lq) (pwE pw))) = true)) ∧ (((if ((ndE lf ll lq pw) = (0 : Int)) then (ndP lf ll lq pw) else (0 : Int)) == (ndP lf ll lq pw)) = true)) ∧ (((if ((ndE lf ll lq pw) = (0 : Int)) then (ndP lf ll lq pw) else (0 : Int)) == (ndP lf ll lq pw)) = true)) ∧ (((if ((ndE lf ll lq pw) = (0 : Int)) then (ndP lf ll lq pw) else (0 : Int)) == (ndP lf ll lq pw)) = true)) ∧ (((if ((ndE lf ll lq pw) = (0 : Int)) then (ndP lf ll lq pw) else (0 : Int)) == (ndP lf ll lq pw)) = true)) ∧ (((if ((ndE lf ll lq pw) = (0 : Int)) then (if ((ndB lf ll lq pw) = true) then (0 : Int) else (7 : Int)) else (ndE lf ll lq pw)) == (7 : Int)) = true)) ∧ (((if ((ndE lf ll lq pw) = (0 : Int)) then (if ((ndB lf ll lq pw) = true) then (0 : Int) else (7 : Int)) else (ndE lf ll lq pw)) == (7 : Int)) = true)) ∧ (((if ((ndE lf ll lq pw) = (0 : Int)) then (if ((ndB lf ll lq pw) = true) then (0 : Int) else (7 : Int)) else (ndE lf ll lq pw)) == (7 : Int)) = true)) ∧ (((if ((ndE lf ll lq pw) = (0 : Int)) then (if ((ndB lf ll lq pw) = true) then (0 : Int) else (7 : Int)) else (ndE lf ll lq pw)) == (7 : Int)) = true)) ∧ ((Bool.and ((if ((bfE lf ll lq n (fun (i : Nat) => (fun (j : Nat) => (gI (Value.int .i64 (g i j)))))) = (0 : Int)) then ((bfS lf ll lq n (fun (i : Nat) => (fun (j : Nat) => (gI (Value.int .i64 (g i j))))))).1 else (0 : Int)) == (0 : Int)) (Bool.and ((if ((bfE lf ll lq n (fun (i : Nat) => (fun (j : Nat) => (gI (Value.int .i64 (g i j)))))) = (0 : Int)) then ((bfS lf ll lq n (fun (i : Nat) => (fun (j : Nat) => (gI (Value.int .i64 (g i j))))))).2 else (0 : Int)) == (0 : Int)) true)) = true)) ∧ ((Bool.and ((if ((bfE lf ll lq n (fun (i : Nat) => (fun (j : Nat) => (gI (Value.int .i64 (g i j)))))) = (0 : Int)) then ((bfS lf ll lq n (fun (i : Nat) => (fun (j : Nat) => (gI (Value.int .i64 (g i j))))))).1 else (0 : Int)) == (0 : Int)) (Bool.and ((if ((bfE lf ll lq n (fun (i : Nat) => (fun (j : Nat) => (gI (Value.int .i64 (g i j)))))) = (0 : Int)) then ((bfS lf ll lq n (fun (i : Nat) => (fun (j : Nat) => (gI (Value.int .i64 (g i j))))))).2 else (0 : Int)) == (0 : Int)) true)) = true)) ∧ ((Bool.and ((if ((bfE lf ll lq n (fun (i : Nat) => (fun (j : Nat) => (gI (Value.int .i64 (g i j)))))) = (0 : Int)) then ((bfS lf ll lq n (fun (i : Nat) => (fun (j : Nat) => (gI (Value.int .i64 (g i j))))))).1 else (0 : Int)) == (0 : Int)) (Bool.and ((if ((bfE lf ll lq n (fun (i : Nat) => (fun (j : Nat) => (gI (Value.int .i64 (g i j)))))) = (0 : Int)) then ((bfS lf ll lq n (fun (i : Nat) => (fun (j : Nat) => (gI (Value.int .i64 (g i j))))))).2 else (0 : Int)) == (0 : Int)) true)) = true)) ∧ ((Bool.and ((if ((bfE lf ll lq n (fun (i : Nat) => (fun (j : Nat) => (gI (Value.int .i64 (g i j)))))) = (0 : Int)) then ((bfS lf ll lq n (fun (i : Nat) => (fun (j : Nat) => (gI (Value.int .i64 (g i j))))))).1 else (0 : Int)) == (0 : Int)) (Bool.and ((if ((bfE lf ll lq n (fun (i : Nat) => (fun (j : Nat) => (gI (Value.int .i64 (g i j)))))) = (0 : Int)) then ((bfS lf ll lq n (fun (i : Nat) => (fun (j : Nat) => (gI (Value.int .i64 (g i j))))))).2 else (0 : Int)) == (0 : Int)) true)) = true)) ∧ (((bfE lf ll lq n (fun (i : Nat) => (fun (j : Nat) => (gI (Value.int .i64 (g i j)))))) == (rcpVal lf ll lq n (fun (i : Nat) => (fun (j : Nat) => (gI (Value.int .i64 (g i j))))))) = true)) ∧ (((bfE lf ll lq n (fun (i : Nat) => (fun (j : Nat) => (gI (Value.int .i64 (g i j)))))) == (rcpVal lf ll lq n (fun (i : Nat) => (fun (j : Nat) => (gI (Value.int .i64 (g i j))))))) = true))) := by kernel_rfl
theorem ll_8_g : goodY (ll_8 lf ll lq pw n c g) = true := by kernel_rfl
theorem ll_9_o : obY (ll_9 lf ll lq pw n c g) = ((((((((((((((((((((((((((((((((((((((((((((((((((((True ∧ ((decide ((((n : Nat)) : Int) > (20 : Int))) = true)) ∧ ((decide ((((n : Nat)) : Int) > (20 : Int))) = true)) ∧ ((decide ((((n : Nat)) : Int) > (20 : Int))) = true)) ∧ ((decide ((((n : Nat)) : Int) > (20 : Int))) = true)) ∧ (((((n : Nat)) : Int) != (257 : Int)) = false)) ∧ True) ∧ True) ∧ True) ∧ ((n = n) ∧ ((n ≠ (0 : Nat)) ∧ ((n * 8) ≤ (140737488355328 : Nat))))) ∧ (((n = n) ∧ (∀ (i : Nat), ((i < n) → (∀ (j : Nat), ((j < (1 : Nat)) → ((Value.int .i64 (g i j)) = (Value.int .i64 (gI (Value.int .i64 (g i j)))))))))) ∧ ((((n : Nat)) : Int) ≤ (9223372036854775807 : Int)))) ∧ True) ∧ True) ∧ (((th2 (lsE lf ll lq) (pwE pw)) == (0 : Int)) = false)) ∧ (((n = n) ∧ (∀ (i : Nat), ((i < n) → (∀ (j : Nat), ((j < (1 : Nat)) → ((Value.int .i64 (g i j)) = (Value.int .i64 (gI (Value.int .i64 (g i j)))))))))) ∧ ((((n : Nat)) : Int) ≤ (9223372036854775807 : Int)))) ∧ (((rcpVal lf ll lq n (fun (i : Nat) => (fun (j : Nat) => (gI (Value.int .i64 (g i j)))))) == (0 : Int)) = false)) ∧ True) ∧ True) ∧ (((lsE lf ll lq) == (lsE lf ll lq)) = true)) ∧ (((lsE lf ll lq) == (lsE lf ll lq)) = true)) ∧ (((lsE lf ll lq) == (lsE lf ll lq)) = true)) ∧ (((lsE lf ll lq) == (lsE lf ll lq)) = true)) ∧ ((Bool.and ((if ((th2 (lsE lf ll lq) (pwE pw)) = (0 : Int)) then (lLo lf ll lq pw) else (0 : Int)) == (0 : Int)) (Bool.and ((if ((th2 (lsE lf ll lq) (pwE pw)) = (0 : Int)) then (lHi lf ll lq pw) else (0 : Int)) == (0 : Int)) true)) = true)) ∧ ((Bool.and ((if ((th2 (lsE lf ll lq) (pwE pw)) = (0 : Int)) then (lLo lf ll lq pw) else (0 : Int)) == (0 : Int)) (Bool.and ((if ((th2 (lsE lf ll lq) (pwE pw)) = (0 : Int)) then (lHi lf ll lq pw) else (0 : Int)) == (0 : Int)) true)) = true)) ∧ ((Bool.and ((if ((th2 (lsE lf ll lq) (pwE pw)) = (0 : Int)) then (lLo lf ll lq pw) else (0 : Int)) == (0 : Int)) (Bool.and ((if ((th2 (lsE lf ll lq) (pwE pw)) = (0 : Int)) then (lHi lf ll lq pw) else (0 : Int)) == (0 : Int)) true)) = true)) ∧ ((Bool.and ((if ((th2 (lsE lf ll lq) (pwE pw)) = (0 : Int)) then (lLo lf ll lq pw) else (0 : Int)) == (0 : Int)) (Bool.and ((if ((th2 (lsE lf ll lq) (pwE pw)) = (0 : Int)) then (lHi lf ll lq pw) else (0 : Int)) == (0 : Int)) true)) = true)) ∧ (((th2 (lsE lf ll lq) (pwE pw)) == (th2 (lsE lf ll lq) (pwE pw))) = true)) ∧ (((th2 (lsE lf ll lq) (pwE pw)) == (th2 (lsE lf ll lq) (pwE pw))) = true)) ∧ (((th2 (lsE lf ll lq) (pwE pw)) == (th2 (lsE lf ll lq) (pwE pw))) = true)) ∧ (((th2 (lsE lf ll lq) (pwE pw)) == (th2 (lsE lf ll lq) (pwE pw))) = true)) ∧ ((Bool.and ((if ((th2 (lsE lf ll lq) (pwE pw)) = (0 : Int)) then (dLo lf ll lq pw) else (0 : Int)) == (0 : Int)) (Bool.and ((if ((th2 (lsE lf ll lq) (pwE pw)) = (0 : Int)) then (dHi lf ll lq pw) else (0 : Int)) == (0 : Int)) true)) = true)) ∧ ((Bool.and ((if ((th2 (lsE lf ll lq) (pwE pw)) = (0 : Int)) then (dLo lf ll lq pw) else (0 : Int)) == (0 : Int)) (Bool.and ((if ((th2 (lsE lf ll lq) (pwE pw)) = (0 : Int)) then (dHi lf ll lq pw) else (0 : Int)) == (0 : Int)) true)) = true)) ∧ ((Bool.and ((if ((th2 (lsE lf ll lq) (pwE pw)) = (0 : Int)) then (dLo lf ll lq pw) else (0 : Int)) == (0 : Int)) (Bool.and ((if ((th2 (lsE lf ll lq) (pwE pw)) = (0 : Int)) then (dHi lf ll lq pw) else (0 : Int)) == (0 : Int)) true)) = true)) ∧ ((Bool.and ((if ((th2 (lsE lf ll lq) (pwE pw)) = (0 : Int)) then (dLo lf ll lq pw) else (0 : Int)) == (0 : Int)) (Bool.and ((if ((th2 (lsE lf ll lq) (pwE pw)) = (0 : Int)) then (dHi lf ll lq pw) else (0 : Int)) == (0 : Int)) true)) = true)) ∧ (((th2 (lsE lf ll lq) (pwE pw)) == (th2 (lsE lf ll lq) (pwE pw))) = true)) ∧ (((th2 (lsE lf ll lq) (pwE pw)) == (th2 (lsE lf ll lq) (pwE pw))) = true)) ∧ (((th2 (lsE lf ll lq) (pwE pw)) == (th2 (lsE lf ll lq) (pwE pw))) = true)) ∧ (((th2 (lsE lf ll lq) (pwE pw)) == (th2 (lsE lf ll lq) (pwE pw))) = true)) ∧ (((if ((ndE lf ll lq pw) = (0 : Int)) then (ndP lf ll lq pw) else (0 : Int)) == (0 : Int)) = true)) ∧ (((if ((ndE lf ll lq pw) = (0 : Int)) then (ndP lf ll lq pw) else (0 : Int)) == (0 : Int)) = true)) ∧ (((if ((ndE lf ll lq pw) = (0 : Int)) then (ndP lf ll lq pw) else (0 : Int)) == (0 : Int)) = true)) ∧ (((if ((ndE lf ll lq pw) = (0 : Int)) then (ndP lf ll lq pw) else (0 : Int)) == (0 : Int)) = true)) ∧ (((if ((ndE lf ll lq pw) = (0 : Int)) then (if ((ndB lf ll lq pw) = true) then (0 : Int) else (7 : Int)) else (ndE lf ll lq pw)) == (th2 (lsE lf ll lq) (pwE pw))) = true)) ∧ (((if ((ndE lf ll lq pw) = (0 : Int)) then (if ((ndB lf ll lq pw) = true) then (0 : Int) else (7 : Int)) else (ndE lf ll lq pw)) == (th2 (lsE lf ll lq) (pwE pw))) = true)) ∧ (((if ((ndE lf ll lq pw) = (0 : Int)) then (if ((ndB lf ll lq pw) = true) then (0 : Int) else (7 : Int)) else (ndE lf ll lq pw)) == (th2 (lsE lf ll lq) (pwE pw))) = true)) ∧ (((if ((ndE lf ll lq pw) = (0 : Int)) then (if ((ndB lf ll lq pw) = true) then (0 : Int) else (7 : Int)) else (ndE lf ll lq pw)) == (th2 (lsE lf ll lq) (pwE pw))) = true)) ∧ ((Bool.and ((if ((bfE lf ll lq n (fun (i : Nat) => (fun (j : Nat) => (gI (Value.int .i64 (g i j)))))) = (0 : Int)) then ((bfS lf ll lq n (fun (i : Nat) => (fun (j : Nat) => (gI (Value.int .i64 (g i j))))))).1 else (0 : Int)) == (0 : Int)) (Bool.and ((if ((bfE lf ll lq n (fun (i : Nat) => (fun (j : Nat) => (gI (Value.int .i64 (g i j)))))) = (0 : Int)) then ((bfS lf ll lq n (fun (i : Nat) => (fun (j : Nat) => (gI (Value.int .i64 (g i j))))))).2 else (0 : Int)) == (0 : Int)) true)) = true)) ∧ ((Bool.and ((if ((bfE lf ll lq n (fun (i : Nat) => (fun (j : Nat) => (gI (Value.int .i64 (g i j)))))) = (0 : Int)) then ((bfS lf ll lq n (fun (i : Nat) => (fun (j : Nat) => (gI (Value.int .i64 (g i j))))))).1 else (0 : Int)) == (0 : Int)) (Bool.and ((if ((bfE lf ll lq n (fun (i : Nat) => (fun (j : Nat) => (gI (Value.int .i64 (g i j)))))) = (0 : Int)) then ((bfS lf ll lq n (fun (i : Nat) => (fun (j : Nat) => (gI (Value.int .i64 (g i j))))))).2 else (0 : Int)) == (0 : Int)) true)) = true)) ∧ ((Bool.and ((if ((bfE lf ll lq n (fun (i : Nat) => (fun (j : Nat) => (gI (Value.int .i64 (g i j)))))) = (0 : Int)) then ((bfS lf ll lq n (fun (i : Nat) => (fun (j : Nat) => (gI (Value.int .i64 (g i j))))))).1 else (0 : Int)) == (0 : Int)) (Bool.and ((if ((bfE lf ll lq n (fun (i : Nat) => (fun (j : Nat) => (gI (Value.int .i64 (g i j)))))) = (0 : Int)) then ((bfS lf ll lq n (fun (i : Nat) => (fun (j : Nat) => (gI (Value.int .i64 (g i j))))))).2 else (0 : Int)) == (0 : Int)) true)) = true)) ∧ ((Bool.and ((if ((bfE lf ll lq n (fun (i : Nat) => (fun (j : Nat) => (gI (Value.int .i64 (g i j)))))) = (0 : Int)) then ((bfS lf ll lq n (fun (i : Nat) => (fun (j : Nat) => (gI (Value.int .i64 (g i j))))))).1 else (0 : Int)) == (0 : Int)) (Bool.and ((if ((bfE lf ll lq n (fun (i : Nat) => (fun (j : Nat) => (gI (Value.int .i64 (g i j)))))) = (0 : Int)) then ((bfS lf ll lq n (fun (i : Nat) => (fun (j : Nat) => (gI (Value.int .i64 (g i j))))))).2 else (0 : Int)) == (0 : Int)) true)) = true)) ∧ (((bfE lf ll lq n (fun (i : Nat) => (fun (j : Nat) => (gI (Value.int .i64 (g i j)))))) == (rcpVal lf ll lq n (fun (i : Nat) => (fun (j : Nat) => (gI (Value.int .i64 (g i j))))))) = true)) ∧ (((bfE lf ll lq n (fun (i : Nat) => (fun (j : Nat) => (gI (Value.int .i64 (g i j)))))) == (rcpVal lf ll lq n (fun (i : Nat) => (fun (j : Nat) => (gI (Value.int .i64 (g i j))))))) = true))) := by kernel_rfl
theorem ll_9_g : goodY (ll_9 lf ll lq pw n c g) = true := by kernel_rfl
theorem ll_n1_o : obY (ll_n1 lf ll lq pw) = (((((((((((((((((((((((((((((((((((((((((((((((((((((((((((True ∧ ((decide ((((0 : Nat)) : Int) > (20 : Int))) = false)) ∧ ((decide ((((0 : Nat)) : Int) > (20 : Int))) = false)) ∧ ((decide ((((0 : Nat)) : Int) > (20 : Int))) = false)) ∧ ((decide ((((0 : Nat)) : Int) > (20 : Int))) = false)) ∧ (false = false)) ∧ True) ∧ True) ∧ True) ∧ ((0 = 0) ∧ ((((0 : Nat)) : Int) ≤ (9223372036854775807 : Int)))) ∧ True) ∧ True) ∧ (((th2 (lsE lf ll lq) (pwE pw)) == (0 : Int)) = true)) ∧ ((lsIn lf ll lq) ∧ (pwIn pw))) ∧ ((lsIn lf ll lq) ∧ (pwIn pw))) ∧ ((((0 : Int) ≤ lf) ∧ (lf ≤ (1000 : Int))) ∧ ((((0 : Int) ≤ ll) ∧ (ll ≤ (1000 : Int))) ∧ (((0 : Int) ≤ lq) ∧ (lq ≤ (1000 : Int)))))) ∧ ((Bool.not (ndB lf ll lq pw)) = false)) ∧ True) ∧ (((lsE lf ll lq) != (0 : Int)) = false)) ∧ ((decide ((((0 : Nat)) : Int) > (256 : Int))) = false)) ∧ ((decide ((0 : Int) < (((0 : Nat)) : Int))) = false)) ∧ (((0 : Int) == (0 : Int)) = true)) ∧ ((decide ((0 : Int) < (((0 : Nat)) : Int))) = false)) ∧ True) ∧ True) ∧ (((lsE lf ll lq) == (lsE lf ll lq)) = true)) ∧ (((lsE lf ll lq) == (lsE lf ll lq)) = true)) ∧ (((lsE lf ll lq) == (lsE lf ll lq)) = true)) ∧ (((lsE lf ll lq) == (lsE lf ll lq)) = true)) ∧ ((Bool.and ((if ((th2 (lsE lf ll lq) (pwE pw)) = (0 : Int)) then (lLo lf ll lq pw) else (0 : Int)) == (lLo lf ll lq pw)) (Bool.and ((if ((th2 (lsE lf ll lq) (pwE pw)) = (0 : Int)) then (lHi lf ll lq pw) else (0 : Int)) == (lHi lf ll lq pw)) true)) = true)) ∧ ((Bool.and ((if ((th2 (lsE lf ll lq) (pwE pw)) = (0 : Int)) then (lLo lf ll lq pw) else (0 : Int)) == (lLo lf ll lq pw)) (Bool.and ((if ((th2 (lsE lf ll lq) (pwE pw)) = (0 : Int)) then (lHi lf ll lq pw) else (0 : Int)) == (lHi lf ll lq pw)) true)) = true)) ∧ ((Bool.and ((if ((th2 (lsE lf ll lq) (pwE pw)) = (0 : Int)) then (lLo lf ll lq pw) else (0 : Int)) == (lLo lf ll lq pw)) (Bool.and ((if ((th2 (lsE lf ll lq) (pwE pw)) = (0 : Int)) then (lHi lf ll lq pw) else (0 : Int)) == (lHi lf ll lq pw)) true)) = true)) ∧ ((Bool.and ((if ((th2 (lsE lf ll lq) (pwE pw)) = (0 : Int)) then (lLo lf ll lq pw) else (0 : Int)) == (lLo lf ll lq pw)) (Bool.and ((if ((th2 (lsE lf ll lq) (pwE pw)) = (0 : Int)) then (lHi lf ll lq pw) else (0 : Int)) == (lHi lf ll lq pw)) true)) = true)) ∧ (((th2 (lsE lf ll lq) (pwE pw)) == (th2 (lsE lf ll lq) (pwE pw))) = true)) ∧ (((th2 (lsE lf ll lq) (pwE pw)) == (th2 (lsE lf ll lq) (pwE pw))) = true)) ∧ (((th2 (lsE lf ll lq) (pwE pw)) == (th2 (lsE lf ll lq) (pwE pw))) = true)) ∧ (((th2 (lsE lf ll lq) (pwE pw)) == (th2 (lsE lf ll lq) (pwE pw))) = true)) ∧ ((Bool.and ((if ((th2 (lsE lf ll lq) (pwE pw)) = (0 : Int)) then (dLo lf ll lq pw) else (0 : Int)) == (dLo lf ll lq pw)) (Bool.and ((if ((th2 (lsE lf ll lq) (pwE pw)) = (0 : Int)) then (dHi lf ll lq pw) else (0 : Int)) == (dHi lf ll lq pw)) true)) = true)) ∧ ((Bool.and ((if ((th2 (lsE lf ll lq) (pwE pw)) = (0 : Int)) then (dLo lf ll lq pw) else (0 : Int)) == (dLo lf ll lq pw)) (Bool.and ((if ((th2 (lsE lf ll lq) (pwE pw)) = (0 : Int)) then (dHi lf ll lq pw) else (0 : Int)) == (dHi lf ll lq pw)) true)) = true)) ∧ ((Bool.and ((if ((th2 (lsE lf ll lq) (pwE pw)) = (0 : Int)) then (dLo lf ll lq pw) else (0 : Int)) == (dLo lf ll lq pw)) (Bool.and ((if ((th2 (lsE lf ll lq) (pwE pw)) = (0 : Int)) then (dHi lf ll lq pw) else (0 : Int)) == (dHi lf ll lq pw)) true)) = true)) ∧ ((Bool.and ((if ((th2 (lsE lf ll lq) (pwE pw)) = (0 : Int)) then (dLo lf ll lq pw) else (0 : Int)) == (dLo lf ll lq pw)) (Bool.and ((if ((th2 (lsE lf ll lq) (pwE pw)) = (0 : Int)) then (dHi lf ll lq pw) else (0 : Int)) == (dHi lf ll lq pw)) true)) = true)) ∧ (((th2 (lsE lf ll lq) (pwE pw)) == (th2 (lsE lf ll lq) (pwE pw))) = true)) ∧ (((th2 (lsE lf ll lq) (pwE pw)) == (th2 (lsE lf ll lq) (pwE pw))) = true)) ∧ (((th2 (lsE lf ll lq) (pwE pw)) == (th2 (lsE lf ll lq) (pwE pw))) = true)) ∧ (((th2 (lsE lf ll lq) (pwE pw)) == (th2 (lsE lf ll lq) (pwE pw))) = true)) ∧ (((if ((ndE lf ll lq pw) = (0 : Int)) then (ndP lf ll lq pw) else (0 : Int)) == (ndP lf ll lq pw)) = true)) ∧ (((if ((ndE lf ll lq pw) = (0 : Int)) then (ndP lf ll lq pw) else (0 : Int)) == (ndP lf ll lq pw)) = true)) ∧ (((if ((ndE lf ll lq pw) = (0 : Int)) then (ndP lf ll lq pw) else (0 : Int)) == (ndP lf ll lq pw)) = true)) ∧ (((if ((ndE lf ll lq pw) = (0 : Int)) then (ndP lf ll lq pw) else (0 : Int)) == (ndP lf ll lq pw)) = true)) ∧ (((if ((ndE lf ll lq pw) = (0 : Int)) then (if ((ndB lf ll lq pw) = true) then (0 : Int) else (7 : Int)) else (ndE lf ll lq pw)) == (th2 (lsE lf ll lq) (pwE pw))) = true)) ∧ (((if ((ndE lf ll lq pw) = (0 : Int)) then (if ((ndB lf ll lq pw) = true) then (0 : Int) else (7 : Int)) else (ndE lf ll lq pw)) == (th2 (lsE lf ll lq) (pwE pw))) = true)) ∧ (((if ((ndE lf ll lq pw) = (0 : Int)) then (if ((ndB lf ll lq pw) = true) then (0 : Int) else (7 : Int)) else (ndE lf ll lq pw)) == (th2 (lsE lf ll lq) (pwE pw))) = true)) ∧ (((if ((ndE lf ll lq pw) = (0 : Int)) then (if ((ndB lf ll lq pw) = true) then (0 : Int) else (7 : Int)) else (ndE lf ll lq pw)) == (th2 (lsE lf ll lq) (pwE pw))) = true)) ∧ ((Bool.and ((if ((bfE lf ll lq (0 : Nat) (fun (i : Nat) => (fun (j : Nat) => (List.getD [] ((i * 1) + j) (0 : Int))))) = (0 : Int)) then ((bfS lf ll lq (0 : Nat) (fun (i : Nat) => (fun (j : Nat) => (List.getD [] ((i * 1) + j) (0 : Int)))))).1 else (0 : Int)) == (0 : Int)) (Bool.and ((if ((bfE lf ll lq (0 : Nat) (fun (i : Nat) => (fun (j : Nat) => (List.getD [] ((i * 1) + j) (0 : Int))))) = (0 : Int)) then ((bfS lf ll lq (0 : Nat) (fun (i : Nat) => (fun (j : Nat) => (List.getD [] ((i * 1) + j) (0 : Int)))))).2 else (0 : Int)) == (0 : Int)) true)) = true)) ∧ ((Bool.and ((if ((bfE lf ll lq (0 : Nat) (fun (i : Nat) => (fun (j : Nat) => (List.getD [] ((i * 1) + j) (0 : Int))))) = (0 : Int)) then ((bfS lf ll lq (0 : Nat) (fun (i : Nat) => (fun (j : Nat) => (List.getD [] ((i * 1) + j) (0 : Int)))))).1 else (0 : Int)) == (0 : Int)) (Bool.and ((if ((bfE lf ll lq (0 : Nat) (fun (i : Nat) => (fun (j : Nat) => (List.getD [] ((i * 1) + j) (0 : Int))))) = (0 : Int)) then ((bfS lf ll lq (0 : Nat) (fun (i : Nat) => (fun (j : Nat) => (List.getD [] ((i * 1) + j) (0 : Int)))))).2 else (0 : Int)) == (0 : Int)) true)) = true)) ∧ ((Bool.and ((if ((bfE lf ll lq (0 : Nat) (fun (i : Nat) => (fun (j : Nat) => (List.getD [] ((i * 1) + j) (0 : Int))))) = (0 : Int)) then ((bfS lf ll lq (0 : Nat) (fun (i : Nat) => (fun (j : Nat) => (List.getD [] ((i * 1) + j) (0 : Int)))))).1 else (0 : Int)) == (0 : Int)) (Bool.and ((if ((bfE lf ll lq (0 : Nat) (fun (i : Nat) => (fun (j : Nat) => (List.getD [] ((i * 1) + j) (0 : Int))))) = (0 : Int)) then ((bfS lf ll lq (0 : Nat) (fun (i : Nat) => (fun (j : Nat) => (List.getD [] ((i * 1) + j) (0 : Int)))))).2 else (0 : Int)) == (0 : Int)) true)) = true)) ∧ ((Bool.and ((if ((bfE lf ll lq (0 : Nat) (fun (i : Nat) => (fun (j : Nat) => (List.getD [] ((i * 1) + j) (0 : Int))))) = (0 : Int)) then ((bfS lf ll lq (0 : Nat) (fun (i : Nat) => (fun (j : Nat) => (List.getD [] ((i * 1) + j) (0 : Int)))))).1 else (0 : Int)) == (0 : Int)) (Bool.and ((if ((bfE lf ll lq (0 : Nat) (fun (i : Nat) => (fun (j : Nat) => (List.getD [] ((i * 1) + j) (0 : Int))))) = (0 : Int)) then ((bfS lf ll lq (0 : Nat) (fun (i : Nat) => (fun (j : Nat) => (List.getD [] ((i * 1) + j) (0 : Int)))))).2 else (0 : Int)) == (0 : Int)) true)) = true)) ∧ (((bfE lf ll lq (0 : Nat) (fun (i : Nat) => (fun (j : Nat) => (List.getD [] ((i * 1) + j) (0 : Int))))) == (0 : Int)) = true)) ∧ (((bfE lf ll lq (0 : Nat) (fun (i : Nat) => (fun (j : Nat) => (List.getD [] ((i * 1) + j) (0 : Int))))) == (0 : Int)) = true))) := by kernel_rfl
theorem ll_n1_g : goodY (ll_n1 lf ll lq pw) = true := by kernel_rfl
theorem ll_n2_o : obY (ll_n2 lf ll lq pw) = (((((((((((((((((((((((((((((((((((((((((((((((((((((((((((True ∧ ((decide ((((0 : Nat)) : Int) > (20 : Int))) = false)) ∧ ((decide ((((0 : Nat)) : Int) > (20 : Int))) = false)) ∧ ((decide ((((0 : Nat)) : Int) > (20 : Int))) = false)) ∧ ((decide ((((0 : Nat)) : Int) > (20 : Int))) = false)) ∧ (false = false)) ∧ True) ∧ True) ∧ True) ∧ ((0 = 0) ∧ ((((0 : Nat)) : Int) ≤ (9223372036854775807 : Int)))) ∧ True) ∧ True) ∧ (((th2 (lsE lf ll lq) (pwE pw)) == (0 : Int)) = true)) ∧ ((lsIn lf ll lq) ∧ (pwIn pw))) ∧ ((lsIn lf ll lq) ∧ (pwIn pw))) ∧ ((((0 : Int) ≤ lf) ∧ (lf ≤ (1000 : Int))) ∧ ((((0 : Int) ≤ ll) ∧ (ll ≤ (1000 : Int))) ∧ (((0 : Int) ≤ lq) ∧ (lq ≤ (1000 : Int)))))) ∧ ((Bool.not (ndB lf ll lq pw)) = true)) ∧ True) ∧ (((lsE lf ll lq) != (0 : Int)) = false)) ∧ ((decide ((((0 : Nat)) : Int) > (256 : Int))) = false)) ∧ ((decide ((0 : Int) < (((0 : Nat)) : Int))) = false)) ∧ (((0 : Int) == (0 : Int)) = true)) ∧ ((decide ((0 : Int) < (((0 : Nat)) : Int))) = false)) ∧ True) ∧ True) ∧ (((lsE lf ll lq) == (lsE lf ll lq)) = true)) ∧ (((lsE lf ll lq) == (lsE lf ll lq)) = true)) ∧ (((lsE lf ll lq) == (lsE lf ll lq)) = true)) ∧ (((lsE lf ll lq) == (lsE lf ll lq)) = true)) ∧ ((Bool.and ((if ((th2 (lsE lf ll lq) (pwE pw)) = (0 : Int)) then (lLo lf ll lq pw) else (0 : Int)) == (lLo lf ll lq pw)) (Bool.and ((if ((th2 (lsE lf ll lq) (pwE pw)) = (0 : Int)) then (lHi lf ll lq pw) else (0 : Int)) == (lHi lf ll lq pw)) true)) = true)) ∧ ((Bool.and ((if ((th2 (lsE lf ll lq) (pwE pw)) = (0 : Int)) then (lLo lf ll lq pw) else (0 : Int)) == (lLo lf ll lq pw)) (Bool.and ((if ((th2 (lsE lf ll lq) (pwE pw)) = (0 : Int)) then (lHi lf ll lq pw) else (0 : Int)) == (lHi lf ll lq pw)) true)) = true)) ∧ ((Bool.and ((if ((th2 (lsE lf ll lq) (pwE pw)) = (0 : Int)) then (lLo lf ll lq pw) else (0 : Int)) == (lLo lf ll lq pw)) (Bool.and ((if ((th2 (lsE lf ll lq) (pwE pw)) = (0 : Int)) then (lHi lf ll lq pw) else (0 : Int)) == (lHi lf ll lq pw)) true)) = true)) ∧ ((Bool.and ((if ((th2 (lsE lf ll lq) (pwE pw)) = (0 : Int)) then (lLo lf ll lq pw) else (0 : Int)) == (lLo lf ll lq pw)) (Bool.and ((if ((th2 (lsE lf ll lq) (pwE pw)) = (0 : Int)) then (lHi lf ll lq pw) else (0 : Int)) == (lHi lf ll lq pw)) true)) = true)) ∧ (((th2 (lsE lf ll lq) (pwE pw)) == (th2 (lsE lf ll lq) (pwE pw))) = true)) ∧ (((th2 (lsE lf ll lq) (pwE pw)) == (th2 (lsE lf ll lq) (pwE pw))) = true)) ∧ (((th2 (lsE lf ll lq) (pwE pw)) == (th2 (lsE lf ll lq) (pwE pw))) = true)) ∧ (((th2 (lsE lf ll lq) (pwE pw)) == (th2 (lsE lf ll lq) (pwE pw))) = true)) ∧ ((Bool.and ((if ((th2 (lsE lf ll lq) (pwE pw)) = (0 : Int)) then (dLo lf ll lq pw) else (0 : Int)) == (dLo lf ll lq pw)) (Bool.and ((if ((th2 (lsE lf ll lq) (pwE pw)) = (0 : Int)) then (dHi lf ll lq pw) else (0 : Int)) == (dHi lf ll lq pw)) true)) = true)) ∧ ((Bool.and ((if ((th2 (lsE lf ll lq) (pwE pw)) = (0 : Int)) then (dLo lf ll lq pw) else (0 : Int)) == (dLo lf ll lq pw)) (Bool.and ((if ((th2 (lsE lf ll lq) (pwE pw)) = (0 : Int)) then (dHi lf ll lq pw) else (0 : Int)) == (dHi lf ll lq pw)) true)) = true)) ∧ ((Bool.and ((if ((th2 (lsE lf ll lq) (pwE pw)) = (0 : Int)) then (dLo lf ll lq pw) else (0 : Int)) == (dLo lf ll lq pw)) (Bool.and ((if ((th2 (lsE lf ll lq) (pwE pw)) = (0 : Int)) then (dHi lf ll lq pw) else (0 : Int)) == (dHi lf ll lq pw)) true)) = true)) ∧ ((Bool.and ((if ((th2 (lsE lf ll lq) (pwE pw)) = (0 : Int)) then (dLo lf ll lq pw) else (0 : Int)) == (dLo lf ll lq pw)) (Bool.and ((if ((th2 (lsE lf ll lq) (pwE pw)) = (0 : Int)) then (dHi lf ll lq pw) else (0 : Int)) == (dHi lf ll lq pw)) true)) = true)) ∧ (((th2 (lsE lf ll lq) (pwE pw)) == (th2 (lsE lf ll lq) (pwE pw))) = true)) ∧ (((th2 (lsE lf ll lq) (pwE pw)) == (th2 (lsE lf ll lq) (pwE pw))) = true)) ∧ (((th2 (lsE lf ll lq) (pwE pw)) == (th2 (lsE lf ll lq) (pwE pw))) = true)) ∧ (((th2 (lsE lf ll lq) (pwE pw)) == (th2 (lsE lf ll lq) (pwE pw))) = true)) ∧ (((if ((ndE lf ll lq pw) = (0 : Int)) then (ndP lf ll lq pw) else (0 : Int)) == (ndP lf ll lq pw)) = true)) ∧ (((if ((ndE lf ll lq pw) = (0 : Int)) then (ndP lf ll lq pw) else (0 : Int)) == (ndP lf ll lq pw)) = true)) ∧ (((if ((ndE lf ll lq pw) = (0 : Int)) then (ndP lf ll lq pw) else (0 : Int)) == (ndP lf ll lq pw)) = true)) ∧ (((if ((ndE lf ll lq pw) = (0 : Int)) then (ndP lf ll lq pw) else (0 : Int)) == (ndP lf ll lq pw)) = true)) ∧ (((if ((ndE lf ll lq pw) = (0 : Int)) then (if ((ndB lf ll lq pw) = true) then (0 : Int) else (7 : Int)) else (ndE lf ll lq pw)) == (7 : Int)) = true)) ∧ (((if ((ndE lf ll lq pw) = (0 : Int)) then (if ((ndB lf ll lq pw) = true) then (0 : Int) else (7 : Int)) else (ndE lf ll lq pw)) == (7 : Int)) = true)) ∧ (((if ((ndE lf ll lq pw) = (0 : Int)) then (if ((ndB lf ll lq pw) = true) then (0 : Int) else (7 : Int)) else (ndE lf ll lq pw)) == (7 : Int)) = true)) ∧ (((if ((ndE lf ll lq pw) = (0 : Int)) then (if ((ndB lf ll lq pw) = true) then (0 : Int) else (7 : Int)) else (ndE lf ll lq pw)) == (7 : Int)) = true)) ∧ ((Bool.and ((if ((bfE lf ll lq (0 : Nat) (fun (i : Nat) => (fun (j : Nat) => (List.getD [] ((i * 1) + j) (0 : Int))))) = (0 : Int)) then ((bfS lf ll lq (0 : Nat) (fun (i : Nat) => (fun (j : Nat) => (List.getD [] ((i * 1) + j) (0 : Int)))))).1 else (0 : Int)) == (0 : Int)) (Bool.and ((if ((bfE lf ll lq (0 : Nat) (fun (i : Nat) => (fun (j : Nat) => (List.getD [] ((i * 1) + j) (0 : Int))))) = (0 : Int)) then ((bfS lf ll lq (0 : Nat) (fun (i : Nat) => (fun (j : Nat) => (List.getD [] ((i * 1) + j) (0 : Int)))))).2 else (0 : Int)) == (0 : Int)) true)) = true)) ∧ ((Bool.and ((if ((bfE lf ll lq (0 : Nat) (fun (i : Nat) => (fun (j : Nat) => (List.getD [] ((i * 1) + j) (0 : Int))))) = (0 : Int)) then ((bfS lf ll lq (0 : Nat) (fun (i : Nat) => (fun (j : Nat) => (List.getD [] ((i * 1) + j) (0 : Int)))))).1 else (0 : Int)) == (0 : Int)) (Bool.and ((if ((bfE lf ll lq (0 : Nat) (fun (i : Nat) => (fun (j : Nat) => (List.getD [] ((i * 1) + j) (0 : Int))))) = (0 : Int)) then ((bfS lf ll lq (0 : Nat) (fun (i : Nat) => (fun (j : Nat) => (List.getD [] ((i * 1) + j) (0 : Int)))))).2 else (0 : Int)) == (0 : Int)) true)) = true)) ∧ ((Bool.and ((if ((bfE lf ll lq (0 : Nat) (fun (i : Nat) => (fun (j : Nat) => (List.getD [] ((i * 1) + j) (0 : Int))))) = (0 : Int)) then ((bfS lf ll lq (0 : Nat) (fun (i : Nat) => (fun (j : Nat) => (List.getD [] ((i * 1) + j) (0 : Int)))))).1 else (0 : Int)) == (0 : Int)) (Bool.and ((if ((bfE lf ll lq (0 : Nat) (fun (i : Nat) => (fun (j : Nat) => (List.getD [] ((i * 1) + j) (0 : Int))))) = (0 : Int)) then ((bfS lf ll lq (0 : Nat) (fun (i : Nat) => (fun (j : Nat) => (List.getD [] ((i * 1) + j) (0 : Int)))))).2 else (0 : Int)) == (0 : Int)) true)) = true)) ∧ ((Bool.and ((if ((bfE lf ll lq (0 : Nat) (fun (i : Nat) => (fun (j : Nat) => (List.getD [] ((i * 1) + j) (0 : Int))))) = (0 : Int)) then ((bfS lf ll lq (0 : Nat) (fun (i : Nat) => (fun (j : Nat) => (List.getD [] ((i * 1) + j) (0 : Int)))))).1 else (0 : Int)) == (0 : Int)) (Bool.and ((if ((bfE lf ll lq (0 : Nat) (fun (i : Nat) => (fun (j : Nat) => (List.getD [] ((i * 1) + j) (0 : Int))))) = (0 : Int)) then ((bfS lf ll lq (0 : Nat) (fun (i : Nat) => (fun (j : Nat) => (List.getD [] ((i * 1) + j) (0 : Int)))))).2 else (0 : Int)) == (0 : Int)) true)) = true)) ∧ (((bfE lf ll lq (0 : Nat) (fun (i : Nat) => (fun (j : Nat) => (List.getD [] ((i * 1) + j) (0 : Int))))) == (0 : Int)) = true)) ∧ (((bfE lf ll lq (0 : Nat) (fun (i : Nat) => (fun (j : Nat) => (List.getD [] ((i * 1) + j) (0 : Int))))) == (0 : Int)) = true))) := by kernel_rfl
theorem ll_n2_g : goodY (ll_n2 lf ll lq pw) = true := by kernel_rfl
theorem ll_n3_o : obY (ll_n3 lf ll lq pw) = (((((((((((((((((((((((((((((((((((((((((((((((((((((((True ∧ ((decide ((((0 : Nat)) : Int) > (20 : Int))) = false)) ∧ ((decide ((((0 : Nat)) : Int) > (20 : Int))) = false)) ∧ ((decide ((((0 : Nat)) : Int) > (20 : Int))) = false)) ∧ ((decide ((((0 : Nat)) : Int) > (20 : Int))) = false)) ∧ (false = false)) ∧ True) ∧ True) ∧ True) ∧ ((0 = 0) ∧ ((((0 : Nat)) : Int) ≤ (9223372036854775807 : Int)))) ∧ True) ∧ True) ∧ (((th2 (lsE lf ll lq) (pwE pw)) == (0 : Int)) = false)) ∧ True) ∧ (((lsE lf ll lq) != (0 : Int)) = false)) ∧ ((decide ((((0 : Nat)) : Int) > (256 : Int))) = false)) ∧ ((decide ((0 : Int) < (((0 : Nat)) : Int))) = false)) ∧ (((0 : Int) == (0 : Int)) = true)) ∧ ((decide ((0 : Int) < (((0 : Nat)) : Int))) = false)) ∧ True) ∧ True) ∧ (((lsE lf ll lq) == (lsE lf ll lq)) = true)) ∧ (((lsE lf ll lq) == (lsE lf ll lq)) = true)) ∧ (((lsE lf ll lq) == (lsE lf ll lq)) = true)) ∧ (((lsE lf ll lq) == (lsE lf ll lq)) = true)) ∧ ((Bool.and ((if ((th2 (lsE lf ll lq) (pwE pw)) = (0 : Int)) then (lLo lf ll lq pw) else (0 : Int)) == (0 : Int)) (Bool.and ((if ((th2 (lsE lf ll lq) (pwE pw)) = (0 : Int)) then (lHi lf ll lq pw) else (0 : Int)) == (0 : Int)) true)) = true)) ∧ ((Bool.and ((if ((th2 (lsE lf ll lq) (pwE pw)) = (0 : Int)) then (lLo lf ll lq pw) else (0 : Int)) == (0 : Int)) (Bool.and ((if ((th2 (lsE lf ll lq) (pwE pw)) = (0 : Int)) then (lHi lf ll lq pw) else (0 : Int)) == (0 : Int)) true)) = true)) ∧ ((Bool.and ((if ((th2 (lsE lf ll lq) (pwE pw)) = (0 : Int)) then (lLo lf ll lq pw) else (0 : Int)) == (0 : Int)) (Bool.and ((if ((th2 (lsE lf ll lq) (pwE pw)) = (0 : Int)) then (lHi lf ll lq pw) else (0 : Int)) == (0 : Int)) true)) = true)) ∧ ((Bool.and ((if ((th2 (lsE lf ll lq) (pwE pw)) = (0 : Int)) then (lLo lf ll lq pw) else (0 : Int)) == (0 : Int)) (Bool.and ((if ((th2 (lsE lf ll lq) (pwE pw)) = (0 : Int)) then (lHi lf ll lq pw) else (0 : Int)) == (0 : Int)) true)) = true)) ∧ (((th2 (lsE lf ll lq) (pwE pw)) == (th2 (lsE lf ll lq) (pwE pw))) = true)) ∧ (((th2 (lsE lf ll lq) (pwE pw)) == (th2 (lsE lf ll lq) (pwE pw))) = true)) ∧ (((th2 (lsE lf ll lq) (pwE pw)) == (th2 (lsE lf ll lq) (pwE pw))) = true)) ∧ (((th2 (lsE lf ll lq) (pwE pw)) == (th2 (lsE lf ll lq) (pwE pw))) = true)) ∧ ((Bool.and ((if ((th2 (lsE lf ll lq) (pwE pw)) = (0 : Int)) then (dLo lf ll lq pw) else (0 : Int)) == (0 : Int)) (Bool.and ((if ((th2 (lsE lf ll lq) (pwE pw)) = (0 : Int)) then (dHi lf ll lq pw) else (0 : Int)) == (0 : Int)) true)) = true)) ∧ ((Bool.and ((if ((th2 (lsE lf ll lq) (pwE pw)) = (0 : Int)) then (dLo lf ll lq pw) else (0 : Int)) == (0 : Int)) (Bool.and ((if ((th2 (lsE lf ll lq) (pwE pw)) = (0 : Int)) then (dHi lf ll lq pw) else (0 : Int)) == (0 : Int)) true)) = true)) ∧ ((Bool.and ((if ((th2 (lsE lf ll lq) (pwE pw)) = (0 : Int)) then (dLo lf ll lq pw) else (0 : Int)) == (0 : Int)) (Bool.and ((if ((th2 (lsE lf ll lq) (pwE pw)) = (0 : Int)) then (dHi lf ll lq pw) else (0 : Int)) == (0 : Int)) true)) = true)) ∧ ((Bool.and ((if ((th2 (lsE lf ll lq) (pwE pw)) = (0 : Int)) then (dLo lf ll lq pw) else (0 : Int)) == (0 : Int)) (Bool.and ((if ((th2 (lsE lf ll lq) (pwE pw)) = (0 : Int)) then (dHi lf ll lq pw) else (0 : Int)) == (0 : Int)) true)) = true)) ∧ (((th2 (lsE lf ll lq) (pwE pw)) == (th2 (lsE lf ll lq) (pwE pw))) = true)) ∧ (((th2 (lsE lf ll lq) (pwE pw)) == (th2 (lsE lf ll lq) (pwE pw))) = true)) ∧ (((th2 (lsE lf ll lq) (pwE pw)) == (th2 (lsE lf ll lq) (pwE pw))) = true)) ∧ (((th2 (lsE lf ll lq) (pwE pw)) == (th2 (lsE lf ll lq) (pwE pw))) = true)) ∧ (((if ((ndE lf ll lq pw) = (0 : Int)) then (ndP lf ll lq pw) else (0 : Int)) == (0 : Int)) = true)) ∧ (((if ((ndE lf ll lq pw) = (0 : Int)) then (ndP lf ll lq pw) else (0 : Int)) == (0 : Int)) = true)) ∧ (((if ((ndE lf ll lq pw) = (0 : Int)) then (ndP lf ll lq pw) else (0 : Int)) == (0 : Int)) = true)) ∧ (((if ((ndE lf ll lq pw) = (0 : Int)) then (ndP lf ll lq pw) else (0 : Int)) == (0 : Int)) = true)) ∧ (((if ((ndE lf ll lq pw) = (0 : Int)) then (if ((ndB lf ll lq pw) = true) then (0 : Int) else (7 : Int)) else (ndE lf ll lq pw)) == (th2 (lsE lf ll lq) (pwE pw))) = true)) ∧ (((if ((ndE lf ll lq pw) = (0 : Int)) then (if ((ndB lf ll lq pw) = true) then (0 : Int) else (7 : Int)) else (ndE lf ll lq pw)) == (th2 (lsE lf ll lq) (pwE pw))) = true)) ∧ (((if ((ndE lf ll lq pw) = (0 : Int)) then (if ((ndB lf ll lq pw) = true) then (0 : Int) else (7 : Int)) else (ndE lf ll lq pw)) == (th2 (lsE lf ll lq) (pwE pw))) = true)) ∧ (((if ((ndE lf ll lq pw) = (0 : Int)) then (if ((ndB lf ll lq pw) = true) then (0 : Int) else (7 : Int)) else (ndE lf ll lq pw)) == (th2 (lsE lf ll lq) (pwE pw))) = true)) ∧ ((Bool.and ((if ((bfE lf ll lq (0 : Nat) (fun (i : Nat) => (fun (j : Nat) => (List.getD [] ((i * 1) + j) (0 : Int))))) = (0 : Int)) then ((bfS lf ll lq (0 : Nat) (fun (i : Nat) => (fun (j : Nat) => (List.getD [] ((i * 1) + j) (0 : Int)))))).1 else (0 : Int)) == (0 : Int)) (Bool.and ((if ((bfE lf ll lq (0 : Nat) (fun (i : Nat) => (fun (j : Nat) => (List.getD [] ((i * 1) + j) (0 : Int))))) = (0 : Int)) then ((bfS lf ll lq (0 : Nat) (fun (i : Nat) => (fun (j : Nat) => (List.getD [] ((i * 1) + j) (0 : Int)))))).2 else (0 : Int)) == (0 : Int)) true)) = true)) ∧ ((Bool.and ((if ((bfE lf ll lq (0 : Nat) (fun (i : Nat) => (fun (j : Nat) => (List.getD [] ((i * 1) + j) (0 : Int))))) = (0 : Int)) then ((bfS lf ll lq (0 : Nat) (fun (i : Nat) => (fun (j : Nat) => (List.getD [] ((i * 1) + j) (0 : Int)))))).1 else (0 : Int)) == (0 : Int)) (Bool.and ((if ((bfE lf ll lq (0 : Nat) (fun (i : Nat) => (fun (j : Nat) => (List.getD [] ((i * 1) + j) (0 : Int))))) = (0 : Int)) then ((bfS lf ll lq (0 : Nat) (fun (i : Nat) => (fun (j : Nat) => (List.getD [] ((i * 1) + j) (0 : Int)))))).2 else (0 : Int)) == (0 : Int)) true)) = true)) ∧ ((Bool.and ((if ((bfE lf ll lq (0 : Nat) (fun (i : Nat) => (fun (j : Nat) => (List.getD [] ((i * 1) + j) (0 : Int))))) = (0 : Int)) then ((bfS lf ll lq (0 : Nat) (fun (i : Nat) => (fun (j : Nat) => (List.getD [] ((i * 1) + j) (0 : Int)))))).1 else (0 : Int)) == (0 : Int)) (Bool.and ((if ((bfE lf ll lq (0 : Nat) (fun (i : Nat) => (fun (j : Nat) => (List.getD [] ((i * 1) + j) (0 : Int))))) = (0 : Int)) then ((bfS lf ll lq (0 : Nat) (fun (i : Nat) => (fun (j : Nat) => (List.getD [] ((i * 1) + j) (0 : Int)))))).2 else (0 : Int)) == (0 : Int)) true)) = true)) ∧ ((Bool.and ((if ((bfE lf ll lq (0 : Nat) (fun (i : Nat) => (fun (j : Nat) => (List.getD [] ((i * 1) + j) (0 : Int))))) = (0 : Int)) then ((bfS lf ll lq (0 : Nat) (fun (i : Nat) => (fun (j : Nat) => (List.getD [] ((i * 1) + j) (0 : Int)))))).1 else (0 : Int)) == (0 : Int)) (Bool.and ((if ((bfE lf ll lq (0 : Nat) (fun (i : Nat) => (fun (j : Nat) => (List.getD [] ((i * 1) + j) (0 : Int))))) = (0 : Int)) then ((bfS lf ll lq (0 : Nat) (fun (i : Nat) => (fun (j : Nat) => (List.getD [] ((i * 1) + j) (0 : Int)))))).2 else (0 : Int)) == (0 : Int)) true)) = true)) ∧ (((bfE lf ll lq (0 : Nat) (fun (i : Nat) => (fun (j : Nat) => (List.getD [] ((i * 1) + j) (0 : Int))))) == (0 : Int)) = true)) ∧ (((bfE lf ll lq (0 : Nat) (fun (i : Nat) => (fun (j : Nat) => (List.getD [] ((i * 1) + j) (0 : Int))))) == (0 : Int)) = true))) := by kernel_rfl
theorem ll_n3_g : goodY (ll_n3 lf ll lq pw) = true := by kernel_rfl
theorem ll_n4_o : obY (ll_n4 lf ll lq pw) = ((((((((((((((((((((((((((((((((((((((((((((((((((((True ∧ ((decide ((((0 : Nat)) : Int) > (20 : Int))) = false)) ∧ ((decide ((((0 : Nat)) : Int) > (20 : Int))) = false)) ∧ ((decide ((((0 : Nat)) : Int) > (20 : Int))) = false)) ∧ ((decide ((((0 : Nat)) : Int) > (20 : Int))) = false)) ∧ (false = false)) ∧ True) ∧ True) ∧ True) ∧ ((0 = 0) ∧ ((((0 : Nat)) : Int) ≤ (9223372036854775807 : Int)))) ∧ True) ∧ True) ∧ (((th2 (lsE lf ll lq) (pwE pw)) == (0 : Int)) = false)) ∧ True) ∧ (((lsE lf ll lq) != (0 : Int)) = true)) ∧ (((lsE lf ll lq) == (0 : Int)) = false)) ∧ True) ∧ True) ∧ (((lsE lf ll lq) == (lsE lf ll lq)) = true)) ∧ (((lsE lf ll lq) == (lsE lf ll lq)) = true)) ∧ (((lsE lf ll lq) == (lsE lf ll lq)) = true)) ∧ (((lsE lf ll lq) == (lsE lf ll lq)) = true)) ∧ ((Bool.and ((if ((th2 (lsE lf ll lq) (pwE pw)) = (0 : Int)) then (lLo lf ll lq pw) else (0 : Int)) == (0 : Int)) (Bool.and ((if ((th2 (lsE lf ll lq) (pwE pw)) = (0 : Int)) then (lHi lf ll lq pw) else (0 : Int)) == (0 : Int)) true)) = true)) ∧ ((Bool.and ((if ((th2 (lsE lf ll lq) (pwE pw)) = (0 : Int)) then (lLo lf ll lq pw) else (0 : Int)) == (0 : Int)) (Bool.and ((if ((th2 (lsE lf ll lq) (pwE pw)) = (0 : Int)) then (lHi lf ll lq pw) else (0 : Int)) == (0 : Int)) true)) = true)) ∧ ((Bool.and ((if ((th2 (lsE lf ll lq) (pwE pw)) = (0 : Int)) then (lLo lf ll lq pw) else (0 : Int)) == (0 : Int)) (Bool.and ((if ((th2 (lsE lf ll lq) (pwE pw)) = (0 : Int)) then (lHi lf ll lq pw) else (0 : Int)) == (0 : Int)) true)) = true)) ∧ ((Bool.and ((if ((th2 (lsE lf ll lq) (pwE pw)) = (0 : Int)) then (lLo lf ll lq pw) else (0 : Int)) == (0 : Int)) (Bool.and ((if ((th2 (lsE lf ll lq) (pwE pw)) = (0 : Int)) then (lHi lf ll lq pw) else (0 : Int)) == (0 : Int)) true)) = true)) ∧ (((th2 (lsE lf ll lq) (pwE pw)) == (th2 (lsE lf ll lq) (pwE pw))) = true)) ∧ (((th2 (lsE lf ll lq) (pwE pw)) == (th2 (lsE lf ll lq) (pwE pw))) = true)) ∧ (((th2 (lsE lf ll lq) (pwE pw)) == (th2 (lsE lf ll lq) (pwE pw))) = true)) ∧ (((th2 (lsE lf ll lq) (pwE pw)) == (th2 (lsE lf ll lq) (pwE pw))) = true)) ∧ ((Bool.and ((if ((th2 (lsE lf ll lq) (pwE pw)) = (0 : Int)) then (dLo lf ll lq pw) else (0 : Int)) == (0 : Int)) (Bool.and ((if ((th2 (lsE lf ll lq) (pwE pw)) = (0 : Int)) then (dHi lf ll lq pw) else (0 : Int)) == (0 : Int)) true)) = true)) ∧ ((Bool.and ((if ((th2 (lsE lf ll lq) (pwE pw)) = (0 : Int)) then (dLo lf ll lq pw) else (0 : Int)) == (0 : Int)) (Bool.and ((if ((th2 (lsE lf ll lq) (pwE pw)) = (0 : Int)) then (dHi lf ll lq pw) else (0 : Int)) == (0 : Int)) true)) = true)) ∧ ((Bool.and ((if ((th2 (lsE lf ll lq) (pwE pw)) = (0 : Int)) then (dLo lf ll lq pw) else (0 : Int)) == (0 : Int)) (Bool.and ((if ((th2 (lsE lf ll lq) (pwE pw)) = (0 : Int)) then (dHi lf ll lq pw) else (0 : Int)) == (0 : Int)) true)) = true)) ∧ ((Bool.and ((if ((th2 (lsE lf ll lq) (pwE pw)) = (0 : Int)) then (dLo lf ll lq pw) else (0 : Int)) == (0 : Int)) (Bool.and ((if ((th2 (lsE lf ll lq) (pwE pw)) = (0 : Int)) then (dHi lf ll lq pw) else (0 : Int)) == (0 : Int)) true)) = true)) ∧ (((th2 (lsE lf ll lq) (pwE pw)) == (th2 (lsE lf ll lq) (pwE pw))) = true)) ∧ (((th2 (lsE lf ll lq) (pwE pw)) == (th2 (lsE lf ll lq) (pwE pw))) = true)) ∧ (((th2 (lsE lf ll lq) (pwE pw)) == (th2 (lsE lf ll lq) (pwE pw))) = true)) ∧ (((th2 (lsE lf ll lq) (pwE pw)) == (th2 (lsE lf ll lq) (pwE pw))) = true)) ∧ (((if ((ndE lf ll lq pw) = (0 : Int)) then (ndP lf ll lq pw) else (0 : Int)) == (0 : Int)) = true)) ∧ (((if ((ndE lf ll lq pw) = (0 : Int)) then (ndP lf ll lq pw) else (0 : Int)) == (0 : Int)) = true)) ∧ (((if ((ndE lf ll lq pw) = (0 : Int)) then (ndP lf ll lq pw) else (0 : Int)) == (0 : Int)) = true)) ∧ (((if ((ndE lf ll lq pw) = (0 : Int)) then (ndP lf ll lq pw) else (0 : Int)) == (0 : Int)) = true)) ∧ (((if ((ndE lf ll lq pw) = (0 : Int)) then (if ((ndB lf ll lq pw) = true) then (0 : Int) else (7 : Int)) else (ndE lf ll lq pw)) == (th2 (lsE lf ll lq) (pwE pw))) = true)) ∧ (((if ((ndE lf ll lq pw) = (0 : Int)) then (if ((ndB lf ll lq pw) = true) then (0 : Int) else (7 : Int)) else (ndE lf ll lq pw)) == (th2 (lsE lf ll lq) (pwE pw))) = true)) ∧ (((if ((ndE lf ll lq pw) = (0 : Int)) then (if ((ndB lf ll lq pw) = true) then (0 : Int) else (7 : Int)) else (ndE lf ll lq pw)) == (th2 (lsE lf ll lq) (pwE pw))) = true)) ∧ (((if ((ndE lf ll lq pw) = (0 : Int)) then (if ((ndB lf ll lq pw) = true) then (0 : Int) else (7 : Int)) else (ndE lf ll lq pw)) == (th2 (lsE lf ll lq) (pwE pw))) = true)) ∧ ((Bool.and ((if ((bfE lf ll lq (0 : Nat) (fun (i : Nat) => (fun (j : Nat) => (List.getD [] ((i * 1) + j) (0 : Int))))) = (0 : Int)) then ((bfS lf ll lq (0 : Nat) (fun (i : Nat) => (fun (j : Nat) => (List.getD [] ((i * 1) + j) (0 : Int)))))).1 else (0 : Int)) == (0 : Int)) (Bool.and ((if ((bfE lf ll lq (0 : Nat) (fun (i : Nat) => (fun (j : Nat) => (List.getD [] ((i * 1) + j) (0 : Int))))) = (0 : Int)) then ((bfS lf ll lq (0 : Nat) (fun (i : Nat) => (fun (j : Nat) => (List.getD [] ((i * 1) + j) (0 : Int)))))).2 else (0 : Int)) == (0 : Int)) true)) = true)) ∧ ((Bool.and ((if ((bfE lf ll lq (0 : Nat) (fun (i : Nat) => (fun (j : Nat) => (List.getD [] ((i * 1) + j) (0 : Int))))) = (0 : Int)) then ((bfS lf ll lq (0 : Nat) (fun (i : Nat) => (fun (j : Nat) => (List.getD [] ((i * 1) + j) (0 : Int)))))).1 else (0 : Int)) == (0 : Int)) (Bool.and ((if ((bfE lf ll lq (0 : Nat) (fun (i : Nat) => (fun (j : Nat) => (List.getD [] ((i * 1) + j) (0 : Int))))) = (0 : Int)) then ((bfS lf ll lq (0 : Nat) (fun (i : Nat) => (fun (j : Nat) => (List.getD [] ((i * 1) + j) (0 : Int)))))).2 else (0 : Int)) == (0 : Int)) true)) = true)) ∧ ((Bool.and ((if ((bfE lf ll lq (0 : Nat) (fun (i : Nat) => (fun (j : Nat) => (List.getD [] ((i * 1) + j) (0 : Int))))) = (0 : Int)) then ((bfS lf ll lq (0 : Nat) (fun (i : Nat) => (fun (j : Nat) => (List.getD [] ((i * 1) + j) (0 : Int)))))).1 else (0 : Int)) == (0 : Int)) (Bool.and ((if ((bfE lf ll lq (0 : Nat) (fun (i : Nat) => (fun (j : Nat) => (List.getD [] ((i * 1) + j) (0 : Int))))) = (0 : Int)) then ((bfS lf ll lq (0 : Nat) (fun (i : Nat) => (fun (j : Nat) => (List.getD [] ((i * 1) + j) (0 : Int)))))).2 else (0 : Int)) == (0 : Int)) true)) = true)) ∧ ((Bool.and ((if ((bfE lf ll lq (0 : Nat) (fun (i : Nat) => (fun (j : Nat) => (List.getD [] ((i * 1) + j) (0 : Int))))) = (0 : Int)) then ((bfS lf ll lq (0 : Nat) (fun (i : Nat) => (fun (j : Nat) => (List.getD [] ((i * 1) + j) (0 : Int)))))).1 else (0 : Int)) == (0 : Int)) (Bool.and ((if ((bfE lf ll lq (0 : Nat) (fun (i : Nat) => (fun (j : Nat) => (List.getD [] ((i * 1) + j) (0 : Int))))) = (0 : Int)) then ((bfS lf ll lq (0 : Nat) (fun (i : Nat) => (fun (j : Nat) => (List.getD [] ((i * 1) + j) (0 : Int)))))).2 else (0 : Int)) == (0 : Int)) true)) = true)) ∧ (((bfE lf ll lq (0 : Nat) (fun (i : Nat) => (fun (j : Nat) => (List.getD [] ((i * 1) + j) (0 : Int))))) == (lsE lf ll lq)) = true)) ∧ (((bfE lf ll lq (0 : Nat) (fun (i : Nat) => (fun (j : Nat) => (List.getD [] ((i * 1) + j) (0 : Int))))) == (lsE lf ll lq)) = true))) := by kernel_rfl
theorem ll_n4_g : goodY (ll_n4 lf ll lq pw) = true := by kernel_rfl
theorem ll_e1_o : obY (ll_e1 lf ll lq pw c) = (((((((((((((((((((((((((((((((((((((((((((((((((((((((((((True ∧ ((decide ((((0 : Nat)) : Int) > (20 : Int))) = false)) ∧ ((decide ((((0 : Nat)) : Int) > (20 : Int))) = false)) ∧ ((decide ((((0 : Nat)) : Int) > (20 : Int))) = false)) ∧ ((decide ((((0 : Nat)) : Int) > (20 : Int))) = false)) ∧ (false = false)) ∧ True) ∧ True) ∧ True) ∧ ((0 = 0) ∧ ((((0 : Nat)) : Int) ≤ (9223372036854775807 : Int)))) ∧ True) ∧ True) ∧ (((th2 (lsE lf ll lq) (pwE pw)) == (0 : Int)) = true)) ∧ ((lsIn lf ll lq) ∧ (pwIn pw))) ∧ ((lsIn lf ll lq) ∧ (pwIn pw))) ∧ ((((0 : Int) ≤ lf) ∧ (lf ≤ (1000 : Int))) ∧ ((((0 : Int) ≤ ll) ∧ (ll ≤ (1000 : Int))) ∧ (((0 : Int) ≤ lq) ∧ (lq ≤ (1000 : Int)))))) ∧ ((Bool.not (ndB lf ll lq pw)) = false)) ∧ True) ∧ (((lsE lf ll lq) != (0 : Int)) = false)) ∧ ((decide ((((0 : Nat)) : Int) > (256 : Int))) = false)) ∧ ((decide ((0 : Int) < (((0 : Nat)) : Int))) = false)) ∧ (((0 : Int) == (0 : Int)) = true)) ∧ ((decide ((0 : Int) < (((0 : Nat)) : Int))) = false)) ∧ True) ∧ True) ∧ (((lsE lf ll lq) == (lsE lf ll lq)) = true)) ∧ (((lsE lf ll lq) == (lsE lf ll lq)) = true)) ∧ (((lsE lf ll lq) == (lsE lf ll lq)) = true)) ∧ (((lsE lf ll lq) == (lsE lf ll lq)) = true)) ∧ ((Bool.and ((if ((th2 (lsE lf ll lq) (pwE pw)) = (0 : Int)) then (lLo lf ll lq pw) else (0 : Int)) == (lLo lf ll lq pw)) (Bool.and ((if ((th2 (lsE lf ll lq) (pwE pw)) = (0 : Int)) then (lHi lf ll lq pw) else (0 : Int)) == (lHi lf ll lq pw)) true)) = true)) ∧ ((Bool.and ((if ((th2 (lsE lf ll lq) (pwE pw)) = (0 : Int)) then (lLo lf ll lq pw) else (0 : Int)) == (lLo lf ll lq pw)) (Bool.and ((if ((th2 (lsE lf ll lq) (pwE pw)) = (0 : Int)) then (lHi lf ll lq pw) else (0 : Int)) == (lHi lf ll lq pw)) true)) = true)) ∧ ((Bool.and ((if ((th2 (lsE lf ll lq) (pwE pw)) = (0 : Int)) then (lLo lf ll lq pw) else (0 : Int)) == (lLo lf ll lq pw)) (Bool.and ((if ((th2 (lsE lf ll lq) (pwE pw)) = (0 : Int)) then (lHi lf ll lq pw) else (0 : Int)) == (lHi lf ll lq pw)) true)) = true)) ∧ ((Bool.and ((if ((th2 (lsE lf ll lq) (pwE pw)) = (0 : Int)) then (lLo lf ll lq pw) else (0 : Int)) == (lLo lf ll lq pw)) (Bool.and ((if ((th2 (lsE lf ll lq) (pwE pw)) = (0 : Int)) then (lHi lf ll lq pw) else (0 : Int)) == (lHi lf ll lq pw)) true)) = true)) ∧ (((th2 (lsE lf ll lq) (pwE pw)) == (th2 (lsE lf ll lq) (pwE pw))) = true)) ∧ (((th2 (lsE lf ll lq) (pwE pw)) == (th2 (lsE lf ll lq) (pwE pw))) = true)) ∧ (((th2 (lsE lf ll lq) (pwE pw)) == (th2 (lsE lf ll lq) (pwE pw))) = true)) ∧ (((th2 (lsE lf ll lq) (pwE pw)) == (th2 (lsE lf ll lq) (pwE pw))) = true)) ∧ ((Bool.and ((if ((th2 (lsE lf ll lq) (pwE pw)) = (0 : Int)) then (dLo lf ll lq pw) else (0 : Int)) == (dLo lf ll lq pw)) (Bool.and ((if ((th2 (lsE lf ll lq) (pwE pw)) = (0 : Int)) then (dHi lf ll lq pw) else (0 : Int)) == (dHi lf ll lq pw)) true)) = true)) ∧ ((Bool.and ((if ((th2 (lsE lf ll lq) (pwE pw)) = (0 : Int)) then (dLo lf ll lq pw) else (0 : Int)) == (dLo lf ll lq pw)) (Bool.and ((if ((th2 (lsE lf ll lq) (pwE pw)) = (0 : Int)) then (dHi lf ll lq pw) else (0 : Int)) == (dHi lf ll lq pw)) true)) = true)) ∧ ((Bool.and ((if ((th2 (lsE lf ll lq) (pwE pw)) = (0 : Int)) then (dLo lf ll lq pw) else (0 : Int)) == (dLo lf ll lq pw)) (Bool.and ((if ((th2 (lsE lf ll lq) (pwE pw)) = (0 : Int)) then (dHi lf ll lq pw) else (0 : Int)) == (dHi lf ll lq pw)) true)) = true)) ∧ ((Bool.and ((if ((th2 (lsE lf ll lq) (pwE pw)) = (0 : Int)) then (dLo lf ll lq pw) else (0 : Int)) == (dLo lf ll lq pw)) (Bool.and ((if ((th2 (lsE lf ll lq) (pwE pw)) = (0 : Int)) then (dHi lf ll lq pw) else (0 : Int)) == (dHi lf ll lq pw)) true)) = true)) ∧ (((th2 (lsE lf ll lq) (pwE pw)) == (th2 (lsE lf ll lq) (pwE pw))) = true)) ∧ (((th2 (lsE lf ll lq) (pwE pw)) == (th2 (lsE lf ll lq) (pwE pw))) = true)) ∧ (((th2 (lsE lf ll lq) (pwE pw)) == (th2 (lsE lf ll lq) (pwE pw))) = true)) ∧ (((th2 (lsE lf ll lq) (pwE pw)) == (th2 (lsE lf ll lq) (pwE pw))) = true)) ∧ (((if ((ndE lf ll lq pw) = (0 : Int)) then (ndP lf ll lq pw) else (0 : Int)) == (ndP lf ll lq pw)) = true)) ∧ (((if ((ndE lf ll lq pw) = (0 : Int)) then (ndP lf ll lq pw) else (0 : Int)) == (ndP lf ll lq pw)) = true)) ∧ (((if ((ndE lf ll lq pw) = (0 : Int)) then (ndP lf ll lq pw) else (0 : Int)) == (ndP lf ll lq pw)) = true)) ∧ (((if ((ndE lf ll lq pw) = (0 : Int)) then (ndP lf ll lq pw) else (0 : Int)) == (ndP lf ll lq pw)) = true)) ∧ (((if ((ndE lf ll lq pw) = (0 : Int)) then (if ((ndB lf ll lq pw) = true) then (0 : Int) else (7 : Int)) else (ndE lf ll lq pw)) == (th2 (lsE lf ll lq) (pwE pw))) = true)) ∧ (((if ((ndE lf ll lq pw) = (0 : Int)) then (if ((ndB lf ll lq pw) = true) then (0 : Int) else (7 : Int)) else (ndE lf ll lq pw)) == (th2 (lsE lf ll lq) (pwE pw))) = true)) ∧ (((if ((ndE lf ll lq pw) = (0 : Int)) then (if ((ndB lf ll lq pw) = true) then (0 : Int) else (7 : Int)) else (ndE lf ll lq pw)) == (th2 (lsE lf ll lq) (pwE pw))) = true)) ∧ (((if ((ndE lf ll lq pw) = (0 : Int)) then (if ((ndB lf ll lq pw) = true) then (0 : Int) else (7 : Int)) else (ndE lf ll lq pw)) == (th2 (lsE lf ll lq) (pwE pw))) = true)) ∧ ((Bool.and ((if ((bfE lf ll lq (0 : Nat) (fun (i : Nat) => (fun (j : Nat) => (List.getD [] ((i * 1) + j) (0 : Int))))) = (0 : Int)) then ((bfS lf ll lq (0 : Nat) (fun (i : Nat) => (fun (j : Nat) => (List.getD [] ((i * 1) + j) (0 : Int)))))).1 else (0 : Int)) == (0 : Int)) (Bool.and ((if ((bfE lf ll lq (0 : Nat) (fun (i : Nat) => (fun (j : Nat) => (List.getD [] ((i * 1) + j) (0 : Int))))) = (0 : Int)) then ((bfS lf ll lq (0 : Nat) (fun (i : Nat) => (fun (j : Nat) => (List.getD [] ((i * 1) + j) (0 : Int)))))).2 else (0 : Int)) == (0 : Int)) true)) = true)) ∧ ((Bool.and ((if ((bfE lf ll lq (0 : Nat) (fun (i : Nat) => (fun (j : Nat) => (List.getD [] ((i * 1) + j) (0 : Int))))) = (0 : Int)) then ((bfS lf ll lq (0 : Nat) (fun (i : Nat) => (fun (j : Nat) => (List.getD [] ((i * 1) + j) (0 : Int)))))).1 else (0 : Int)) == (0 : Int)) (Bool.and ((if ((bfE lf ll lq (0 : Nat) (fun (i : Nat) => (fun (j : Nat) => (List.getD [] ((i * 1) + j) (0 : Int))))) = (0 : Int)) then ((bfS lf ll lq (0 : Nat) (fun (i : Nat) => (fun (j : Nat) => (List.getD [] ((i * 1) + j) (0 : Int)))))).2 else (0 : Int)) == (0 : Int)) true)) = true)) ∧ ((Bool.and ((if ((bfE lf ll lq (0 : Nat) (fun (i : Nat) => (fun (j : Nat) => (List.getD [] ((i * 1) + j) (0 : Int))))) = (0 : Int)) then ((bfS lf ll lq (0 : Nat) (fun (i : Nat) => (fun (j : Nat) => (List.getD [] ((i * 1) + j) (0 : Int)))))).1 else (0 : Int)) == (0 : Int)) (Bool.and ((if ((bfE lf ll lq (0 : Nat) (fun (i : Nat) => (fun (j : Nat) => (List.getD [] ((i * 1) + j) (0 : Int))))) = (0 : Int)) then ((bfS lf ll lq (0 : Nat) (fun (i : Nat) => (fun (j : Nat) => (List.getD [] ((i * 1) + j) (0 : Int)))))).2 else (0 : Int)) == (0 : Int)) true)) = true)) ∧ ((Bool.and ((if ((bfE lf ll lq (0 : Nat) (fun (i : Nat) => (fun (j : Nat) => (List.getD [] ((i * 1) + j) (0 : Int))))) = (0 : Int)) then ((bfS lf ll lq (0 : Nat) (fun (i : Nat) => (fun (j : Nat) => (List.getD [] ((i * 1) + j) (0 : Int)))))).1 else (0 : Int)) == (0 : Int)) (Bool.and ((if ((bfE lf ll lq (0 : Nat) (fun (i : Nat) => (fun (j : Nat) => (List.getD [] ((i * 1) + j) (0 : Int))))) = (0 : Int)) then ((bfS lf ll lq (0 : Nat) (fun (i : Nat) => (fun (j : Nat) => (List.getD [] ((i * 1) + j) (0 : Int)))))).2 else (0 : Int)) == (0 : Int)) true)) = true)) ∧ (((bfE lf ll lq (0 : Nat) (fun (i : Nat) => (fun (j : Nat) => (List.getD [] ((i * 1) + j) (0 : Int))))) == (0 : Int)) = true)) ∧ (((bfE lf ll lq (0 : Nat) (fun (i : Nat) => (fun (j : Nat) => (List.getD [] ((i * 1) + j) (0 : Int))))) == (0 : Int)) = true))) := by kernel_rfl
theorem ll_e1_g : goodY (ll_e1 lf ll lq pw c) = true := by kernel_rfl
theorem ll_e2_o : obY (ll_e2 lf ll lq pw c) = (((((((((((((((((((((((((((((((((((((((((((((((((((((((((((True ∧ ((decide ((((0 : Nat)) : Int) > (20 : Int))) = false)) ∧ ((decide ((((0 : Nat)) : Int) > (20 : Int))) = false)) ∧ ((decide ((((0 : Nat)) : Int) > (20 : Int))) = false)) ∧ ((decide ((((0 : Nat)) : Int) > (20 : Int))) = false)) ∧ (false = false)) ∧ True) ∧ True) ∧ True) ∧ ((0 = 0) ∧ ((((0 : Nat)) : Int) ≤ (9223372036854775807 : Int)))) ∧ True) ∧ True) ∧ (((th2 (lsE lf ll lq) (pwE pw)) == (0 : Int)) = true)) ∧ ((lsIn lf ll lq) ∧ (pwIn pw))) ∧ ((lsIn lf ll lq) ∧ (pwIn pw))) ∧ ((((0 : Int) ≤ lf) ∧ (lf ≤ (1000 : Int))) ∧ ((((0 : Int) ≤ ll) ∧ (ll ≤ (1000 : Int))) ∧ (((0 : Int) ≤ lq) ∧ (lq ≤ (1000 : Int)))))) ∧ ((Bool.not (ndB lf ll lq pw)) = true)) ∧ True) ∧ (((lsE lf ll lq) != (0 : Int)) = false)) ∧ ((decide ((((0 : Nat)) : Int) > (256 : Int))) = false)) ∧ ((decide ((0 : Int) < (((0 : Nat)) : Int))) = false)) ∧ (((0 : Int) == (0 : Int)) = true)) ∧ ((decide ((0 : Int) < (((0 : Nat)) : Int))) = false)) ∧ True) ∧ True) ∧ (((lsE lf ll lq) == (lsE lf ll lq)) = true)) ∧ (((lsE lf ll lq) == (lsE lf ll lq)) = true)) ∧ (((lsE lf ll lq) == (lsE lf ll lq)) = true)) ∧ (((lsE lf ll lq) == (lsE lf ll lq)) = true)) ∧ ((Bool.and ((if ((th2 (lsE lf ll lq) (pwE pw)) = (0 : Int)) then (lLo lf ll lq pw) else (0 : Int)) == (lLo lf ll lq pw)) (Bool.and ((if ((th2 (lsE lf ll lq) (pwE pw)) = (0 : Int)) then (lHi lf ll lq pw) else (0 : Int)) == (lHi lf ll lq pw)) true)) = true)) ∧ ((Bool.and ((if ((th2 (lsE lf ll lq) (pwE pw)) = (0 : Int)) then (lLo lf ll lq pw) else (0 : Int)) == (lLo lf ll lq pw)) (Bool.and ((if ((th2 (lsE lf ll lq) (pwE pw)) = (0 : Int)) then (lHi lf ll lq pw) else (0 : Int)) == (lHi lf ll lq pw)) true)) = true)) ∧ ((Bool.and ((if ((th2 (lsE lf ll lq) (pwE pw)) = (0 : Int)) then (lLo lf ll lq pw) else (0 : Int)) == (lLo lf ll lq pw)) (Bool.and ((if ((th2 (lsE lf ll lq) (pwE pw)) = (0 : Int)) then (lHi lf ll lq pw) else (0 : Int)) == (lHi lf ll lq pw)) true)) = true)) ∧ ((Bool.and ((if ((th2 (lsE lf ll lq) (pwE pw)) = (0 : Int)) then (lLo lf ll lq pw) else (0 : Int)) == (lLo lf ll lq pw)) (Bool.and ((if ((th2 (lsE lf ll lq) (pwE pw)) = (0 : Int)) then (lHi lf ll lq pw) else (0 : Int)) == (lHi lf ll lq pw)) true)) = true)) ∧ (((th2 (lsE lf ll lq) (pwE pw)) == (th2 (lsE lf ll lq) (pwE pw))) = true)) ∧ (((th2 (lsE lf ll lq) (pwE pw)) == (th2 (lsE lf ll lq) (pwE pw))) = true)) ∧ (((th2 (lsE lf ll lq) (pwE pw)) == (th2 (lsE lf ll lq) (pwE pw))) = true)) ∧ (((th2 (lsE lf ll lq) (pwE pw)) == (th2 (lsE lf ll lq) (pwE pw))) = true)) ∧ ((Bool.and ((if ((th2 (lsE lf ll lq) (pwE pw)) = (0 : Int)) then (dLo lf ll lq pw) else (0 : Int)) == (dLo lf ll lq pw)) (Bool.and ((if ((th2 (lsE lf ll lq) (pwE pw)) = (0 : Int)) then (dHi lf ll lq pw) else (0 : Int)) == (dHi lf ll lq pw)) true)) = true)) ∧ ((Bool.and ((if ((th2 (lsE lf ll lq) (pwE pw)) = (0 : Int)) then (dLo lf ll lq pw) else (0 : Int)) == (dLo lf ll lq pw)) (Bool.and ((if ((th2 (lsE lf ll lq) (pwE pw)) = (0 : Int)) then (dHi lf ll lq pw) else (0 : Int)) == (dHi lf ll lq pw)) true)) = true)) ∧ ((Bool.and ((if ((th2 (lsE lf ll lq) (pwE pw)) = (0 : Int)) then (dLo lf ll lq pw) else (0 : Int)) == (dLo lf ll lq pw)) (Bool.and ((if ((th2 (lsE lf ll lq) (pwE pw)) = (0 : Int)) then (dHi lf ll lq pw) else (0 : Int)) == (dHi lf ll lq pw)) true)) = true)) ∧ ((Bool.and ((if ((th2 (lsE lf ll lq) (pwE pw)) = (0 : Int)) then (dLo lf ll lq pw) else (0 : Int)) == (dLo lf ll lq pw)) (Bool.and ((if ((th2 (lsE lf ll lq) (pwE pw)) = (0 : Int)) then (dHi lf ll lq pw) else (0 : Int)) == (dHi lf ll lq pw)) true)) = true)) ∧ (((th2 (lsE lf ll lq) (pwE pw)) == (th2 (lsE lf ll lq) (pwE pw))) = true)) ∧ (((th2 (lsE lf ll lq) (pwE pw)) == (th2 (lsE lf ll lq) (pwE pw))) = true)) ∧ (((th2 (lsE lf ll lq) (pwE pw)) == (th2 (lsE lf ll lq) (pwE pw))) = true)) ∧ (((th2 (lsE lf ll lq) (pwE pw)) == (th2 (lsE lf ll lq) (pwE pw))) = true)) ∧ (((if ((ndE lf ll lq pw) = (0 : Int)) then (ndP lf ll lq pw) else (0 : Int)) == (ndP lf ll lq pw)) = true)) ∧ (((if ((ndE lf ll lq pw) = (0 : Int)) then (ndP lf ll lq pw) else (0 : Int)) == (ndP lf ll lq pw)) = true)) ∧ (((if ((ndE lf ll lq pw) = (0 : Int)) then (ndP lf ll lq pw) else (0 : Int)) == (ndP lf ll lq pw)) = true)) ∧ (((if ((ndE lf ll lq pw) = (0 : Int)) then (ndP lf ll lq pw) else (0 : Int)) == (ndP lf ll lq pw)) = true)) ∧ (((if ((ndE lf ll lq pw) = (0 : Int)) then (if ((ndB lf ll lq pw) = true) then (0 : Int) else (7 : Int)) else (ndE lf ll lq pw)) == (7 : Int)) = true)) ∧ (((if ((ndE lf ll lq pw) = (0 : Int)) then (if ((ndB lf ll lq pw) = true) then (0 : Int) else (7 : Int)) else (ndE lf ll lq pw)) == (7 : Int)) = true)) ∧ (((if ((ndE lf ll lq pw) = (0 : Int)) then (if ((ndB lf ll lq pw) = true) then (0 : Int) else (7 : Int)) else (ndE lf ll lq pw)) == (7 : Int)) = true)) ∧ (((if ((ndE lf ll lq pw) = (0 : Int)) then (if ((ndB lf ll lq pw) = true) then (0 : Int) else (7 : Int)) else (ndE lf ll lq pw)) == (7 : Int)) = true)) ∧ ((Bool.and ((if ((bfE lf ll lq (0 : Nat) (fun (i : Nat) => (fun (j : Nat) => (List.getD [] ((i * 1) + j) (0 : Int))))) = (0 : Int)) then ((bfS lf ll lq (0 : Nat) (fun (i : Nat) => (fun (j : Nat) => (List.getD [] ((i * 1) + j) (0 : Int)))))).1 else (0 : Int)) == (0 : Int)) (Bool.and ((if ((bfE lf ll lq (0 : Nat) (fun (i : Nat) => (fun (j : Nat) => (List.getD [] ((i * 1) + j) (0 : Int))))) = (0 : Int)) then ((bfS lf ll lq (0 : Nat) (fun (i : Nat) => (fun (j : Nat) => (List.getD [] ((i * 1) + j) (0 : Int)))))).2 else (0 : Int)) == (0 : Int)) true)) = true)) ∧ ((Bool.and ((if ((bfE lf ll lq (0 : Nat) (fun (i : Nat) => (fun (j : Nat) => (List.getD [] ((i * 1) + j) (0 : Int))))) = (0 : Int)) then ((bfS lf ll lq (0 : Nat) (fun (i : Nat) => (fun (j : Nat) => (List.getD [] ((i * 1) + j) (0 : Int)))))).1 else (0 : Int)) == (0 : Int)) (Bool.and ((if ((bfE lf ll lq (0 : Nat) (fun (i : Nat) => (fun (j : Nat) => (List.getD [] ((i * 1) + j) (0 : Int))))) = (0 : Int)) then ((bfS lf ll lq (0 : Nat) (fun (i : Nat) => (fun (j : Nat) => (List.getD [] ((i * 1) + j) (0 : Int)))))).2 else (0 : Int)) == (0 : Int)) true)) = true)) ∧ ((Bool.and ((if ((bfE lf ll lq (0 : Nat) (fun (i : Nat) => (fun (j : Nat) => (List.getD [] ((i * 1) + j) (0 : Int))))) = (0 : Int)) then ((bfS lf ll lq (0 : Nat) (fun (i : Nat) => (fun (j : Nat) => (List.getD [] ((i * 1) + j) (0 : Int)))))).1 else (0 : Int)) == (0 : Int)) (Bool.and ((if ((bfE lf ll lq (0 : Nat) (fun (i : Nat) => (fun (j : Nat) => (List.getD [] ((i * 1) + j) (0 : Int))))) = (0 : Int)) then ((bfS lf ll lq (0 : Nat) (fun (i : Nat) => (fun (j : Nat) => (List.getD [] ((i * 1) + j) (0 : Int)))))).2 else (0 : Int)) == (0 : Int)) true)) = true)) ∧ ((Bool.and ((if ((bfE lf ll lq (0 : Nat) (fun (i : Nat) => (fun (j : Nat) => (List.getD [] ((i * 1) + j) (0 : Int))))) = (0 : Int)) then ((bfS lf ll lq (0 : Nat) (fun (i : Nat) => (fun (j : Nat) => (List.getD [] ((i * 1) + j) (0 : Int)))))).1 else (0 : Int)) == (0 : Int)) (Bool.and ((if ((bfE lf ll lq (0 : Nat) (fun (i : Nat) => (fun (j : Nat) => (List.getD [] ((i * 1) + j) (0 : Int))))) = (0 : Int)) then ((bfS lf ll lq (0 : Nat) (fun (i : Nat) => (fun (j : Nat) => (List.getD [] ((i * 1) + j) (0 : Int)))))).2 else (0 : Int)) == (0 : Int)) true)) = true)) ∧ (((bfE lf ll lq (0 : Nat) (fun (i : Nat) => (fun (j : Nat) => (List.getD [] ((i * 1) + j) (0 : Int))))) == (0 : Int)) = true)) ∧ (((bfE lf ll lq (0 : Nat) (fun (i : Nat) => (fun (j : Nat) => (List.getD [] ((i * 1) + j) (0 : Int))))) == (0 : Int)) = true))) := by kernel_rfl
theorem ll_e2_g : goodY (ll_e2 lf ll lq pw c) = true := by kernel_rfl
theorem ll_e3_o : obY (ll_e3 lf ll lq pw c) = (((((((((((((((((((((((((((((((((((((((((((((((((((((((True ∧ ((decide ((((0 : Nat)) : Int) > (20 : Int))) = false)) ∧ ((decide ((((0 : Nat)) : Int) > (20 : Int))) = false)) ∧ ((decide ((((0 : Nat)) : Int) > (20 : Int))) = false)) ∧ ((decide ((((0 : Nat)) : Int) > (20 : Int))) = false)) ∧ (false = false)) ∧ True) ∧ True) ∧ True) ∧ ((0 = 0) ∧ ((((0 : Nat)) : Int) ≤ (9223372036854775807 : Int)))) ∧ True) ∧ True) ∧ (((th2 (lsE lf ll lq) (pwE pw)) == (0 : Int)) = false)) ∧ True) ∧ (((lsE lf ll lq) != (0 : Int)) = false)) ∧ ((decide ((((0 : Nat)) : Int) > (256 : Int))) = false)) ∧ ((decide ((0 : Int) < (((0 : Nat)) : Int))) = false)) ∧ (((0 : Int) == (0 : Int)) = true)) ∧ ((decide ((0 : Int) < (((0 : Nat)) : Int))) = false)) ∧ True) ∧ True) ∧ (((lsE lf ll lq) == (lsE lf ll lq)) = true)) ∧ (((lsE lf ll lq) == (lsE lf ll lq)) = true)) ∧ (((lsE lf ll lq) == (lsE lf ll lq)) = true)) ∧ (((lsE lf ll lq) == (lsE lf ll lq)) = true)) ∧ ((Bool.and ((if ((th2 (lsE lf ll lq) (pwE pw)) = (0 : Int)) then (lLo lf ll lq pw) else (0 : Int)) == (0 : Int)) (Bool.and ((if ((th2 (lsE lf ll lq) (pwE pw)) = (0 : Int)) then (lHi lf ll lq pw) else (0 : Int)) == (0 : Int)) true)) = true)) ∧ ((Bool.and ((if ((th2 (lsE lf ll lq) (pwE pw)) = (0 : Int)) then (lLo lf ll lq pw) else (0 : Int)) == (0 : Int)) (Bool.and ((if ((th2 (lsE lf ll lq) (pwE pw)) = (0 : Int)) then (lHi lf ll lq pw) else (0 : Int)) == (0 : Int)) true)) = true)) ∧ ((Bool.and ((if ((th2 (lsE lf ll lq) (pwE pw)) = (0 : Int)) then (lLo lf ll lq pw) else (0 : Int)) == (0 : Int)) (Bool.and ((if ((th2 (lsE lf ll lq) (pwE pw)) = (0 : Int)) then (lHi lf ll lq pw) else (0 : Int)) == (0 : Int)) true)) = true)) ∧ ((Bool.and ((if ((th2 (lsE lf ll lq) (pwE pw)) = (0 : Int)) then (lLo lf ll lq pw) else (0 : Int)) == (0 : Int)) (Bool.and ((if ((th2 (lsE lf ll lq) (pwE pw)) = (0 : Int)) then (lHi lf ll lq pw) else (0 : Int)) == (0 : Int)) true)) = true)) ∧ (((th2 (lsE lf ll lq) (pwE pw)) == (th2 (lsE lf ll lq) (pwE pw))) = true)) ∧ (((th2 (lsE lf ll lq) (pwE pw)) == (th2 (lsE lf ll lq) (pwE pw))) = true)) ∧ (((th2 (lsE lf ll lq) (pwE pw)) == (th2 (lsE lf ll lq) (pwE pw))) = true)) ∧ (((th2 (lsE lf ll lq) (pwE pw)) == (th2 (lsE lf ll lq) (pwE pw))) = true)) ∧ ((Bool.and ((if ((th2 (lsE lf ll lq) (pwE pw)) = (0 : Int)) then (dLo lf ll lq pw) else (0 : Int)) == (0 : Int)) (Bool.and ((if ((th2 (lsE lf ll lq) (pwE pw)) = (0 : Int)) then (dHi lf ll lq pw) else (0 : Int)) == (0 : Int)) true)) = true)) ∧ ((Bool.and ((if ((th2 (lsE lf ll lq) (pwE pw)) = (0 : Int)) then (dLo lf ll lq pw) else (0 : Int)) == (0 : Int)) (Bool.and ((if ((th2 (lsE lf ll lq) (pwE pw)) = (0 : Int)) then (dHi lf ll lq pw) else (0 : Int)) == (0 : Int)) true)) = true)) ∧ ((Bool.and ((if ((th2 (lsE lf ll lq) (pwE pw)) = (0 : Int)) then (dLo lf ll lq pw) else (0 : Int)) == (0 : Int)) (Bool.and ((if ((th2 (lsE lf ll lq) (pwE pw)) = (0 : Int)) then (dHi lf ll lq pw) else (0 : Int)) == (0 : Int)) true)) = true)) ∧ ((Bool.and ((if ((th2 (lsE lf ll lq) (pwE pw)) = (0 : Int)) then (dLo lf ll lq pw) else (0 : Int)) == (0 : Int)) (Bool.and ((if ((th2 (lsE lf ll lq) (pwE pw)) = (0 : Int)) then (dHi lf ll lq pw) else (0 : Int)) == (0 : Int)) true)) = true)) ∧ (((th2 (lsE lf ll lq) (pwE pw)) == (th2 (lsE lf ll lq) (pwE pw))) = true)) ∧ (((th2 (lsE lf ll lq) (pwE pw)) == (th2 (lsE lf ll lq) (pwE pw))) = true)) ∧ (((th2 (lsE lf ll lq) (pwE pw)) == (th2 (lsE lf ll lq) (pwE pw))) = true)) ∧ (((th2 (lsE lf ll lq) (pwE pw)) == (th2 (lsE lf ll lq) (pwE pw))) = true)) ∧ (((if ((ndE lf ll lq pw) = (0 : Int)) then (ndP lf ll lq pw) else (0 : Int)) == (0 : Int)) = true)) ∧ (((if ((ndE lf ll lq pw) = (0 : Int)) then (ndP lf ll lq pw) else (0 : Int)) == (0 : Int)) = true)) ∧ (((if ((ndE lf ll lq pw) = (0 : Int)) then (ndP lf ll lq pw) else (0 : Int)) == (0 : Int)) = true)) ∧ (((if ((ndE lf ll lq pw) = (0 : Int)) then (ndP lf ll lq pw) else (0 : Int)) == (0 : Int)) = true)) ∧ (((if ((ndE lf ll lq pw) = (0 : Int)) then (if ((ndB lf ll lq pw) = true) then (0 : Int) else (7 : Int)) else (ndE lf ll lq pw)) == (th2 (lsE lf ll lq) (pwE pw))) = true)) ∧ (((if ((ndE lf ll lq pw) = (0 : Int)) then (if ((ndB lf ll lq pw) = true) then (0 : Int) else (7 : Int)) else (ndE lf ll lq pw)) == (th2 (lsE lf ll lq) (pwE pw))) = true)) ∧ (((if ((ndE lf ll lq pw) = (0 : Int)) then (if ((ndB lf ll lq pw) = true) then (0 : Int) else (7 : Int)) else (ndE lf ll lq pw)) == (th2 (lsE lf ll lq) (pwE pw))) = true)) ∧ (((if ((ndE lf ll lq pw) = (0 : Int)) then (if ((ndB lf ll lq pw) = true) then (0 : Int) else (7 : Int)) else (ndE lf ll lq pw)) == (th2 (lsE lf ll lq) (pwE pw))) = true)) ∧ ((Bool.and ((if ((bfE lf ll lq (0 : Nat) (fun (i : Nat) => (fun (j : Nat) => (List.getD [] ((i * 1) + j) (0 : Int))))) = (0 : Int)) then ((bfS lf ll lq (0 : Nat) (fun (i : Nat) => (fun (j : Nat) => (List.getD [] ((i * 1) + j) (0 : Int)))))).1 else (0 : Int)) == (0 : Int)) (Bool.and ((if ((bfE lf ll lq (0 : Nat) (fun (i : Nat) => (fun (j : Nat) => (List.getD [] ((i * 1) + j) (0 : Int))))) = (0 : Int)) then ((bfS lf ll lq (0 : Nat) (fun (i : Nat) => (fun (j : Nat) => (List.getD [] ((i * 1) + j) (0 : Int)))))).2 else (0 : Int)) == (0 : Int)) true)) = true)) ∧ ((Bool.and ((if ((bfE lf ll lq (0 : Nat) (fun (i : Nat) => (fun (j : Nat) => (List.getD [] ((i * 1) + j) (0 : Int))))) = (0 : Int)) then ((bfS lf ll lq (0 : Nat) (fun (i : Nat) => (fun (j : Nat) => (List.getD [] ((i * 1) + j) (0 : Int)))))).1 else (0 : Int)) == (0 : Int)) (Bool.and ((if ((bfE lf ll lq (0 : Nat) (fun (i : Nat) => (fun (j : Nat) => (List.getD [] ((i * 1) + j) (0 : Int))))) = (0 : Int)) then ((bfS lf ll lq (0 : Nat) (fun (i : Nat) => (fun (j : Nat) => (List.getD [] ((i * 1) + j) (0 : Int)))))).2 else (0 : Int)) == (0 : Int)) true)) = true)) ∧ ((Bool.and ((if ((bfE lf ll lq (0 : Nat) (fun (i : Nat) => (fun (j : Nat) => (List.getD [] ((i * 1) + j) (0 : Int))))) = (0 : Int)) then ((bfS lf ll lq (0 : Nat) (fun (i : Nat) => (fun (j : Nat) => (List.getD [] ((i * 1) + j) (0 : Int)))))).1 else (0 : Int)) == (0 : Int)) (Bool.and ((if ((bfE lf ll lq (0 : Nat) (fun (i : Nat) => (fun (j : Nat) => (List.getD [] ((i * 1) + j) (0 : Int))))) = (0 : Int)) then ((bfS lf ll lq (0 : Nat) (fun (i : Nat) => (fun (j : Nat) => (List.getD [] ((i * 1) + j) (0 : Int)))))).2 else (0 : Int)) == (0 : Int)) true)) = true)) ∧ ((Bool.and ((if ((bfE lf ll lq (0 : Nat) (fun (i : Nat) => (fun (j : Nat) => (List.getD [] ((i * 1) + j) (0 : Int))))) = (0 : Int)) then ((bfS lf ll lq (0 : Nat) (fun (i : Nat) => (fun (j : Nat) => (List.getD [] ((i * 1) + j) (0 : Int)))))).1 else (0 : Int)) == (0 : Int)) (Bool.and ((if ((bfE lf ll lq (0 : Nat) (fun (i : Nat) => (fun (j : Nat) => (List.getD [] ((i * 1) + j) (0 : Int))))) = (0 : Int)) then ((bfS lf ll lq (0 : Nat) (fun (i : Nat) => (fun (j : Nat) => (List.getD [] ((i * 1) + j) (0 : Int)))))).2 else (0 : Int)) == (0 : Int)) true)) = true)) ∧ (((bfE lf ll lq (0 : Nat) (fun (i : Nat) => (fun (j : Nat) => (List.getD [] ((i * 1) + j) (0 : Int))))) == (0 : Int)) = true)) ∧ (((bfE lf ll lq (0 : Nat) (fun (i : Nat) => (fun (j : Nat) => (List.getD [] ((i * 1) + j) (0 : Int))))) == (0 : Int)) = true))) := by kernel_rfl
theorem ll_e3_g : goodY (ll_e3 lf ll lq pw c) = true := by kernel_rfl
theorem ll_e4_o : obY (ll_e4 lf ll lq pw c) = ((((((((((((((((((((((((((((((((((((((((((((((((((((True ∧ ((decide ((((0 : Nat)) : Int) > (20 : Int))) = false)) ∧ ((decide ((((0 : Nat)) : Int) > (20 : Int))) = false)) ∧ ((decide ((((0 : Nat)) : Int) > (20 : Int))) = false)) ∧ ((decide ((((0 : Nat)) : Int) > (20 : Int))) = false)) ∧ (false = false)) ∧ True) ∧ True) ∧ True) ∧ ((0 = 0) ∧ ((((0 : Nat)) : Int) ≤ (9223372036854775807 : Int)))) ∧ True) ∧ True) ∧ (((th2 (lsE lf ll lq) (pwE pw)) == (0 : Int)) = false)) ∧ True) ∧ (((lsE lf ll lq) != (0 : Int)) = true)) ∧ (((lsE lf ll lq) == (0 : Int)) = false)) ∧ True) ∧ True) ∧ (((lsE lf ll lq) == (lsE lf ll lq)) = true)) ∧ (((lsE lf ll lq) == (lsE lf ll lq)) = true)) ∧ (((lsE lf ll lq) == (lsE lf ll lq)) = true)) ∧ (((lsE lf ll lq) == (lsE lf ll lq)) = true)) ∧ ((Bool.and ((if ((th2 (lsE lf ll lq) (pwE pw)) = (0 : Int)) then (lLo lf ll lq pw) else (0 : Int)) == (0 : Int)) (Bool.and ((if ((th2 (lsE lf ll lq) (pwE pw)) = (0 : Int)) then (lHi lf ll lq pw) else (0 : Int)) == (0 : Int)) true)) = true)) ∧ ((Bool.and ((if ((th2 (lsE lf ll lq) (pwE pw)) = (0 : Int)) then (lLo lf ll lq pw) else (0 : Int)) == (0 : Int)) (Bool.and ((if ((th2 (lsE lf ll lq) (pwE pw)) = (0 : Int)) then (lHi lf ll lq pw) else (0 : Int)) == (0 : Int)) true)) = true)) ∧ ((Bool.and ((if ((th2 (lsE lf ll lq) (pwE pw)) = (0 : Int)) then (lLo lf ll lq pw) else (0 : Int)) == (0 : Int)) (Bool.and ((if ((th2 (lsE lf ll lq) (pwE pw)) = (0 : Int)) then (lHi lf ll lq pw) else (0 : Int)) == (0 : Int)) true)) = true)) ∧ ((Bool.and ((if ((th2 (lsE lf ll lq) (pwE pw)) = (0 : Int)) then (lLo lf ll lq pw) else (0 : Int)) == (0 : Int)) (Bool.and ((if ((th2 (lsE lf ll lq) (pwE pw)) = (0 : Int)) then (lHi lf ll lq pw) else (0 : Int)) == (0 : Int)) true)) = true)) ∧ (((th2 (lsE lf ll lq) (pwE pw)) == (th2 (lsE lf ll lq) (pwE pw))) = true)) ∧ (((th2 (lsE lf ll lq) (pwE pw)) == (th2 (lsE lf ll lq) (pwE pw))) = true)) ∧ (((th2 (lsE lf ll lq) (pwE pw)) == (th2 (lsE lf ll lq) (pwE pw))) = true)) ∧ (((th2 (lsE lf ll lq) (pwE pw)) == (th2 (lsE lf ll lq) (pwE pw))) = true)) ∧ ((Bool.and ((if ((th2 (lsE lf ll lq) (pwE pw)) = (0 : Int)) then (dLo lf ll lq pw) else (0 : Int)) == (0 : Int)) (Bool.and ((if ((th2 (lsE lf ll lq) (pwE pw)) = (0 : Int)) then (dHi lf ll lq pw) else (0 : Int)) == (0 : Int)) true)) = true)) ∧ ((Bool.and ((if ((th2 (lsE lf ll lq) (pwE pw)) = (0 : Int)) then (dLo lf ll lq pw) else (0 : Int)) == (0 : Int)) (Bool.and ((if ((th2 (lsE lf ll lq) (pwE pw)) = (0 : Int)) then (dHi lf ll lq pw) else (0 : Int)) == (0 : Int)) true)) = true)) ∧ ((Bool.and ((if ((th2 (lsE lf ll lq) (pwE pw)) = (0 : Int)) then (dLo lf ll lq pw) else (0 : Int)) == (0 : Int)) (Bool.and ((if ((th2 (lsE lf ll lq) (pwE pw)) = (0 : Int)) then (dHi lf ll lq pw) else (0 : Int)) == (0 : Int)) true)) = true)) ∧ ((Bool.and ((if ((th2 (lsE lf ll lq) (pwE pw)) = (0 : Int)) then (dLo lf ll lq pw) else (0 : Int)) == (0 : Int)) (Bool.and ((if ((th2 (lsE lf ll lq) (pwE pw)) = (0 : Int)) then (dHi lf ll lq pw) else (0 : Int)) == (0 : Int)) true)) = true)) ∧ (((th2 (lsE lf ll lq) (pwE pw)) == (th2 (lsE lf ll lq) (pwE pw))) = true)) ∧ (((th2 (lsE lf ll lq) (pwE pw)) == (th2 (lsE lf ll lq) (pwE pw))) = true)) ∧ (((th2 (lsE lf ll lq) (pwE pw)) == (th2 (lsE lf ll lq) (pwE pw))) = true)) ∧ (((th2 (lsE lf ll lq) (pwE pw)) == (th2 (lsE lf ll lq) (pwE pw))) = true)) ∧ (((if ((ndE lf ll lq pw) = (0 : Int)) then (ndP lf ll lq pw) else (0 : Int)) == (0 : Int)) = true)) ∧ (((if ((ndE lf ll lq pw) = (0 : Int)) then (ndP lf ll lq pw) else (0 : Int)) == (0 : Int)) = true)) ∧ (((if ((ndE lf ll lq pw) = (0 : Int)) then (ndP lf ll lq pw) else (0 : Int)) == (0 : Int)) = true)) ∧ (((if ((ndE lf ll lq pw) = (0 : Int)) then (ndP lf ll lq pw) else (0 : Int)) == (0 : Int)) = true)) ∧ (((if ((ndE lf ll lq pw) = (0 : Int)) then (if ((ndB lf ll lq pw) = true) then (0 : Int) else (7 : Int)) else (ndE lf ll lq pw)) == (th2 (lsE lf ll lq) (pwE pw))) = true)) ∧ (((if ((ndE lf ll lq pw) = (0 : Int)) then (if ((ndB lf ll lq pw) = true) then (0 : Int) else (7 : Int)) else (ndE lf ll lq pw)) == (th2 (lsE lf ll lq) (pwE pw))) = true)) ∧ (((if ((ndE lf ll lq pw) = (0 : Int)) then (if ((ndB lf ll lq pw) = true) then (0 : Int) else (7 : Int)) else (ndE lf ll lq pw)) == (th2 (lsE lf ll lq) (pwE pw))) = true)) ∧ (((if ((ndE lf ll lq pw) = (0 : Int)) then (if ((ndB lf ll lq pw) = true) then (0 : Int) else (7 : Int)) else (ndE lf ll lq pw)) == (th2 (lsE lf ll lq) (pwE pw))) = true)) ∧ ((Bool.and ((if ((bfE lf ll lq (0 : Nat) (fun (i : Nat) => (fun (j : Nat) => (List.getD [] ((i * 1) + j) (0 : Int))))) = (0 : Int)) then ((bfS lf ll lq (0 : Nat) (fun (i : Nat) => (fun (j : Nat) => (List.getD [] ((i * 1) + j) (0 : Int)))))).1 else (0 : Int)) == (0 : Int)) (Bool.and ((if ((bfE lf ll lq (0 : Nat) (fun (i : Nat) => (fun (j : Nat) => (List.getD [] ((i * 1) + j) (0 : Int))))) = (0 : Int)) then ((bfS lf ll lq (0 : Nat) (fun (i : Nat) => (fun (j : Nat) => (List.getD [] ((i * 1) + j) (0 : Int)))))).2 else (0 : Int)) == (0 : Int)) true)) = true)) ∧ ((Bool.and ((if ((bfE lf ll lq (0 : Nat) (fun (i : Nat) => (fun (j : Nat) => (List.getD [] ((i * 1) + j) (0 : Int))))) = (0 : Int)) then ((bfS lf ll lq (0 : Nat) (fun (i : Nat) => (fun (j : Nat) => (List.getD [] ((i * 1) + j) (0 : Int)))))).1 else (0 : Int)) == (0 : Int)) (Bool.and ((if ((bfE lf ll lq (0 : Nat) (fun (i : Nat) => (fun (j : Nat) => (List.getD [] ((i * 1) + j) (0 : Int))))) = (0 : Int)) then ((bfS lf ll lq (0 : Nat) (fun (i : Nat) => (fun (j : Nat) => (List.getD [] ((i * 1) + j) (0 : Int)))))).2 else (0 : Int)) == (0 : Int)) true)) = true)) ∧ ((Bool.and ((if ((bfE lf ll lq (0 : Nat) (fun (i : Nat) => (fun (j : Nat) => (List.getD [] ((i * 1) + j) (0 : Int))))) = (0 : Int)) then ((bfS lf ll lq (0 : Nat) (fun (i : Nat) => (fun (j : Nat) => (List.getD [] ((i * 1) + j) (0 : Int)))))).1 else (0 : Int)) == (0 : Int)) (Bool.and ((if ((bfE lf ll lq (0 : Nat) (fun (i : Nat) => (fun (j : Nat) => (List.getD [] ((i * 1) + j) (0 : Int))))) = (0 : Int)) then ((bfS lf ll lq (0 : Nat) (fun (i : Nat) => (fun (j : Nat) => (List.getD [] ((i * 1) + j) (0 : Int)))))).2 else (0 : Int)) == (0 : Int)) true)) = true)) ∧ ((Bool.and ((if ((bfE lf ll lq (0 : Nat) (fun (i : Nat) => (fun (j : Nat) => (List.getD [] ((i * 1) + j) (0 : Int))))) = (0 : Int)) then ((bfS lf ll lq (0 : Nat) (fun (i : Nat) => (fun (j : Nat) => (List.getD [] ((i * 1) + j) (0 : Int)))))).1 else (0 : Int)) == (0 : Int)) (Bool.and ((if ((bfE lf ll lq (0 : Nat) (fun (i : Nat) => (fun (j : Nat) => (List.getD [] ((i * 1) + j) (0 : Int))))) = (0 : Int)) then ((bfS lf ll lq (0 : Nat) (fun (i : Nat) => (fun (j : Nat) => (List.getD [] ((i * 1) + j) (0 : Int)))))).2 else (0 : Int)) == (0 : Int)) true)) = true)) ∧ (((bfE lf ll lq (0 : Nat) (fun (i : Nat) => (fun (j : Nat) => (List.getD [] ((i * 1) + j) (0 : Int))))) == (lsE lf ll lq)) = true)) ∧ (((bfE lf ll lq (0 : Nat) (fun (i : Nat) => (fun (j : Nat) => (List.getD [] ((i * 1) + j) (0 : Int))))) == (lsE lf ll lq)) = true))) := by kernel_rfl
theorem ll_e4_g : goodY (ll_e4 lf ll lq pw c) = true := by kernel_rfl
end
end Go.Proofs.YthhgmnocigekaaaGreatDoor
end
section
set_option linter.all false
set_option maxRecDepth 1000000
open Go.RowKit
namespace Go.Proofs.YthhgmnocigekaaaGreatDoor
open Mini
theorem th2_0 {a b : Int} (h : a = 0) : th2 a b = b := if_pos h
theorem th2_1 {a b : Int} (h : a ≠ 0) : th2 a b = a := if_neg h
theorem bfE_eq {lf ll lq : Int} {n : Nat} {g : Nat → Nat → Int} : bfE lf ll lq n g = rcpVal lf ll lq n g := by
  unfold bfE th2 rcpVal cepVal
  by_cases h : lsE lf ll lq = 0
  · rw [if_pos h, if_neg (show ¬ (lsE lf ll lq ≠ 0) by simpa using h)]
  · rw [if_neg h, if_pos (show lsE lf ll lq ≠ 0 from h)]
theorem bfE0 {lf ll lq : Int} {g : Nat → Nat → Int} : bfE lf ll lq 0 g = lsE lf ll lq := by
  unfold bfE th2
  by_cases h : lsE lf ll lq = 0
  · rw [if_pos h, h, if_neg (by decide)]; rfl
  · rw [if_neg h]
theorem bfE1 {lf ll lq : Int} {n : Nat} {g : Nat → Nat → Int} (h : lsE lf ll lq = 0) (hn : n ≤ 256) : bfE lf ll lq n g = cepVal n g := by
  unfold bfE
  rw [th2_0 h, if_neg (by omega)]
theorem bfE5 {lf ll lq : Int} {n : Nat} {g : Nat → Nat → Int} (h : lsE lf ll lq = 0) (hn : 256 < n) : bfE lf ll lq n g = 5 := by
  unfold bfE
  rw [th2_0 h, if_pos hn]
theorem bfEe {lf ll lq : Int} {n : Nat} {g : Nat → Nat → Int} (h : lsE lf ll lq ≠ 0) : bfE lf ll lq n g = lsE lf ll lq := th2_1 h
set_option maxHeartbeats 4000000
theorem ll_true (lf ll lq pw : Int) (n c : Nat) (g : Nat → Nat → Int) (h0 : 0 < n) : ∃ s1 R, SndF Tryz.prog 3 (llArgs lf ll lq pw n c) (llS n g) (.bool true) s1 R 0 := by
  by_cases hA : 20 < n ∧ n ≠ 257
  · obtain ⟨hA1, hA2⟩ := hA
    exact sndY (r := ll_A lf ll lq pw n c g) (by delta ll_A; exact Eq.refl _) smx llK_ok (ll_A_g lf ll lq pw n c g) ((ll_A_o lf ll lq pw n c g).symm ▸ (by
      repeat' (first | (with_reducible assumption) | exact hs | exact hx | exact ⟨hs, hp⟩ | exact ⟨⟨hs, hx⟩, by omega⟩ | exact ⟨rfl, fun _ _ _ _ => rfl⟩ | apply And.intro)
      all_goals first | trivial | rfl | assumption | exact decide_eq_true (by omega) | exact decide_eq_false (by omega) | exact bne_iff_ne.2 (by assumption) | exact bne_eq_false_iff_eq.2 (by assumption) | exact beq_iff_eq.2 (by assumption) | exact beq_eq_false_iff_ne.2 (by assumption) | exact bne_iff_ne.2 (by omega) | exact bne_eq_false_iff_eq.2 (by omega) | exact (fun _ _ _ _ => rfl) | exact (fun i hi => absurd hi (Nat.not_lt_zero i)) | (rw [if_neg hN]; exact beq_iff_eq.2 rfl) | (simp [hA1]; done) | (simp [hA1]; done) | omega))
  have hB2 : bfE lf ll lq n g = rcpVal lf ll lq n g := bfE_eq
  by_cases hE : lsE lf ll lq = 0
  · have hs := lsE_in hE
    by_cases h257 : n = 257
    · have hB : rcpVal lf ll lq n g = 5 := hB2.symm.trans (bfE5 hE (by omega))
      have hBn : rcpVal lf ll lq n g ≠ 0 := by rw [hB]; decide
      by_cases hP : pwE pw = 0
      · have h1 : th2 (lsE lf ll lq) (pwE pw) = 0 := (th2_0 hE).trans hP
        have hN : ndE lf ll lq pw = 0 := h1
        have hp := pwE_in hP
        rcases Bool.eq_false_or_eq_true (ndB lf ll lq pw) with hf | hf
        · exact sndY (r := ll_7 lf ll lq pw n c g) (by delta ll_7; exact Eq.refl _) smx llK_ok (ll_7_g lf ll lq pw n c g) ((ll_7_o lf ll lq pw n c g).symm ▸ (by
            repeat' (first | (with_reducible assumption) | exact hs | exact hx | exact ⟨hs, hp⟩ | exact ⟨⟨hs, hx⟩, by omega⟩ | exact ⟨rfl, fun _ _ _ _ => rfl⟩ | apply And.intro)
            all_goals first | trivial | rfl | assumption | exact decide_eq_true (by omega) | exact decide_eq_false (by omega) | exact bne_iff_ne.2 (by assumption) | exact bne_eq_false_iff_eq.2 (by assumption) | exact beq_iff_eq.2 (by assumption) | exact beq_eq_false_iff_ne.2 (by assumption) | exact bne_iff_ne.2 (by omega) | exact bne_eq_false_iff_eq.2 (by omega) | exact (fun _ _ _ _ => rfl) | exact (fun i hi => absurd hi (Nat.not_lt_zero i)) | (rw [if_neg hN]; exact beq_iff_eq.2 rfl) | (simp [h1, hN, hB, hB2, bfS, bfE0, bsum, gI, hf]; done) | (simp [h1, hN, hB, hB2, bfS, bfE0, bsum, gI, hf]; done) | omega))
        · exact sndY (r := ll_8 lf ll lq pw n c g) (by delta ll_8; exact Eq.refl _) smx llK_ok (ll_8_g lf ll lq pw n c g) ((ll_8_o lf ll lq pw n c g).symm ▸ (by
            repeat' (first | (with_reducible assumption) | exact hs | exact hx | exact ⟨hs, hp⟩ | exact ⟨⟨hs, hx⟩, by omega⟩ | exact ⟨rfl, fun _ _ _ _ => rfl⟩ | apply And.intro)
            all_goals first | trivial | rfl | assumption | exact decide_eq_true (by omega) | exact decide_eq_false (by omega) | exact bne_iff_ne.2 (by assumption) | exact bne_eq_false_iff_eq.2 (by assumption) | exact beq_iff_eq.2 (by assumption) | exact beq_eq_false_iff_ne.2 (by assumption) | exact bne_iff_ne.2 (by omega) | exact bne_eq_false_iff_eq.2 (by omega) | exact (fun _ _ _ _ => rfl) | exact (fun i hi => absurd hi (Nat.not_lt_zero i)) | (rw [if_neg hN]; exact beq_iff_eq.2 rfl) | (simp [h1, hN, hB, hB2, bfS, bfE0, bsum, gI, hf]; done) | (simp [h1, hN, hB, hB2, bfS, bfE0, bsum, gI, hf]; done) | omega))
      · have h1 : th2 (lsE lf ll lq) (pwE pw) ≠ 0 := by rw [th2_0 hE]; exact hP
        have hN : ndE lf ll lq pw ≠ 0 := h1
        exact sndY (r := ll_9 lf ll lq pw n c g) (by delta ll_9; exact Eq.refl _) smx llK_ok (ll_9_g lf ll lq pw n c g) ((ll_9_o lf ll lq pw n c g).symm ▸ (by
          repeat' (first | (with_reducible assumption) | exact hs | exact hx | exact ⟨hs, hp⟩ | exact ⟨⟨hs, hx⟩, by omega⟩ | exact ⟨rfl, fun _ _ _ _ => rfl⟩ | apply And.intro)
          all_goals first | trivial | rfl | assumption | exact decide_eq_true (by omega) | exact decide_eq_false (by omega) | exact bne_iff_ne.2 (by assumption) | exact bne_eq_false_iff_eq.2 (by assumption) | exact beq_iff_eq.2 (by assumption) | exact beq_eq_false_iff_ne.2 (by assumption) | exact bne_iff_ne.2 (by omega) | exact bne_eq_false_iff_eq.2 (by omega) | exact (fun _ _ _ _ => rfl) | exact (fun i hi => absurd hi (Nat.not_lt_zero i)) | (rw [if_neg hN]; exact beq_iff_eq.2 rfl) | (simp [h1, hN, hB, hB2, bfS, bfE0, bsum, gI]; done) | (simp [h1, hN, hB, hB2, bfS, bfE0, bsum, gI]; done) | omega))
    · have hn : n ≤ 20 := by omega
      have hB3 : rcpVal lf ll lq n g = cepVal n g := hB2.symm.trans (bfE1 hE (by omega))
      by_cases hL : cepVal n g = 0
      · have hB : rcpVal lf ll lq n g = 0 := hB3.trans hL
        have hx : ∀ i, i < n → pwIn (g i 0) := fun i hi => pwE_in (feN_zero hL i hi)
        by_cases hP : pwE pw = 0
        · have h1 : th2 (lsE lf ll lq) (pwE pw) = 0 := (th2_0 hE).trans hP
          have hN : ndE lf ll lq pw = 0 := h1
          have hp := pwE_in hP
          rcases Bool.eq_false_or_eq_true (ndB lf ll lq pw) with hf | hf
          · exact sndY (r := ll_1 lf ll lq pw n c g) (by delta ll_1; exact Eq.refl _) smx llK_ok (ll_1_g lf ll lq pw n c g) ((ll_1_o lf ll lq pw n c g).symm ▸ (by
              repeat' (first | (with_reducible assumption) | exact hs | exact hx | exact ⟨hs, hp⟩ | exact ⟨⟨hs, hx⟩, by omega⟩ | exact ⟨rfl, fun _ _ _ _ => rfl⟩ | apply And.intro)
              all_goals first | trivial | rfl | assumption | exact decide_eq_true (by omega) | exact decide_eq_false (by omega) | exact bne_iff_ne.2 (by assumption) | exact bne_eq_false_iff_eq.2 (by assumption) | exact beq_iff_eq.2 (by assumption) | exact beq_eq_false_iff_ne.2 (by assumption) | exact bne_iff_ne.2 (by omega) | exact bne_eq_false_iff_eq.2 (by omega) | exact (fun _ _ _ _ => rfl) | exact (fun i hi => absurd hi (Nat.not_lt_zero i)) | (rw [if_neg hN]; exact beq_iff_eq.2 rfl) | (simp [h1, hN, hB, hB2, bfS, bfE0, bsum, gI, hf]; done) | (simp [h1, hN, hB, hB2, bfS, bfE0, bsum, gI, hf]; done) | omega))
          · exact sndY (r := ll_3 lf ll lq pw n c g) (by delta ll_3; exact Eq.refl _) smx llK_ok (ll_3_g lf ll lq pw n c g) ((ll_3_o lf ll lq pw n c g).symm ▸ (by
              repeat' (first | (with_reducible assumption) | exact hs | exact hx | exact ⟨hs, hp⟩ | exact ⟨⟨hs, hx⟩, by omega⟩ | exact ⟨rfl, fun _ _ _ _ => rfl⟩ | apply And.intro)
              all_goals first | trivial | rfl | assumption | exact decide_eq_true (by omega) | exact decide_eq_false (by omega) | exact bne_iff_ne.2 (by assumption) | exact bne_eq_false_iff_eq.2 (by assumption) | exact beq_iff_eq.2 (by assumption) | exact beq_eq_false_iff_ne.2 (by assumption) | exact bne_iff_ne.2 (by omega) | exact bne_eq_false_iff_eq.2 (by omega) | exact (fun _ _ _ _ => rfl) | exact (fun i hi => absurd hi (Nat.not_lt_zero i)) | (rw [if_neg hN]; exact beq_iff_eq.2 rfl) | (simp [h1, hN, hB, hB2, bfS, bfE0, bsum, gI, hf]; done) | (simp [h1, hN, hB, hB2, bfS, bfE0, bsum, gI, hf]; done) | omega))
        · have h1 : th2 (lsE lf ll lq) (pwE pw) ≠ 0 := by rw [th2_0 hE]; exact hP
          have hN : ndE lf ll lq pw ≠ 0 := h1
          exact sndY (r := ll_5 lf ll lq pw n c g) (by delta ll_5; exact Eq.refl _) smx llK_ok (ll_5_g lf ll lq pw n c g) ((ll_5_o lf ll lq pw n c g).symm ▸ (by
            repeat' (first | (with_reducible assumption) | exact hs | exact hx | exact ⟨hs, hp⟩ | exact ⟨⟨hs, hx⟩, by omega⟩ | exact ⟨rfl, fun _ _ _ _ => rfl⟩ | apply And.intro)
            all_goals first | trivial | rfl | assumption | exact decide_eq_true (by omega) | exact decide_eq_false (by omega) | exact bne_iff_ne.2 (by assumption) | exact bne_eq_false_iff_eq.2 (by assumption) | exact beq_iff_eq.2 (by assumption) | exact beq_eq_false_iff_ne.2 (by assumption) | exact bne_iff_ne.2 (by omega) | exact bne_eq_false_iff_eq.2 (by omega) | exact (fun _ _ _ _ => rfl) | exact (fun i hi => absurd hi (Nat.not_lt_zero i)) | (rw [if_neg hN]; exact beq_iff_eq.2 rfl) | (simp [h1, hN, hB, hB2, bfS, bfE0, bsum, gI]; done) | (simp [h1, hN, hB, hB2, bfS, bfE0, bsum, gI]; done) | omega))
      · have hB : rcpVal lf ll lq n g ≠ 0 := by rw [hB3]; exact hL
        by_cases hP : pwE pw = 0
        · have h1 : th2 (lsE lf ll lq) (pwE pw) = 0 := (th2_0 hE).trans hP
          have hN : ndE lf ll lq pw = 0 := h1
          have hp := pwE_in hP
          rcases Bool.eq_false_or_eq_true (ndB lf ll lq pw) with hf | hf
          · exact sndY (r := ll_2 lf ll lq pw n c g) (by delta ll_2; exact Eq.refl _) smx llK_ok (ll_2_g lf ll lq pw n c g) ((ll_2_o lf ll lq pw n c g).symm ▸ (by
              repeat' (first | (with_reducible assumption) | exact hs | exact hx | exact ⟨hs, hp⟩ | exact ⟨⟨hs, hx⟩, by omega⟩ | exact ⟨rfl, fun _ _ _ _ => rfl⟩ | apply And.intro)
              all_goals first | trivial | rfl | assumption | exact decide_eq_true (by omega) | exact decide_eq_false (by omega) | exact bne_iff_ne.2 (by assumption) | exact bne_eq_false_iff_eq.2 (by assumption) | exact beq_iff_eq.2 (by assumption) | exact beq_eq_false_iff_ne.2 (by assumption) | exact bne_iff_ne.2 (by omega) | exact bne_eq_false_iff_eq.2 (by omega) | exact (fun _ _ _ _ => rfl) | exact (fun i hi => absurd hi (Nat.not_lt_zero i)) | (rw [if_neg hN]; exact beq_iff_eq.2 rfl) | (simp [h1, hN, hB, hB2, bfS, bfE0, bsum, gI, hf]; done) | (simp [h1, hN, hB, hB2, bfS, bfE0, bsum, gI, hf]; done) | omega))
          · exact sndY (r := ll_4 lf ll lq pw n c g) (by delta ll_4; exact Eq.refl _) smx llK_ok (ll_4_g lf ll lq pw n c g) ((ll_4_o lf ll lq pw n c g).symm ▸ (by
              repeat' (first | (with_reducible assumption) | exact hs | exact hx | exact ⟨hs, hp⟩ | exact ⟨⟨hs, hx⟩, by omega⟩ | exact ⟨rfl, fun _ _ _ _ => rfl⟩ | apply And.intro)
              all_goals first | trivial | rfl | assumption | exact decide_eq_true (by omega) | exact decide_eq_false (by omega) | exact bne_iff_ne.2 (by assumption) | exact bne_eq_false_iff_eq.2 (by assumption) | exact beq_iff_eq.2 (by assumption) | exact beq_eq_false_iff_ne.2 (by assumption) | exact bne_iff_ne.2 (by omega) | exact bne_eq_false_iff_eq.2 (by omega) | exact (fun _ _ _ _ => rfl) | exact (fun i hi => absurd hi (Nat.not_lt_zero i)) | (rw [if_neg hN]; exact beq_iff_eq.2 rfl) | (simp [h1, hN, hB, hB2, bfS, bfE0, bsum, gI, hf]; done) | (simp [h1, hN, hB, hB2, bfS, bfE0, bsum, gI, hf]; done) | omega))
        · have h1 : th2 (lsE lf ll lq) (pwE pw) ≠ 0 := by rw [th2_0 hE]; exact hP
          have hN : ndE lf ll lq pw ≠ 0 := h1
          exact sndY (r := ll_6 lf ll lq pw n c g) (by delta ll_6; exact Eq.refl _) smx llK_ok (ll_6_g lf ll lq pw n c g) ((ll_6_o lf ll lq pw n c g).symm ▸ (by
            repeat' (first | (with_reducible assumption) | exact hs | exact hx | exact ⟨hs, hp⟩ | exact ⟨⟨hs, hx⟩, by omega⟩ | exact ⟨rfl, fun _ _ _ _ => rfl⟩ | apply And.intro)
            all_goals first | trivial | rfl | assumption | exact decide_eq_true (by omega) | exact decide_eq_false (by omega) | exact bne_iff_ne.2 (by assumption) | exact bne_eq_false_iff_eq.2 (by assumption) | exact beq_iff_eq.2 (by assumption) | exact beq_eq_false_iff_ne.2 (by assumption) | exact bne_iff_ne.2 (by omega) | exact bne_eq_false_iff_eq.2 (by omega) | exact (fun _ _ _ _ => rfl) | exact (fun i hi => absurd hi (Nat.not_lt_zero i)) | (rw [if_neg hN]; exact beq_iff_eq.2 rfl) | (simp [h1, hN, hB, hB2, bfS, bfE0, bsum, gI]; done) | (simp [h1, hN, hB, hB2, bfS, bfE0, bsum, gI]; done) | omega))
  · have hB : rcpVal lf ll lq n g ≠ 0 := by rw [← hB2, bfEe hE]; exact hE
    have h1 : th2 (lsE lf ll lq) (pwE pw) ≠ 0 := by rw [th2_1 hE]; exact hE
    have hN : ndE lf ll lq pw ≠ 0 := h1
    by_cases h257 : n = 257
    · exact sndY (r := ll_9 lf ll lq pw n c g) (by delta ll_9; exact Eq.refl _) smx llK_ok (ll_9_g lf ll lq pw n c g) ((ll_9_o lf ll lq pw n c g).symm ▸ (by
        repeat' (first | (with_reducible assumption) | exact hs | exact hx | exact ⟨hs, hp⟩ | exact ⟨⟨hs, hx⟩, by omega⟩ | exact ⟨rfl, fun _ _ _ _ => rfl⟩ | apply And.intro)
        all_goals first | trivial | rfl | assumption | exact decide_eq_true (by omega) | exact decide_eq_false (by omega) | exact bne_iff_ne.2 (by assumption) | exact bne_eq_false_iff_eq.2 (by assumption) | exact beq_iff_eq.2 (by assumption) | exact beq_eq_false_iff_ne.2 (by assumption) | exact bne_iff_ne.2 (by omega) | exact bne_eq_false_iff_eq.2 (by omega) | exact (fun _ _ _ _ => rfl) | exact (fun i hi => absurd hi (Nat.not_lt_zero i)) | (rw [if_neg hN]; exact beq_iff_eq.2 rfl) | (simp [h1, hN, hB, hB2, bfS, bfE0, bsum, gI]; done) | (simp [h1, hN, hB, hB2, bfS, bfE0, bsum, gI]; done) | omega))
    · have hn : n ≤ 20 := by omega
      exact sndY (r := ll_6 lf ll lq pw n c g) (by delta ll_6; exact Eq.refl _) smx llK_ok (ll_6_g lf ll lq pw n c g) ((ll_6_o lf ll lq pw n c g).symm ▸ (by
        repeat' (first | (with_reducible assumption) | exact hs | exact hx | exact ⟨hs, hp⟩ | exact ⟨⟨hs, hx⟩, by omega⟩ | exact ⟨rfl, fun _ _ _ _ => rfl⟩ | apply And.intro)
        all_goals first | trivial | rfl | assumption | exact decide_eq_true (by omega) | exact decide_eq_false (by omega) | exact bne_iff_ne.2 (by assumption) | exact bne_eq_false_iff_eq.2 (by assumption) | exact beq_iff_eq.2 (by assumption) | exact beq_eq_false_iff_ne.2 (by assumption) | exact bne_iff_ne.2 (by omega) | exact bne_eq_false_iff_eq.2 (by omega) | exact (fun _ _ _ _ => rfl) | exact (fun i hi => absurd hi (Nat.not_lt_zero i)) | (rw [if_neg hN]; exact beq_iff_eq.2 rfl) | (simp [h1, hN, hB, hB2, bfS, bfE0, bsum, gI]; done) | (simp [h1, hN, hB, hB2, bfS, bfE0, bsum, gI]; done) | omega))
theorem ll_nil (lf ll lq pw : Int) : ∃ s1 R, SndF Tryz.prog 3 (llNil lf ll lq pw) aw5S0 (.bool true) s1 R 0 := by
  by_cases hE : lsE lf ll lq = 0
  · have hs := lsE_in hE
    by_cases hP : pwE pw = 0
    · have h1 : th2 (lsE lf ll lq) (pwE pw) = 0 := (th2_0 hE).trans hP
      have hN : ndE lf ll lq pw = 0 := h1
      have hp := pwE_in hP
      rcases Bool.eq_false_or_eq_true (ndB lf ll lq pw) with hf | hf
      · exact sndY (r := ll_n1 lf ll lq pw) (by delta ll_n1; exact Eq.refl _) smx llK_ok (ll_n1_g lf ll lq pw) ((ll_n1_o lf ll lq pw).symm ▸ (by
          repeat' (first | (with_reducible assumption) | exact hs | exact hx | exact ⟨hs, hp⟩ | exact ⟨⟨hs, hx⟩, by omega⟩ | exact ⟨rfl, fun _ _ _ _ => rfl⟩ | apply And.intro)
          all_goals first | trivial | rfl | assumption | exact decide_eq_true (by omega) | exact decide_eq_false (by omega) | exact bne_iff_ne.2 (by assumption) | exact bne_eq_false_iff_eq.2 (by assumption) | exact beq_iff_eq.2 (by assumption) | exact beq_eq_false_iff_ne.2 (by assumption) | exact bne_iff_ne.2 (by omega) | exact bne_eq_false_iff_eq.2 (by omega) | exact (fun _ _ _ _ => rfl) | exact (fun i hi => absurd hi (Nat.not_lt_zero i)) | (rw [if_neg hN]; exact beq_iff_eq.2 rfl) | (simp [h1, hN, bfS, bfE0, bsum, gI, hf]; done) | (simp [hE, bfS, bfE0, bsum, gI]; done) | omega))
      · exact sndY (r := ll_n2 lf ll lq pw) (by delta ll_n2; exact Eq.refl _) smx llK_ok (ll_n2_g lf ll lq pw) ((ll_n2_o lf ll lq pw).symm ▸ (by
          repeat' (first | (with_reducible assumption) | exact hs | exact hx | exact ⟨hs, hp⟩ | exact ⟨⟨hs, hx⟩, by omega⟩ | exact ⟨rfl, fun _ _ _ _ => rfl⟩ | apply And.intro)
          all_goals first | trivial | rfl | assumption | exact decide_eq_true (by omega) | exact decide_eq_false (by omega) | exact bne_iff_ne.2 (by assumption) | exact bne_eq_false_iff_eq.2 (by assumption) | exact beq_iff_eq.2 (by assumption) | exact beq_eq_false_iff_ne.2 (by assumption) | exact bne_iff_ne.2 (by omega) | exact bne_eq_false_iff_eq.2 (by omega) | exact (fun _ _ _ _ => rfl) | exact (fun i hi => absurd hi (Nat.not_lt_zero i)) | (rw [if_neg hN]; exact beq_iff_eq.2 rfl) | (simp [h1, hN, bfS, bfE0, bsum, gI, hf]; done) | (simp [hE, bfS, bfE0, bsum, gI]; done) | omega))
    · have h1 : th2 (lsE lf ll lq) (pwE pw) ≠ 0 := by rw [th2_0 hE]; exact hP
      have hN : ndE lf ll lq pw ≠ 0 := h1
      exact sndY (r := ll_n3 lf ll lq pw) (by delta ll_n3; exact Eq.refl _) smx llK_ok (ll_n3_g lf ll lq pw) ((ll_n3_o lf ll lq pw).symm ▸ (by
        repeat' (first | (with_reducible assumption) | exact hs | exact hx | exact ⟨hs, hp⟩ | exact ⟨⟨hs, hx⟩, by omega⟩ | exact ⟨rfl, fun _ _ _ _ => rfl⟩ | apply And.intro)
        all_goals first | trivial | rfl | assumption | exact decide_eq_true (by omega) | exact decide_eq_false (by omega) | exact bne_iff_ne.2 (by assumption) | exact bne_eq_false_iff_eq.2 (by assumption) | exact beq_iff_eq.2 (by assumption) | exact beq_eq_false_iff_ne.2 (by assumption) | exact bne_iff_ne.2 (by omega) | exact bne_eq_false_iff_eq.2 (by omega) | exact (fun _ _ _ _ => rfl) | exact (fun i hi => absurd hi (Nat.not_lt_zero i)) | (rw [if_neg hN]; exact beq_iff_eq.2 rfl) | (simp [h1, hN, bfS, bfE0, bsum, gI]; done) | (simp [hE, bfS, bfE0, bsum, gI]; done) | omega))
  · have h1 : th2 (lsE lf ll lq) (pwE pw) ≠ 0 := by rw [th2_1 hE]; exact hE
    have hN : ndE lf ll lq pw ≠ 0 := h1
    exact sndY (r := ll_n4 lf ll lq pw) (by delta ll_n4; exact Eq.refl _) smx llK_ok (ll_n4_g lf ll lq pw) ((ll_n4_o lf ll lq pw).symm ▸ (by
      repeat' (first | (with_reducible assumption) | exact hs | exact hx | exact ⟨hs, hp⟩ | exact ⟨⟨hs, hx⟩, by omega⟩ | exact ⟨rfl, fun _ _ _ _ => rfl⟩ | apply And.intro)
      all_goals first | trivial | rfl | assumption | exact decide_eq_true (by omega) | exact decide_eq_false (by omega) | exact bne_iff_ne.2 (by assumption) | exact bne_eq_false_iff_eq.2 (by assumption) | exact beq_iff_eq.2 (by assumption) | exact beq_eq_false_iff_ne.2 (by assumption) | exact bne_iff_ne.2 (by omega) | exact bne_eq_false_iff_eq.2 (by omega) | exact (fun _ _ _ _ => rfl) | exact (fun i hi => absurd hi (Nat.not_lt_zero i)) | (rw [if_neg hN]; exact beq_iff_eq.2 rfl) | (simp [h1, hN, bfS, bfE0, bsum, gI]; done) | (simp [hE, bfS, bfE0, bsum, gI]; done) | omega))
theorem ll_emp (lf ll lq pw : Int) (c : Nat) : ∃ s1 R, SndF Tryz.prog 3 (llArgs lf ll lq pw 0 c) (aw5S0.push .hole) (.bool true) s1 R 0 := by
  by_cases hE : lsE lf ll lq = 0
  · have hs := lsE_in hE
    by_cases hP : pwE pw = 0
    · have h1 : th2 (lsE lf ll lq) (pwE pw) = 0 := (th2_0 hE).trans hP
      have hN : ndE lf ll lq pw = 0 := h1
      have hp := pwE_in hP
      rcases Bool.eq_false_or_eq_true (ndB lf ll lq pw) with hf | hf
      · exact sndY (r := ll_e1 lf ll lq pw c) (by delta ll_e1; exact Eq.refl _) smx llK_ok (ll_e1_g lf ll lq pw c) ((ll_e1_o lf ll lq pw c).symm ▸ (by
          repeat' (first | (with_reducible assumption) | exact hs | exact hx | exact ⟨hs, hp⟩ | exact ⟨⟨hs, hx⟩, by omega⟩ | exact ⟨rfl, fun _ _ _ _ => rfl⟩ | apply And.intro)
          all_goals first | trivial | rfl | assumption | exact decide_eq_true (by omega) | exact decide_eq_false (by omega) | exact bne_iff_ne.2 (by assumption) | exact bne_eq_false_iff_eq.2 (by assumption) | exact beq_iff_eq.2 (by assumption) | exact beq_eq_false_iff_ne.2 (by assumption) | exact bne_iff_ne.2 (by omega) | exact bne_eq_false_iff_eq.2 (by omega) | exact (fun _ _ _ _ => rfl) | exact (fun i hi => absurd hi (Nat.not_lt_zero i)) | (rw [if_neg hN]; exact beq_iff_eq.2 rfl) | (simp [h1, hN, bfS, bfE0, bsum, gI, hf]; done) | (simp [hE, bfS, bfE0, bsum, gI]; done) | omega))
      · exact sndY (r := ll_e2 lf ll lq pw c) (by delta ll_e2; exact Eq.refl _) smx llK_ok (ll_e2_g lf ll lq pw c) ((ll_e2_o lf ll lq pw c).symm ▸ (by
          repeat' (first | (with_reducible assumption) | exact hs | exact hx | exact ⟨hs, hp⟩ | exact ⟨⟨hs, hx⟩, by omega⟩ | exact ⟨rfl, fun _ _ _ _ => rfl⟩ | apply And.intro)
          all_goals first | trivial | rfl | assumption | exact decide_eq_true (by omega) | exact decide_eq_false (by omega) | exact bne_iff_ne.2 (by assumption) | exact bne_eq_false_iff_eq.2 (by assumption) | exact beq_iff_eq.2 (by assumption) | exact beq_eq_false_iff_ne.2 (by assumption) | exact bne_iff_ne.2 (by omega) | exact bne_eq_false_iff_eq.2 (by omega) | exact (fun _ _ _ _ => rfl) | exact (fun i hi => absurd hi (Nat.not_lt_zero i)) | (rw [if_neg hN]; exact beq_iff_eq.2 rfl) | (simp [h1, hN, bfS, bfE0, bsum, gI, hf]; done) | (simp [hE, bfS, bfE0, bsum, gI]; done) | omega))
    · have h1 : th2 (lsE lf ll lq) (pwE pw) ≠ 0 := by rw [th2_0 hE]; exact hP
      have hN : ndE lf ll lq pw ≠ 0 := h1
      exact sndY (r := ll_e3 lf ll lq pw c) (by delta ll_e3; exact Eq.refl _) smx llK_ok (ll_e3_g lf ll lq pw c) ((ll_e3_o lf ll lq pw c).symm ▸ (by
        repeat' (first | (with_reducible assumption) | exact hs | exact hx | exact ⟨hs, hp⟩ | exact ⟨⟨hs, hx⟩, by omega⟩ | exact ⟨rfl, fun _ _ _ _ => rfl⟩ | apply And.intro)
        all_goals first | trivial | rfl | assumption | exact decide_eq_true (by omega) | exact decide_eq_false (by omega) | exact bne_iff_ne.2 (by assumption) | exact bne_eq_false_iff_eq.2 (by assumption) | exact beq_iff_eq.2 (by assumption) | exact beq_eq_false_iff_ne.2 (by assumption) | exact bne_iff_ne.2 (by omega) | exact bne_eq_false_iff_eq.2 (by omega) | exact (fun _ _ _ _ => rfl) | exact (fun i hi => absurd hi (Nat.not_lt_zero i)) | (rw [if_neg hN]; exact beq_iff_eq.2 rfl) | (simp [h1, hN, bfS, bfE0, bsum, gI]; done) | (simp [hE, bfS, bfE0, bsum, gI]; done) | omega))
  · have h1 : th2 (lsE lf ll lq) (pwE pw) ≠ 0 := by rw [th2_1 hE]; exact hE
    have hN : ndE lf ll lq pw ≠ 0 := h1
    exact sndY (r := ll_e4 lf ll lq pw c) (by delta ll_e4; exact Eq.refl _) smx llK_ok (ll_e4_g lf ll lq pw c) ((ll_e4_o lf ll lq pw c).symm ▸ (by
      repeat' (first | (with_reducible assumption) | exact hs | exact hx | exact ⟨hs, hp⟩ | exact ⟨⟨hs, hx⟩, by omega⟩ | exact ⟨rfl, fun _ _ _ _ => rfl⟩ | apply And.intro)
      all_goals first | trivial | rfl | assumption | exact decide_eq_true (by omega) | exact decide_eq_false (by omega) | exact bne_iff_ne.2 (by assumption) | exact bne_eq_false_iff_eq.2 (by assumption) | exact beq_iff_eq.2 (by assumption) | exact beq_eq_false_iff_ne.2 (by assumption) | exact bne_iff_ne.2 (by omega) | exact bne_eq_false_iff_eq.2 (by omega) | exact (fun _ _ _ _ => rfl) | exact (fun i hi => absurd hi (Nat.not_lt_zero i)) | (rw [if_neg hN]; exact beq_iff_eq.2 rfl) | (simp [h1, hN, bfS, bfE0, bsum, gI]; done) | (simp [hE, bfS, bfE0, bsum, gI]; done) | omega))
end Go.Proofs.YthhgmnocigekaaaGreatDoor
end
section
namespace Go.Proofs.YthhgmnocigekaaaGreatDoor
set_option linter.all false
open Go.ChangeShapes Go.WideShapes Go.RowKit
namespace Mini

def pairsK (g : TypeId → Option (List IntKind)) (P : Program) : Nat → List (Nat × TypeId) → Option (List IntKind)
  | _, [] => some []
  | off, x :: l => match g x.2 with
    | some ks => match (x.1 == off) && (P.cellsOf x.2 == ks.length) with
      | true => match pairsK g P (off + ks.length) l with
        | some r => some (ks ++ r)
        | none => none
      | false => none
    | none => none
def kindsT (P : Program) : Nat → TypeId → Option (List IntKind)
  | 0, _ => none
  | n + 1, t => match P.underlying t with
    | some (.int k) => some [k]
    | some (.array m e) => match pairsK (kindsT P n) P 0 ((List.range m).map fun i => (i * P.cellsOf e, e)) with
      | some ks => match P.cellsOf t == ks.length with
        | true => some ks
        | false => none
      | none => none
    | some (.struct fs) => match pairsK (kindsT P n) P 0 (fs.toList.map fun f => (f.offset, f.type)) with
      | some ks => match P.cellsOf t == ks.length with
        | true => some ks
        | false => none
      | none => none
    | _ => none
def wfs : List IntKind → List Int → Bool
  | k :: ks, n :: ns => (Lit.int k n).wf && wfs ks ns
  | _, _ => true
theorem backI_length : ∀ (ks : List IntKind) (ns : List Int), ns.length = ks.length → (backI ks ns).length = ks.length
  | [], [], _ => rfl
  | k :: ks, n :: ns, h => by simp only [backI, List.length_cons, backI_length ks ns (by simpa using h)]
  | [], n :: ns, h => by cases h
  | k :: ks, [], h => by cases h
theorem backI_append : ∀ (ks ks' : List IntKind) (ns ns' : List Int), ns.length = ks.length → backI (ks ++ ks') (ns ++ ns') = backI ks ns ++ backI ks' ns'
  | [], ks', [], ns', _ => rfl
  | k :: ks, ks', n :: ns, ns', h => by
    show Value.int k n :: backI (ks ++ ks') (ns ++ ns') = _
    rw [backI_append ks ks' ns ns' (by simpa using h)]
    rfl
  | [], ks', n :: ns, ns', h => by cases h
  | k :: ks, ks', [], ns', h => by cases h
theorem wfs_append : ∀ (ks ks' : List IntKind) (ns ns' : List Int), ns.length = ks.length → wfs ks ns = true → wfs ks' ns' = true → wfs (ks ++ ks') (ns ++ ns') = true
  | [], ks', [], ns', _, _, h => h
  | k :: ks, ks', n :: ns, ns', h, h1, h2 => by
    simp only [wfs, Bool.and_eq_true] at h1
    show ((Lit.int k n).wf && wfs (ks ++ ks') (ns ++ ns')) = true
    rw [h1.1, wfs_append ks ks' ns ns' (by simpa using h) h1.2 h2]
    rfl
  | [], ks', n :: ns, ns', h, _, _ => by cases h
  | k :: ks, ks', [], ns', h, _, _ => by cases h
theorem mapM_map' {α β γ : Type} (f : α → β) (g : β → Option γ) : ∀ l : List α, (l.map f).mapM g = l.mapM fun a => g (f a)
  | [] => rfl
  | a :: l => by simp [List.mapM_cons, mapM_map' f g l]

section
variable {H : Type} {enc : TypeId × Value → H} {P : Program}

def Flat (enc : TypeId × Value → H) (P : Program) (fuel : Nat) (t : TypeId) (cs : List Value) (d : DataW H) (ks : List IntKind) : Prop :=
  ∃ ns, ns.length = ks.length ∧ cs = backI ks ns ∧ wfs ks ns = true ∧ ∀ w b sp held, DataW.trod enc P w b sp held fuel t cs = some (d, [])
theorem flat_pairs {n fuel : Nat} (IH : ∀ (t : TypeId) (ks : List IntKind), kindsT P n t = some ks → ∀ (cs : List Value) (d : DataW H) (p : List MemPlace) w b sp held, DataW.trod enc P w b sp held fuel t cs = some (d, p) → p = [] ∧ Flat enc P fuel t cs d ks) :
    ∀ (L : List (Nat × TypeId)) (off : Nat) (ks : List IntKind) (cs : List Value) (xs : List (DataW H × List MemPlace)) (w : World) (b : Nat) (sp : Nat → Bool) (held : Bool), pairsK (kindsT P n) P off L = some ks → off + ks.length ≤ cs.length →
      L.mapM (fun x => DataW.trod enc P w b sp held fuel x.2 ((cs.drop x.1).take (P.cellsOf x.2))) = some xs →
      xs.flatMap (·.2) = [] ∧ ∃ ns, ns.length = ks.length ∧ (cs.drop off).take ks.length = backI ks ns ∧ wfs ks ns = true ∧ ∀ w b sp held, L.mapM (fun x => DataW.trod enc P w b sp held fuel x.2 ((cs.drop x.1).take (P.cellsOf x.2))) = some xs
  | [], off, ks, cs, xs, w, b, sp, held, hk, hl, hm => by
    cases hk
    simp at hm
    subst hm
    exact ⟨rfl, [], rfl, by simp [backI], rfl, fun _ _ _ _ => rfl⟩
  | x :: L, off, ks, cs, xs, w, b, sp, held, hk, hl, hm => by
    simp only [pairsK] at hk
    split at hk
    · rename_i ks1 hk1
      split at hk
      · rename_i hc
        simp only [Bool.and_eq_true, beq_iff_eq] at hc
        obtain ⟨hx, hcell⟩ := hc
        split at hk
        · rename_i r hr
          cases hk
          simp only [List.length_append] at hl
          simp only [List.mapM_cons, Option.bind_eq_bind, Option.bind_eq_some_iff, Option.pure_def, Option.some.injEq] at hm
          obtain ⟨y, hy, ys, hys, rfl⟩ := hm
          obtain ⟨d, p⟩ := y
          obtain ⟨rfl, ns1, l1, c1, f1, t1⟩ := IH x.2 ks1 hk1 _ d p w b sp held hy
          obtain ⟨e2, ns2, l2, c2, f2, t2⟩ := flat_pairs IH L (off + ks1.length) r cs ys w b sp held hr (by omega) hys
          refine ⟨by simpa using e2, ns1 ++ ns2, by simp [l1, l2], ?_, wfs_append _ _ _ _ l1 f1 f2, fun w' b' sp' held' => ?_⟩
          · rw [backI_append _ _ _ _ l1, ← c2, List.length_append, List.take_add, List.drop_drop]
            rw [hx, hcell] at c1
            rw [c1]
          · simp only [List.mapM_cons, Option.bind_eq_bind, Option.pure_def]
            rw [t1 w' b' sp' held', t2 w' b' sp' held']
            rfl
        · cases hk
      · cases hk
    · cases hk
theorem open_kinds : ∀ (n : Nat) (t : TypeId) (ks : List IntKind), kindsT P n t = some ks → ∀ (fuel : Nat) (cs : List Value) (d : DataW H) (p : List MemPlace) w b sp held, DataW.trod enc P w b sp held fuel t cs = some (d, p) → p = [] ∧ Flat enc P fuel t cs d ks
  | 0, t, ks, hk, fuel, cs, d, p, w, b, sp, held, h => by cases hk
  | n + 1, t, ks, hk, fuel, cs, d, p, w, b, sp, held, h => by
    cases fuel with
    | zero => simp [DataW.trod] at h
    | succ fuel =>
      simp only [kindsT] at hk
      split at hk
      · rename_i k ht
        cases hk
        obtain ⟨z, rfl, hx, hw⟩ := DataW.trod_int ht h
        cases hx
        refine ⟨rfl, [z], rfl, rfl, by simp [wfs, hw], fun w' b' sp' held' => ?_⟩
        simp [DataW.trod, ht, hw]
      · rename_i m e ht
        split at hk
        · rename_i ks' hk'
          split at hk
          · rename_i hc
            cases hk
            have hc := beq_iff_eq.1 hc
            simp only [DataW.trod, ht] at h
            split at h
            · rename_i hl
              obtain ⟨xs, hm, hx⟩ := Option.map_eq_some_iff.1 h
              have hm2 : ((List.range m).map fun i => (i * P.cellsOf e, e)).mapM (fun x => DataW.trod enc P w b sp held fuel x.2 ((cs.drop x.1).take (P.cellsOf x.2))) = some xs := by rw [mapM_map']; exact hm
              obtain ⟨e1, ns, l1, c1, f1, t1⟩ := flat_pairs (fun t ks hk cs d p w b sp held h => open_kinds n t ks hk fuel cs d p w b sp held h) _ 0 ks cs xs w b sp held hk' (by omega) hm2
              simp only [Prod.mk.injEq] at hx
              obtain ⟨rfl, rfl⟩ := hx
              refine ⟨e1, ns, l1, ?_, f1, fun w' b' sp' held' => ?_⟩
              · rw [← c1, List.drop_zero, List.take_of_length_le (by omega)]
              · have := t1 w' b' sp' held'
                rw [mapM_map'] at this
                simp only [DataW.trod, ht, if_pos hl]
                rw [this]
                simp [e1]
            · cases h
          · cases hk
        · cases hk
      · rename_i fs ht
        split at hk
        · rename_i ks' hk'
          split at hk
          · rename_i hc
            cases hk
            have hc := beq_iff_eq.1 hc
            simp only [DataW.trod, ht] at h
            split at h
            · rename_i hl
              obtain ⟨xs, hm, hx⟩ := Option.map_eq_some_iff.1 h
              have hm2 : (fs.toList.map fun f => (f.offset, f.type)).mapM (fun x => DataW.trod enc P w b sp held fuel x.2 ((cs.drop x.1).take (P.cellsOf x.2))) = some xs := by rw [mapM_map']; exact hm
              obtain ⟨e1, ns, l1, c1, f1, t1⟩ := flat_pairs (fun t ks hk cs d p w b sp held h => open_kinds n t ks hk fuel cs d p w b sp held h) _ 0 ks cs xs w b sp held hk' (by omega) hm2
              simp only [Prod.mk.injEq] at hx
              obtain ⟨rfl, rfl⟩ := hx
              refine ⟨e1, ns, l1, ?_, f1, fun w' b' sp' held' => ?_⟩
              · rw [← c1, List.drop_zero, List.take_of_length_le (by omega)]
              · have := t1 w' b' sp' held'
                rw [mapM_map'] at this
                simp only [DataW.trod, ht, if_pos hl]
                rw [this]
                simp [e1]
            · cases h
          · cases hk
        · cases hk
      · cases hk
def isRow (P : Program) (t : TypeId) : Bool := match P.underlying t with
  | some (.struct _) | some (.array _ _) => true
  | _ => false
theorem open_agg {w : World} {base b0 n : Nat} {spare : Nat → Bool} {held : Bool} {r : Reach} {t : TypeId} {v : Value} {d : DataW H} {ps : List MemPlace} {ks : List IntKind} (hr : isRow P t = true) (hk : kindsT P n t = some ks) (hval : Value.okWide P w r b0 t v) (hd : DataW.Trod enc P w base spare held t v d ps) :
    ∃ ns, ns.length = ks.length ∧ v = .agg (backI ks ns).toArray ∧ ps = [] ∧ wfs ks ns = true ∧ ∀ w b sp held, DataW.Trod enc P w b sp held t v d [] := by
  obtain ⟨cs, rfl⟩ : ∃ cs, v = .agg cs := by
    unfold isRow at hr
    unfold Value.okWide at hval
    split at hr
    · rename_i h; rw [h] at hval; obtain ⟨cs, h1, _⟩ := hval; exact ⟨cs, h1⟩
    · rename_i h; rw [h] at hval; obtain ⟨cs, h1, _⟩ := hval; exact ⟨cs, h1⟩
    · cases hr
  obtain ⟨fuel, hf⟩ := hd
  obtain ⟨rfl, ns, l1, c1, f1, t1⟩ := open_kinds n t ks hk fuel _ d ps w base spare held hf
  refine ⟨ns, l1, ?_, rfl, f1, fun w b sp held => ⟨fuel, t1 w b sp held⟩⟩
  congr 1
  apply Array.ext'
  simpa [Value.cells] using c1
theorem open_num {w : World} {base b0 : Nat} {spare : Nat → Bool} {held : Bool} {r : Reach} {t : TypeId} {k : IntKind} {v : Value} {d : DataW H} {ps : List MemPlace} (ht : P.underlying t = some (.int k)) (hval : Value.okWide P w r b0 t v) (hd : DataW.Trod enc P w base spare held t v d ps) :
    ∃ n, v = .int k n ∧ ps = [] ∧ (Lit.int k n).wf = true ∧ ∀ w b sp held, DataW.Trod enc P w b sp held t v d [] := by
  obtain ⟨n, rfl, rfl, rfl, hw⟩ := open_int ht hval hd
  exact ⟨n, rfl, rfl, hw, fun w b sp held => shut_int ht hw⟩
end
theorem bounds_i64 {n : Int} (h : (Lit.int .i64 n).wf = true) : -9223372036854775808 ≤ n ∧ n ≤ 9223372036854775807 := by
  simp [Lit.wf, IntKind.min, IntKind.max, IntKind.signed, IntKind.bits] at h
  omega
end Mini
end Go.Proofs.YthhgmnocigekaaaGreatDoor
end
section
namespace Go.Proofs.YthhgmnocigekaaaGreatDoor
set_option linter.all false
open Go.ChangeShapes Go.WideShapes Go.ChangeAt Go.RowKit

section
variable {H : Type} {enc : TypeId × Value → H} {P : Program}
theorem post_below {f : Func} {s : ChangeSpec} {W W' : World} {args : Array Value} {v : Value} {ds gs : List (DataW H)} {ps pa pv : List MemPlace} {apart fresh handsOn again : Bool} (hw : DataW.Whole enc P f.params.toList s.vars apart W args.toList ds gs ps)
    (ok : ∀ (j : Nat) (t : TypeId) (r : Value), f.resultTypes[j]? = some t → (v.resultList f.resultTypes.size)[j]? = some r → Value.okWide P W' .any 0 t r)
    (res : ∀ (b : Nat) (sp : Nat → Bool) (hd : Bool), DataW.TrodAll enc P W' b sp hd f.resultTypes.toList (v.resultList f.resultTypes.size) (s.fn H (ds ++ gs)).results [])
    (arg : ∀ sp : Nat → Bool, (∀ p ∈ ps, sp p.block = true) → DataW.TrodAll enc P W' 0 sp true f.params.toList args.toList (s.fn H (ds ++ gs)).args pa)
    (vrs : ∀ sp : Nat → Bool, (∀ p ∈ ps, sp p.block = true) → DataW.TrodVars enc P W' sp s.vars (s.fn H (ds ++ gs)).vars pv)
    (hps : ps = pa ++ pv) (hb : Below W.heap.size W W') : s.post enc P f apart fresh handsOn again W args v W' := by
  have hb' := hb
  have lt : ∀ p ∈ ps, p.block < W.heap.size := fun p hp => hw.lt p hp
  have old : ∀ p ∈ ps, (fun b => decide (b < W.heap.size)) p.block = true := fun p hp => by simpa using lt p hp
  have whole := hw
  obtain ⟨_, _, _, _, _, hz, hn⟩ := hw
  subst hps
  refine ⟨ds, gs, pa ++ pv, [], pa, pv, whole, res _ _ _, arg _ old, vrs _ old, World.keptBut_mono (fun p hp => ⟨hp, Or.inr (List.mem_append.1 hp)⟩) (hb'.frame (· ∈ pa ++ pv)), fun _ => ⟨ok, _, _, ([] ++ pa) ++ pv, ⟨[] ++ pa, pv, trodAll_append (arg _ (fun _ _ => rfl)) (res _ _ _), vrs _ (fun _ _ => rfl), rfl, fun b off hp => ?_, fun ha => ?_⟩, fun p hp _ => ?_⟩⟩
  · have hin : MemPlace.cell b off ∈ pa ++ pv := by simpa using hp
    exact (hb'.frozen (lt _ hin)).trans (hz b off hin)
  · simpa using hn ha
  · simpa using hp
end

section
open Go.Lib

theorem trod_lit {H : Type} {enc : TypeId × Value → H} {P : Program} {w : World} {base : Nat} {sp : Nat → Bool} {held : Bool} {fuel : Nat} {t : TypeId} {k : IntKind} {z : Int} {cs : List Value} {p : List MemPlace}
    (ht : P.underlying t = some (.int k)) (h : DataW.trod enc P w base sp held fuel t cs = some (.lit (.int k z), p)) : cs = [.int k z] := by
  obtain ⟨z', hc, hd, _⟩ := DataW.trod_int ht h
  cases hd
  exact hc
theorem cells_of_pairs {H : Type} {enc : TypeId × Value → H} {P : Program} {w : World} {base : Nat} {sp : Nat → Bool} {held : Bool} {fuel : Nat} {t e : TypeId} {n : Nat} {k : IntKind} {cs : List Value} {zs : List (Int × Int)} {p : List MemPlace} {fs : Array Field} {f0 f1 : Field}
    (ht : P.underlying t = some (.array n e)) (he : P.underlying e = some (.struct fs)) (hfs : fs.toList = [f0, f1]) (h0 : f0.offset = 0) (h1 : f1.offset = 1) (k0 : P.underlying f0.type = some (.int k)) (k1 : P.underlying f1.type = some (.int k))
    (c0 : P.cellsOf f0.type = 1) (c1 : P.cellsOf f1.type = 1) (hce : P.cellsOf e = 2)
    (h : DataW.trod enc P w base sp held fuel t cs = some (.agg (zs.map fun z => .agg [.lit (.int k z.1), .lit (.int k z.2)]), p)) :
    ∀ (i : Nat) (z : Int × Int), zs[i]? = some z → cs[i * 2]? = some (.int k z.1) ∧ cs[i * 2 + 1]? = some (.int k z.2) := by
  cases fuel with
  | zero => simp [DataW.trod] at h
  | succ fuel =>
    simp only [DataW.trod, ht, hce] at h
    split at h
    · rename_i hl
      obtain ⟨xs, hm, hx⟩ := Option.map_eq_some_iff.1 h
      have hxs : xs.map (·.1) = zs.map fun z => (DataW.agg [.lit (.int k z.1), .lit (.int k z.2)] : DataW H) := by
        have := congrArg Prod.fst hx
        simpa using this
      have hxl : xs.length = n := by simpa using mapM_length hm
      have hzl : zs.length = n := by
        have := congrArg List.length hxs
        simp at this
        omega
      intro i z hz
      have hi : i < n := by
        have := (List.getElem?_eq_some_iff.1 hz).1
        omega
      obtain ⟨b, hb, hf⟩ := mapM_at hm i i (by simp [hi])
      have h2 : (xs.map (·.1))[i]? = some b.1 := by simp [hb]
      rw [hxs] at h2
      simp only [List.getElem?_map, hz, Option.map_some, Option.some.injEq] at h2
      cases fuel with
      | zero => simp [DataW.trod] at hf
      | succ fuel =>
        simp only [DataW.trod, he] at hf
        split at hf
        · obtain ⟨ys, hy, hyb⟩ := Option.map_eq_some_iff.1 hf
          rw [hfs] at hy
          simp only [List.mapM_cons, List.mapM_nil, Option.bind_eq_bind, Option.bind_eq_some_iff, Option.pure_def, Option.some.injEq] at hy
          obtain ⟨y0, e0, l1, ⟨y1, e1, l2, rfl, rfl⟩, rfl⟩ := hy
          have hb1 := congrArg Prod.fst hyb
          simp only [List.map_cons, List.map_nil] at hb1
          rw [← h2] at hb1
          simp only [DataW.agg.injEq, List.cons.injEq, and_true] at hb1
          obtain ⟨q0, q1⟩ := hb1
          obtain ⟨d0, p0⟩ := y0
          obtain ⟨d1, p1⟩ := y1
          simp only at q0 q1
          subst q0 q1
          have g0 := trod_lit k0 e0
          have g1 := trod_lit k1 e1
          rw [h0, c0] at g0
          rw [h1, c1] at g1
          have a0 := congrArg (·[0]?) g0
          have a1 := congrArg (·[0]?) g1
          simp [List.getElem?_take, List.getElem?_drop] at a0 a1
          exact ⟨by simpa using a0, by simpa using a1⟩
        · cases hf
    · cases h
end
theorem pairs_of_laid {P : Program} {W : World} {name : String} {k : IntKind} {zs : List (Int × Int)} {g : Nat} {t e : TypeId} {n : Nat} {fs : Array Field} {f0 f1 : Field}
    (hg : P.globalNamed name = some g) (hty : (P.globals[g]?).map (·.type) = some t) (ht : P.underlying t = some (.array n e)) (he : P.underlying e = some (.struct fs)) (hfs : fs.toList = [f0, f1]) (h0 : f0.offset = 0) (h1 : f1.offset = 1) (k0 : P.underlying f0.type = some (.int k)) (k1 : P.underlying f1.type = some (.int k))
    (c0 : P.cellsOf f0.type = 1) (c1 : P.cellsOf f1.type = 1) (hce : P.cellsOf e = 2)
    (h : laidMet P [(name, .agg (zs.map fun z => .agg [.lit (.int k z.1), .lit (.int k z.2)]))] W) (i : Nat) (z : Int × Int) (hz : zs[i]? = some z) :
    W.cell? ⟨g, i * 2, none⟩ = some (.int k z.1) ∧ W.cell? ⟨g, i * 2 + 1, none⟩ = some (.int k z.2) := by
  obtain ⟨ps, ⟨g', t', cs, fuel, p, q, hg', ht', hvar, hd, _, _⟩, _⟩ := h
  obtain rfl := Option.some.inj (hg.symm.trans hg')
  obtain rfl := Option.some.inj (hty.symm.trans ht')
  obtain ⟨a, b⟩ := cells_of_pairs ht he hfs h0 h1 k0 k1 c0 c1 hce hd i z hz
  have r0 := World.var?_cell hg hvar (i * 2)
  have r1 := World.var?_cell hg hvar (i * 2 + 1)
  constructor
  · rw [r0]; simpa using a
  · rw [r1]; simpa using b
end Go.Proofs.YthhgmnocigekaaaGreatDoor
end
section
namespace Go.Proofs.YthhgmnocigekaaaGreatDoor
set_option linter.all false
open Go.ChangeShapes Go.WideShapes Go.ChangeAt Go.RowKit Go.Lib
theorem trod_pair {H : Type} {enc : TypeId × Value → H} {P : Program} {w : World} {base : Nat} {sp : Nat → Bool} {held : Bool} {fuel : Nat} {e : TypeId} {k : IntKind} {cs : List Value} {x y : Int} {p : List MemPlace} {fs : Array Field} {f0 f1 : Field}
    (he : P.underlying e = some (.struct fs)) (hfs : fs.toList = [f0, f1]) (h0 : f0.offset = 0) (h1 : f1.offset = 1) (k0 : P.underlying f0.type = some (.int k)) (k1 : P.underlying f1.type = some (.int k))
    (c0 : P.cellsOf f0.type = 1) (c1 : P.cellsOf f1.type = 1) (h : DataW.trod enc P w base sp held fuel e cs = some (.agg [.lit (.int k x), .lit (.int k y)], p)) : cs[0]? = some (.int k x) ∧ cs[1]? = some (.int k y) := by
  cases fuel with
  | zero => simp [DataW.trod] at h
  | succ fuel =>
    simp only [DataW.trod, he] at h
    split at h
    · obtain ⟨ys, hy, hyb⟩ := Option.map_eq_some_iff.1 h
      rw [hfs] at hy
      simp only [List.mapM_cons, List.mapM_nil, Option.bind_eq_bind, Option.bind_eq_some_iff, Option.pure_def, Option.some.injEq] at hy
      obtain ⟨y0, e0, l1, ⟨y1, e1, l2, rfl, rfl⟩, rfl⟩ := hy
      have hb1 := congrArg Prod.fst hyb
      simp only [List.map_cons, List.map_nil] at hb1
      simp only [DataW.agg.injEq, List.cons.injEq, and_true] at hb1
      obtain ⟨q0, q1⟩ := hb1
      obtain ⟨d0, p0⟩ := y0
      obtain ⟨d1, p1⟩ := y1
      simp only at q0 q1
      subst q0 q1
      have g0 := trod_lit k0 e0
      have g1 := trod_lit k1 e1
      rw [h0, c0] at g0
      rw [h1, c1] at g1
      have a0 := congrArg (·[0]?) g0
      have a1 := congrArg (·[0]?) g1
      simp [List.getElem?_take, List.getElem?_drop] at a0 a1
      exact ⟨by simpa using a0, by simpa using a1⟩
    · cases h
def quadD {H : Type} (k : IntKind) (z : Int × Int × Int × Int) : DataW H := .agg [.agg [.lit (.int k z.1), .lit (.int k z.2.1)], .agg [.lit (.int k z.2.2.1), .lit (.int k z.2.2.2)]]
theorem trod_quad {H : Type} {enc : TypeId × Value → H} {P : Program} {w : World} {base : Nat} {sp : Nat → Bool} {held : Bool} {fuel : Nat} {t e : TypeId} {k : IntKind} {cs : List Value} {z : Int × Int × Int × Int} {p : List MemPlace} {gs : Array Field} {g0 g1 : Field} {fs : Array Field} {f0 f1 : Field}
    (ht : P.underlying t = some (.struct gs)) (hgs : gs.toList = [g0, g1]) (o0 : g0.offset = 0) (o1 : g1.offset = 2) (t0 : g0.type = e) (t1 : g1.type = e) (ce : P.cellsOf e = 2)
    (he : P.underlying e = some (.struct fs)) (hfs : fs.toList = [f0, f1]) (h0 : f0.offset = 0) (h1 : f1.offset = 1) (k0 : P.underlying f0.type = some (.int k)) (k1 : P.underlying f1.type = some (.int k))
    (c0 : P.cellsOf f0.type = 1) (c1 : P.cellsOf f1.type = 1) (h : DataW.trod enc P w base sp held fuel t cs = some (quadD k z, p)) :
    cs[0]? = some (.int k z.1) ∧ cs[1]? = some (.int k z.2.1) ∧ cs[2]? = some (.int k z.2.2.1) ∧ cs[3]? = some (.int k z.2.2.2) := by
  unfold quadD at h
  cases fuel with
  | zero => simp [DataW.trod] at h
  | succ fuel =>
    simp only [DataW.trod, ht] at h
    split at h
    · obtain ⟨ys, hy, hyb⟩ := Option.map_eq_some_iff.1 h
      rw [hgs] at hy
      simp only [List.mapM_cons, List.mapM_nil, Option.bind_eq_bind, Option.bind_eq_some_iff, Option.pure_def, Option.some.injEq] at hy
      obtain ⟨y0, e0, l1, ⟨y1, e1, l2, rfl, rfl⟩, rfl⟩ := hy
      have hb1 := congrArg Prod.fst hyb
      simp only [List.map_cons, List.map_nil] at hb1
      simp only [DataW.agg.injEq, List.cons.injEq, and_true] at hb1
      obtain ⟨q0, q1⟩ := hb1
      obtain ⟨d0, p0⟩ := y0
      obtain ⟨d1, p1⟩ := y1
      simp only at q0 q1
      subst q0 q1
      rw [t0] at e0
      rw [t1] at e1
      have a := trod_pair he hfs h0 h1 k0 k1 c0 c1 e0
      have b := trod_pair he hfs h0 h1 k0 k1 c0 c1 e1
      rw [o0, ce] at a
      rw [o1, ce] at b
      simp [List.getElem?_take, List.getElem?_drop] at a b
      exact ⟨by simpa using a.1, by simpa using a.2, by simpa using b.1, by simpa using b.2⟩
    · cases h
theorem cells_of_quads {H : Type} {enc : TypeId × Value → H} {P : Program} {w : World} {base : Nat} {sp : Nat → Bool} {held : Bool} {fuel : Nat} {u t e : TypeId} {n : Nat} {k : IntKind} {cs : List Value} {zs : List (Int × Int × Int × Int)} {p : List MemPlace} {gs : Array Field} {g0 g1 : Field} {fs : Array Field} {f0 f1 : Field}
    (hu : P.underlying u = some (.array n t)) (ht : P.underlying t = some (.struct gs)) (hgs : gs.toList = [g0, g1]) (o0 : g0.offset = 0) (o1 : g1.offset = 2) (t0 : g0.type = e) (t1 : g1.type = e) (ce : P.cellsOf e = 2) (ct : P.cellsOf t = 4)
    (he : P.underlying e = some (.struct fs)) (hfs : fs.toList = [f0, f1]) (h0 : f0.offset = 0) (h1 : f1.offset = 1) (k0 : P.underlying f0.type = some (.int k)) (k1 : P.underlying f1.type = some (.int k))
    (c0 : P.cellsOf f0.type = 1) (c1 : P.cellsOf f1.type = 1)
    (h : DataW.trod enc P w base sp held fuel u cs = some (.agg (zs.map (quadD k)), p)) :
    ∀ (i : Nat) (z : Int × Int × Int × Int), zs[i]? = some z → cs[i * 4]? = some (.int k z.1) ∧ cs[i * 4 + 1]? = some (.int k z.2.1) ∧ cs[i * 4 + 2]? = some (.int k z.2.2.1) ∧ cs[i * 4 + 3]? = some (.int k z.2.2.2) := by
  cases fuel with
  | zero => simp [DataW.trod] at h
  | succ fuel =>
    simp only [DataW.trod, hu, ct] at h
    split at h
    · rename_i hl
      obtain ⟨xs, hm, hx⟩ := Option.map_eq_some_iff.1 h
      have hxs : xs.map (·.1) = zs.map (quadD (H := H) k) := by
        have := congrArg Prod.fst hx
        simpa using this
      have hxl : xs.length = n := by simpa using mapM_length hm
      have hzl : zs.length = n := by
        have := congrArg List.length hxs
        simp at this
        omega
      intro i z hz
      have hi : i < n := by
        have := (List.getElem?_eq_some_iff.1 hz).1
        omega
      obtain ⟨b, hb, hf⟩ := mapM_at hm i i (by simp [hi])
      have h2 : (xs.map (·.1))[i]? = some b.1 := by simp [hb]
      rw [hxs] at h2
      simp only [List.getElem?_map, hz, Option.map_some, Option.some.injEq] at h2
      obtain ⟨bd, bp⟩ := b
      simp only at h2
      subst h2
      have a := trod_quad ht hgs o0 o1 t0 t1 ce he hfs h0 h1 k0 k1 c0 c1 hf
      simp [List.getElem?_take, List.getElem?_drop] at a
      exact ⟨by simpa using a.1, by simpa using a.2.1, by simpa using a.2.2.1, by simpa using a.2.2.2⟩
    · cases h
theorem quads_of_laid {P : Program} {W : World} {name : String} {k : IntKind} {zs : List (Int × Int × Int × Int)} {g : Nat} {u t e : TypeId} {n : Nat} {gs : Array Field} {g0 g1 : Field} {fs : Array Field} {f0 f1 : Field}
    (hg : P.globalNamed name = some g) (hty : (P.globals[g]?).map (·.type) = some u)
    (hu : P.underlying u = some (.array n t)) (ht : P.underlying t = some (.struct gs)) (hgs : gs.toList = [g0, g1]) (o0 : g0.offset = 0) (o1 : g1.offset = 2) (t0 : g0.type = e) (t1 : g1.type = e) (ce : P.cellsOf e = 2) (ct : P.cellsOf t = 4)
    (he : P.underlying e = some (.struct fs)) (hfs : fs.toList = [f0, f1]) (h0 : f0.offset = 0) (h1 : f1.offset = 1) (k0 : P.underlying f0.type = some (.int k)) (k1 : P.underlying f1.type = some (.int k))
    (c0 : P.cellsOf f0.type = 1) (c1 : P.cellsOf f1.type = 1)
    (h : laidMet P [(name, .agg (zs.map (quadD k)))] W) (i : Nat) (z : Int × Int × Int × Int) (hz : zs[i]? = some z) :
    W.cell? ⟨g, i * 4, none⟩ = some (.int k z.1) ∧ W.cell? ⟨g, i * 4 + 1, none⟩ = some (.int k z.2.1) ∧ W.cell? ⟨g, i * 4 + 2, none⟩ = some (.int k z.2.2.1) ∧ W.cell? ⟨g, i * 4 + 3, none⟩ = some (.int k z.2.2.2) := by
  obtain ⟨ps, ⟨g', t', cs, fuel, p, q, hg', ht', hvar, hd, _, _⟩, _⟩ := h
  obtain rfl := Option.some.inj (hg.symm.trans hg')
  obtain rfl := Option.some.inj (hty.symm.trans ht')
  obtain ⟨a, b, c, d⟩ := cells_of_quads hu ht hgs o0 o1 t0 t1 ce ct he hfs h0 h1 k0 k1 c0 c1 hd i z hz
  have r0 := World.var?_cell hg hvar (i * 4)
  have r1 := World.var?_cell hg hvar (i * 4 + 1)
  have r2 := World.var?_cell hg hvar (i * 4 + 2)
  have r3 := World.var?_cell hg hvar (i * 4 + 3)
  exact ⟨by rw [r0]; simpa using a, by rw [r1]; simpa using b, by rw [r2]; simpa using c, by rw [r3]; simpa using d⟩
end Go.Proofs.YthhgmnocigekaaaGreatDoor
end
section
namespace Go.Proofs.YthhgmnocigekaaaGreatDoor
set_option linter.all false
open Go.RowKit
namespace Mini
variable {P : Program} {s s1 : St} {R W : Nat}

def rhoX (P : Program) (w : World) (ext : Nat → Option Loc) : Ren := fun b =>
  if b < P.globals.size then some ⟨b, 0, true, 0, match w.heap[b]? with | some (.cells cs _ _) => cs.size | _ => 0⟩ else ext b
theorem calls_ofX {f : FuncId} {args args' : Array Value} {v : Value} {w : World} {ext : Nat → Option Loc} (h : SndF P f args s v s1 R W) (hg : ground 8 v = true) (hn : P.globals.size ≤ s.next)
    (hh : ∀ b, b < P.globals.size → s.get b = .hole ∨ ∃ c e, s.get b = .cells c e true 0 true ∧ c ≠ [] ∧ c.all (ground 8) = true ∧ ∀ (i : Nat) (v : Value), c[i]? = some v → w.cell? ⟨b, i, none⟩ = some v)
    (hx : ∀ b, P.globals.size ≤ b → b < s.next → s.get b ≠ .hole → ∃ L o', ext b = some L ∧ (roO (s.get b) = false → P.globals.size ≤ L.blk) ∧ w.heap[L.blk]? = some o' ∧ OR (rhoX P w ext) L (s.get b) o')
    (hb : ∀ b, s.next ≤ b → ext b = none) (hi : ∀ b b' L L', P.globals.size ≤ b → P.globals.size ≤ b' → s.get b ≠ .hole → s.get b' ≠ .hole → (roO (s.get b) && roO (s.get b')) = false → ext b = some L → ext b' = some L' → L.blk = L'.blk → b = b')
    (ha : VRs (rhoX P w ext) args args') (hw : ∀ b, b < s.next → W.testBit b = false) : Calls P f args' w fun e w' => e = .returned v ∧ Below w.heap.size w w' := by
  have hG : Glob P (rhoX P w ext) := fun g hg => ⟨_, if_pos hg, rfl, rfl⟩
  have hlt : ∀ b, s.get b ≠ .hole → b < s.next := fun b hb => St.lt_of_live hb
  have hblk : ∀ b L, s.get b ≠ .hole → rhoX P w ext b = some L → (b < P.globals.size ∧ L.blk = b) ∨ (P.globals.size ≤ b ∧ ext b = some L ∧ (roO (s.get b) = false → P.globals.size ≤ L.blk)) := fun b L hb hL => by
    unfold rhoX at hL
    split at hL
    · rename_i c; cases hL; exact .inl ⟨c, rfl⟩
    · rename_i c
      obtain ⟨L2, o2, e1, e2, _⟩ := hx b (by omega) (hlt b hb) hb
      rw [hL] at e1
      cases e1
      exact .inr ⟨by omega, hL, e2⟩
  have hp : Pre P none s s1 R W none (rhoX P w ext) s.get w := by
    refine ⟨hG, trivial, fun _ _ _ => rfl, fun b h1 h2 => ⟨?_, St.get_beyond s b h1⟩, fun b hb => ?_, fun b b' L L' h1 h2 hq e1 e2 he => ?_⟩
    · show (if b < P.globals.size then _ else ext b) = none
      rw [if_neg (by omega)]
      exact hb b h1
    · by_cases c : b < P.globals.size
      · rcases hh b c with k | ⟨cs0, e, k1, k2, k3, k4⟩
        · exact absurd k hb
        · obtain ⟨cs, e', fr, q1, q2, q3⟩ := cells_of k2 k4
          refine ⟨_, .cells cs e' fr, if_pos c, q1, ?_⟩
          rw [k1]
          refine ⟨rfl, rfl, fun h => (by cases h), ?_, ?_, fun i u hi => ⟨u, by simpa using q3 i u hi, ground_refl 8 (List.all_eq_true.1 k3 u (List.mem_of_getElem? hi))⟩, fun h => (by cases h), fun h => (by cases h)⟩
          · simp only [q1]
          · simp only [q1, Nat.zero_add]; exact q2
      · obtain ⟨L, o', e1, _, e3, e4⟩ := hx b (by omega) (hlt b hb) hb
        exact ⟨L, o', by show (if b < P.globals.size then _ else ext b) = _; rw [if_neg c]; exact e1, e3, e4⟩
    · have htab : ∀ b, b < P.globals.size → s.get b ≠ .hole → roO (s.get b) = true := fun b hb hn => by
        rcases hh b hb with k | ⟨c, e, k1, _⟩
        · exact absurd k hn
        · rw [k1]; rfl
      rcases hblk b L h1 e1 with ⟨a1, a2⟩ | ⟨a1, a2, a3⟩ <;> rcases hblk b' L' h2 e2 with ⟨c1, c2⟩ | ⟨c1, c2, c3⟩
      · omega
      · rw [htab b a1 h1, Bool.true_and] at hq
        have := c3 hq
        omega
      · rw [htab b' c1 h2, Bool.and_true] at hq
        have := a3 hq
        omega
      · exact hi b b' L L' a1 c1 h1 h2 hq a2 c2 he
  refine callsIn_wide.1 (h.2 0 (rhoX P w ext) s.get args' w _ hp ha fun ρ1 v' w1 p1 _ hv => ?_)
  have hv' := ground_eq 8 hg hv
  subst hv'
  refine ⟨rfl, p1.os, p1.tape, p1.output, p1.size, fun k hk => p1.frame k hk fun b L hb hlt hL => ?_⟩
  have := hw b hlt
  rw [hb] at this
  cases this
theorem or_read {ρ : Ren} {n k : Nat} {g : Nat → Nat → Value} {e : TypeId} {cs : Array Value} {e' : TypeId} {fr : Nat × Nat} {blk base : Nat} (hl : base + n * k ≤ cs.size) (hg : ∀ i j, i < n → j < k → ground 8 (g i j) = true)
    (h : ∀ i j, i < n → j < k → cs[base + (i * k + j)]? = some (g i j)) : OR ρ ⟨blk, base, true, 0, cs.size⟩ (.rows n k g e true 0 true) (.cells cs e' fr) := by
  refine ⟨rfl, rfl, fun h => (by cases h), rfl, by rw [rowsL_len]; exact hl, fun i v hi => ?_, fun h => (by cases h), fun h => (by cases h)⟩
  have hlt : i < n * k := by
    have := (List.getElem?_eq_some_iff.1 hi).1
    rwa [rowsL_len] at this
  rw [rowsL_at hlt] at hi
  cases hi
  have hk : 0 < k := by
    rcases Nat.eq_zero_or_pos k with z | z
    · subst z; simp at hlt
    · exact z
  have h1 := (Nat.div_lt_iff_lt_mul hk).2 hlt
  have h2 := Nat.mod_lt i hk
  have h3 := h _ _ h1 h2
  rw [Nat.mul_comm, Nat.div_add_mod] at h3
  exact ⟨_, h3, ground_refl 8 (hg _ _ h1 h2)⟩
end Mini
end Go.Proofs.YthhgmnocigekaaaGreatDoor
end
section
namespace Go.Proofs.YthhgmnocigekaaaGreatDoor
set_option linter.all false
open Go.ChangeShapes Go.WideShapes Go.ChangeAt Go.RowKit Go.Lib Go.Deep
namespace Mini
def RowsAt (W : World) (ks : List IntKind) (v : Value) : Prop := v = .slice none 0 0 ∨ ∃ (b off len cap : Nat) (g : Nat → Nat → Int), v = .slice (some ⟨b, off, none⟩) len cap ∧ len ≤ cap ∧ cap ≤ maxLen ∧
  ∀ i j, i < len → j < ks.length → W.cell? ⟨b, off + (i * ks.length + j), none⟩ = some (.int (ks.getD j .i64) (g i j)) ∧ (Lit.int (ks.getD j .i64) (g i j)).wf = true
theorem wfs_at : ∀ {ks : List IntKind} {ns : List Int} {j : Nat}, ns.length = ks.length → wfs ks ns = true → j < ks.length → (Lit.int (ks.getD j .i64) (ns.getD j 0)).wf = true
  | [], _, j, _, _, h => absurd h (by simp)
  | k :: ks, [], j, h, _, _ => by cases h
  | k :: ks, n :: ns, 0, _, h, _ => by simp only [wfs, Bool.and_eq_true] at h; exact h.1
  | k :: ks, n :: ns, j + 1, hl, h, hj => by
    simp only [wfs, Bool.and_eq_true] at h
    have := wfs_at (ks := ks) (ns := ns) (j := j) (by simpa using hl) h.2 (by simpa using hj)
    simpa using this
theorem backI_at : ∀ {ks : List IntKind} {ns : List Int} {j : Nat}, ns.length = ks.length → j < ks.length → (backI ks ns)[j]? = some (.int (ks.getD j .i64) (ns.getD j 0))
  | [], _, j, _, h => absurd h (by simp)
  | k :: ks, [], j, h, _ => by cases h
  | k :: ks, n :: ns, 0, _, _ => rfl
  | k :: ks, n :: ns, j + 1, hl, hj => by
    have := backI_at (ks := ks) (ns := ns) (j := j) (by simpa using hl) (by simpa using hj)
    simpa [backI] using this
theorem rows_of {H : Type} {enc : TypeId × Value → H} {P : Program} {W : World} {base m : Nat} {t e : TypeId} {v : Value} {d : DataW H} {p : List MemPlace} {ks : List IntKind} (ht : P.underlying t = some (.slice e)) (hk : kindsT P m e = some ks) (hc : P.cellsOf e = ks.length)
    (hv : Value.okWide P W .any base t v) (h : DataW.Trod enc P W 0 (fun _ => true) true t v d p) : RowsAt W ks v := by
  obtain ⟨a, len, cap, rfl⟩ := okWide_slice ht hv
  obtain ⟨fuel, hf⟩ := h
  rcases open_slice ht hf with ⟨hcs, _⟩ | ⟨a', len', cap', m', n, D, Pl, hcs, _, hl, hmx, hm, _, hx⟩
  · left
    simpa [Value.cells] using hcs
  · right
    have hcs : Value.slice a len cap = .slice (some a') len' cap' := by simpa [Value.cells] using hcs
    cases hcs
    simp only [Value.okWide, ht, Cell.okWide, Cell.ok, World.has] at hv
    obtain ⟨b, off, spot⟩ := a'
    have hs : spot = none := hv.2.2.2.1
    subst hs
    have hm' : len ≤ m' := by rw [hm]; exact hl
    have z0 : ∀ i, ∃ ns : List Int, i < len → ns.length = ks.length ∧ wfs ks ns = true ∧ ∀ j, j < ks.length → W.cell? ⟨b, off + (i * ks.length + j), none⟩ = (backI ks ns)[j]? := fun i => by
      by_cases hi : i < len
      · obtain ⟨cs', q1, q2⟩ := hx i (by omega)
        rw [hc] at q1
        obtain ⟨_, hlen, hcell⟩ := World.cells?_some q1
        obtain ⟨_, ns, l1, c1, f1, _⟩ := open_kinds m e ks hk n cs' (D i) (Pl i) W 0 (fun _ => true) true q2
        refine ⟨ns, fun _ => ⟨l1, f1, fun j hj => ?_⟩⟩
        have h2 := hcell j hj
        rw [Go.WideShapes.add_plain, Go.WideShapes.add_plain] at h2
        rw [← c1, ← h2]
        congr 2
        omega
      · exact ⟨[], fun h => absurd h hi⟩
    refine ⟨b, off, len, cap, fun i j => (Classical.choose (z0 i)).getD j 0, rfl, hl, hmx, fun i j hi hj => ?_⟩
    obtain ⟨e1, e2, e3⟩ := Classical.choose_spec (z0 i) hi
    exact ⟨(e3 j hj).trans (backI_at e1 hj), wfs_at e1 e2 hj⟩
def extAt (N b off sz : Nat) : Nat → Option Mini.Loc := fun x => if x = N then some ⟨b, off, true, 0, sz⟩ else none
theorem cell_obj {W : World} {b off : Nat} {v : Value} (h : W.cell? ⟨b, off, none⟩ = some v) : ∃ cs e fr, W.heap[b]? = some (.cells cs e fr) ∧ cs[off]? = some v := by
  unfold World.cell? at h
  split at h
  · rename_i c e fr hc
    exact ⟨c, e, fr, hc, by simpa using h⟩
  · cases h
theorem vrs_one {ρ : Ren} {pre post : List Value} {u u' : Value} (h1 : pre.all (ground 8) = true) (h2 : post.all (ground 8) = true) (hu : VR ρ u u') : VRs ρ (pre ++ u :: post).toArray (pre ++ u' :: post).toArray := by
  refine ⟨by simp, fun i x x' e1 e2 => ?_⟩
  simp only [List.getElem?_toArray] at e1 e2
  rw [List.all_eq_true] at h1 h2
  rcases Nat.lt_trichotomy i pre.length with c | c | c
  · rw [List.getElem?_append_left c] at e1 e2
    rw [e1] at e2
    cases e2
    exact ground_refl 8 (h1 _ (List.mem_of_getElem? e1))
  · rw [List.getElem?_append_right (by omega)] at e1 e2
    rw [c, Nat.sub_self] at e1 e2
    cases e1
    cases e2
    exact hu
  · rw [List.getElem?_append_right (by omega)] at e1 e2
    obtain ⟨q, hq⟩ : ∃ q, i - pre.length = q + 1 := ⟨i - pre.length - 1, by omega⟩
    rw [hq] at e1 e2
    simp only [List.getElem?_cons_succ] at e1 e2
    rw [e1] at e2
    cases e2
    exact ground_refl 8 (h2 _ (List.mem_of_getElem? e1))
theorem calls_row1 {P : Program} {f : FuncId} {S0 : St} {W : World} {ks : List IntKind} {pre post : List Value} {v0 : Value} {G : (Nat → Nat → Int) → Nat → Nat → Value} (hh : Holds P S0 W) (hn : S0.next = P.globals.size) (hw0 : ∀ b, b < P.globals.size → b < S0.next)
    (hp1 : pre.all (ground 8) = true) (hp2 : post.all (ground 8) = true) (hG : ∀ g i j, j < ks.length → G g i j = .int (ks.getD j .i64) (g i j)) (hk : 0 < ks.length) (hv : RowsAt W ks v0)
    (hnil : ∃ s1 R, SndF P f (pre ++ .slice none 0 0 :: post).toArray S0 (.bool true) s1 R 0)
    (hemp : ∀ c, ∃ s1 R, SndF P f (pre ++ .slice (some ⟨S0.next, 0, none⟩) 0 c :: post).toArray (S0.push .hole) (.bool true) s1 R 0)
    (hrow : ∀ n c g, 0 < n → n ≤ c → c ≤ maxLen → (∀ i j, i < n → j < ks.length → (Lit.int (ks.getD j .i64) (g i j)).wf = true) → ∃ s1 R, SndF P f (pre ++ .slice (some ⟨S0.next, 0, none⟩) n c :: post).toArray (S0.push (.rows n ks.length (G g) 0 true 0 true)) (.bool true) s1 R 0) :
    Calls P f (pre ++ v0 :: post).toArray W fun e W' => e = .returned (.bool true) ∧ Below W.heap.size W W' := by
  have hold : ∀ (o : MObj) b, b < P.globals.size → (S0.push o).get b = S0.get b := fun o b hb => St.get_push_old S0 o b (hw0 b hb)
  have hnx : ∀ o : MObj, (S0.push o).next = S0.next + 1 := fun o => rfl
  have hnew : ∀ o : MObj, (S0.push o).get S0.next = o := fun o => St.get_push_new S0 o
  rcases hv with rfl | ⟨b, off, len, cap, g, rfl, hl, hmx, hc⟩
  · obtain ⟨s1, R, h⟩ := hnil
    exact calls_of h rfl (by simp only [List.all_append, List.all_cons, hp1, hp2, ground, Bool.and_self]) (fun b _ => by simp) hh
  · rcases Nat.eq_zero_or_pos len with z | z
    · subst z
      obtain ⟨s1, R, h⟩ := hemp cap
      refine calls_ofX (ext := extAt S0.next b off 0) h rfl (by rw [hnx]; omega) (fun x hx => by rw [hold _ x hx]; exact hh.holds x hx) (fun x h1 h2 h3 => ?_) (fun x hx => if_neg (by rw [hnx] at hx; omega)) (fun x y L L' h1 h2 h3 h4 _ h5 h6 _ => ?_) (vrs_one hp1 hp2 ?_) (fun x _ => by simp)
      · rw [hnx] at h2
        have : x = S0.next := by omega
        subst this
        exact absurd (hnew _) h3
      · unfold extAt at h5 h6
        split at h5
        · split at h6
          · omega
          · cases h6
        · cases h5
      · exact .slice S0.next 0 0 cap cap ⟨b, off, true, 0, 0⟩ (by unfold rhoX; rw [if_neg (by omega)]; exact if_pos rfl) (.inl rfl)
    · obtain ⟨s1, R, h⟩ := hrow len cap g z hl hmx (fun i j hi hj => (hc i j hi hj).2)
      have c0 := (hc 0 0 z hk).1
      obtain ⟨cs, e', fr, ho, _⟩ := cell_obj c0
      have hcs : ∀ i j, i < len → j < ks.length → cs[off + (i * ks.length + j)]? = some (G g i j) := fun i j hi hj => by
        obtain ⟨c1, e1, f1, o1, r1⟩ := cell_obj (hc i j hi hj).1
        rw [ho] at o1
        cases o1
        rw [hG g i j hj]
        exact r1
      have hsize : off + len * ks.length ≤ cs.size := by
        have := (Array.getElem?_eq_some_iff.1 (hcs (len - 1) (ks.length - 1) (by omega) (by omega))).1
        have e1 : (len - 1) * ks.length + ks.length = len * ks.length := by
          obtain ⟨q, rfl⟩ : ∃ q, len = q + 1 := ⟨len - 1, by omega⟩
          simp [Nat.succ_mul]
        omega
      refine calls_ofX (ext := extAt S0.next b off cs.size) h rfl (by rw [hnx]; omega) (fun x hx => by rw [hold _ x hx]; exact hh.holds x hx) (fun x h1 h2 h3 => ?_) (fun x hx => if_neg (by rw [hnx] at hx; omega)) (fun x y L L' h1 h2 h3 h4 _ h5 h6 _ => ?_) (vrs_one hp1 hp2 ?_) (fun x _ => by simp)
      · rw [hnx] at h2
        have : x = S0.next := by omega
        subst this
        have hr := hnew (.rows len ks.length (G g) 0 true 0 true)
        refine ⟨⟨b, off, true, 0, cs.size⟩, .cells cs e' fr, if_pos rfl, fun h => ?_, ho, ?_⟩
        · rw [hr] at h; cases h
        · rw [hr]
          exact or_read hsize (fun i j _ hj => by rw [hG g i j hj]; rfl) fun i j hi hj => hcs i j hi hj
      · unfold extAt at h5 h6
        split at h5
        · split at h6
          · omega
          · cases h6
        · cases h5
      · exact .slice S0.next 0 len cap cap ⟨b, off, true, 0, cs.size⟩ (by unfold rhoX; rw [if_neg (by omega)]; exact if_pos rfl) (.inl rfl)
theorem calls_row1o {P : Program} {f : FuncId} {S0 : St} {W : World} {ks : List IntKind} {pre post : List Value} {v0 : Value} {G : (Nat → Nat → Int) → Nat → Nat → Value} (hh : Holds P S0 W) (hn : S0.next = P.globals.size) (hw0 : ∀ b, b < P.globals.size → b < S0.next)
    (hp1 : pre.all (ground 8) = true) (hp2 : post.all (ground 8) = true) (hG : ∀ g i j, j < ks.length → G g i j = .int (ks.getD j .i64) (g i j)) (hk : 0 < ks.length) (hv : RowsAt W ks v0)
    (hnil : ∃ s1 R, SndF P f (pre ++ .slice none 0 0 :: post).toArray S0 (.bool true) s1 R 0)
    (hemp : ∀ c, ∃ s1 R, SndF P f (pre ++ .slice (some ⟨S0.next, 0, none⟩) 0 c :: post).toArray (S0.push .hole) (.bool true) s1 R 0)
    (hrow : ∀ n c g, 0 < n → n ≤ c → c ≤ maxLen → (∀ i j, i < n → j < ks.length → (Lit.int (ks.getD j .i64) (g i j)).wf = true) → ∃ o s1 R, (o = .rows n ks.length (G g) 0 true 0 true ∨ o = .cells (rowsL n ks.length (G g)) 0 true 0 true) ∧ SndF P f (pre ++ .slice (some ⟨S0.next, 0, none⟩) n c :: post).toArray (S0.push o) (.bool true) s1 R 0) :
    Calls P f (pre ++ v0 :: post).toArray W fun e W' => e = .returned (.bool true) ∧ Below W.heap.size W W' := by
  have hold : ∀ (o : MObj) b, b < P.globals.size → (S0.push o).get b = S0.get b := fun o b hb => St.get_push_old S0 o b (hw0 b hb)
  have hnx : ∀ o : MObj, (S0.push o).next = S0.next + 1 := fun o => rfl
  have hnew : ∀ o : MObj, (S0.push o).get S0.next = o := fun o => St.get_push_new S0 o
  rcases hv with rfl | ⟨b, off, len, cap, g, rfl, hl, hmx, hc⟩
  · obtain ⟨s1, R, h⟩ := hnil
    exact calls_of h rfl (by simp only [List.all_append, List.all_cons, hp1, hp2, ground, Bool.and_self]) (fun b _ => by simp) hh
  · rcases Nat.eq_zero_or_pos len with z | z
    · subst z
      obtain ⟨s1, R, h⟩ := hemp cap
      refine calls_ofX (ext := extAt S0.next b off 0) h rfl (by rw [hnx]; omega) (fun x hx => by rw [hold _ x hx]; exact hh.holds x hx) (fun x h1 h2 h3 => ?_) (fun x hx => if_neg (by rw [hnx] at hx; omega)) (fun x y L L' h1 h2 h3 h4 _ h5 h6 _ => ?_) (vrs_one hp1 hp2 ?_) (fun x _ => by simp)
      · rw [hnx] at h2
        have : x = S0.next := by omega
        subst this
        exact absurd (hnew _) h3
      · unfold extAt at h5 h6
        split at h5
        · split at h6
          · omega
          · cases h6
        · cases h5
      · exact .slice S0.next 0 0 cap cap ⟨b, off, true, 0, 0⟩ (by unfold rhoX; rw [if_neg (by omega)]; exact if_pos rfl) (.inl rfl)
    · obtain ⟨o, s1, R, hobj, h⟩ := hrow len cap g z hl hmx (fun i j hi hj => (hc i j hi hj).2)
      have c0 := (hc 0 0 z hk).1
      obtain ⟨cs, e', fr, ho, _⟩ := cell_obj c0
      have hcs : ∀ i j, i < len → j < ks.length → cs[off + (i * ks.length + j)]? = some (G g i j) := fun i j hi hj => by
        obtain ⟨c1, e1, f1, o1, r1⟩ := cell_obj (hc i j hi hj).1
        rw [ho] at o1
        cases o1
        rw [hG g i j hj]
        exact r1
      have hsize : off + len * ks.length ≤ cs.size := by
        have := (Array.getElem?_eq_some_iff.1 (hcs (len - 1) (ks.length - 1) (by omega) (by omega))).1
        have e1 : (len - 1) * ks.length + ks.length = len * ks.length := by
          obtain ⟨q, rfl⟩ : ∃ q, len = q + 1 := ⟨len - 1, by omega⟩
          simp [Nat.succ_mul]
        omega
      refine calls_ofX (ext := extAt S0.next b off cs.size) h rfl (by rw [hnx]; omega) (fun x hx => by rw [hold _ x hx]; exact hh.holds x hx) (fun x h1 h2 h3 => ?_) (fun x hx => if_neg (by rw [hnx] at hx; omega)) (fun x y L L' h1 h2 h3 h4 _ h5 h6 _ => ?_) (vrs_one hp1 hp2 ?_) (fun x _ => by simp)
      · rw [hnx] at h2
        have : x = S0.next := by omega
        subst this
        have hr := hnew o
        have hro := or_read (ρ := rhoX P W (extAt S0.next b off cs.size)) (e := 0) (blk := b) (e' := e') (fr := fr) hsize (fun i j _ hj => by rw [hG g i j hj]; rfl) fun i j hi hj => hcs i j hi hj
        refine ⟨⟨b, off, true, 0, cs.size⟩, .cells cs e' fr, if_pos rfl, fun h => ?_, ho, ?_⟩
        · rw [hr] at h
          rcases hobj with rfl | rfl <;> cases h
        · rw [hr]
          rcases hobj with rfl | rfl
          · exact hro
          · exact Mini.or_congr (show nrm (.rows len ks.length (G g) 0 true 0 true) = nrm (.cells (rowsL len ks.length (G g)) 0 true 0 true) from rfl) hro
      · unfold extAt at h5 h6
        split at h5
        · split at h6
          · omega
          · cases h6
        · cases h5
      · exact .slice S0.next 0 len cap cap ⟨b, off, true, 0, cs.size⟩ (by unfold rhoX; rw [if_neg (by omega)]; exact if_pos rfl) (.inl rfl)
end Mini
end Go.Proofs.YthhgmnocigekaaaGreatDoor
end
section
set_option linter.all false
set_option maxRecDepth 1000000
open Go.RowKit
namespace Go.Proofs.YthhgmnocigekaaaGreatDoor
open Mini
theorem awn : aw5S0.next = Tryz.prog.globals.size := by kernel_rfl
theorem ll_calls {W : World} (hh : Holds Tryz.prog aw5S0 W) (v0 : Value) (lf ll lq pw : Int) (hv : RowsAt W [.i64] v0) :
    Calls Tryz.prog 3 #[.agg #[.int .i64 lf, .int .i64 ll, .int .i64 lq], .int .i64 pw, v0] W fun e W' => e = .returned (.bool true) ∧ Below W.heap.size W W' := by
  refine calls_row1 (pre := [.agg #[.int .i64 lf, .int .i64 ll, .int .i64 lq], .int .i64 pw]) (post := []) (G := fun g i j => .int .i64 (g i j)) hh awn (fun b hb => by rw [awn]; exact hb) rfl rfl (fun g i j hj => ?_) (by decide) hv ?_ (fun c => ?_) (fun n c g h0 _ _ _ => ?_)
  · match j, hj with
    | 0, _ => rfl
  · exact ll_nil lf ll lq pw
  · exact ll_emp lf ll lq pw c
  · exact ll_true lf ll lq pw n c g h0
end Go.Proofs.YthhgmnocigekaaaGreatDoor
end
