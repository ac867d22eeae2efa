/-
  The contract of bipole.phasor.spectrum.
  The contract of bipole.phasor.checkPhase.
  Contracts: what is answered.
  Small numbers in a frame: linear forms.
  What Framed makes of small numbers: no error, the turned numbers; there and back.
  Contracts: what is answered.
  Two rows of numbers of the ring compared.
  Framed over a row of a known number: the new row told cell by cell.
  Framed over a row: a new row, or the first error.
  The contract of bipole.phasor.CheckEisen.
  The contract of bipole.phasor.checkTurn.
  The contract of bipole.check.Range.
  The contract of bipole.phasor.limited.
  The contract of bipole.phasor.turn.
  check.Each over a row of numbers of the ring: the first error.
  The first loop of the law PhasorTurns where the tables are known.
  The whole.
-/
import Derived.Test.YtjpffbekhfkibaaGreatDoorGTU4
import Derived.Test.YtjpffbekhfkibaaGreatDoorGTU5
import Derived.Test.YtjpffbekhfkibaaGreatDoorGTU6
import Derived.Test.YtjpffbekhfkibaaGreatDoorGTU7
import Derived.Test.YtjpffbekhfkibaaGreatDoorGTU8
import Derived.Test.YtjpffbekhfkibaaGreatDoorGTU9
import Derived.Test.YtjpffbekhfkibaaGreatDoorGTU2
import Derived.Test.YtjpffbekhfkibaaGreatDoorProg
section
set_option linter.all false
set_option maxRecDepth 1000000
open Go.RowKit
namespace Go.Proofs.YtjpffbekhfkibaaGreatDoor
open Mini
theorem awX0 : FOk Tryz.prog (joinX 95) := joinX_ok fun bk o c xs sep w h1 h2 h3 h4 h5 => Tryz.strings_Join bk o c xs sep w h1 h2 h3 h4 h5
theorem awX : FOk Tryz.prog (joinX 95) := awX0
theorem awm : Tryz.prog.follows .mixedOrders = true := by kernel_rfl
theorem awg19 : SndC Tryz.prog none (dropS 19 awB) awA19.act awS19 .ret awA20.act awS20 awR19 awW19 := chain_last awm awX awc19
theorem awg18 : SndC Tryz.prog none (dropS 18 awB) awA18.act awS18 .ret awA20.act awS20 awRR18 awWW18 := by
  have h := chain_step awm awX (by kernel_rfl) awc18 awg19
  rwa [show awR18 ||| awR19 = awRR18 from by decide +kernel, show awW18 ||| awW19 = awWW18 from by decide +kernel] at h
theorem awg17 : SndC Tryz.prog none (dropS 17 awB) awA17.act awS17 .ret awA20.act awS20 awRR17 awWW17 := by
  have h := chain_step awm awX (by kernel_rfl) awc17 awg18
  rwa [show awR17 ||| awRR18 = awRR17 from by decide +kernel, show awW17 ||| awWW18 = awWW17 from by decide +kernel] at h
theorem awg16 : SndC Tryz.prog none (dropS 16 awB) awA16.act awS16 .ret awA20.act awS20 awRR16 awWW16 := by
  have h := chain_step awm awX (by kernel_rfl) awc16 awg17
  rwa [show awR16 ||| awRR17 = awRR16 from by decide +kernel, show awW16 ||| awWW17 = awWW16 from by decide +kernel] at h
theorem awg15 : SndC Tryz.prog none (dropS 15 awB) awA15.act awS15 .ret awA20.act awS20 awRR15 awWW15 := by
  have h := chain_step awm awX (by kernel_rfl) awc15 awg16
  rwa [show awR15 ||| awRR16 = awRR15 from by decide +kernel, show awW15 ||| awWW16 = awWW15 from by decide +kernel] at h
theorem awg14 : SndC Tryz.prog none (dropS 14 awB) awA14.act awS14 .ret awA20.act awS20 awRR14 awWW14 := by
  have h := chain_step awm awX (by kernel_rfl) awc14 awg15
  rwa [show awR14 ||| awRR15 = awRR14 from by decide +kernel, show awW14 ||| awWW15 = awWW14 from by decide +kernel] at h
theorem awg13 : SndC Tryz.prog none (dropS 13 awB) awA13.act awS13 .ret awA20.act awS20 awRR13 awWW13 := by
  have h := chain_step awm awX (by kernel_rfl) awc13 awg14
  rwa [show awR13 ||| awRR14 = awRR13 from by decide +kernel, show awW13 ||| awWW14 = awWW13 from by decide +kernel] at h
theorem awg12 : SndC Tryz.prog none (dropS 12 awB) awA12.act awS12 .ret awA20.act awS20 awRR12 awWW12 := by
  have h := chain_step awm awX (by kernel_rfl) awc12 awg13
  rwa [show awR12 ||| awRR13 = awRR12 from by decide +kernel, show awW12 ||| awWW13 = awWW12 from by decide +kernel] at h
theorem awg11 : SndC Tryz.prog none (dropS 11 awB) awA11.act awS11 .ret awA20.act awS20 awRR11 awWW11 := by
  have h := chain_step awm awX (by kernel_rfl) awc11 awg12
  rwa [show awR11 ||| awRR12 = awRR11 from by decide +kernel, show awW11 ||| awWW12 = awWW11 from by decide +kernel] at h
theorem awg10 : SndC Tryz.prog none (dropS 10 awB) awA10.act awS10 .ret awA20.act awS20 awRR10 awWW10 := by
  have h := chain_step awm awX (by kernel_rfl) awc10 awg11
  rwa [show awR10 ||| awRR11 = awRR10 from by decide +kernel, show awW10 ||| awWW11 = awWW10 from by decide +kernel] at h
theorem awg9 : SndC Tryz.prog none (dropS 9 awB) awA9.act awS9 .ret awA20.act awS20 awRR9 awWW9 := by
  have h := chain_step awm awX (by kernel_rfl) awc9 awg10
  rwa [show awR9 ||| awRR10 = awRR9 from by decide +kernel, show awW9 ||| awWW10 = awWW9 from by decide +kernel] at h
theorem awg8 : SndC Tryz.prog none (dropS 8 awB) awA8.act awS8 .ret awA20.act awS20 awRR8 awWW8 := by
  have h := chain_step awm awX (by kernel_rfl) awc8 awg9
  rwa [show awR8 ||| awRR9 = awRR8 from by decide +kernel, show awW8 ||| awWW9 = awWW8 from by decide +kernel] at h
theorem awg7 : SndC Tryz.prog none (dropS 7 awB) awA7.act awS7 .ret awA20.act awS20 awRR7 awWW7 := by
  have h := chain_step awm awX (by kernel_rfl) awc7 awg8
  rwa [show awR7 ||| awRR8 = awRR7 from by decide +kernel, show awW7 ||| awWW8 = awWW7 from by decide +kernel] at h
theorem awg6 : SndC Tryz.prog none (dropS 6 awB) awA6.act awS6 .ret awA20.act awS20 awRR6 awWW6 := by
  have h := chain_step awm awX (by kernel_rfl) awc6 awg7
  rwa [show awR6 ||| awRR7 = awRR6 from by decide +kernel, show awW6 ||| awWW7 = awWW6 from by decide +kernel] at h
theorem awg5 : SndC Tryz.prog none (dropS 5 awB) awA5.act awS5 .ret awA20.act awS20 awRR5 awWW5 := by
  have h := chain_step awm awX (by kernel_rfl) awc5 awg6
  rwa [show awR5 ||| awRR6 = awRR5 from by decide +kernel, show awW5 ||| awWW6 = awWW5 from by decide +kernel] at h
theorem awg4 : SndC Tryz.prog none (dropS 4 awB) awA4.act awS4 .ret awA20.act awS20 awRR4 awWW4 := by
  have h := chain_step awm awX (by kernel_rfl) awc4 awg5
  rwa [show awR4 ||| awRR5 = awRR4 from by decide +kernel, show awW4 ||| awWW5 = awWW4 from by decide +kernel] at h
theorem awg3 : SndC Tryz.prog none (dropS 3 awB) awA3.act awS3 .ret awA20.act awS20 awRR3 awWW3 := by
  have h := chain_step awm awX (by kernel_rfl) awc3 awg4
  rwa [show awR3 ||| awRR4 = awRR3 from by decide +kernel, show awW3 ||| awWW4 = awWW3 from by decide +kernel] at h
theorem awg2 : SndC Tryz.prog none (dropS 2 awB) awA2.act awS2 .ret awA20.act awS20 awRR2 awWW2 := by
  have h := chain_step awm awX (by kernel_rfl) awc2 awg3
  rwa [show awR2 ||| awRR3 = awRR2 from by decide +kernel, show awW2 ||| awWW3 = awWW2 from by decide +kernel] at h
theorem awg1 : SndC Tryz.prog none (dropS 1 awB) awA1.act awS1 .ret awA20.act awS20 awRR1 awWW1 := by
  have h := chain_step awm awX (by kernel_rfl) awc1 awg2
  rwa [show awR1 ||| awRR2 = awRR1 from by decide +kernel, show awW1 ||| awWW2 = awWW1 from by decide +kernel] at h
theorem awg0 : SndC Tryz.prog none (dropS 0 awB) awA0.act awS0 .ret awA20.act awS20 awRR0 awWW0 := by
  have h := chain_step awm awX (by kernel_rfl) awc0 awg1
  rwa [show awR0 ||| awRR1 = awRR0 from by decide +kernel, show awW0 ||| awWW1 = awWW0 from by decide +kernel] at h
theorem awf : SndF Tryz.prog 4 #[] awS0 (.bool true) awS20 (awRR0 ||| 0) awWW0 :=
  sndF_of (vs := [.bool true]) Tryz.func4 (show _ = some awB by kernel_rfl) (.inr rfl) (by kernel_rfl) (show SndC Tryz.prog none awB (startA Tryz.f4 #[]) awS0 .ret awA20.act awS20 awRR0 awWW0 from ((startM_act _ _).symm.trans (congrArg MA.act (show startM Tryz.f4 #[] = awA0 by kernel_rfl))) ▸ awg0) (by kernel_rfl)
theorem aw_calls (w : World) (h : Holds Tryz.prog awS0 w) : Calls Tryz.prog 4 #[] w fun e w' => e = .returned (.bool true) ∧ Below w.heap.size w w' :=
  calls_of awf (by kernel_rfl) (by kernel_rfl) (fun b hb => by
    have hb : b < Tryz.prog.globals.size := hb
    rw [show Tryz.prog.globals.size = 6 by kernel_rfl] at hb
    revert b; decide +kernel) h
end Go.Proofs.YtjpffbekhfkibaaGreatDoor
end
section
set_option linter.all false
set_option maxRecDepth 1000000
open Go.RowKit
namespace Go.Proofs.YtjpffbekhfkibaaGreatDoor
open Mini
noncomputable def awT : List MObj := getL awS0 0 6
theorem awT_len : awT.length = 6 := rfl
theorem tl_tabs {n : Nat} (c : Nat) (g : Nat → Nat → Int) (e : TypeId) (opn : Bool) (sz : Nat) (ro : Bool) (y : List Value) (yt : TypeId) (k : Int) (h0 : 0 < n) (hn : n ≤ 1000) (hy : ∀ B, y.all (keepB (below B) 8) = true) :
    SndC Tryz.prog none (.loop tlX) (tlA0 n c k).act (wS 0 (awT ++ [rowB 2 n g e opn sz ro, .cells y yt false 0 false])) (.exit 0) (tlE1 k (n - 1)).act (wS 0 (awT ++ [rowB 2 n g e opn sz ro, .cells y yt false 0 false, tlO g n])) 64 0 := by
  have h := tl_loop c g e opn sz ro y yt k h0 hn (hy _)
  rw [← awT_len] at h
  refine Snd.tabs (awT_len.trans sng) h (by simp) ?_ ?_ ?_ rfl rfl ?_ ?_
  · rw [awT_len]; decide
  · rw [awT_len]
    intro o ho
    simp only [List.mem_cons, List.not_mem_nil, or_false] at ho
    rcases ho with rfl | rfl
    · exact fun i j => rfl
    · exact hy _
  · rw [awT_len]
    intro o ho
    simp only [List.mem_cons, List.not_mem_nil, or_false] at ho
    rcases ho with rfl | rfl | rfl
    · exact fun i j => rfl
    · exact hy _
    · exact tlO_keep _ g n
  · rw [awT_len]; exact tlA_keep n c k
  · rw [awT_len]; exact tlE_keep k (n - 1)
end Go.Proofs.YtjpffbekhfkibaaGreatDoor
end
section
set_option linter.all false
set_option maxRecDepth 1000000
open Go.RowKit
namespace Go.Proofs.YtjpffbekhfkibaaGreatDoor
open Mini
def ceC (v : Int → Int → Int) : Con := ⟨30, [.agg [.i64, .i64]], fun ns => match ns with | [a, b] => .int .i64 (v a b) | _ => .bool true, fun _ => True⟩
noncomputable def ceX : Code := loopOf Tryz.prog 34
def ceA (n c i : Nat) (r : Int) : MA := MA.ofL 21 [.chan none, .func (.func 30) #[] #[], .chan none, .chan none, .int .i64 r, .chan none, .chan none, .chan none, .slice (some ⟨6, 0, none⟩) n c, .int .i64 (n : Int), .int .i64 (i : Int), .chan none, .chan none, .chan none, .chan none, .chan none, .chan none, .chan none, .chan none, .chan none, .chan none] []
def ceArgs (n c : Nat) : Array Value := #[.slice (some ⟨6, 0, none⟩) n c, .func (.func 30) #[] #[]]
noncomputable def ceR (v : Int → Int → Int) (n c : Nat) (g : Nat → Nat → Int) (e : TypeId) (opn : Bool) (sz : Nat) (ro : Bool) (i : Nat) : Option OutCS := evCRS Tryz.prog (kOf (ceC v)) 1000 none false ceX (ceA n c i 0) (wS 6 [rowI 2 n g e opn sz ro]) ⟨[1, .row i 0, .row i 0, 0, .azz (.int .i64 ((i + 1 : Nat) : Int))], True⟩
noncomputable def ceB (v : Int → Int → Int) (n c : Nat) (g : Nat → Nat → Int) (e : TypeId) (opn : Bool) (sz : Nat) (ro : Bool) (i : Nat) : Option OutCS := evCRS Tryz.prog (kOf (ceC v)) 1000 none false ceX (ceA n c i 0) (wS 6 [rowI 2 n g e opn sz ro]) ⟨[1, .row i 0, .row i 0, 1], True⟩
noncomputable def ceE (v : Int → Int → Int) (n c : Nat) (g : Nat → Nat → Int) (e : TypeId) (opn : Bool) (sz : Nat) (ro : Bool) (i : Nat) : Option OutCS := evCRS Tryz.prog (kOf (ceC v)) 1000 none false ceX (ceA n c i 0) (wS 6 [rowI 2 n g e opn sz ro]) ⟨[0], True⟩
noncomputable def ceF_ret (v : Int → Int → Int) (n c : Nat) (g : Nat → Nat → Int) (e : TypeId) (opn : Bool) (sz : Nat) (ro : Bool) (i : Nat) (r : Int) : Option OutS := evFS Tryz.prog (kOf (ceC v)) 1000 34 (ceArgs n c) (wS 6 [rowI 2 n g e opn sz ro]) ⟨[.lp 1810 (ceA n c 0 0) 6 [rowI 2 n g e opn sz ro] .ret (ceA n c i r) [rowI 2 n g e opn sz ro] 64 0], True⟩
noncomputable def ceF_end (v : Int → Int → Int) (n c : Nat) (g : Nat → Nat → Int) (e : TypeId) (opn : Bool) (sz : Nat) (ro : Bool) (i : Nat) (r : Int) : Option OutS := evFS Tryz.prog (kOf (ceC v)) 1000 34 (ceArgs n c) (wS 6 [rowI 2 n g e opn sz ro]) ⟨[.lp 1810 (ceA n c 0 0) 6 [rowI 2 n g e opn sz ro] (.exit 0) (ceA n c i r) [rowI 2 n g e opn sz ro] 64 0], True⟩
section
variable (v : Int → Int → Int) (n c : Nat) (g : Nat → Nat → Int) (e : TypeId) (opn : Bool) (sz : Nat) (ro : Bool) (i : Nat)
theorem ceR_eq : seenF 6 1 1810 (ceR v n c g e opn sz ro i) = some (.normal, ceA n c (i + 1) 0, [rowI 2 n g e opn sz ro], 192, 128, ⟨[], ((((((True ∧ ((decide ((((i : Nat)) : Int) < (((n : Nat)) : Int))) = true)) ∧ (((((i : Nat)) : Int) = (Int.ofNat i)) ∧ (i < n))) ∧ (((0 + (i * 2)) = ((i * 2) + 0)) ∧ (i < n))) ∧ True) ∧ (((v (g i 0) (g i 1)) != (0 : Int)) = false)) ∧ (((.int .i64 (IntKind.i64.wrap ((((i : Nat)) : Int) + (1 : Int)))) : Value) = (.int .i64 ((((i + 1) : Nat)) : Int))))⟩) := by kernel_rfl
theorem ceB_eq : seenF 6 1 1810 (ceB v n c g e opn sz ro i) = some (.ret, ceA n c i (v (g i 0) (g i 1)), [rowI 2 n g e opn sz ro], 192, 128, ⟨[], (((((True ∧ ((decide ((((i : Nat)) : Int) < (((n : Nat)) : Int))) = true)) ∧ (((((i : Nat)) : Int) = (Int.ofNat i)) ∧ (i < n))) ∧ (((0 + (i * 2)) = ((i * 2) + 0)) ∧ (i < n))) ∧ True) ∧ (((v (g i 0) (g i 1)) != (0 : Int)) = true))⟩) := by kernel_rfl
theorem ceE_eq : seenF 6 1 1810 (ceE v n c g e opn sz ro i) = some ((.exit (0 : Nat)), ceA n c i 0, [rowI 2 n g e opn sz ro], 0, 0, ⟨[], (True ∧ ((decide ((((i : Nat)) : Int) < (((n : Nat)) : Int))) = false))⟩) := by kernel_rfl
theorem ceA_keep (r : Int) : allKeep (6 + 1) (ceA n c i r) 21 = true := by kernel_rfl
variable {v n i} (hc : ConOk Tryz.prog (ceC v))
include hc
theorem ce_go (hn : (n : Int) ≤ 9223372036854775807) (hi : i < n) (h0 : v (g i 0) (g i 1) = 0) : SndC Tryz.prog none ceX (ceA n c i 0).act (wS 6 [rowI 2 n g e opn sz ro]) .normal (ceA n c (i + 1) 0).act (wS 6 [rowI 2 n g e opn sz ro]) 64 0 :=
  wayF_ok0 smx (kOf_ok hc) sng (ceR_eq v n c g e opn sz ro i) ⟨⟨⟨⟨⟨⟨trivial, decide_eq_true (by omega)⟩, rfl, hi⟩, (by omega), hi⟩, trivial⟩, (by rw [h0]; rfl)⟩, wnextV hi hn⟩ rfl (ceA_keep n c i 0) rowI_keep1 rowI_keep1 (by exact (by decide : ∀ b, b < 7 → Nat.testBit 128 b = false)) (by exact (by decide : ∀ b, b < 7 → Nat.testBit 192 b = true → Nat.testBit 64 b = true))
theorem ce_bad (hi : i < n) (h0 : v (g i 0) (g i 1) ≠ 0) : SndC Tryz.prog none ceX (ceA n c i 0).act (wS 6 [rowI 2 n g e opn sz ro]) .ret (ceA n c i (v (g i 0) (g i 1))).act (wS 6 [rowI 2 n g e opn sz ro]) 64 0 :=
  wayF_ok0 smx (kOf_ok hc) sng (ceB_eq v n c g e opn sz ro i) ⟨⟨⟨⟨⟨trivial, decide_eq_true (by omega)⟩, rfl, hi⟩, (by omega), hi⟩, trivial⟩, (by simpa using h0)⟩ rfl (ceA_keep n c i 0) rowI_keep1 rowI_keep1 (by exact (by decide : ∀ b, b < 7 → Nat.testBit 128 b = false)) (by exact (by decide : ∀ b, b < 7 → Nat.testBit 192 b = true → Nat.testBit 64 b = true))
theorem ce_end (hi : ¬ i < n) : SndC Tryz.prog none ceX (ceA n c i 0).act (wS 6 [rowI 2 n g e opn sz ro]) (.exit 0) (ceA n c i 0).act (wS 6 [rowI 2 n g e opn sz ro]) 64 0 :=
  wayF_ok0 smx (kOf_ok hc) sng (ceE_eq v n c g e opn sz ro i) ⟨trivial, decide_eq_false (by omega)⟩ rfl (ceA_keep n c i 0) rowI_keep1 rowI_keep1 (by exact (by decide : ∀ b, b < 7 → Nat.testBit 0 b = false)) (by exact (by decide : ∀ b, b < 7 → Nat.testBit 0 b = true → Nat.testBit 64 b = true))
end
section
variable (v : Int → Int → Int) (n c : Nat) (g : Nat → Nat → Int) (e : TypeId) (opn : Bool) (sz : Nat) (ro : Bool) (i : Nat) (r : Int)
theorem ceF_reteq : ceF_ret v n c g e opn sz ro i r = some (.int .i64 r, wS 6 [rowI 2 n g e opn sz ro], 64, 0, ⟨[], (True ∧ ((((ceA n c (0 : Nat) (0 : Int)) = (ceA n c (0 : Nat) (0 : Int))) ∧ ((7 = (6 + 1)) ∧ ((HAppend.hAppend (List.replicate (6 : Nat) MObj.hole) ((rowI (2 : Nat) n g e opn sz ro) :: [])) = (HAppend.hAppend (List.replicate (6 : Nat) MObj.hole) ((rowI (2 : Nat) n g e opn sz ro) :: []))))) ∧ SndC Tryz.prog none (.loop ceX) (ceA n c 0 0).act (wS 6 [rowI 2 n g e opn sz ro]) .ret (ceA n c i r).act (wS 6 [rowI 2 n g e opn sz ro]) 64 0))⟩) := by kernel_rfl
theorem ceF_endeq : ceF_end v n c g e opn sz ro i r = some (.int .i64 0, wS 6 [rowI 2 n g e opn sz ro], 64, 0, ⟨[], (True ∧ ((((ceA n c (0 : Nat) (0 : Int)) = (ceA n c (0 : Nat) (0 : Int))) ∧ ((7 = (6 + 1)) ∧ ((HAppend.hAppend (List.replicate (6 : Nat) MObj.hole) ((rowI (2 : Nat) n g e opn sz ro) :: [])) = (HAppend.hAppend (List.replicate (6 : Nat) MObj.hole) ((rowI (2 : Nat) n g e opn sz ro) :: []))))) ∧ SndC Tryz.prog none (.loop ceX) (ceA n c 0 0).act (wS 6 [rowI 2 n g e opn sz ro]) (.exit 0) (ceA n c i r).act (wS 6 [rowI 2 n g e opn sz ro]) 64 0))⟩) := by kernel_rfl
end
theorem ce_sndF {v : Int → Int → Int} {n : Nat} (c : Nat) (g : Nat → Nat → Int) (e : TypeId) (opn : Bool) (sz : Nat) (ro : Bool) (hc : ConOk Tryz.prog (ceC v)) (hn : (n : Int) ≤ 9223372036854775807) :
    SndF Tryz.prog 34 (ceArgs n c) (wS 6 [rowI 2 n g e opn sz ro]) (.int .i64 (feN (fun i => v (g i 0) (g i 1)) n 0)) (wS 6 [rowI 2 n g e opn sz ro]) 64 0 := by
  rcases loop_split (A := fun i => (ceA n c i 0).act) (S := fun _ => wS 6 [rowI 2 n g e opn sz ro]) (A1 := fun i => (ceA n c i (v (g i 0) (g i 1))).act) (S1 := fun _ => wS 6 [rowI 2 n g e opn sz ro]) (good := fun i => v (g i 0) (g i 1) = 0) (fun i => Decidable.em _) n
    (fun i hi h0 => ce_go c g e opn sz ro hc hn hi h0) (fun i hi h0 => ce_bad c g e opn sz ro hc hi h0) (ce_end c g e opn sz ro hc (Nat.lt_irrefl n)) (by simp) (by simp) with ⟨h1, h2⟩ | ⟨j, hj, h1, h3, h2⟩
  · rw [feN_all fun k _ hk => h1 k (by omega)]
    exact (evFS_ok smx (kOf_ok hc) 1000 _ _ _ _ _ _ _ _ _ (show evFS _ _ _ _ _ _ _ = _ from ceF_endeq v n c g e opn sz ro n 0)).2 ⟨trivial, ⟨rfl, rfl, rfl⟩, h2⟩
  · rw [feN_first (Nat.zero_le j) (by omega) (fun k _ hk => h1 k hk) h3]
    exact (evFS_ok smx (kOf_ok hc) 1000 _ _ _ _ _ _ _ _ _ (show evFS _ _ _ _ _ _ _ = _ from ceF_reteq v n c g e opn sz ro j (v (g j 0) (g j 1)))).2 ⟨trivial, ⟨rfl, rfl, rfl⟩, h2⟩

def kEachE (v : Int → Int → Int) : CallS := fun f xs s q => match decide (f = 34) with
  | true => match xs.toList with
    | [.slice (some ⟨b, 0, none⟩) n c, .func (.func h) ⟨la⟩ ⟨lb⟩] => match decide (h = 30), Nat.ble 6 b, la, lb, rowK 2 .i64 s b n with
      | true, true, [], [], some (g, _, _, _, _, p) => some (.int .i64 (feN (fun i => v (g i 0) (g i 1)) n 0), s, 2 ^ b, 0, ⟨q.rest, q.ob ∧ (p ∧ (n : Int) ≤ 9223372036854775807)⟩)
      | _, _, _, _, _ => none
    | _ => none
  | false => none
theorem kEachE_ok {v : Int → Int → Int} (hc : ConOk Tryz.prog (ceC v)) : FOkS Tryz.prog (kEachE v) := fun f xs s q u s1 R W q1 he => by
  unfold kEachE at he
  split at he
  · rename_i hf
    have hf := of_decide_eq_true hf
    subst hf
    split at he
    · rename_i b n c h la lb hx
      split at he
      · rename_i g e opn sz ro p hh hb hr
        have hh := of_decide_eq_true hh
        subst hh
        have hb := Nat.le_of_ble_eq_true hb
        have hxs : xs = #[.slice (some ⟨b, 0, none⟩) n c, .func (.func 30) #[] #[]] := by apply Array.ext'; exact hx
        subst hxs
        cases he
        refine ⟨fun hq => hq.1, fun hq => ?_⟩
        obtain ⟨hp, hn⟩ := hq.2
        obtain ⟨l1, w1⟩ := rowK_wo hr hp
        exact SndF.row (N := 6) sng (ce_sndF c g e opn sz ro hc hn) rfl hb l1 w1 (fun f _ hf => wvs_two (slice_wv hf) func_wv)
      · cases he
    · cases he
  · cases he
end Go.Proofs.YtjpffbekhfkibaaGreatDoor
end
section
set_option linter.all false
set_option maxRecDepth 1000000
set_option maxHeartbeats 2000000
open Go.RowKit
namespace Go.Proofs.YtjpffbekhfkibaaGreatDoor
open Mini

def turn_val (a b n : Int) : Value := .agg #[.int .i64 (Pl.turn (a, b) n).1, .int .i64 (Pl.turn (a, b) n).2]
theorem turn_X : FOkS Tryz.prog x_turn := noXS_ok
theorem turn_args (a b n : Int) : (#[.agg #[.int .i64 a, .int .i64 b], .int .i64 n] : Array Value).toList.all (ground 8) = true := by kernel_rfl
theorem turn_g0 : (false = false) := by first | rfl | trivial | decide | omega
def turn_c0 (a b n : Int) : Bool := (decide ((0 : Int) < (Int.tmod (IntKind.i64.wrap ((Int.tmod n (6 : Int)) + (6 : Int))) (6 : Int))))
def turn_c1 (a b n : Int) : Bool := (decide ((1 : Int) < (Int.tmod (IntKind.i64.wrap ((Int.tmod n (6 : Int)) + (6 : Int))) (6 : Int))))
def turn_c2 (a b n : Int) : Bool := (decide ((2 : Int) < (Int.tmod (IntKind.i64.wrap ((Int.tmod n (6 : Int)) + (6 : Int))) (6 : Int))))
def turn_c3 (a b n : Int) : Bool := (decide ((3 : Int) < (Int.tmod (IntKind.i64.wrap ((Int.tmod n (6 : Int)) + (6 : Int))) (6 : Int))))
def turn_c4 (a b n : Int) : Bool := (decide ((4 : Int) < (Int.tmod (IntKind.i64.wrap ((Int.tmod n (6 : Int)) + (6 : Int))) (6 : Int))))
def turn_c5 (a b n : Int) : Bool := (decide ((5 : Int) < (Int.tmod (IntKind.i64.wrap ((Int.tmod n (6 : Int)) + (6 : Int))) (6 : Int))))
def turn_w0 (a b n : Int) : Value := .agg #[.int .i64 a, .int .i64 b]
def turn_r0 (a b n : Int) : Prop := (((True ∧ ((false = false))) ∧ ((false = false))) ∧ (turn_c0 a b n = false))
theorem turn_o0 (a b n : Int) : obOf (turn_e0 a b n) = turn_r0 a b n := by kernel_rfl
theorem turn_v0 (a b n : Int) : resOf (turn_e0 a b n) = turn_w0 a b n := by kernel_rfl
theorem turn_k0 (a b n : Int) : cleanOf Tryz.prog.globals.size (turn_e0 a b n) = true := by kernel_rfl
theorem turn_q0 (a b n : Int) : turn_e0 a b n = evFS Tryz.prog x_turn 1000 33 #[.agg #[.int .i64 a, .int .i64 b], .int .i64 n] (noTabs 6) ⟨[0], True⟩ := by
  delta turn_e0
  exact Eq.refl _
theorem turn_p0 (a b n : Int) (h : turn_r0 a b n) (w : World) : Calls Tryz.prog 33 #[.agg #[.int .i64 a, .int .i64 b], .int .i64 n] w fun en w' => en = .returned (turn_w0 a b n) ∧ Below w.heap.size w w' := by
  have hv := turn_v0 a b n
  have hc := turn_k0 a b n
  have he := turn_q0 a b n
  have ho := turn_o0 a b n
  generalize turn_e0 a b n = r at *
  exact calls_way he gfol turn_X hv rfl (turn_args a b n) hc ho h (bl w)
def turn_w1 (a b n : Int) : Value := .agg #[.int .i64 (IntKind.i64.wrap (a - b)), .int .i64 a]
def turn_r1 (a b n : Int) : Prop := ((((True ∧ ((false = false))) ∧ ((false = false))) ∧ (turn_c0 a b n = true)) ∧ (turn_c1 a b n = false))
theorem turn_o1 (a b n : Int) : obOf (turn_e1 a b n) = turn_r1 a b n := by kernel_rfl
theorem turn_v1 (a b n : Int) : resOf (turn_e1 a b n) = turn_w1 a b n := by kernel_rfl
theorem turn_k1 (a b n : Int) : cleanOf Tryz.prog.globals.size (turn_e1 a b n) = true := by kernel_rfl
theorem turn_q1 (a b n : Int) : turn_e1 a b n = evFS Tryz.prog x_turn 1000 33 #[.agg #[.int .i64 a, .int .i64 b], .int .i64 n] (noTabs 6) ⟨[1, 0], True⟩ := by
  delta turn_e1
  exact Eq.refl _
theorem turn_p1 (a b n : Int) (h : turn_r1 a b n) (w : World) : Calls Tryz.prog 33 #[.agg #[.int .i64 a, .int .i64 b], .int .i64 n] w fun en w' => en = .returned (turn_w1 a b n) ∧ Below w.heap.size w w' := by
  have hv := turn_v1 a b n
  have hc := turn_k1 a b n
  have he := turn_q1 a b n
  have ho := turn_o1 a b n
  generalize turn_e1 a b n = r at *
  exact calls_way he gfol turn_X hv rfl (turn_args a b n) hc ho h (bl w)
def turn_w2 (a b n : Int) : Value := .agg #[.int .i64 (IntKind.i64.wrap ((IntKind.i64.wrap (a - b)) - a)), .int .i64 (IntKind.i64.wrap (a - b))]
def turn_r2 (a b n : Int) : Prop := (((((True ∧ ((false = false))) ∧ ((false = false))) ∧ (turn_c0 a b n = true)) ∧ (turn_c1 a b n = true)) ∧ (turn_c2 a b n = false))
theorem turn_o2 (a b n : Int) : obOf (turn_e2 a b n) = turn_r2 a b n := by kernel_rfl
theorem turn_v2 (a b n : Int) : resOf (turn_e2 a b n) = turn_w2 a b n := by kernel_rfl
theorem turn_k2 (a b n : Int) : cleanOf Tryz.prog.globals.size (turn_e2 a b n) = true := by kernel_rfl
theorem turn_q2 (a b n : Int) : turn_e2 a b n = evFS Tryz.prog x_turn 1000 33 #[.agg #[.int .i64 a, .int .i64 b], .int .i64 n] (noTabs 6) ⟨[1, 1, 0], True⟩ := by
  delta turn_e2
  exact Eq.refl _
theorem turn_p2 (a b n : Int) (h : turn_r2 a b n) (w : World) : Calls Tryz.prog 33 #[.agg #[.int .i64 a, .int .i64 b], .int .i64 n] w fun en w' => en = .returned (turn_w2 a b n) ∧ Below w.heap.size w w' := by
  have hv := turn_v2 a b n
  have hc := turn_k2 a b n
  have he := turn_q2 a b n
  have ho := turn_o2 a b n
  generalize turn_e2 a b n = r at *
  exact calls_way he gfol turn_X hv rfl (turn_args a b n) hc ho h (bl w)
def turn_w3 (a b n : Int) : Value := .agg #[.int .i64 (IntKind.i64.wrap ((IntKind.i64.wrap ((IntKind.i64.wrap (a - b)) - a)) - (IntKind.i64.wrap (a - b)))), .int .i64 (IntKind.i64.wrap ((IntKind.i64.wrap (a - b)) - a))]
def turn_r3 (a b n : Int) : Prop := ((((((True ∧ ((false = false))) ∧ ((false = false))) ∧ (turn_c0 a b n = true)) ∧ (turn_c1 a b n = true)) ∧ (turn_c2 a b n = true)) ∧ (turn_c3 a b n = false))
theorem turn_o3 (a b n : Int) : obOf (turn_e3 a b n) = turn_r3 a b n := by kernel_rfl
theorem turn_v3 (a b n : Int) : resOf (turn_e3 a b n) = turn_w3 a b n := by kernel_rfl
theorem turn_k3 (a b n : Int) : cleanOf Tryz.prog.globals.size (turn_e3 a b n) = true := by kernel_rfl
theorem turn_q3 (a b n : Int) : turn_e3 a b n = evFS Tryz.prog x_turn 1000 33 #[.agg #[.int .i64 a, .int .i64 b], .int .i64 n] (noTabs 6) ⟨[1, 1, 1, 0], True⟩ := by
  delta turn_e3
  exact Eq.refl _
theorem turn_p3 (a b n : Int) (h : turn_r3 a b n) (w : World) : Calls Tryz.prog 33 #[.agg #[.int .i64 a, .int .i64 b], .int .i64 n] w fun en w' => en = .returned (turn_w3 a b n) ∧ Below w.heap.size w w' := by
  have hv := turn_v3 a b n
  have hc := turn_k3 a b n
  have he := turn_q3 a b n
  have ho := turn_o3 a b n
  generalize turn_e3 a b n = r at *
  exact calls_way he gfol turn_X hv rfl (turn_args a b n) hc ho h (bl w)
def turn_w4 (a b n : Int) : Value := .agg #[.int .i64 (IntKind.i64.wrap ((IntKind.i64.wrap ((IntKind.i64.wrap ((IntKind.i64.wrap (a - b)) - a)) - (IntKind.i64.wrap (a - b)))) - (IntKind.i64.wrap ((IntKind.i64.wrap (a - b)) - a)))), .int .i64 (IntKind.i64.wrap ((IntKind.i64.wrap ((IntKind.i64.wrap (a - b)) - a)) - (IntKind.i64.wrap (a - b))))]
def turn_r4 (a b n : Int) : Prop := (((((((True ∧ ((false = false))) ∧ ((false = false))) ∧ (turn_c0 a b n = true)) ∧ (turn_c1 a b n = true)) ∧ (turn_c2 a b n = true)) ∧ (turn_c3 a b n = true)) ∧ (turn_c4 a b n = false))
theorem turn_o4 (a b n : Int) : obOf (turn_e4 a b n) = turn_r4 a b n := by kernel_rfl
theorem turn_v4 (a b n : Int) : resOf (turn_e4 a b n) = turn_w4 a b n := by kernel_rfl
theorem turn_k4 (a b n : Int) : cleanOf Tryz.prog.globals.size (turn_e4 a b n) = true := by kernel_rfl
theorem turn_q4 (a b n : Int) : turn_e4 a b n = evFS Tryz.prog x_turn 1000 33 #[.agg #[.int .i64 a, .int .i64 b], .int .i64 n] (noTabs 6) ⟨[1, 1, 1, 1, 0], True⟩ := by
  delta turn_e4
  exact Eq.refl _
theorem turn_p4 (a b n : Int) (h : turn_r4 a b n) (w : World) : Calls Tryz.prog 33 #[.agg #[.int .i64 a, .int .i64 b], .int .i64 n] w fun en w' => en = .returned (turn_w4 a b n) ∧ Below w.heap.size w w' := by
  have hv := turn_v4 a b n
  have hc := turn_k4 a b n
  have he := turn_q4 a b n
  have ho := turn_o4 a b n
  generalize turn_e4 a b n = r at *
  exact calls_way he gfol turn_X hv rfl (turn_args a b n) hc ho h (bl w)
def turn_w5 (a b n : Int) : Value := .agg #[.int .i64 (IntKind.i64.wrap ((IntKind.i64.wrap ((IntKind.i64.wrap ((IntKind.i64.wrap ((IntKind.i64.wrap (a - b)) - a)) - (IntKind.i64.wrap (a - b)))) - (IntKind.i64.wrap ((IntKind.i64.wrap (a - b)) - a)))) - (IntKind.i64.wrap ((IntKind.i64.wrap ((IntKind.i64.wrap (a - b)) - a)) - (IntKind.i64.wrap (a - b)))))), .int .i64 (IntKind.i64.wrap ((IntKind.i64.wrap ((IntKind.i64.wrap ((IntKind.i64.wrap (a - b)) - a)) - (IntKind.i64.wrap (a - b)))) - (IntKind.i64.wrap ((IntKind.i64.wrap (a - b)) - a))))]
def turn_r5 (a b n : Int) : Prop := ((((((((True ∧ ((false = false))) ∧ ((false = false))) ∧ (turn_c0 a b n = true)) ∧ (turn_c1 a b n = true)) ∧ (turn_c2 a b n = true)) ∧ (turn_c3 a b n = true)) ∧ (turn_c4 a b n = true)) ∧ (turn_c5 a b n = false))
theorem turn_o5 (a b n : Int) : obOf (turn_e5 a b n) = turn_r5 a b n := by kernel_rfl
theorem turn_v5 (a b n : Int) : resOf (turn_e5 a b n) = turn_w5 a b n := by kernel_rfl
theorem turn_k5 (a b n : Int) : cleanOf Tryz.prog.globals.size (turn_e5 a b n) = true := by kernel_rfl
theorem turn_q5 (a b n : Int) : turn_e5 a b n = evFS Tryz.prog x_turn 1000 33 #[.agg #[.int .i64 a, .int .i64 b], .int .i64 n] (noTabs 6) ⟨[1, 1, 1, 1, 1, 0], True⟩ := by
  delta turn_e5
  exact Eq.refl _
theorem turn_p5 (a b n : Int) (h : turn_r5 a b n) (w : World) : Calls Tryz.prog 33 #[.agg #[.int .i64 a, .int .i64 b], .int .i64 n] w fun en w' => en = .returned (turn_w5 a b n) ∧ Below w.heap.size w w' := by
  have hv := turn_v5 a b n
  have hc := turn_k5 a b n
  have he := turn_q5 a b n
  have ho := turn_o5 a b n
  generalize turn_e5 a b n = r at *
  exact calls_way he gfol turn_X hv rfl (turn_args a b n) hc ho h (bl w)
theorem turn_any (a b n : Int) (hpre : Bg 1099511627776 a b) (w : World) : Calls Tryz.prog 33 #[.agg #[.int .i64 a, .int .i64 b], .int .i64 n] w fun en w' => en = .returned (turn_val a b n) ∧ Below w.heap.size w w' := by
  have t6 := tm6 n
  rcases Bool.eq_false_or_eq_true (turn_c0 a b n) with h0 | h0
  ·
    unfold turn_c0 at h0
    rcases Bool.eq_false_or_eq_true (turn_c1 a b n) with h1 | h1
    ·
      unfold turn_c1 at h1
      rcases Bool.eq_false_or_eq_true (turn_c2 a b n) with h2 | h2
      ·
        unfold turn_c2 at h2
        rcases Bool.eq_false_or_eq_true (turn_c3 a b n) with h3 | h3
        ·
          unfold turn_c3 at h3
          rcases Bool.eq_false_or_eq_true (turn_c4 a b n) with h4 | h4
          ·
            unfold turn_c4 at h4
            have h5 : (turn_c5 a b n = false) := by
              unfold turn_c5
              first | rfl | trivial | decide | ((try simp (disch := omega) only [wi, rem6, decide_eq_true_eq, decide_eq_false_iff_not] at *) <;> omega)
            unfold turn_c5 at h5
            have hp := turn_p5 a b n ⟨⟨⟨⟨⟨⟨⟨⟨trivial, turn_g0⟩, turn_g0⟩, h0⟩, h1⟩, h2⟩, h3⟩, h4⟩, h5⟩ w
            have hv : turn_w5 a b n = (turn_val a b n) := by
              clear hp
              unfold turn_w5 turn_val
              unfold Bg at hpre
              (try simp (disch := omega) only [wi, rem6, decide_eq_true_eq, decide_eq_false_iff_not] at *)
              rcases turn_cases (a, b) n with ⟨g, e⟩ | ⟨g, e⟩ | ⟨g, e⟩ | ⟨g, e⟩ | ⟨g, e⟩ | ⟨g, e⟩ <;> first | (exfalso; omega) | (rw [e]; done) | (rw [e]; first | rfl | (simp only; congr 2; simp only [Value.int.injEq, true_and, List.cons.injEq, and_true] <;> omega))
            exact hv ▸ hp
          ·
            unfold turn_c4 at h4
            have hp := turn_p4 a b n ⟨⟨⟨⟨⟨⟨⟨trivial, turn_g0⟩, turn_g0⟩, h0⟩, h1⟩, h2⟩, h3⟩, h4⟩ w
            have hv : turn_w4 a b n = (turn_val a b n) := by
              clear hp
              unfold turn_w4 turn_val
              unfold Bg at hpre
              (try simp (disch := omega) only [wi, rem6, decide_eq_true_eq, decide_eq_false_iff_not] at *)
              rcases turn_cases (a, b) n with ⟨g, e⟩ | ⟨g, e⟩ | ⟨g, e⟩ | ⟨g, e⟩ | ⟨g, e⟩ | ⟨g, e⟩ <;> first | (exfalso; omega) | (rw [e]; done) | (rw [e]; first | rfl | (simp only; congr 2; simp only [Value.int.injEq, true_and, List.cons.injEq, and_true] <;> omega))
            exact hv ▸ hp
        ·
          unfold turn_c3 at h3
          have hp := turn_p3 a b n ⟨⟨⟨⟨⟨⟨trivial, turn_g0⟩, turn_g0⟩, h0⟩, h1⟩, h2⟩, h3⟩ w
          have hv : turn_w3 a b n = (turn_val a b n) := by
            clear hp
            unfold turn_w3 turn_val
            unfold Bg at hpre
            (try simp (disch := omega) only [wi, rem6, decide_eq_true_eq, decide_eq_false_iff_not] at *)
            rcases turn_cases (a, b) n with ⟨g, e⟩ | ⟨g, e⟩ | ⟨g, e⟩ | ⟨g, e⟩ | ⟨g, e⟩ | ⟨g, e⟩ <;> first | (exfalso; omega) | (rw [e]; done) | (rw [e]; first | rfl | (simp only; congr 2; simp only [Value.int.injEq, true_and, List.cons.injEq, and_true] <;> omega))
          exact hv ▸ hp
      ·
        unfold turn_c2 at h2
        have hp := turn_p2 a b n ⟨⟨⟨⟨⟨trivial, turn_g0⟩, turn_g0⟩, h0⟩, h1⟩, h2⟩ w
        have hv : turn_w2 a b n = (turn_val a b n) := by
          clear hp
          unfold turn_w2 turn_val
          unfold Bg at hpre
          (try simp (disch := omega) only [wi, rem6, decide_eq_true_eq, decide_eq_false_iff_not] at *)
          rcases turn_cases (a, b) n with ⟨g, e⟩ | ⟨g, e⟩ | ⟨g, e⟩ | ⟨g, e⟩ | ⟨g, e⟩ | ⟨g, e⟩ <;> first | (exfalso; omega) | (rw [e]; done) | (rw [e]; first | rfl | (simp only; congr 2; simp only [Value.int.injEq, true_and, List.cons.injEq, and_true] <;> omega))
        exact hv ▸ hp
    ·
      unfold turn_c1 at h1
      have hp := turn_p1 a b n ⟨⟨⟨⟨trivial, turn_g0⟩, turn_g0⟩, h0⟩, h1⟩ w
      have hv : turn_w1 a b n = (turn_val a b n) := by
        clear hp
        unfold turn_w1 turn_val
        unfold Bg at hpre
        (try simp (disch := omega) only [wi, rem6, decide_eq_true_eq, decide_eq_false_iff_not] at *)
        rcases turn_cases (a, b) n with ⟨g, e⟩ | ⟨g, e⟩ | ⟨g, e⟩ | ⟨g, e⟩ | ⟨g, e⟩ | ⟨g, e⟩ <;> first | (exfalso; omega) | (rw [e]; done) | (rw [e]; first | rfl | (simp only; congr 2; simp only [Value.int.injEq, true_and, List.cons.injEq, and_true] <;> omega))
      exact hv ▸ hp
  ·
    unfold turn_c0 at h0
    have hp := turn_p0 a b n ⟨⟨⟨trivial, turn_g0⟩, turn_g0⟩, h0⟩ w
    have hv : turn_w0 a b n = (turn_val a b n) := by
      clear hp
      unfold turn_w0 turn_val
      unfold Bg at hpre
      (try simp (disch := omega) only [wi, rem6, decide_eq_true_eq, decide_eq_false_iff_not] at *)
      rcases turn_cases (a, b) n with ⟨g, e⟩ | ⟨g, e⟩ | ⟨g, e⟩ | ⟨g, e⟩ | ⟨g, e⟩ | ⟨g, e⟩ <;> first | (exfalso; omega) | (rw [e]; done) | (rw [e]; first | rfl | (simp only; congr 2; simp only [Value.int.injEq, true_and, List.cons.injEq, and_true] <;> omega))
    exact hv ▸ hp
theorem k_turn : ConOk Tryz.prog c_turn := fun ns hl => by
  have hl0 : ns.length = 3 := hl
  clear hl
  obtain ⟨a, ns0, rfl, hl1⟩ := len_cons hl0
  obtain ⟨b, ns1, rfl, hl2⟩ := len_cons hl1
  obtain ⟨n, ns2, rfl, hl3⟩ := len_cons hl2
  obtain rfl := len_nil hl3
  exact ⟨rfl, fun h w => turn_any a b n h w⟩
end Go.Proofs.YtjpffbekhfkibaaGreatDoor
end
section
set_option linter.all false
set_option maxRecDepth 1000000
set_option maxHeartbeats 2000000
open Go.RowKit
namespace Go.Proofs.YtjpffbekhfkibaaGreatDoor
open Mini

def limited_val (a b : Int) : Value := .tuple #[.agg #[.int .i64 (Pl.lim (a, b)).1.1, .int .i64 (Pl.lim (a, b)).1.2], .int .i64 (Pl.lim (a, b)).2]
theorem limited_X : FOkS Tryz.prog x_limited := noXS_ok
theorem limited_args (a b : Int) : (#[.agg #[.int .i64 a, .int .i64 b]] : Array Value).toList.all (ground 8) = true := by kernel_rfl
def limited_c0 (a b : Int) : Bool := (Bool.not (Bool.and ((if ((1048576 : Int) < (if ((-1048576 : Int) > a) then (-1048576 : Int) else a)) then (1048576 : Int) else (if ((-1048576 : Int) > a) then (-1048576 : Int) else a)) == a) (Bool.and ((if ((1048576 : Int) < (if ((-1048576 : Int) > b) then (-1048576 : Int) else b)) then (1048576 : Int) else (if ((-1048576 : Int) > b) then (-1048576 : Int) else b)) == b) Bool.true)))
def limited_w0 (a b : Int) : Value := .tuple #[.agg #[.int .i64 a, .int .i64 b], .int .i64 (0 : Int)]
def limited_r0 (a b : Int) : Prop := (True ∧ (limited_c0 a b = false))
theorem limited_o0 (a b : Int) : obOf (limited_e0 a b) = limited_r0 a b := by kernel_rfl
theorem limited_v0 (a b : Int) : resOf (limited_e0 a b) = limited_w0 a b := by kernel_rfl
theorem limited_k0 (a b : Int) : cleanOf Tryz.prog.globals.size (limited_e0 a b) = true := by kernel_rfl
theorem limited_q0 (a b : Int) : limited_e0 a b = evFS Tryz.prog x_limited 1000 32 #[.agg #[.int .i64 a, .int .i64 b]] (noTabs 6) ⟨[0], True⟩ := by
  delta limited_e0
  exact Eq.refl _
theorem limited_p0 (a b : Int) (h : limited_r0 a b) (w : World) : Calls Tryz.prog 32 #[.agg #[.int .i64 a, .int .i64 b]] w fun en w' => en = .returned (limited_w0 a b) ∧ Below w.heap.size w w' := by
  have hv := limited_v0 a b
  have hc := limited_k0 a b
  have he := limited_q0 a b
  have ho := limited_o0 a b
  generalize limited_e0 a b = r at *
  exact calls_way he gfol limited_X hv rfl (limited_args a b) hc ho h (bl w)
def limited_w1 (a b : Int) : Value := .tuple #[.agg #[.int .i64 (0 : Int), .int .i64 (0 : Int)], .int .i64 (4 : Int)]
def limited_r1 (a b : Int) : Prop := (True ∧ (limited_c0 a b = true))
theorem limited_o1 (a b : Int) : obOf (limited_e1 a b) = limited_r1 a b := by kernel_rfl
theorem limited_v1 (a b : Int) : resOf (limited_e1 a b) = limited_w1 a b := by kernel_rfl
theorem limited_k1 (a b : Int) : cleanOf Tryz.prog.globals.size (limited_e1 a b) = true := by kernel_rfl
theorem limited_q1 (a b : Int) : limited_e1 a b = evFS Tryz.prog x_limited 1000 32 #[.agg #[.int .i64 a, .int .i64 b]] (noTabs 6) ⟨[1], True⟩ := by
  delta limited_e1
  exact Eq.refl _
theorem limited_p1 (a b : Int) (h : limited_r1 a b) (w : World) : Calls Tryz.prog 32 #[.agg #[.int .i64 a, .int .i64 b]] w fun en w' => en = .returned (limited_w1 a b) ∧ Below w.heap.size w w' := by
  have hv := limited_v1 a b
  have hc := limited_k1 a b
  have he := limited_q1 a b
  have ho := limited_o1 a b
  generalize limited_e1 a b = r at *
  exact calls_way he gfol limited_X hv rfl (limited_args a b) hc ho h (bl w)
theorem limited_any (a b : Int) (hpre : True) (w : World) : Calls Tryz.prog 32 #[.agg #[.int .i64 a, .int .i64 b]] w fun en w' => en = .returned (limited_val a b) ∧ Below w.heap.size w w' := by
  rcases Bool.eq_false_or_eq_true (limited_c0 a b) with h0 | h0
  ·
    unfold limited_c0 at h0
    have hp := limited_p1 a b ⟨trivial, h0⟩ w
    have hv : limited_w1 a b = (limited_val a b) := by
      clear hp
      unfold limited_w1 limited_val
      first | rfl | ((try simp only [bne_iff_ne, ne_eq, decide_eq_true_eq, decide_eq_false_iff_not, Bool.not_eq_true', Bool.not_eq_false', beq_iff_eq, beq_eq_false_iff_ne, bne_eq_false_iff_eq, Bool.and_eq_true, Bool.not_eq_true, Bool.not_eq_false, Pl.cr, parts_eq, w20, w16, wT, w20', w16', wT', Pl.lim, Pl.inB, first_two, two, oneB, Bg] at *); grind)
    exact hv ▸ hp
  ·
    unfold limited_c0 at h0
    have hp := limited_p0 a b ⟨trivial, h0⟩ w
    have hv : limited_w0 a b = (limited_val a b) := by
      clear hp
      unfold limited_w0 limited_val
      first | rfl | ((try simp only [bne_iff_ne, ne_eq, decide_eq_true_eq, decide_eq_false_iff_not, Bool.not_eq_true', Bool.not_eq_false', beq_iff_eq, beq_eq_false_iff_ne, bne_eq_false_iff_eq, Bool.and_eq_true, Bool.not_eq_true, Bool.not_eq_false, Pl.cr, parts_eq, w20, w16, wT, w20', w16', wT', Pl.lim, Pl.inB, first_two, two, oneB, Bg] at *); grind)
    exact hv ▸ hp
theorem k_limited : ConOk Tryz.prog c_limited := fun ns hl => by
  have hl0 : ns.length = 2 := hl
  clear hl
  obtain ⟨a, ns0, rfl, hl1⟩ := len_cons hl0
  obtain ⟨b, ns1, rfl, hl2⟩ := len_cons hl1
  obtain rfl := len_nil hl2
  exact ⟨rfl, fun h w => limited_any a b h w⟩
end Go.Proofs.YtjpffbekhfkibaaGreatDoor
end
section
set_option linter.all false
set_option maxRecDepth 1000000
set_option maxHeartbeats 2000000
open Go.RowKit
namespace Go.Proofs.YtjpffbekhfkibaaGreatDoor
open Mini

def range_val (n lo hi : Int) : Value := .int .i64 (Pl.cr n lo hi)
theorem range_X : FOkS Tryz.prog x_range := noXS_ok
theorem range_args (n lo hi : Int) : (#[.int .i64 n, .int .i64 lo, .int .i64 hi] : Array Value).toList.all (ground 8) = true := by kernel_rfl
def range_c0 (n lo hi : Int) : Bool := (decide (n < lo))
theorem range_g1 : (true = true) := by first | rfl | trivial | decide | omega
def range_c1 (n lo hi : Int) : Bool := (decide (n > hi))
def range_w0 (n lo hi : Int) : Value := .int .i64 (3 : Int)
def range_r0 (n lo hi : Int) : Prop := (((((True ∧ (range_c0 n lo hi = true)) ∧ (range_c0 n lo hi = true)) ∧ (range_c0 n lo hi = true)) ∧ (range_c0 n lo hi = true)) ∧ ((true = true)))
theorem range_o0 (n lo hi : Int) : obOf (range_e0 n lo hi) = range_r0 n lo hi := by kernel_rfl
theorem range_v0 (n lo hi : Int) : resOf (range_e0 n lo hi) = range_w0 n lo hi := by kernel_rfl
theorem range_k0 (n lo hi : Int) : cleanOf Tryz.prog.globals.size (range_e0 n lo hi) = true := by kernel_rfl
theorem range_q0 (n lo hi : Int) : range_e0 n lo hi = evFS Tryz.prog x_range 1000 63 #[.int .i64 n, .int .i64 lo, .int .i64 hi] (noTabs 6) ⟨[0, 0, 0, 1, 1], True⟩ := by
  delta range_e0
  exact Eq.refl _
theorem range_p0 (n lo hi : Int) (h : range_r0 n lo hi) (w : World) : Calls Tryz.prog 63 #[.int .i64 n, .int .i64 lo, .int .i64 hi] w fun en w' => en = .returned (range_w0 n lo hi) ∧ Below w.heap.size w w' := by
  have hv := range_v0 n lo hi
  have hc := range_k0 n lo hi
  have he := range_q0 n lo hi
  have ho := range_o0 n lo hi
  generalize range_e0 n lo hi = r at *
  exact calls_way he gfol range_X hv rfl (range_args n lo hi) hc ho h (bl w)
def range_w1 (n lo hi : Int) : Value := .int .i64 (3 : Int)
def range_r1 (n lo hi : Int) : Prop := (((((True ∧ (range_c0 n lo hi = false)) ∧ (range_c0 n lo hi = false)) ∧ (range_c0 n lo hi = false)) ∧ (range_c0 n lo hi = false)) ∧ (range_c1 n lo hi = true))
theorem range_o1 (n lo hi : Int) : obOf (range_e1 n lo hi) = range_r1 n lo hi := by kernel_rfl
theorem range_v1 (n lo hi : Int) : resOf (range_e1 n lo hi) = range_w1 n lo hi := by kernel_rfl
theorem range_k1 (n lo hi : Int) : cleanOf Tryz.prog.globals.size (range_e1 n lo hi) = true := by kernel_rfl
theorem range_q1 (n lo hi : Int) : range_e1 n lo hi = evFS Tryz.prog x_range 1000 63 #[.int .i64 n, .int .i64 lo, .int .i64 hi] (noTabs 6) ⟨[1, 1, 1, 0, 1], True⟩ := by
  delta range_e1
  exact Eq.refl _
theorem range_p1 (n lo hi : Int) (h : range_r1 n lo hi) (w : World) : Calls Tryz.prog 63 #[.int .i64 n, .int .i64 lo, .int .i64 hi] w fun en w' => en = .returned (range_w1 n lo hi) ∧ Below w.heap.size w w' := by
  have hv := range_v1 n lo hi
  have hc := range_k1 n lo hi
  have he := range_q1 n lo hi
  have ho := range_o1 n lo hi
  generalize range_e1 n lo hi = r at *
  exact calls_way he gfol range_X hv rfl (range_args n lo hi) hc ho h (bl w)
def range_w2 (n lo hi : Int) : Value := .int .i64 (0 : Int)
def range_r2 (n lo hi : Int) : Prop := (((((True ∧ (range_c0 n lo hi = false)) ∧ (range_c0 n lo hi = false)) ∧ (range_c0 n lo hi = false)) ∧ (range_c0 n lo hi = false)) ∧ (range_c1 n lo hi = false))
theorem range_o2 (n lo hi : Int) : obOf (range_e2 n lo hi) = range_r2 n lo hi := by kernel_rfl
theorem range_v2 (n lo hi : Int) : resOf (range_e2 n lo hi) = range_w2 n lo hi := by kernel_rfl
theorem range_k2 (n lo hi : Int) : cleanOf Tryz.prog.globals.size (range_e2 n lo hi) = true := by kernel_rfl
theorem range_q2 (n lo hi : Int) : range_e2 n lo hi = evFS Tryz.prog x_range 1000 63 #[.int .i64 n, .int .i64 lo, .int .i64 hi] (noTabs 6) ⟨[1, 1, 1, 0, 0], True⟩ := by
  delta range_e2
  exact Eq.refl _
theorem range_p2 (n lo hi : Int) (h : range_r2 n lo hi) (w : World) : Calls Tryz.prog 63 #[.int .i64 n, .int .i64 lo, .int .i64 hi] w fun en w' => en = .returned (range_w2 n lo hi) ∧ Below w.heap.size w w' := by
  have hv := range_v2 n lo hi
  have hc := range_k2 n lo hi
  have he := range_q2 n lo hi
  have ho := range_o2 n lo hi
  generalize range_e2 n lo hi = r at *
  exact calls_way he gfol range_X hv rfl (range_args n lo hi) hc ho h (bl w)
theorem range_any (n lo hi : Int) (hpre : True) (w : World) : Calls Tryz.prog 63 #[.int .i64 n, .int .i64 lo, .int .i64 hi] w fun en w' => en = .returned (range_val n lo hi) ∧ Below w.heap.size w w' := by
  rcases Bool.eq_false_or_eq_true (range_c0 n lo hi) with h0 | h0
  ·
    unfold range_c0 at h0
    have hp := range_p0 n lo hi ⟨⟨⟨⟨⟨trivial, h0⟩, h0⟩, h0⟩, h0⟩, range_g1⟩ w
    have hv : range_w0 n lo hi = (range_val n lo hi) := by
      clear hp
      unfold range_w0 range_val
      first | rfl | ((try simp only [bne_iff_ne, ne_eq, decide_eq_true_eq, decide_eq_false_iff_not, Bool.not_eq_true', Bool.not_eq_false', beq_iff_eq, beq_eq_false_iff_ne, bne_eq_false_iff_eq, Bool.and_eq_true, Bool.not_eq_true, Bool.not_eq_false, Pl.cr, parts_eq, w20, w16, wT, w20', w16', wT', Pl.lim, Pl.inB, first_two, two, oneB, Bg] at *); grind)
    exact hv ▸ hp
  ·
    unfold range_c0 at h0
    rcases Bool.eq_false_or_eq_true (range_c1 n lo hi) with h1 | h1
    ·
      unfold range_c1 at h1
      have hp := range_p1 n lo hi ⟨⟨⟨⟨⟨trivial, h0⟩, h0⟩, h0⟩, h0⟩, h1⟩ w
      have hv : range_w1 n lo hi = (range_val n lo hi) := by
        clear hp
        unfold range_w1 range_val
        first | rfl | ((try simp only [bne_iff_ne, ne_eq, decide_eq_true_eq, decide_eq_false_iff_not, Bool.not_eq_true', Bool.not_eq_false', beq_iff_eq, beq_eq_false_iff_ne, bne_eq_false_iff_eq, Bool.and_eq_true, Bool.not_eq_true, Bool.not_eq_false, Pl.cr, parts_eq, w20, w16, wT, w20', w16', wT', Pl.lim, Pl.inB, first_two, two, oneB, Bg] at *); grind)
      exact hv ▸ hp
    ·
      unfold range_c1 at h1
      have hp := range_p2 n lo hi ⟨⟨⟨⟨⟨trivial, h0⟩, h0⟩, h0⟩, h0⟩, h1⟩ w
      have hv : range_w2 n lo hi = (range_val n lo hi) := by
        clear hp
        unfold range_w2 range_val
        first | rfl | ((try simp only [bne_iff_ne, ne_eq, decide_eq_true_eq, decide_eq_false_iff_not, Bool.not_eq_true', Bool.not_eq_false', beq_iff_eq, beq_eq_false_iff_ne, bne_eq_false_iff_eq, Bool.and_eq_true, Bool.not_eq_true, Bool.not_eq_false, Pl.cr, parts_eq, w20, w16, wT, w20', w16', wT', Pl.lim, Pl.inB, first_two, two, oneB, Bg] at *); grind)
      exact hv ▸ hp
theorem k_range : ConOk Tryz.prog c_range := fun ns hl => by
  have hl0 : ns.length = 3 := hl
  clear hl
  obtain ⟨n, ns0, rfl, hl1⟩ := len_cons hl0
  obtain ⟨lo, ns1, rfl, hl2⟩ := len_cons hl1
  obtain ⟨hi, ns2, rfl, hl3⟩ := len_cons hl2
  obtain rfl := len_nil hl3
  exact ⟨rfl, fun h w => range_any n lo hi h w⟩
end Go.Proofs.YtjpffbekhfkibaaGreatDoor
end
section
set_option linter.all false
set_option maxRecDepth 1000000
set_option maxHeartbeats 2000000
open Go.RowKit
namespace Go.Proofs.YtjpffbekhfkibaaGreatDoor
open Mini

def checkTurn_val (n : Int) : Value := .int .i64 (Pl.cr n (-1000000) 1000000)
theorem checkTurn_X : FOkS Tryz.prog x_checkTurn := kAll_ok _ ⟨k_range, trivial⟩
theorem checkTurn_args (n : Int) : (#[.int .i64 n] : Array Value).toList.all (ground 8) = true := by kernel_rfl
theorem checkTurn_g0 : True := by first | rfl | trivial | decide | omega
def checkTurn_w0 (n : Int) : Value := .int .i64 (Pl.cr n (-1000000 : Int) (1000000 : Int))
def checkTurn_r0 (n : Int) : Prop := (True ∧ (True))
theorem checkTurn_o0 (n : Int) : obOf (checkTurn_e0 n) = checkTurn_r0 n := by kernel_rfl
theorem checkTurn_v0 (n : Int) : resOf (checkTurn_e0 n) = checkTurn_w0 n := by kernel_rfl
theorem checkTurn_k0 (n : Int) : cleanOf Tryz.prog.globals.size (checkTurn_e0 n) = true := by kernel_rfl
theorem checkTurn_q0 (n : Int) : checkTurn_e0 n = evFS Tryz.prog x_checkTurn 1000 31 #[.int .i64 n] (noTabs 6) ⟨[], True⟩ := by
  delta checkTurn_e0
  exact Eq.refl _
theorem checkTurn_p0 (n : Int) (h : checkTurn_r0 n) (w : World) : Calls Tryz.prog 31 #[.int .i64 n] w fun en w' => en = .returned (checkTurn_w0 n) ∧ Below w.heap.size w w' := by
  have hv := checkTurn_v0 n
  have hc := checkTurn_k0 n
  have he := checkTurn_q0 n
  have ho := checkTurn_o0 n
  generalize checkTurn_e0 n = r at *
  exact calls_way he gfol checkTurn_X hv rfl (checkTurn_args n) hc ho h (bl w)
theorem checkTurn_any (n : Int) (hpre : True) (w : World) : Calls Tryz.prog 31 #[.int .i64 n] w fun en w' => en = .returned (checkTurn_val n) ∧ Below w.heap.size w w' := by
  have hp := checkTurn_p0 n ⟨trivial, checkTurn_g0⟩ w
  have hv : checkTurn_w0 n = (checkTurn_val n) := by
    clear hp
    unfold checkTurn_w0 checkTurn_val
    first | rfl | ((try simp only [bne_iff_ne, ne_eq, decide_eq_true_eq, decide_eq_false_iff_not, Bool.not_eq_true', Bool.not_eq_false', beq_iff_eq, beq_eq_false_iff_ne, bne_eq_false_iff_eq, Bool.and_eq_true, Bool.not_eq_true, Bool.not_eq_false, Pl.cr, parts_eq, w20, w16, wT, w20', w16', wT', Pl.lim, Pl.inB, first_two, two, oneB, Bg] at *); grind)
  exact hv ▸ hp
theorem k_checkTurn : ConOk Tryz.prog c_checkTurn := fun ns hl => by
  have hl0 : ns.length = 1 := hl
  clear hl
  obtain ⟨n, ns0, rfl, hl1⟩ := len_cons hl0
  obtain rfl := len_nil hl1
  exact ⟨rfl, fun h w => checkTurn_any n h w⟩
end Go.Proofs.YtjpffbekhfkibaaGreatDoor
end
section
set_option linter.all false
set_option maxRecDepth 1000000
set_option maxHeartbeats 2000000
open Go.RowKit
namespace Go.Proofs.YtjpffbekhfkibaaGreatDoor
open Mini

def checkEisen_val (a b : Int) : Value := .int .i64 (Pl.parts a b 1048576)
theorem checkEisen_X : FOkS Tryz.prog x_checkEisen := kAll_ok _ ⟨k_range, trivial⟩
theorem checkEisen_args (a b : Int) : (#[.agg #[.int .i64 a, .int .i64 b]] : Array Value).toList.all (ground 8) = true := by kernel_rfl
theorem checkEisen_g0 : True := by first | rfl | trivial | decide | omega
theorem checkEisen_g1 : (true = true) := by first | rfl | trivial | decide | omega
theorem checkEisen_g2 : ((0 : Int) = (0 : Int)) := by first | rfl | trivial | decide | omega
def checkEisen_c0 (a b : Int) : Bool := ((Pl.cr a (-1048576 : Int) (1048576 : Int)) != (0 : Int))
theorem checkEisen_g4 : ((1 : Int) = (1 : Int)) := by first | rfl | trivial | decide | omega
def checkEisen_c1 (a b : Int) : Bool := ((Pl.cr b (-1048576 : Int) (1048576 : Int)) != (0 : Int))
theorem checkEisen_g6 : (false = false) := by first | rfl | trivial | decide | omega
def checkEisen_w0 (a b : Int) : Value := .int .i64 (0 : Int)
def checkEisen_r0 (a b : Int) : Prop := (((((((((True ∧ (True)) ∧ (True)) ∧ ((true = true))) ∧ (((0 : Int) = (0 : Int)))) ∧ (checkEisen_c0 a b = false)) ∧ ((true = true))) ∧ (((1 : Int) = (1 : Int)))) ∧ (checkEisen_c1 a b = false)) ∧ ((false = false)))
theorem checkEisen_o0 (a b : Int) : obOf (checkEisen_e0 a b) = checkEisen_r0 a b := by kernel_rfl
theorem checkEisen_v0 (a b : Int) : resOf (checkEisen_e0 a b) = checkEisen_w0 a b := by kernel_rfl
theorem checkEisen_k0 (a b : Int) : cleanOf Tryz.prog.globals.size (checkEisen_e0 a b) = true := by kernel_rfl
theorem checkEisen_q0 (a b : Int) : checkEisen_e0 a b = evFS Tryz.prog x_checkEisen 1000 30 #[.agg #[.int .i64 a, .int .i64 b]] (noTabs 6) ⟨[1, 0, 0, 1, 1, 0, 0], True⟩ := by
  delta checkEisen_e0
  exact Eq.refl _
theorem checkEisen_p0 (a b : Int) (h : checkEisen_r0 a b) (w : World) : Calls Tryz.prog 30 #[.agg #[.int .i64 a, .int .i64 b]] w fun en w' => en = .returned (checkEisen_w0 a b) ∧ Below w.heap.size w w' := by
  have hv := checkEisen_v0 a b
  have hc := checkEisen_k0 a b
  have he := checkEisen_q0 a b
  have ho := checkEisen_o0 a b
  generalize checkEisen_e0 a b = r at *
  exact calls_way he gfol checkEisen_X hv rfl (checkEisen_args a b) hc ho h (bl w)
def checkEisen_w1 (a b : Int) : Value := .int .i64 (Pl.cr b (-1048576 : Int) (1048576 : Int))
def checkEisen_r1 (a b : Int) : Prop := ((((((((True ∧ (True)) ∧ (True)) ∧ ((true = true))) ∧ (((0 : Int) = (0 : Int)))) ∧ (checkEisen_c0 a b = false)) ∧ ((true = true))) ∧ (((1 : Int) = (1 : Int)))) ∧ (checkEisen_c1 a b = true))
theorem checkEisen_o1 (a b : Int) : obOf (checkEisen_e1 a b) = checkEisen_r1 a b := by kernel_rfl
theorem checkEisen_v1 (a b : Int) : resOf (checkEisen_e1 a b) = checkEisen_w1 a b := by kernel_rfl
theorem checkEisen_k1 (a b : Int) : cleanOf Tryz.prog.globals.size (checkEisen_e1 a b) = true := by kernel_rfl
theorem checkEisen_q1 (a b : Int) : checkEisen_e1 a b = evFS Tryz.prog x_checkEisen 1000 30 #[.agg #[.int .i64 a, .int .i64 b]] (noTabs 6) ⟨[1, 0, 0, 1, 1, 1], True⟩ := by
  delta checkEisen_e1
  exact Eq.refl _
theorem checkEisen_p1 (a b : Int) (h : checkEisen_r1 a b) (w : World) : Calls Tryz.prog 30 #[.agg #[.int .i64 a, .int .i64 b]] w fun en w' => en = .returned (checkEisen_w1 a b) ∧ Below w.heap.size w w' := by
  have hv := checkEisen_v1 a b
  have hc := checkEisen_k1 a b
  have he := checkEisen_q1 a b
  have ho := checkEisen_o1 a b
  generalize checkEisen_e1 a b = r at *
  exact calls_way he gfol checkEisen_X hv rfl (checkEisen_args a b) hc ho h (bl w)
def checkEisen_w2 (a b : Int) : Value := .int .i64 (Pl.cr a (-1048576 : Int) (1048576 : Int))
def checkEisen_r2 (a b : Int) : Prop := (((((True ∧ (True)) ∧ (True)) ∧ ((true = true))) ∧ (((0 : Int) = (0 : Int)))) ∧ (checkEisen_c0 a b = true))
theorem checkEisen_o2 (a b : Int) : obOf (checkEisen_e2 a b) = checkEisen_r2 a b := by kernel_rfl
theorem checkEisen_v2 (a b : Int) : resOf (checkEisen_e2 a b) = checkEisen_w2 a b := by kernel_rfl
theorem checkEisen_k2 (a b : Int) : cleanOf Tryz.prog.globals.size (checkEisen_e2 a b) = true := by kernel_rfl
theorem checkEisen_q2 (a b : Int) : checkEisen_e2 a b = evFS Tryz.prog x_checkEisen 1000 30 #[.agg #[.int .i64 a, .int .i64 b]] (noTabs 6) ⟨[1, 0, 1], True⟩ := by
  delta checkEisen_e2
  exact Eq.refl _
theorem checkEisen_p2 (a b : Int) (h : checkEisen_r2 a b) (w : World) : Calls Tryz.prog 30 #[.agg #[.int .i64 a, .int .i64 b]] w fun en w' => en = .returned (checkEisen_w2 a b) ∧ Below w.heap.size w w' := by
  have hv := checkEisen_v2 a b
  have hc := checkEisen_k2 a b
  have he := checkEisen_q2 a b
  have ho := checkEisen_o2 a b
  generalize checkEisen_e2 a b = r at *
  exact calls_way he gfol checkEisen_X hv rfl (checkEisen_args a b) hc ho h (bl w)
theorem checkEisen_any (a b : Int) (hpre : True) (w : World) : Calls Tryz.prog 30 #[.agg #[.int .i64 a, .int .i64 b]] w fun en w' => en = .returned (checkEisen_val a b) ∧ Below w.heap.size w w' := by
  rcases Bool.eq_false_or_eq_true (checkEisen_c0 a b) with h0 | h0
  ·
    unfold checkEisen_c0 at h0
    have hp := checkEisen_p2 a b ⟨⟨⟨⟨⟨trivial, checkEisen_g0⟩, checkEisen_g0⟩, checkEisen_g1⟩, checkEisen_g2⟩, h0⟩ w
    have hv : checkEisen_w2 a b = (checkEisen_val a b) := by
      clear hp
      unfold checkEisen_w2 checkEisen_val
      first | rfl | ((try simp only [bne_iff_ne, ne_eq, decide_eq_true_eq, decide_eq_false_iff_not, Bool.not_eq_true', Bool.not_eq_false', beq_iff_eq, beq_eq_false_iff_ne, bne_eq_false_iff_eq, Bool.and_eq_true, Bool.not_eq_true, Bool.not_eq_false, Pl.cr, parts_eq, w20, w16, wT, w20', w16', wT', Pl.lim, Pl.inB, first_two, two, oneB, Bg] at *); grind)
    exact hv ▸ hp
  ·
    unfold checkEisen_c0 at h0
    rcases Bool.eq_false_or_eq_true (checkEisen_c1 a b) with h1 | h1
    ·
      unfold checkEisen_c1 at h1
      have hp := checkEisen_p1 a b ⟨⟨⟨⟨⟨⟨⟨⟨trivial, checkEisen_g0⟩, checkEisen_g0⟩, checkEisen_g1⟩, checkEisen_g2⟩, h0⟩, checkEisen_g1⟩, checkEisen_g4⟩, h1⟩ w
      have hv : checkEisen_w1 a b = (checkEisen_val a b) := by
        clear hp
        unfold checkEisen_w1 checkEisen_val
        first | rfl | ((try simp only [bne_iff_ne, ne_eq, decide_eq_true_eq, decide_eq_false_iff_not, Bool.not_eq_true', Bool.not_eq_false', beq_iff_eq, beq_eq_false_iff_ne, bne_eq_false_iff_eq, Bool.and_eq_true, Bool.not_eq_true, Bool.not_eq_false, Pl.cr, parts_eq, w20, w16, wT, w20', w16', wT', Pl.lim, Pl.inB, first_two, two, oneB, Bg] at *); grind)
      exact hv ▸ hp
    ·
      unfold checkEisen_c1 at h1
      have hp := checkEisen_p0 a b ⟨⟨⟨⟨⟨⟨⟨⟨⟨trivial, checkEisen_g0⟩, checkEisen_g0⟩, checkEisen_g1⟩, checkEisen_g2⟩, h0⟩, checkEisen_g1⟩, checkEisen_g4⟩, h1⟩, checkEisen_g6⟩ w
      have hv : checkEisen_w0 a b = (checkEisen_val a b) := by
        clear hp
        unfold checkEisen_w0 checkEisen_val
        first | rfl | ((try simp only [bne_iff_ne, ne_eq, decide_eq_true_eq, decide_eq_false_iff_not, Bool.not_eq_true', Bool.not_eq_false', beq_iff_eq, beq_eq_false_iff_ne, bne_eq_false_iff_eq, Bool.and_eq_true, Bool.not_eq_true, Bool.not_eq_false, Pl.cr, parts_eq, w20, w16, wT, w20', w16', wT', Pl.lim, Pl.inB, first_two, two, oneB, Bg] at *); grind)
      exact hv ▸ hp
theorem k_checkEisen : ConOk Tryz.prog c_checkEisen := fun ns hl => by
  have hl0 : ns.length = 2 := hl
  clear hl
  obtain ⟨a, ns0, rfl, hl1⟩ := len_cons hl0
  obtain ⟨b, ns1, rfl, hl2⟩ := len_cons hl1
  obtain rfl := len_nil hl2
  exact ⟨rfl, fun h w => checkEisen_any a b h w⟩
end Go.Proofs.YtjpffbekhfkibaaGreatDoor
end
section
set_option linter.all false
set_option maxRecDepth 1000000
open Go.RowKit
namespace Go.Proofs.YtjpffbekhfkibaaGreatDoor
open Mini
noncomputable def frX : Code := loopOf Tryz.prog 6
noncomputable def frK : CallS := kAll [c_turn, c_limited]
noncomputable def frKF (v : Int → Int → Int) : CallS := bothX (kEachE v) (kAll [c_checkTurn])
def frArgs (n c : Nat) (s : Int) : Array Value := #[.slice (some ⟨6, 0, none⟩) n c, .int .i64 s]
def frQ (s : Int) (i : Nat) : Int := IntKind.i64.wrap (IntKind.i64.wrap (0 - s) * (i : Int))
def frT (g : Nat → Nat → Int) (s : Int) (i : Nat) : (Int × Int) × Int := Pl.lim ((Pl.turn (g i 0, g i 1) (frQ s i)).1, (Pl.turn (g i 0, g i 1) (frQ s i)).2)
def frW (g : Nat → Nat → Int) (s : Int) (i : Nat) : List Value := [.int .i64 (frT g s i).1.1, .int .i64 (frT g s i).1.2]
def frZ : List Value := [.int .i64 0, .int .i64 0]
def frZ0 : Nat → Nat → Value := fun _ j => (#[.int .i64 0, .int .i64 0] : Array Value).getD j (.chan none)
def frL (n : Nat) (g : Nat → Nat → Int) (e : TypeId) (opn : Bool) (sz : Nat) (ro : Bool) (s u1 u2 : Int) (i : Nat) : List MObj := [rowI 2 n g e opn sz ro, .cells [.int .i64 u1, .int .i64 u2] 31 false 0 false, .rows n 2 (fillG frZ (frW g s) i) 29 false 0 false]
def frL0 (n : Nat) (g : Nat → Nat → Int) (e : TypeId) (opn : Bool) (sz : Nat) (ro : Bool) (u1 u2 : Int) : List MObj := [rowI 2 n g e opn sz ro, .cells [.int .i64 u1, .int .i64 u2] 31 false 0 false, .rows n 2 frZ0 29 false 0 false]
def frA (n c : Nat) (s : Int) (i : Nat) : MA := MA.ofL 50 [.chan none, .int .i64 s, .chan none, .chan none, .chan none, .chan none, .chan none, .slice (some ⟨8, 0, none⟩) n n, .chan none, .chan none, .chan none, .chan none, .chan none, .chan none, .chan none, .chan none, .chan none, .chan none, .chan none, .chan none, .chan none, .chan none, .chan none, .chan none, .slice (some ⟨6, 0, none⟩) n c, .int .i64 (n : Int), .int .i64 (i : Int), .chan none, .chan none, .chan none, .chan none, .chan none, .chan none, .chan none, .chan none, .chan none, .chan none, .chan none, .chan none, .chan none, .chan none, .chan none, .chan none, .chan none, .chan none, .chan none, .chan none, .chan none, .chan none, .chan none] []
def frB (r : Int) : MA := MA.ofL 50 [.chan none, .chan none, .chan none, .chan none, .slice none 0 0, .int .i64 r, .chan none, .chan none, .chan none, .chan none, .chan none, .chan none, .chan none, .chan none, .chan none, .chan none, .chan none, .chan none, .chan none, .chan none, .chan none, .chan none, .chan none, .chan none, .chan none, .chan none, .chan none, .chan none, .chan none, .chan none, .chan none, .chan none, .chan none, .chan none, .chan none, .chan none, .chan none, .chan none, .chan none, .chan none, .chan none, .chan none, .chan none, .chan none, .chan none, .chan none, .chan none, .chan none, .chan none, .chan none] []
def frE (n : Nat) : MA := MA.ofL 50 [.chan none, .chan none, .chan none, .chan none, .chan none, .chan none, .chan none, .slice (some ⟨8, 0, none⟩) n n, .chan none, .chan none, .chan none, .chan none, .chan none, .chan none, .chan none, .chan none, .chan none, .chan none, .chan none, .chan none, .chan none, .chan none, .chan none, .chan none, .chan none, .chan none, .chan none, .chan none, .chan none, .chan none, .chan none, .chan none, .chan none, .chan none, .chan none, .chan none, .chan none, .chan none, .chan none, .chan none, .chan none, .chan none, .chan none, .chan none, .chan none, .chan none, .chan none, .chan none, .chan none, .chan none] []
def frU1 (v : Int → Int → Int) (n : Nat) (g : Nat → Nat → Int) : Int := feN (fun i => v (g i 0) (g i 1)) n 0
def frU2 (s : Int) : Int := Pl.cr s (-1000000) 1000000
noncomputable def frR (n c : Nat) (g : Nat → Nat → Int) (e : TypeId) (opn : Bool) (sz : Nat) (ro : Bool) (s u1 u2 : Int) (i : Nat) : Option OutCS := evCRS Tryz.prog frK 1000 none false frX (frA n c s i) (wS 6 (frL n g e opn sz ro s u1 u2 (i))) ⟨[1, .row i 0, .row i 0, 0, .row i 0, .row i 0, .azz (.int .i64 ((i + 1 : Nat) : Int))], True⟩
noncomputable def frW1 (n c : Nat) (g : Nat → Nat → Int) (e : TypeId) (opn : Bool) (sz : Nat) (ro : Bool) (s u1 u2 : Int) (i : Nat) : Option OutCS := evCRS Tryz.prog frK 1000 none false frX (frA n c s i) (wS 6 (frL n g e opn sz ro s u1 u2 (i))) ⟨[1, .row i 0, .row i 0, 1], True⟩
noncomputable def frN (n c : Nat) (g : Nat → Nat → Int) (e : TypeId) (opn : Bool) (sz : Nat) (ro : Bool) (s u1 u2 : Int) (i : Nat) : Option OutCS := evCRS Tryz.prog frK 1000 none false frX (frA n c s i) (wS 6 (frL n g e opn sz ro s u1 u2 (i))) ⟨[0], True⟩
noncomputable def frF_many (v : Int → Int → Int) (n c : Nat) (g : Nat → Nat → Int) (e : TypeId) (opn : Bool) (sz : Nat) (ro : Bool) (s : Int) : Option OutS := evFS Tryz.prog (frKF v) 1000 6 (frArgs n c s) (wS 6 [rowI 2 n g e opn sz ro]) ⟨[1, 1, 0, 1, 1], True⟩
noncomputable def frF_e1 (v : Int → Int → Int) (n c : Nat) (g : Nat → Nat → Int) (e : TypeId) (opn : Bool) (sz : Nat) (ro : Bool) (s : Int) : Option OutS := evFS Tryz.prog (frKF v) 1000 6 (frArgs n c s) (wS 6 [rowI 2 n g e opn sz ro]) ⟨[0, 1, 0, 1, 1], True⟩
noncomputable def frF_e2 (v : Int → Int → Int) (n c : Nat) (g : Nat → Nat → Int) (e : TypeId) (opn : Bool) (sz : Nat) (ro : Bool) (s : Int) : Option OutS := evFS Tryz.prog (frKF v) 1000 6 (frArgs n c s) (wS 6 [rowI 2 n g e opn sz ro]) ⟨[0, 1, 0, 0, 1, 1, 1, 1], True⟩
noncomputable def frF_ret (v : Int → Int → Int) (n c : Nat) (g : Nat → Nat → Int) (e : TypeId) (opn : Bool) (sz : Nat) (ro : Bool) (s r : Int) (j : Nat) : Option OutS := evFS Tryz.prog (frKF v) 1000 6 (frArgs n c s) (wS 6 [rowI 2 n g e opn sz ro]) ⟨[0, 1, 0, 0, 1, 1, 0, 0, 0, .row n 0, .lp 117440642 (frA n c s 0) 6 (frL0 n g e opn sz ro (frU1 v n g) (frU2 s)) .ret (frB r) (frL n g e opn sz ro s (frU1 v n g) (frU2 s) j) 448 256], True⟩
noncomputable def frF_end (v : Int → Int → Int) (n c : Nat) (g : Nat → Nat → Int) (e : TypeId) (opn : Bool) (sz : Nat) (ro : Bool) (s : Int) : Option OutS := evFS Tryz.prog (frKF v) 1000 6 (frArgs n c s) (wS 6 [rowI 2 n g e opn sz ro]) ⟨[0, 1, 0, 0, 1, 1, 0, 0, 0, .row n 0, .lp 117440642 (frA n c s 0) 6 (frL0 n g e opn sz ro (frU1 v n g) (frU2 s)) (.exit 0) (frE n) (frL n g e opn sz ro s (frU1 v n g) (frU2 s) n) 448 256], True⟩
theorem frK_ok : FOkS Tryz.prog frK := kAll_ok _ ⟨k_turn, k_limited, trivial⟩
theorem frKF_ok {v : Int → Int → Int} (hc : ConOk Tryz.prog (ceC v)) : FOkS Tryz.prog (frKF v) := bothX_ok (kEachE_ok hc) (kAll_ok _ ⟨k_checkTurn, trivial⟩)
section
variable (n c : Nat) (g : Nat → Nat → Int) (e : TypeId) (opn : Bool) (sz : Nat) (ro : Bool) (s u1 u2 : Int) (i : Nat)
theorem frR_eq : seenF 6 3 117440642 (frR n c g e opn sz ro s u1 u2 i) = some (.normal, frA n c s (i + 1), [rowI 2 n g e opn sz ro, .cells [.int .i64 u1, .int .i64 u2] 31 false 0 false, .rows n 2 (setRow (fillG frZ (frW g s) i) i 0 (frW g s i)) 29 false 0 false], 1600, 1792, ⟨[], (((((((((True ∧ ((decide ((((i : Nat)) : Int) < (((n : Nat)) : Int))) = true)) ∧ (((((i : Nat)) : Int) = (Int.ofNat i)) ∧ (i < n))) ∧ (((0 + (i * 2)) = ((i * 2) + 0)) ∧ (i < n))) ∧ (((- (1099511627776 : Int)) ≤ (g i 0)) ∧ (((g i 0) ≤ (1099511627776 : Int)) ∧ (((- (1099511627776 : Int)) ≤ (g i 1)) ∧ ((g i 1) ≤ (1099511627776 : Int)))))) ∧ True) ∧ ((((Pl.lim (((Pl.turn ((g i 0), (g i 1)) (IntKind.i64.wrap ((IntKind.i64.wrap ((0 : Int) - s)) * (((i : Nat)) : Int))))).1, ((Pl.turn ((g i 0), (g i 1)) (IntKind.i64.wrap ((IntKind.i64.wrap ((0 : Int) - s)) * (((i : Nat)) : Int))))).2))).2 != (0 : Int)) = false)) ∧ (((((i : Nat)) : Int) = (Int.ofNat i)) ∧ (i < n))) ∧ (((0 + (i * 2)) = ((i * 2) + 0)) ∧ (i < n))) ∧ (((.int .i64 (IntKind.i64.wrap ((((i : Nat)) : Int) + (1 : Int)))) : Value) = (.int .i64 ((((i + 1) : Nat)) : Int))))⟩) := by kernel_rfl
theorem frW1_eq : seenF 6 3 48 (frW1 n c g e opn sz ro s u1 u2 i) = some (.ret, frB (frT g s i).2, frL n g e opn sz ro s u1 u2 i, 576, 1536, ⟨[], ((((((True ∧ ((decide ((((i : Nat)) : Int) < (((n : Nat)) : Int))) = true)) ∧ (((((i : Nat)) : Int) = (Int.ofNat i)) ∧ (i < n))) ∧ (((0 + (i * 2)) = ((i * 2) + 0)) ∧ (i < n))) ∧ (((- (1099511627776 : Int)) ≤ (g i 0)) ∧ (((g i 0) ≤ (1099511627776 : Int)) ∧ (((- (1099511627776 : Int)) ≤ (g i 1)) ∧ ((g i 1) ≤ (1099511627776 : Int)))))) ∧ True) ∧ ((((Pl.lim (((Pl.turn ((g i 0), (g i 1)) (IntKind.i64.wrap ((IntKind.i64.wrap ((0 : Int) - s)) * (((i : Nat)) : Int))))).1, ((Pl.turn ((g i 0), (g i 1)) (IntKind.i64.wrap ((IntKind.i64.wrap ((0 : Int) - s)) * (((i : Nat)) : Int))))).2))).2 != (0 : Int)) = true))⟩) := by kernel_rfl
theorem frN_eq : seenF 6 3 128 (frN n c g e opn sz ro s u1 u2 i) = some ((.exit (0 : Nat)), frE n, frL n g e opn sz ro s u1 u2 i, 0, 0, ⟨[], (True ∧ ((decide ((((i : Nat)) : Int) < (((n : Nat)) : Int))) = false))⟩) := by kernel_rfl
theorem frA_keep : allKeep (6 + 3) (frA n c s i) 50 = true := by kernel_rfl
theorem frL_keep : ∀ o, o ∈ frL n g e opn sz ro s u1 u2 i → keepO (below (6 + 3)) o := fun o ho => by
  simp only [frL, List.mem_cons, List.not_mem_nil, or_false] at ho
  rcases ho with rfl | rfl | rfl
  · exact rowI_keep _ _ _ _ _ _ _
  · rfl
  · exact fill_keep rfl (fun a => rfl)
theorem frL_set : [rowI 2 n g e opn sz ro, .cells [.int .i64 u1, .int .i64 u2] 31 false 0 false, .rows n 2 (setRow (fillG frZ (frW g s) i) i 0 (frW g s i)) 29 false 0 false] = frL n g e opn sz ro s u1 u2 (i + 1) := by rw [fill_set (z := frZ) (w := frW g s) (i := i) rfl]; rfl
theorem frZ0_eq : frZ0 = fillG frZ (frW g s) 0 := by
  rw [← fill_zero frZ (frW g s)]
  funext a j
  match j with
  | 0 => rfl
  | 1 => rfl
  | j + 2 =>
    simp [frZ0, frZ, List.getD, Array.getD]
    intro h; omega
theorem frL0_eq : frL0 n g e opn sz ro u1 u2 = frL n g e opn sz ro s u1 u2 0 := by unfold frL0 frL; rw [frZ0_eq g s]
variable {n i}
theorem fr_go (hn : n ≤ 256) (hi : i < n) (hg : Bg 1099511627776 (g i 0) (g i 1)) (h0 : (frT g s i).2 = 0) : SndC Tryz.prog none frX (frA n c s i).act (wS 6 (frL n g e opn sz ro s u1 u2 (i))) .normal (frA n c s (i + 1)).act (wS 6 (frL n g e opn sz ro s u1 u2 (i + 1))) 448 256 := by
  have h := frR_eq n c g e opn sz ro s u1 u2 i
  rw [frL_set] at h
  refine wayF_ok smx frK_ok sng h ?_ rfl (frA_keep n c s i) (frL_keep n g e opn sz ro s u1 u2 i) (frL_keep n g e opn sz ro s u1 u2 (i + 1)) (fun k hk hw => ?_) (by exact (by decide : ∀ b, b < 6 → Nat.testBit 1792 b = false)) (by exact (by decide : ∀ b, b < 9 → Nat.testBit 1600 b = true → Nat.testBit 448 b = true)) (by exact (by decide : ∀ b, b < 9 → Nat.testBit 256 b = Nat.testBit 1792 b))
  · repeat' apply And.intro
    all_goals first | trivial | rfl | exact decide_eq_true (by omega) | omega | exact hg.1 | exact hg.2.1 | exact hg.2.2.1 | exact hg.2.2.2 | exact bne_eq_false_iff_eq.2 h0 | exact wnextV hi (by omega)
  · match k, hk, hw with
    | 0, _, hw => exact absurd hw (by decide)
    | 1, _, hw => exact absurd hw (by decide)
    | 2, _, hw => exact ⟨fun h => (by cases h), rfl⟩
theorem fr_bad (hn : n ≤ 256) (hi : i < n) (hg : Bg 1099511627776 (g i 0) (g i 1)) (h0 : (frT g s i).2 ≠ 0) : SndC Tryz.prog none frX (frA n c s i).act (wS 6 (frL n g e opn sz ro s u1 u2 (i))) .ret (frB (frT g s i).2).act (wS 6 (frL n g e opn sz ro s u1 u2 (i))) 448 256 := by
  refine (wayF_ok0 smx frK_ok sng (frW1_eq n c g e opn sz ro s u1 u2 i) ?_ rfl (frA_keep n c s i) (frL_keep n g e opn sz ro s u1 u2 i) (frL_keep n g e opn sz ro s u1 u2 i) (by exact (by decide : ∀ b, b < 9 → Nat.testBit 1536 b = false)) (R2 := 448) (by exact (by decide : ∀ b, b < 9 → Nat.testBit 576 b = true → Nat.testBit 448 b = true))).wide (fun b hb => by rw [or_bit, hb]; rfl) (fun b hb => by simp at hb)
  repeat' apply And.intro
  all_goals first | trivial | rfl | exact decide_eq_true (by omega) | omega | exact hg.1 | exact hg.2.1 | exact hg.2.2.1 | exact hg.2.2.2 | exact bne_iff_ne.2 h0
theorem fr_end (hi : ¬ i < n) : SndC Tryz.prog none frX (frA n c s i).act (wS 6 (frL n g e opn sz ro s u1 u2 (i))) (.exit 0) (frE n).act (wS 6 (frL n g e opn sz ro s u1 u2 (i))) 448 256 := by
  refine (wayF_ok0 smx frK_ok sng (frN_eq n c g e opn sz ro s u1 u2 i) ⟨trivial, decide_eq_false (by omega)⟩ rfl (frA_keep n c s i) (frL_keep n g e opn sz ro s u1 u2 i) (frL_keep n g e opn sz ro s u1 u2 i) (by exact (by decide : ∀ b, b < 9 → Nat.testBit 0 b = false)) (R2 := 448) (by exact (by decide : ∀ b, b < 9 → Nat.testBit 0 b = true → Nat.testBit 448 b = true))).wide (fun b hb => by rw [or_bit, hb]; rfl) (fun b hb => by simp at hb)
end
section
variable (v : Int → Int → Int) (n c : Nat) (g : Nat → Nat → Int) (e : TypeId) (opn : Bool) (sz : Nat) (ro : Bool) (s r : Int) (j : Nat)
theorem frF_manyeq : frF_many v n c g e opn sz ro s = some ((.tuple #[(.slice none (0 : Nat) (0 : Nat)), (.int .i64 (5 : Int))]), wldOf (frF_many v n c g e opn sz ro s), 0, 0, ⟨[], ((((((True ∧ ((decide ((((n : Nat)) : Int) > (256 : Int))) = true)) ∧ True) ∧ ((decide ((0 : Int) < (((2 : Nat)) : Int))) = true)) ∧ ((0 : Int) = (Int.ofNat 0))) ∧ (((5 : Int) != (0 : Int)) = true)) ∧ (((5 : Int) != (0 : Int)) = true))⟩) := by kernel_rfl
theorem frF_e1eq : frF_e1 v n c g e opn sz ro s = some ((.tuple #[(.slice none (0 : Nat) (0 : Nat)), (.int .i64 (feN (fun (i : Nat) => (v (gI (Value.int .i64 (g i 0))) (gI (Value.int .i64 (g i 1))))) n (0 : Nat)))]), wldOf (frF_e1 v n c g e opn sz ro s), 64, 0, ⟨[], (((((((True ∧ ((decide ((((n : Nat)) : Int) > (256 : Int))) = false)) ∧ (((n = n) ∧ (∀ (i : Nat), ((i < n) → (∀ (j : Nat), ((j < (2 : Nat)) → ((Value.int .i64 (g i j)) = (Value.int .i64 (gI (Value.int .i64 (g i j)))))))))) ∧ ((((n : Nat)) : Int) ≤ (9223372036854775807 : Int)))) ∧ True) ∧ ((decide ((0 : Int) < (((2 : Nat)) : Int))) = true)) ∧ ((0 : Int) = (Int.ofNat 0))) ∧ (((feN (fun (i : Nat) => (v (gI (Value.int .i64 (g i 0))) (gI (Value.int .i64 (g i 1))))) n (0 : Nat)) != (0 : Int)) = true)) ∧ (((feN (fun (i : Nat) => (v (gI (Value.int .i64 (g i 0))) (gI (Value.int .i64 (g i 1))))) n (0 : Nat)) != (0 : Int)) = true))⟩) := by kernel_rfl
theorem frF_e2eq : frF_e2 v n c g e opn sz ro s = some ((.tuple #[(.slice none (0 : Nat) (0 : Nat)), (.int .i64 (Pl.cr s (- (1000000 : Int)) (1000000 : Int)))]), wldOf (frF_e2 v n c g e opn sz ro s), 64, 0, ⟨[], ((((((((((True ∧ ((decide ((((n : Nat)) : Int) > (256 : Int))) = false)) ∧ (((n = n) ∧ (∀ (i : Nat), ((i < n) → (∀ (j : Nat), ((j < (2 : Nat)) → ((Value.int .i64 (g i j)) = (Value.int .i64 (gI (Value.int .i64 (g i j)))))))))) ∧ ((((n : Nat)) : Int) ≤ (9223372036854775807 : Int)))) ∧ True) ∧ ((decide ((0 : Int) < (((2 : Nat)) : Int))) = true)) ∧ ((0 : Int) = (Int.ofNat 0))) ∧ (((feN (fun (i : Nat) => (v (gI (Value.int .i64 (g i 0))) (gI (Value.int .i64 (g i 1))))) n (0 : Nat)) != (0 : Int)) = false)) ∧ ((decide ((IntKind.i64.wrap ((0 : Int) + (1 : Int))) < (((2 : Nat)) : Int))) = true)) ∧ ((IntKind.i64.wrap ((0 : Int) + (1 : Int))) = (Int.ofNat 1))) ∧ (((Pl.cr s (- (1000000 : Int)) (1000000 : Int)) != (0 : Int)) = true)) ∧ (((Pl.cr s (- (1000000 : Int)) (1000000 : Int)) != (0 : Int)) = true))⟩) := by kernel_rfl
theorem frF_reteq : frF_ret v n c g e opn sz ro s r j = some ((.tuple #[(.slice none (0 : Nat) (0 : Nat)), (.int .i64 r)]), wldOf (frF_ret v n c g e opn sz ro s r j), 64, 0, ⟨[], (((((((((((((True ∧ ((decide ((((n : Nat)) : Int) > (256 : Int))) = false)) ∧ (((n = n) ∧ (∀ (i : Nat), ((i < n) → (∀ (j : Nat), ((j < (2 : Nat)) → ((Value.int .i64 (g i j)) = (Value.int .i64 (gI (Value.int .i64 (g i j)))))))))) ∧ ((((n : Nat)) : Int) ≤ (9223372036854775807 : Int)))) ∧ True) ∧ ((decide ((0 : Int) < (((2 : Nat)) : Int))) = true)) ∧ ((0 : Int) = (Int.ofNat 0))) ∧ (((feN (fun (i : Nat) => (v (gI (Value.int .i64 (g i 0))) (gI (Value.int .i64 (g i 1))))) n (0 : Nat)) != (0 : Int)) = false)) ∧ ((decide ((IntKind.i64.wrap ((0 : Int) + (1 : Int))) < (((2 : Nat)) : Int))) = true)) ∧ ((IntKind.i64.wrap ((0 : Int) + (1 : Int))) = (Int.ofNat 1))) ∧ (((Pl.cr s (- (1000000 : Int)) (1000000 : Int)) != (0 : Int)) = false)) ∧ ((decide ((IntKind.i64.wrap ((IntKind.i64.wrap ((0 : Int) + (1 : Int))) + (1 : Int))) < (((2 : Nat)) : Int))) = false)) ∧ (((0 : Int) != (0 : Int)) = false)) ∧ (((((n : Nat)) : Int) = (Int.ofNat n)) ∧ (((((n : Nat)) : Int) = (Int.ofNat n)) ∧ ((((((16 : Nat)) : Int) * (((n : Nat)) : Int)) ≤ (281474976710656 : Int)) ∧ (n ≤ (1048576 : Nat)))))) ∧ ((((frA n c s (0 : Nat)) = (frA n c s (0 : Nat))) ∧ ((9 = (6 + 3)) ∧ ((HAppend.hAppend (List.replicate (6 : Nat) MObj.hole) (frL0 n g e opn sz ro (frU1 v n g) (frU2 s))) = (HAppend.hAppend (List.replicate (6 : Nat) MObj.hole) (frL0 n g e opn sz ro (frU1 v n g) (frU2 s)))))) ∧ SndC Tryz.prog none (.loop frX) (frA n c s 0).act (wS 6 (frL0 n g e opn sz ro (frU1 v n g) (frU2 s))) .ret (frB r).act (wS 6 (frL n g e opn sz ro s (frU1 v n g) (frU2 s) j)) 448 256))⟩) := by kernel_rfl
theorem frF_endeq : frF_end v n c g e opn sz ro s = some ((.tuple #[(.slice (some ⟨8, 0, none⟩) n n), (.int .i64 (0 : Int))]), wldOf (frF_end v n c g e opn sz ro s), 448, 256, ⟨[], (((((((((((((True ∧ ((decide ((((n : Nat)) : Int) > (256 : Int))) = false)) ∧ (((n = n) ∧ (∀ (i : Nat), ((i < n) → (∀ (j : Nat), ((j < (2 : Nat)) → ((Value.int .i64 (g i j)) = (Value.int .i64 (gI (Value.int .i64 (g i j)))))))))) ∧ ((((n : Nat)) : Int) ≤ (9223372036854775807 : Int)))) ∧ True) ∧ ((decide ((0 : Int) < (((2 : Nat)) : Int))) = true)) ∧ ((0 : Int) = (Int.ofNat 0))) ∧ (((feN (fun (i : Nat) => (v (gI (Value.int .i64 (g i 0))) (gI (Value.int .i64 (g i 1))))) n (0 : Nat)) != (0 : Int)) = false)) ∧ ((decide ((IntKind.i64.wrap ((0 : Int) + (1 : Int))) < (((2 : Nat)) : Int))) = true)) ∧ ((IntKind.i64.wrap ((0 : Int) + (1 : Int))) = (Int.ofNat 1))) ∧ (((Pl.cr s (- (1000000 : Int)) (1000000 : Int)) != (0 : Int)) = false)) ∧ ((decide ((IntKind.i64.wrap ((IntKind.i64.wrap ((0 : Int) + (1 : Int))) + (1 : Int))) < (((2 : Nat)) : Int))) = false)) ∧ (((0 : Int) != (0 : Int)) = false)) ∧ (((((n : Nat)) : Int) = (Int.ofNat n)) ∧ (((((n : Nat)) : Int) = (Int.ofNat n)) ∧ ((((((16 : Nat)) : Int) * (((n : Nat)) : Int)) ≤ (281474976710656 : Int)) ∧ (n ≤ (1048576 : Nat)))))) ∧ ((((frA n c s (0 : Nat)) = (frA n c s (0 : Nat))) ∧ ((9 = (6 + 3)) ∧ ((HAppend.hAppend (List.replicate (6 : Nat) MObj.hole) (frL0 n g e opn sz ro (frU1 v n g) (frU2 s))) = (HAppend.hAppend (List.replicate (6 : Nat) MObj.hole) (frL0 n g e opn sz ro (frU1 v n g) (frU2 s)))))) ∧ SndC Tryz.prog none (.loop frX) (frA n c s 0).act (wS 6 (frL0 n g e opn sz ro (frU1 v n g) (frU2 s))) (.exit 0) (frE n).act (wS 6 (frL n g e opn sz ro s (frU1 v n g) (frU2 s) n)) 448 256))⟩) := by kernel_rfl
theorem frF_endo : (wldOf (frF_end v n c g e opn sz ro s)).get 8 = .rows n 2 (fillG frZ (frW g s) n) 29 false 0 false := by kernel_rfl
theorem frF_endn : Nat.ble (8 + 1) (wldOf (frF_end v n c g e opn sz ro s)).next = true := by kernel_rfl
end
def frErr (v : Int → Int → Int) (n : Nat) (g : Nat → Nat → Int) (s : Int) : Int := if 256 < n then 5 else if frU1 v n g ≠ 0 then frU1 v n g else if frU2 s ≠ 0 then frU2 s else feN (fun i => (frT g s i).2) n 0
def frI (g : Nat → Nat → Int) (s : Int) (i j : Nat) : Int := match j with
  | 0 => (frT g s i).1.1
  | _ => (frT g s i).1.2
theorem fr_keep (n c : Nat) (s : Int) : ((frArgs n c s : Array Value).toList.all (keepB (below (6 + 1)) 8)) = true := by kernel_rfl
theorem fr_loops {v : Int → Int → Int} {n : Nat} (c : Nat) (g : Nat → Nat → Int) (e : TypeId) (opn : Bool) (sz : Nat) (ro : Bool) (s u1 u2 : Int) (hn : n ≤ 256) (hg : ∀ i, i < n → Bg 1099511627776 (g i 0) (g i 1)) :
    (feN (fun i => (frT g s i).2) n 0 = 0 ∧ SndC Tryz.prog none (.loop frX) (frA n c s 0).act (wS 6 (frL0 n g e opn sz ro u1 u2)) (.exit 0) (frE n).act (wS 6 (frL n g e opn sz ro s u1 u2 n)) 448 256) ∨
    (∃ j, feN (fun i => (frT g s i).2) n 0 = (frT g s j).2 ∧ (frT g s j).2 ≠ 0 ∧ SndC Tryz.prog none (.loop frX) (frA n c s 0).act (wS 6 (frL0 n g e opn sz ro u1 u2)) .ret (frB (frT g s j).2).act (wS 6 (frL n g e opn sz ro s u1 u2 j)) 448 256) := by
  rw [frL0_eq n g e opn sz ro s u1 u2]
  rcases loop_split (A := fun i => (frA n c s i).act) (S := fun i => wS 6 (frL n g e opn sz ro s u1 u2 i)) (A1 := fun i => (frB (frT g s i).2).act) (S1 := fun i => wS 6 (frL n g e opn sz ro s u1 u2 i)) (good := fun i => (frT g s i).2 = 0) (fun i => Decidable.em _) n
    (fun i hi h0 => fr_go c g e opn sz ro s u1 u2 hn hi (hg i hi) h0) (fun i hi h0 => fr_bad c g e opn sz ro s u1 u2 hn hi (hg i hi) h0) (fr_end c g e opn sz ro s u1 u2 (Nat.lt_irrefl n)) (by simp) (by simp) with ⟨h1, h2⟩ | ⟨j, hj, h1, h3, h2⟩
  · exact .inl ⟨feN_all fun k _ hk => h1 k (by omega), h2⟩
  · exact .inr ⟨j, feN_first (Nat.zero_le j) (by omega) (fun k _ hk => h1 k hk) h3, h3, h2⟩
theorem fr_err {v : Int → Int → Int} {n : Nat} (c : Nat) (g : Nat → Nat → Int) (e : TypeId) (opn : Bool) (sz : Nat) (ro : Bool) (s : Int) (hc : ConOk Tryz.prog (ceC v)) (hn : (n : Int) ≤ 9223372036854775807) (hg : ∀ i, i < n → v (g i 0) (g i 1) = 0 → Bg 1099511627776 (g i 0) (g i 1)) (hE : frErr v n g s ≠ 0) :
    SndF Tryz.prog 6 (frArgs n c s) (wS 6 [rowI 2 n g e opn sz ro]) (.tuple #[.slice none 0 0, .int .i64 (frErr v n g s)]) (wS 6 [rowI 2 n g e opn sz ro]) 64 0 := by
  have fin : ∀ {s01 : St} {R0 W0 : Nat}, SndF Tryz.prog 6 (frArgs n c s) (wS 6 [rowI 2 n g e opn sz ro]) (.tuple #[.slice none 0 0, .int .i64 (frErr v n g s)]) s01 R0 W0 → (∀ b, b < 7 → W0.testBit b = false) → (∀ b, b < 7 → R0.testBit b = true → Nat.testBit 64 b = true) → SndF Tryz.prog 6 (frArgs n c s) (wS 6 [rowI 2 n g e opn sz ro]) (.tuple #[.slice none 0 0, .int .i64 (frErr v n g s)]) (wS 6 [rowI 2 n g e opn sz ro]) 64 0 := fun h hW hR =>
    (SndF.tidy0 h sng rowI_keep1 hW (fr_keep n c s) rfl).mask hR (fun b _ => rfl)
  unfold frErr at hE fin ⊢
  by_cases h0 : 256 < n
  · rw [if_pos h0] at fin ⊢
    refine fin ((evFS_ok smx (frKF_ok hc) 1000 _ _ _ _ _ _ _ _ _ (show evFS _ _ _ _ _ _ _ = _ from frF_manyeq v n c g e opn sz ro s)).2 ?_) (by exact (by decide : ∀ b, b < 7 → Nat.testBit 0 b = false)) (by exact (by decide : ∀ b, b < 7 → Nat.testBit 0 b = true → Nat.testBit 64 b = true))
    repeat' (first | (with_reducible assumption) | apply And.intro)
    all_goals first | trivial | rfl | exact decide_eq_true (by omega) | exact decide_eq_false (by omega) | exact (fun _ _ _ _ => rfl) | exact bne_eq_false_iff_eq.2 hU1 | exact bne_eq_false_iff_eq.2 hU2 | exact bne_iff_ne.2 hU1 | exact bne_iff_ne.2 hU2 | omega | assumption
  rw [if_neg h0] at fin hE ⊢
  by_cases hU1 : frU1 v n g = 0
  · rw [if_neg (by simpa using hU1)] at fin hE ⊢
    by_cases hU2 : frU2 s = 0
    · rw [if_neg (by simpa using hU2)] at fin hE ⊢
      have hv : ∀ i, i < n → v (g i 0) (g i 1) = 0 := feN_zero (by unfold frU1 at hU1; exact hU1)
      rcases fr_loops (v := v) c g e opn sz ro s (frU1 v n g) (frU2 s) (by omega) (fun i hi => hg i hi (hv i hi)) with ⟨h1, h2⟩ | ⟨j, h1, h3, h2⟩
      · exact absurd h1 hE
      · rw [h1] at fin ⊢
        refine fin ((evFS_ok smx (frKF_ok hc) 1000 _ _ _ _ _ _ _ _ _ (show evFS _ _ _ _ _ _ _ = _ from frF_reteq v n c g e opn sz ro s (frT g s j).2 j)).2 ?_) (by exact (by decide : ∀ b, b < 7 → Nat.testBit 0 b = false)) (by exact (by decide : ∀ b, b < 7 → Nat.testBit 64 b = true → Nat.testBit 64 b = true))
        repeat' (first | (with_reducible assumption) | apply And.intro)
        all_goals first | trivial | rfl | exact decide_eq_true (by omega) | exact decide_eq_false (by omega) | exact (fun _ _ _ _ => rfl) | exact bne_eq_false_iff_eq.2 hU1 | exact bne_eq_false_iff_eq.2 hU2 | exact bne_iff_ne.2 hU1 | exact bne_iff_ne.2 hU2 | omega | assumption
    · rw [if_pos (by simpa using hU2)] at fin ⊢
      refine fin ((evFS_ok smx (frKF_ok hc) 1000 _ _ _ _ _ _ _ _ _ (show evFS _ _ _ _ _ _ _ = _ from frF_e2eq v n c g e opn sz ro s)).2 ?_) (by exact (by decide : ∀ b, b < 7 → Nat.testBit 0 b = false)) (by exact (by decide : ∀ b, b < 7 → Nat.testBit 64 b = true → Nat.testBit 64 b = true))
      repeat' (first | (with_reducible assumption) | apply And.intro)
      all_goals first | trivial | rfl | exact decide_eq_true (by omega) | exact decide_eq_false (by omega) | exact (fun _ _ _ _ => rfl) | exact bne_eq_false_iff_eq.2 hU1 | exact bne_eq_false_iff_eq.2 hU2 | exact bne_iff_ne.2 hU1 | exact bne_iff_ne.2 hU2 | omega | assumption
  · rw [if_pos (by simpa using hU1)] at fin ⊢
    refine fin ((evFS_ok smx (frKF_ok hc) 1000 _ _ _ _ _ _ _ _ _ (show evFS _ _ _ _ _ _ _ = _ from frF_e1eq v n c g e opn sz ro s)).2 ?_) (by exact (by decide : ∀ b, b < 7 → Nat.testBit 0 b = false)) (by exact (by decide : ∀ b, b < 7 → Nat.testBit 64 b = true → Nat.testBit 64 b = true))
    repeat' (first | (with_reducible assumption) | apply And.intro)
    all_goals first | trivial | rfl | exact decide_eq_true (by omega) | exact decide_eq_false (by omega) | exact (fun _ _ _ _ => rfl) | exact bne_eq_false_iff_eq.2 hU1 | exact bne_eq_false_iff_eq.2 hU2 | exact bne_iff_ne.2 hU1 | exact bne_iff_ne.2 hU2 | omega | assumption
theorem fr_yes {v : Int → Int → Int} {n : Nat} (c : Nat) (g : Nat → Nat → Int) (e : TypeId) (opn : Bool) (sz : Nat) (ro : Bool) (s : Int) (hc : ConOk Tryz.prog (ceC v)) (hg : ∀ i, i < n → v (g i 0) (g i 1) = 0 → Bg 1099511627776 (g i 0) (g i 1)) (hE : frErr v n g s = 0) :
    SndF Tryz.prog 6 (frArgs n c s) (wS 6 [rowI 2 n g e opn sz ro]) (.tuple #[.slice (some ⟨7, 0, none⟩) n n, .int .i64 0]) (wS 6 [rowI 2 n g e opn sz ro, rowI 2 n (frI g s) 29 false 0 false]) 448 0 := by
  unfold frErr at hE
  split at hE
  · cases hE
  rename_i h0
  by_cases hU1 : frU1 v n g = 0
  · rw [if_neg (by simpa using hU1)] at hE
    by_cases hU2 : frU2 s = 0
    · rw [if_neg (by simpa using hU2)] at hE
      have hv : ∀ i, i < n → v (g i 0) (g i 1) = 0 := feN_zero (by unfold frU1 at hU1; exact hU1)
      rcases fr_loops (v := v) c g e opn sz ro s (frU1 v n g) (frU2 s) (by omega) (fun i hi => hg i hi (hv i hi)) with ⟨h1, h2⟩ | ⟨j, h1, h3, h2⟩
      · refine SndF.tidy (r := 8) (l := [rowI 2 n g e opn sz ro]) (o2 := rowI 2 n (frI g s) 29 false 0 false) ((evFS_ok smx (frKF_ok hc) 1000 _ _ _ _ _ _ _ _ _ (show evFS _ _ _ _ _ _ _ = _ from frF_endeq v n c g e opn sz ro s)).2 ?_) sng (by show 7 ≤ 8; decide) (Nat.le_of_ble_eq_true (frF_endn v n c g e opn sz ro s)) (fun f => ?_) rowI_keep1 (by exact (by decide : ∀ b, b < 7 → Nat.testBit 256 b = false)) (fr_keep n c s) (fun f hf hr => wv_tuple (wvs_two (slice_wv hr) (ground_wv (n := 8) rfl)))
        · repeat' (first | (with_reducible assumption) | apply And.intro)
          all_goals first | trivial | rfl | exact decide_eq_true (by omega) | exact decide_eq_false (by omega) | exact (fun _ _ _ _ => rfl) | exact bne_eq_false_iff_eq.2 hU1 | exact bne_eq_false_iff_eq.2 hU2 | exact bne_iff_ne.2 hU1 | exact bne_iff_ne.2 hU2 | omega | assumption
        · rw [frF_endo]
          exact wo_rows (congrArg (fun l => MObj.cells l _ _ _ _) (rowsL_congr fun i j hi hj => by
            unfold fillG
            rw [if_pos hi]
            match j, hj with
            | 0, _ => rfl
            | 1, _ => rfl)) fun i j _ _ => rfl
      · exact absurd (h1.symm.trans hE) h3
    · rw [if_pos (by simpa using hU2)] at hE; exact absurd hE hU2
  · rw [if_pos (by simpa using hU1)] at hE; exact absurd hE hU1

def kFrm (v : Int → Int → Int) : CallS := fun f xs s q => match decide (f = 6) with
  | true => match xs.toList with
    | [.slice (some ⟨b, 0, none⟩) n c, .int .i64 k] => match Nat.ble 6 b, rowK 2 .i64 s b n, q.rest with
      | true, some (g, _, _, _, _, p), .n d :: rest => match (d == 1) with
        | true => some (.tuple #[.slice (some ⟨s.next, 0, none⟩) n n, .int .i64 0], s.push (rowI 2 n (frI g k) 29 false 0 false), 2 ^ b, 0, ⟨rest, q.ob ∧ (p ∧ (∀ i, i < n → v (g i 0) (g i 1) = 0 → Bg 1099511627776 (g i 0) (g i 1)) ∧ frErr v n g k = 0)⟩)
        | false => some (.tuple #[.slice none 0 0, .int .i64 (frErr v n g k)], s, 2 ^ b, 0, ⟨rest, q.ob ∧ (p ∧ (n : Int) ≤ 9223372036854775807 ∧ (∀ i, i < n → v (g i 0) (g i 1) = 0 → Bg 1099511627776 (g i 0) (g i 1)) ∧ frErr v n g k ≠ 0)⟩)
      | _, _, _ => none
    | _ => none
  | false => none
theorem kFrm_ok {v : Int → Int → Int} (hc : ConOk Tryz.prog (ceC v)) : FOkS Tryz.prog (kFrm v) := fun f xs s q u s1 R W q1 he => by
  unfold kFrm at he
  split at he
  · rename_i hf
    have hf := of_decide_eq_true hf
    subst hf
    split at he
    · rename_i b n c k hx
      have hxs : xs = #[.slice (some ⟨b, 0, none⟩) n c, .int .i64 k] := by apply Array.ext'; exact hx
      subst hxs
      split at he
      · rename_i g e opn sz ro p d rest hb hr hq0
        have hb := Nat.le_of_ble_eq_true hb
        split at he
        · cases he
          refine ⟨fun hq => hq.1, fun hq => ?_⟩
          obtain ⟨hp, hg, hE⟩ := hq.2
          obtain ⟨l1, w1⟩ := rowK_wo hr hp
          refine SndF.rowsNew (N := 6) (bs := [b]) (s0 := wS 6 [rowI 2 n g e opn sz ro]) (o1 := rowI 2 n (frI g k) 29 false 0 false) sng (fr_yes c g e opn sz ro k hc hg hE) rfl (fun x hx => ?_) (by simp) (by omega) (fun x hx _ => ?_) (fun x hx => ?_) (fun f j hj => ?_) (fun f _ hf => wvs_two (slice_wv (hf 0 (by simp))) (ground_wv (n := 8) rfl)) (fun f _ hf hn => ⟨wv_tuple (wvs_two (slice_wv hn) (ground_wv (n := 8) rfl)), keep_wo (N := fun _ => false) (fun b hb => by cases hb) (rowI_keep _ _ _ _ _ _ _)⟩)
          · simp at hx; subst hx; omega
          · rcases Nat.lt_or_ge x 6 with k | k
            · have hz := (by decide : ∀ b, b < 6 → Nat.testBit 448 b = false) x k
              rw [hz] at hx; cases hx
            · exact k
          · simp at hx; subst hx; exact bit_self _
          · match j, hj with
            | 0, _ => exact w1 f
        · cases he
          refine ⟨fun hq => hq.1, fun hq => ?_⟩
          obtain ⟨hp, hn, hg, hE⟩ := hq.2
          obtain ⟨l1, w1⟩ := rowK_wo hr hp
          exact SndF.row (N := 6) sng (fr_err c g e opn sz ro k hc hn hg hE) rfl hb l1 w1 (fun f _ hf => wvs_two (slice_wv hf) (ground_wv (n := 8) rfl))
      · cases he
    · cases he
  · cases he
end Go.Proofs.YtjpffbekhfkibaaGreatDoor
end
section
set_option linter.all false
set_option maxRecDepth 1000000
open Go.RowKit
namespace Go.Proofs.YtjpffbekhfkibaaGreatDoor
open Mini
theorem wo_cells {f : Nm} {n k : Nat} {G : Nat → Nat → Value} {e : TypeId} {opn : Bool} {sz : Nat} {ro : Bool} (hg : ∀ i j, ground 8 (G i j) = true) :
    WO f (.rows n k G e opn sz ro) (.cells (rowsL n k G) e opn sz ro) := by
  refine ⟨fun _ e => (by cases e), fun _ hr => hr, fun ρ ρ' hr L o' ho => ?_⟩
  have h1 : OR ρ L (.cells (rowsL n k G) e opn sz ro) o' := Mini.or_congr (show nrm (.rows n k G e opn sz ro) = nrm (.cells (rowsL n k G) e opn sz ro) from rfl) ho
  cases o' <;> simp only [OR] at h1 ⊢
  obtain ⟨k1, k2, k3, k4, k5, k6, k7⟩ := h1
  refine ⟨k1, k2, k3, k4, k5, fun i v hi => ?_, k7⟩
  obtain ⟨v', a, b⟩ := k6 i v hi
  refine ⟨v', a, ?_⟩
  have hlt := (List.getElem?_eq_some_iff.1 hi).1
  rw [rowsL_len] at hlt
  rw [rowsL_at hlt] at hi
  cases hi
  exact ground_wv (f := f) (hg _ _) ρ ρ' hr v' b
def ints : List Value → Option (List Int)
  | [] => some []
  | .int .i64 a :: l => match ints l with
    | some r => some (a :: r)
    | none => none
  | _ :: _ => none
theorem ints_eq : ∀ {l : List Value} {ns : List Int}, ints l = some ns → l = ns.map (Value.int .i64)
  | [], ns, h => by cases h; rfl
  | x :: l, ns, h => by
    unfold ints at h
    split at h
    · rename_i he; cases he
    · rename_i a l' he
      cases he
      split at h
      · rename_i r hr
        cases h
        rw [ints_eq hr]; rfl
      · cases h
    · cases h
def gL (ns : List Int) : Nat → Nat → Int := fun i j => ns.getD (i * 2 + j) 0
def frP (a b s : Int) (i : Nat) : (Int × Int) × Int := frT (fun _ j => match j with
  | 0 => a
  | _ => b) s i
def frOut (s : Int) : Nat → List Int → List Value
  | i, a :: b :: l => .int .i64 (frP a b s i).1.1 :: .int .i64 (frP a b s i).1.2 :: frOut s (i + 1) l
  | _, _ => []
theorem frOut_at (s : Int) : ∀ (m : Nat) (ns : List Int) (i0 : Nat), ns.length = m * 2 → (frOut s i0 ns).length = m * 2 ∧ ∀ i, i < m → ∀ j, j < 2 → (frOut s i0 ns).getD (i * 2 + j) undef = .int .i64 (match j with
    | 0 => (frP (ns.getD (i * 2) 0) (ns.getD (i * 2 + 1) 0) s (i0 + i)).1.1
    | _ => (frP (ns.getD (i * 2) 0) (ns.getD (i * 2 + 1) 0) s (i0 + i)).1.2)
  | 0, ns, i0, h => by
    cases ns with
    | nil => exact ⟨rfl, fun i hi => by omega⟩
    | cons a l => simp at h
  | m + 1, ns, i0, h => by
    match ns, h with
    | [], h => simp at h
    | [_], h => simp at h; omega
    | a :: b :: l, h =>
      have hl : l.length = m * 2 := by simp at h; omega
      obtain ⟨k1, k2⟩ := frOut_at s m l (i0 + 1) hl
      refine ⟨by simp [frOut, k1]; omega, fun i hi j hj => ?_⟩
      cases i with
      | zero =>
        match j, hj with
        | 0, _ => rfl
        | 1, _ => rfl
      | succ i =>
        have := k2 i (by omega) j hj
        rw [show (i + 1) * 2 + j = (i * 2 + j) + 1 + 1 from by omega, show (i + 1) * 2 = i * 2 + 1 + 1 from by omega, show i * 2 + 1 + 1 + 1 = (i * 2 + 1) + 1 + 1 from rfl]
        simp only [frOut, List.getD_cons_succ]
        rw [this, show i0 + 1 + i = i0 + (i + 1) from by omega]
def kFrmC (v : Int → Int → Int) : CallS := fun f xs s q => match decide (f = 6) with
  | true => match xs.toList with
    | [.slice (some ⟨b, 0, none⟩) n c, .int .i64 k] => match Nat.ble 6 b, s.get b with
      | true, .cells cs e opn sz ro => match ints cs, q.rest with
        | some ns, .n d :: rest => match (d == 2) && Nat.beq ns.length (n * 2) with
          | true => some (.tuple #[.slice (some ⟨s.next, 0, none⟩) n n, .int .i64 0], s.push (.cells (frOut k 0 ns) 29 false 0 false), 2 ^ b, 0, ⟨rest, q.ob ∧ ((∀ i, i < n → v (gL ns i 0) (gL ns i 1) = 0 → Bg 1099511627776 (gL ns i 0) (gL ns i 1)) ∧ frErr v n (gL ns) k = 0)⟩)
          | false => none
        | _, _ => none
      | _, _ => none
    | _ => none
  | false => none
theorem kFrmC_ok {v : Int → Int → Int} (hc : ConOk Tryz.prog (ceC v)) : FOkS Tryz.prog (kFrmC v) := fun f xs s q u s1 R W q1 he => by
  unfold kFrmC at he
  split at he
  · rename_i hf
    have hf := of_decide_eq_true hf
    subst hf
    split at he
    · rename_i b n c k hx
      have hxs : xs = #[.slice (some ⟨b, 0, none⟩) n c, .int .i64 k] := by apply Array.ext'; exact hx
      subst hxs
      split at he
      · rename_i cs e opn sz ro hb hs
        have hb := Nat.le_of_ble_eq_true hb
        split at he
        · rename_i ns d rest hi hq0
          split at he
          · rename_i hd
            simp only [Bool.and_eq_true] at hd
            have hln := Nat.eq_of_beq_eq_true hd.2
            cases he
            refine ⟨fun hq => hq.1, fun hq => ?_⟩
            obtain ⟨hg, hE⟩ := hq.2
            have hcs := ints_eq hi
            have hrow : cs = rowsL n 2 (fun i j => .int .i64 (gL ns i j)) := rowsL_cellsK (by rw [hcs, List.length_map, hln]) fun i hi j hj => by
              have hlt : i * 2 + j < ns.length := by omega
              rw [hcs]
              simp [gL, List.getD, hlt]
            have hout : frOut k 0 ns = rowsL n 2 (fun i j => .int .i64 (frI (gL ns) k i j)) := rowsL_cellsK (frOut_at k n ns 0 hln).1 fun i hi j hj => by
              rw [(frOut_at k n ns 0 hln).2 i hi j hj, Nat.zero_add]
              match j, hj with
              | 0, _ => rfl
              | 1, _ => rfl
            have w1 : ∀ f : Nm, WO f (s.get b) (rowI 2 n (gL ns) e opn sz ro) := fun f => by
              rw [hs]
              exact wo_rows (by rw [hrow]; rfl) (fun i j _ _ => rfl)
            have hlive : b < s.next := St.lt_of_live (by rw [hs]; simp)
            have hy := fr_yes (n := n) c (gL ns) e opn sz ro k hc hg hE
            have hz : ∀ x, x < 6 → Nat.testBit (448) x = false := by decide
            refine SndF.rowsNew (N := 6) (bs := [b]) (s0 := wS 6 [rowI 2 n (gL ns) e opn sz ro]) (o1 := rowI 2 n (frI (gL ns) k) 29 false 0 false) sng hy rfl (fun x hx => ?_) (by simp) (by omega) (fun x hx _ => ?_) (fun x hx => ?_) (fun f j hj => ?_) (fun f _ hf => wvs_two (slice_wv (hf 0 (by simp))) (ground_wv (n := 8) rfl)) (fun f _ hf hn => ⟨wv_tuple (wvs_two (slice_wv hn) (ground_wv (n := 8) rfl)), by rw [hout]; exact wo_cells (fun i j => rfl)⟩)
            · simp at hx; subst hx; omega
            · rcases Nat.lt_or_ge x 6 with k | k
              · rw [hz x k] at hx; cases hx
              · exact k
            · simp at hx; subst hx; exact bit_self _
            · match j, hj with
              | 0, _ => exact w1 f
          · cases he
        · cases he
      · cases he
    · cases he
  · cases he
end Go.Proofs.YtjpffbekhfkibaaGreatDoor
end
section
set_option linter.all false
set_option maxRecDepth 1000000
open Go.RowKit
namespace Go.Proofs.YtjpffbekhfkibaaGreatDoor
open Mini
noncomputable def seX : Code := loopOf Tryz.prog 8
def seA (n m c d i : Nat) : MA := MA.ofL 26 [.slice (some ⟨6, 0, none⟩) n c, .slice (some ⟨7, 0, none⟩) m d, .chan none, .chan none, .bool false, .int .i64 (i : Int), .chan none, .chan none, .chan none, .chan none, .chan none, .chan none, .chan none, .chan none, .chan none, .chan none, .chan none, .chan none, .chan none, .chan none, .chan none, .chan none, .chan none, .chan none, .chan none, .chan none] []
def seArgs (n m c d : Nat) : Array Value := #[.slice (some ⟨6, 0, none⟩) n c, .slice (some ⟨7, 0, none⟩) m d]
noncomputable def seR (n m c d : Nat) (g h : Nat → Nat → Int) (e e2 : TypeId) (o o2 : Bool) (z z2 : Nat) (r r2 : Bool) (i : Nat) : Option OutCS := evCRS Tryz.prog noXS 1000 none false seX (seA n m c d i) (wS 6 [rowI 2 n g e o z r, rowI 2 m h e2 o2 z2 r2]) ⟨[1, .row i 0, .row i 0, .row i 0, .row i 0, 0, .azz (.int .i64 ((i + 1 : Nat) : Int))], True⟩
noncomputable def seW (n m c d : Nat) (g h : Nat → Nat → Int) (e e2 : TypeId) (o o2 : Bool) (z z2 : Nat) (r r2 : Bool) (i : Nat) : Option OutCS := evCRS Tryz.prog noXS 1000 none false seX (seA n m c d i) (wS 6 [rowI 2 n g e o z r, rowI 2 m h e2 o2 z2 r2]) ⟨[1, .row i 0, .row i 0, .row i 0, .row i 0, 1], True⟩
noncomputable def seE (n m c d : Nat) (g h : Nat → Nat → Int) (e e2 : TypeId) (o o2 : Bool) (z z2 : Nat) (r r2 : Bool) (i : Nat) : Option OutCS := evCRS Tryz.prog noXS 1000 none false seX (seA n m c d i) (wS 6 [rowI 2 n g e o z r, rowI 2 m h e2 o2 z2 r2]) ⟨[0], True⟩
noncomputable def seF_ne (n m c d : Nat) (g h : Nat → Nat → Int) (e e2 : TypeId) (o o2 : Bool) (z z2 : Nat) (r r2 : Bool) : Option OutS := evFS Tryz.prog noXS 1000 8 (seArgs n m c d) (wS 6 [rowI 2 n g e o z r, rowI 2 m h e2 o2 z2 r2]) ⟨[1], True⟩
noncomputable def seF_ret (n m c d : Nat) (g h : Nat → Nat → Int) (e e2 : TypeId) (o o2 : Bool) (z z2 : Nat) (r r2 : Bool) (i : Nat) : Option OutS := evFS Tryz.prog noXS 1000 8 (seArgs n m c d) (wS 6 [rowI 2 n g e o z r, rowI 2 m h e2 o2 z2 r2]) ⟨[0, .lp 51 (seA n m c d 0) 6 [rowI 2 n g e o z r, rowI 2 m h e2 o2 z2 r2] .ret (seA n m c d i) [rowI 2 n g e o z r, rowI 2 m h e2 o2 z2 r2] 192 0], True⟩
noncomputable def seF_end (n m c d : Nat) (g h : Nat → Nat → Int) (e e2 : TypeId) (o o2 : Bool) (z z2 : Nat) (r r2 : Bool) (i : Nat) : Option OutS := evFS Tryz.prog noXS 1000 8 (seArgs n m c d) (wS 6 [rowI 2 n g e o z r, rowI 2 m h e2 o2 z2 r2]) ⟨[0, .lp 51 (seA n m c d 0) 6 [rowI 2 n g e o z r, rowI 2 m h e2 o2 z2 r2] (.exit 0) (seA n m c d i) [rowI 2 n g e o z r, rowI 2 m h e2 o2 z2 r2] 192 0], True⟩
section
variable (n m c d : Nat) (g h : Nat → Nat → Int) (e e2 : TypeId) (o o2 : Bool) (z z2 : Nat) (r r2 : Bool) (i : Nat)
theorem seR_eq : seenF 6 2 51 (seR n m c d g h e e2 o o2 z z2 r r2 i) = some (.normal, seA n m c d (i + 1), [rowI 2 n g e o z r, rowI 2 m h e2 o2 z2 r2], 192, 0, ⟨[], (((((((True ∧ ((decide ((((i : Nat)) : Int) < (((n : Nat)) : Int))) = true)) ∧ (((((i : Nat)) : Int) = (Int.ofNat i)) ∧ (i < n))) ∧ (((0 + (i * 2)) = ((i * 2) + 0)) ∧ (i < n))) ∧ (((((i : Nat)) : Int) = (Int.ofNat i)) ∧ (i < m))) ∧ (((0 + (i * 2)) = ((i * 2) + 0)) ∧ (i < m))) ∧ ((Bool.not (Bool.and ((g i 0) == (h i 0)) (Bool.and ((g i 1) == (h i 1)) true))) = false)) ∧ (((.int .i64 (IntKind.i64.wrap ((((i : Nat)) : Int) + (1 : Int)))) : Value) = (.int .i64 ((((i + 1) : Nat)) : Int))))⟩) := by kernel_rfl
theorem seW_eq : seenF 6 2 51 (seW n m c d g h e e2 o o2 z z2 r r2 i) = some (.ret, seA n m c d i, [rowI 2 n g e o z r, rowI 2 m h e2 o2 z2 r2], 192, 0, ⟨[], ((((((True ∧ ((decide ((((i : Nat)) : Int) < (((n : Nat)) : Int))) = true)) ∧ (((((i : Nat)) : Int) = (Int.ofNat i)) ∧ (i < n))) ∧ (((0 + (i * 2)) = ((i * 2) + 0)) ∧ (i < n))) ∧ (((((i : Nat)) : Int) = (Int.ofNat i)) ∧ (i < m))) ∧ (((0 + (i * 2)) = ((i * 2) + 0)) ∧ (i < m))) ∧ ((Bool.not (Bool.and ((g i 0) == (h i 0)) (Bool.and ((g i 1) == (h i 1)) true))) = true))⟩) := by kernel_rfl
theorem seE_eq : seenF 6 2 51 (seE n m c d g h e e2 o o2 z z2 r r2 i) = some ((.exit (0 : Nat)), seA n m c d i, [rowI 2 n g e o z r, rowI 2 m h e2 o2 z2 r2], 0, 0, ⟨[], (True ∧ ((decide ((((i : Nat)) : Int) < (((n : Nat)) : Int))) = false))⟩) := by kernel_rfl
theorem seA_keep : allKeep (6 + 2) (seA n m c d i) 26 = true := by kernel_rfl
theorem seF_neeq : seF_ne n m c d g h e e2 o o2 z z2 r r2 = some ((.bool false), wS 6 [rowI 2 n g e o z r, rowI 2 m h e2 o2 z2 r2], 0, 0, ⟨[], (True ∧ (((((n : Nat)) : Int) != (((m : Nat)) : Int)) = true))⟩) := by kernel_rfl
theorem seF_reteq : seF_ret n m c d g h e e2 o o2 z z2 r r2 i = some ((.bool false), wS 6 [rowI 2 n g e o z r, rowI 2 m h e2 o2 z2 r2], 192, 0, ⟨[], ((True ∧ (((((n : Nat)) : Int) != (((m : Nat)) : Int)) = false)) ∧ ((((seA n m c d (0 : Nat)) = (seA n m c d (0 : Nat))) ∧ ((8 = (6 + 2)) ∧ ((HAppend.hAppend (List.replicate (6 : Nat) MObj.hole) ((rowI (2 : Nat) n g e o z r) :: ((rowI (2 : Nat) m h e2 o2 z2 r2) :: []))) = (HAppend.hAppend (List.replicate (6 : Nat) MObj.hole) ((rowI (2 : Nat) n g e o z r) :: ((rowI (2 : Nat) m h e2 o2 z2 r2) :: [])))))) ∧ SndC Tryz.prog none (.loop seX) (seA n m c d 0).act (wS 6 [rowI 2 n g e o z r, rowI 2 m h e2 o2 z2 r2]) .ret (seA n m c d i).act (wS 6 [rowI 2 n g e o z r, rowI 2 m h e2 o2 z2 r2]) 192 0))⟩) := by kernel_rfl
theorem seF_endeq : seF_end n m c d g h e e2 o o2 z z2 r r2 i = some ((.bool true), wS 6 [rowI 2 n g e o z r, rowI 2 m h e2 o2 z2 r2], 192, 0, ⟨[], ((True ∧ (((((n : Nat)) : Int) != (((m : Nat)) : Int)) = false)) ∧ ((((seA n m c d (0 : Nat)) = (seA n m c d (0 : Nat))) ∧ ((8 = (6 + 2)) ∧ ((HAppend.hAppend (List.replicate (6 : Nat) MObj.hole) ((rowI (2 : Nat) n g e o z r) :: ((rowI (2 : Nat) m h e2 o2 z2 r2) :: []))) = (HAppend.hAppend (List.replicate (6 : Nat) MObj.hole) ((rowI (2 : Nat) n g e o z r) :: ((rowI (2 : Nat) m h e2 o2 z2 r2) :: [])))))) ∧ SndC Tryz.prog none (.loop seX) (seA n m c d 0).act (wS 6 [rowI 2 n g e o z r, rowI 2 m h e2 o2 z2 r2]) (.exit 0) (seA n m c d i).act (wS 6 [rowI 2 n g e o z r, rowI 2 m h e2 o2 z2 r2]) 192 0))⟩) := by kernel_rfl
variable {n c d g h e e2 o o2 z z2 r r2 i}
theorem se_go (hn : (n : Int) ≤ 9223372036854775807) (hi : i < n) (h0 : g i 0 = h i 0 ∧ g i 1 = h i 1) : SndC Tryz.prog none seX (seA n n c d i).act (wS 6 [rowI 2 n g e o z r, rowI 2 n h e2 o2 z2 r2]) .normal (seA n n c d (i + 1)).act (wS 6 [rowI 2 n g e o z r, rowI 2 n h e2 o2 z2 r2]) 192 0 :=
  wayF_ok0 smx noXS_ok sng (seR_eq n n c d g h e e2 o o2 z z2 r r2 i) ⟨⟨⟨⟨⟨⟨⟨trivial, decide_eq_true (by omega)⟩, rfl, hi⟩, (by omega), hi⟩, rfl, hi⟩, (by omega), hi⟩, (by simp [h0.1, h0.2])⟩, wnextV hi hn⟩ rfl (seA_keep n n c d i) rowI_keep2 rowI_keep2 (by exact (by decide : ∀ b, b < 8 → Nat.testBit 0 b = false)) (by exact (by decide : ∀ b, b < 8 → Nat.testBit 192 b = true → Nat.testBit 192 b = true))
theorem se_bad (hi : i < n) (h0 : ¬ (g i 0 = h i 0 ∧ g i 1 = h i 1)) : SndC Tryz.prog none seX (seA n n c d i).act (wS 6 [rowI 2 n g e o z r, rowI 2 n h e2 o2 z2 r2]) .ret (seA n n c d i).act (wS 6 [rowI 2 n g e o z r, rowI 2 n h e2 o2 z2 r2]) 192 0 :=
  wayF_ok0 smx noXS_ok sng (seW_eq n n c d g h e e2 o o2 z z2 r r2 i) ⟨⟨⟨⟨⟨⟨trivial, decide_eq_true (by omega)⟩, rfl, hi⟩, (by omega), hi⟩, rfl, hi⟩, (by omega), hi⟩, (by simp; exact Decidable.not_and_iff_or_not.1 h0)⟩ rfl (seA_keep n n c d i) rowI_keep2 rowI_keep2 (by exact (by decide : ∀ b, b < 8 → Nat.testBit 0 b = false)) (by exact (by decide : ∀ b, b < 8 → Nat.testBit 192 b = true → Nat.testBit 192 b = true))
theorem se_end (hi : ¬ i < n) : SndC Tryz.prog none seX (seA n n c d i).act (wS 6 [rowI 2 n g e o z r, rowI 2 n h e2 o2 z2 r2]) (.exit 0) (seA n n c d i).act (wS 6 [rowI 2 n g e o z r, rowI 2 n h e2 o2 z2 r2]) 192 0 :=
  wayF_ok0 smx noXS_ok sng (seE_eq n n c d g h e e2 o o2 z z2 r r2 i) ⟨trivial, decide_eq_false (by omega)⟩ rfl (seA_keep n n c d i) rowI_keep2 rowI_keep2 (by exact (by decide : ∀ b, b < 8 → Nat.testBit 0 b = false)) (by exact (by decide : ∀ b, b < 8 → Nat.testBit 0 b = true → Nat.testBit 192 b = true))
end
def sameE (g h : Nat → Nat → Int) (n : Nat) : Prop := ∀ i, i < n → g i 0 = h i 0 ∧ g i 1 = h i 1
instance (g h : Nat → Nat → Int) (n : Nat) : Decidable (sameE g h n) := inferInstanceAs (Decidable (∀ i, i < n → _))
theorem se_sndF {n m : Nat} (c d : Nat) (g h : Nat → Nat → Int) (e e2 : TypeId) (o o2 : Bool) (z z2 : Nat) (r r2 : Bool) (hn : (n : Int) ≤ 9223372036854775807) :
    SndF Tryz.prog 8 (seArgs n m c d) (wS 6 [rowI 2 n g e o z r, rowI 2 m h e2 o2 z2 r2]) (.bool (decide (n = m ∧ sameE g h n))) (wS 6 [rowI 2 n g e o z r, rowI 2 m h e2 o2 z2 r2]) 192 0 := by
  by_cases hm : n = m
  · subst hm
    rcases loop_split (A := fun i => (seA n n c d i).act) (S := fun _ => wS 6 [rowI 2 n g e o z r, rowI 2 n h e2 o2 z2 r2]) (A1 := fun i => (seA n n c d i).act) (S1 := fun _ => wS 6 [rowI 2 n g e o z r, rowI 2 n h e2 o2 z2 r2]) (good := fun i => g i 0 = h i 0 ∧ g i 1 = h i 1) (fun i => Decidable.em _) n
      (fun i hi h0 => se_go hn hi h0) (fun i hi h0 => se_bad hi h0) (se_end (Nat.lt_irrefl n)) (by simp) (by simp) with ⟨h1, h2⟩ | ⟨j, hj, h1, h3, h2⟩
    · rw [decide_eq_true ⟨rfl, h1⟩]
      exact (evFS_ok smx noXS_ok 1000 _ _ _ _ _ _ _ _ _ (show evFS _ _ _ _ _ _ _ = _ from seF_endeq n n c d g h e e2 o o2 z z2 r r2 n)).2 ⟨⟨trivial, by simp⟩, ⟨rfl, rfl, rfl⟩, h2⟩
    · rw [decide_eq_false (fun q => h3 (q.2 j hj))]
      exact (evFS_ok smx noXS_ok 1000 _ _ _ _ _ _ _ _ _ (show evFS _ _ _ _ _ _ _ = _ from seF_reteq n n c d g h e e2 o o2 z z2 r r2 j)).2 ⟨⟨trivial, by simp⟩, ⟨rfl, rfl, rfl⟩, h2⟩
  · rw [decide_eq_false (fun q => hm q.1)]
    exact ((evFS_ok smx noXS_ok 1000 _ _ _ _ _ _ _ _ _ (show evFS _ _ _ _ _ _ _ = _ from seF_neeq n m c d g h e e2 o o2 z z2 r r2)).2 ⟨trivial, by simp; omega⟩).mask (fun b _ hb => by simp at hb) (fun b _ => rfl)

def kSameE : CallS := fun f xs s q => match decide (f = 8) with
  | true => match xs.toList with
    | [.slice (some ⟨b, 0, none⟩) n c, .slice (some ⟨b2, 0, none⟩) m d] => match Nat.ble 6 b, Nat.ble 6 b2, Nat.beq b b2, rowK 2 .i64 s b n, rowK 2 .i64 s b2 m with
      | true, true, false, some (g, _, _, _, _, p), some (h, _, _, _, _, p2) => some (.bool (decide (n = m ∧ sameE g h n)), s, 2 ^ b ||| 2 ^ b2, 0, ⟨q.rest, q.ob ∧ (p ∧ p2 ∧ (n : Int) ≤ 9223372036854775807)⟩)
      | _, _, _, _, _ => none
    | _ => none
  | false => none
theorem kSameE_ok : FOkS Tryz.prog kSameE := fun f xs s q u s1 R W q1 he => by
  unfold kSameE at he
  split at he
  · rename_i hf
    have hf := of_decide_eq_true hf
    subst hf
    split at he
    · rename_i b n c b2 m d hx
      have hxs : xs = #[.slice (some ⟨b, 0, none⟩) n c, .slice (some ⟨b2, 0, none⟩) m d] := by apply Array.ext'; exact hx
      subst hxs
      split at he
      · rename_i g e o z r p h e2 o2 z2 r2 p2 h1 h2 h3 h4 h5
        cases he
        refine ⟨fun hq => hq.1, fun hq => ?_⟩
        obtain ⟨k1, k2, hn⟩ := hq.2
        obtain ⟨l1, w1⟩ := rowK_wo h4 k1
        obtain ⟨l2, w2⟩ := rowK_wo h5 k2
        have b1 := Nat.le_of_ble_eq_true h1
        have b3 := Nat.le_of_ble_eq_true h2
        have hne : b ≠ b2 := fun e => by rw [e, Nat.beq_refl] at h3; cases h3
        refine SndF.rows (N := 6) (bs := [b, b2]) (s0 := wS 6 [rowI 2 n g e o z r, rowI 2 m h e2 o2 z2 r2]) sng (se_sndF c d g h e e2 o o2 z z2 r r2 hn) rfl rfl (fun x hx => ?_) (by simp [hne]) (by omega) (fun x hx _ => ?_) (fun x hx => ?_) (fun f j hj => ?_) (fun f _ hf => ?_)
        · simp at hx
          rcases hx with rfl | rfl <;> omega
        · rcases Nat.lt_or_ge x 6 with k | k
          · have hz := (by decide : ∀ b, b < 6 → Nat.testBit 192 b = false) x k
            rw [hz] at hx; cases hx
          · exact k
        · simp at hx
          rcases hx with rfl | rfl <;> simp [or_bit, bit_self]
        · match j, hj with
          | 0, _ => exact w1 f
          | 1, _ => exact w2 f
        · exact wvs_two (slice_wv (hf 0 (by simp))) (slice_wv (hf 1 (by simp)))
      · cases he
    · cases he
  · cases he
end Go.Proofs.YtjpffbekhfkibaaGreatDoor
end
section
set_option linter.all false
set_option maxRecDepth 1000000
open Go.RowKit
namespace Go.Proofs.YtjpffbekhfkibaaGreatDoor
open Mini

theorem bgo {m a b : Int} (h : -m ≤ a ∧ a ≤ m) (g : -m ≤ b ∧ b ≤ m) : Bg m a b := ⟨h.1, h.2, g.1, g.2⟩
theorem tk0 {a b n : Int} (g : n % 6 = 0) : Pl.turn (a, b) n = (a, b) := turn_0 (a, b) n g
theorem tk1 {a b n : Int} (g : n % 6 = 1) : Pl.turn (a, b) n = (a - b, a) := turn_1 (a, b) n g
theorem tk2 {a b n : Int} (g : n % 6 = 2) : Pl.turn (a, b) n = (-b, a - b) := turn_2 (a, b) n g
theorem tk3 {a b n : Int} (g : n % 6 = 3) : Pl.turn (a, b) n = (-a, -b) := turn_3 (a, b) n g
theorem tk4 {a b n : Int} (g : n % 6 = 4) : Pl.turn (a, b) n = (b - a, -a) := turn_4 (a, b) n g
theorem tk5 {a b n : Int} (g : n % 6 = 5) : Pl.turn (a, b) n = (b, b - a) := turn_5 (a, b) n g
theorem twm25 (a b : Int) : Pl.turn (a, b) (-25) = (b, b - a) := tk5 (by decide)
theorem twm20 (a b : Int) : Pl.turn (a, b) (-20) = (b - a, -a) := tk4 (by decide)
theorem twm16 (a b : Int) : Pl.turn (a, b) (-16) = (-b, a - b) := tk2 (by decide)
theorem twm15 (a b : Int) : Pl.turn (a, b) (-15) = (-a, -b) := tk3 (by decide)
theorem twm12 (a b : Int) : Pl.turn (a, b) (-12) = (a, b) := tk0 (by decide)
theorem twm10 (a b : Int) : Pl.turn (a, b) (-10) = (-b, a - b) := tk2 (by decide)
theorem twm9 (a b : Int) : Pl.turn (a, b) (-9) = (-a, -b) := tk3 (by decide)
theorem twm8 (a b : Int) : Pl.turn (a, b) (-8) = (b - a, -a) := tk4 (by decide)
theorem twm6 (a b : Int) : Pl.turn (a, b) (-6) = (a, b) := tk0 (by decide)
theorem twm5 (a b : Int) : Pl.turn (a, b) (-5) = (a - b, a) := tk1 (by decide)
theorem twm4 (a b : Int) : Pl.turn (a, b) (-4) = (-b, a - b) := tk2 (by decide)
theorem twm3 (a b : Int) : Pl.turn (a, b) (-3) = (-a, -b) := tk3 (by decide)
theorem twm2 (a b : Int) : Pl.turn (a, b) (-2) = (b - a, -a) := tk4 (by decide)
theorem twm1 (a b : Int) : Pl.turn (a, b) (-1) = (b, b - a) := tk5 (by decide)
theorem tw0 (a b : Int) : Pl.turn (a, b) (0) = (a, b) := tk0 (by decide)
theorem tw1 (a b : Int) : Pl.turn (a, b) (1) = (a - b, a) := tk1 (by decide)
theorem tw2 (a b : Int) : Pl.turn (a, b) (2) = (-b, a - b) := tk2 (by decide)
theorem tw3 (a b : Int) : Pl.turn (a, b) (3) = (-a, -b) := tk3 (by decide)
theorem tw4 (a b : Int) : Pl.turn (a, b) (4) = (b - a, -a) := tk4 (by decide)
theorem tw5 (a b : Int) : Pl.turn (a, b) (5) = (b, b - a) := tk5 (by decide)
theorem tw6 (a b : Int) : Pl.turn (a, b) (6) = (a, b) := tk0 (by decide)
theorem tw8 (a b : Int) : Pl.turn (a, b) (8) = (-b, a - b) := tk2 (by decide)
theorem tw9 (a b : Int) : Pl.turn (a, b) (9) = (-a, -b) := tk3 (by decide)
theorem tw10 (a b : Int) : Pl.turn (a, b) (10) = (b - a, -a) := tk4 (by decide)
theorem tw12 (a b : Int) : Pl.turn (a, b) (12) = (a, b) := tk0 (by decide)
theorem tw15 (a b : Int) : Pl.turn (a, b) (15) = (-a, -b) := tk3 (by decide)
theorem tw16 (a b : Int) : Pl.turn (a, b) (16) = (b - a, -a) := tk4 (by decide)
theorem tw20 (a b : Int) : Pl.turn (a, b) (20) = (-b, a - b) := tk2 (by decide)
theorem tw25 (a b : Int) : Pl.turn (a, b) (25) = (a - b, a) := tk1 (by decide)

def isS (s0 t0 s1 t1 s2 t2 s3 t3 s4 t4 s5 t5 : Int) : Prop := ∃ x0 y0 x1 y1 x2 y2 x3 y3 x4 y4 x5 y5 : Int, ((-100 ≤ x0 ∧ x0 ≤ 100) ∧ (-100 ≤ y0 ∧ y0 ≤ 100) ∧ (-100 ≤ x1 ∧ x1 ≤ 100) ∧ (-100 ≤ y1 ∧ y1 ≤ 100) ∧ (-100 ≤ x2 ∧ x2 ≤ 100) ∧ (-100 ≤ y2 ∧ y2 ≤ 100) ∧ (-100 ≤ x3 ∧ x3 ≤ 100) ∧ (-100 ≤ y3 ∧ y3 ≤ 100) ∧ (-100 ≤ x4 ∧ x4 ≤ 100) ∧ (-100 ≤ y4 ∧ y4 ≤ 100) ∧ (-100 ≤ x5 ∧ x5 ≤ 100) ∧ (-100 ≤ y5 ∧ y5 ≤ 100)) ∧ s0 = x0 + x1 + x2 + x3 + x4 + x5 ∧ t0 = y0 + y1 + y2 + y3 + y4 + y5 ∧ s1 = x0 + y1 - x2 + y2 - x3 - y4 + x5 - y5 ∧ t1 = y0 - x1 + y1 - x2 - y3 + x4 - y4 + x5 ∧ s2 = x0 - x1 + y1 - y2 + x3 - x4 + y4 - y5 ∧ t2 = y0 - x1 + x2 - y2 + y3 - x4 + x5 - y5 ∧ s3 = x0 - x1 + x2 - x3 + x4 - x5 ∧ t3 = y0 - y1 + y2 - y3 + y4 - y5 ∧ s4 = x0 - y1 - x2 + y2 + x3 - y4 - x5 + y5 ∧ t4 = y0 + x1 - y1 - x2 + y3 + x4 - y4 - x5 ∧ s5 = x0 + x1 - y1 - y2 - x3 - x4 + y4 + y5 ∧ t5 = y0 + x1 + x2 - y2 - y3 - x4 - x5 + y5
def b6_0 (s0 t0 s1 t1 s2 t2 s3 t3 s4 t4 s5 t5 : Int) : Int := (s0 + s1 + s2 + s3 + s4 + s5) / 6
def b6_1 (s0 t0 s1 t1 s2 t2 s3 t3 s4 t4 s5 t5 : Int) : Int := (t0 + t1 + t2 + t3 + t4 + t5) / 6
def b6_2 (s0 t0 s1 t1 s2 t2 s3 t3 s4 t4 s5 t5 : Int) : Int := (s0 + s1 - t1 - t2 - s3 - s4 + t4 + t5) / 6
def b6_3 (s0 t0 s1 t1 s2 t2 s3 t3 s4 t4 s5 t5 : Int) : Int := (t0 + s1 + s2 - t2 - t3 - s4 - s5 + t5) / 6
def b6_4 (s0 t0 s1 t1 s2 t2 s3 t3 s4 t4 s5 t5 : Int) : Int := (s0 - t1 - s2 + t2 + s3 - t4 - s5 + t5) / 6
def b6_5 (s0 t0 s1 t1 s2 t2 s3 t3 s4 t4 s5 t5 : Int) : Int := (t0 + s1 - t1 - s2 + t3 + s4 - t4 - s5) / 6
def b6_6 (s0 t0 s1 t1 s2 t2 s3 t3 s4 t4 s5 t5 : Int) : Int := (s0 - s1 + s2 - s3 + s4 - s5) / 6
def b6_7 (s0 t0 s1 t1 s2 t2 s3 t3 s4 t4 s5 t5 : Int) : Int := (t0 - t1 + t2 - t3 + t4 - t5) / 6
def b6_8 (s0 t0 s1 t1 s2 t2 s3 t3 s4 t4 s5 t5 : Int) : Int := (s0 - s1 + t1 - t2 + s3 - s4 + t4 - t5) / 6
def b6_9 (s0 t0 s1 t1 s2 t2 s3 t3 s4 t4 s5 t5 : Int) : Int := (t0 - s1 + s2 - t2 + t3 - s4 + s5 - t5) / 6
def b6_10 (s0 t0 s1 t1 s2 t2 s3 t3 s4 t4 s5 t5 : Int) : Int := (s0 + t1 - s2 + t2 - s3 - t4 + s5 - t5) / 6
def b6_11 (s0 t0 s1 t1 s2 t2 s3 t3 s4 t4 s5 t5 : Int) : Int := (t0 - s1 + t1 - s2 - t3 + s4 - t4 + s5) / 6
theorem b6_0s {x0 y0 x1 y1 x2 y2 x3 y3 x4 y4 x5 y5 : Int} : b6_0 (x0 + x1 + x2 + x3 + x4 + x5) (y0 + y1 + y2 + y3 + y4 + y5) (x0 + y1 - x2 + y2 - x3 - y4 + x5 - y5) (y0 - x1 + y1 - x2 - y3 + x4 - y4 + x5) (x0 - x1 + y1 - y2 + x3 - x4 + y4 - y5) (y0 - x1 + x2 - y2 + y3 - x4 + x5 - y5) (x0 - x1 + x2 - x3 + x4 - x5) (y0 - y1 + y2 - y3 + y4 - y5) (x0 - y1 - x2 + y2 + x3 - y4 - x5 + y5) (y0 + x1 - y1 - x2 + y3 + x4 - y4 - x5) (x0 + x1 - y1 - y2 - x3 - x4 + y4 + y5) (y0 + x1 + x2 - y2 - y3 - x4 - x5 + y5) = x0 := by unfold b6_0; omega
theorem b6_1s {x0 y0 x1 y1 x2 y2 x3 y3 x4 y4 x5 y5 : Int} : b6_1 (x0 + x1 + x2 + x3 + x4 + x5) (y0 + y1 + y2 + y3 + y4 + y5) (x0 + y1 - x2 + y2 - x3 - y4 + x5 - y5) (y0 - x1 + y1 - x2 - y3 + x4 - y4 + x5) (x0 - x1 + y1 - y2 + x3 - x4 + y4 - y5) (y0 - x1 + x2 - y2 + y3 - x4 + x5 - y5) (x0 - x1 + x2 - x3 + x4 - x5) (y0 - y1 + y2 - y3 + y4 - y5) (x0 - y1 - x2 + y2 + x3 - y4 - x5 + y5) (y0 + x1 - y1 - x2 + y3 + x4 - y4 - x5) (x0 + x1 - y1 - y2 - x3 - x4 + y4 + y5) (y0 + x1 + x2 - y2 - y3 - x4 - x5 + y5) = y0 := by unfold b6_1; omega
theorem b6_2s {x0 y0 x1 y1 x2 y2 x3 y3 x4 y4 x5 y5 : Int} : b6_2 (x0 + x1 + x2 + x3 + x4 + x5) (y0 + y1 + y2 + y3 + y4 + y5) (x0 + y1 - x2 + y2 - x3 - y4 + x5 - y5) (y0 - x1 + y1 - x2 - y3 + x4 - y4 + x5) (x0 - x1 + y1 - y2 + x3 - x4 + y4 - y5) (y0 - x1 + x2 - y2 + y3 - x4 + x5 - y5) (x0 - x1 + x2 - x3 + x4 - x5) (y0 - y1 + y2 - y3 + y4 - y5) (x0 - y1 - x2 + y2 + x3 - y4 - x5 + y5) (y0 + x1 - y1 - x2 + y3 + x4 - y4 - x5) (x0 + x1 - y1 - y2 - x3 - x4 + y4 + y5) (y0 + x1 + x2 - y2 - y3 - x4 - x5 + y5) = x1 := by unfold b6_2; omega
theorem b6_3s {x0 y0 x1 y1 x2 y2 x3 y3 x4 y4 x5 y5 : Int} : b6_3 (x0 + x1 + x2 + x3 + x4 + x5) (y0 + y1 + y2 + y3 + y4 + y5) (x0 + y1 - x2 + y2 - x3 - y4 + x5 - y5) (y0 - x1 + y1 - x2 - y3 + x4 - y4 + x5) (x0 - x1 + y1 - y2 + x3 - x4 + y4 - y5) (y0 - x1 + x2 - y2 + y3 - x4 + x5 - y5) (x0 - x1 + x2 - x3 + x4 - x5) (y0 - y1 + y2 - y3 + y4 - y5) (x0 - y1 - x2 + y2 + x3 - y4 - x5 + y5) (y0 + x1 - y1 - x2 + y3 + x4 - y4 - x5) (x0 + x1 - y1 - y2 - x3 - x4 + y4 + y5) (y0 + x1 + x2 - y2 - y3 - x4 - x5 + y5) = y1 := by unfold b6_3; omega
theorem b6_4s {x0 y0 x1 y1 x2 y2 x3 y3 x4 y4 x5 y5 : Int} : b6_4 (x0 + x1 + x2 + x3 + x4 + x5) (y0 + y1 + y2 + y3 + y4 + y5) (x0 + y1 - x2 + y2 - x3 - y4 + x5 - y5) (y0 - x1 + y1 - x2 - y3 + x4 - y4 + x5) (x0 - x1 + y1 - y2 + x3 - x4 + y4 - y5) (y0 - x1 + x2 - y2 + y3 - x4 + x5 - y5) (x0 - x1 + x2 - x3 + x4 - x5) (y0 - y1 + y2 - y3 + y4 - y5) (x0 - y1 - x2 + y2 + x3 - y4 - x5 + y5) (y0 + x1 - y1 - x2 + y3 + x4 - y4 - x5) (x0 + x1 - y1 - y2 - x3 - x4 + y4 + y5) (y0 + x1 + x2 - y2 - y3 - x4 - x5 + y5) = x2 := by unfold b6_4; omega
theorem b6_5s {x0 y0 x1 y1 x2 y2 x3 y3 x4 y4 x5 y5 : Int} : b6_5 (x0 + x1 + x2 + x3 + x4 + x5) (y0 + y1 + y2 + y3 + y4 + y5) (x0 + y1 - x2 + y2 - x3 - y4 + x5 - y5) (y0 - x1 + y1 - x2 - y3 + x4 - y4 + x5) (x0 - x1 + y1 - y2 + x3 - x4 + y4 - y5) (y0 - x1 + x2 - y2 + y3 - x4 + x5 - y5) (x0 - x1 + x2 - x3 + x4 - x5) (y0 - y1 + y2 - y3 + y4 - y5) (x0 - y1 - x2 + y2 + x3 - y4 - x5 + y5) (y0 + x1 - y1 - x2 + y3 + x4 - y4 - x5) (x0 + x1 - y1 - y2 - x3 - x4 + y4 + y5) (y0 + x1 + x2 - y2 - y3 - x4 - x5 + y5) = y2 := by unfold b6_5; omega
theorem b6_6s {x0 y0 x1 y1 x2 y2 x3 y3 x4 y4 x5 y5 : Int} : b6_6 (x0 + x1 + x2 + x3 + x4 + x5) (y0 + y1 + y2 + y3 + y4 + y5) (x0 + y1 - x2 + y2 - x3 - y4 + x5 - y5) (y0 - x1 + y1 - x2 - y3 + x4 - y4 + x5) (x0 - x1 + y1 - y2 + x3 - x4 + y4 - y5) (y0 - x1 + x2 - y2 + y3 - x4 + x5 - y5) (x0 - x1 + x2 - x3 + x4 - x5) (y0 - y1 + y2 - y3 + y4 - y5) (x0 - y1 - x2 + y2 + x3 - y4 - x5 + y5) (y0 + x1 - y1 - x2 + y3 + x4 - y4 - x5) (x0 + x1 - y1 - y2 - x3 - x4 + y4 + y5) (y0 + x1 + x2 - y2 - y3 - x4 - x5 + y5) = x3 := by unfold b6_6; omega
theorem b6_7s {x0 y0 x1 y1 x2 y2 x3 y3 x4 y4 x5 y5 : Int} : b6_7 (x0 + x1 + x2 + x3 + x4 + x5) (y0 + y1 + y2 + y3 + y4 + y5) (x0 + y1 - x2 + y2 - x3 - y4 + x5 - y5) (y0 - x1 + y1 - x2 - y3 + x4 - y4 + x5) (x0 - x1 + y1 - y2 + x3 - x4 + y4 - y5) (y0 - x1 + x2 - y2 + y3 - x4 + x5 - y5) (x0 - x1 + x2 - x3 + x4 - x5) (y0 - y1 + y2 - y3 + y4 - y5) (x0 - y1 - x2 + y2 + x3 - y4 - x5 + y5) (y0 + x1 - y1 - x2 + y3 + x4 - y4 - x5) (x0 + x1 - y1 - y2 - x3 - x4 + y4 + y5) (y0 + x1 + x2 - y2 - y3 - x4 - x5 + y5) = y3 := by unfold b6_7; omega
theorem b6_8s {x0 y0 x1 y1 x2 y2 x3 y3 x4 y4 x5 y5 : Int} : b6_8 (x0 + x1 + x2 + x3 + x4 + x5) (y0 + y1 + y2 + y3 + y4 + y5) (x0 + y1 - x2 + y2 - x3 - y4 + x5 - y5) (y0 - x1 + y1 - x2 - y3 + x4 - y4 + x5) (x0 - x1 + y1 - y2 + x3 - x4 + y4 - y5) (y0 - x1 + x2 - y2 + y3 - x4 + x5 - y5) (x0 - x1 + x2 - x3 + x4 - x5) (y0 - y1 + y2 - y3 + y4 - y5) (x0 - y1 - x2 + y2 + x3 - y4 - x5 + y5) (y0 + x1 - y1 - x2 + y3 + x4 - y4 - x5) (x0 + x1 - y1 - y2 - x3 - x4 + y4 + y5) (y0 + x1 + x2 - y2 - y3 - x4 - x5 + y5) = x4 := by unfold b6_8; omega
theorem b6_9s {x0 y0 x1 y1 x2 y2 x3 y3 x4 y4 x5 y5 : Int} : b6_9 (x0 + x1 + x2 + x3 + x4 + x5) (y0 + y1 + y2 + y3 + y4 + y5) (x0 + y1 - x2 + y2 - x3 - y4 + x5 - y5) (y0 - x1 + y1 - x2 - y3 + x4 - y4 + x5) (x0 - x1 + y1 - y2 + x3 - x4 + y4 - y5) (y0 - x1 + x2 - y2 + y3 - x4 + x5 - y5) (x0 - x1 + x2 - x3 + x4 - x5) (y0 - y1 + y2 - y3 + y4 - y5) (x0 - y1 - x2 + y2 + x3 - y4 - x5 + y5) (y0 + x1 - y1 - x2 + y3 + x4 - y4 - x5) (x0 + x1 - y1 - y2 - x3 - x4 + y4 + y5) (y0 + x1 + x2 - y2 - y3 - x4 - x5 + y5) = y4 := by unfold b6_9; omega
theorem b6_10s {x0 y0 x1 y1 x2 y2 x3 y3 x4 y4 x5 y5 : Int} : b6_10 (x0 + x1 + x2 + x3 + x4 + x5) (y0 + y1 + y2 + y3 + y4 + y5) (x0 + y1 - x2 + y2 - x3 - y4 + x5 - y5) (y0 - x1 + y1 - x2 - y3 + x4 - y4 + x5) (x0 - x1 + y1 - y2 + x3 - x4 + y4 - y5) (y0 - x1 + x2 - y2 + y3 - x4 + x5 - y5) (x0 - x1 + x2 - x3 + x4 - x5) (y0 - y1 + y2 - y3 + y4 - y5) (x0 - y1 - x2 + y2 + x3 - y4 - x5 + y5) (y0 + x1 - y1 - x2 + y3 + x4 - y4 - x5) (x0 + x1 - y1 - y2 - x3 - x4 + y4 + y5) (y0 + x1 + x2 - y2 - y3 - x4 - x5 + y5) = x5 := by unfold b6_10; omega
theorem b6_11s {x0 y0 x1 y1 x2 y2 x3 y3 x4 y4 x5 y5 : Int} : b6_11 (x0 + x1 + x2 + x3 + x4 + x5) (y0 + y1 + y2 + y3 + y4 + y5) (x0 + y1 - x2 + y2 - x3 - y4 + x5 - y5) (y0 - x1 + y1 - x2 - y3 + x4 - y4 + x5) (x0 - x1 + y1 - y2 + x3 - x4 + y4 - y5) (y0 - x1 + x2 - y2 + y3 - x4 + x5 - y5) (x0 - x1 + x2 - x3 + x4 - x5) (y0 - y1 + y2 - y3 + y4 - y5) (x0 - y1 - x2 + y2 + x3 - y4 - x5 + y5) (y0 + x1 - y1 - x2 + y3 + x4 - y4 - x5) (x0 + x1 - y1 - y2 - x3 - x4 + y4 + y5) (y0 + x1 + x2 - y2 - y3 - x4 - x5 + y5) = y5 := by unfold b6_11; omega

theorem tb6 {x y : Int} (h : x = 6 * y) (g : -100 ≤ y ∧ y ≤ 100) : IntKind.i64.wrap (x.tdiv 6) = y := by
  have : x.tdiv 6 = y := by rw [h, Int.mul_tdiv_cancel_left _ (by decide)]
  rw [this, wi _ (by omega)]
theorem par0 {a b m : Int} (h : -m ≤ a ∧ a ≤ m) (g : -m ≤ b ∧ b ≤ m) : Pl.parts a b m = 0 := parts_zero.2 ⟨h.1, h.2, g.1, g.2⟩

def c_checkPhase : Con := ⟨35, [.agg [.i64, .i64]], fun ns => match ns with | [a, b] => .int .i64 (Pl.parts a b 65536) | _ => .bool true, fun ns => match ns with | [a, b] => True | _ => True⟩
def c_spec6 : Con := ⟨36, [.agg [.i64, .i64, .i64, .i64, .i64, .i64, .i64, .i64, .i64, .i64, .i64, .i64]], fun ns => match ns with | [x0, y0, x1, y1, x2, y2, x3, y3, x4, y4, x5, y5] => .agg #[.int .i64 (x0 + x1 + x2 + x3 + x4 + x5), .int .i64 (y0 + y1 + y2 + y3 + y4 + y5), .int .i64 (x0 + y1 - x2 + y2 - x3 - y4 + x5 - y5), .int .i64 (y0 - x1 + y1 - x2 - y3 + x4 - y4 + x5), .int .i64 (x0 - x1 + y1 - y2 + x3 - x4 + y4 - y5), .int .i64 (y0 - x1 + x2 - y2 + y3 - x4 + x5 - y5), .int .i64 (x0 - x1 + x2 - x3 + x4 - x5), .int .i64 (y0 - y1 + y2 - y3 + y4 - y5), .int .i64 (x0 - y1 - x2 + y2 + x3 - y4 - x5 + y5), .int .i64 (y0 + x1 - y1 - x2 + y3 + x4 - y4 - x5), .int .i64 (x0 + x1 - y1 - y2 - x3 - x4 + y4 + y5), .int .i64 (y0 + x1 + x2 - y2 - y3 - x4 - x5 + y5)] | _ => .bool true, fun ns => match ns with | [x0, y0, x1, y1, x2, y2, x3, y3, x4, y4, x5, y5] => (-65536 ≤ x0 ∧ x0 ≤ 65536) ∧ (-65536 ≤ y0 ∧ y0 ≤ 65536) ∧ (-65536 ≤ x1 ∧ x1 ≤ 65536) ∧ (-65536 ≤ y1 ∧ y1 ≤ 65536) ∧ (-65536 ≤ x2 ∧ x2 ≤ 65536) ∧ (-65536 ≤ y2 ∧ y2 ≤ 65536) ∧ (-65536 ≤ x3 ∧ x3 ≤ 65536) ∧ (-65536 ≤ y3 ∧ y3 ≤ 65536) ∧ (-65536 ≤ x4 ∧ x4 ≤ 65536) ∧ (-65536 ≤ y4 ∧ y4 ≤ 65536) ∧ (-65536 ≤ x5 ∧ x5 ≤ 65536) ∧ (-65536 ≤ y5 ∧ y5 ≤ 65536) | _ => True⟩
def c_oSpec6 : Con := ⟨9, [.agg [.i64, .i64, .i64, .i64, .i64, .i64, .i64, .i64, .i64, .i64, .i64, .i64]], fun ns => match ns with | [x0, y0, x1, y1, x2, y2, x3, y3, x4, y4, x5, y5] => .tuple #[.agg #[.int .i64 (x0 + x1 + x2 + x3 + x4 + x5), .int .i64 (y0 + y1 + y2 + y3 + y4 + y5), .int .i64 (x0 + y1 - x2 + y2 - x3 - y4 + x5 - y5), .int .i64 (y0 - x1 + y1 - x2 - y3 + x4 - y4 + x5), .int .i64 (x0 - x1 + y1 - y2 + x3 - x4 + y4 - y5), .int .i64 (y0 - x1 + x2 - y2 + y3 - x4 + x5 - y5), .int .i64 (x0 - x1 + x2 - x3 + x4 - x5), .int .i64 (y0 - y1 + y2 - y3 + y4 - y5), .int .i64 (x0 - y1 - x2 + y2 + x3 - y4 - x5 + y5), .int .i64 (y0 + x1 - y1 - x2 + y3 + x4 - y4 - x5), .int .i64 (x0 + x1 - y1 - y2 - x3 - x4 + y4 + y5), .int .i64 (y0 + x1 + x2 - y2 - y3 - x4 - x5 + y5)], .int .i64 0] | _ => .bool true, fun ns => match ns with | [x0, y0, x1, y1, x2, y2, x3, y3, x4, y4, x5, y5] => (-65536 ≤ x0 ∧ x0 ≤ 65536) ∧ (-65536 ≤ y0 ∧ y0 ≤ 65536) ∧ (-65536 ≤ x1 ∧ x1 ≤ 65536) ∧ (-65536 ≤ y1 ∧ y1 ≤ 65536) ∧ (-65536 ≤ x2 ∧ x2 ≤ 65536) ∧ (-65536 ≤ y2 ∧ y2 ≤ 65536) ∧ (-65536 ≤ x3 ∧ x3 ≤ 65536) ∧ (-65536 ≤ y3 ∧ y3 ≤ 65536) ∧ (-65536 ≤ x4 ∧ x4 ≤ 65536) ∧ (-65536 ≤ y4 ∧ y4 ≤ 65536) ∧ (-65536 ≤ x5 ∧ x5 ≤ 65536) ∧ (-65536 ≤ y5 ∧ y5 ≤ 65536) | _ => True⟩
noncomputable def x_checkPhase : CallS := kAll [c_range]
noncomputable def checkPhase_e0 (a b : Int) : Option OutS := evFS Tryz.prog x_checkPhase 1000 35 #[.agg #[.int .i64 a, .int .i64 b]] (noTabs 6) ⟨[1, 0, 0, 1, 1, 0, 0], True⟩
noncomputable def checkPhase_e1 (a b : Int) : Option OutS := evFS Tryz.prog x_checkPhase 1000 35 #[.agg #[.int .i64 a, .int .i64 b]] (noTabs 6) ⟨[1, 0, 0, 1, 1, 1], True⟩
noncomputable def checkPhase_e2 (a b : Int) : Option OutS := evFS Tryz.prog x_checkPhase 1000 35 #[.agg #[.int .i64 a, .int .i64 b]] (noTabs 6) ⟨[1, 0, 1], True⟩
noncomputable def x_spec6 : CallS := kAll [c_turn]
noncomputable def spec6_e0 (x0 y0 x1 y1 x2 y2 x3 y3 x4 y4 x5 y5 : Int) : Option OutS := evFS Tryz.prog x_spec6 1000 36 #[.agg #[.int .i64 x0, .int .i64 y0, .int .i64 x1, .int .i64 y1, .int .i64 x2, .int .i64 y2, .int .i64 x3, .int .i64 y3, .int .i64 x4, .int .i64 y4, .int .i64 x5, .int .i64 y5]] (noTabs 6) ⟨[1, 1, 0, 0, 0, 1, 0, 1, 0, 1, 0, 2, 0, 1, 0, 3, 0, 1, 0, 4, 0, 1, 0, 5, 0, 0, 1, 1, 1, 0, 1, 1, 1, 1, 1, 1, 1, 2, 1, 1, 1, 3, 1, 1, 1, 4, 1, 1, 1, 5, 1, 0, 1, 1, 2, 0, 2, 1, 2, 1, 2, 1, 2, 2, 2, 1, 2, 3, 2, 1, 2, 4, 2, 1, 2, 5, 2, 0, 1, 1, 3, 0, 3, 1, 3, 1, 3, 1, 3, 2, 3, 1, 3, 3, 3, 1, 3, 4, 3, 1, 3, 5, 3, 0, 1, 1, 4, 0, 4, 1, 4, 1, 4, 1, 4, 2, 4, 1, 4, 3, 4, 1, 4, 4, 4, 1, 4, 5, 4, 0, 1, 1, 5, 0, 5, 1, 5, 1, 5, 1, 5, 2, 5, 1, 5, 3, 5, 1, 5, 4, 5, 1, 5, 5, 5, 0, 0], True⟩
noncomputable def x_oSpec6 : CallS := kAll [c_checkPhase, c_spec6]
noncomputable def oSpec6_e0 (x0 y0 x1 y1 x2 y2 x3 y3 x4 y4 x5 y5 : Int) : Option OutS := evFS Tryz.prog x_oSpec6 1000 9 #[.agg #[.int .i64 x0, .int .i64 y0, .int .i64 x1, .int .i64 y1, .int .i64 x2, .int .i64 y2, .int .i64 x3, .int .i64 y3, .int .i64 x4, .int .i64 y4, .int .i64 x5, .int .i64 y5]] (noTabs 6) ⟨[1, 0, 0, 1, 1, 0, 1, 2, 0, 1, 3, 0, 1, 4, 0, 1, 5, 0, 0, 0], True⟩
end Go.Proofs.YtjpffbekhfkibaaGreatDoor
end
section
set_option linter.all false
open Go.RowKit
namespace Go.Proofs.YtjpffbekhfkibaaGreatDoor
open Mini
def inM (m a : Int) : Prop := -m ≤ a ∧ a ≤ m
theorem frQ_eq {s : Int} {i : Nat} (hs : inM 1000000 s) (hi : i < 256) : frQ s i = (0 - s) * (i : Int) := by
  unfold inM at hs
  have hb := mul_bd2 1000000 256 (0 - s) i (by decide) (by decide) (by omega) (by omega) (by omega) (by omega)
  unfold frQ
  rw [wi (0 - s) (by omega), wi ((0 - s) * (i : Int)) (by omega)]
theorem frT_ok {g : Nat → Nat → Int} {s : Int} {i : Nat} (ha : inM 524288 (g i 0)) (hb : inM 524288 (g i 1)) : frT g s i = (Pl.turn (g i 0, g i 1) (frQ s i), 0) := by
  have h := turn_in (g i 0, g i 1) (frQ s i) 524288 ⟨ha.1, ha.2, hb.1, hb.2⟩
  have h2 : Pl.inB 1048576 ((Pl.turn (g i 0, g i 1) (frQ s i)).1, (Pl.turn (g i 0, g i 1) (frQ s i)).2) := h
  unfold frT Pl.lim
  rw [if_pos h2]
theorem fr_free {v : Int → Int → Int} {n : Nat} {g : Nat → Nat → Int} {s : Int} (hn : n ≤ 256) (hs : inM 1000000 s) (hg : ∀ i, i < n → inM 524288 (g i 0) ∧ inM 524288 (g i 1)) (hv : ∀ i, i < n → v (g i 0) (g i 1) = 0) : frErr v n g s = 0 := by
  unfold frErr
  have h1 : frU1 v n g = 0 := by
    unfold frU1
    first | (rw [if_neg (by omega)]; exact feN_all fun k _ hk => hv k (by omega)) | exact feN_all fun k _ hk => hv k (by omega)
  have h2 : frU2 s = 0 := by
    unfold frU2 Pl.cr
    unfold inM at hs
    rw [if_neg (by omega)]
  rw [if_neg (by omega), if_neg (by simpa using h1), if_neg (by simpa using h2)]
  exact feN_all fun k _ hk => by rw [frT_ok (hg k (by omega)).1 (hg k (by omega)).2]
theorem turn_back (p : Int × Int) (a b : Int) (h : a + b = 0) : Pl.turn (Pl.turn p a) b = p := by
  rw [turn_turn, h]
  exact turn_0 p 0 (by decide)
theorem frI_pair {g : Nat → Nat → Int} {s : Int} {i : Nat} (ha : inM 524288 (g i 0)) (hb : inM 524288 (g i 1)) : (frI g s i 0, frI g s i 1) = Pl.turn (g i 0, g i 1) (frQ s i) := by
  unfold frI
  rw [frT_ok ha hb]
  rfl
theorem fr_back {g : Nat → Nat → Int} {s : Int} {i : Nat} (hs : inM 1000000 s) (hi : i < 256) (ha : inM 262144 (g i 0)) (hb : inM 262144 (g i 1)) : frI (frI g s) (-s) i 0 = g i 0 ∧ frI (frI g s) (-s) i 1 = g i 1 := by
  have h1 := frI_pair (g := g) (s := s) (i := i) ⟨by have := ha.1; omega, by have := ha.2; omega⟩ ⟨by have := hb.1; omega, by have := hb.2; omega⟩
  have h2 := turn_in (g i 0, g i 1) (frQ s i) 262144 ⟨ha.1, ha.2, hb.1, hb.2⟩
  rw [← h1] at h2
  have h3 := frI_pair (g := frI g s) (s := -s) (i := i) ⟨h2.1, h2.2.1⟩ ⟨h2.2.2.1, h2.2.2.2⟩
  rw [h1, turn_back _ _ _ (by rw [frQ_eq hs hi, frQ_eq (s := -s) ⟨by have := hs.2; omega, by have := hs.1; omega⟩ hi, ← Int.add_mul, show (0 - s + (0 - -s) : Int) = 0 from by omega, Int.zero_mul])] at h3
  exact ⟨congrArg Prod.fst h3, congrArg Prod.snd h3⟩
theorem frP_ok {a b s : Int} {i : Nat} (ha : inM 524288 a) (hb : inM 524288 b) : frP a b s i = (Pl.turn (a, b) (frQ s i), 0) := frT_ok ha hb
end Go.Proofs.YtjpffbekhfkibaaGreatDoor
end
section
set_option linter.all false
open Go.RowKit
namespace Go.Proofs.YtjpffbekhfkibaaGreatDoor
open Mini
theorem sm_in (x : Int) : inM 524288 (sm x) := ⟨by have := (sm_bd x).1; omega, by have := (sm_bd x).2; omega⟩
theorem fq_1_0 (x y : Int) : frP (sm x) (sm y) (1) 0 = (((sm x), (sm y)), 0) := by rw [frP_ok (sm_in x) (sm_in y), frQ_eq (by unfold inM; decide) (by decide), tk0 (by decide)]
theorem fq_1_1 (x y : Int) : frP (sm x) (sm y) (1) 1 = (((sm y), (sm y) - (sm x)), 0) := by rw [frP_ok (sm_in x) (sm_in y), frQ_eq (by unfold inM; decide) (by decide), tk5 (by decide)]
theorem fq_1_2 (x y : Int) : frP (sm x) (sm y) (1) 2 = (((sm y) - (sm x), -(sm x)), 0) := by rw [frP_ok (sm_in x) (sm_in y), frQ_eq (by unfold inM; decide) (by decide), tk4 (by decide)]
theorem fq_1_3 (x y : Int) : frP (sm x) (sm y) (1) 3 = ((-(sm x), -(sm y)), 0) := by rw [frP_ok (sm_in x) (sm_in y), frQ_eq (by unfold inM; decide) (by decide), tk3 (by decide)]
theorem fq_1_4 (x y : Int) : frP (sm x) (sm y) (1) 4 = ((-(sm y), (sm x) - (sm y)), 0) := by rw [frP_ok (sm_in x) (sm_in y), frQ_eq (by unfold inM; decide) (by decide), tk2 (by decide)]
theorem fq_1_5 (x y : Int) : frP (sm x) (sm y) (1) 5 = (((sm x) - (sm y), (sm x)), 0) := by rw [frP_ok (sm_in x) (sm_in y), frQ_eq (by unfold inM; decide) (by decide), tk1 (by decide)]
theorem fq_0_0 (x y : Int) : frP (sm x) (sm y) (0) 0 = (((sm x), (sm y)), 0) := by rw [frP_ok (sm_in x) (sm_in y), frQ_eq (by unfold inM; decide) (by decide), tk0 (by decide)]
theorem fq_0_1 (x y : Int) : frP (sm x) (sm y) (0) 1 = (((sm x), (sm y)), 0) := by rw [frP_ok (sm_in x) (sm_in y), frQ_eq (by unfold inM; decide) (by decide), tk0 (by decide)]
theorem fq_0_2 (x y : Int) : frP (sm x) (sm y) (0) 2 = (((sm x), (sm y)), 0) := by rw [frP_ok (sm_in x) (sm_in y), frQ_eq (by unfold inM; decide) (by decide), tk0 (by decide)]
theorem fq_0_3 (x y : Int) : frP (sm x) (sm y) (0) 3 = (((sm x), (sm y)), 0) := by rw [frP_ok (sm_in x) (sm_in y), frQ_eq (by unfold inM; decide) (by decide), tk0 (by decide)]
theorem fq_0_4 (x y : Int) : frP (sm x) (sm y) (0) 4 = (((sm x), (sm y)), 0) := by rw [frP_ok (sm_in x) (sm_in y), frQ_eq (by unfold inM; decide) (by decide), tk0 (by decide)]
theorem fq_0_5 (x y : Int) : frP (sm x) (sm y) (0) 5 = (((sm x), (sm y)), 0) := by rw [frP_ok (sm_in x) (sm_in y), frQ_eq (by unfold inM; decide) (by decide), tk0 (by decide)]
theorem fq_m1_0 (x y : Int) : frP (sm x) (sm y) (-1) 0 = (((sm x), (sm y)), 0) := by rw [frP_ok (sm_in x) (sm_in y), frQ_eq (by unfold inM; decide) (by decide), tk0 (by decide)]
theorem fq_m1_1 (x y : Int) : frP (sm x) (sm y) (-1) 1 = (((sm x) - (sm y), (sm x)), 0) := by rw [frP_ok (sm_in x) (sm_in y), frQ_eq (by unfold inM; decide) (by decide), tk1 (by decide)]
theorem fq_m1_2 (x y : Int) : frP (sm x) (sm y) (-1) 2 = ((-(sm y), (sm x) - (sm y)), 0) := by rw [frP_ok (sm_in x) (sm_in y), frQ_eq (by unfold inM; decide) (by decide), tk2 (by decide)]
theorem fq_m1_3 (x y : Int) : frP (sm x) (sm y) (-1) 3 = ((-(sm x), -(sm y)), 0) := by rw [frP_ok (sm_in x) (sm_in y), frQ_eq (by unfold inM; decide) (by decide), tk3 (by decide)]
theorem fq_m1_4 (x y : Int) : frP (sm x) (sm y) (-1) 4 = (((sm y) - (sm x), -(sm x)), 0) := by rw [frP_ok (sm_in x) (sm_in y), frQ_eq (by unfold inM; decide) (by decide), tk4 (by decide)]
theorem fq_m1_5 (x y : Int) : frP (sm x) (sm y) (-1) 5 = (((sm y), (sm y) - (sm x)), 0) := by rw [frP_ok (sm_in x) (sm_in y), frQ_eq (by unfold inM; decide) (by decide), tk5 (by decide)]
theorem fq_m2_0 (x y : Int) : frP (sm x) (sm y) (-2) 0 = (((sm x), (sm y)), 0) := by rw [frP_ok (sm_in x) (sm_in y), frQ_eq (by unfold inM; decide) (by decide), tk0 (by decide)]
theorem fq_m2_1 (x y : Int) : frP (sm x) (sm y) (-2) 1 = ((-(sm y), (sm x) - (sm y)), 0) := by rw [frP_ok (sm_in x) (sm_in y), frQ_eq (by unfold inM; decide) (by decide), tk2 (by decide)]
theorem fq_m2_2 (x y : Int) : frP (sm x) (sm y) (-2) 2 = (((sm y) - (sm x), -(sm x)), 0) := by rw [frP_ok (sm_in x) (sm_in y), frQ_eq (by unfold inM; decide) (by decide), tk4 (by decide)]
theorem fq_m2_3 (x y : Int) : frP (sm x) (sm y) (-2) 3 = (((sm x), (sm y)), 0) := by rw [frP_ok (sm_in x) (sm_in y), frQ_eq (by unfold inM; decide) (by decide), tk0 (by decide)]
theorem fq_m2_4 (x y : Int) : frP (sm x) (sm y) (-2) 4 = ((-(sm y), (sm x) - (sm y)), 0) := by rw [frP_ok (sm_in x) (sm_in y), frQ_eq (by unfold inM; decide) (by decide), tk2 (by decide)]
theorem fq_m2_5 (x y : Int) : frP (sm x) (sm y) (-2) 5 = (((sm y) - (sm x), -(sm x)), 0) := by rw [frP_ok (sm_in x) (sm_in y), frQ_eq (by unfold inM; decide) (by decide), tk4 (by decide)]
theorem fq_m3_0 (x y : Int) : frP (sm x) (sm y) (-3) 0 = (((sm x), (sm y)), 0) := by rw [frP_ok (sm_in x) (sm_in y), frQ_eq (by unfold inM; decide) (by decide), tk0 (by decide)]
theorem fq_m3_1 (x y : Int) : frP (sm x) (sm y) (-3) 1 = ((-(sm x), -(sm y)), 0) := by rw [frP_ok (sm_in x) (sm_in y), frQ_eq (by unfold inM; decide) (by decide), tk3 (by decide)]
theorem fq_m3_2 (x y : Int) : frP (sm x) (sm y) (-3) 2 = (((sm x), (sm y)), 0) := by rw [frP_ok (sm_in x) (sm_in y), frQ_eq (by unfold inM; decide) (by decide), tk0 (by decide)]
theorem fq_m3_3 (x y : Int) : frP (sm x) (sm y) (-3) 3 = ((-(sm x), -(sm y)), 0) := by rw [frP_ok (sm_in x) (sm_in y), frQ_eq (by unfold inM; decide) (by decide), tk3 (by decide)]
theorem fq_m3_4 (x y : Int) : frP (sm x) (sm y) (-3) 4 = (((sm x), (sm y)), 0) := by rw [frP_ok (sm_in x) (sm_in y), frQ_eq (by unfold inM; decide) (by decide), tk0 (by decide)]
theorem fq_m3_5 (x y : Int) : frP (sm x) (sm y) (-3) 5 = ((-(sm x), -(sm y)), 0) := by rw [frP_ok (sm_in x) (sm_in y), frQ_eq (by unfold inM; decide) (by decide), tk3 (by decide)]
theorem fq_m4_0 (x y : Int) : frP (sm x) (sm y) (-4) 0 = (((sm x), (sm y)), 0) := by rw [frP_ok (sm_in x) (sm_in y), frQ_eq (by unfold inM; decide) (by decide), tk0 (by decide)]
theorem fq_m4_1 (x y : Int) : frP (sm x) (sm y) (-4) 1 = (((sm y) - (sm x), -(sm x)), 0) := by rw [frP_ok (sm_in x) (sm_in y), frQ_eq (by unfold inM; decide) (by decide), tk4 (by decide)]
theorem fq_m4_2 (x y : Int) : frP (sm x) (sm y) (-4) 2 = ((-(sm y), (sm x) - (sm y)), 0) := by rw [frP_ok (sm_in x) (sm_in y), frQ_eq (by unfold inM; decide) (by decide), tk2 (by decide)]
theorem fq_m4_3 (x y : Int) : frP (sm x) (sm y) (-4) 3 = (((sm x), (sm y)), 0) := by rw [frP_ok (sm_in x) (sm_in y), frQ_eq (by unfold inM; decide) (by decide), tk0 (by decide)]
theorem fq_m4_4 (x y : Int) : frP (sm x) (sm y) (-4) 4 = (((sm y) - (sm x), -(sm x)), 0) := by rw [frP_ok (sm_in x) (sm_in y), frQ_eq (by unfold inM; decide) (by decide), tk4 (by decide)]
theorem fq_m4_5 (x y : Int) : frP (sm x) (sm y) (-4) 5 = ((-(sm y), (sm x) - (sm y)), 0) := by rw [frP_ok (sm_in x) (sm_in y), frQ_eq (by unfold inM; decide) (by decide), tk2 (by decide)]
theorem fq_m5_0 (x y : Int) : frP (sm x) (sm y) (-5) 0 = (((sm x), (sm y)), 0) := by rw [frP_ok (sm_in x) (sm_in y), frQ_eq (by unfold inM; decide) (by decide), tk0 (by decide)]
theorem fq_m5_1 (x y : Int) : frP (sm x) (sm y) (-5) 1 = (((sm y), (sm y) - (sm x)), 0) := by rw [frP_ok (sm_in x) (sm_in y), frQ_eq (by unfold inM; decide) (by decide), tk5 (by decide)]
theorem fq_m5_2 (x y : Int) : frP (sm x) (sm y) (-5) 2 = (((sm y) - (sm x), -(sm x)), 0) := by rw [frP_ok (sm_in x) (sm_in y), frQ_eq (by unfold inM; decide) (by decide), tk4 (by decide)]
theorem fq_m5_3 (x y : Int) : frP (sm x) (sm y) (-5) 3 = ((-(sm x), -(sm y)), 0) := by rw [frP_ok (sm_in x) (sm_in y), frQ_eq (by unfold inM; decide) (by decide), tk3 (by decide)]
theorem fq_m5_4 (x y : Int) : frP (sm x) (sm y) (-5) 4 = ((-(sm y), (sm x) - (sm y)), 0) := by rw [frP_ok (sm_in x) (sm_in y), frQ_eq (by unfold inM; decide) (by decide), tk2 (by decide)]
theorem fq_m5_5 (x y : Int) : frP (sm x) (sm y) (-5) 5 = (((sm x) - (sm y), (sm x)), 0) := by rw [frP_ok (sm_in x) (sm_in y), frQ_eq (by unfold inM; decide) (by decide), tk1 (by decide)]
end Go.Proofs.YtjpffbekhfkibaaGreatDoor
end
section
set_option linter.all false
set_option maxRecDepth 1000000
open Go.RowKit
namespace Go.Proofs.YtjpffbekhfkibaaGreatDoor
open Mini

theorem pz {a b m : Int} (h : -m ≤ a ∧ a ≤ m) (g : -m ≤ b ∧ b ≤ m) : (Pl.parts a b m != 0) = false := by rw [par0 h g]; rfl
set_option maxHeartbeats 2000000
theorem crt {n : Int} (h : -1000000 ≤ n ∧ n ≤ 1000000) : Pl.cr n (-1000000) 1000000 = 0 := by unfold Pl.cr; rw [if_neg (by omega)]
theorem crz {x m : Int} (h : -m ≤ x ∧ x ≤ m) : Pl.cr x (-m) m = 0 := by unfold Pl.cr; rw [if_neg (by omega)]
theorem isb {s0 t0 s1 t1 s2 t2 s3 t3 s4 t4 s5 t5 : Int} (h : isS s0 t0 s1 t1 s2 t2 s3 t3 s4 t4 s5 t5) : (-1200 ≤ s0 ∧ s0 ≤ 1200) ∧ (-1200 ≤ t0 ∧ t0 ≤ 1200) ∧ (-1200 ≤ s1 ∧ s1 ≤ 1200) ∧ (-1200 ≤ t1 ∧ t1 ≤ 1200) ∧ (-1200 ≤ s2 ∧ s2 ≤ 1200) ∧ (-1200 ≤ t2 ∧ t2 ≤ 1200) ∧ (-1200 ≤ s3 ∧ s3 ≤ 1200) ∧ (-1200 ≤ t3 ∧ t3 ≤ 1200) ∧ (-1200 ≤ s4 ∧ s4 ≤ 1200) ∧ (-1200 ≤ t4 ∧ t4 ≤ 1200) ∧ (-1200 ≤ s5 ∧ s5 ≤ 1200) ∧ (-1200 ≤ t5 ∧ t5 ≤ 1200) := by
  obtain ⟨x0, y0, x1, y1, x2, y2, x3, y3, x4, y4, x5, y5, ⟨q0, q1, q2, q3, q4, q5, q6, q7, q8, q9, q10, q11⟩, rfl, rfl, rfl, rfl, rfl, rfl, rfl, rfl, rfl, rfl, rfl, rfl⟩ := h
  exact ⟨⟨by omega, by omega⟩, ⟨by omega, by omega⟩, ⟨by omega, by omega⟩, ⟨by omega, by omega⟩, ⟨by omega, by omega⟩, ⟨by omega, by omega⟩, ⟨by omega, by omega⟩, ⟨by omega, by omega⟩, ⟨by omega, by omega⟩, ⟨by omega, by omega⟩, ⟨by omega, by omega⟩, ⟨by omega, by omega⟩⟩
theorem be0 {s0 t0 s1 t1 s2 t2 s3 t3 s4 t4 s5 t5 : Int} (h : isS s0 t0 s1 t1 s2 t2 s3 t3 s4 t4 s5 t5) : IntKind.i64.wrap (IntKind.i64.wrap (IntKind.i64.wrap (IntKind.i64.wrap (IntKind.i64.wrap (IntKind.i64.wrap ((0 : Int) + (Pl.turn (s0, t0) (0 : Int)).1) + (Pl.turn (s1, t1) (0 : Int)).1) + (Pl.turn (s2, t2) (0 : Int)).1) + (Pl.turn (s3, t3) (0 : Int)).1) + (Pl.turn (s4, t4) (0 : Int)).1) + (Pl.turn (s5, t5) (0 : Int)).1) = s0 + s1 + s2 + s3 + s4 + s5 ∧ -100 ≤ b6_0 s0 t0 s1 t1 s2 t2 s3 t3 s4 t4 s5 t5 ∧ b6_0 s0 t0 s1 t1 s2 t2 s3 t3 s4 t4 s5 t5 ≤ 100 ∧ (s0 + s1 + s2 + s3 + s4 + s5) = 6 * b6_0 s0 t0 s1 t1 s2 t2 s3 t3 s4 t4 s5 t5 := by
  obtain ⟨c0, c1, c2, c3, c4, c5, c6, c7, c8, c9, c10, c11⟩ := isb h
  have e : IntKind.i64.wrap (IntKind.i64.wrap (IntKind.i64.wrap (IntKind.i64.wrap (IntKind.i64.wrap (IntKind.i64.wrap ((0 : Int) + (Pl.turn (s0, t0) (0 : Int)).1) + (Pl.turn (s1, t1) (0 : Int)).1) + (Pl.turn (s2, t2) (0 : Int)).1) + (Pl.turn (s3, t3) (0 : Int)).1) + (Pl.turn (s4, t4) (0 : Int)).1) + (Pl.turn (s5, t5) (0 : Int)).1) = s0 + s1 + s2 + s3 + s4 + s5 := by
    clear h
    simp only [twm25, twm20, twm16, twm15, twm12, twm10, twm9, twm8, twm6, twm5, twm4, twm3, twm2, twm1, tw0, tw1, tw2, tw3, tw4, tw5, tw6, tw8, tw9, tw10, tw12, tw15, tw16, tw20, tw25]
    (try simp (disch := omega) only [wi])
    (try omega)
  refine ⟨e, ?_⟩
  clear e c0 c1 c2 c3 c4 c5 c6 c7 c8 c9 c10 c11
  obtain ⟨x0, y0, x1, y1, x2, y2, x3, y3, x4, y4, x5, y5, ⟨q0, q1, q2, q3, q4, q5, q6, q7, q8, q9, q10, q11⟩, rfl, rfl, rfl, rfl, rfl, rfl, rfl, rfl, rfl, rfl, rfl, rfl⟩ := h
  rw [b6_0s]
  exact ⟨q0.1, q0.2, by omega⟩
theorem st0 {s0 t0 s1 t1 s2 t2 s3 t3 s4 t4 s5 t5 : Int} (h : isS s0 t0 s1 t1 s2 t2 s3 t3 s4 t4 s5 t5) : IntKind.i64.wrap (Int.tdiv (IntKind.i64.wrap (IntKind.i64.wrap (IntKind.i64.wrap (IntKind.i64.wrap (IntKind.i64.wrap (IntKind.i64.wrap ((0 : Int) + (Pl.turn (s0, t0) (0 : Int)).1) + (Pl.turn (s1, t1) (0 : Int)).1) + (Pl.turn (s2, t2) (0 : Int)).1) + (Pl.turn (s3, t3) (0 : Int)).1) + (Pl.turn (s4, t4) (0 : Int)).1) + (Pl.turn (s5, t5) (0 : Int)).1)) (6 : Int)) = b6_0 s0 t0 s1 t1 s2 t2 s3 t3 s4 t4 s5 t5 := by
  obtain ⟨e, h1, h2, h3⟩ := be0 h
  rw [e]
  exact tb6 h3 ⟨h1, h2⟩
theorem bb0 {s0 t0 s1 t1 s2 t2 s3 t3 s4 t4 s5 t5 : Int} (h : isS s0 t0 s1 t1 s2 t2 s3 t3 s4 t4 s5 t5) : -100 ≤ b6_0 s0 t0 s1 t1 s2 t2 s3 t3 s4 t4 s5 t5 ∧ b6_0 s0 t0 s1 t1 s2 t2 s3 t3 s4 t4 s5 t5 ≤ 100 := ⟨(be0 h).2.1, (be0 h).2.2.1⟩
theorem be1 {s0 t0 s1 t1 s2 t2 s3 t3 s4 t4 s5 t5 : Int} (h : isS s0 t0 s1 t1 s2 t2 s3 t3 s4 t4 s5 t5) : IntKind.i64.wrap (IntKind.i64.wrap (IntKind.i64.wrap (IntKind.i64.wrap (IntKind.i64.wrap (IntKind.i64.wrap ((0 : Int) + (Pl.turn (s0, t0) (0 : Int)).2) + (Pl.turn (s1, t1) (0 : Int)).2) + (Pl.turn (s2, t2) (0 : Int)).2) + (Pl.turn (s3, t3) (0 : Int)).2) + (Pl.turn (s4, t4) (0 : Int)).2) + (Pl.turn (s5, t5) (0 : Int)).2) = t0 + t1 + t2 + t3 + t4 + t5 ∧ -100 ≤ b6_1 s0 t0 s1 t1 s2 t2 s3 t3 s4 t4 s5 t5 ∧ b6_1 s0 t0 s1 t1 s2 t2 s3 t3 s4 t4 s5 t5 ≤ 100 ∧ (t0 + t1 + t2 + t3 + t4 + t5) = 6 * b6_1 s0 t0 s1 t1 s2 t2 s3 t3 s4 t4 s5 t5 := by
  obtain ⟨c0, c1, c2, c3, c4, c5, c6, c7, c8, c9, c10, c11⟩ := isb h
  have e : IntKind.i64.wrap (IntKind.i64.wrap (IntKind.i64.wrap (IntKind.i64.wrap (IntKind.i64.wrap (IntKind.i64.wrap ((0 : Int) + (Pl.turn (s0, t0) (0 : Int)).2) + (Pl.turn (s1, t1) (0 : Int)).2) + (Pl.turn (s2, t2) (0 : Int)).2) + (Pl.turn (s3, t3) (0 : Int)).2) + (Pl.turn (s4, t4) (0 : Int)).2) + (Pl.turn (s5, t5) (0 : Int)).2) = t0 + t1 + t2 + t3 + t4 + t5 := by
    clear h
    simp only [twm25, twm20, twm16, twm15, twm12, twm10, twm9, twm8, twm6, twm5, twm4, twm3, twm2, twm1, tw0, tw1, tw2, tw3, tw4, tw5, tw6, tw8, tw9, tw10, tw12, tw15, tw16, tw20, tw25]
    (try simp (disch := omega) only [wi])
    (try omega)
  refine ⟨e, ?_⟩
  clear e c0 c1 c2 c3 c4 c5 c6 c7 c8 c9 c10 c11
  obtain ⟨x0, y0, x1, y1, x2, y2, x3, y3, x4, y4, x5, y5, ⟨q0, q1, q2, q3, q4, q5, q6, q7, q8, q9, q10, q11⟩, rfl, rfl, rfl, rfl, rfl, rfl, rfl, rfl, rfl, rfl, rfl, rfl⟩ := h
  rw [b6_1s]
  exact ⟨q1.1, q1.2, by omega⟩
theorem st1 {s0 t0 s1 t1 s2 t2 s3 t3 s4 t4 s5 t5 : Int} (h : isS s0 t0 s1 t1 s2 t2 s3 t3 s4 t4 s5 t5) : IntKind.i64.wrap (Int.tdiv (IntKind.i64.wrap (IntKind.i64.wrap (IntKind.i64.wrap (IntKind.i64.wrap (IntKind.i64.wrap (IntKind.i64.wrap ((0 : Int) + (Pl.turn (s0, t0) (0 : Int)).2) + (Pl.turn (s1, t1) (0 : Int)).2) + (Pl.turn (s2, t2) (0 : Int)).2) + (Pl.turn (s3, t3) (0 : Int)).2) + (Pl.turn (s4, t4) (0 : Int)).2) + (Pl.turn (s5, t5) (0 : Int)).2)) (6 : Int)) = b6_1 s0 t0 s1 t1 s2 t2 s3 t3 s4 t4 s5 t5 := by
  obtain ⟨e, h1, h2, h3⟩ := be1 h
  rw [e]
  exact tb6 h3 ⟨h1, h2⟩
theorem bb1 {s0 t0 s1 t1 s2 t2 s3 t3 s4 t4 s5 t5 : Int} (h : isS s0 t0 s1 t1 s2 t2 s3 t3 s4 t4 s5 t5) : -100 ≤ b6_1 s0 t0 s1 t1 s2 t2 s3 t3 s4 t4 s5 t5 ∧ b6_1 s0 t0 s1 t1 s2 t2 s3 t3 s4 t4 s5 t5 ≤ 100 := ⟨(be1 h).2.1, (be1 h).2.2.1⟩
theorem be2 {s0 t0 s1 t1 s2 t2 s3 t3 s4 t4 s5 t5 : Int} (h : isS s0 t0 s1 t1 s2 t2 s3 t3 s4 t4 s5 t5) : IntKind.i64.wrap (IntKind.i64.wrap (IntKind.i64.wrap (IntKind.i64.wrap (IntKind.i64.wrap (IntKind.i64.wrap ((0 : Int) + (Pl.turn (s0, t0) (0 : Int)).1) + (Pl.turn (s1, t1) (1 : Int)).1) + (Pl.turn (s2, t2) (2 : Int)).1) + (Pl.turn (s3, t3) (3 : Int)).1) + (Pl.turn (s4, t4) (4 : Int)).1) + (Pl.turn (s5, t5) (5 : Int)).1) = s0 + s1 - t1 - t2 - s3 - s4 + t4 + t5 ∧ -100 ≤ b6_2 s0 t0 s1 t1 s2 t2 s3 t3 s4 t4 s5 t5 ∧ b6_2 s0 t0 s1 t1 s2 t2 s3 t3 s4 t4 s5 t5 ≤ 100 ∧ (s0 + s1 - t1 - t2 - s3 - s4 + t4 + t5) = 6 * b6_2 s0 t0 s1 t1 s2 t2 s3 t3 s4 t4 s5 t5 := by
  obtain ⟨c0, c1, c2, c3, c4, c5, c6, c7, c8, c9, c10, c11⟩ := isb h
  have e : IntKind.i64.wrap (IntKind.i64.wrap (IntKind.i64.wrap (IntKind.i64.wrap (IntKind.i64.wrap (IntKind.i64.wrap ((0 : Int) + (Pl.turn (s0, t0) (0 : Int)).1) + (Pl.turn (s1, t1) (1 : Int)).1) + (Pl.turn (s2, t2) (2 : Int)).1) + (Pl.turn (s3, t3) (3 : Int)).1) + (Pl.turn (s4, t4) (4 : Int)).1) + (Pl.turn (s5, t5) (5 : Int)).1) = s0 + s1 - t1 - t2 - s3 - s4 + t4 + t5 := by
    clear h
    simp only [twm25, twm20, twm16, twm15, twm12, twm10, twm9, twm8, twm6, twm5, twm4, twm3, twm2, twm1, tw0, tw1, tw2, tw3, tw4, tw5, tw6, tw8, tw9, tw10, tw12, tw15, tw16, tw20, tw25]
    (try simp (disch := omega) only [wi])
    (try omega)
  refine ⟨e, ?_⟩
  clear e c0 c1 c2 c3 c4 c5 c6 c7 c8 c9 c10 c11
  obtain ⟨x0, y0, x1, y1, x2, y2, x3, y3, x4, y4, x5, y5, ⟨q0, q1, q2, q3, q4, q5, q6, q7, q8, q9, q10, q11⟩, rfl, rfl, rfl, rfl, rfl, rfl, rfl, rfl, rfl, rfl, rfl, rfl⟩ := h
  rw [b6_2s]
  exact ⟨q2.1, q2.2, by omega⟩
theorem st2 {s0 t0 s1 t1 s2 t2 s3 t3 s4 t4 s5 t5 : Int} (h : isS s0 t0 s1 t1 s2 t2 s3 t3 s4 t4 s5 t5) : IntKind.i64.wrap (Int.tdiv (IntKind.i64.wrap (IntKind.i64.wrap (IntKind.i64.wrap (IntKind.i64.wrap (IntKind.i64.wrap (IntKind.i64.wrap ((0 : Int) + (Pl.turn (s0, t0) (0 : Int)).1) + (Pl.turn (s1, t1) (1 : Int)).1) + (Pl.turn (s2, t2) (2 : Int)).1) + (Pl.turn (s3, t3) (3 : Int)).1) + (Pl.turn (s4, t4) (4 : Int)).1) + (Pl.turn (s5, t5) (5 : Int)).1)) (6 : Int)) = b6_2 s0 t0 s1 t1 s2 t2 s3 t3 s4 t4 s5 t5 := by
  obtain ⟨e, h1, h2, h3⟩ := be2 h
  rw [e]
  exact tb6 h3 ⟨h1, h2⟩
theorem bb2 {s0 t0 s1 t1 s2 t2 s3 t3 s4 t4 s5 t5 : Int} (h : isS s0 t0 s1 t1 s2 t2 s3 t3 s4 t4 s5 t5) : -100 ≤ b6_2 s0 t0 s1 t1 s2 t2 s3 t3 s4 t4 s5 t5 ∧ b6_2 s0 t0 s1 t1 s2 t2 s3 t3 s4 t4 s5 t5 ≤ 100 := ⟨(be2 h).2.1, (be2 h).2.2.1⟩
theorem be3 {s0 t0 s1 t1 s2 t2 s3 t3 s4 t4 s5 t5 : Int} (h : isS s0 t0 s1 t1 s2 t2 s3 t3 s4 t4 s5 t5) : IntKind.i64.wrap (IntKind.i64.wrap (IntKind.i64.wrap (IntKind.i64.wrap (IntKind.i64.wrap (IntKind.i64.wrap ((0 : Int) + (Pl.turn (s0, t0) (0 : Int)).2) + (Pl.turn (s1, t1) (1 : Int)).2) + (Pl.turn (s2, t2) (2 : Int)).2) + (Pl.turn (s3, t3) (3 : Int)).2) + (Pl.turn (s4, t4) (4 : Int)).2) + (Pl.turn (s5, t5) (5 : Int)).2) = t0 + s1 + s2 - t2 - t3 - s4 - s5 + t5 ∧ -100 ≤ b6_3 s0 t0 s1 t1 s2 t2 s3 t3 s4 t4 s5 t5 ∧ b6_3 s0 t0 s1 t1 s2 t2 s3 t3 s4 t4 s5 t5 ≤ 100 ∧ (t0 + s1 + s2 - t2 - t3 - s4 - s5 + t5) = 6 * b6_3 s0 t0 s1 t1 s2 t2 s3 t3 s4 t4 s5 t5 := by
  obtain ⟨c0, c1, c2, c3, c4, c5, c6, c7, c8, c9, c10, c11⟩ := isb h
  have e : IntKind.i64.wrap (IntKind.i64.wrap (IntKind.i64.wrap (IntKind.i64.wrap (IntKind.i64.wrap (IntKind.i64.wrap ((0 : Int) + (Pl.turn (s0, t0) (0 : Int)).2) + (Pl.turn (s1, t1) (1 : Int)).2) + (Pl.turn (s2, t2) (2 : Int)).2) + (Pl.turn (s3, t3) (3 : Int)).2) + (Pl.turn (s4, t4) (4 : Int)).2) + (Pl.turn (s5, t5) (5 : Int)).2) = t0 + s1 + s2 - t2 - t3 - s4 - s5 + t5 := by
    clear h
    simp only [twm25, twm20, twm16, twm15, twm12, twm10, twm9, twm8, twm6, twm5, twm4, twm3, twm2, twm1, tw0, tw1, tw2, tw3, tw4, tw5, tw6, tw8, tw9, tw10, tw12, tw15, tw16, tw20, tw25]
    (try simp (disch := omega) only [wi])
    (try omega)
  refine ⟨e, ?_⟩
  clear e c0 c1 c2 c3 c4 c5 c6 c7 c8 c9 c10 c11
  obtain ⟨x0, y0, x1, y1, x2, y2, x3, y3, x4, y4, x5, y5, ⟨q0, q1, q2, q3, q4, q5, q6, q7, q8, q9, q10, q11⟩, rfl, rfl, rfl, rfl, rfl, rfl, rfl, rfl, rfl, rfl, rfl, rfl⟩ := h
  rw [b6_3s]
  exact ⟨q3.1, q3.2, by omega⟩
theorem st3 {s0 t0 s1 t1 s2 t2 s3 t3 s4 t4 s5 t5 : Int} (h : isS s0 t0 s1 t1 s2 t2 s3 t3 s4 t4 s5 t5) : IntKind.i64.wrap (Int.tdiv (IntKind.i64.wrap (IntKind.i64.wrap (IntKind.i64.wrap (IntKind.i64.wrap (IntKind.i64.wrap (IntKind.i64.wrap ((0 : Int) + (Pl.turn (s0, t0) (0 : Int)).2) + (Pl.turn (s1, t1) (1 : Int)).2) + (Pl.turn (s2, t2) (2 : Int)).2) + (Pl.turn (s3, t3) (3 : Int)).2) + (Pl.turn (s4, t4) (4 : Int)).2) + (Pl.turn (s5, t5) (5 : Int)).2)) (6 : Int)) = b6_3 s0 t0 s1 t1 s2 t2 s3 t3 s4 t4 s5 t5 := by
  obtain ⟨e, h1, h2, h3⟩ := be3 h
  rw [e]
  exact tb6 h3 ⟨h1, h2⟩
theorem bb3 {s0 t0 s1 t1 s2 t2 s3 t3 s4 t4 s5 t5 : Int} (h : isS s0 t0 s1 t1 s2 t2 s3 t3 s4 t4 s5 t5) : -100 ≤ b6_3 s0 t0 s1 t1 s2 t2 s3 t3 s4 t4 s5 t5 ∧ b6_3 s0 t0 s1 t1 s2 t2 s3 t3 s4 t4 s5 t5 ≤ 100 := ⟨(be3 h).2.1, (be3 h).2.2.1⟩
theorem be4 {s0 t0 s1 t1 s2 t2 s3 t3 s4 t4 s5 t5 : Int} (h : isS s0 t0 s1 t1 s2 t2 s3 t3 s4 t4 s5 t5) : IntKind.i64.wrap (IntKind.i64.wrap (IntKind.i64.wrap (IntKind.i64.wrap (IntKind.i64.wrap (IntKind.i64.wrap ((0 : Int) + (Pl.turn (s0, t0) (0 : Int)).1) + (Pl.turn (s1, t1) (2 : Int)).1) + (Pl.turn (s2, t2) (4 : Int)).1) + (Pl.turn (s3, t3) (6 : Int)).1) + (Pl.turn (s4, t4) (8 : Int)).1) + (Pl.turn (s5, t5) (10 : Int)).1) = s0 - t1 - s2 + t2 + s3 - t4 - s5 + t5 ∧ -100 ≤ b6_4 s0 t0 s1 t1 s2 t2 s3 t3 s4 t4 s5 t5 ∧ b6_4 s0 t0 s1 t1 s2 t2 s3 t3 s4 t4 s5 t5 ≤ 100 ∧ (s0 - t1 - s2 + t2 + s3 - t4 - s5 + t5) = 6 * b6_4 s0 t0 s1 t1 s2 t2 s3 t3 s4 t4 s5 t5 := by
  obtain ⟨c0, c1, c2, c3, c4, c5, c6, c7, c8, c9, c10, c11⟩ := isb h
  have e : IntKind.i64.wrap (IntKind.i64.wrap (IntKind.i64.wrap (IntKind.i64.wrap (IntKind.i64.wrap (IntKind.i64.wrap ((0 : Int) + (Pl.turn (s0, t0) (0 : Int)).1) + (Pl.turn (s1, t1) (2 : Int)).1) + (Pl.turn (s2, t2) (4 : Int)).1) + (Pl.turn (s3, t3) (6 : Int)).1) + (Pl.turn (s4, t4) (8 : Int)).1) + (Pl.turn (s5, t5) (10 : Int)).1) = s0 - t1 - s2 + t2 + s3 - t4 - s5 + t5 := by
    clear h
    simp only [twm25, twm20, twm16, twm15, twm12, twm10, twm9, twm8, twm6, twm5, twm4, twm3, twm2, twm1, tw0, tw1, tw2, tw3, tw4, tw5, tw6, tw8, tw9, tw10, tw12, tw15, tw16, tw20, tw25]
    (try simp (disch := omega) only [wi])
    (try omega)
  refine ⟨e, ?_⟩
  clear e c0 c1 c2 c3 c4 c5 c6 c7 c8 c9 c10 c11
  obtain ⟨x0, y0, x1, y1, x2, y2, x3, y3, x4, y4, x5, y5, ⟨q0, q1, q2, q3, q4, q5, q6, q7, q8, q9, q10, q11⟩, rfl, rfl, rfl, rfl, rfl, rfl, rfl, rfl, rfl, rfl, rfl, rfl⟩ := h
  rw [b6_4s]
  exact ⟨q4.1, q4.2, by omega⟩
theorem st4 {s0 t0 s1 t1 s2 t2 s3 t3 s4 t4 s5 t5 : Int} (h : isS s0 t0 s1 t1 s2 t2 s3 t3 s4 t4 s5 t5) : IntKind.i64.wrap (Int.tdiv (IntKind.i64.wrap (IntKind.i64.wrap (IntKind.i64.wrap (IntKind.i64.wrap (IntKind.i64.wrap (IntKind.i64.wrap ((0 : Int) + (Pl.turn (s0, t0) (0 : Int)).1) + (Pl.turn (s1, t1) (2 : Int)).1) + (Pl.turn (s2, t2) (4 : Int)).1) + (Pl.turn (s3, t3) (6 : Int)).1) + (Pl.turn (s4, t4) (8 : Int)).1) + (Pl.turn (s5, t5) (10 : Int)).1)) (6 : Int)) = b6_4 s0 t0 s1 t1 s2 t2 s3 t3 s4 t4 s5 t5 := by
  obtain ⟨e, h1, h2, h3⟩ := be4 h
  rw [e]
  exact tb6 h3 ⟨h1, h2⟩
theorem bb4 {s0 t0 s1 t1 s2 t2 s3 t3 s4 t4 s5 t5 : Int} (h : isS s0 t0 s1 t1 s2 t2 s3 t3 s4 t4 s5 t5) : -100 ≤ b6_4 s0 t0 s1 t1 s2 t2 s3 t3 s4 t4 s5 t5 ∧ b6_4 s0 t0 s1 t1 s2 t2 s3 t3 s4 t4 s5 t5 ≤ 100 := ⟨(be4 h).2.1, (be4 h).2.2.1⟩
theorem be5 {s0 t0 s1 t1 s2 t2 s3 t3 s4 t4 s5 t5 : Int} (h : isS s0 t0 s1 t1 s2 t2 s3 t3 s4 t4 s5 t5) : IntKind.i64.wrap (IntKind.i64.wrap (IntKind.i64.wrap (IntKind.i64.wrap (IntKind.i64.wrap (IntKind.i64.wrap ((0 : Int) + (Pl.turn (s0, t0) (0 : Int)).2) + (Pl.turn (s1, t1) (2 : Int)).2) + (Pl.turn (s2, t2) (4 : Int)).2) + (Pl.turn (s3, t3) (6 : Int)).2) + (Pl.turn (s4, t4) (8 : Int)).2) + (Pl.turn (s5, t5) (10 : Int)).2) = t0 + s1 - t1 - s2 + t3 + s4 - t4 - s5 ∧ -100 ≤ b6_5 s0 t0 s1 t1 s2 t2 s3 t3 s4 t4 s5 t5 ∧ b6_5 s0 t0 s1 t1 s2 t2 s3 t3 s4 t4 s5 t5 ≤ 100 ∧ (t0 + s1 - t1 - s2 + t3 + s4 - t4 - s5) = 6 * b6_5 s0 t0 s1 t1 s2 t2 s3 t3 s4 t4 s5 t5 := by
  obtain ⟨c0, c1, c2, c3, c4, c5, c6, c7, c8, c9, c10, c11⟩ := isb h
  have e : IntKind.i64.wrap (IntKind.i64.wrap (IntKind.i64.wrap (IntKind.i64.wrap (IntKind.i64.wrap (IntKind.i64.wrap ((0 : Int) + (Pl.turn (s0, t0) (0 : Int)).2) + (Pl.turn (s1, t1) (2 : Int)).2) + (Pl.turn (s2, t2) (4 : Int)).2) + (Pl.turn (s3, t3) (6 : Int)).2) + (Pl.turn (s4, t4) (8 : Int)).2) + (Pl.turn (s5, t5) (10 : Int)).2) = t0 + s1 - t1 - s2 + t3 + s4 - t4 - s5 := by
    clear h
    simp only [twm25, twm20, twm16, twm15, twm12, twm10, twm9, twm8, twm6, twm5, twm4, twm3, twm2, twm1, tw0, tw1, tw2, tw3, tw4, tw5, tw6, tw8, tw9, tw10, tw12, tw15, tw16, tw20, tw25]
    (try simp (disch := omega) only [wi])
    (try omega)
  refine ⟨e, ?_⟩
  clear e c0 c1 c2 c3 c4 c5 c6 c7 c8 c9 c10 c11
  obtain ⟨x0, y0, x1, y1, x2, y2, x3, y3, x4, y4, x5, y5, ⟨q0, q1, q2, q3, q4, q5, q6, q7, q8, q9, q10, q11⟩, rfl, rfl, rfl, rfl, rfl, rfl, rfl, rfl, rfl, rfl, rfl, rfl⟩ := h
  rw [b6_5s]
  exact ⟨q5.1, q5.2, by omega⟩
theorem st5 {s0 t0 s1 t1 s2 t2 s3 t3 s4 t4 s5 t5 : Int} (h : isS s0 t0 s1 t1 s2 t2 s3 t3 s4 t4 s5 t5) : IntKind.i64.wrap (Int.tdiv (IntKind.i64.wrap (IntKind.i64.wrap (IntKind.i64.wrap (IntKind.i64.wrap (IntKind.i64.wrap (IntKind.i64.wrap ((0 : Int) + (Pl.turn (s0, t0) (0 : Int)).2) + (Pl.turn (s1, t1) (2 : Int)).2) + (Pl.turn (s2, t2) (4 : Int)).2) + (Pl.turn (s3, t3) (6 : Int)).2) + (Pl.turn (s4, t4) (8 : Int)).2) + (Pl.turn (s5, t5) (10 : Int)).2)) (6 : Int)) = b6_5 s0 t0 s1 t1 s2 t2 s3 t3 s4 t4 s5 t5 := by
  obtain ⟨e, h1, h2, h3⟩ := be5 h
  rw [e]
  exact tb6 h3 ⟨h1, h2⟩
theorem bb5 {s0 t0 s1 t1 s2 t2 s3 t3 s4 t4 s5 t5 : Int} (h : isS s0 t0 s1 t1 s2 t2 s3 t3 s4 t4 s5 t5) : -100 ≤ b6_5 s0 t0 s1 t1 s2 t2 s3 t3 s4 t4 s5 t5 ∧ b6_5 s0 t0 s1 t1 s2 t2 s3 t3 s4 t4 s5 t5 ≤ 100 := ⟨(be5 h).2.1, (be5 h).2.2.1⟩
theorem be6 {s0 t0 s1 t1 s2 t2 s3 t3 s4 t4 s5 t5 : Int} (h : isS s0 t0 s1 t1 s2 t2 s3 t3 s4 t4 s5 t5) : IntKind.i64.wrap (IntKind.i64.wrap (IntKind.i64.wrap (IntKind.i64.wrap (IntKind.i64.wrap (IntKind.i64.wrap ((0 : Int) + (Pl.turn (s0, t0) (0 : Int)).1) + (Pl.turn (s1, t1) (3 : Int)).1) + (Pl.turn (s2, t2) (6 : Int)).1) + (Pl.turn (s3, t3) (9 : Int)).1) + (Pl.turn (s4, t4) (12 : Int)).1) + (Pl.turn (s5, t5) (15 : Int)).1) = s0 - s1 + s2 - s3 + s4 - s5 ∧ -100 ≤ b6_6 s0 t0 s1 t1 s2 t2 s3 t3 s4 t4 s5 t5 ∧ b6_6 s0 t0 s1 t1 s2 t2 s3 t3 s4 t4 s5 t5 ≤ 100 ∧ (s0 - s1 + s2 - s3 + s4 - s5) = 6 * b6_6 s0 t0 s1 t1 s2 t2 s3 t3 s4 t4 s5 t5 := by
  obtain ⟨c0, c1, c2, c3, c4, c5, c6, c7, c8, c9, c10, c11⟩ := isb h
  have e : IntKind.i64.wrap (IntKind.i64.wrap (IntKind.i64.wrap (IntKind.i64.wrap (IntKind.i64.wrap (IntKind.i64.wrap ((0 : Int) + (Pl.turn (s0, t0) (0 : Int)).1) + (Pl.turn (s1, t1) (3 : Int)).1) + (Pl.turn (s2, t2) (6 : Int)).1) + (Pl.turn (s3, t3) (9 : Int)).1) + (Pl.turn (s4, t4) (12 : Int)).1) + (Pl.turn (s5, t5) (15 : Int)).1) = s0 - s1 + s2 - s3 + s4 - s5 := by
    clear h
    simp only [twm25, twm20, twm16, twm15, twm12, twm10, twm9, twm8, twm6, twm5, twm4, twm3, twm2, twm1, tw0, tw1, tw2, tw3, tw4, tw5, tw6, tw8, tw9, tw10, tw12, tw15, tw16, tw20, tw25]
    (try simp (disch := omega) only [wi])
    (try omega)
  refine ⟨e, ?_⟩
  clear e c0 c1 c2 c3 c4 c5 c6 c7 c8 c9 c10 c11
  obtain ⟨x0, y0, x1, y1, x2, y2, x3, y3, x4, y4, x5, y5, ⟨q0, q1, q2, q3, q4, q5, q6, q7, q8, q9, q10, q11⟩, rfl, rfl, rfl, rfl, rfl, rfl, rfl, rfl, rfl, rfl, rfl, rfl⟩ := h
  rw [b6_6s]
  exact ⟨q6.1, q6.2, by omega⟩
theorem st6 {s0 t0 s1 t1 s2 t2 s3 t3 s4 t4 s5 t5 : Int} (h : isS s0 t0 s1 t1 s2 t2 s3 t3 s4 t4 s5 t5) : IntKind.i64.wrap (Int.tdiv (IntKind.i64.wrap (IntKind.i64.wrap (IntKind.i64.wrap (IntKind.i64.wrap (IntKind.i64.wrap (IntKind.i64.wrap ((0 : Int) + (Pl.turn (s0, t0) (0 : Int)).1) + (Pl.turn (s1, t1) (3 : Int)).1) + (Pl.turn (s2, t2) (6 : Int)).1) + (Pl.turn (s3, t3) (9 : Int)).1) + (Pl.turn (s4, t4) (12 : Int)).1) + (Pl.turn (s5, t5) (15 : Int)).1)) (6 : Int)) = b6_6 s0 t0 s1 t1 s2 t2 s3 t3 s4 t4 s5 t5 := by
  obtain ⟨e, h1, h2, h3⟩ := be6 h
  rw [e]
  exact tb6 h3 ⟨h1, h2⟩
theorem bb6 {s0 t0 s1 t1 s2 t2 s3 t3 s4 t4 s5 t5 : Int} (h : isS s0 t0 s1 t1 s2 t2 s3 t3 s4 t4 s5 t5) : -100 ≤ b6_6 s0 t0 s1 t1 s2 t2 s3 t3 s4 t4 s5 t5 ∧ b6_6 s0 t0 s1 t1 s2 t2 s3 t3 s4 t4 s5 t5 ≤ 100 := ⟨(be6 h).2.1, (be6 h).2.2.1⟩
theorem be7 {s0 t0 s1 t1 s2 t2 s3 t3 s4 t4 s5 t5 : Int} (h : isS s0 t0 s1 t1 s2 t2 s3 t3 s4 t4 s5 t5) : IntKind.i64.wrap (IntKind.i64.wrap (IntKind.i64.wrap (IntKind.i64.wrap (IntKind.i64.wrap (IntKind.i64.wrap ((0 : Int) + (Pl.turn (s0, t0) (0 : Int)).2) + (Pl.turn (s1, t1) (3 : Int)).2) + (Pl.turn (s2, t2) (6 : Int)).2) + (Pl.turn (s3, t3) (9 : Int)).2) + (Pl.turn (s4, t4) (12 : Int)).2) + (Pl.turn (s5, t5) (15 : Int)).2) = t0 - t1 + t2 - t3 + t4 - t5 ∧ -100 ≤ b6_7 s0 t0 s1 t1 s2 t2 s3 t3 s4 t4 s5 t5 ∧ b6_7 s0 t0 s1 t1 s2 t2 s3 t3 s4 t4 s5 t5 ≤ 100 ∧ (t0 - t1 + t2 - t3 + t4 - t5) = 6 * b6_7 s0 t0 s1 t1 s2 t2 s3 t3 s4 t4 s5 t5 := by
  obtain ⟨c0, c1, c2, c3, c4, c5, c6, c7, c8, c9, c10, c11⟩ := isb h
  have e : IntKind.i64.wrap (IntKind.i64.wrap (IntKind.i64.wrap (IntKind.i64.wrap (IntKind.i64.wrap (IntKind.i64.wrap ((0 : Int) + (Pl.turn (s0, t0) (0 : Int)).2) + (Pl.turn (s1, t1) (3 : Int)).2) + (Pl.turn (s2, t2) (6 : Int)).2) + (Pl.turn (s3, t3) (9 : Int)).2) + (Pl.turn (s4, t4) (12 : Int)).2) + (Pl.turn (s5, t5) (15 : Int)).2) = t0 - t1 + t2 - t3 + t4 - t5 := by
    clear h
    simp only [twm25, twm20, twm16, twm15, twm12, twm10, twm9, twm8, twm6, twm5, twm4, twm3, twm2, twm1, tw0, tw1, tw2, tw3, tw4, tw5, tw6, tw8, tw9, tw10, tw12, tw15, tw16, tw20, tw25]
    (try simp (disch := omega) only [wi])
    (try omega)
  refine ⟨e, ?_⟩
  clear e c0 c1 c2 c3 c4 c5 c6 c7 c8 c9 c10 c11
  obtain ⟨x0, y0, x1, y1, x2, y2, x3, y3, x4, y4, x5, y5, ⟨q0, q1, q2, q3, q4, q5, q6, q7, q8, q9, q10, q11⟩, rfl, rfl, rfl, rfl, rfl, rfl, rfl, rfl, rfl, rfl, rfl, rfl⟩ := h
  rw [b6_7s]
  exact ⟨q7.1, q7.2, by omega⟩
theorem st7 {s0 t0 s1 t1 s2 t2 s3 t3 s4 t4 s5 t5 : Int} (h : isS s0 t0 s1 t1 s2 t2 s3 t3 s4 t4 s5 t5) : IntKind.i64.wrap (Int.tdiv (IntKind.i64.wrap (IntKind.i64.wrap (IntKind.i64.wrap (IntKind.i64.wrap (IntKind.i64.wrap (IntKind.i64.wrap ((0 : Int) + (Pl.turn (s0, t0) (0 : Int)).2) + (Pl.turn (s1, t1) (3 : Int)).2) + (Pl.turn (s2, t2) (6 : Int)).2) + (Pl.turn (s3, t3) (9 : Int)).2) + (Pl.turn (s4, t4) (12 : Int)).2) + (Pl.turn (s5, t5) (15 : Int)).2)) (6 : Int)) = b6_7 s0 t0 s1 t1 s2 t2 s3 t3 s4 t4 s5 t5 := by
  obtain ⟨e, h1, h2, h3⟩ := be7 h
  rw [e]
  exact tb6 h3 ⟨h1, h2⟩
theorem bb7 {s0 t0 s1 t1 s2 t2 s3 t3 s4 t4 s5 t5 : Int} (h : isS s0 t0 s1 t1 s2 t2 s3 t3 s4 t4 s5 t5) : -100 ≤ b6_7 s0 t0 s1 t1 s2 t2 s3 t3 s4 t4 s5 t5 ∧ b6_7 s0 t0 s1 t1 s2 t2 s3 t3 s4 t4 s5 t5 ≤ 100 := ⟨(be7 h).2.1, (be7 h).2.2.1⟩
theorem be8 {s0 t0 s1 t1 s2 t2 s3 t3 s4 t4 s5 t5 : Int} (h : isS s0 t0 s1 t1 s2 t2 s3 t3 s4 t4 s5 t5) : IntKind.i64.wrap (IntKind.i64.wrap (IntKind.i64.wrap (IntKind.i64.wrap (IntKind.i64.wrap (IntKind.i64.wrap ((0 : Int) + (Pl.turn (s0, t0) (0 : Int)).1) + (Pl.turn (s1, t1) (4 : Int)).1) + (Pl.turn (s2, t2) (8 : Int)).1) + (Pl.turn (s3, t3) (12 : Int)).1) + (Pl.turn (s4, t4) (16 : Int)).1) + (Pl.turn (s5, t5) (20 : Int)).1) = s0 - s1 + t1 - t2 + s3 - s4 + t4 - t5 ∧ -100 ≤ b6_8 s0 t0 s1 t1 s2 t2 s3 t3 s4 t4 s5 t5 ∧ b6_8 s0 t0 s1 t1 s2 t2 s3 t3 s4 t4 s5 t5 ≤ 100 ∧ (s0 - s1 + t1 - t2 + s3 - s4 + t4 - t5) = 6 * b6_8 s0 t0 s1 t1 s2 t2 s3 t3 s4 t4 s5 t5 := by
  obtain ⟨c0, c1, c2, c3, c4, c5, c6, c7, c8, c9, c10, c11⟩ := isb h
  have e : IntKind.i64.wrap (IntKind.i64.wrap (IntKind.i64.wrap (IntKind.i64.wrap (IntKind.i64.wrap (IntKind.i64.wrap ((0 : Int) + (Pl.turn (s0, t0) (0 : Int)).1) + (Pl.turn (s1, t1) (4 : Int)).1) + (Pl.turn (s2, t2) (8 : Int)).1) + (Pl.turn (s3, t3) (12 : Int)).1) + (Pl.turn (s4, t4) (16 : Int)).1) + (Pl.turn (s5, t5) (20 : Int)).1) = s0 - s1 + t1 - t2 + s3 - s4 + t4 - t5 := by
    clear h
    simp only [twm25, twm20, twm16, twm15, twm12, twm10, twm9, twm8, twm6, twm5, twm4, twm3, twm2, twm1, tw0, tw1, tw2, tw3, tw4, tw5, tw6, tw8, tw9, tw10, tw12, tw15, tw16, tw20, tw25]
    (try simp (disch := omega) only [wi])
    (try omega)
  refine ⟨e, ?_⟩
  clear e c0 c1 c2 c3 c4 c5 c6 c7 c8 c9 c10 c11
  obtain ⟨x0, y0, x1, y1, x2, y2, x3, y3, x4, y4, x5, y5, ⟨q0, q1, q2, q3, q4, q5, q6, q7, q8, q9, q10, q11⟩, rfl, rfl, rfl, rfl, rfl, rfl, rfl, rfl, rfl, rfl, rfl, rfl⟩ := h
  rw [b6_8s]
  exact ⟨q8.1, q8.2, by omega⟩
theorem st8 {s0 t0 s1 t1 s2 t2 s3 t3 s4 t4 s5 t5 : Int} (h : isS s0 t0 s1 t1 s2 t2 s3 t3 s4 t4 s5 t5) : IntKind.i64.wrap (Int.tdiv (IntKind.i64.wrap (IntKind.i64.wrap (IntKind.i64.wrap (IntKind.i64.wrap (IntKind.i64.wrap (IntKind.i64.wrap ((0 : Int) + (Pl.turn (s0, t0) (0 : Int)).1) + (Pl.turn (s1, t1) (4 : Int)).1) + (Pl.turn (s2, t2) (8 : Int)).1) + (Pl.turn (s3, t3) (12 : Int)).1) + (Pl.turn (s4, t4) (16 : Int)).1) + (Pl.turn (s5, t5) (20 : Int)).1)) (6 : Int)) = b6_8 s0 t0 s1 t1 s2 t2 s3 t3 s4 t4 s5 t5 := by
  obtain ⟨e, h1, h2, h3⟩ := be8 h
  rw [e]
  exact tb6 h3 ⟨h1, h2⟩
theorem bb8 {s0 t0 s1 t1 s2 t2 s3 t3 s4 t4 s5 t5 : Int} (h : isS s0 t0 s1 t1 s2 t2 s3 t3 s4 t4 s5 t5) : -100 ≤ b6_8 s0 t0 s1 t1 s2 t2 s3 t3 s4 t4 s5 t5 ∧ b6_8 s0 t0 s1 t1 s2 t2 s3 t3 s4 t4 s5 t5 ≤ 100 := ⟨(be8 h).2.1, (be8 h).2.2.1⟩
theorem be9 {s0 t0 s1 t1 s2 t2 s3 t3 s4 t4 s5 t5 : Int} (h : isS s0 t0 s1 t1 s2 t2 s3 t3 s4 t4 s5 t5) : IntKind.i64.wrap (IntKind.i64.wrap (IntKind.i64.wrap (IntKind.i64.wrap (IntKind.i64.wrap (IntKind.i64.wrap ((0 : Int) + (Pl.turn (s0, t0) (0 : Int)).2) + (Pl.turn (s1, t1) (4 : Int)).2) + (Pl.turn (s2, t2) (8 : Int)).2) + (Pl.turn (s3, t3) (12 : Int)).2) + (Pl.turn (s4, t4) (16 : Int)).2) + (Pl.turn (s5, t5) (20 : Int)).2) = t0 - s1 + s2 - t2 + t3 - s4 + s5 - t5 ∧ -100 ≤ b6_9 s0 t0 s1 t1 s2 t2 s3 t3 s4 t4 s5 t5 ∧ b6_9 s0 t0 s1 t1 s2 t2 s3 t3 s4 t4 s5 t5 ≤ 100 ∧ (t0 - s1 + s2 - t2 + t3 - s4 + s5 - t5) = 6 * b6_9 s0 t0 s1 t1 s2 t2 s3 t3 s4 t4 s5 t5 := by
  obtain ⟨c0, c1, c2, c3, c4, c5, c6, c7, c8, c9, c10, c11⟩ := isb h
  have e : IntKind.i64.wrap (IntKind.i64.wrap (IntKind.i64.wrap (IntKind.i64.wrap (IntKind.i64.wrap (IntKind.i64.wrap ((0 : Int) + (Pl.turn (s0, t0) (0 : Int)).2) + (Pl.turn (s1, t1) (4 : Int)).2) + (Pl.turn (s2, t2) (8 : Int)).2) + (Pl.turn (s3, t3) (12 : Int)).2) + (Pl.turn (s4, t4) (16 : Int)).2) + (Pl.turn (s5, t5) (20 : Int)).2) = t0 - s1 + s2 - t2 + t3 - s4 + s5 - t5 := by
    clear h
    simp only [twm25, twm20, twm16, twm15, twm12, twm10, twm9, twm8, twm6, twm5, twm4, twm3, twm2, twm1, tw0, tw1, tw2, tw3, tw4, tw5, tw6, tw8, tw9, tw10, tw12, tw15, tw16, tw20, tw25]
    (try simp (disch := omega) only [wi])
    (try omega)
  refine ⟨e, ?_⟩
  clear e c0 c1 c2 c3 c4 c5 c6 c7 c8 c9 c10 c11
  obtain ⟨x0, y0, x1, y1, x2, y2, x3, y3, x4, y4, x5, y5, ⟨q0, q1, q2, q3, q4, q5, q6, q7, q8, q9, q10, q11⟩, rfl, rfl, rfl, rfl, rfl, rfl, rfl, rfl, rfl, rfl, rfl, rfl⟩ := h
  rw [b6_9s]
  exact ⟨q9.1, q9.2, by omega⟩
theorem st9 {s0 t0 s1 t1 s2 t2 s3 t3 s4 t4 s5 t5 : Int} (h : isS s0 t0 s1 t1 s2 t2 s3 t3 s4 t4 s5 t5) : IntKind.i64.wrap (Int.tdiv (IntKind.i64.wrap (IntKind.i64.wrap (IntKind.i64.wrap (IntKind.i64.wrap (IntKind.i64.wrap (IntKind.i64.wrap ((0 : Int) + (Pl.turn (s0, t0) (0 : Int)).2) + (Pl.turn (s1, t1) (4 : Int)).2) + (Pl.turn (s2, t2) (8 : Int)).2) + (Pl.turn (s3, t3) (12 : Int)).2) + (Pl.turn (s4, t4) (16 : Int)).2) + (Pl.turn (s5, t5) (20 : Int)).2)) (6 : Int)) = b6_9 s0 t0 s1 t1 s2 t2 s3 t3 s4 t4 s5 t5 := by
  obtain ⟨e, h1, h2, h3⟩ := be9 h
  rw [e]
  exact tb6 h3 ⟨h1, h2⟩
theorem bb9 {s0 t0 s1 t1 s2 t2 s3 t3 s4 t4 s5 t5 : Int} (h : isS s0 t0 s1 t1 s2 t2 s3 t3 s4 t4 s5 t5) : -100 ≤ b6_9 s0 t0 s1 t1 s2 t2 s3 t3 s4 t4 s5 t5 ∧ b6_9 s0 t0 s1 t1 s2 t2 s3 t3 s4 t4 s5 t5 ≤ 100 := ⟨(be9 h).2.1, (be9 h).2.2.1⟩
theorem be10 {s0 t0 s1 t1 s2 t2 s3 t3 s4 t4 s5 t5 : Int} (h : isS s0 t0 s1 t1 s2 t2 s3 t3 s4 t4 s5 t5) : IntKind.i64.wrap (IntKind.i64.wrap (IntKind.i64.wrap (IntKind.i64.wrap (IntKind.i64.wrap (IntKind.i64.wrap ((0 : Int) + (Pl.turn (s0, t0) (0 : Int)).1) + (Pl.turn (s1, t1) (5 : Int)).1) + (Pl.turn (s2, t2) (10 : Int)).1) + (Pl.turn (s3, t3) (15 : Int)).1) + (Pl.turn (s4, t4) (20 : Int)).1) + (Pl.turn (s5, t5) (25 : Int)).1) = s0 + t1 - s2 + t2 - s3 - t4 + s5 - t5 ∧ -100 ≤ b6_10 s0 t0 s1 t1 s2 t2 s3 t3 s4 t4 s5 t5 ∧ b6_10 s0 t0 s1 t1 s2 t2 s3 t3 s4 t4 s5 t5 ≤ 100 ∧ (s0 + t1 - s2 + t2 - s3 - t4 + s5 - t5) = 6 * b6_10 s0 t0 s1 t1 s2 t2 s3 t3 s4 t4 s5 t5 := by
  obtain ⟨c0, c1, c2, c3, c4, c5, c6, c7, c8, c9, c10, c11⟩ := isb h
  have e : IntKind.i64.wrap (IntKind.i64.wrap (IntKind.i64.wrap (IntKind.i64.wrap (IntKind.i64.wrap (IntKind.i64.wrap ((0 : Int) + (Pl.turn (s0, t0) (0 : Int)).1) + (Pl.turn (s1, t1) (5 : Int)).1) + (Pl.turn (s2, t2) (10 : Int)).1) + (Pl.turn (s3, t3) (15 : Int)).1) + (Pl.turn (s4, t4) (20 : Int)).1) + (Pl.turn (s5, t5) (25 : Int)).1) = s0 + t1 - s2 + t2 - s3 - t4 + s5 - t5 := by
    clear h
    simp only [twm25, twm20, twm16, twm15, twm12, twm10, twm9, twm8, twm6, twm5, twm4, twm3, twm2, twm1, tw0, tw1, tw2, tw3, tw4, tw5, tw6, tw8, tw9, tw10, tw12, tw15, tw16, tw20, tw25]
    (try simp (disch := omega) only [wi])
    (try omega)
  refine ⟨e, ?_⟩
  clear e c0 c1 c2 c3 c4 c5 c6 c7 c8 c9 c10 c11
  obtain ⟨x0, y0, x1, y1, x2, y2, x3, y3, x4, y4, x5, y5, ⟨q0, q1, q2, q3, q4, q5, q6, q7, q8, q9, q10, q11⟩, rfl, rfl, rfl, rfl, rfl, rfl, rfl, rfl, rfl, rfl, rfl, rfl⟩ := h
  rw [b6_10s]
  exact ⟨q10.1, q10.2, by omega⟩
theorem st10 {s0 t0 s1 t1 s2 t2 s3 t3 s4 t4 s5 t5 : Int} (h : isS s0 t0 s1 t1 s2 t2 s3 t3 s4 t4 s5 t5) : IntKind.i64.wrap (Int.tdiv (IntKind.i64.wrap (IntKind.i64.wrap (IntKind.i64.wrap (IntKind.i64.wrap (IntKind.i64.wrap (IntKind.i64.wrap ((0 : Int) + (Pl.turn (s0, t0) (0 : Int)).1) + (Pl.turn (s1, t1) (5 : Int)).1) + (Pl.turn (s2, t2) (10 : Int)).1) + (Pl.turn (s3, t3) (15 : Int)).1) + (Pl.turn (s4, t4) (20 : Int)).1) + (Pl.turn (s5, t5) (25 : Int)).1)) (6 : Int)) = b6_10 s0 t0 s1 t1 s2 t2 s3 t3 s4 t4 s5 t5 := by
  obtain ⟨e, h1, h2, h3⟩ := be10 h
  rw [e]
  exact tb6 h3 ⟨h1, h2⟩
theorem bb10 {s0 t0 s1 t1 s2 t2 s3 t3 s4 t4 s5 t5 : Int} (h : isS s0 t0 s1 t1 s2 t2 s3 t3 s4 t4 s5 t5) : -100 ≤ b6_10 s0 t0 s1 t1 s2 t2 s3 t3 s4 t4 s5 t5 ∧ b6_10 s0 t0 s1 t1 s2 t2 s3 t3 s4 t4 s5 t5 ≤ 100 := ⟨(be10 h).2.1, (be10 h).2.2.1⟩
theorem be11 {s0 t0 s1 t1 s2 t2 s3 t3 s4 t4 s5 t5 : Int} (h : isS s0 t0 s1 t1 s2 t2 s3 t3 s4 t4 s5 t5) : IntKind.i64.wrap (IntKind.i64.wrap (IntKind.i64.wrap (IntKind.i64.wrap (IntKind.i64.wrap (IntKind.i64.wrap ((0 : Int) + (Pl.turn (s0, t0) (0 : Int)).2) + (Pl.turn (s1, t1) (5 : Int)).2) + (Pl.turn (s2, t2) (10 : Int)).2) + (Pl.turn (s3, t3) (15 : Int)).2) + (Pl.turn (s4, t4) (20 : Int)).2) + (Pl.turn (s5, t5) (25 : Int)).2) = t0 - s1 + t1 - s2 - t3 + s4 - t4 + s5 ∧ -100 ≤ b6_11 s0 t0 s1 t1 s2 t2 s3 t3 s4 t4 s5 t5 ∧ b6_11 s0 t0 s1 t1 s2 t2 s3 t3 s4 t4 s5 t5 ≤ 100 ∧ (t0 - s1 + t1 - s2 - t3 + s4 - t4 + s5) = 6 * b6_11 s0 t0 s1 t1 s2 t2 s3 t3 s4 t4 s5 t5 := by
  obtain ⟨c0, c1, c2, c3, c4, c5, c6, c7, c8, c9, c10, c11⟩ := isb h
  have e : IntKind.i64.wrap (IntKind.i64.wrap (IntKind.i64.wrap (IntKind.i64.wrap (IntKind.i64.wrap (IntKind.i64.wrap ((0 : Int) + (Pl.turn (s0, t0) (0 : Int)).2) + (Pl.turn (s1, t1) (5 : Int)).2) + (Pl.turn (s2, t2) (10 : Int)).2) + (Pl.turn (s3, t3) (15 : Int)).2) + (Pl.turn (s4, t4) (20 : Int)).2) + (Pl.turn (s5, t5) (25 : Int)).2) = t0 - s1 + t1 - s2 - t3 + s4 - t4 + s5 := by
    clear h
    simp only [twm25, twm20, twm16, twm15, twm12, twm10, twm9, twm8, twm6, twm5, twm4, twm3, twm2, twm1, tw0, tw1, tw2, tw3, tw4, tw5, tw6, tw8, tw9, tw10, tw12, tw15, tw16, tw20, tw25]
    (try simp (disch := omega) only [wi])
    (try omega)
  refine ⟨e, ?_⟩
  clear e c0 c1 c2 c3 c4 c5 c6 c7 c8 c9 c10 c11
  obtain ⟨x0, y0, x1, y1, x2, y2, x3, y3, x4, y4, x5, y5, ⟨q0, q1, q2, q3, q4, q5, q6, q7, q8, q9, q10, q11⟩, rfl, rfl, rfl, rfl, rfl, rfl, rfl, rfl, rfl, rfl, rfl, rfl⟩ := h
  rw [b6_11s]
  exact ⟨q11.1, q11.2, by omega⟩
theorem st11 {s0 t0 s1 t1 s2 t2 s3 t3 s4 t4 s5 t5 : Int} (h : isS s0 t0 s1 t1 s2 t2 s3 t3 s4 t4 s5 t5) : IntKind.i64.wrap (Int.tdiv (IntKind.i64.wrap (IntKind.i64.wrap (IntKind.i64.wrap (IntKind.i64.wrap (IntKind.i64.wrap (IntKind.i64.wrap ((0 : Int) + (Pl.turn (s0, t0) (0 : Int)).2) + (Pl.turn (s1, t1) (5 : Int)).2) + (Pl.turn (s2, t2) (10 : Int)).2) + (Pl.turn (s3, t3) (15 : Int)).2) + (Pl.turn (s4, t4) (20 : Int)).2) + (Pl.turn (s5, t5) (25 : Int)).2)) (6 : Int)) = b6_11 s0 t0 s1 t1 s2 t2 s3 t3 s4 t4 s5 t5 := by
  obtain ⟨e, h1, h2, h3⟩ := be11 h
  rw [e]
  exact tb6 h3 ⟨h1, h2⟩
theorem bb11 {s0 t0 s1 t1 s2 t2 s3 t3 s4 t4 s5 t5 : Int} (h : isS s0 t0 s1 t1 s2 t2 s3 t3 s4 t4 s5 t5) : -100 ≤ b6_11 s0 t0 s1 t1 s2 t2 s3 t3 s4 t4 s5 t5 ∧ b6_11 s0 t0 s1 t1 s2 t2 s3 t3 s4 t4 s5 t5 ≤ 100 := ⟨(be11 h).2.1, (be11 h).2.2.1⟩
theorem rs0 {s0 t0 s1 t1 s2 t2 s3 t3 s4 t4 s5 t5 : Int} (h : isS s0 t0 s1 t1 s2 t2 s3 t3 s4 t4 s5 t5) : (b6_0 s0 t0 s1 t1 s2 t2 s3 t3 s4 t4 s5 t5) + (b6_2 s0 t0 s1 t1 s2 t2 s3 t3 s4 t4 s5 t5) + (b6_4 s0 t0 s1 t1 s2 t2 s3 t3 s4 t4 s5 t5) + (b6_6 s0 t0 s1 t1 s2 t2 s3 t3 s4 t4 s5 t5) + (b6_8 s0 t0 s1 t1 s2 t2 s3 t3 s4 t4 s5 t5) + (b6_10 s0 t0 s1 t1 s2 t2 s3 t3 s4 t4 s5 t5) = s0 := by
  obtain ⟨x0, y0, x1, y1, x2, y2, x3, y3, x4, y4, x5, y5, ⟨q0, q1, q2, q3, q4, q5, q6, q7, q8, q9, q10, q11⟩, rfl, rfl, rfl, rfl, rfl, rfl, rfl, rfl, rfl, rfl, rfl, rfl⟩ := h
  simp only [b6_0s, b6_1s, b6_2s, b6_3s, b6_4s, b6_5s, b6_6s, b6_7s, b6_8s, b6_9s, b6_10s, b6_11s]
theorem rs1 {s0 t0 s1 t1 s2 t2 s3 t3 s4 t4 s5 t5 : Int} (h : isS s0 t0 s1 t1 s2 t2 s3 t3 s4 t4 s5 t5) : (b6_1 s0 t0 s1 t1 s2 t2 s3 t3 s4 t4 s5 t5) + (b6_3 s0 t0 s1 t1 s2 t2 s3 t3 s4 t4 s5 t5) + (b6_5 s0 t0 s1 t1 s2 t2 s3 t3 s4 t4 s5 t5) + (b6_7 s0 t0 s1 t1 s2 t2 s3 t3 s4 t4 s5 t5) + (b6_9 s0 t0 s1 t1 s2 t2 s3 t3 s4 t4 s5 t5) + (b6_11 s0 t0 s1 t1 s2 t2 s3 t3 s4 t4 s5 t5) = t0 := by
  obtain ⟨x0, y0, x1, y1, x2, y2, x3, y3, x4, y4, x5, y5, ⟨q0, q1, q2, q3, q4, q5, q6, q7, q8, q9, q10, q11⟩, rfl, rfl, rfl, rfl, rfl, rfl, rfl, rfl, rfl, rfl, rfl, rfl⟩ := h
  simp only [b6_0s, b6_1s, b6_2s, b6_3s, b6_4s, b6_5s, b6_6s, b6_7s, b6_8s, b6_9s, b6_10s, b6_11s]
theorem rs2 {s0 t0 s1 t1 s2 t2 s3 t3 s4 t4 s5 t5 : Int} (h : isS s0 t0 s1 t1 s2 t2 s3 t3 s4 t4 s5 t5) : (b6_0 s0 t0 s1 t1 s2 t2 s3 t3 s4 t4 s5 t5) + (b6_3 s0 t0 s1 t1 s2 t2 s3 t3 s4 t4 s5 t5) - (b6_4 s0 t0 s1 t1 s2 t2 s3 t3 s4 t4 s5 t5) + (b6_5 s0 t0 s1 t1 s2 t2 s3 t3 s4 t4 s5 t5) - (b6_6 s0 t0 s1 t1 s2 t2 s3 t3 s4 t4 s5 t5) - (b6_9 s0 t0 s1 t1 s2 t2 s3 t3 s4 t4 s5 t5) + (b6_10 s0 t0 s1 t1 s2 t2 s3 t3 s4 t4 s5 t5) - (b6_11 s0 t0 s1 t1 s2 t2 s3 t3 s4 t4 s5 t5) = s1 := by
  obtain ⟨x0, y0, x1, y1, x2, y2, x3, y3, x4, y4, x5, y5, ⟨q0, q1, q2, q3, q4, q5, q6, q7, q8, q9, q10, q11⟩, rfl, rfl, rfl, rfl, rfl, rfl, rfl, rfl, rfl, rfl, rfl, rfl⟩ := h
  simp only [b6_0s, b6_1s, b6_2s, b6_3s, b6_4s, b6_5s, b6_6s, b6_7s, b6_8s, b6_9s, b6_10s, b6_11s]
theorem rs3 {s0 t0 s1 t1 s2 t2 s3 t3 s4 t4 s5 t5 : Int} (h : isS s0 t0 s1 t1 s2 t2 s3 t3 s4 t4 s5 t5) : (b6_1 s0 t0 s1 t1 s2 t2 s3 t3 s4 t4 s5 t5) - (b6_2 s0 t0 s1 t1 s2 t2 s3 t3 s4 t4 s5 t5) + (b6_3 s0 t0 s1 t1 s2 t2 s3 t3 s4 t4 s5 t5) - (b6_4 s0 t0 s1 t1 s2 t2 s3 t3 s4 t4 s5 t5) - (b6_7 s0 t0 s1 t1 s2 t2 s3 t3 s4 t4 s5 t5) + (b6_8 s0 t0 s1 t1 s2 t2 s3 t3 s4 t4 s5 t5) - (b6_9 s0 t0 s1 t1 s2 t2 s3 t3 s4 t4 s5 t5) + (b6_10 s0 t0 s1 t1 s2 t2 s3 t3 s4 t4 s5 t5) = t1 := by
  obtain ⟨x0, y0, x1, y1, x2, y2, x3, y3, x4, y4, x5, y5, ⟨q0, q1, q2, q3, q4, q5, q6, q7, q8, q9, q10, q11⟩, rfl, rfl, rfl, rfl, rfl, rfl, rfl, rfl, rfl, rfl, rfl, rfl⟩ := h
  simp only [b6_0s, b6_1s, b6_2s, b6_3s, b6_4s, b6_5s, b6_6s, b6_7s, b6_8s, b6_9s, b6_10s, b6_11s]
theorem rs4 {s0 t0 s1 t1 s2 t2 s3 t3 s4 t4 s5 t5 : Int} (h : isS s0 t0 s1 t1 s2 t2 s3 t3 s4 t4 s5 t5) : (b6_0 s0 t0 s1 t1 s2 t2 s3 t3 s4 t4 s5 t5) - (b6_2 s0 t0 s1 t1 s2 t2 s3 t3 s4 t4 s5 t5) + (b6_3 s0 t0 s1 t1 s2 t2 s3 t3 s4 t4 s5 t5) - (b6_5 s0 t0 s1 t1 s2 t2 s3 t3 s4 t4 s5 t5) + (b6_6 s0 t0 s1 t1 s2 t2 s3 t3 s4 t4 s5 t5) - (b6_8 s0 t0 s1 t1 s2 t2 s3 t3 s4 t4 s5 t5) + (b6_9 s0 t0 s1 t1 s2 t2 s3 t3 s4 t4 s5 t5) - (b6_11 s0 t0 s1 t1 s2 t2 s3 t3 s4 t4 s5 t5) = s2 := by
  obtain ⟨x0, y0, x1, y1, x2, y2, x3, y3, x4, y4, x5, y5, ⟨q0, q1, q2, q3, q4, q5, q6, q7, q8, q9, q10, q11⟩, rfl, rfl, rfl, rfl, rfl, rfl, rfl, rfl, rfl, rfl, rfl, rfl⟩ := h
  simp only [b6_0s, b6_1s, b6_2s, b6_3s, b6_4s, b6_5s, b6_6s, b6_7s, b6_8s, b6_9s, b6_10s, b6_11s]
theorem rs5 {s0 t0 s1 t1 s2 t2 s3 t3 s4 t4 s5 t5 : Int} (h : isS s0 t0 s1 t1 s2 t2 s3 t3 s4 t4 s5 t5) : (b6_1 s0 t0 s1 t1 s2 t2 s3 t3 s4 t4 s5 t5) - (b6_2 s0 t0 s1 t1 s2 t2 s3 t3 s4 t4 s5 t5) + (b6_4 s0 t0 s1 t1 s2 t2 s3 t3 s4 t4 s5 t5) - (b6_5 s0 t0 s1 t1 s2 t2 s3 t3 s4 t4 s5 t5) + (b6_7 s0 t0 s1 t1 s2 t2 s3 t3 s4 t4 s5 t5) - (b6_8 s0 t0 s1 t1 s2 t2 s3 t3 s4 t4 s5 t5) + (b6_10 s0 t0 s1 t1 s2 t2 s3 t3 s4 t4 s5 t5) - (b6_11 s0 t0 s1 t1 s2 t2 s3 t3 s4 t4 s5 t5) = t2 := by
  obtain ⟨x0, y0, x1, y1, x2, y2, x3, y3, x4, y4, x5, y5, ⟨q0, q1, q2, q3, q4, q5, q6, q7, q8, q9, q10, q11⟩, rfl, rfl, rfl, rfl, rfl, rfl, rfl, rfl, rfl, rfl, rfl, rfl⟩ := h
  simp only [b6_0s, b6_1s, b6_2s, b6_3s, b6_4s, b6_5s, b6_6s, b6_7s, b6_8s, b6_9s, b6_10s, b6_11s]
theorem rs6 {s0 t0 s1 t1 s2 t2 s3 t3 s4 t4 s5 t5 : Int} (h : isS s0 t0 s1 t1 s2 t2 s3 t3 s4 t4 s5 t5) : (b6_0 s0 t0 s1 t1 s2 t2 s3 t3 s4 t4 s5 t5) - (b6_2 s0 t0 s1 t1 s2 t2 s3 t3 s4 t4 s5 t5) + (b6_4 s0 t0 s1 t1 s2 t2 s3 t3 s4 t4 s5 t5) - (b6_6 s0 t0 s1 t1 s2 t2 s3 t3 s4 t4 s5 t5) + (b6_8 s0 t0 s1 t1 s2 t2 s3 t3 s4 t4 s5 t5) - (b6_10 s0 t0 s1 t1 s2 t2 s3 t3 s4 t4 s5 t5) = s3 := by
  obtain ⟨x0, y0, x1, y1, x2, y2, x3, y3, x4, y4, x5, y5, ⟨q0, q1, q2, q3, q4, q5, q6, q7, q8, q9, q10, q11⟩, rfl, rfl, rfl, rfl, rfl, rfl, rfl, rfl, rfl, rfl, rfl, rfl⟩ := h
  simp only [b6_0s, b6_1s, b6_2s, b6_3s, b6_4s, b6_5s, b6_6s, b6_7s, b6_8s, b6_9s, b6_10s, b6_11s]
theorem rs7 {s0 t0 s1 t1 s2 t2 s3 t3 s4 t4 s5 t5 : Int} (h : isS s0 t0 s1 t1 s2 t2 s3 t3 s4 t4 s5 t5) : (b6_1 s0 t0 s1 t1 s2 t2 s3 t3 s4 t4 s5 t5) - (b6_3 s0 t0 s1 t1 s2 t2 s3 t3 s4 t4 s5 t5) + (b6_5 s0 t0 s1 t1 s2 t2 s3 t3 s4 t4 s5 t5) - (b6_7 s0 t0 s1 t1 s2 t2 s3 t3 s4 t4 s5 t5) + (b6_9 s0 t0 s1 t1 s2 t2 s3 t3 s4 t4 s5 t5) - (b6_11 s0 t0 s1 t1 s2 t2 s3 t3 s4 t4 s5 t5) = t3 := by
  obtain ⟨x0, y0, x1, y1, x2, y2, x3, y3, x4, y4, x5, y5, ⟨q0, q1, q2, q3, q4, q5, q6, q7, q8, q9, q10, q11⟩, rfl, rfl, rfl, rfl, rfl, rfl, rfl, rfl, rfl, rfl, rfl, rfl⟩ := h
  simp only [b6_0s, b6_1s, b6_2s, b6_3s, b6_4s, b6_5s, b6_6s, b6_7s, b6_8s, b6_9s, b6_10s, b6_11s]
theorem rs8 {s0 t0 s1 t1 s2 t2 s3 t3 s4 t4 s5 t5 : Int} (h : isS s0 t0 s1 t1 s2 t2 s3 t3 s4 t4 s5 t5) : (b6_0 s0 t0 s1 t1 s2 t2 s3 t3 s4 t4 s5 t5) - (b6_3 s0 t0 s1 t1 s2 t2 s3 t3 s4 t4 s5 t5) - (b6_4 s0 t0 s1 t1 s2 t2 s3 t3 s4 t4 s5 t5) + (b6_5 s0 t0 s1 t1 s2 t2 s3 t3 s4 t4 s5 t5) + (b6_6 s0 t0 s1 t1 s2 t2 s3 t3 s4 t4 s5 t5) - (b6_9 s0 t0 s1 t1 s2 t2 s3 t3 s4 t4 s5 t5) - (b6_10 s0 t0 s1 t1 s2 t2 s3 t3 s4 t4 s5 t5) + (b6_11 s0 t0 s1 t1 s2 t2 s3 t3 s4 t4 s5 t5) = s4 := by
  obtain ⟨x0, y0, x1, y1, x2, y2, x3, y3, x4, y4, x5, y5, ⟨q0, q1, q2, q3, q4, q5, q6, q7, q8, q9, q10, q11⟩, rfl, rfl, rfl, rfl, rfl, rfl, rfl, rfl, rfl, rfl, rfl, rfl⟩ := h
  simp only [b6_0s, b6_1s, b6_2s, b6_3s, b6_4s, b6_5s, b6_6s, b6_7s, b6_8s, b6_9s, b6_10s, b6_11s]
theorem rs9 {s0 t0 s1 t1 s2 t2 s3 t3 s4 t4 s5 t5 : Int} (h : isS s0 t0 s1 t1 s2 t2 s3 t3 s4 t4 s5 t5) : (b6_1 s0 t0 s1 t1 s2 t2 s3 t3 s4 t4 s5 t5) + (b6_2 s0 t0 s1 t1 s2 t2 s3 t3 s4 t4 s5 t5) - (b6_3 s0 t0 s1 t1 s2 t2 s3 t3 s4 t4 s5 t5) - (b6_4 s0 t0 s1 t1 s2 t2 s3 t3 s4 t4 s5 t5) + (b6_7 s0 t0 s1 t1 s2 t2 s3 t3 s4 t4 s5 t5) + (b6_8 s0 t0 s1 t1 s2 t2 s3 t3 s4 t4 s5 t5) - (b6_9 s0 t0 s1 t1 s2 t2 s3 t3 s4 t4 s5 t5) - (b6_10 s0 t0 s1 t1 s2 t2 s3 t3 s4 t4 s5 t5) = t4 := by
  obtain ⟨x0, y0, x1, y1, x2, y2, x3, y3, x4, y4, x5, y5, ⟨q0, q1, q2, q3, q4, q5, q6, q7, q8, q9, q10, q11⟩, rfl, rfl, rfl, rfl, rfl, rfl, rfl, rfl, rfl, rfl, rfl, rfl⟩ := h
  simp only [b6_0s, b6_1s, b6_2s, b6_3s, b6_4s, b6_5s, b6_6s, b6_7s, b6_8s, b6_9s, b6_10s, b6_11s]
theorem rs10 {s0 t0 s1 t1 s2 t2 s3 t3 s4 t4 s5 t5 : Int} (h : isS s0 t0 s1 t1 s2 t2 s3 t3 s4 t4 s5 t5) : (b6_0 s0 t0 s1 t1 s2 t2 s3 t3 s4 t4 s5 t5) + (b6_2 s0 t0 s1 t1 s2 t2 s3 t3 s4 t4 s5 t5) - (b6_3 s0 t0 s1 t1 s2 t2 s3 t3 s4 t4 s5 t5) - (b6_5 s0 t0 s1 t1 s2 t2 s3 t3 s4 t4 s5 t5) - (b6_6 s0 t0 s1 t1 s2 t2 s3 t3 s4 t4 s5 t5) - (b6_8 s0 t0 s1 t1 s2 t2 s3 t3 s4 t4 s5 t5) + (b6_9 s0 t0 s1 t1 s2 t2 s3 t3 s4 t4 s5 t5) + (b6_11 s0 t0 s1 t1 s2 t2 s3 t3 s4 t4 s5 t5) = s5 := by
  obtain ⟨x0, y0, x1, y1, x2, y2, x3, y3, x4, y4, x5, y5, ⟨q0, q1, q2, q3, q4, q5, q6, q7, q8, q9, q10, q11⟩, rfl, rfl, rfl, rfl, rfl, rfl, rfl, rfl, rfl, rfl, rfl, rfl⟩ := h
  simp only [b6_0s, b6_1s, b6_2s, b6_3s, b6_4s, b6_5s, b6_6s, b6_7s, b6_8s, b6_9s, b6_10s, b6_11s]
theorem rs11 {s0 t0 s1 t1 s2 t2 s3 t3 s4 t4 s5 t5 : Int} (h : isS s0 t0 s1 t1 s2 t2 s3 t3 s4 t4 s5 t5) : (b6_1 s0 t0 s1 t1 s2 t2 s3 t3 s4 t4 s5 t5) + (b6_2 s0 t0 s1 t1 s2 t2 s3 t3 s4 t4 s5 t5) + (b6_4 s0 t0 s1 t1 s2 t2 s3 t3 s4 t4 s5 t5) - (b6_5 s0 t0 s1 t1 s2 t2 s3 t3 s4 t4 s5 t5) - (b6_7 s0 t0 s1 t1 s2 t2 s3 t3 s4 t4 s5 t5) - (b6_8 s0 t0 s1 t1 s2 t2 s3 t3 s4 t4 s5 t5) - (b6_10 s0 t0 s1 t1 s2 t2 s3 t3 s4 t4 s5 t5) + (b6_11 s0 t0 s1 t1 s2 t2 s3 t3 s4 t4 s5 t5) = t5 := by
  obtain ⟨x0, y0, x1, y1, x2, y2, x3, y3, x4, y4, x5, y5, ⟨q0, q1, q2, q3, q4, q5, q6, q7, q8, q9, q10, q11⟩, rfl, rfl, rfl, rfl, rfl, rfl, rfl, rfl, rfl, rfl, rfl, rfl⟩ := h
  simp only [b6_0s, b6_1s, b6_2s, b6_3s, b6_4s, b6_5s, b6_6s, b6_7s, b6_8s, b6_9s, b6_10s, b6_11s]
theorem ps0 {s0 t0 s1 t1 s2 t2 s3 t3 s4 t4 s5 t5 : Int} (h : isS s0 t0 s1 t1 s2 t2 s3 t3 s4 t4 s5 t5) : (Pl.parts s0 t0 1048576 != 0) = false := by
  obtain ⟨c0, c1, c2, c3, c4, c5, c6, c7, c8, c9, c10, c11⟩ := isb h
  exact pz (by omega) (by omega)
theorem pg0 {s0 t0 s1 t1 s2 t2 s3 t3 s4 t4 s5 t5 : Int} (h : isS s0 t0 s1 t1 s2 t2 s3 t3 s4 t4 s5 t5) : Bg 1099511627776 s0 t0 := by
  obtain ⟨c0, c1, c2, c3, c4, c5, c6, c7, c8, c9, c10, c11⟩ := isb h
  exact bgo (by omega) (by omega)
theorem pq0 {s0 t0 s1 t1 s2 t2 s3 t3 s4 t4 s5 t5 : Int} (h : isS s0 t0 s1 t1 s2 t2 s3 t3 s4 t4 s5 t5) : (Pl.parts (b6_0 s0 t0 s1 t1 s2 t2 s3 t3 s4 t4 s5 t5) (b6_1 s0 t0 s1 t1 s2 t2 s3 t3 s4 t4 s5 t5) 65536 != 0) = false := by
  have h1 := bb0 h
  have h2 := bb1 h
  exact pz (by omega) (by omega)
theorem ps1 {s0 t0 s1 t1 s2 t2 s3 t3 s4 t4 s5 t5 : Int} (h : isS s0 t0 s1 t1 s2 t2 s3 t3 s4 t4 s5 t5) : (Pl.parts s1 t1 1048576 != 0) = false := by
  obtain ⟨c0, c1, c2, c3, c4, c5, c6, c7, c8, c9, c10, c11⟩ := isb h
  exact pz (by omega) (by omega)
theorem pg1 {s0 t0 s1 t1 s2 t2 s3 t3 s4 t4 s5 t5 : Int} (h : isS s0 t0 s1 t1 s2 t2 s3 t3 s4 t4 s5 t5) : Bg 1099511627776 s1 t1 := by
  obtain ⟨c0, c1, c2, c3, c4, c5, c6, c7, c8, c9, c10, c11⟩ := isb h
  exact bgo (by omega) (by omega)
theorem pq1 {s0 t0 s1 t1 s2 t2 s3 t3 s4 t4 s5 t5 : Int} (h : isS s0 t0 s1 t1 s2 t2 s3 t3 s4 t4 s5 t5) : (Pl.parts (b6_2 s0 t0 s1 t1 s2 t2 s3 t3 s4 t4 s5 t5) (b6_3 s0 t0 s1 t1 s2 t2 s3 t3 s4 t4 s5 t5) 65536 != 0) = false := by
  have h1 := bb2 h
  have h2 := bb3 h
  exact pz (by omega) (by omega)
theorem ps2 {s0 t0 s1 t1 s2 t2 s3 t3 s4 t4 s5 t5 : Int} (h : isS s0 t0 s1 t1 s2 t2 s3 t3 s4 t4 s5 t5) : (Pl.parts s2 t2 1048576 != 0) = false := by
  obtain ⟨c0, c1, c2, c3, c4, c5, c6, c7, c8, c9, c10, c11⟩ := isb h
  exact pz (by omega) (by omega)
theorem pg2 {s0 t0 s1 t1 s2 t2 s3 t3 s4 t4 s5 t5 : Int} (h : isS s0 t0 s1 t1 s2 t2 s3 t3 s4 t4 s5 t5) : Bg 1099511627776 s2 t2 := by
  obtain ⟨c0, c1, c2, c3, c4, c5, c6, c7, c8, c9, c10, c11⟩ := isb h
  exact bgo (by omega) (by omega)
theorem pq2 {s0 t0 s1 t1 s2 t2 s3 t3 s4 t4 s5 t5 : Int} (h : isS s0 t0 s1 t1 s2 t2 s3 t3 s4 t4 s5 t5) : (Pl.parts (b6_4 s0 t0 s1 t1 s2 t2 s3 t3 s4 t4 s5 t5) (b6_5 s0 t0 s1 t1 s2 t2 s3 t3 s4 t4 s5 t5) 65536 != 0) = false := by
  have h1 := bb4 h
  have h2 := bb5 h
  exact pz (by omega) (by omega)
theorem ps3 {s0 t0 s1 t1 s2 t2 s3 t3 s4 t4 s5 t5 : Int} (h : isS s0 t0 s1 t1 s2 t2 s3 t3 s4 t4 s5 t5) : (Pl.parts s3 t3 1048576 != 0) = false := by
  obtain ⟨c0, c1, c2, c3, c4, c5, c6, c7, c8, c9, c10, c11⟩ := isb h
  exact pz (by omega) (by omega)
theorem pg3 {s0 t0 s1 t1 s2 t2 s3 t3 s4 t4 s5 t5 : Int} (h : isS s0 t0 s1 t1 s2 t2 s3 t3 s4 t4 s5 t5) : Bg 1099511627776 s3 t3 := by
  obtain ⟨c0, c1, c2, c3, c4, c5, c6, c7, c8, c9, c10, c11⟩ := isb h
  exact bgo (by omega) (by omega)
theorem pq3 {s0 t0 s1 t1 s2 t2 s3 t3 s4 t4 s5 t5 : Int} (h : isS s0 t0 s1 t1 s2 t2 s3 t3 s4 t4 s5 t5) : (Pl.parts (b6_6 s0 t0 s1 t1 s2 t2 s3 t3 s4 t4 s5 t5) (b6_7 s0 t0 s1 t1 s2 t2 s3 t3 s4 t4 s5 t5) 65536 != 0) = false := by
  have h1 := bb6 h
  have h2 := bb7 h
  exact pz (by omega) (by omega)
theorem ps4 {s0 t0 s1 t1 s2 t2 s3 t3 s4 t4 s5 t5 : Int} (h : isS s0 t0 s1 t1 s2 t2 s3 t3 s4 t4 s5 t5) : (Pl.parts s4 t4 1048576 != 0) = false := by
  obtain ⟨c0, c1, c2, c3, c4, c5, c6, c7, c8, c9, c10, c11⟩ := isb h
  exact pz (by omega) (by omega)
theorem pg4 {s0 t0 s1 t1 s2 t2 s3 t3 s4 t4 s5 t5 : Int} (h : isS s0 t0 s1 t1 s2 t2 s3 t3 s4 t4 s5 t5) : Bg 1099511627776 s4 t4 := by
  obtain ⟨c0, c1, c2, c3, c4, c5, c6, c7, c8, c9, c10, c11⟩ := isb h
  exact bgo (by omega) (by omega)
theorem pq4 {s0 t0 s1 t1 s2 t2 s3 t3 s4 t4 s5 t5 : Int} (h : isS s0 t0 s1 t1 s2 t2 s3 t3 s4 t4 s5 t5) : (Pl.parts (b6_8 s0 t0 s1 t1 s2 t2 s3 t3 s4 t4 s5 t5) (b6_9 s0 t0 s1 t1 s2 t2 s3 t3 s4 t4 s5 t5) 65536 != 0) = false := by
  have h1 := bb8 h
  have h2 := bb9 h
  exact pz (by omega) (by omega)
theorem ps5 {s0 t0 s1 t1 s2 t2 s3 t3 s4 t4 s5 t5 : Int} (h : isS s0 t0 s1 t1 s2 t2 s3 t3 s4 t4 s5 t5) : (Pl.parts s5 t5 1048576 != 0) = false := by
  obtain ⟨c0, c1, c2, c3, c4, c5, c6, c7, c8, c9, c10, c11⟩ := isb h
  exact pz (by omega) (by omega)
theorem pg5 {s0 t0 s1 t1 s2 t2 s3 t3 s4 t4 s5 t5 : Int} (h : isS s0 t0 s1 t1 s2 t2 s3 t3 s4 t4 s5 t5) : Bg 1099511627776 s5 t5 := by
  obtain ⟨c0, c1, c2, c3, c4, c5, c6, c7, c8, c9, c10, c11⟩ := isb h
  exact bgo (by omega) (by omega)
theorem pq5 {s0 t0 s1 t1 s2 t2 s3 t3 s4 t4 s5 t5 : Int} (h : isS s0 t0 s1 t1 s2 t2 s3 t3 s4 t4 s5 t5) : (Pl.parts (b6_10 s0 t0 s1 t1 s2 t2 s3 t3 s4 t4 s5 t5) (b6_11 s0 t0 s1 t1 s2 t2 s3 t3 s4 t4 s5 t5) 65536 != 0) = false := by
  have h1 := bb10 h
  have h2 := bb11 h
  exact pz (by omega) (by omega)
theorem s6p {s0 t0 s1 t1 s2 t2 s3 t3 s4 t4 s5 t5 : Int} (h : isS s0 t0 s1 t1 s2 t2 s3 t3 s4 t4 s5 t5) : (-65536 ≤ b6_0 s0 t0 s1 t1 s2 t2 s3 t3 s4 t4 s5 t5 ∧ b6_0 s0 t0 s1 t1 s2 t2 s3 t3 s4 t4 s5 t5 ≤ 65536) ∧ (-65536 ≤ b6_1 s0 t0 s1 t1 s2 t2 s3 t3 s4 t4 s5 t5 ∧ b6_1 s0 t0 s1 t1 s2 t2 s3 t3 s4 t4 s5 t5 ≤ 65536) ∧ (-65536 ≤ b6_2 s0 t0 s1 t1 s2 t2 s3 t3 s4 t4 s5 t5 ∧ b6_2 s0 t0 s1 t1 s2 t2 s3 t3 s4 t4 s5 t5 ≤ 65536) ∧ (-65536 ≤ b6_3 s0 t0 s1 t1 s2 t2 s3 t3 s4 t4 s5 t5 ∧ b6_3 s0 t0 s1 t1 s2 t2 s3 t3 s4 t4 s5 t5 ≤ 65536) ∧ (-65536 ≤ b6_4 s0 t0 s1 t1 s2 t2 s3 t3 s4 t4 s5 t5 ∧ b6_4 s0 t0 s1 t1 s2 t2 s3 t3 s4 t4 s5 t5 ≤ 65536) ∧ (-65536 ≤ b6_5 s0 t0 s1 t1 s2 t2 s3 t3 s4 t4 s5 t5 ∧ b6_5 s0 t0 s1 t1 s2 t2 s3 t3 s4 t4 s5 t5 ≤ 65536) ∧ (-65536 ≤ b6_6 s0 t0 s1 t1 s2 t2 s3 t3 s4 t4 s5 t5 ∧ b6_6 s0 t0 s1 t1 s2 t2 s3 t3 s4 t4 s5 t5 ≤ 65536) ∧ (-65536 ≤ b6_7 s0 t0 s1 t1 s2 t2 s3 t3 s4 t4 s5 t5 ∧ b6_7 s0 t0 s1 t1 s2 t2 s3 t3 s4 t4 s5 t5 ≤ 65536) ∧ (-65536 ≤ b6_8 s0 t0 s1 t1 s2 t2 s3 t3 s4 t4 s5 t5 ∧ b6_8 s0 t0 s1 t1 s2 t2 s3 t3 s4 t4 s5 t5 ≤ 65536) ∧ (-65536 ≤ b6_9 s0 t0 s1 t1 s2 t2 s3 t3 s4 t4 s5 t5 ∧ b6_9 s0 t0 s1 t1 s2 t2 s3 t3 s4 t4 s5 t5 ≤ 65536) ∧ (-65536 ≤ b6_10 s0 t0 s1 t1 s2 t2 s3 t3 s4 t4 s5 t5 ∧ b6_10 s0 t0 s1 t1 s2 t2 s3 t3 s4 t4 s5 t5 ≤ 65536) ∧ (-65536 ≤ b6_11 s0 t0 s1 t1 s2 t2 s3 t3 s4 t4 s5 t5 ∧ b6_11 s0 t0 s1 t1 s2 t2 s3 t3 s4 t4 s5 t5 ≤ 65536) := by
  have h0 := bb0 h
  have h1 := bb1 h
  have h2 := bb2 h
  have h3 := bb3 h
  have h4 := bb4 h
  have h5 := bb5 h
  have h6 := bb6 h
  have h7 := bb7 h
  have h8 := bb8 h
  have h9 := bb9 h
  have h10 := bb10 h
  have h11 := bb11 h
  exact ⟨⟨by omega, by omega⟩, ⟨by omega, by omega⟩, ⟨by omega, by omega⟩, ⟨by omega, by omega⟩, ⟨by omega, by omega⟩, ⟨by omega, by omega⟩, ⟨by omega, by omega⟩, ⟨by omega, by omega⟩, ⟨by omega, by omega⟩, ⟨by omega, by omega⟩, ⟨by omega, by omega⟩, ⟨by omega, by omega⟩⟩

def c_oSteps : Con := ⟨11, [.agg [.i64, .i64, .i64, .i64, .i64, .i64, .i64, .i64, .i64, .i64, .i64, .i64]], fun ns => match ns with | [s0, t0, s1, t1, s2, t2, s3, t3, s4, t4, s5, t5] => .tuple #[.agg #[.int .i64 (b6_0 s0 t0 s1 t1 s2 t2 s3 t3 s4 t4 s5 t5), .int .i64 (b6_1 s0 t0 s1 t1 s2 t2 s3 t3 s4 t4 s5 t5), .int .i64 (b6_2 s0 t0 s1 t1 s2 t2 s3 t3 s4 t4 s5 t5), .int .i64 (b6_3 s0 t0 s1 t1 s2 t2 s3 t3 s4 t4 s5 t5), .int .i64 (b6_4 s0 t0 s1 t1 s2 t2 s3 t3 s4 t4 s5 t5), .int .i64 (b6_5 s0 t0 s1 t1 s2 t2 s3 t3 s4 t4 s5 t5), .int .i64 (b6_6 s0 t0 s1 t1 s2 t2 s3 t3 s4 t4 s5 t5), .int .i64 (b6_7 s0 t0 s1 t1 s2 t2 s3 t3 s4 t4 s5 t5), .int .i64 (b6_8 s0 t0 s1 t1 s2 t2 s3 t3 s4 t4 s5 t5), .int .i64 (b6_9 s0 t0 s1 t1 s2 t2 s3 t3 s4 t4 s5 t5), .int .i64 (b6_10 s0 t0 s1 t1 s2 t2 s3 t3 s4 t4 s5 t5), .int .i64 (b6_11 s0 t0 s1 t1 s2 t2 s3 t3 s4 t4 s5 t5)], .int .i64 0] | _ => .bool true, fun ns => match ns with | [s0, t0, s1, t1, s2, t2, s3, t3, s4, t4, s5, t5] => isS s0 t0 s1 t1 s2 t2 s3 t3 s4 t4 s5 t5 | _ => True⟩
def c_oNorm : Con := ⟨12, [.agg [.i64, .i64]], fun ns => match ns with | [a, b] => .tuple #[.int .i64 (Pl.norm (a, b)), .int .i64 0] | _ => .bool true, fun ns => match ns with | [a, b] => -1048576 ≤ a ∧ a ≤ 1048576 ∧ -1048576 ≤ b ∧ b ≤ 1048576 | _ => True⟩
def c_rpart : Con := ⟨37, [.agg [.i64, .i64], .int .i64], fun ns => match ns with | [a, b, m] => .int .i64 0 | _ => .bool true, fun ns => match ns with | [a, b, m] => (0 ≤ m ∧ m ≤ 1048576) ∧ (-m ≤ a ∧ a ≤ m) ∧ -m ≤ b ∧ b ≤ m | _ => True⟩
def c_oTurned : Con := ⟨13, [.agg [.i64, .i64], .int .i64], fun ns => match ns with | [a, b, n] => .tuple #[.agg #[.int .i64 (Pl.turn (a, b) n).1, .int .i64 (Pl.turn (a, b) n).2], .int .i64 0] | _ => .bool true, fun ns => match ns with | [a, b, n] => (-524288 ≤ a ∧ a ≤ 524288) ∧ (-524288 ≤ b ∧ b ≤ 524288) ∧ -1000000 ≤ n ∧ n ≤ 1000000 | _ => True⟩
noncomputable def x_oSteps : CallS := kAll [c_checkEisen, c_turn, c_checkPhase, c_spec6]
noncomputable def oSteps_e0 (s0 t0 s1 t1 s2 t2 s3 t3 s4 t4 s5 t5 : Int) : Option OutS := evFS Tryz.prog x_oSteps 1000 11 #[.agg #[.int .i64 s0, .int .i64 t0, .int .i64 s1, .int .i64 t1, .int .i64 s2, .int .i64 t2, .int .i64 s3, .int .i64 t3, .int .i64 s4, .int .i64 t4, .int .i64 s5, .int .i64 t5]] (noTabs 6) ⟨[1, 0, 0, 1, 1, 0, 1, 2, 0, 1, 3, 0, 1, 4, 0, 1, 5, 0, 0, 0, 1, 1, 0, 0, 0, 1, 0, 1, 0, 1, 0, 2, 0, 1, 0, 3, 0, 1, 0, 4, 0, 1, 0, 5, 0, 0, 1, 1, 1, 0, 1, 1, 1, 1, 1, 1, 1, 2, 1, 1, 1, 3, 1, 1, 1, 4, 1, 1, 1, 5, 1, 0, 1, 1, 2, 0, 2, 1, 2, 1, 2, 1, 2, 2, 2, 1, 2, 3, 2, 1, 2, 4, 2, 1, 2, 5, 2, 0, 1, 1, 3, 0, 3, 1, 3, 1, 3, 1, 3, 2, 3, 1, 3, 3, 3, 1, 3, 4, 3, 1, 3, 5, 3, 0, 1, 1, 4, 0, 4, 1, 4, 1, 4, 1, 4, 2, 4, 1, 4, 3, 4, 1, 4, 4, 4, 1, 4, 5, 4, 0, 1, 1, 5, 0, 5, 1, 5, 1, 5, 1, 5, 2, 5, 1, 5, 3, 5, 1, 5, 4, 5, 1, 5, 5, 5, 0, 0, 1, 0, 0, 1, 1, 1, 1, 2, 2, 1, 3, 3, 1, 4, 4, 1, 5, 5, 0, 1, 0, 0, 1, 1, 0, 1, 2, 0, 1, 3, 0, 1, 4, 0, 1, 5, 0, 0, 1, 1, 1, 1, 0, 0], True⟩
noncomputable def x_oNorm : CallS := kAll [c_checkEisen, c_enorm]
noncomputable def oNorm_e0 (a b : Int) : Option OutS := evFS Tryz.prog x_oNorm 1000 12 #[.agg #[.int .i64 a, .int .i64 b]] (noTabs 6) ⟨[0], True⟩
noncomputable def x_rpart : CallS := kAll [c_rrange]
noncomputable def rpart_e0 (a b m : Int) : Option OutS := evFS Tryz.prog x_rpart 1000 37 #[.agg #[.int .i64 a, .int .i64 b], .int .i64 m] (noTabs 6) ⟨[1, 0, 0, 1, 1, 0, 0], True⟩
noncomputable def x_oTurned : CallS := kAll [c_checkEisen, c_checkTurn, c_turn, c_limited]
noncomputable def oTurned_e0 (a b n : Int) : Option OutS := evFS Tryz.prog x_oTurned 1000 13 #[.agg #[.int .i64 a, .int .i64 b], .int .i64 n] (noTabs 6) ⟨[1, 0, 0, 1, 1, 0, 0, 0], True⟩
end Go.Proofs.YtjpffbekhfkibaaGreatDoor
end
section
set_option linter.all false
set_option maxRecDepth 1000000
set_option maxHeartbeats 2000000
open Go.RowKit
namespace Go.Proofs.YtjpffbekhfkibaaGreatDoor
open Mini

def checkPhase_val (a b : Int) : Value := .int .i64 (Pl.parts a b 65536)
theorem checkPhase_X : FOkS Tryz.prog x_checkPhase := kAll_ok _ ⟨k_range, trivial⟩
theorem checkPhase_args (a b : Int) : (#[.agg #[.int .i64 a, .int .i64 b]] : Array Value).toList.all (ground 8) = true := by kernel_rfl
theorem checkPhase_g0 : True := by first | rfl | trivial | decide | omega
theorem checkPhase_g1 : (true = true) := by first | rfl | trivial | decide | omega
theorem checkPhase_g2 : ((0 : Int) = (0 : Int)) := by first | rfl | trivial | decide | omega
def checkPhase_c0 (a b : Int) : Bool := ((Pl.cr a (-65536 : Int) (65536 : Int)) != (0 : Int))
theorem checkPhase_g4 : ((1 : Int) = (1 : Int)) := by first | rfl | trivial | decide | omega
def checkPhase_c1 (a b : Int) : Bool := ((Pl.cr b (-65536 : Int) (65536 : Int)) != (0 : Int))
theorem checkPhase_g6 : (false = false) := by first | rfl | trivial | decide | omega
def checkPhase_w0 (a b : Int) : Value := .int .i64 (0 : Int)
def checkPhase_r0 (a b : Int) : Prop := (((((((((True ∧ (True)) ∧ (True)) ∧ ((true = true))) ∧ (((0 : Int) = (0 : Int)))) ∧ (checkPhase_c0 a b = false)) ∧ ((true = true))) ∧ (((1 : Int) = (1 : Int)))) ∧ (checkPhase_c1 a b = false)) ∧ ((false = false)))
theorem checkPhase_o0 (a b : Int) : obOf (checkPhase_e0 a b) = checkPhase_r0 a b := by kernel_rfl
theorem checkPhase_v0 (a b : Int) : resOf (checkPhase_e0 a b) = checkPhase_w0 a b := by kernel_rfl
theorem checkPhase_k0 (a b : Int) : cleanOf Tryz.prog.globals.size (checkPhase_e0 a b) = true := by kernel_rfl
theorem checkPhase_q0 (a b : Int) : checkPhase_e0 a b = evFS Tryz.prog x_checkPhase 1000 35 #[.agg #[.int .i64 a, .int .i64 b]] (noTabs 6) ⟨[1, 0, 0, 1, 1, 0, 0], True⟩ := by
  delta checkPhase_e0
  exact Eq.refl _
theorem checkPhase_p0 (a b : Int) (h : checkPhase_r0 a b) (w : World) : Calls Tryz.prog 35 #[.agg #[.int .i64 a, .int .i64 b]] w fun en w' => en = .returned (checkPhase_w0 a b) ∧ Below w.heap.size w w' := by
  have hv := checkPhase_v0 a b
  have hc := checkPhase_k0 a b
  have he := checkPhase_q0 a b
  have ho := checkPhase_o0 a b
  generalize checkPhase_e0 a b = r at *
  exact calls_way he gfol checkPhase_X hv rfl (checkPhase_args a b) hc ho h (bl w)
def checkPhase_w1 (a b : Int) : Value := .int .i64 (Pl.cr b (-65536 : Int) (65536 : Int))
def checkPhase_r1 (a b : Int) : Prop := ((((((((True ∧ (True)) ∧ (True)) ∧ ((true = true))) ∧ (((0 : Int) = (0 : Int)))) ∧ (checkPhase_c0 a b = false)) ∧ ((true = true))) ∧ (((1 : Int) = (1 : Int)))) ∧ (checkPhase_c1 a b = true))
theorem checkPhase_o1 (a b : Int) : obOf (checkPhase_e1 a b) = checkPhase_r1 a b := by kernel_rfl
theorem checkPhase_v1 (a b : Int) : resOf (checkPhase_e1 a b) = checkPhase_w1 a b := by kernel_rfl
theorem checkPhase_k1 (a b : Int) : cleanOf Tryz.prog.globals.size (checkPhase_e1 a b) = true := by kernel_rfl
theorem checkPhase_q1 (a b : Int) : checkPhase_e1 a b = evFS Tryz.prog x_checkPhase 1000 35 #[.agg #[.int .i64 a, .int .i64 b]] (noTabs 6) ⟨[1, 0, 0, 1, 1, 1], True⟩ := by
  delta checkPhase_e1
  exact Eq.refl _
theorem checkPhase_p1 (a b : Int) (h : checkPhase_r1 a b) (w : World) : Calls Tryz.prog 35 #[.agg #[.int .i64 a, .int .i64 b]] w fun en w' => en = .returned (checkPhase_w1 a b) ∧ Below w.heap.size w w' := by
  have hv := checkPhase_v1 a b
  have hc := checkPhase_k1 a b
  have he := checkPhase_q1 a b
  have ho := checkPhase_o1 a b
  generalize checkPhase_e1 a b = r at *
  exact calls_way he gfol checkPhase_X hv rfl (checkPhase_args a b) hc ho h (bl w)
def checkPhase_w2 (a b : Int) : Value := .int .i64 (Pl.cr a (-65536 : Int) (65536 : Int))
def checkPhase_r2 (a b : Int) : Prop := (((((True ∧ (True)) ∧ (True)) ∧ ((true = true))) ∧ (((0 : Int) = (0 : Int)))) ∧ (checkPhase_c0 a b = true))
theorem checkPhase_o2 (a b : Int) : obOf (checkPhase_e2 a b) = checkPhase_r2 a b := by kernel_rfl
theorem checkPhase_v2 (a b : Int) : resOf (checkPhase_e2 a b) = checkPhase_w2 a b := by kernel_rfl
theorem checkPhase_k2 (a b : Int) : cleanOf Tryz.prog.globals.size (checkPhase_e2 a b) = true := by kernel_rfl
theorem checkPhase_q2 (a b : Int) : checkPhase_e2 a b = evFS Tryz.prog x_checkPhase 1000 35 #[.agg #[.int .i64 a, .int .i64 b]] (noTabs 6) ⟨[1, 0, 1], True⟩ := by
  delta checkPhase_e2
  exact Eq.refl _
theorem checkPhase_p2 (a b : Int) (h : checkPhase_r2 a b) (w : World) : Calls Tryz.prog 35 #[.agg #[.int .i64 a, .int .i64 b]] w fun en w' => en = .returned (checkPhase_w2 a b) ∧ Below w.heap.size w w' := by
  have hv := checkPhase_v2 a b
  have hc := checkPhase_k2 a b
  have he := checkPhase_q2 a b
  have ho := checkPhase_o2 a b
  generalize checkPhase_e2 a b = r at *
  exact calls_way he gfol checkPhase_X hv rfl (checkPhase_args a b) hc ho h (bl w)
theorem checkPhase_any (a b : Int) (hpre : True) (w : World) : Calls Tryz.prog 35 #[.agg #[.int .i64 a, .int .i64 b]] w fun en w' => en = .returned (checkPhase_val a b) ∧ Below w.heap.size w w' := by
  rcases Bool.eq_false_or_eq_true (checkPhase_c0 a b) with h0 | h0
  ·
    unfold checkPhase_c0 at h0
    have hp := checkPhase_p2 a b ⟨⟨⟨⟨⟨trivial, checkPhase_g0⟩, checkPhase_g0⟩, checkPhase_g1⟩, checkPhase_g2⟩, h0⟩ w
    have hv : checkPhase_w2 a b = (checkPhase_val a b) := by
      clear hp
      unfold checkPhase_w2 checkPhase_val
      first | rfl | ((try simp only [bne_iff_ne, ne_eq, decide_eq_true_eq, decide_eq_false_iff_not, Bool.not_eq_true', Bool.not_eq_false', beq_iff_eq, beq_eq_false_iff_ne, bne_eq_false_iff_eq, Bool.and_eq_true, Bool.not_eq_true, Bool.not_eq_false, Pl.cr, parts_eq, w20, w16, w20', w16'] at *); grind)
    exact hv ▸ hp
  ·
    unfold checkPhase_c0 at h0
    rcases Bool.eq_false_or_eq_true (checkPhase_c1 a b) with h1 | h1
    ·
      unfold checkPhase_c1 at h1
      have hp := checkPhase_p1 a b ⟨⟨⟨⟨⟨⟨⟨⟨trivial, checkPhase_g0⟩, checkPhase_g0⟩, checkPhase_g1⟩, checkPhase_g2⟩, h0⟩, checkPhase_g1⟩, checkPhase_g4⟩, h1⟩ w
      have hv : checkPhase_w1 a b = (checkPhase_val a b) := by
        clear hp
        unfold checkPhase_w1 checkPhase_val
        first | rfl | ((try simp only [bne_iff_ne, ne_eq, decide_eq_true_eq, decide_eq_false_iff_not, Bool.not_eq_true', Bool.not_eq_false', beq_iff_eq, beq_eq_false_iff_ne, bne_eq_false_iff_eq, Bool.and_eq_true, Bool.not_eq_true, Bool.not_eq_false, Pl.cr, parts_eq, w20, w16, w20', w16'] at *); grind)
      exact hv ▸ hp
    ·
      unfold checkPhase_c1 at h1
      have hp := checkPhase_p0 a b ⟨⟨⟨⟨⟨⟨⟨⟨⟨trivial, checkPhase_g0⟩, checkPhase_g0⟩, checkPhase_g1⟩, checkPhase_g2⟩, h0⟩, checkPhase_g1⟩, checkPhase_g4⟩, h1⟩, checkPhase_g6⟩ w
      have hv : checkPhase_w0 a b = (checkPhase_val a b) := by
        clear hp
        unfold checkPhase_w0 checkPhase_val
        first | rfl | ((try simp only [bne_iff_ne, ne_eq, decide_eq_true_eq, decide_eq_false_iff_not, Bool.not_eq_true', Bool.not_eq_false', beq_iff_eq, beq_eq_false_iff_ne, bne_eq_false_iff_eq, Bool.and_eq_true, Bool.not_eq_true, Bool.not_eq_false, Pl.cr, parts_eq, w20, w16, w20', w16'] at *); grind)
      exact hv ▸ hp
theorem k_checkPhase : ConOk Tryz.prog c_checkPhase := fun ns hl => by
  have hl0 : ns.length = 2 := hl
  clear hl
  obtain ⟨a, ns0, rfl, hl1⟩ := len_cons hl0
  obtain ⟨b, ns1, rfl, hl2⟩ := len_cons hl1
  obtain rfl := len_nil hl2
  exact ⟨rfl, fun h w => checkPhase_any a b h w⟩
end Go.Proofs.YtjpffbekhfkibaaGreatDoor
end
section
set_option linter.all false
set_option maxRecDepth 1000000
set_option maxHeartbeats 8000000
open Go.RowKit
namespace Go.Proofs.YtjpffbekhfkibaaGreatDoor
open Mini

def spec6_val (x0 y0 x1 y1 x2 y2 x3 y3 x4 y4 x5 y5 : Int) : Value := .agg #[.int .i64 (x0 + x1 + x2 + x3 + x4 + x5), .int .i64 (y0 + y1 + y2 + y3 + y4 + y5), .int .i64 (x0 + y1 - x2 + y2 - x3 - y4 + x5 - y5), .int .i64 (y0 - x1 + y1 - x2 - y3 + x4 - y4 + x5), .int .i64 (x0 - x1 + y1 - y2 + x3 - x4 + y4 - y5), .int .i64 (y0 - x1 + x2 - y2 + y3 - x4 + x5 - y5), .int .i64 (x0 - x1 + x2 - x3 + x4 - x5), .int .i64 (y0 - y1 + y2 - y3 + y4 - y5), .int .i64 (x0 - y1 - x2 + y2 + x3 - y4 - x5 + y5), .int .i64 (y0 + x1 - y1 - x2 + y3 + x4 - y4 - x5), .int .i64 (x0 + x1 - y1 - y2 - x3 - x4 + y4 + y5), .int .i64 (y0 + x1 + x2 - y2 - y3 - x4 - x5 + y5)]
theorem spec6_X : FOkS Tryz.prog x_spec6 := kAll_ok _ ⟨k_turn, trivial⟩
theorem spec6_args (x0 y0 x1 y1 x2 y2 x3 y3 x4 y4 x5 y5 : Int) : (#[.agg #[.int .i64 x0, .int .i64 y0, .int .i64 x1, .int .i64 y1, .int .i64 x2, .int .i64 y2, .int .i64 x3, .int .i64 y3, .int .i64 x4, .int .i64 y4, .int .i64 x5, .int .i64 y5]] : Array Value).toList.all (ground 8) = true := by kernel_rfl
theorem spec6_g0 : (true = true) := by first | rfl | trivial | decide | omega
theorem spec6_g1 : ((0 : Int) = (0 : Int)) := by first | rfl | trivial | decide | omega
def spec6_b2 (x0 y0 x1 y1 x2 y2 x3 y3 x4 y4 x5 y5 : Int) : Prop := (((-1099511627776 : Int) ≤ x0) ∧ ((x0 ≤ (1099511627776 : Int)) ∧ (((-1099511627776 : Int) ≤ y0) ∧ (y0 ≤ (1099511627776 : Int)))))
theorem spec6_g3 : ((1 : Int) = (1 : Int)) := by first | rfl | trivial | decide | omega
def spec6_b4 (x0 y0 x1 y1 x2 y2 x3 y3 x4 y4 x5 y5 : Int) : Prop := (((-1099511627776 : Int) ≤ x1) ∧ ((x1 ≤ (1099511627776 : Int)) ∧ (((-1099511627776 : Int) ≤ y1) ∧ (y1 ≤ (1099511627776 : Int)))))
theorem spec6_g5 : ((2 : Int) = (2 : Int)) := by first | rfl | trivial | decide | omega
def spec6_b6 (x0 y0 x1 y1 x2 y2 x3 y3 x4 y4 x5 y5 : Int) : Prop := (((-1099511627776 : Int) ≤ x2) ∧ ((x2 ≤ (1099511627776 : Int)) ∧ (((-1099511627776 : Int) ≤ y2) ∧ (y2 ≤ (1099511627776 : Int)))))
theorem spec6_g7 : ((3 : Int) = (3 : Int)) := by first | rfl | trivial | decide | omega
def spec6_b8 (x0 y0 x1 y1 x2 y2 x3 y3 x4 y4 x5 y5 : Int) : Prop := (((-1099511627776 : Int) ≤ x3) ∧ ((x3 ≤ (1099511627776 : Int)) ∧ (((-1099511627776 : Int) ≤ y3) ∧ (y3 ≤ (1099511627776 : Int)))))
theorem spec6_g9 : ((4 : Int) = (4 : Int)) := by first | rfl | trivial | decide | omega
def spec6_b10 (x0 y0 x1 y1 x2 y2 x3 y3 x4 y4 x5 y5 : Int) : Prop := (((-1099511627776 : Int) ≤ x4) ∧ ((x4 ≤ (1099511627776 : Int)) ∧ (((-1099511627776 : Int) ≤ y4) ∧ (y4 ≤ (1099511627776 : Int)))))
theorem spec6_g11 : ((5 : Int) = (5 : Int)) := by first | rfl | trivial | decide | omega
def spec6_b12 (x0 y0 x1 y1 x2 y2 x3 y3 x4 y4 x5 y5 : Int) : Prop := (((-1099511627776 : Int) ≤ x5) ∧ ((x5 ≤ (1099511627776 : Int)) ∧ (((-1099511627776 : Int) ≤ y5) ∧ (y5 ≤ (1099511627776 : Int)))))
theorem spec6_g13 : (false = false) := by first | rfl | trivial | decide | omega
def spec6_w0 (x0 y0 x1 y1 x2 y2 x3 y3 x4 y4 x5 y5 : Int) : Value := .agg #[.int .i64 (IntKind.i64.wrap ((IntKind.i64.wrap ((IntKind.i64.wrap ((IntKind.i64.wrap ((IntKind.i64.wrap ((IntKind.i64.wrap ((0 : Int) + (Pl.turn (x0 , y0) (0 : Int)).1)) + (Pl.turn (x1 , y1) (0 : Int)).1)) + (Pl.turn (x2 , y2) (0 : Int)).1)) + (Pl.turn (x3 , y3) (0 : Int)).1)) + (Pl.turn (x4 , y4) (0 : Int)).1)) + (Pl.turn (x5 , y5) (0 : Int)).1)), .int .i64 (IntKind.i64.wrap ((IntKind.i64.wrap ((IntKind.i64.wrap ((IntKind.i64.wrap ((IntKind.i64.wrap ((IntKind.i64.wrap ((0 : Int) + (Pl.turn (x0 , y0) (0 : Int)).2)) + (Pl.turn (x1 , y1) (0 : Int)).2)) + (Pl.turn (x2 , y2) (0 : Int)).2)) + (Pl.turn (x3 , y3) (0 : Int)).2)) + (Pl.turn (x4 , y4) (0 : Int)).2)) + (Pl.turn (x5 , y5) (0 : Int)).2)), .int .i64 (IntKind.i64.wrap ((IntKind.i64.wrap ((IntKind.i64.wrap ((IntKind.i64.wrap ((IntKind.i64.wrap ((IntKind.i64.wrap ((0 : Int) + (Pl.turn (x0 , y0) (0 : Int)).1)) + (Pl.turn (x1 , y1) (-1 : Int)).1)) + (Pl.turn (x2 , y2) (-2 : Int)).1)) + (Pl.turn (x3 , y3) (-3 : Int)).1)) + (Pl.turn (x4 , y4) (-4 : Int)).1)) + (Pl.turn (x5 , y5) (-5 : Int)).1)), .int .i64 (IntKind.i64.wrap ((IntKind.i64.wrap ((IntKind.i64.wrap ((IntKind.i64.wrap ((IntKind.i64.wrap ((IntKind.i64.wrap ((0 : Int) + (Pl.turn (x0 , y0) (0 : Int)).2)) + (Pl.turn (x1 , y1) (-1 : Int)).2)) + (Pl.turn (x2 , y2) (-2 : Int)).2)) + (Pl.turn (x3 , y3) (-3 : Int)).2)) + (Pl.turn (x4 , y4) (-4 : Int)).2)) + (Pl.turn (x5 , y5) (-5 : Int)).2)), .int .i64 (IntKind.i64.wrap ((IntKind.i64.wrap ((IntKind.i64.wrap ((IntKind.i64.wrap ((IntKind.i64.wrap ((IntKind.i64.wrap ((0 : Int) + (Pl.turn (x0 , y0) (0 : Int)).1)) + (Pl.turn (x1 , y1) (-2 : Int)).1)) + (Pl.turn (x2 , y2) (-4 : Int)).1)) + (Pl.turn (x3 , y3) (-6 : Int)).1)) + (Pl.turn (x4 , y4) (-8 : Int)).1)) + (Pl.turn (x5 , y5) (-10 : Int)).1)), .int .i64 (IntKind.i64.wrap ((IntKind.i64.wrap ((IntKind.i64.wrap ((IntKind.i64.wrap ((IntKind.i64.wrap ((IntKind.i64.wrap ((0 : Int) + (Pl.turn (x0 , y0) (0 : Int)).2)) + (Pl.turn (x1 , y1) (-2 : Int)).2)) + (Pl.turn (x2 , y2) (-4 : Int)).2)) + (Pl.turn (x3 , y3) (-6 : Int)).2)) + (Pl.turn (x4 , y4) (-8 : Int)).2)) + (Pl.turn (x5 , y5) (-10 : Int)).2)), .int .i64 (IntKind.i64.wrap ((IntKind.i64.wrap ((IntKind.i64.wrap ((IntKind.i64.wrap ((IntKind.i64.wrap ((IntKind.i64.wrap ((0 : Int) + (Pl.turn (x0 , y0) (0 : Int)).1)) + (Pl.turn (x1 , y1) (-3 : Int)).1)) + (Pl.turn (x2 , y2) (-6 : Int)).1)) + (Pl.turn (x3 , y3) (-9 : Int)).1)) + (Pl.turn (x4 , y4) (-12 : Int)).1)) + (Pl.turn (x5 , y5) (-15 : Int)).1)), .int .i64 (IntKind.i64.wrap ((IntKind.i64.wrap ((IntKind.i64.wrap ((IntKind.i64.wrap ((IntKind.i64.wrap ((IntKind.i64.wrap ((0 : Int) + (Pl.turn (x0 , y0) (0 : Int)).2)) + (Pl.turn (x1 , y1) (-3 : Int)).2)) + (Pl.turn (x2 , y2) (-6 : Int)).2)) + (Pl.turn (x3 , y3) (-9 : Int)).2)) + (Pl.turn (x4 , y4) (-12 : Int)).2)) + (Pl.turn (x5 , y5) (-15 : Int)).2)), .int .i64 (IntKind.i64.wrap ((IntKind.i64.wrap ((IntKind.i64.wrap ((IntKind.i64.wrap ((IntKind.i64.wrap ((IntKind.i64.wrap ((0 : Int) + (Pl.turn (x0 , y0) (0 : Int)).1)) + (Pl.turn (x1 , y1) (-4 : Int)).1)) + (Pl.turn (x2 , y2) (-8 : Int)).1)) + (Pl.turn (x3 , y3) (-12 : Int)).1)) + (Pl.turn (x4 , y4) (-16 : Int)).1)) + (Pl.turn (x5 , y5) (-20 : Int)).1)), .int .i64 (IntKind.i64.wrap ((IntKind.i64.wrap ((IntKind.i64.wrap ((IntKind.i64.wrap ((IntKind.i64.wrap ((IntKind.i64.wrap ((0 : Int) + (Pl.turn (x0 , y0) (0 : Int)).2)) + (Pl.turn (x1 , y1) (-4 : Int)).2)) + (Pl.turn (x2 , y2) (-8 : Int)).2)) + (Pl.turn (x3 , y3) (-12 : Int)).2)) + (Pl.turn (x4 , y4) (-16 : Int)).2)) + (Pl.turn (x5 , y5) (-20 : Int)).2)), .int .i64 (IntKind.i64.wrap ((IntKind.i64.wrap ((IntKind.i64.wrap ((IntKind.i64.wrap ((IntKind.i64.wrap ((IntKind.i64.wrap ((0 : Int) + (Pl.turn (x0 , y0) (0 : Int)).1)) + (Pl.turn (x1 , y1) (-5 : Int)).1)) + (Pl.turn (x2 , y2) (-10 : Int)).1)) + (Pl.turn (x3 , y3) (-15 : Int)).1)) + (Pl.turn (x4 , y4) (-20 : Int)).1)) + (Pl.turn (x5 , y5) (-25 : Int)).1)), .int .i64 (IntKind.i64.wrap ((IntKind.i64.wrap ((IntKind.i64.wrap ((IntKind.i64.wrap ((IntKind.i64.wrap ((IntKind.i64.wrap ((0 : Int) + (Pl.turn (x0 , y0) (0 : Int)).2)) + (Pl.turn (x1 , y1) (-5 : Int)).2)) + (Pl.turn (x2 , y2) (-10 : Int)).2)) + (Pl.turn (x3 , y3) (-15 : Int)).2)) + (Pl.turn (x4 , y4) (-20 : Int)).2)) + (Pl.turn (x5 , y5) (-25 : Int)).2))]
def spec6_r0 (x0 y0 x1 y1 x2 y2 x3 y3 x4 y4 x5 y5 : Int) : Prop := (((((((((((((((((((((((((((((((((((((((((((((((((((((((((((((((((((((((((((((((((((((((((((((((((((((((((((((((((((((((((((((((((((((((((((((((((((((((((((((((((((((((((((((((((((((((((((((((((True ∧ ((true = true))) ∧ ((true = true))) ∧ (((0 : Int) = (0 : Int)))) ∧ (((0 : Int) = (0 : Int)))) ∧ (spec6_b2 x0 y0 x1 y1 x2 y2 x3 y3 x4 y4 x5 y5)) ∧ (((0 : Int) = (0 : Int)))) ∧ ((true = true))) ∧ (((0 : Int) = (0 : Int)))) ∧ (((1 : Int) = (1 : Int)))) ∧ (spec6_b4 x0 y0 x1 y1 x2 y2 x3 y3 x4 y4 x5 y5)) ∧ (((0 : Int) = (0 : Int)))) ∧ ((true = true))) ∧ (((0 : Int) = (0 : Int)))) ∧ (((2 : Int) = (2 : Int)))) ∧ (spec6_b6 x0 y0 x1 y1 x2 y2 x3 y3 x4 y4 x5 y5)) ∧ (((0 : Int) = (0 : Int)))) ∧ ((true = true))) ∧ (((0 : Int) = (0 : Int)))) ∧ (((3 : Int) = (3 : Int)))) ∧ (spec6_b8 x0 y0 x1 y1 x2 y2 x3 y3 x4 y4 x5 y5)) ∧ (((0 : Int) = (0 : Int)))) ∧ ((true = true))) ∧ (((0 : Int) = (0 : Int)))) ∧ (((4 : Int) = (4 : Int)))) ∧ (spec6_b10 x0 y0 x1 y1 x2 y2 x3 y3 x4 y4 x5 y5)) ∧ (((0 : Int) = (0 : Int)))) ∧ ((true = true))) ∧ (((0 : Int) = (0 : Int)))) ∧ (((5 : Int) = (5 : Int)))) ∧ (spec6_b12 x0 y0 x1 y1 x2 y2 x3 y3 x4 y4 x5 y5)) ∧ (((0 : Int) = (0 : Int)))) ∧ ((false = false))) ∧ ((true = true))) ∧ ((true = true))) ∧ (((1 : Int) = (1 : Int)))) ∧ (((0 : Int) = (0 : Int)))) ∧ (spec6_b2 x0 y0 x1 y1 x2 y2 x3 y3 x4 y4 x5 y5)) ∧ (((1 : Int) = (1 : Int)))) ∧ ((true = true))) ∧ (((1 : Int) = (1 : Int)))) ∧ (((1 : Int) = (1 : Int)))) ∧ (spec6_b4 x0 y0 x1 y1 x2 y2 x3 y3 x4 y4 x5 y5)) ∧ (((1 : Int) = (1 : Int)))) ∧ ((true = true))) ∧ (((1 : Int) = (1 : Int)))) ∧ (((2 : Int) = (2 : Int)))) ∧ (spec6_b6 x0 y0 x1 y1 x2 y2 x3 y3 x4 y4 x5 y5)) ∧ (((1 : Int) = (1 : Int)))) ∧ ((true = true))) ∧ (((1 : Int) = (1 : Int)))) ∧ (((3 : Int) = (3 : Int)))) ∧ (spec6_b8 x0 y0 x1 y1 x2 y2 x3 y3 x4 y4 x5 y5)) ∧ (((1 : Int) = (1 : Int)))) ∧ ((true = true))) ∧ (((1 : Int) = (1 : Int)))) ∧ (((4 : Int) = (4 : Int)))) ∧ (spec6_b10 x0 y0 x1 y1 x2 y2 x3 y3 x4 y4 x5 y5)) ∧ (((1 : Int) = (1 : Int)))) ∧ ((true = true))) ∧ (((1 : Int) = (1 : Int)))) ∧ (((5 : Int) = (5 : Int)))) ∧ (spec6_b12 x0 y0 x1 y1 x2 y2 x3 y3 x4 y4 x5 y5)) ∧ (((1 : Int) = (1 : Int)))) ∧ ((false = false))) ∧ ((true = true))) ∧ ((true = true))) ∧ (((2 : Int) = (2 : Int)))) ∧ (((0 : Int) = (0 : Int)))) ∧ (spec6_b2 x0 y0 x1 y1 x2 y2 x3 y3 x4 y4 x5 y5)) ∧ (((2 : Int) = (2 : Int)))) ∧ ((true = true))) ∧ (((2 : Int) = (2 : Int)))) ∧ (((1 : Int) = (1 : Int)))) ∧ (spec6_b4 x0 y0 x1 y1 x2 y2 x3 y3 x4 y4 x5 y5)) ∧ (((2 : Int) = (2 : Int)))) ∧ ((true = true))) ∧ (((2 : Int) = (2 : Int)))) ∧ (((2 : Int) = (2 : Int)))) ∧ (spec6_b6 x0 y0 x1 y1 x2 y2 x3 y3 x4 y4 x5 y5)) ∧ (((2 : Int) = (2 : Int)))) ∧ ((true = true))) ∧ (((2 : Int) = (2 : Int)))) ∧ (((3 : Int) = (3 : Int)))) ∧ (spec6_b8 x0 y0 x1 y1 x2 y2 x3 y3 x4 y4 x5 y5)) ∧ (((2 : Int) = (2 : Int)))) ∧ ((true = true))) ∧ (((2 : Int) = (2 : Int)))) ∧ (((4 : Int) = (4 : Int)))) ∧ (spec6_b10 x0 y0 x1 y1 x2 y2 x3 y3 x4 y4 x5 y5)) ∧ (((2 : Int) = (2 : Int)))) ∧ ((true = true))) ∧ (((2 : Int) = (2 : Int)))) ∧ (((5 : Int) = (5 : Int)))) ∧ (spec6_b12 x0 y0 x1 y1 x2 y2 x3 y3 x4 y4 x5 y5)) ∧ (((2 : Int) = (2 : Int)))) ∧ ((false = false))) ∧ ((true = true))) ∧ ((true = true))) ∧ (((3 : Int) = (3 : Int)))) ∧ (((0 : Int) = (0 : Int)))) ∧ (spec6_b2 x0 y0 x1 y1 x2 y2 x3 y3 x4 y4 x5 y5)) ∧ (((3 : Int) = (3 : Int)))) ∧ ((true = true))) ∧ (((3 : Int) = (3 : Int)))) ∧ (((1 : Int) = (1 : Int)))) ∧ (spec6_b4 x0 y0 x1 y1 x2 y2 x3 y3 x4 y4 x5 y5)) ∧ (((3 : Int) = (3 : Int)))) ∧ ((true = true))) ∧ (((3 : Int) = (3 : Int)))) ∧ (((2 : Int) = (2 : Int)))) ∧ (spec6_b6 x0 y0 x1 y1 x2 y2 x3 y3 x4 y4 x5 y5)) ∧ (((3 : Int) = (3 : Int)))) ∧ ((true = true))) ∧ (((3 : Int) = (3 : Int)))) ∧ (((3 : Int) = (3 : Int)))) ∧ (spec6_b8 x0 y0 x1 y1 x2 y2 x3 y3 x4 y4 x5 y5)) ∧ (((3 : Int) = (3 : Int)))) ∧ ((true = true))) ∧ (((3 : Int) = (3 : Int)))) ∧ (((4 : Int) = (4 : Int)))) ∧ (spec6_b10 x0 y0 x1 y1 x2 y2 x3 y3 x4 y4 x5 y5)) ∧ (((3 : Int) = (3 : Int)))) ∧ ((true = true))) ∧ (((3 : Int) = (3 : Int)))) ∧ (((5 : Int) = (5 : Int)))) ∧ (spec6_b12 x0 y0 x1 y1 x2 y2 x3 y3 x4 y4 x5 y5)) ∧ (((3 : Int) = (3 : Int)))) ∧ ((false = false))) ∧ ((true = true))) ∧ ((true = true))) ∧ (((4 : Int) = (4 : Int)))) ∧ (((0 : Int) = (0 : Int)))) ∧ (spec6_b2 x0 y0 x1 y1 x2 y2 x3 y3 x4 y4 x5 y5)) ∧ (((4 : Int) = (4 : Int)))) ∧ ((true = true))) ∧ (((4 : Int) = (4 : Int)))) ∧ (((1 : Int) = (1 : Int)))) ∧ (spec6_b4 x0 y0 x1 y1 x2 y2 x3 y3 x4 y4 x5 y5)) ∧ (((4 : Int) = (4 : Int)))) ∧ ((true = true))) ∧ (((4 : Int) = (4 : Int)))) ∧ (((2 : Int) = (2 : Int)))) ∧ (spec6_b6 x0 y0 x1 y1 x2 y2 x3 y3 x4 y4 x5 y5)) ∧ (((4 : Int) = (4 : Int)))) ∧ ((true = true))) ∧ (((4 : Int) = (4 : Int)))) ∧ (((3 : Int) = (3 : Int)))) ∧ (spec6_b8 x0 y0 x1 y1 x2 y2 x3 y3 x4 y4 x5 y5)) ∧ (((4 : Int) = (4 : Int)))) ∧ ((true = true))) ∧ (((4 : Int) = (4 : Int)))) ∧ (((4 : Int) = (4 : Int)))) ∧ (spec6_b10 x0 y0 x1 y1 x2 y2 x3 y3 x4 y4 x5 y5)) ∧ (((4 : Int) = (4 : Int)))) ∧ ((true = true))) ∧ (((4 : Int) = (4 : Int)))) ∧ (((5 : Int) = (5 : Int)))) ∧ (spec6_b12 x0 y0 x1 y1 x2 y2 x3 y3 x4 y4 x5 y5)) ∧ (((4 : Int) = (4 : Int)))) ∧ ((false = false))) ∧ ((true = true))) ∧ ((true = true))) ∧ (((5 : Int) = (5 : Int)))) ∧ (((0 : Int) = (0 : Int)))) ∧ (spec6_b2 x0 y0 x1 y1 x2 y2 x3 y3 x4 y4 x5 y5)) ∧ (((5 : Int) = (5 : Int)))) ∧ ((true = true))) ∧ (((5 : Int) = (5 : Int)))) ∧ (((1 : Int) = (1 : Int)))) ∧ (spec6_b4 x0 y0 x1 y1 x2 y2 x3 y3 x4 y4 x5 y5)) ∧ (((5 : Int) = (5 : Int)))) ∧ ((true = true))) ∧ (((5 : Int) = (5 : Int)))) ∧ (((2 : Int) = (2 : Int)))) ∧ (spec6_b6 x0 y0 x1 y1 x2 y2 x3 y3 x4 y4 x5 y5)) ∧ (((5 : Int) = (5 : Int)))) ∧ ((true = true))) ∧ (((5 : Int) = (5 : Int)))) ∧ (((3 : Int) = (3 : Int)))) ∧ (spec6_b8 x0 y0 x1 y1 x2 y2 x3 y3 x4 y4 x5 y5)) ∧ (((5 : Int) = (5 : Int)))) ∧ ((true = true))) ∧ (((5 : Int) = (5 : Int)))) ∧ (((4 : Int) = (4 : Int)))) ∧ (spec6_b10 x0 y0 x1 y1 x2 y2 x3 y3 x4 y4 x5 y5)) ∧ (((5 : Int) = (5 : Int)))) ∧ ((true = true))) ∧ (((5 : Int) = (5 : Int)))) ∧ (((5 : Int) = (5 : Int)))) ∧ (spec6_b12 x0 y0 x1 y1 x2 y2 x3 y3 x4 y4 x5 y5)) ∧ (((5 : Int) = (5 : Int)))) ∧ ((false = false))) ∧ ((false = false)))
theorem spec6_o0 (x0 y0 x1 y1 x2 y2 x3 y3 x4 y4 x5 y5 : Int) : obOf (spec6_e0 x0 y0 x1 y1 x2 y2 x3 y3 x4 y4 x5 y5) = spec6_r0 x0 y0 x1 y1 x2 y2 x3 y3 x4 y4 x5 y5 := by kernel_rfl
theorem spec6_v0 (x0 y0 x1 y1 x2 y2 x3 y3 x4 y4 x5 y5 : Int) : resOf (spec6_e0 x0 y0 x1 y1 x2 y2 x3 y3 x4 y4 x5 y5) = spec6_w0 x0 y0 x1 y1 x2 y2 x3 y3 x4 y4 x5 y5 := by kernel_rfl
theorem spec6_k0 (x0 y0 x1 y1 x2 y2 x3 y3 x4 y4 x5 y5 : Int) : cleanOf Tryz.prog.globals.size (spec6_e0 x0 y0 x1 y1 x2 y2 x3 y3 x4 y4 x5 y5) = true := by kernel_rfl
theorem spec6_q0 (x0 y0 x1 y1 x2 y2 x3 y3 x4 y4 x5 y5 : Int) : spec6_e0 x0 y0 x1 y1 x2 y2 x3 y3 x4 y4 x5 y5 = evFS Tryz.prog x_spec6 1000 36 #[.agg #[.int .i64 x0, .int .i64 y0, .int .i64 x1, .int .i64 y1, .int .i64 x2, .int .i64 y2, .int .i64 x3, .int .i64 y3, .int .i64 x4, .int .i64 y4, .int .i64 x5, .int .i64 y5]] (noTabs 6) ⟨[1, 1, 0, 0, 0, 1, 0, 1, 0, 1, 0, 2, 0, 1, 0, 3, 0, 1, 0, 4, 0, 1, 0, 5, 0, 0, 1, 1, 1, 0, 1, 1, 1, 1, 1, 1, 1, 2, 1, 1, 1, 3, 1, 1, 1, 4, 1, 1, 1, 5, 1, 0, 1, 1, 2, 0, 2, 1, 2, 1, 2, 1, 2, 2, 2, 1, 2, 3, 2, 1, 2, 4, 2, 1, 2, 5, 2, 0, 1, 1, 3, 0, 3, 1, 3, 1, 3, 1, 3, 2, 3, 1, 3, 3, 3, 1, 3, 4, 3, 1, 3, 5, 3, 0, 1, 1, 4, 0, 4, 1, 4, 1, 4, 1, 4, 2, 4, 1, 4, 3, 4, 1, 4, 4, 4, 1, 4, 5, 4, 0, 1, 1, 5, 0, 5, 1, 5, 1, 5, 1, 5, 2, 5, 1, 5, 3, 5, 1, 5, 4, 5, 1, 5, 5, 5, 0, 0], True⟩ := by
  delta spec6_e0
  exact Eq.refl _
theorem spec6_p0 (x0 y0 x1 y1 x2 y2 x3 y3 x4 y4 x5 y5 : Int) (h : spec6_r0 x0 y0 x1 y1 x2 y2 x3 y3 x4 y4 x5 y5) (w : World) : Calls Tryz.prog 36 #[.agg #[.int .i64 x0, .int .i64 y0, .int .i64 x1, .int .i64 y1, .int .i64 x2, .int .i64 y2, .int .i64 x3, .int .i64 y3, .int .i64 x4, .int .i64 y4, .int .i64 x5, .int .i64 y5]] w fun en w' => en = .returned (spec6_w0 x0 y0 x1 y1 x2 y2 x3 y3 x4 y4 x5 y5) ∧ Below w.heap.size w w' := by
  have hv := spec6_v0 x0 y0 x1 y1 x2 y2 x3 y3 x4 y4 x5 y5
  have hc := spec6_k0 x0 y0 x1 y1 x2 y2 x3 y3 x4 y4 x5 y5
  have he := spec6_q0 x0 y0 x1 y1 x2 y2 x3 y3 x4 y4 x5 y5
  have ho := spec6_o0 x0 y0 x1 y1 x2 y2 x3 y3 x4 y4 x5 y5
  generalize spec6_e0 x0 y0 x1 y1 x2 y2 x3 y3 x4 y4 x5 y5 = r at *
  exact calls_way he gfol spec6_X hv rfl (spec6_args x0 y0 x1 y1 x2 y2 x3 y3 x4 y4 x5 y5) hc ho h (bl w)
theorem spec6_any (x0 y0 x1 y1 x2 y2 x3 y3 x4 y4 x5 y5 : Int) (hpre : (-65536 ≤ x0 ∧ x0 ≤ 65536) ∧ (-65536 ≤ y0 ∧ y0 ≤ 65536) ∧ (-65536 ≤ x1 ∧ x1 ≤ 65536) ∧ (-65536 ≤ y1 ∧ y1 ≤ 65536) ∧ (-65536 ≤ x2 ∧ x2 ≤ 65536) ∧ (-65536 ≤ y2 ∧ y2 ≤ 65536) ∧ (-65536 ≤ x3 ∧ x3 ≤ 65536) ∧ (-65536 ≤ y3 ∧ y3 ≤ 65536) ∧ (-65536 ≤ x4 ∧ x4 ≤ 65536) ∧ (-65536 ≤ y4 ∧ y4 ≤ 65536) ∧ (-65536 ≤ x5 ∧ x5 ≤ 65536) ∧ (-65536 ≤ y5 ∧ y5 ≤ 65536)) (w : World) : Calls Tryz.prog 36 #[.agg #[.int .i64 x0, .int .i64 y0, .int .i64 x1, .int .i64 y1, .int .i64 x2, .int .i64 y2, .int .i64 x3, .int .i64 y3, .int .i64 x4, .int .i64 y4, .int .i64 x5, .int .i64 y5]] w fun en w' => en = .returned (spec6_val x0 y0 x1 y1 x2 y2 x3 y3 x4 y4 x5 y5) ∧ Below w.heap.size w w' := by
  obtain ⟨q0, q1, q2, q3, q4, q5, q6, q7, q8, q9, q10, q11⟩ := hpre
  have h0 : (spec6_b2 x0 y0 x1 y1 x2 y2 x3 y3 x4 y4 x5 y5) := by
    unfold spec6_b2
    first | rfl | trivial | decide | exact bgo (by omega) (by omega) | (unfold Bg; omega)
  unfold spec6_b2 at h0
  have h1 : (spec6_b4 x0 y0 x1 y1 x2 y2 x3 y3 x4 y4 x5 y5) := by
    unfold spec6_b4
    first | rfl | trivial | decide | exact bgo (by omega) (by omega) | (unfold Bg; omega)
  unfold spec6_b4 at h1
  have h2 : (spec6_b6 x0 y0 x1 y1 x2 y2 x3 y3 x4 y4 x5 y5) := by
    unfold spec6_b6
    first | rfl | trivial | decide | exact bgo (by omega) (by omega) | (unfold Bg; omega)
  unfold spec6_b6 at h2
  have h3 : (spec6_b8 x0 y0 x1 y1 x2 y2 x3 y3 x4 y4 x5 y5) := by
    unfold spec6_b8
    first | rfl | trivial | decide | exact bgo (by omega) (by omega) | (unfold Bg; omega)
  unfold spec6_b8 at h3
  have h4 : (spec6_b10 x0 y0 x1 y1 x2 y2 x3 y3 x4 y4 x5 y5) := by
    unfold spec6_b10
    first | rfl | trivial | decide | exact bgo (by omega) (by omega) | (unfold Bg; omega)
  unfold spec6_b10 at h4
  have h5 : (spec6_b12 x0 y0 x1 y1 x2 y2 x3 y3 x4 y4 x5 y5) := by
    unfold spec6_b12
    first | rfl | trivial | decide | exact bgo (by omega) (by omega) | (unfold Bg; omega)
  unfold spec6_b12 at h5
  have hp := spec6_p0 x0 y0 x1 y1 x2 y2 x3 y3 x4 y4 x5 y5 ⟨⟨⟨⟨⟨⟨⟨⟨⟨⟨⟨⟨⟨⟨⟨⟨⟨⟨⟨⟨⟨⟨⟨⟨⟨⟨⟨⟨⟨⟨⟨⟨⟨⟨⟨⟨⟨⟨⟨⟨⟨⟨⟨⟨⟨⟨⟨⟨⟨⟨⟨⟨⟨⟨⟨⟨⟨⟨⟨⟨⟨⟨⟨⟨⟨⟨⟨⟨⟨⟨⟨⟨⟨⟨⟨⟨⟨⟨⟨⟨⟨⟨⟨⟨⟨⟨⟨⟨⟨⟨⟨⟨⟨⟨⟨⟨⟨⟨⟨⟨⟨⟨⟨⟨⟨⟨⟨⟨⟨⟨⟨⟨⟨⟨⟨⟨⟨⟨⟨⟨⟨⟨⟨⟨⟨⟨⟨⟨⟨⟨⟨⟨⟨⟨⟨⟨⟨⟨⟨⟨⟨⟨⟨⟨⟨⟨⟨⟨⟨⟨⟨⟨⟨⟨⟨⟨⟨⟨⟨⟨⟨⟨⟨⟨⟨⟨⟨⟨⟨⟨⟨⟨⟨⟨⟨⟨⟨⟨⟨⟨⟨⟨⟨⟨⟨⟨⟨⟨⟨⟨⟨⟨⟨trivial, spec6_g0⟩, spec6_g0⟩, spec6_g1⟩, spec6_g1⟩, h0⟩, spec6_g1⟩, spec6_g0⟩, spec6_g1⟩, spec6_g3⟩, h1⟩, spec6_g1⟩, spec6_g0⟩, spec6_g1⟩, spec6_g5⟩, h2⟩, spec6_g1⟩, spec6_g0⟩, spec6_g1⟩, spec6_g7⟩, h3⟩, spec6_g1⟩, spec6_g0⟩, spec6_g1⟩, spec6_g9⟩, h4⟩, spec6_g1⟩, spec6_g0⟩, spec6_g1⟩, spec6_g11⟩, h5⟩, spec6_g1⟩, spec6_g13⟩, spec6_g0⟩, spec6_g0⟩, spec6_g3⟩, spec6_g1⟩, h0⟩, spec6_g3⟩, spec6_g0⟩, spec6_g3⟩, spec6_g3⟩, h1⟩, spec6_g3⟩, spec6_g0⟩, spec6_g3⟩, spec6_g5⟩, h2⟩, spec6_g3⟩, spec6_g0⟩, spec6_g3⟩, spec6_g7⟩, h3⟩, spec6_g3⟩, spec6_g0⟩, spec6_g3⟩, spec6_g9⟩, h4⟩, spec6_g3⟩, spec6_g0⟩, spec6_g3⟩, spec6_g11⟩, h5⟩, spec6_g3⟩, spec6_g13⟩, spec6_g0⟩, spec6_g0⟩, spec6_g5⟩, spec6_g1⟩, h0⟩, spec6_g5⟩, spec6_g0⟩, spec6_g5⟩, spec6_g3⟩, h1⟩, spec6_g5⟩, spec6_g0⟩, spec6_g5⟩, spec6_g5⟩, h2⟩, spec6_g5⟩, spec6_g0⟩, spec6_g5⟩, spec6_g7⟩, h3⟩, spec6_g5⟩, spec6_g0⟩, spec6_g5⟩, spec6_g9⟩, h4⟩, spec6_g5⟩, spec6_g0⟩, spec6_g5⟩, spec6_g11⟩, h5⟩, spec6_g5⟩, spec6_g13⟩, spec6_g0⟩, spec6_g0⟩, spec6_g7⟩, spec6_g1⟩, h0⟩, spec6_g7⟩, spec6_g0⟩, spec6_g7⟩, spec6_g3⟩, h1⟩, spec6_g7⟩, spec6_g0⟩, spec6_g7⟩, spec6_g5⟩, h2⟩, spec6_g7⟩, spec6_g0⟩, spec6_g7⟩, spec6_g7⟩, h3⟩, spec6_g7⟩, spec6_g0⟩, spec6_g7⟩, spec6_g9⟩, h4⟩, spec6_g7⟩, spec6_g0⟩, spec6_g7⟩, spec6_g11⟩, h5⟩, spec6_g7⟩, spec6_g13⟩, spec6_g0⟩, spec6_g0⟩, spec6_g9⟩, spec6_g1⟩, h0⟩, spec6_g9⟩, spec6_g0⟩, spec6_g9⟩, spec6_g3⟩, h1⟩, spec6_g9⟩, spec6_g0⟩, spec6_g9⟩, spec6_g5⟩, h2⟩, spec6_g9⟩, spec6_g0⟩, spec6_g9⟩, spec6_g7⟩, h3⟩, spec6_g9⟩, spec6_g0⟩, spec6_g9⟩, spec6_g9⟩, h4⟩, spec6_g9⟩, spec6_g0⟩, spec6_g9⟩, spec6_g11⟩, h5⟩, spec6_g9⟩, spec6_g13⟩, spec6_g0⟩, spec6_g0⟩, spec6_g11⟩, spec6_g1⟩, h0⟩, spec6_g11⟩, spec6_g0⟩, spec6_g11⟩, spec6_g3⟩, h1⟩, spec6_g11⟩, spec6_g0⟩, spec6_g11⟩, spec6_g5⟩, h2⟩, spec6_g11⟩, spec6_g0⟩, spec6_g11⟩, spec6_g7⟩, h3⟩, spec6_g11⟩, spec6_g0⟩, spec6_g11⟩, spec6_g9⟩, h4⟩, spec6_g11⟩, spec6_g0⟩, spec6_g11⟩, spec6_g11⟩, h5⟩, spec6_g11⟩, spec6_g13⟩, spec6_g13⟩ w
  have hv : spec6_w0 x0 y0 x1 y1 x2 y2 x3 y3 x4 y4 x5 y5 = (spec6_val x0 y0 x1 y1 x2 y2 x3 y3 x4 y4 x5 y5) := by
    clear hp
    unfold spec6_w0 spec6_val
    simp only [twm25, twm20, twm16, twm15, twm12, twm10, twm9, twm8, twm6, twm5, twm4, twm3, twm2, twm1, tw0, tw1, tw2, tw3, tw4, tw5, tw6, tw8, tw9, tw10, tw12, tw15, tw16, tw20, tw25]
    (try simp (disch := omega) only [wi])
    simp only [Value.agg.injEq, Array.mk.injEq, List.cons.injEq, Value.int.injEq, true_and, and_true]
    and_intros <;> omega
  exact hv ▸ hp
theorem k_spec6 : ConOk Tryz.prog c_spec6 := fun ns hl => by
  have hl0 : ns.length = 12 := hl
  clear hl
  obtain ⟨x0, ns0, rfl, hl1⟩ := len_cons hl0
  obtain ⟨y0, ns1, rfl, hl2⟩ := len_cons hl1
  obtain ⟨x1, ns2, rfl, hl3⟩ := len_cons hl2
  obtain ⟨y1, ns3, rfl, hl4⟩ := len_cons hl3
  obtain ⟨x2, ns4, rfl, hl5⟩ := len_cons hl4
  obtain ⟨y2, ns5, rfl, hl6⟩ := len_cons hl5
  obtain ⟨x3, ns6, rfl, hl7⟩ := len_cons hl6
  obtain ⟨y3, ns7, rfl, hl8⟩ := len_cons hl7
  obtain ⟨x4, ns8, rfl, hl9⟩ := len_cons hl8
  obtain ⟨y4, ns9, rfl, hl10⟩ := len_cons hl9
  obtain ⟨x5, ns10, rfl, hl11⟩ := len_cons hl10
  obtain ⟨y5, ns11, rfl, hl12⟩ := len_cons hl11
  obtain rfl := len_nil hl12
  exact ⟨rfl, fun h w => spec6_any x0 y0 x1 y1 x2 y2 x3 y3 x4 y4 x5 y5 h w⟩
end Go.Proofs.YtjpffbekhfkibaaGreatDoor
end
