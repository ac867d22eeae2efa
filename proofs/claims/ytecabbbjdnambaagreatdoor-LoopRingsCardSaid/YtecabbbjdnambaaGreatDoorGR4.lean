/-
  The small worlds between the steps.
  A law reckoned in the small world: what it answers and what must hold, told apart.
  THE SMALL WORLD: a known function without arguments where tables of integers and of strings hold.
  Two rows of integers compared.
  The reference's CheckBasin.
  loop.CheckBasin.
  The reference's Basin.
-/
import Derived.Test.YtecabbbjdnambaaGreatDoorGR3
import Derived.Test.YtecabbbjdnambaaGreatDoorGR2
import Derived.Test.YtecabbbjdnambaaGreatDoorGR1
import Derived.Test.YtecabbbjdnambaaGreatDoorProg
section
set_option linter.all false
set_option maxRecDepth 1000000
open Go.RowKit
namespace Go.Proofs.YtecabbbjdnambaaGreatDoor
open Mini
noncomputable def rsX : Code := loopAt Tryz.prog 58 0
noncomputable def rsK : CallS := bothX kCr (bothX kRCr (bothX kFl (bothX kRl (kAll [c_range, c_rrange, c_index]))))
def rsA (n : Nat) (c : Nat) (g : Nat → Nat → Int) (e : TypeId) (opn : Bool) (sz : Nat) (ro : Bool) (ph : Int) (i6 : Nat) : MA := MA.ofL 28 [.slice (some ⟨6, 0, none⟩) n c, .int .i64 ph, .chan none, .chan none, .chan none, .slice none 0 0, .int .i64 ((i6 : Nat) : Int), .chan none, .chan none, .chan none, .chan none, .chan none, .chan none, .chan none, .chan none, .chan none, .chan none, .chan none, .chan none, .chan none, .chan none, .chan none, .chan none, .chan none, .chan none, .chan none, .chan none, .chan none] []
def rsL (n : Nat) (c : Nat) (g : Nat → Nat → Int) (e : TypeId) (opn : Bool) (sz : Nat) (ro : Bool) (ph : Int) (i6 : Nat) : List MObj := [.rows n 1 (fun i j => .int .i64 (g i j)) e opn sz ro]
def rsA1 (n : Nat) (c : Nat) (g : Nat → Nat → Int) (e : TypeId) (opn : Bool) (sz : Nat) (ro : Bool) (ph : Int) (i6 : Nat) (g1 : Nat → Nat → Int) (m5 : Nat) : MA := MA.ofL 28 [.slice (some ⟨6, 0, none⟩) n c, .int .i64 ph, .chan none, .chan none, .chan none, .slice (some ⟨7, 0, none⟩) (m5 + 1) (m5 + 1), .int .i64 ((i6 : Nat) : Int), .chan none, .chan none, .chan none, .chan none, .chan none, .chan none, .chan none, .chan none, .chan none, .chan none, .chan none, .chan none, .chan none, .chan none, .chan none, .chan none, .chan none, .chan none, .chan none, .chan none, .chan none] []
def rsL1 (n : Nat) (c : Nat) (g : Nat → Nat → Int) (e : TypeId) (opn : Bool) (sz : Nat) (ro : Bool) (ph : Int) (i6 : Nat) (g1 : Nat → Nat → Int) (m5 : Nat) : List MObj := [.rows n 1 (fun i j => .int .i64 (g i j)) e opn sz ro, .rows (m5 + 1) 1 (fun i j => .int .i64 (g1 i j)) 3 true 1 false]
noncomputable def rsr0 (n : Nat) (c : Nat) (g : Nat → Nat → Int) (e : TypeId) (opn : Bool) (sz : Nat) (ro : Bool) (ph : Int) (i6 : Nat) : Option OutCS := evK Tryz.prog rsK 1000 false rsX (rsA n c g e opn sz ro ph i6) (wS 6 (rsL n c g e opn sz ro ph i6)) ⟨[1, 1, .azz (.slice (some ⟨8, 0, none⟩) 1 1), .azz (.int .i64 ((i6 + 1 : Nat) : Int))], True⟩
noncomputable def rsr1 (n : Nat) (c : Nat) (g : Nat → Nat → Int) (e : TypeId) (opn : Bool) (sz : Nat) (ro : Bool) (ph : Int) (i6 : Nat) : Option OutCS := evK Tryz.prog rsK 1000 false rsX (rsA n c g e opn sz ro ph i6) (wS 6 (rsL n c g e opn sz ro ph i6)) ⟨[1, 0, .azz (.int .i64 ((i6 + 1 : Nat) : Int))], True⟩
noncomputable def rsr2 (n : Nat) (c : Nat) (g : Nat → Nat → Int) (e : TypeId) (opn : Bool) (sz : Nat) (ro : Bool) (ph : Int) (i6 : Nat) : Option OutCS := evK Tryz.prog rsK 1000 false rsX (rsA n c g e opn sz ro ph i6) (wS 6 (rsL n c g e opn sz ro ph i6)) ⟨[0], True⟩
def rsr2E (n : Nat) (c : Nat) (g : Nat → Nat → Int) (e : TypeId) (opn : Bool) (sz : Nat) (ro : Bool) (ph : Int) (i6 : Nat) : MA := MA.ofL 28 [.chan none, .chan none, .chan none, .chan none, .chan none, .slice none 0 0, .chan none, .chan none, .chan none, .chan none, .chan none, .chan none, .chan none, .chan none, .chan none, .chan none, .chan none, .chan none, .chan none, .chan none, .chan none, .chan none, .chan none, .chan none, .chan none, .chan none, .chan none, .chan none] []
noncomputable def rsr3 (n : Nat) (c : Nat) (g : Nat → Nat → Int) (e : TypeId) (opn : Bool) (sz : Nat) (ro : Bool) (ph : Int) (i6 : Nat) (g1 : Nat → Nat → Int) (m5 : Nat) : Option OutCS := evK Tryz.prog rsK 1000 false rsX (rsA1 n c g e opn sz ro ph i6 g1 m5) (wS 6 (rsL1 n c g e opn sz ro ph i6 g1 m5)) ⟨[1, 1, .row 0 0, .azz (.int .i64 ((i6 + 1 : Nat) : Int))], True⟩
noncomputable def rsr4 (n : Nat) (c : Nat) (g : Nat → Nat → Int) (e : TypeId) (opn : Bool) (sz : Nat) (ro : Bool) (ph : Int) (i6 : Nat) (g1 : Nat → Nat → Int) (m5 : Nat) : Option OutCS := evK Tryz.prog rsK 1000 false rsX (rsA1 n c g e opn sz ro ph i6 g1 m5) (wS 6 (rsL1 n c g e opn sz ro ph i6 g1 m5)) ⟨[1, 0, .azz (.int .i64 ((i6 + 1 : Nat) : Int))], True⟩
noncomputable def rsr5 (n : Nat) (c : Nat) (g : Nat → Nat → Int) (e : TypeId) (opn : Bool) (sz : Nat) (ro : Bool) (ph : Int) (i6 : Nat) (g1 : Nat → Nat → Int) (m5 : Nat) : Option OutCS := evK Tryz.prog rsK 1000 false rsX (rsA1 n c g e opn sz ro ph i6 g1 m5) (wS 6 (rsL1 n c g e opn sz ro ph i6 g1 m5)) ⟨[0], True⟩
def rsr5E (n : Nat) (c : Nat) (g : Nat → Nat → Int) (e : TypeId) (opn : Bool) (sz : Nat) (ro : Bool) (ph : Int) (i6 : Nat) (g1 : Nat → Nat → Int) (m5 : Nat) : MA := MA.ofL 28 [.chan none, .chan none, .chan none, .chan none, .chan none, .slice (some ⟨7, 0, none⟩) (m5 + 1) (m5 + 1), .chan none, .chan none, .chan none, .chan none, .chan none, .chan none, .chan none, .chan none, .chan none, .chan none, .chan none, .chan none, .chan none, .chan none, .chan none, .chan none, .chan none, .chan none, .chan none, .chan none, .chan none, .chan none] []
def rsAA (n : Nat) (c : Nat) (g : Nat → Nat → Int) (e : TypeId) (opn : Bool) (sz : Nat) (ro : Bool) (ph : Int) (i c' : Nat) (G : Nat → Nat → Int) : MA := match c' with
  | 0 => rsA n c g e opn sz ro ph i
  | m + 1 => rsA1 n c g e opn sz ro ph i G m
def rsLL (n : Nat) (c : Nat) (g : Nat → Nat → Int) (e : TypeId) (opn : Bool) (sz : Nat) (ro : Bool) (ph : Int) (i c' : Nat) (G : Nat → Nat → Int) : List MObj := match c' with
  | 0 => rsL n c g e opn sz ro ph i
  | m + 1 => rsL1 n c g e opn sz ro ph i G m
def rsQ (n : Nat) (c : Nat) (g : Nat → Nat → Int) (e : TypeId) (opn : Bool) (sz : Nat) (ro : Bool) (ph : Int) : Nat → Bool := fun k => fallB n g ((k : Nat) : Int) ph
def rsV : Nat → Int := fun k => ((k : Nat) : Int)
def rsArgs (n : Nat) (c : Nat) (g : Nat → Nat → Int) (e : TypeId) (opn : Bool) (sz : Nat) (ro : Bool) (ph : Int) : Array Value := #[.slice (some ⟨6, 0, none⟩) n c, .int .i64 ph]
def rsS (n : Nat) (c : Nat) (g : Nat → Nat → Int) (e : TypeId) (opn : Bool) (sz : Nat) (ro : Bool) (ph : Int) : List MObj := [.rows n 1 (fun i j => .int .i64 (g i j)) e opn sz ro]
noncomputable def rsf0 (n : Nat) (c : Nat) (g : Nat → Nat → Int) (e : TypeId) (opn : Bool) (sz : Nat) (ro : Bool) (ph : Int) (mm : Nat) : Option OutCS := evK Tryz.prog rsK 1000 false (bodyOf Tryz.prog 58) (startM Tryz.f58 (rsArgs n c g e opn sz ro ph)) (wS 6 (rsS n c g e opn sz ro ph)) ⟨[.lp 99 (rsA n c g e opn sz ro ph 0) 6 (rsL n c g e opn sz ro ph 0) (.exit 0) (rsr5E n c g e opn sz ro ph n (selG (rsQ n c g e opn sz ro ph) rsV n) mm) [.rows n 1 (fun i j => .int .i64 (g i j)) e opn sz ro, .rows (mm + 1) 1 (fun i j => .int .i64 ((selG (rsQ n c g e opn sz ro ph) rsV n) i j)) 3 true 1 false] 7 128], True⟩
theorem rsK_ok : FOkS Tryz.prog rsK := bothX_ok kCr_ok (bothX_ok kRCr_ok (bothX_ok kFl_ok (bothX_ok kRl_ok (kAll_ok _ ⟨k_range, k_rrange, k_index, trivial⟩))))
theorem rsr0_eq (n : Nat) (c : Nat) (g : Nat → Nat → Int) (e : TypeId) (opn : Bool) (sz : Nat) (ro : Bool) (ph : Int) (i6 : Nat) : seenK 6 1 [8] 99 128 (rsr0 n c g e opn sz ro ph i6) = some (.normal, rsA1 n c g e opn sz ro ph (i6 + 1) (fun i j => ([((i6 : Nat) : Int)] : List Int).getD (i * 1 + j) 0) 0, [.rows n 1 (fun i j => .int .i64 (g i j)) e opn sz ro, .cells [.int .i64 ((i6 : Nat) : Int)] 3 true 1 false], 128, ⟨[], (((((True ∧ ((decide ((((i6 : Nat)) : Int) < (((n : Nat)) : Int))) = true)) ∧ (((n = n) ∧ (∀ (i : Nat), ((i < n) → (∀ (j : Nat), ((j < (1 : Nat)) → ((Value.int .i64 (g i j)) = (Value.int .i64 (gI (Value.int .i64 (g i j)))))))))) ∧ ((∀ (i : Nat), ((i < n) → (((0 : Int) ≤ (gI (Value.int .i64 (g i 0)))) ∧ ((gI (Value.int .i64 (g i 0))) < (((n : Nat)) : Int))))) ∧ ((((0 : Int) ≤ (((i6 : Nat)) : Int)) ∧ ((((i6 : Nat)) : Int) < (((n : Nat)) : Int))) ∧ (n ≤ (1048576 : Nat)))))) ∧ ((fallB n (fun (i : Nat) => (fun (j : Nat) => (gI (Value.int .i64 (g i j))))) (((i6 : Nat)) : Int) ph) = true)) ∧ (((.slice (some ⟨8, 0, none⟩) 1 1) : Value) = (.slice (some ⟨8, 0, none⟩) (1 : Nat) (1 : Nat)))) ∧ (((.int .i64 (IntKind.i64.wrap ((((i6 : Nat)) : Int) + (1 : Int)))) : Value) = (.int .i64 ((((i6 + 1) : Nat)) : Int))))⟩) := by kernel_rfl
theorem rsr0_k (n : Nat) (c : Nat) (g : Nat → Nat → Int) (e : TypeId) (opn : Bool) (sz : Nat) (ro : Bool) (ph : Int) (i6 : Nat) (hg : ∀ i, i < n → 0 ≤ g i 0 ∧ g i 0 < (n : Int)) (hf : ((i6 : Nat) : Int) ≤ (n : Int)) (hn : n ≤ 1048576) (h0 : ((i6 : Nat) : Int) < ((n : Nat) : Int)) (h1 : (fallB n g ((i6 : Nat) : Int) ph) = true) : KC Tryz.prog none rsX (rsA n c g e opn sz ro ph i6).act (wS 6 (rsL n c g e opn sz ro ph i6)) .normal (rsA1 n c g e opn sz ro ph (i6 + 1) (fun i j => ([((i6 : Nat) : Int)] : List Int).getD (i * 1 + j) 0) 0).act (wS 6 (rsL1 n c g e opn sz ro ph (i6 + 1) (fun i j => ([((i6 : Nat) : Int)] : List Int).getD (i * 1 + j) 0) 0)) 7 128 := by
  refine KT.toldAs (L := [.rows n 1 (fun i j => .int .i64 (g i j)) e opn sz ro, .cells [.int .i64 ((i6 : Nat) : Int)] 3 true 1 false]) ?_ (by
    simp only [List.map_cons, List.map_nil, rsL, rsL1]
    repeat' (first | rfl | exact rows_nrm (fun i j hi hj => push_told hi hj) | exact rows_nrm (fun i j hi hj => set_told) | exact rows_nrm (fun i j hi hj => rfl) | refine congr (congrArg List.cons ?_) ?_))
  refine seenK_ok smx rsK_ok sng (rsr0_eq n c g e opn sz ro ph i6) ?_
  · skip
    repeat' (first | (with_reducible assumption) | exact (fun _ _ _ _ => rfl) | apply And.intro)
    all_goals first | trivial | rfl | assumption | exact decide_eq_true (by omega) | exact decide_eq_false (by omega) | exact bne_iff_ne.2 (by assumption) | exact bne_eq_false_iff_eq.2 (by assumption) | exact beq_iff_eq.2 (by assumption) | exact beq_eq_false_iff_ne.2 (by assumption) | exact wnextW (by omega) | exact wsub1 (by omega) (by omega) | exact toNatO (by omega) | exact congrArg Bool.not (by assumption) | exact congrArg Bool.not (decide_eq_true (by omega)) | exact congrArg Bool.not (decide_eq_false (by omega)) | exact congrArg Bool.not (beq_iff_eq.2 (by assumption)) | exact congrArg Bool.not (beq_eq_false_iff_ne.2 (by assumption)) | exact beq_eq_false_iff_ne.2 (by omega) | exact beq_iff_eq.2 (by omega) | exact bne_iff_ne.2 (by omega) | exact bne_eq_false_iff_eq.2 (by omega) | omega
theorem rsr1_eq (n : Nat) (c : Nat) (g : Nat → Nat → Int) (e : TypeId) (opn : Bool) (sz : Nat) (ro : Bool) (ph : Int) (i6 : Nat) : seenK 6 1 [] 99 128 (rsr1 n c g e opn sz ro ph i6) = some (.normal, rsA n c g e opn sz ro ph (i6 + 1), [.rows n 1 (fun i j => .int .i64 (g i j)) e opn sz ro], 128, ⟨[], ((((True ∧ ((decide ((((i6 : Nat)) : Int) < (((n : Nat)) : Int))) = true)) ∧ (((n = n) ∧ (∀ (i : Nat), ((i < n) → (∀ (j : Nat), ((j < (1 : Nat)) → ((Value.int .i64 (g i j)) = (Value.int .i64 (gI (Value.int .i64 (g i j)))))))))) ∧ ((∀ (i : Nat), ((i < n) → (((0 : Int) ≤ (gI (Value.int .i64 (g i 0)))) ∧ ((gI (Value.int .i64 (g i 0))) < (((n : Nat)) : Int))))) ∧ ((((0 : Int) ≤ (((i6 : Nat)) : Int)) ∧ ((((i6 : Nat)) : Int) < (((n : Nat)) : Int))) ∧ (n ≤ (1048576 : Nat)))))) ∧ ((fallB n (fun (i : Nat) => (fun (j : Nat) => (gI (Value.int .i64 (g i j))))) (((i6 : Nat)) : Int) ph) = false)) ∧ (((.int .i64 (IntKind.i64.wrap ((((i6 : Nat)) : Int) + (1 : Int)))) : Value) = (.int .i64 ((((i6 + 1) : Nat)) : Int))))⟩) := by kernel_rfl
theorem rsr1_k (n : Nat) (c : Nat) (g : Nat → Nat → Int) (e : TypeId) (opn : Bool) (sz : Nat) (ro : Bool) (ph : Int) (i6 : Nat) (hg : ∀ i, i < n → 0 ≤ g i 0 ∧ g i 0 < (n : Int)) (hf : ((i6 : Nat) : Int) ≤ (n : Int)) (hn : n ≤ 1048576) (h0 : ((i6 : Nat) : Int) < ((n : Nat) : Int)) (h1 : (fallB n g ((i6 : Nat) : Int) ph) = false) : KC Tryz.prog none rsX (rsA n c g e opn sz ro ph i6).act (wS 6 (rsL n c g e opn sz ro ph i6)) .normal (rsA n c g e opn sz ro ph (i6 + 1)).act (wS 6 (rsL n c g e opn sz ro ph (i6 + 1))) 7 128 := by
  refine seenK_ok smx rsK_ok sng (rsr1_eq n c g e opn sz ro ph i6) ?_
  · skip
    repeat' (first | (with_reducible assumption) | exact (fun _ _ _ _ => rfl) | apply And.intro)
    all_goals first | trivial | rfl | assumption | exact decide_eq_true (by omega) | exact decide_eq_false (by omega) | exact bne_iff_ne.2 (by assumption) | exact bne_eq_false_iff_eq.2 (by assumption) | exact beq_iff_eq.2 (by assumption) | exact beq_eq_false_iff_ne.2 (by assumption) | exact wnextW (by omega) | exact wsub1 (by omega) (by omega) | exact toNatO (by omega) | exact congrArg Bool.not (by assumption) | exact congrArg Bool.not (decide_eq_true (by omega)) | exact congrArg Bool.not (decide_eq_false (by omega)) | exact congrArg Bool.not (beq_iff_eq.2 (by assumption)) | exact congrArg Bool.not (beq_eq_false_iff_ne.2 (by assumption)) | exact beq_eq_false_iff_ne.2 (by omega) | exact beq_iff_eq.2 (by omega) | exact bne_iff_ne.2 (by omega) | exact bne_eq_false_iff_eq.2 (by omega) | omega
theorem rsr2_eq (n : Nat) (c : Nat) (g : Nat → Nat → Int) (e : TypeId) (opn : Bool) (sz : Nat) (ro : Bool) (ph : Int) (i6 : Nat) : seenK 6 1 [] 32 128 (rsr2 n c g e opn sz ro ph i6) = some ((.exit 0), rsr2E n c g e opn sz ro ph i6, [.rows n 1 (fun i j => .int .i64 (g i j)) e opn sz ro], 128, ⟨[], (True ∧ ((decide ((((i6 : Nat)) : Int) < (((n : Nat)) : Int))) = false))⟩) := by kernel_rfl
theorem rsr2_k (n : Nat) (c : Nat) (g : Nat → Nat → Int) (e : TypeId) (opn : Bool) (sz : Nat) (ro : Bool) (ph : Int) (i6 : Nat) (hg : ∀ i, i < n → 0 ≤ g i 0 ∧ g i 0 < (n : Int)) (hf : ((i6 : Nat) : Int) ≤ (n : Int)) (hn : n ≤ 1048576) (h0 : ¬ ((i6 : Nat) : Int) < ((n : Nat) : Int)) : KC Tryz.prog none rsX (rsA n c g e opn sz ro ph i6).act (wS 6 (rsL n c g e opn sz ro ph i6)) (.exit 0) (rsr2E n c g e opn sz ro ph i6).act (wS 6 [.rows n 1 (fun i j => .int .i64 (g i j)) e opn sz ro]) 7 128 := by
  refine seenK_ok smx rsK_ok sng (rsr2_eq n c g e opn sz ro ph i6) ?_
  · skip
    repeat' (first | (with_reducible assumption) | exact (fun _ _ _ _ => rfl) | apply And.intro)
    all_goals first | trivial | rfl | assumption | exact decide_eq_true (by omega) | exact decide_eq_false (by omega) | exact bne_iff_ne.2 (by assumption) | exact bne_eq_false_iff_eq.2 (by assumption) | exact beq_iff_eq.2 (by assumption) | exact beq_eq_false_iff_ne.2 (by assumption) | exact wnextW (by omega) | exact wsub1 (by omega) (by omega) | exact toNatO (by omega) | exact congrArg Bool.not (by assumption) | exact congrArg Bool.not (decide_eq_true (by omega)) | exact congrArg Bool.not (decide_eq_false (by omega)) | exact congrArg Bool.not (beq_iff_eq.2 (by assumption)) | exact congrArg Bool.not (beq_eq_false_iff_ne.2 (by assumption)) | exact beq_eq_false_iff_ne.2 (by omega) | exact beq_iff_eq.2 (by omega) | exact bne_iff_ne.2 (by omega) | exact bne_eq_false_iff_eq.2 (by omega) | omega
theorem rsr3_eq (n : Nat) (c : Nat) (g : Nat → Nat → Int) (e : TypeId) (opn : Bool) (sz : Nat) (ro : Bool) (ph : Int) (i6 : Nat) (g1 : Nat → Nat → Int) (m5 : Nat) : seenK 6 1 [9] 99 128 (rsr3 n c g e opn sz ro ph i6 g1 m5) = some (.normal, rsA1 n c g e opn sz ro ph (i6 + 1) (pushI (m5 + 1) g1 [((i6 : Nat) : Int)]) (m5 + 1), [.rows n 1 (fun i j => .int .i64 (g i j)) e opn sz ro, .rows (m5 + 2) 1 (fun i j => tellV (invN 7 [9]) 8 ((pushRow (m5 + 1) 1 (fun i j => .int .i64 (g1 i j)) [.int .i64 ((i6 : Nat) : Int)]) i j)) 3 true 1 false], 128, ⟨[], (((((True ∧ ((decide ((((i6 : Nat)) : Int) < (((n : Nat)) : Int))) = true)) ∧ (((n = n) ∧ (∀ (i : Nat), ((i < n) → (∀ (j : Nat), ((j < (1 : Nat)) → ((Value.int .i64 (g i j)) = (Value.int .i64 (gI (Value.int .i64 (g i j)))))))))) ∧ ((∀ (i : Nat), ((i < n) → (((0 : Int) ≤ (gI (Value.int .i64 (g i 0)))) ∧ ((gI (Value.int .i64 (g i 0))) < (((n : Nat)) : Int))))) ∧ ((((0 : Int) ≤ (((i6 : Nat)) : Int)) ∧ ((((i6 : Nat)) : Int) < (((n : Nat)) : Int))) ∧ (n ≤ (1048576 : Nat)))))) ∧ ((fallB n (fun (i : Nat) => (fun (j : Nat) => (gI (Value.int .i64 (g i j))))) (((i6 : Nat)) : Int) ph) = true)) ∧ (((m5 + 1) = (m5 + 1)) ∧ (((m5 + 1) = (m5 + 1)) ∧ ((((m5 + 1) + 1) * 8) ≤ (140737488355328 : Nat))))) ∧ (((.int .i64 (IntKind.i64.wrap ((((i6 : Nat)) : Int) + (1 : Int)))) : Value) = (.int .i64 ((((i6 + 1) : Nat)) : Int))))⟩) := by kernel_rfl
theorem rsr3_k (n : Nat) (c : Nat) (g : Nat → Nat → Int) (e : TypeId) (opn : Bool) (sz : Nat) (ro : Bool) (ph : Int) (i6 : Nat) (g1 : Nat → Nat → Int) (m5 : Nat) (hg : ∀ i, i < n → 0 ≤ g i 0 ∧ g i 0 < (n : Int)) (hf : ((i6 : Nat) : Int) ≤ (n : Int)) (hn : n ≤ 1048576) (hm : m5 + 1 ≤ i6) (h0 : ((i6 : Nat) : Int) < ((n : Nat) : Int)) (h1 : (fallB n g ((i6 : Nat) : Int) ph) = true) : KC Tryz.prog none rsX (rsA1 n c g e opn sz ro ph i6 g1 m5).act (wS 6 (rsL1 n c g e opn sz ro ph i6 g1 m5)) .normal (rsA1 n c g e opn sz ro ph (i6 + 1) (pushI (m5 + 1) g1 [((i6 : Nat) : Int)]) (m5 + 1)).act (wS 6 (rsL1 n c g e opn sz ro ph (i6 + 1) (pushI (m5 + 1) g1 [((i6 : Nat) : Int)]) (m5 + 1))) 7 128 := by
  refine KT.toldAs (L := [.rows n 1 (fun i j => .int .i64 (g i j)) e opn sz ro, .rows (m5 + 2) 1 (fun i j => tellV (invN 7 [9]) 8 ((pushRow (m5 + 1) 1 (fun i j => .int .i64 (g1 i j)) [.int .i64 ((i6 : Nat) : Int)]) i j)) 3 true 1 false]) ?_ (by
    simp only [List.map_cons, List.map_nil, rsL, rsL1]
    repeat' (first | rfl | exact rows_nrm (fun i j hi hj => push_told hi hj) | exact rows_nrm (fun i j hi hj => set_told) | exact rows_nrm (fun i j hi hj => rfl) | refine congr (congrArg List.cons ?_) ?_))
  refine seenK_ok smx rsK_ok sng (rsr3_eq n c g e opn sz ro ph i6 g1 m5) ?_
  · skip
    repeat' (first | (with_reducible assumption) | exact (fun _ _ _ _ => rfl) | apply And.intro)
    all_goals first | trivial | rfl | assumption | exact decide_eq_true (by omega) | exact decide_eq_false (by omega) | exact bne_iff_ne.2 (by assumption) | exact bne_eq_false_iff_eq.2 (by assumption) | exact beq_iff_eq.2 (by assumption) | exact beq_eq_false_iff_ne.2 (by assumption) | exact wnextW (by omega) | exact wsub1 (by omega) (by omega) | exact toNatO (by omega) | exact congrArg Bool.not (by assumption) | exact congrArg Bool.not (decide_eq_true (by omega)) | exact congrArg Bool.not (decide_eq_false (by omega)) | exact congrArg Bool.not (beq_iff_eq.2 (by assumption)) | exact congrArg Bool.not (beq_eq_false_iff_ne.2 (by assumption)) | exact beq_eq_false_iff_ne.2 (by omega) | exact beq_iff_eq.2 (by omega) | exact bne_iff_ne.2 (by omega) | exact bne_eq_false_iff_eq.2 (by omega) | omega
theorem rsr4_eq (n : Nat) (c : Nat) (g : Nat → Nat → Int) (e : TypeId) (opn : Bool) (sz : Nat) (ro : Bool) (ph : Int) (i6 : Nat) (g1 : Nat → Nat → Int) (m5 : Nat) : seenK 6 1 [7] 99 128 (rsr4 n c g e opn sz ro ph i6 g1 m5) = some (.normal, rsA1 n c g e opn sz ro ph (i6 + 1) g1 m5, [.rows n 1 (fun i j => .int .i64 (g i j)) e opn sz ro, .rows (m5 + 1) 1 (fun i j => .int .i64 (g1 i j)) 3 true 1 false], 128, ⟨[], ((((True ∧ ((decide ((((i6 : Nat)) : Int) < (((n : Nat)) : Int))) = true)) ∧ (((n = n) ∧ (∀ (i : Nat), ((i < n) → (∀ (j : Nat), ((j < (1 : Nat)) → ((Value.int .i64 (g i j)) = (Value.int .i64 (gI (Value.int .i64 (g i j)))))))))) ∧ ((∀ (i : Nat), ((i < n) → (((0 : Int) ≤ (gI (Value.int .i64 (g i 0)))) ∧ ((gI (Value.int .i64 (g i 0))) < (((n : Nat)) : Int))))) ∧ ((((0 : Int) ≤ (((i6 : Nat)) : Int)) ∧ ((((i6 : Nat)) : Int) < (((n : Nat)) : Int))) ∧ (n ≤ (1048576 : Nat)))))) ∧ ((fallB n (fun (i : Nat) => (fun (j : Nat) => (gI (Value.int .i64 (g i j))))) (((i6 : Nat)) : Int) ph) = false)) ∧ (((.int .i64 (IntKind.i64.wrap ((((i6 : Nat)) : Int) + (1 : Int)))) : Value) = (.int .i64 ((((i6 + 1) : Nat)) : Int))))⟩) := by kernel_rfl
theorem rsr4_k (n : Nat) (c : Nat) (g : Nat → Nat → Int) (e : TypeId) (opn : Bool) (sz : Nat) (ro : Bool) (ph : Int) (i6 : Nat) (g1 : Nat → Nat → Int) (m5 : Nat) (hg : ∀ i, i < n → 0 ≤ g i 0 ∧ g i 0 < (n : Int)) (hf : ((i6 : Nat) : Int) ≤ (n : Int)) (hn : n ≤ 1048576) (hm : m5 + 1 ≤ i6) (h0 : ((i6 : Nat) : Int) < ((n : Nat) : Int)) (h1 : (fallB n g ((i6 : Nat) : Int) ph) = false) : KC Tryz.prog none rsX (rsA1 n c g e opn sz ro ph i6 g1 m5).act (wS 6 (rsL1 n c g e opn sz ro ph i6 g1 m5)) .normal (rsA1 n c g e opn sz ro ph (i6 + 1) g1 m5).act (wS 6 (rsL1 n c g e opn sz ro ph (i6 + 1) g1 m5)) 7 128 := by
  refine KT.toldAs (L := [.rows n 1 (fun i j => .int .i64 (g i j)) e opn sz ro, .rows (m5 + 1) 1 (fun i j => .int .i64 (g1 i j)) 3 true 1 false]) ?_ (by
    simp only [List.map_cons, List.map_nil, rsL, rsL1]
    repeat' (first | rfl | exact rows_nrm (fun i j hi hj => push_told hi hj) | exact rows_nrm (fun i j hi hj => set_told) | exact rows_nrm (fun i j hi hj => rfl) | refine congr (congrArg List.cons ?_) ?_))
  refine seenK_ok smx rsK_ok sng (rsr4_eq n c g e opn sz ro ph i6 g1 m5) ?_
  · skip
    repeat' (first | (with_reducible assumption) | exact (fun _ _ _ _ => rfl) | apply And.intro)
    all_goals first | trivial | rfl | assumption | exact decide_eq_true (by omega) | exact decide_eq_false (by omega) | exact bne_iff_ne.2 (by assumption) | exact bne_eq_false_iff_eq.2 (by assumption) | exact beq_iff_eq.2 (by assumption) | exact beq_eq_false_iff_ne.2 (by assumption) | exact wnextW (by omega) | exact wsub1 (by omega) (by omega) | exact toNatO (by omega) | exact congrArg Bool.not (by assumption) | exact congrArg Bool.not (decide_eq_true (by omega)) | exact congrArg Bool.not (decide_eq_false (by omega)) | exact congrArg Bool.not (beq_iff_eq.2 (by assumption)) | exact congrArg Bool.not (beq_eq_false_iff_ne.2 (by assumption)) | exact beq_eq_false_iff_ne.2 (by omega) | exact beq_iff_eq.2 (by omega) | exact bne_iff_ne.2 (by omega) | exact bne_eq_false_iff_eq.2 (by omega) | omega
theorem rsr5_eq (n : Nat) (c : Nat) (g : Nat → Nat → Int) (e : TypeId) (opn : Bool) (sz : Nat) (ro : Bool) (ph : Int) (i6 : Nat) (g1 : Nat → Nat → Int) (m5 : Nat) : seenK 6 1 [7] 32 128 (rsr5 n c g e opn sz ro ph i6 g1 m5) = some ((.exit 0), rsr5E n c g e opn sz ro ph i6 g1 m5, [.rows n 1 (fun i j => .int .i64 (g i j)) e opn sz ro, .rows (m5 + 1) 1 (fun i j => .int .i64 (g1 i j)) 3 true 1 false], 128, ⟨[], (True ∧ ((decide ((((i6 : Nat)) : Int) < (((n : Nat)) : Int))) = false))⟩) := by kernel_rfl
theorem rsr5_k (n : Nat) (c : Nat) (g : Nat → Nat → Int) (e : TypeId) (opn : Bool) (sz : Nat) (ro : Bool) (ph : Int) (i6 : Nat) (g1 : Nat → Nat → Int) (m5 : Nat) (hg : ∀ i, i < n → 0 ≤ g i 0 ∧ g i 0 < (n : Int)) (hf : ((i6 : Nat) : Int) ≤ (n : Int)) (hn : n ≤ 1048576) (hm : m5 + 1 ≤ i6) (h0 : ¬ ((i6 : Nat) : Int) < ((n : Nat) : Int)) : KC Tryz.prog none rsX (rsA1 n c g e opn sz ro ph i6 g1 m5).act (wS 6 (rsL1 n c g e opn sz ro ph i6 g1 m5)) (.exit 0) (rsr5E n c g e opn sz ro ph i6 g1 m5).act (wS 6 [.rows n 1 (fun i j => .int .i64 (g i j)) e opn sz ro, .rows (m5 + 1) 1 (fun i j => .int .i64 (g1 i j)) 3 true 1 false]) 7 128 := by
  refine KT.toldAs (L := [.rows n 1 (fun i j => .int .i64 (g i j)) e opn sz ro, .rows (m5 + 1) 1 (fun i j => .int .i64 (g1 i j)) 3 true 1 false]) ?_ (by
    simp only [List.map_cons, List.map_nil, rsL, rsL1]
    repeat' (first | rfl | exact rows_nrm (fun i j hi hj => push_told hi hj) | exact rows_nrm (fun i j hi hj => set_told) | exact rows_nrm (fun i j hi hj => rfl) | refine congr (congrArg List.cons ?_) ?_))
  refine seenK_ok smx rsK_ok sng (rsr5_eq n c g e opn sz ro ph i6 g1 m5) ?_
  · skip
    repeat' (first | (with_reducible assumption) | exact (fun _ _ _ _ => rfl) | apply And.intro)
    all_goals first | trivial | rfl | assumption | exact decide_eq_true (by omega) | exact decide_eq_false (by omega) | exact bne_iff_ne.2 (by assumption) | exact bne_eq_false_iff_eq.2 (by assumption) | exact beq_iff_eq.2 (by assumption) | exact beq_eq_false_iff_ne.2 (by assumption) | exact wnextW (by omega) | exact wsub1 (by omega) (by omega) | exact toNatO (by omega) | exact congrArg Bool.not (by assumption) | exact congrArg Bool.not (decide_eq_true (by omega)) | exact congrArg Bool.not (decide_eq_false (by omega)) | exact congrArg Bool.not (beq_iff_eq.2 (by assumption)) | exact congrArg Bool.not (beq_eq_false_iff_ne.2 (by assumption)) | exact beq_eq_false_iff_ne.2 (by omega) | exact beq_iff_eq.2 (by omega) | exact bne_iff_ne.2 (by omega) | exact bne_eq_false_iff_eq.2 (by omega) | omega
theorem rs_yes (n : Nat) (c : Nat) (g : Nat → Nat → Int) (e : TypeId) (opn : Bool) (sz : Nat) (ro : Bool) (ph : Int) (hg : ∀ i, i < n → 0 ≤ g i 0 ∧ g i 0 < (n : Int)) (hn : n ≤ 1048576) {i : Nat} (c' : Nat) (G : Nat → Nat → Int) (hc : c' ≤ i) (hi : i < n) (hq : rsQ n c g e opn sz ro ph i = true) : KC Tryz.prog none rsX (rsAA n c g e opn sz ro ph i c' G).act (wS 6 (rsLL n c g e opn sz ro ph i c' G)) .normal (rsAA n c g e opn sz ro ph (i + 1) (c' + 1) (growI c' G (rsV i))).act (wS 6 (rsLL n c g e opn sz ro ph (i + 1) (c' + 1) (growI c' G (rsV i)))) 7 128 := by
  cases c' with
  | zero => exact rsr0_k n c g e opn sz ro ph i hg (by omega) hn (by omega) hq
  | succ m => exact rsr3_k n c g e opn sz ro ph i G m hg (by omega) hn hc (by omega) hq
theorem rs_no (n : Nat) (c : Nat) (g : Nat → Nat → Int) (e : TypeId) (opn : Bool) (sz : Nat) (ro : Bool) (ph : Int) (hg : ∀ i, i < n → 0 ≤ g i 0 ∧ g i 0 < (n : Int)) (hn : n ≤ 1048576) {i : Nat} (c' : Nat) (G : Nat → Nat → Int) (hc : c' ≤ i) (hi : i < n) (hq : rsQ n c g e opn sz ro ph i = false) : KC Tryz.prog none rsX (rsAA n c g e opn sz ro ph i c' G).act (wS 6 (rsLL n c g e opn sz ro ph i c' G)) .normal (rsAA n c g e opn sz ro ph (i + 1) c' G).act (wS 6 (rsLL n c g e opn sz ro ph (i + 1) c' G)) 7 128 := by
  cases c' with
  | zero => exact rsr1_k n c g e opn sz ro ph i hg (by omega) hn (by omega) hq
  | succ m => exact rsr4_k n c g e opn sz ro ph i G m hg (by omega) hn hc (by omega) hq
theorem rs_loop (n : Nat) (c : Nat) (g : Nat → Nat → Int) (e : TypeId) (opn : Bool) (sz : Nat) (ro : Bool) (ph : Int) (hg : ∀ i, i < n → 0 ≤ g i 0 ∧ g i 0 < (n : Int)) (hn : n ≤ 1048576) (mm : Nat) (hm : cntF (rsQ n c g e opn sz ro ph) n = mm + 1) : KC Tryz.prog none (.loop rsX) (rsA n c g e opn sz ro ph 0).act (wS 6 (rsL n c g e opn sz ro ph 0)) (.exit 0) (rsr5E n c g e opn sz ro ph n (selG (rsQ n c g e opn sz ro ph) rsV n) mm).act (wS 6 [.rows n 1 (fun i j => .int .i64 (g i j)) e opn sz ro, .rows (mm + 1) 1 (fun i j => .int .i64 ((selG (rsQ n c g e opn sz ro ph) rsV n) i j)) 3 true 1 false]) 7 128 := by
  refine K_rounds (A := fun i => (rsAA n c g e opn sz ro ph i (cntF (rsQ n c g e opn sz ro ph) i) (selG (rsQ n c g e opn sz ro ph) rsV i)).act) (S := fun i => wS 6 (rsLL n c g e opn sz ro ph i (cntF (rsQ n c g e opn sz ro ph) i) (selG (rsQ n c g e opn sz ro ph) rsV i))) n (fun i hi => ?_) ?_ (by simp)
  · cases hq : rsQ n c g e opn sz ro ph i with
    | true =>
      simp only [cntF_yes hq, selG_yes hq]
      exact rs_yes n c g e opn sz ro ph hg hn _ _ (cntF_le _ i) hi hq
    | false =>
      simp only [cntF_no hq, selG_no hq]
      exact rs_no n c g e opn sz ro ph hg hn _ _ (cntF_le _ i) hi hq
  · simp only [hm]
    exact rsr5_k n c g e opn sz ro ph n (selG (rsQ n c g e opn sz ro ph) rsV n) mm hg (by omega) hn (hm ▸ cntF_le _ n) (by omega)
theorem rsf0_eq (n : Nat) (c : Nat) (g : Nat → Nat → Int) (e : TypeId) (opn : Bool) (sz : Nat) (ro : Bool) (ph : Int) (mm : Nat) : seenF' Tryz.prog Tryz.f58 6 1 [7] (rsf0 n c g e opn sz ro ph mm) = some (.slice (some ⟨7, 0, none⟩) (mm + 1) (mm + 1), rsS n c g e opn sz ro ph ++ [.rows (mm + 1) 1 (fun i j => .int .i64 ((selG (rsQ n c g e opn sz ro ph) rsV n) i j)) 3 true 1 false], ⟨[], (True ∧ ((((rsA n c g e opn sz ro ph (0 : Nat)) = (rsA n c g e opn sz ro ph (0 : Nat))) ∧ ((7 = (6 + 1)) ∧ ((HAppend.hAppend (List.replicate (6 : Nat) MObj.hole) (rsL n c g e opn sz ro ph (0 : Nat))) = (HAppend.hAppend (List.replicate (6 : Nat) MObj.hole) (rsL n c g e opn sz ro ph (0 : Nat)))))) ∧ KC Tryz.prog none (.loop rsX) (rsA n c g e opn sz ro ph 0).act (wS 6 (rsL n c g e opn sz ro ph 0)) (.exit 0) (rsr5E n c g e opn sz ro ph n (selG (rsQ n c g e opn sz ro ph) rsV n) mm).act (wS 6 [.rows n 1 (fun i j => .int .i64 (g i j)) e opn sz ro, .rows (mm + 1) 1 (fun i j => .int .i64 ((selG (rsQ n c g e opn sz ro ph) rsV n) i j)) 3 true 1 false]) 7 128))⟩) := by kernel_rfl
theorem rsf0_s (n : Nat) (c : Nat) (g : Nat → Nat → Int) (e : TypeId) (opn : Bool) (sz : Nat) (ro : Bool) (ph : Int) (mm : Nat) (hx : (n : Int) ≤ 9223372036854775807) (l0 : KC Tryz.prog none (.loop rsX) (rsA n c g e opn sz ro ph 0).act (wS 6 (rsL n c g e opn sz ro ph 0)) (.exit 0) (rsr5E n c g e opn sz ro ph n (selG (rsQ n c g e opn sz ro ph) rsV n) mm).act (wS 6 [.rows n 1 (fun i j => .int .i64 (g i j)) e opn sz ro, .rows (mm + 1) 1 (fun i j => .int .i64 ((selG (rsQ n c g e opn sz ro ph) rsV n) i j)) 3 true 1 false]) 7 128) : SndF Tryz.prog 58 (rsArgs n c g e opn sz ro ph) (wS 6 (rsS n c g e opn sz ro ph)) (.slice (some ⟨7, 0, none⟩) (mm + 1) (mm + 1)) (wS 6 (rsS n c g e opn sz ro ph ++ [.rows (mm + 1) 1 (fun i j => .int .i64 ((selG (rsQ n c g e opn sz ro ph) rsV n) i j)) 3 true 1 false])) 64 0 :=
  sndF_K (L := rsS n c g e opn sz ro ph) (L2 := [.rows (mm + 1) 1 (fun i j => .int .i64 ((selG (rsQ n c g e opn sz ro ph) rsV n) i j)) 3 true 1 false]) (ms := [7]) smx rsK_ok sng (by kernel_rfl) (by kernel_rfl) (rsf0_eq n c g e opn sz ro ph mm) (by
    repeat' (first | (with_reducible assumption) | exact (fun _ _ _ _ => rfl) | apply And.intro)
    all_goals first | trivial | rfl | assumption | exact decide_eq_true (by omega) | exact decide_eq_false (by omega) | exact bne_iff_ne.2 (by assumption) | exact bne_eq_false_iff_eq.2 (by assumption) | exact beq_iff_eq.2 (by assumption) | exact beq_eq_false_iff_ne.2 (by assumption) | exact wnextW (by omega) | exact wsub1 (by omega) (by omega) | exact toNatO (by omega) | exact congrArg Bool.not (by assumption) | exact congrArg Bool.not (decide_eq_true (by omega)) | exact congrArg Bool.not (decide_eq_false (by omega)) | exact congrArg Bool.not (beq_iff_eq.2 (by assumption)) | exact congrArg Bool.not (beq_eq_false_iff_ne.2 (by assumption)) | exact beq_eq_false_iff_ne.2 (by omega) | exact beq_iff_eq.2 (by omega) | exact bne_iff_ne.2 (by omega) | exact bne_eq_false_iff_eq.2 (by omega) | omega) (by kernel_rfl) (fun o ho => by
      simp only [rsS, List.mem_cons, List.not_mem_nil, or_false] at ho
      rcases ho with rfl
      all_goals first | rfl | exact fun i j => rfl) (fun o ho => by
      simp only [List.mem_cons, List.not_mem_nil, or_false] at ho
      rcases ho with rfl
      all_goals first | rfl | exact fun i j => rfl) (by kernel_rfl)
theorem rs_sndF1 (n : Nat) (c : Nat) (g : Nat → Nat → Int) (e : TypeId) (opn : Bool) (sz : Nat) (ro : Bool) (ph : Int) (hn : n ≤ 1048576) (hg : ∀ i, i < n → 0 ≤ g i 0 ∧ g i 0 < (n : Int)) (h1 : 0 ≤ ph ∧ ph < (n : Int)) : SndF Tryz.prog 58 (rsArgs n c g e opn sz ro ph) (wS 6 (rsS n c g e opn sz ro ph)) (.slice (some ⟨7, 0, none⟩) (basN n g ph) (basN n g ph)) (wS 6 (rsS n c g e opn sz ro ph ++ [.rows (basN n g ph) 1 (fun i j => .int .i64 (basG n g ph i j)) 3 true 1 false])) 64 0 := by
  obtain ⟨m, hm⟩ := basN_pos (g := g) h1
  rw [hm]
  exact rsf0_s n c g e opn sz ro ph m (by omega) (rs_loop n c g e opn sz ro ph hg hn m hm)
def kRs : CallS := fun f xs s q => match decide (f = 58) with
  | true => match xs.toList with
    | [.slice (some ⟨b, 0, none⟩) n c, .int .i64 ph] => match Nat.ble 6 b, rowK 1 .i64 s b n with
      | true, some (g, _, _, _, _, p) => some (.slice (some ⟨s.next, 0, none⟩) (basN n g ph) (basN n g ph), s.push (.rows (basN n g ph) 1 (fun i j => .int .i64 (basG n g ph i j)) 3 true 1 false), 2 ^ b, 0, ⟨q.rest, q.ob ∧ (p ∧ (n ≤ 1048576 ∧ (∀ i, i < n → 0 ≤ g i 0 ∧ g i 0 < (n : Int)) ∧ (0 ≤ ph ∧ ph < (n : Int))))⟩)
      | _, _ => none
    | _ => none
  | false => none
theorem kRs_ok : FOkS Tryz.prog kRs := fun f xs s q u s1 R W q1 he => by
  unfold kRs at he
  split at he
  · rename_i hf
    have hf := of_decide_eq_true hf
    subst hf
    split at he
    · rename_i b n c ph hx0
      have hxs : xs = #[.slice (some ⟨b, 0, none⟩) n c, .int .i64 ph] := by apply Array.ext'; exact hx0
      subst hxs
      split at he
      · rename_i g e opn sz ro p hb hr
        have hb := Nat.le_of_ble_eq_true hb
        cases he
        refine ⟨fun hq => hq.1, fun hq => ?_⟩
        obtain ⟨hp, hx⟩ := hq.2
        obtain ⟨l1, w1⟩ := rowK_wo hr hp
        refine SndF.rowsNew (N := 6) (bs := [b]) (s0 := wS 6 [rowI 1 n g e opn sz ro]) (o1 := .rows (basN n g ph) 1 (fun i j => .int .i64 (basG n g ph i j)) 3 true 1 false) sng (rs_sndF1 n c g e opn sz ro ph hx.1 hx.2.1 hx.2.2) rfl (fun x hx => ?_) (by simp) (by omega) (fun x hx _ => ?_) (fun x hx => ?_) (fun f j hj => ?_) (fun f hl hf => wvs_two (slice_wv (hf 0 (by simp))) (ground_wv (n := 8) rfl)) (fun f _ hf hn => ⟨slice_wv hn, keep_wo (N := fun _ => false) (fun b hb => by cases hb) (fun i j => rfl)⟩)
        · simp at hx; subst hx; omega
        · rcases Nat.lt_or_ge x 6 with k | k
          · have hz := (by decide : ∀ b, b < 6 → Nat.testBit 64 b = false) x k
            rw [hz] at hx; cases hx
          · exact k
        · simp at hx; subst hx; exact bit_self _
        · match j, hj with
          | 0, _ => exact w1 f
      · cases he
    · cases he
  · cases he
end Go.Proofs.YtecabbbjdnambaaGreatDoor
end
section
set_option linter.all false
set_option maxRecDepth 1000000
open Go.RowKit
namespace Go.Proofs.YtecabbbjdnambaaGreatDoor
open Mini
def cbE (g h : Nat → Nat → Int) (ph : Int) (i : Nat) : Int := if ((i : Nat) : Int) = ph then (if h i 0 = 0 then 0 else 19) else (if 0 < h i 0 ∧ h (Int.toNat (g i 0)) 0 < h i 0 then 0 else 19)
theorem cbE_at {g h : Nat → Nat → Int} {ph : Int} {i : Nat} (hq : cbE g h ph i = 0) : (((i : Nat) : Int) = ph ∧ h i 0 = 0) ∨ (((i : Nat) : Int) ≠ ph ∧ 0 < h i 0 ∧ h (Int.toNat (g i 0)) 0 < h i 0) := by
  unfold cbE at hq
  split at hq
  · rename_i c
    split at hq
    · rename_i d; exact .inl ⟨c, d⟩
    · exact absurd hq (by decide)
  · rename_i c
    split at hq
    · rename_i d; exact .inr ⟨c, d.1, d.2⟩
    · exact absurd hq (by decide)
theorem cbE_no {g h : Nat → Nat → Int} {ph : Int} {i : Nat} (hq : cbE g h ph i ≠ 0) : cbE g h ph i = 19 ∧ ((((i : Nat) : Int) = ph ∧ h i 0 ≠ 0) ∨ (((i : Nat) : Int) ≠ ph ∧ ¬ (0 < h i 0 ∧ h (Int.toNat (g i 0)) 0 < h i 0))) := by
  unfold cbE at hq ⊢
  split at hq
  · rename_i c
    rw [if_pos c]
    split at hq
    · exact absurd rfl hq
    · rename_i d; rw [if_neg d]; exact ⟨rfl, .inl ⟨c, d⟩⟩
  · rename_i c
    rw [if_neg c]
    split at hq
    · exact absurd rfl hq
    · rename_i d; rw [if_neg d]; exact ⟨rfl, .inr ⟨c, d⟩⟩
theorem bneB {a b p q : Bool} (h1 : a = p) (h2 : b = q) : (a != b) = (p != q) := by rw [h1, h2]
def cbV (n : Nat) (g : Nat → Nat → Int) (m : Nat) (h : Nat → Nat → Int) (ph : Int) : Int := th2 (th2 (crV n g) (ixE ph n)) (if m = n then feN (cbE g h ph) n 0 else 2)
noncomputable def cbX : Code := loopAt Tryz.prog 56 0
noncomputable def cbK : CallS := bothX kCp (bothX kCr (bothX kRCr (bothX kFl (bothX kRl (kAll [c_range, c_rrange, c_index])))))
def cbA (n : Nat) (c : Nat) (g : Nat → Nat → Int) (e : TypeId) (opn : Bool) (sz : Nat) (ro : Bool) (m : Nat) (c2 : Nat) (h : Nat → Nat → Int) (e2 : TypeId) (opn2 : Bool) (sz2 : Nat) (ro2 : Bool) (ph : Int) (i30 : Nat) : MA := MA.ofL 67 [.slice (some ⟨6, 0, none⟩) n c, .int .i64 ph, .slice (some ⟨7, 0, none⟩) m c2, .chan none, .chan none, .chan none, .chan none, .chan none, .chan none, .chan none, .chan none, .chan none, .chan none, .chan none, .chan none, .chan none, .chan none, .chan none, .chan none, .chan none, .chan none, .chan none, .chan none, .chan none, .chan none, .chan none, .chan none, .chan none, .slice (some ⟨7, 0, none⟩) m c2, .int .i64 ((m : Nat) : Int), .int .i64 ((i30 : Nat) : Int), .chan none, .chan none, .chan none, .chan none, .chan none, .chan none, .chan none, .chan none, .chan none, .chan none, .chan none, .chan none, .chan none, .chan none, .chan none, .chan none, .chan none, .chan none, .chan none, .chan none, .chan none, .chan none, .chan none, .chan none, .chan none, .chan none, .chan none, .chan none, .chan none, .chan none, .chan none, .chan none, .chan none, .chan none, .chan none, .chan none] []
def cbL (n : Nat) (c : Nat) (g : Nat → Nat → Int) (e : TypeId) (opn : Bool) (sz : Nat) (ro : Bool) (m : Nat) (c2 : Nat) (h : Nat → Nat → Int) (e2 : TypeId) (opn2 : Bool) (sz2 : Nat) (ro2 : Bool) (ph : Int) (i30 : Nat) : List MObj := [.rows n 1 (fun i j => .int .i64 (g i j)) e opn sz ro, .rows m 1 (fun i j => .int .i64 (h i j)) e2 opn2 sz2 ro2, .cells [.int .i64 (crV n g), .int .i64 (ixE ph ((n : Nat) : Int))] 26 false 0 false]
noncomputable def cbr0 (n : Nat) (c : Nat) (g : Nat → Nat → Int) (e : TypeId) (opn : Bool) (sz : Nat) (ro : Bool) (m : Nat) (c2 : Nat) (h : Nat → Nat → Int) (e2 : TypeId) (opn2 : Bool) (sz2 : Nat) (ro2 : Bool) (ph : Int) (i30 : Nat) : Option OutCS := evK Tryz.prog cbK 1000 false cbX (cbA n c g e opn sz ro m c2 h e2 opn2 sz2 ro2 ph i30) (wS 6 (cbL n c g e opn sz ro m c2 h e2 opn2 sz2 ro2 ph i30)) ⟨[1, .row i30 0, .row i30 0, 0, 0, 0, 0, 0, 0, 0, 0, 0, 0, 0, 0, 0, 1, 1, 1, 1, 1, 1, 0, .azz (.int .i64 ((i30 + 1 : Nat) : Int))], True⟩
noncomputable def cbr1 (n : Nat) (c : Nat) (g : Nat → Nat → Int) (e : TypeId) (opn : Bool) (sz : Nat) (ro : Bool) (m : Nat) (c2 : Nat) (h : Nat → Nat → Int) (e2 : TypeId) (opn2 : Bool) (sz2 : Nat) (ro2 : Bool) (ph : Int) (i30 : Nat) : Option OutCS := evK Tryz.prog cbK 1000 false cbX (cbA n c g e opn sz ro m c2 h e2 opn2 sz2 ro2 ph i30) (wS 6 (cbL n c g e opn sz ro m c2 h e2 opn2 sz2 ro2 ph i30)) ⟨[1, .row i30 0, .row i30 0, 0, 0, 0, 0, 0, 0, 0, 0, 0, 0, 0, 0, 0, 1, 1, 1, 1, 1, 1, 1], True⟩
def cbr1E (n : Nat) (c : Nat) (g : Nat → Nat → Int) (e : TypeId) (opn : Bool) (sz : Nat) (ro : Bool) (m : Nat) (c2 : Nat) (h : Nat → Nat → Int) (e2 : TypeId) (opn2 : Bool) (sz2 : Nat) (ro2 : Bool) (ph : Int) (i30 : Nat) : MA := MA.ofL 67 [.chan none, .chan none, .chan none, .chan none, .chan none, .chan none, .int .i64 (19 : Int), .chan none, .chan none, .chan none, .chan none, .chan none, .chan none, .chan none, .chan none, .chan none, .chan none, .chan none, .chan none, .chan none, .chan none, .chan none, .chan none, .chan none, .chan none, .chan none, .chan none, .chan none, .chan none, .chan none, .chan none, .chan none, .chan none, .chan none, .chan none, .chan none, .chan none, .chan none, .chan none, .chan none, .chan none, .chan none, .chan none, .chan none, .chan none, .chan none, .chan none, .chan none, .chan none, .chan none, .chan none, .chan none, .chan none, .chan none, .chan none, .chan none, .chan none, .chan none, .chan none, .chan none, .chan none, .chan none, .chan none, .chan none, .chan none, .chan none, .chan none] []
noncomputable def cbr2 (n : Nat) (c : Nat) (g : Nat → Nat → Int) (e : TypeId) (opn : Bool) (sz : Nat) (ro : Bool) (m : Nat) (c2 : Nat) (h : Nat → Nat → Int) (e2 : TypeId) (opn2 : Bool) (sz2 : Nat) (ro2 : Bool) (ph : Int) (i30 : Nat) : Option OutCS := evK Tryz.prog cbK 1000 false cbX (cbA n c g e opn sz ro m c2 h e2 opn2 sz2 ro2 ph i30) (wS 6 (cbL n c g e opn sz ro m c2 h e2 opn2 sz2 ro2 ph i30)) ⟨[1, .row i30 0, .row i30 0, 1, 1, 1, 1, 1, 1, 1, .row i30 0, 1, .row i30 0, 1, .row (Int.toNat (g i30 0)) 0, 1, .row (Int.toNat (g i30 0)) 0, 1, 1, 1, 0, 0, 0, 0, 0, 0, 0, .azz (.int .i64 ((i30 + 1 : Nat) : Int))], True⟩
noncomputable def cbr3 (n : Nat) (c : Nat) (g : Nat → Nat → Int) (e : TypeId) (opn : Bool) (sz : Nat) (ro : Bool) (m : Nat) (c2 : Nat) (h : Nat → Nat → Int) (e2 : TypeId) (opn2 : Bool) (sz2 : Nat) (ro2 : Bool) (ph : Int) (i30 : Nat) : Option OutCS := evK Tryz.prog cbK 1000 false cbX (cbA n c g e opn sz ro m c2 h e2 opn2 sz2 ro2 ph i30) (wS 6 (cbL n c g e opn sz ro m c2 h e2 opn2 sz2 ro2 ph i30)) ⟨[1, .row i30 0, .row i30 0, 1, 1, 1, 1, 1, 1, 1, .row i30 0, 1, .row i30 0, 1, .row (Int.toNat (g i30 0)) 0, 1, .row (Int.toNat (g i30 0)) 0, 1, 1, 1, 0, 0, 0, 1, 1, 1, 1], True⟩
def cbr3E (n : Nat) (c : Nat) (g : Nat → Nat → Int) (e : TypeId) (opn : Bool) (sz : Nat) (ro : Bool) (m : Nat) (c2 : Nat) (h : Nat → Nat → Int) (e2 : TypeId) (opn2 : Bool) (sz2 : Nat) (ro2 : Bool) (ph : Int) (i30 : Nat) : MA := MA.ofL 67 [.chan none, .chan none, .chan none, .chan none, .chan none, .chan none, .int .i64 (19 : Int), .chan none, .chan none, .chan none, .chan none, .chan none, .chan none, .chan none, .chan none, .chan none, .chan none, .chan none, .chan none, .chan none, .chan none, .chan none, .chan none, .chan none, .chan none, .chan none, .chan none, .chan none, .chan none, .chan none, .chan none, .chan none, .chan none, .chan none, .chan none, .chan none, .chan none, .chan none, .chan none, .chan none, .chan none, .chan none, .chan none, .chan none, .chan none, .chan none, .chan none, .chan none, .chan none, .chan none, .chan none, .chan none, .chan none, .chan none, .chan none, .chan none, .chan none, .chan none, .chan none, .chan none, .chan none, .chan none, .chan none, .chan none, .chan none, .chan none, .chan none] []
noncomputable def cbr4 (n : Nat) (c : Nat) (g : Nat → Nat → Int) (e : TypeId) (opn : Bool) (sz : Nat) (ro : Bool) (m : Nat) (c2 : Nat) (h : Nat → Nat → Int) (e2 : TypeId) (opn2 : Bool) (sz2 : Nat) (ro2 : Bool) (ph : Int) (i30 : Nat) : Option OutCS := evK Tryz.prog cbK 1000 false cbX (cbA n c g e opn sz ro m c2 h e2 opn2 sz2 ro2 ph i30) (wS 6 (cbL n c g e opn sz ro m c2 h e2 opn2 sz2 ro2 ph i30)) ⟨[1, .row i30 0, .row i30 0, 1, 1, 1, 0, 0, 0, 0, 0, 0, 0, 0, 0, 0, 0, 0, 0, 1, 1, 1, 1], True⟩
def cbr4E (n : Nat) (c : Nat) (g : Nat → Nat → Int) (e : TypeId) (opn : Bool) (sz : Nat) (ro : Bool) (m : Nat) (c2 : Nat) (h : Nat → Nat → Int) (e2 : TypeId) (opn2 : Bool) (sz2 : Nat) (ro2 : Bool) (ph : Int) (i30 : Nat) : MA := MA.ofL 67 [.chan none, .chan none, .chan none, .chan none, .chan none, .chan none, .int .i64 (19 : Int), .chan none, .chan none, .chan none, .chan none, .chan none, .chan none, .chan none, .chan none, .chan none, .chan none, .chan none, .chan none, .chan none, .chan none, .chan none, .chan none, .chan none, .chan none, .chan none, .chan none, .chan none, .chan none, .chan none, .chan none, .chan none, .chan none, .chan none, .chan none, .chan none, .chan none, .chan none, .chan none, .chan none, .chan none, .chan none, .chan none, .chan none, .chan none, .chan none, .chan none, .chan none, .chan none, .chan none, .chan none, .chan none, .chan none, .chan none, .chan none, .chan none, .chan none, .chan none, .chan none, .chan none, .chan none, .chan none, .chan none, .chan none, .chan none, .chan none, .chan none] []
noncomputable def cbr5 (n : Nat) (c : Nat) (g : Nat → Nat → Int) (e : TypeId) (opn : Bool) (sz : Nat) (ro : Bool) (m : Nat) (c2 : Nat) (h : Nat → Nat → Int) (e2 : TypeId) (opn2 : Bool) (sz2 : Nat) (ro2 : Bool) (ph : Int) (i30 : Nat) : Option OutCS := evK Tryz.prog cbK 1000 false cbX (cbA n c g e opn sz ro m c2 h e2 opn2 sz2 ro2 ph i30) (wS 6 (cbL n c g e opn sz ro m c2 h e2 opn2 sz2 ro2 ph i30)) ⟨[0], True⟩
def cbr5E (n : Nat) (c : Nat) (g : Nat → Nat → Int) (e : TypeId) (opn : Bool) (sz : Nat) (ro : Bool) (m : Nat) (c2 : Nat) (h : Nat → Nat → Int) (e2 : TypeId) (opn2 : Bool) (sz2 : Nat) (ro2 : Bool) (ph : Int) (i30 : Nat) : MA := MA.ofL 67 [.chan none, .chan none, .chan none, .chan none, .chan none, .chan none, .chan none, .chan none, .chan none, .chan none, .chan none, .chan none, .chan none, .chan none, .chan none, .chan none, .chan none, .chan none, .chan none, .chan none, .chan none, .chan none, .chan none, .chan none, .chan none, .chan none, .chan none, .chan none, .chan none, .chan none, .chan none, .chan none, .chan none, .chan none, .chan none, .chan none, .chan none, .chan none, .chan none, .chan none, .chan none, .chan none, .chan none, .chan none, .chan none, .chan none, .chan none, .chan none, .chan none, .chan none, .chan none, .chan none, .chan none, .chan none, .chan none, .chan none, .chan none, .chan none, .chan none, .chan none, .chan none, .chan none, .chan none, .chan none, .chan none, .chan none, .chan none] []
def cbArgs (n : Nat) (c : Nat) (g : Nat → Nat → Int) (e : TypeId) (opn : Bool) (sz : Nat) (ro : Bool) (m : Nat) (c2 : Nat) (h : Nat → Nat → Int) (e2 : TypeId) (opn2 : Bool) (sz2 : Nat) (ro2 : Bool) (ph : Int) : Array Value := #[.slice (some ⟨6, 0, none⟩) n c, .int .i64 ph, .slice (some ⟨7, 0, none⟩) m c2]
def cbS (n : Nat) (c : Nat) (g : Nat → Nat → Int) (e : TypeId) (opn : Bool) (sz : Nat) (ro : Bool) (m : Nat) (c2 : Nat) (h : Nat → Nat → Int) (e2 : TypeId) (opn2 : Bool) (sz2 : Nat) (ro2 : Bool) (ph : Int) : List MObj := [.rows n 1 (fun i j => .int .i64 (g i j)) e opn sz ro, .rows m 1 (fun i j => .int .i64 (h i j)) e2 opn2 sz2 ro2]
noncomputable def cbf0 (n : Nat) (c : Nat) (g : Nat → Nat → Int) (e : TypeId) (opn : Bool) (sz : Nat) (ro : Bool) (m : Nat) (c2 : Nat) (h : Nat → Nat → Int) (e2 : TypeId) (opn2 : Bool) (sz2 : Nat) (ro2 : Bool) (ph : Int) (jj : Nat) : Option OutCS := evK Tryz.prog cbK 1000 false (bodyOf Tryz.prog 56) (startM Tryz.f56 (cbArgs n c g e opn sz ro m c2 h e2 opn2 sz2 ro2 ph)) (wS 6 (cbS n c g e opn sz ro m c2 h e2 opn2 sz2 ro2 ph)) ⟨[1, 0, 0, 1, 1, 0, 0, 0, 0, .lp 1879048199 (cbA n c g e opn sz ro m c2 h e2 opn2 sz2 ro2 ph 0) 6 (cbL n c g e opn sz ro m c2 h e2 opn2 sz2 ro2 ph 0) .ret (cbr1E n c g e opn sz ro m c2 h e2 opn2 sz2 ro2 ph jj) [.rows n 1 (fun i j => .int .i64 (g i j)) e opn sz ro, .rows m 1 (fun i j => .int .i64 (h i j)) e2 opn2 sz2 ro2, .cells [.int .i64 (crV n g), .int .i64 (ixE ph ((n : Nat) : Int))] 26 false 0 false] 9 0], True⟩
noncomputable def cbf1 (n : Nat) (c : Nat) (g : Nat → Nat → Int) (e : TypeId) (opn : Bool) (sz : Nat) (ro : Bool) (m : Nat) (c2 : Nat) (h : Nat → Nat → Int) (e2 : TypeId) (opn2 : Bool) (sz2 : Nat) (ro2 : Bool) (ph : Int) : Option OutCS := evK Tryz.prog cbK 1000 false (bodyOf Tryz.prog 56) (startM Tryz.f56 (cbArgs n c g e opn sz ro m c2 h e2 opn2 sz2 ro2 ph)) (wS 6 (cbS n c g e opn sz ro m c2 h e2 opn2 sz2 ro2 ph)) ⟨[1, 0, 0, 1, 1, 0, 0, 0, 0, .lp 1879048199 (cbA n c g e opn sz ro m c2 h e2 opn2 sz2 ro2 ph 0) 6 (cbL n c g e opn sz ro m c2 h e2 opn2 sz2 ro2 ph 0) (.exit 0) (cbr5E n c g e opn sz ro m c2 h e2 opn2 sz2 ro2 ph n) [.rows n 1 (fun i j => .int .i64 (g i j)) e opn sz ro, .rows m 1 (fun i j => .int .i64 (h i j)) e2 opn2 sz2 ro2, .cells [.int .i64 (crV n g), .int .i64 (ixE ph ((n : Nat) : Int))] 26 false 0 false] 9 0], True⟩
noncomputable def cbf2 (n : Nat) (c : Nat) (g : Nat → Nat → Int) (e : TypeId) (opn : Bool) (sz : Nat) (ro : Bool) (m : Nat) (c2 : Nat) (h : Nat → Nat → Int) (e2 : TypeId) (opn2 : Bool) (sz2 : Nat) (ro2 : Bool) (ph : Int) : Option OutCS := evK Tryz.prog cbK 1000 false (bodyOf Tryz.prog 56) (startM Tryz.f56 (cbArgs n c g e opn sz ro m c2 h e2 opn2 sz2 ro2 ph)) (wS 6 (cbS n c g e opn sz ro m c2 h e2 opn2 sz2 ro2 ph)) ⟨[1, 0, 0, 1, 1, 0, 0, 0, 1], True⟩
noncomputable def cbf3 (n : Nat) (c : Nat) (g : Nat → Nat → Int) (e : TypeId) (opn : Bool) (sz : Nat) (ro : Bool) (m : Nat) (c2 : Nat) (h : Nat → Nat → Int) (e2 : TypeId) (opn2 : Bool) (sz2 : Nat) (ro2 : Bool) (ph : Int) : Option OutCS := evK Tryz.prog cbK 1000 false (bodyOf Tryz.prog 56) (startM Tryz.f56 (cbArgs n c g e opn sz ro m c2 h e2 opn2 sz2 ro2 ph)) (wS 6 (cbS n c g e opn sz ro m c2 h e2 opn2 sz2 ro2 ph)) ⟨[1, 0, 0, 1, 1, 1, 1], True⟩
noncomputable def cbf4 (n : Nat) (c : Nat) (g : Nat → Nat → Int) (e : TypeId) (opn : Bool) (sz : Nat) (ro : Bool) (m : Nat) (c2 : Nat) (h : Nat → Nat → Int) (e2 : TypeId) (opn2 : Bool) (sz2 : Nat) (ro2 : Bool) (ph : Int) : Option OutCS := evK Tryz.prog cbK 1000 false (bodyOf Tryz.prog 56) (startM Tryz.f56 (cbArgs n c g e opn sz ro m c2 h e2 opn2 sz2 ro2 ph)) (wS 6 (cbS n c g e opn sz ro m c2 h e2 opn2 sz2 ro2 ph)) ⟨[1, 0, 1, 1], True⟩
theorem cbK_ok : FOkS Tryz.prog cbK := bothX_ok kCp_ok (bothX_ok kCr_ok (bothX_ok kRCr_ok (bothX_ok kFl_ok (bothX_ok kRl_ok (kAll_ok _ ⟨k_range, k_rrange, k_index, trivial⟩)))))
theorem cbr0_eq (n : Nat) (c : Nat) (g : Nat → Nat → Int) (e : TypeId) (opn : Bool) (sz : Nat) (ro : Bool) (m : Nat) (c2 : Nat) (h : Nat → Nat → Int) (e2 : TypeId) (opn2 : Bool) (sz2 : Nat) (ro2 : Bool) (ph : Int) (i30 : Nat) : seenK 6 3 [] 1879048199 0 (cbr0 n c g e opn sz ro m c2 h e2 opn2 sz2 ro2 ph i30) = some (.normal, cbA n c g e opn sz ro m c2 h e2 opn2 sz2 ro2 ph (i30 + 1), [.rows n 1 (fun i j => .int .i64 (g i j)) e opn sz ro, .rows m 1 (fun i j => .int .i64 (h i j)) e2 opn2 sz2 ro2, .cells [.int .i64 (crV n g), .int .i64 (ixE ph ((n : Nat) : Int))] 26 false 0 false], 0, ⟨[], ((((((((((((((((((((((((True ∧ ((decide ((((i30 : Nat)) : Int) < (((m : Nat)) : Int))) = true)) ∧ (((((i30 : Nat)) : Int) = (Int.ofNat i30)) ∧ (i30 < m))) ∧ (((0 + (i30 * 1)) = ((i30 * 1) + 0)) ∧ (i30 < m))) ∧ (((((i30 : Nat)) : Int) != ph) = false)) ∧ (((((i30 : Nat)) : Int) != ph) = false)) ∧ (((((i30 : Nat)) : Int) != ph) = false)) ∧ (false = false)) ∧ (false = false)) ∧ (false = false)) ∧ (false = false)) ∧ (false = false)) ∧ (false = false)) ∧ (false = false)) ∧ (false = false)) ∧ (false = false)) ∧ (false = false)) ∧ (((((i30 : Nat)) : Int) == ph) = true)) ∧ (((((i30 : Nat)) : Int) == ph) = true)) ∧ (((((i30 : Nat)) : Int) == ph) = true)) ∧ ((Bool.not false) = true)) ∧ ((Bool.not false) = true)) ∧ ((Bool.not false) = true)) ∧ ((Bool.not ((h i30 0) == (0 : Int))) = false)) ∧ (((.int .i64 (IntKind.i64.wrap ((((i30 : Nat)) : Int) + (1 : Int)))) : Value) = (.int .i64 ((((i30 + 1) : Nat)) : Int))))⟩) := by kernel_rfl
theorem cbr0_k (n : Nat) (c : Nat) (g : Nat → Nat → Int) (e : TypeId) (opn : Bool) (sz : Nat) (ro : Bool) (m : Nat) (c2 : Nat) (h : Nat → Nat → Int) (e2 : TypeId) (opn2 : Bool) (sz2 : Nat) (ro2 : Bool) (ph : Int) (i30 : Nat) (hgi : i30 < n → 0 ≤ g i30 0 ∧ g i30 0 < (n : Int)) (hmn : m = n) (hn : n ≤ 1048576) (h0 : ((i30 : Nat) : Int) < ((m : Nat) : Int)) (h1 : ((i30 : Nat) : Int) = ph) (h2 : (h i30 0) = (0 : Int)) : KC Tryz.prog none cbX (cbA n c g e opn sz ro m c2 h e2 opn2 sz2 ro2 ph i30).act (wS 6 (cbL n c g e opn sz ro m c2 h e2 opn2 sz2 ro2 ph i30)) .normal (cbA n c g e opn sz ro m c2 h e2 opn2 sz2 ro2 ph (i30 + 1)).act (wS 6 (cbL n c g e opn sz ro m c2 h e2 opn2 sz2 ro2 ph (i30 + 1))) 9 0 := by
  refine seenK_ok smx cbK_ok sng (cbr0_eq n c g e opn sz ro m c2 h e2 opn2 sz2 ro2 ph i30) ?_
  · skip
    repeat' (first | (with_reducible assumption) | exact (fun _ _ _ _ => rfl) | apply And.intro)
    all_goals first | trivial | rfl | assumption | exact decide_eq_true (by omega) | exact decide_eq_false (by omega) | exact bne_iff_ne.2 (by assumption) | exact bne_eq_false_iff_eq.2 (by assumption) | exact beq_iff_eq.2 (by assumption) | exact beq_eq_false_iff_ne.2 (by assumption) | exact wnextW (by omega) | exact wsub1 (by omega) (by omega) | exact toNatO (by omega) | exact congrArg Bool.not (by assumption) | exact congrArg Bool.not (decide_eq_true (by omega)) | exact congrArg Bool.not (decide_eq_false (by omega)) | exact congrArg Bool.not (beq_iff_eq.2 (by assumption)) | exact congrArg Bool.not (beq_eq_false_iff_ne.2 (by assumption)) | exact beq_eq_false_iff_ne.2 (by omega) | exact beq_iff_eq.2 (by omega) | exact bne_iff_ne.2 (by omega) | exact bne_eq_false_iff_eq.2 (by omega) | omega
theorem cbr1_eq (n : Nat) (c : Nat) (g : Nat → Nat → Int) (e : TypeId) (opn : Bool) (sz : Nat) (ro : Bool) (m : Nat) (c2 : Nat) (h : Nat → Nat → Int) (e2 : TypeId) (opn2 : Bool) (sz2 : Nat) (ro2 : Bool) (ph : Int) (i30 : Nat) : seenK 6 3 [] 64 0 (cbr1 n c g e opn sz ro m c2 h e2 opn2 sz2 ro2 ph i30) = some (.ret, cbr1E n c g e opn sz ro m c2 h e2 opn2 sz2 ro2 ph i30, [.rows n 1 (fun i j => .int .i64 (g i j)) e opn sz ro, .rows m 1 (fun i j => .int .i64 (h i j)) e2 opn2 sz2 ro2, .cells [.int .i64 (crV n g), .int .i64 (ixE ph ((n : Nat) : Int))] 26 false 0 false], 0, ⟨[], (((((((((((((((((((((((True ∧ ((decide ((((i30 : Nat)) : Int) < (((m : Nat)) : Int))) = true)) ∧ (((((i30 : Nat)) : Int) = (Int.ofNat i30)) ∧ (i30 < m))) ∧ (((0 + (i30 * 1)) = ((i30 * 1) + 0)) ∧ (i30 < m))) ∧ (((((i30 : Nat)) : Int) != ph) = false)) ∧ (((((i30 : Nat)) : Int) != ph) = false)) ∧ (((((i30 : Nat)) : Int) != ph) = false)) ∧ (false = false)) ∧ (false = false)) ∧ (false = false)) ∧ (false = false)) ∧ (false = false)) ∧ (false = false)) ∧ (false = false)) ∧ (false = false)) ∧ (false = false)) ∧ (false = false)) ∧ (((((i30 : Nat)) : Int) == ph) = true)) ∧ (((((i30 : Nat)) : Int) == ph) = true)) ∧ (((((i30 : Nat)) : Int) == ph) = true)) ∧ ((Bool.not false) = true)) ∧ ((Bool.not false) = true)) ∧ ((Bool.not false) = true)) ∧ ((Bool.not ((h i30 0) == (0 : Int))) = true))⟩) := by kernel_rfl
theorem cbr1_k (n : Nat) (c : Nat) (g : Nat → Nat → Int) (e : TypeId) (opn : Bool) (sz : Nat) (ro : Bool) (m : Nat) (c2 : Nat) (h : Nat → Nat → Int) (e2 : TypeId) (opn2 : Bool) (sz2 : Nat) (ro2 : Bool) (ph : Int) (i30 : Nat) (hgi : i30 < n → 0 ≤ g i30 0 ∧ g i30 0 < (n : Int)) (hmn : m = n) (hn : n ≤ 1048576) (h0 : ((i30 : Nat) : Int) < ((m : Nat) : Int)) (h1 : ((i30 : Nat) : Int) = ph) (h2 : (h i30 0) ≠ (0 : Int)) : KC Tryz.prog none cbX (cbA n c g e opn sz ro m c2 h e2 opn2 sz2 ro2 ph i30).act (wS 6 (cbL n c g e opn sz ro m c2 h e2 opn2 sz2 ro2 ph i30)) .ret (cbr1E n c g e opn sz ro m c2 h e2 opn2 sz2 ro2 ph i30).act (wS 6 [.rows n 1 (fun i j => .int .i64 (g i j)) e opn sz ro, .rows m 1 (fun i j => .int .i64 (h i j)) e2 opn2 sz2 ro2, .cells [.int .i64 (crV n g), .int .i64 (ixE ph ((n : Nat) : Int))] 26 false 0 false]) 9 0 := by
  refine seenK_ok smx cbK_ok sng (cbr1_eq n c g e opn sz ro m c2 h e2 opn2 sz2 ro2 ph i30) ?_
  · skip
    repeat' (first | (with_reducible assumption) | exact (fun _ _ _ _ => rfl) | apply And.intro)
    all_goals first | trivial | rfl | assumption | exact decide_eq_true (by omega) | exact decide_eq_false (by omega) | exact bne_iff_ne.2 (by assumption) | exact bne_eq_false_iff_eq.2 (by assumption) | exact beq_iff_eq.2 (by assumption) | exact beq_eq_false_iff_ne.2 (by assumption) | exact wnextW (by omega) | exact wsub1 (by omega) (by omega) | exact toNatO (by omega) | exact congrArg Bool.not (by assumption) | exact congrArg Bool.not (decide_eq_true (by omega)) | exact congrArg Bool.not (decide_eq_false (by omega)) | exact congrArg Bool.not (beq_iff_eq.2 (by assumption)) | exact congrArg Bool.not (beq_eq_false_iff_ne.2 (by assumption)) | exact beq_eq_false_iff_ne.2 (by omega) | exact beq_iff_eq.2 (by omega) | exact bne_iff_ne.2 (by omega) | exact bne_eq_false_iff_eq.2 (by omega) | omega
theorem cbr2_eq (n : Nat) (c : Nat) (g : Nat → Nat → Int) (e : TypeId) (opn : Bool) (sz : Nat) (ro : Bool) (m : Nat) (c2 : Nat) (h : Nat → Nat → Int) (e2 : TypeId) (opn2 : Bool) (sz2 : Nat) (ro2 : Bool) (ph : Int) (i30 : Nat) : seenK 6 3 [] 1879048199 0 (cbr2 n c g e opn sz ro m c2 h e2 opn2 sz2 ro2 ph i30) = some (.normal, cbA n c g e opn sz ro m c2 h e2 opn2 sz2 ro2 ph (i30 + 1), [.rows n 1 (fun i j => .int .i64 (g i j)) e opn sz ro, .rows m 1 (fun i j => .int .i64 (h i j)) e2 opn2 sz2 ro2, .cells [.int .i64 (crV n g), .int .i64 (ixE ph ((n : Nat) : Int))] 26 false 0 false], 0, ⟨[], ((((((((((((((((((((((((((((True ∧ ((decide ((((i30 : Nat)) : Int) < (((m : Nat)) : Int))) = true)) ∧ (((((i30 : Nat)) : Int) = (Int.ofNat i30)) ∧ (i30 < m))) ∧ (((0 + (i30 * 1)) = ((i30 * 1) + 0)) ∧ (i30 < m))) ∧ (((((i30 : Nat)) : Int) != ph) = true)) ∧ (((((i30 : Nat)) : Int) != ph) = true)) ∧ (((((i30 : Nat)) : Int) != ph) = true)) ∧ ((decide ((h i30 0) > (0 : Int))) = true)) ∧ ((decide ((h i30 0) > (0 : Int))) = true)) ∧ ((decide ((h i30 0) > (0 : Int))) = true)) ∧ ((decide ((h i30 0) > (0 : Int))) = true)) ∧ (((((i30 : Nat)) : Int) = (Int.ofNat i30)) ∧ (i30 < n))) ∧ ((decide ((h i30 0) > (0 : Int))) = true)) ∧ (((0 + (i30 * 1)) = ((i30 * 1) + 0)) ∧ (i30 < n))) ∧ ((decide ((h i30 0) > (0 : Int))) = true)) ∧ (((g i30 0) = (Int.ofNat (Int.toNat (g i30 0)))) ∧ ((Int.toNat (g i30 0)) < m))) ∧ ((decide ((h i30 0) > (0 : Int))) = true)) ∧ (((0 + ((Int.toNat (g i30 0)) * 1)) = (((Int.toNat (g i30 0)) * 1) + 0)) ∧ ((Int.toNat (g i30 0)) < m))) ∧ ((decide ((h i30 0) > (0 : Int))) = true)) ∧ ((decide ((h i30 0) > (0 : Int))) = true)) ∧ ((decide ((h i30 0) > (0 : Int))) = true)) ∧ (((((i30 : Nat)) : Int) == ph) = false)) ∧ (((((i30 : Nat)) : Int) == ph) = false)) ∧ (((((i30 : Nat)) : Int) == ph) = false)) ∧ ((Bool.not (decide ((h (Int.toNat (g i30 0)) 0) < (h i30 0)))) = false)) ∧ ((Bool.not (decide ((h (Int.toNat (g i30 0)) 0) < (h i30 0)))) = false)) ∧ ((Bool.not (decide ((h (Int.toNat (g i30 0)) 0) < (h i30 0)))) = false)) ∧ (false = false)) ∧ (((.int .i64 (IntKind.i64.wrap ((((i30 : Nat)) : Int) + (1 : Int)))) : Value) = (.int .i64 ((((i30 + 1) : Nat)) : Int))))⟩) := by kernel_rfl
theorem cbr2_k (n : Nat) (c : Nat) (g : Nat → Nat → Int) (e : TypeId) (opn : Bool) (sz : Nat) (ro : Bool) (m : Nat) (c2 : Nat) (h : Nat → Nat → Int) (e2 : TypeId) (opn2 : Bool) (sz2 : Nat) (ro2 : Bool) (ph : Int) (i30 : Nat) (hgi : i30 < n → 0 ≤ g i30 0 ∧ g i30 0 < (n : Int)) (hmn : m = n) (hn : n ≤ 1048576) (h0 : ((i30 : Nat) : Int) < ((m : Nat) : Int)) (h1 : ((i30 : Nat) : Int) ≠ ph) (h2 : (0 : Int) < (h i30 0)) (h3 : (h (Int.toNat (g i30 0)) 0) < (h i30 0)) : KC Tryz.prog none cbX (cbA n c g e opn sz ro m c2 h e2 opn2 sz2 ro2 ph i30).act (wS 6 (cbL n c g e opn sz ro m c2 h e2 opn2 sz2 ro2 ph i30)) .normal (cbA n c g e opn sz ro m c2 h e2 opn2 sz2 ro2 ph (i30 + 1)).act (wS 6 (cbL n c g e opn sz ro m c2 h e2 opn2 sz2 ro2 ph (i30 + 1))) 9 0 := by
  refine seenK_ok smx cbK_ok sng (cbr2_eq n c g e opn sz ro m c2 h e2 opn2 sz2 ro2 ph i30) ?_
  · skip
    repeat' (first | (with_reducible assumption) | exact (fun _ _ _ _ => rfl) | apply And.intro)
    all_goals first | trivial | rfl | assumption | exact decide_eq_true (by omega) | exact decide_eq_false (by omega) | exact bne_iff_ne.2 (by assumption) | exact bne_eq_false_iff_eq.2 (by assumption) | exact beq_iff_eq.2 (by assumption) | exact beq_eq_false_iff_ne.2 (by assumption) | exact wnextW (by omega) | exact wsub1 (by omega) (by omega) | exact toNatO (by omega) | exact congrArg Bool.not (by assumption) | exact congrArg Bool.not (decide_eq_true (by omega)) | exact congrArg Bool.not (decide_eq_false (by omega)) | exact congrArg Bool.not (beq_iff_eq.2 (by assumption)) | exact congrArg Bool.not (beq_eq_false_iff_ne.2 (by assumption)) | exact beq_eq_false_iff_ne.2 (by omega) | exact beq_iff_eq.2 (by omega) | exact bne_iff_ne.2 (by omega) | exact bne_eq_false_iff_eq.2 (by omega) | omega
theorem cbr3_eq (n : Nat) (c : Nat) (g : Nat → Nat → Int) (e : TypeId) (opn : Bool) (sz : Nat) (ro : Bool) (m : Nat) (c2 : Nat) (h : Nat → Nat → Int) (e2 : TypeId) (opn2 : Bool) (sz2 : Nat) (ro2 : Bool) (ph : Int) (i30 : Nat) : seenK 6 3 [] 64 0 (cbr3 n c g e opn sz ro m c2 h e2 opn2 sz2 ro2 ph i30) = some (.ret, cbr3E n c g e opn sz ro m c2 h e2 opn2 sz2 ro2 ph i30, [.rows n 1 (fun i j => .int .i64 (g i j)) e opn sz ro, .rows m 1 (fun i j => .int .i64 (h i j)) e2 opn2 sz2 ro2, .cells [.int .i64 (crV n g), .int .i64 (ixE ph ((n : Nat) : Int))] 26 false 0 false], 0, ⟨[], (((((((((((((((((((((((((((True ∧ ((decide ((((i30 : Nat)) : Int) < (((m : Nat)) : Int))) = true)) ∧ (((((i30 : Nat)) : Int) = (Int.ofNat i30)) ∧ (i30 < m))) ∧ (((0 + (i30 * 1)) = ((i30 * 1) + 0)) ∧ (i30 < m))) ∧ (((((i30 : Nat)) : Int) != ph) = true)) ∧ (((((i30 : Nat)) : Int) != ph) = true)) ∧ (((((i30 : Nat)) : Int) != ph) = true)) ∧ ((decide ((h i30 0) > (0 : Int))) = true)) ∧ ((decide ((h i30 0) > (0 : Int))) = true)) ∧ ((decide ((h i30 0) > (0 : Int))) = true)) ∧ ((decide ((h i30 0) > (0 : Int))) = true)) ∧ (((((i30 : Nat)) : Int) = (Int.ofNat i30)) ∧ (i30 < n))) ∧ ((decide ((h i30 0) > (0 : Int))) = true)) ∧ (((0 + (i30 * 1)) = ((i30 * 1) + 0)) ∧ (i30 < n))) ∧ ((decide ((h i30 0) > (0 : Int))) = true)) ∧ (((g i30 0) = (Int.ofNat (Int.toNat (g i30 0)))) ∧ ((Int.toNat (g i30 0)) < m))) ∧ ((decide ((h i30 0) > (0 : Int))) = true)) ∧ (((0 + ((Int.toNat (g i30 0)) * 1)) = (((Int.toNat (g i30 0)) * 1) + 0)) ∧ ((Int.toNat (g i30 0)) < m))) ∧ ((decide ((h i30 0) > (0 : Int))) = true)) ∧ ((decide ((h i30 0) > (0 : Int))) = true)) ∧ ((decide ((h i30 0) > (0 : Int))) = true)) ∧ (((((i30 : Nat)) : Int) == ph) = false)) ∧ (((((i30 : Nat)) : Int) == ph) = false)) ∧ (((((i30 : Nat)) : Int) == ph) = false)) ∧ ((Bool.not (decide ((h (Int.toNat (g i30 0)) 0) < (h i30 0)))) = true)) ∧ ((Bool.not (decide ((h (Int.toNat (g i30 0)) 0) < (h i30 0)))) = true)) ∧ ((Bool.not (decide ((h (Int.toNat (g i30 0)) 0) < (h i30 0)))) = true)) ∧ ((Bool.not false) = true))⟩) := by kernel_rfl
theorem cbr3_k (n : Nat) (c : Nat) (g : Nat → Nat → Int) (e : TypeId) (opn : Bool) (sz : Nat) (ro : Bool) (m : Nat) (c2 : Nat) (h : Nat → Nat → Int) (e2 : TypeId) (opn2 : Bool) (sz2 : Nat) (ro2 : Bool) (ph : Int) (i30 : Nat) (hgi : i30 < n → 0 ≤ g i30 0 ∧ g i30 0 < (n : Int)) (hmn : m = n) (hn : n ≤ 1048576) (h0 : ((i30 : Nat) : Int) < ((m : Nat) : Int)) (h1 : ((i30 : Nat) : Int) ≠ ph) (h2 : (0 : Int) < (h i30 0)) (h3 : ¬ (h (Int.toNat (g i30 0)) 0) < (h i30 0)) : KC Tryz.prog none cbX (cbA n c g e opn sz ro m c2 h e2 opn2 sz2 ro2 ph i30).act (wS 6 (cbL n c g e opn sz ro m c2 h e2 opn2 sz2 ro2 ph i30)) .ret (cbr3E n c g e opn sz ro m c2 h e2 opn2 sz2 ro2 ph i30).act (wS 6 [.rows n 1 (fun i j => .int .i64 (g i j)) e opn sz ro, .rows m 1 (fun i j => .int .i64 (h i j)) e2 opn2 sz2 ro2, .cells [.int .i64 (crV n g), .int .i64 (ixE ph ((n : Nat) : Int))] 26 false 0 false]) 9 0 := by
  refine seenK_ok smx cbK_ok sng (cbr3_eq n c g e opn sz ro m c2 h e2 opn2 sz2 ro2 ph i30) ?_
  · skip
    repeat' (first | (with_reducible assumption) | exact (fun _ _ _ _ => rfl) | apply And.intro)
    all_goals first | trivial | rfl | assumption | exact decide_eq_true (by omega) | exact decide_eq_false (by omega) | exact bne_iff_ne.2 (by assumption) | exact bne_eq_false_iff_eq.2 (by assumption) | exact beq_iff_eq.2 (by assumption) | exact beq_eq_false_iff_ne.2 (by assumption) | exact wnextW (by omega) | exact wsub1 (by omega) (by omega) | exact toNatO (by omega) | exact congrArg Bool.not (by assumption) | exact congrArg Bool.not (decide_eq_true (by omega)) | exact congrArg Bool.not (decide_eq_false (by omega)) | exact congrArg Bool.not (beq_iff_eq.2 (by assumption)) | exact congrArg Bool.not (beq_eq_false_iff_ne.2 (by assumption)) | exact beq_eq_false_iff_ne.2 (by omega) | exact beq_iff_eq.2 (by omega) | exact bne_iff_ne.2 (by omega) | exact bne_eq_false_iff_eq.2 (by omega) | omega
theorem cbr4_eq (n : Nat) (c : Nat) (g : Nat → Nat → Int) (e : TypeId) (opn : Bool) (sz : Nat) (ro : Bool) (m : Nat) (c2 : Nat) (h : Nat → Nat → Int) (e2 : TypeId) (opn2 : Bool) (sz2 : Nat) (ro2 : Bool) (ph : Int) (i30 : Nat) : seenK 6 3 [] 64 0 (cbr4 n c g e opn sz ro m c2 h e2 opn2 sz2 ro2 ph i30) = some (.ret, cbr4E n c g e opn sz ro m c2 h e2 opn2 sz2 ro2 ph i30, [.rows n 1 (fun i j => .int .i64 (g i j)) e opn sz ro, .rows m 1 (fun i j => .int .i64 (h i j)) e2 opn2 sz2 ro2, .cells [.int .i64 (crV n g), .int .i64 (ixE ph ((n : Nat) : Int))] 26 false 0 false], 0, ⟨[], (((((((((((((((((((((((True ∧ ((decide ((((i30 : Nat)) : Int) < (((m : Nat)) : Int))) = true)) ∧ (((((i30 : Nat)) : Int) = (Int.ofNat i30)) ∧ (i30 < m))) ∧ (((0 + (i30 * 1)) = ((i30 * 1) + 0)) ∧ (i30 < m))) ∧ (((((i30 : Nat)) : Int) != ph) = true)) ∧ (((((i30 : Nat)) : Int) != ph) = true)) ∧ (((((i30 : Nat)) : Int) != ph) = true)) ∧ ((decide ((h i30 0) > (0 : Int))) = false)) ∧ ((decide ((h i30 0) > (0 : Int))) = false)) ∧ ((decide ((h i30 0) > (0 : Int))) = false)) ∧ ((decide ((h i30 0) > (0 : Int))) = false)) ∧ ((decide ((h i30 0) > (0 : Int))) = false)) ∧ ((decide ((h i30 0) > (0 : Int))) = false)) ∧ ((decide ((h i30 0) > (0 : Int))) = false)) ∧ ((decide ((h i30 0) > (0 : Int))) = false)) ∧ ((decide ((h i30 0) > (0 : Int))) = false)) ∧ ((decide ((h i30 0) > (0 : Int))) = false)) ∧ (((((i30 : Nat)) : Int) == ph) = false)) ∧ (((((i30 : Nat)) : Int) == ph) = false)) ∧ (((((i30 : Nat)) : Int) == ph) = false)) ∧ ((Bool.not false) = true)) ∧ ((Bool.not false) = true)) ∧ ((Bool.not false) = true)) ∧ ((Bool.not false) = true))⟩) := by kernel_rfl
theorem cbr4_k (n : Nat) (c : Nat) (g : Nat → Nat → Int) (e : TypeId) (opn : Bool) (sz : Nat) (ro : Bool) (m : Nat) (c2 : Nat) (h : Nat → Nat → Int) (e2 : TypeId) (opn2 : Bool) (sz2 : Nat) (ro2 : Bool) (ph : Int) (i30 : Nat) (hgi : i30 < n → 0 ≤ g i30 0 ∧ g i30 0 < (n : Int)) (hmn : m = n) (hn : n ≤ 1048576) (h0 : ((i30 : Nat) : Int) < ((m : Nat) : Int)) (h1 : ((i30 : Nat) : Int) ≠ ph) (h2 : ¬ (0 : Int) < (h i30 0)) : KC Tryz.prog none cbX (cbA n c g e opn sz ro m c2 h e2 opn2 sz2 ro2 ph i30).act (wS 6 (cbL n c g e opn sz ro m c2 h e2 opn2 sz2 ro2 ph i30)) .ret (cbr4E n c g e opn sz ro m c2 h e2 opn2 sz2 ro2 ph i30).act (wS 6 [.rows n 1 (fun i j => .int .i64 (g i j)) e opn sz ro, .rows m 1 (fun i j => .int .i64 (h i j)) e2 opn2 sz2 ro2, .cells [.int .i64 (crV n g), .int .i64 (ixE ph ((n : Nat) : Int))] 26 false 0 false]) 9 0 := by
  refine seenK_ok smx cbK_ok sng (cbr4_eq n c g e opn sz ro m c2 h e2 opn2 sz2 ro2 ph i30) ?_
  · skip
    repeat' (first | (with_reducible assumption) | exact (fun _ _ _ _ => rfl) | apply And.intro)
    all_goals first | trivial | rfl | assumption | exact decide_eq_true (by omega) | exact decide_eq_false (by omega) | exact bne_iff_ne.2 (by assumption) | exact bne_eq_false_iff_eq.2 (by assumption) | exact beq_iff_eq.2 (by assumption) | exact beq_eq_false_iff_ne.2 (by assumption) | exact wnextW (by omega) | exact wsub1 (by omega) (by omega) | exact toNatO (by omega) | exact congrArg Bool.not (by assumption) | exact congrArg Bool.not (decide_eq_true (by omega)) | exact congrArg Bool.not (decide_eq_false (by omega)) | exact congrArg Bool.not (beq_iff_eq.2 (by assumption)) | exact congrArg Bool.not (beq_eq_false_iff_ne.2 (by assumption)) | exact beq_eq_false_iff_ne.2 (by omega) | exact beq_iff_eq.2 (by omega) | exact bne_iff_ne.2 (by omega) | exact bne_eq_false_iff_eq.2 (by omega) | omega
theorem cbr5_eq (n : Nat) (c : Nat) (g : Nat → Nat → Int) (e : TypeId) (opn : Bool) (sz : Nat) (ro : Bool) (m : Nat) (c2 : Nat) (h : Nat → Nat → Int) (e2 : TypeId) (opn2 : Bool) (sz2 : Nat) (ro2 : Bool) (ph : Int) (i30 : Nat) : seenK 6 3 [] 0 0 (cbr5 n c g e opn sz ro m c2 h e2 opn2 sz2 ro2 ph i30) = some ((.exit 0), cbr5E n c g e opn sz ro m c2 h e2 opn2 sz2 ro2 ph i30, [.rows n 1 (fun i j => .int .i64 (g i j)) e opn sz ro, .rows m 1 (fun i j => .int .i64 (h i j)) e2 opn2 sz2 ro2, .cells [.int .i64 (crV n g), .int .i64 (ixE ph ((n : Nat) : Int))] 26 false 0 false], 0, ⟨[], (True ∧ ((decide ((((i30 : Nat)) : Int) < (((m : Nat)) : Int))) = false))⟩) := by kernel_rfl
theorem cbr5_k (n : Nat) (c : Nat) (g : Nat → Nat → Int) (e : TypeId) (opn : Bool) (sz : Nat) (ro : Bool) (m : Nat) (c2 : Nat) (h : Nat → Nat → Int) (e2 : TypeId) (opn2 : Bool) (sz2 : Nat) (ro2 : Bool) (ph : Int) (i30 : Nat) (hgi : i30 < n → 0 ≤ g i30 0 ∧ g i30 0 < (n : Int)) (hmn : m = n) (hn : n ≤ 1048576) (h0 : ¬ ((i30 : Nat) : Int) < ((m : Nat) : Int)) : KC Tryz.prog none cbX (cbA n c g e opn sz ro m c2 h e2 opn2 sz2 ro2 ph i30).act (wS 6 (cbL n c g e opn sz ro m c2 h e2 opn2 sz2 ro2 ph i30)) (.exit 0) (cbr5E n c g e opn sz ro m c2 h e2 opn2 sz2 ro2 ph i30).act (wS 6 [.rows n 1 (fun i j => .int .i64 (g i j)) e opn sz ro, .rows m 1 (fun i j => .int .i64 (h i j)) e2 opn2 sz2 ro2, .cells [.int .i64 (crV n g), .int .i64 (ixE ph ((n : Nat) : Int))] 26 false 0 false]) 9 0 := by
  refine seenK_ok smx cbK_ok sng (cbr5_eq n c g e opn sz ro m c2 h e2 opn2 sz2 ro2 ph i30) ?_
  · skip
    repeat' (first | (with_reducible assumption) | exact (fun _ _ _ _ => rfl) | apply And.intro)
    all_goals first | trivial | rfl | assumption | exact decide_eq_true (by omega) | exact decide_eq_false (by omega) | exact bne_iff_ne.2 (by assumption) | exact bne_eq_false_iff_eq.2 (by assumption) | exact beq_iff_eq.2 (by assumption) | exact beq_eq_false_iff_ne.2 (by assumption) | exact wnextW (by omega) | exact wsub1 (by omega) (by omega) | exact toNatO (by omega) | exact congrArg Bool.not (by assumption) | exact congrArg Bool.not (decide_eq_true (by omega)) | exact congrArg Bool.not (decide_eq_false (by omega)) | exact congrArg Bool.not (beq_iff_eq.2 (by assumption)) | exact congrArg Bool.not (beq_eq_false_iff_ne.2 (by assumption)) | exact beq_eq_false_iff_ne.2 (by omega) | exact beq_iff_eq.2 (by omega) | exact bne_iff_ne.2 (by omega) | exact bne_eq_false_iff_eq.2 (by omega) | omega
theorem cb_go (n : Nat) (c : Nat) (g : Nat → Nat → Int) (e : TypeId) (opn : Bool) (sz : Nat) (ro : Bool) (m : Nat) (c2 : Nat) (h : Nat → Nat → Int) (e2 : TypeId) (opn2 : Bool) (sz2 : Nat) (ro2 : Bool) (ph : Int) (hg : ∀ i, i < n → 0 ≤ g i 0 ∧ g i 0 < (n : Int)) (hmn : m = n) (hn : n ≤ 1048576) {i : Nat} (hi : i < n) (hq : cbE g h ph i = 0) : KC Tryz.prog none cbX (cbA n c g e opn sz ro m c2 h e2 opn2 sz2 ro2 ph i).act (wS 6 (cbL n c g e opn sz ro m c2 h e2 opn2 sz2 ro2 ph i)) .normal (cbA n c g e opn sz ro m c2 h e2 opn2 sz2 ro2 ph (i + 1)).act (wS 6 (cbL n c g e opn sz ro m c2 h e2 opn2 sz2 ro2 ph (i + 1))) 9 0 := by
  rcases cbE_at hq with ⟨c1, d1⟩ | ⟨c1, d1, d2⟩
  · exact cbr0_k n c g e opn sz ro m c2 h e2 opn2 sz2 ro2 ph i (hg i) hmn hn (by omega) c1 d1
  · exact cbr2_k n c g e opn sz ro m c2 h e2 opn2 sz2 ro2 ph i (hg i) hmn hn (by omega) c1 d1 d2
theorem cb_bad (n : Nat) (c : Nat) (g : Nat → Nat → Int) (e : TypeId) (opn : Bool) (sz : Nat) (ro : Bool) (m : Nat) (c2 : Nat) (h : Nat → Nat → Int) (e2 : TypeId) (opn2 : Bool) (sz2 : Nat) (ro2 : Bool) (ph : Int) (hg : ∀ i, i < n → 0 ≤ g i 0 ∧ g i 0 < (n : Int)) (hmn : m = n) (hn : n ≤ 1048576) {i : Nat} (hi : i < n) (hq : cbE g h ph i ≠ 0) : KC Tryz.prog none cbX (cbA n c g e opn sz ro m c2 h e2 opn2 sz2 ro2 ph i).act (wS 6 (cbL n c g e opn sz ro m c2 h e2 opn2 sz2 ro2 ph i)) .ret (cbr1E n c g e opn sz ro m c2 h e2 opn2 sz2 ro2 ph i).act (wS 6 (cbL n c g e opn sz ro m c2 h e2 opn2 sz2 ro2 ph i)) 9 0 := by
  obtain ⟨_, hq⟩ := cbE_no hq
  rcases hq with ⟨c1, d1⟩ | ⟨c1, d1⟩
  · exact cbr1_k n c g e opn sz ro m c2 h e2 opn2 sz2 ro2 ph i (hg i) hmn hn (by omega) c1 d1
  · by_cases d2 : 0 < h i 0
    · exact cbr3_k n c g e opn sz ro m c2 h e2 opn2 sz2 ro2 ph i (hg i) hmn hn (by omega) c1 d2 (fun k => d1 ⟨d2, k⟩)
    · exact cbr4_k n c g e opn sz ro m c2 h e2 opn2 sz2 ro2 ph i (hg i) hmn hn (by omega) c1 d2
theorem cb_ret (n : Nat) (c : Nat) (g : Nat → Nat → Int) (e : TypeId) (opn : Bool) (sz : Nat) (ro : Bool) (m : Nat) (c2 : Nat) (h : Nat → Nat → Int) (e2 : TypeId) (opn2 : Bool) (sz2 : Nat) (ro2 : Bool) (ph : Int) (hg : ∀ i, i < n → 0 ≤ g i 0 ∧ g i 0 < (n : Int)) (hmn : m = n) (hn : n ≤ 1048576) (j : Nat) (hj : j < n) (h1 : ∀ i, i < j → cbE g h ph i = 0) (h2 : cbE g h ph j ≠ 0) : KC Tryz.prog none (.loop cbX) (cbA n c g e opn sz ro m c2 h e2 opn2 sz2 ro2 ph 0).act (wS 6 (cbL n c g e opn sz ro m c2 h e2 opn2 sz2 ro2 ph 0)) .ret (cbr1E n c g e opn sz ro m c2 h e2 opn2 sz2 ro2 ph j).act (wS 6 (cbL n c g e opn sz ro m c2 h e2 opn2 sz2 ro2 ph j)) 9 0 :=
  K_rounds (A := fun i => (cbA n c g e opn sz ro m c2 h e2 opn2 sz2 ro2 ph i).act) (S := fun i => wS 6 (cbL n c g e opn sz ro m c2 h e2 opn2 sz2 ro2 ph i)) j (fun i hi => cb_go n c g e opn sz ro m c2 h e2 opn2 sz2 ro2 ph hg hmn hn (by omega) (h1 i hi)) (cb_bad n c g e opn sz ro m c2 h e2 opn2 sz2 ro2 ph hg hmn hn hj h2) (by simp)
theorem cb_all (n : Nat) (c : Nat) (g : Nat → Nat → Int) (e : TypeId) (opn : Bool) (sz : Nat) (ro : Bool) (m : Nat) (c2 : Nat) (h : Nat → Nat → Int) (e2 : TypeId) (opn2 : Bool) (sz2 : Nat) (ro2 : Bool) (ph : Int) (hg : ∀ i, i < n → 0 ≤ g i 0 ∧ g i 0 < (n : Int)) (hmn : m = n) (hn : n ≤ 1048576) (h1 : ∀ i, i < n → cbE g h ph i = 0) : KC Tryz.prog none (.loop cbX) (cbA n c g e opn sz ro m c2 h e2 opn2 sz2 ro2 ph 0).act (wS 6 (cbL n c g e opn sz ro m c2 h e2 opn2 sz2 ro2 ph 0)) (.exit 0) (cbr5E n c g e opn sz ro m c2 h e2 opn2 sz2 ro2 ph n).act (wS 6 (cbL n c g e opn sz ro m c2 h e2 opn2 sz2 ro2 ph n)) 9 0 :=
  K_rounds (A := fun i => (cbA n c g e opn sz ro m c2 h e2 opn2 sz2 ro2 ph i).act) (S := fun i => wS 6 (cbL n c g e opn sz ro m c2 h e2 opn2 sz2 ro2 ph i)) n (fun i hi => cb_go n c g e opn sz ro m c2 h e2 opn2 sz2 ro2 ph hg hmn hn hi (h1 i hi)) (cbr5_k n c g e opn sz ro m c2 h e2 opn2 sz2 ro2 ph n (fun k => absurd k (Nat.lt_irrefl n)) hmn hn (by omega)) (by simp)
theorem cbf0_eq (n : Nat) (c : Nat) (g : Nat → Nat → Int) (e : TypeId) (opn : Bool) (sz : Nat) (ro : Bool) (m : Nat) (c2 : Nat) (h : Nat → Nat → Int) (e2 : TypeId) (opn2 : Bool) (sz2 : Nat) (ro2 : Bool) (ph : Int) (jj : Nat) : seenF' Tryz.prog Tryz.f56 6 2 [] (cbf0 n c g e opn sz ro m c2 h e2 opn2 sz2 ro2 ph jj) = some (.int .i64 (19 : Int), cbS n c g e opn sz ro m c2 h e2 opn2 sz2 ro2 ph ++ [], ⟨[], ((((((((((((True ∧ (((n = n) ∧ (∀ (i : Nat), ((i < n) → (∀ (j : Nat), ((j < (1 : Nat)) → ((Value.int .i64 (g i j)) = (Value.int .i64 (gI (Value.int .i64 (g i j)))))))))) ∧ ((((n : Nat)) : Int) ≤ (9223372036854775807 : Int)))) ∧ True) ∧ ((decide ((0 : Int) < (((2 : Nat)) : Int))) = true)) ∧ ((0 : Int) = (Int.ofNat 0))) ∧ (((crV n (fun (i : Nat) => (fun (j : Nat) => (gI (Value.int .i64 (g i j)))))) != (0 : Int)) = false)) ∧ ((decide ((IntKind.i64.wrap ((0 : Int) + (1 : Int))) < (((2 : Nat)) : Int))) = true)) ∧ ((IntKind.i64.wrap ((0 : Int) + (1 : Int))) = (Int.ofNat 1))) ∧ (((ixE ph (((n : Nat)) : Int)) != (0 : Int)) = false)) ∧ ((decide ((IntKind.i64.wrap ((IntKind.i64.wrap ((0 : Int) + (1 : Int))) + (1 : Int))) < (((2 : Nat)) : Int))) = false)) ∧ (((0 : Int) != (0 : Int)) = false)) ∧ (((((m : Nat)) : Int) != (((n : Nat)) : Int)) = false)) ∧ ((((cbA n c g e opn sz ro m c2 h e2 opn2 sz2 ro2 ph (0 : Nat)) = (cbA n c g e opn sz ro m c2 h e2 opn2 sz2 ro2 ph (0 : Nat))) ∧ ((9 = (6 + 3)) ∧ ((HAppend.hAppend (List.replicate (6 : Nat) MObj.hole) (cbL n c g e opn sz ro m c2 h e2 opn2 sz2 ro2 ph (0 : Nat))) = (HAppend.hAppend (List.replicate (6 : Nat) MObj.hole) (cbL n c g e opn sz ro m c2 h e2 opn2 sz2 ro2 ph (0 : Nat)))))) ∧ KC Tryz.prog none (.loop cbX) (cbA n c g e opn sz ro m c2 h e2 opn2 sz2 ro2 ph 0).act (wS 6 (cbL n c g e opn sz ro m c2 h e2 opn2 sz2 ro2 ph 0)) .ret (cbr1E n c g e opn sz ro m c2 h e2 opn2 sz2 ro2 ph jj).act (wS 6 [.rows n 1 (fun i j => .int .i64 (g i j)) e opn sz ro, .rows m 1 (fun i j => .int .i64 (h i j)) e2 opn2 sz2 ro2, .cells [.int .i64 (crV n g), .int .i64 (ixE ph ((n : Nat) : Int))] 26 false 0 false]) 9 0))⟩) := by kernel_rfl
theorem cbf0_s (n : Nat) (c : Nat) (g : Nat → Nat → Int) (e : TypeId) (opn : Bool) (sz : Nat) (ro : Bool) (m : Nat) (c2 : Nat) (h : Nat → Nat → Int) (e2 : TypeId) (opn2 : Bool) (sz2 : Nat) (ro2 : Bool) (ph : Int) (jj : Nat) (hx : (n : Int) ≤ 1048576) (h0 : (crV n g) = (0 : Int)) (h1 : (ixE ph ((n : Nat) : Int)) = (0 : Int)) (h2 : ((m : Nat) : Int) = ((n : Nat) : Int)) (l0 : KC Tryz.prog none (.loop cbX) (cbA n c g e opn sz ro m c2 h e2 opn2 sz2 ro2 ph 0).act (wS 6 (cbL n c g e opn sz ro m c2 h e2 opn2 sz2 ro2 ph 0)) .ret (cbr1E n c g e opn sz ro m c2 h e2 opn2 sz2 ro2 ph jj).act (wS 6 [.rows n 1 (fun i j => .int .i64 (g i j)) e opn sz ro, .rows m 1 (fun i j => .int .i64 (h i j)) e2 opn2 sz2 ro2, .cells [.int .i64 (crV n g), .int .i64 (ixE ph ((n : Nat) : Int))] 26 false 0 false]) 9 0) : SndF Tryz.prog 56 (cbArgs n c g e opn sz ro m c2 h e2 opn2 sz2 ro2 ph) (wS 6 (cbS n c g e opn sz ro m c2 h e2 opn2 sz2 ro2 ph)) (.int .i64 (19 : Int)) (wS 6 (cbS n c g e opn sz ro m c2 h e2 opn2 sz2 ro2 ph)) 192 0 :=
  sndF_K (L := cbS n c g e opn sz ro m c2 h e2 opn2 sz2 ro2 ph) (L2 := []) (ms := []) smx cbK_ok sng (by kernel_rfl) (by kernel_rfl) (cbf0_eq n c g e opn sz ro m c2 h e2 opn2 sz2 ro2 ph jj) (by
    repeat' (first | (with_reducible assumption) | exact (fun _ _ _ _ => rfl) | apply And.intro)
    all_goals first | trivial | rfl | assumption | exact decide_eq_true (by omega) | exact decide_eq_false (by omega) | exact bne_iff_ne.2 (by assumption) | exact bne_eq_false_iff_eq.2 (by assumption) | exact beq_iff_eq.2 (by assumption) | exact beq_eq_false_iff_ne.2 (by assumption) | exact wnextW (by omega) | exact wsub1 (by omega) (by omega) | exact toNatO (by omega) | exact congrArg Bool.not (by assumption) | exact congrArg Bool.not (decide_eq_true (by omega)) | exact congrArg Bool.not (decide_eq_false (by omega)) | exact congrArg Bool.not (beq_iff_eq.2 (by assumption)) | exact congrArg Bool.not (beq_eq_false_iff_ne.2 (by assumption)) | exact beq_eq_false_iff_ne.2 (by omega) | exact beq_iff_eq.2 (by omega) | exact bne_iff_ne.2 (by omega) | exact bne_eq_false_iff_eq.2 (by omega) | omega) (by kernel_rfl) (fun o ho => by
      simp only [cbS, List.mem_cons, List.not_mem_nil, or_false] at ho
      rcases ho with rfl | rfl
      all_goals first | rfl | exact fun i j => rfl) (fun o ho => by cases ho) (by kernel_rfl)
theorem cbf1_eq (n : Nat) (c : Nat) (g : Nat → Nat → Int) (e : TypeId) (opn : Bool) (sz : Nat) (ro : Bool) (m : Nat) (c2 : Nat) (h : Nat → Nat → Int) (e2 : TypeId) (opn2 : Bool) (sz2 : Nat) (ro2 : Bool) (ph : Int) : seenF' Tryz.prog Tryz.f56 6 2 [] (cbf1 n c g e opn sz ro m c2 h e2 opn2 sz2 ro2 ph) = some (.int .i64 (0 : Int), cbS n c g e opn sz ro m c2 h e2 opn2 sz2 ro2 ph ++ [], ⟨[], ((((((((((((True ∧ (((n = n) ∧ (∀ (i : Nat), ((i < n) → (∀ (j : Nat), ((j < (1 : Nat)) → ((Value.int .i64 (g i j)) = (Value.int .i64 (gI (Value.int .i64 (g i j)))))))))) ∧ ((((n : Nat)) : Int) ≤ (9223372036854775807 : Int)))) ∧ True) ∧ ((decide ((0 : Int) < (((2 : Nat)) : Int))) = true)) ∧ ((0 : Int) = (Int.ofNat 0))) ∧ (((crV n (fun (i : Nat) => (fun (j : Nat) => (gI (Value.int .i64 (g i j)))))) != (0 : Int)) = false)) ∧ ((decide ((IntKind.i64.wrap ((0 : Int) + (1 : Int))) < (((2 : Nat)) : Int))) = true)) ∧ ((IntKind.i64.wrap ((0 : Int) + (1 : Int))) = (Int.ofNat 1))) ∧ (((ixE ph (((n : Nat)) : Int)) != (0 : Int)) = false)) ∧ ((decide ((IntKind.i64.wrap ((IntKind.i64.wrap ((0 : Int) + (1 : Int))) + (1 : Int))) < (((2 : Nat)) : Int))) = false)) ∧ (((0 : Int) != (0 : Int)) = false)) ∧ (((((m : Nat)) : Int) != (((n : Nat)) : Int)) = false)) ∧ ((((cbA n c g e opn sz ro m c2 h e2 opn2 sz2 ro2 ph (0 : Nat)) = (cbA n c g e opn sz ro m c2 h e2 opn2 sz2 ro2 ph (0 : Nat))) ∧ ((9 = (6 + 3)) ∧ ((HAppend.hAppend (List.replicate (6 : Nat) MObj.hole) (cbL n c g e opn sz ro m c2 h e2 opn2 sz2 ro2 ph (0 : Nat))) = (HAppend.hAppend (List.replicate (6 : Nat) MObj.hole) (cbL n c g e opn sz ro m c2 h e2 opn2 sz2 ro2 ph (0 : Nat)))))) ∧ KC Tryz.prog none (.loop cbX) (cbA n c g e opn sz ro m c2 h e2 opn2 sz2 ro2 ph 0).act (wS 6 (cbL n c g e opn sz ro m c2 h e2 opn2 sz2 ro2 ph 0)) (.exit 0) (cbr5E n c g e opn sz ro m c2 h e2 opn2 sz2 ro2 ph n).act (wS 6 [.rows n 1 (fun i j => .int .i64 (g i j)) e opn sz ro, .rows m 1 (fun i j => .int .i64 (h i j)) e2 opn2 sz2 ro2, .cells [.int .i64 (crV n g), .int .i64 (ixE ph ((n : Nat) : Int))] 26 false 0 false]) 9 0))⟩) := by kernel_rfl
theorem cbf1_s (n : Nat) (c : Nat) (g : Nat → Nat → Int) (e : TypeId) (opn : Bool) (sz : Nat) (ro : Bool) (m : Nat) (c2 : Nat) (h : Nat → Nat → Int) (e2 : TypeId) (opn2 : Bool) (sz2 : Nat) (ro2 : Bool) (ph : Int) (hx : (n : Int) ≤ 1048576) (h0 : (crV n g) = (0 : Int)) (h1 : (ixE ph ((n : Nat) : Int)) = (0 : Int)) (h2 : ((m : Nat) : Int) = ((n : Nat) : Int)) (l0 : KC Tryz.prog none (.loop cbX) (cbA n c g e opn sz ro m c2 h e2 opn2 sz2 ro2 ph 0).act (wS 6 (cbL n c g e opn sz ro m c2 h e2 opn2 sz2 ro2 ph 0)) (.exit 0) (cbr5E n c g e opn sz ro m c2 h e2 opn2 sz2 ro2 ph n).act (wS 6 [.rows n 1 (fun i j => .int .i64 (g i j)) e opn sz ro, .rows m 1 (fun i j => .int .i64 (h i j)) e2 opn2 sz2 ro2, .cells [.int .i64 (crV n g), .int .i64 (ixE ph ((n : Nat) : Int))] 26 false 0 false]) 9 0) : SndF Tryz.prog 56 (cbArgs n c g e opn sz ro m c2 h e2 opn2 sz2 ro2 ph) (wS 6 (cbS n c g e opn sz ro m c2 h e2 opn2 sz2 ro2 ph)) (.int .i64 (0 : Int)) (wS 6 (cbS n c g e opn sz ro m c2 h e2 opn2 sz2 ro2 ph)) 192 0 :=
  sndF_K (L := cbS n c g e opn sz ro m c2 h e2 opn2 sz2 ro2 ph) (L2 := []) (ms := []) smx cbK_ok sng (by kernel_rfl) (by kernel_rfl) (cbf1_eq n c g e opn sz ro m c2 h e2 opn2 sz2 ro2 ph) (by
    repeat' (first | (with_reducible assumption) | exact (fun _ _ _ _ => rfl) | apply And.intro)
    all_goals first | trivial | rfl | assumption | exact decide_eq_true (by omega) | exact decide_eq_false (by omega) | exact bne_iff_ne.2 (by assumption) | exact bne_eq_false_iff_eq.2 (by assumption) | exact beq_iff_eq.2 (by assumption) | exact beq_eq_false_iff_ne.2 (by assumption) | exact wnextW (by omega) | exact wsub1 (by omega) (by omega) | exact toNatO (by omega) | exact congrArg Bool.not (by assumption) | exact congrArg Bool.not (decide_eq_true (by omega)) | exact congrArg Bool.not (decide_eq_false (by omega)) | exact congrArg Bool.not (beq_iff_eq.2 (by assumption)) | exact congrArg Bool.not (beq_eq_false_iff_ne.2 (by assumption)) | exact beq_eq_false_iff_ne.2 (by omega) | exact beq_iff_eq.2 (by omega) | exact bne_iff_ne.2 (by omega) | exact bne_eq_false_iff_eq.2 (by omega) | omega) (by kernel_rfl) (fun o ho => by
      simp only [cbS, List.mem_cons, List.not_mem_nil, or_false] at ho
      rcases ho with rfl | rfl
      all_goals first | rfl | exact fun i j => rfl) (fun o ho => by cases ho) (by kernel_rfl)
theorem cbf2_eq (n : Nat) (c : Nat) (g : Nat → Nat → Int) (e : TypeId) (opn : Bool) (sz : Nat) (ro : Bool) (m : Nat) (c2 : Nat) (h : Nat → Nat → Int) (e2 : TypeId) (opn2 : Bool) (sz2 : Nat) (ro2 : Bool) (ph : Int) : seenF' Tryz.prog Tryz.f56 6 2 [] (cbf2 n c g e opn sz ro m c2 h e2 opn2 sz2 ro2 ph) = some (.int .i64 (2 : Int), cbS n c g e opn sz ro m c2 h e2 opn2 sz2 ro2 ph ++ [], ⟨[], (((((((((((True ∧ (((n = n) ∧ (∀ (i : Nat), ((i < n) → (∀ (j : Nat), ((j < (1 : Nat)) → ((Value.int .i64 (g i j)) = (Value.int .i64 (gI (Value.int .i64 (g i j)))))))))) ∧ ((((n : Nat)) : Int) ≤ (9223372036854775807 : Int)))) ∧ True) ∧ ((decide ((0 : Int) < (((2 : Nat)) : Int))) = true)) ∧ ((0 : Int) = (Int.ofNat 0))) ∧ (((crV n (fun (i : Nat) => (fun (j : Nat) => (gI (Value.int .i64 (g i j)))))) != (0 : Int)) = false)) ∧ ((decide ((IntKind.i64.wrap ((0 : Int) + (1 : Int))) < (((2 : Nat)) : Int))) = true)) ∧ ((IntKind.i64.wrap ((0 : Int) + (1 : Int))) = (Int.ofNat 1))) ∧ (((ixE ph (((n : Nat)) : Int)) != (0 : Int)) = false)) ∧ ((decide ((IntKind.i64.wrap ((IntKind.i64.wrap ((0 : Int) + (1 : Int))) + (1 : Int))) < (((2 : Nat)) : Int))) = false)) ∧ (((0 : Int) != (0 : Int)) = false)) ∧ (((((m : Nat)) : Int) != (((n : Nat)) : Int)) = true))⟩) := by kernel_rfl
theorem cbf2_s (n : Nat) (c : Nat) (g : Nat → Nat → Int) (e : TypeId) (opn : Bool) (sz : Nat) (ro : Bool) (m : Nat) (c2 : Nat) (h : Nat → Nat → Int) (e2 : TypeId) (opn2 : Bool) (sz2 : Nat) (ro2 : Bool) (ph : Int) (hx : (n : Int) ≤ 1048576) (h0 : (crV n g) = (0 : Int)) (h1 : (ixE ph ((n : Nat) : Int)) = (0 : Int)) (h2 : ((m : Nat) : Int) ≠ ((n : Nat) : Int)) : SndF Tryz.prog 56 (cbArgs n c g e opn sz ro m c2 h e2 opn2 sz2 ro2 ph) (wS 6 (cbS n c g e opn sz ro m c2 h e2 opn2 sz2 ro2 ph)) (.int .i64 (2 : Int)) (wS 6 (cbS n c g e opn sz ro m c2 h e2 opn2 sz2 ro2 ph)) 192 0 :=
  sndF_K (L := cbS n c g e opn sz ro m c2 h e2 opn2 sz2 ro2 ph) (L2 := []) (ms := []) smx cbK_ok sng (by kernel_rfl) (by kernel_rfl) (cbf2_eq n c g e opn sz ro m c2 h e2 opn2 sz2 ro2 ph) (by
    repeat' (first | (with_reducible assumption) | exact (fun _ _ _ _ => rfl) | apply And.intro)
    all_goals first | trivial | rfl | assumption | exact decide_eq_true (by omega) | exact decide_eq_false (by omega) | exact bne_iff_ne.2 (by assumption) | exact bne_eq_false_iff_eq.2 (by assumption) | exact beq_iff_eq.2 (by assumption) | exact beq_eq_false_iff_ne.2 (by assumption) | exact wnextW (by omega) | exact wsub1 (by omega) (by omega) | exact toNatO (by omega) | exact congrArg Bool.not (by assumption) | exact congrArg Bool.not (decide_eq_true (by omega)) | exact congrArg Bool.not (decide_eq_false (by omega)) | exact congrArg Bool.not (beq_iff_eq.2 (by assumption)) | exact congrArg Bool.not (beq_eq_false_iff_ne.2 (by assumption)) | exact beq_eq_false_iff_ne.2 (by omega) | exact beq_iff_eq.2 (by omega) | exact bne_iff_ne.2 (by omega) | exact bne_eq_false_iff_eq.2 (by omega) | omega) (by kernel_rfl) (fun o ho => by
      simp only [cbS, List.mem_cons, List.not_mem_nil, or_false] at ho
      rcases ho with rfl | rfl
      all_goals first | rfl | exact fun i j => rfl) (fun o ho => by cases ho) (by kernel_rfl)
theorem cbf3_eq (n : Nat) (c : Nat) (g : Nat → Nat → Int) (e : TypeId) (opn : Bool) (sz : Nat) (ro : Bool) (m : Nat) (c2 : Nat) (h : Nat → Nat → Int) (e2 : TypeId) (opn2 : Bool) (sz2 : Nat) (ro2 : Bool) (ph : Int) : seenF' Tryz.prog Tryz.f56 6 2 [] (cbf3 n c g e opn sz ro m c2 h e2 opn2 sz2 ro2 ph) = some (.int .i64 (ixE ph ((n : Nat) : Int)), cbS n c g e opn sz ro m c2 h e2 opn2 sz2 ro2 ph ++ [], ⟨[], (((((((((True ∧ (((n = n) ∧ (∀ (i : Nat), ((i < n) → (∀ (j : Nat), ((j < (1 : Nat)) → ((Value.int .i64 (g i j)) = (Value.int .i64 (gI (Value.int .i64 (g i j)))))))))) ∧ ((((n : Nat)) : Int) ≤ (9223372036854775807 : Int)))) ∧ True) ∧ ((decide ((0 : Int) < (((2 : Nat)) : Int))) = true)) ∧ ((0 : Int) = (Int.ofNat 0))) ∧ (((crV n (fun (i : Nat) => (fun (j : Nat) => (gI (Value.int .i64 (g i j)))))) != (0 : Int)) = false)) ∧ ((decide ((IntKind.i64.wrap ((0 : Int) + (1 : Int))) < (((2 : Nat)) : Int))) = true)) ∧ ((IntKind.i64.wrap ((0 : Int) + (1 : Int))) = (Int.ofNat 1))) ∧ (((ixE ph (((n : Nat)) : Int)) != (0 : Int)) = true)) ∧ (((ixE ph (((n : Nat)) : Int)) != (0 : Int)) = true))⟩) := by kernel_rfl
theorem cbf3_s (n : Nat) (c : Nat) (g : Nat → Nat → Int) (e : TypeId) (opn : Bool) (sz : Nat) (ro : Bool) (m : Nat) (c2 : Nat) (h : Nat → Nat → Int) (e2 : TypeId) (opn2 : Bool) (sz2 : Nat) (ro2 : Bool) (ph : Int) (hx : (n : Int) ≤ 1048576) (h0 : (crV n g) = (0 : Int)) (h1 : (ixE ph ((n : Nat) : Int)) ≠ (0 : Int)) : SndF Tryz.prog 56 (cbArgs n c g e opn sz ro m c2 h e2 opn2 sz2 ro2 ph) (wS 6 (cbS n c g e opn sz ro m c2 h e2 opn2 sz2 ro2 ph)) (.int .i64 (ixE ph ((n : Nat) : Int))) (wS 6 (cbS n c g e opn sz ro m c2 h e2 opn2 sz2 ro2 ph)) 192 0 :=
  sndF_K (L := cbS n c g e opn sz ro m c2 h e2 opn2 sz2 ro2 ph) (L2 := []) (ms := []) smx cbK_ok sng (by kernel_rfl) (by kernel_rfl) (cbf3_eq n c g e opn sz ro m c2 h e2 opn2 sz2 ro2 ph) (by
    repeat' (first | (with_reducible assumption) | exact (fun _ _ _ _ => rfl) | apply And.intro)
    all_goals first | trivial | rfl | assumption | exact decide_eq_true (by omega) | exact decide_eq_false (by omega) | exact bne_iff_ne.2 (by assumption) | exact bne_eq_false_iff_eq.2 (by assumption) | exact beq_iff_eq.2 (by assumption) | exact beq_eq_false_iff_ne.2 (by assumption) | exact wnextW (by omega) | exact wsub1 (by omega) (by omega) | exact toNatO (by omega) | exact congrArg Bool.not (by assumption) | exact congrArg Bool.not (decide_eq_true (by omega)) | exact congrArg Bool.not (decide_eq_false (by omega)) | exact congrArg Bool.not (beq_iff_eq.2 (by assumption)) | exact congrArg Bool.not (beq_eq_false_iff_ne.2 (by assumption)) | exact beq_eq_false_iff_ne.2 (by omega) | exact beq_iff_eq.2 (by omega) | exact bne_iff_ne.2 (by omega) | exact bne_eq_false_iff_eq.2 (by omega) | omega) (by kernel_rfl) (fun o ho => by
      simp only [cbS, List.mem_cons, List.not_mem_nil, or_false] at ho
      rcases ho with rfl | rfl
      all_goals first | rfl | exact fun i j => rfl) (fun o ho => by cases ho) (by kernel_rfl)
theorem cbf4_eq (n : Nat) (c : Nat) (g : Nat → Nat → Int) (e : TypeId) (opn : Bool) (sz : Nat) (ro : Bool) (m : Nat) (c2 : Nat) (h : Nat → Nat → Int) (e2 : TypeId) (opn2 : Bool) (sz2 : Nat) (ro2 : Bool) (ph : Int) : seenF' Tryz.prog Tryz.f56 6 2 [] (cbf4 n c g e opn sz ro m c2 h e2 opn2 sz2 ro2 ph) = some (.int .i64 (crV n g), cbS n c g e opn sz ro m c2 h e2 opn2 sz2 ro2 ph ++ [], ⟨[], ((((((True ∧ (((n = n) ∧ (∀ (i : Nat), ((i < n) → (∀ (j : Nat), ((j < (1 : Nat)) → ((Value.int .i64 (g i j)) = (Value.int .i64 (gI (Value.int .i64 (g i j)))))))))) ∧ ((((n : Nat)) : Int) ≤ (9223372036854775807 : Int)))) ∧ True) ∧ ((decide ((0 : Int) < (((2 : Nat)) : Int))) = true)) ∧ ((0 : Int) = (Int.ofNat 0))) ∧ (((crV n (fun (i : Nat) => (fun (j : Nat) => (gI (Value.int .i64 (g i j)))))) != (0 : Int)) = true)) ∧ (((crV n (fun (i : Nat) => (fun (j : Nat) => (gI (Value.int .i64 (g i j)))))) != (0 : Int)) = true))⟩) := by kernel_rfl
theorem cbf4_s (n : Nat) (c : Nat) (g : Nat → Nat → Int) (e : TypeId) (opn : Bool) (sz : Nat) (ro : Bool) (m : Nat) (c2 : Nat) (h : Nat → Nat → Int) (e2 : TypeId) (opn2 : Bool) (sz2 : Nat) (ro2 : Bool) (ph : Int) (hx : (n : Int) ≤ 1048576) (h0 : (crV n g) ≠ (0 : Int)) : SndF Tryz.prog 56 (cbArgs n c g e opn sz ro m c2 h e2 opn2 sz2 ro2 ph) (wS 6 (cbS n c g e opn sz ro m c2 h e2 opn2 sz2 ro2 ph)) (.int .i64 (crV n g)) (wS 6 (cbS n c g e opn sz ro m c2 h e2 opn2 sz2 ro2 ph)) 192 0 :=
  sndF_K (L := cbS n c g e opn sz ro m c2 h e2 opn2 sz2 ro2 ph) (L2 := []) (ms := []) smx cbK_ok sng (by kernel_rfl) (by kernel_rfl) (cbf4_eq n c g e opn sz ro m c2 h e2 opn2 sz2 ro2 ph) (by
    repeat' (first | (with_reducible assumption) | exact (fun _ _ _ _ => rfl) | apply And.intro)
    all_goals first | trivial | rfl | assumption | exact decide_eq_true (by omega) | exact decide_eq_false (by omega) | exact bne_iff_ne.2 (by assumption) | exact bne_eq_false_iff_eq.2 (by assumption) | exact beq_iff_eq.2 (by assumption) | exact beq_eq_false_iff_ne.2 (by assumption) | exact wnextW (by omega) | exact wsub1 (by omega) (by omega) | exact toNatO (by omega) | exact congrArg Bool.not (by assumption) | exact congrArg Bool.not (decide_eq_true (by omega)) | exact congrArg Bool.not (decide_eq_false (by omega)) | exact congrArg Bool.not (beq_iff_eq.2 (by assumption)) | exact congrArg Bool.not (beq_eq_false_iff_ne.2 (by assumption)) | exact beq_eq_false_iff_ne.2 (by omega) | exact beq_iff_eq.2 (by omega) | exact bne_iff_ne.2 (by omega) | exact bne_eq_false_iff_eq.2 (by omega) | omega) (by kernel_rfl) (fun o ho => by
      simp only [cbS, List.mem_cons, List.not_mem_nil, or_false] at ho
      rcases ho with rfl | rfl
      all_goals first | rfl | exact fun i j => rfl) (fun o ho => by cases ho) (by kernel_rfl)
theorem cb_sndF (n : Nat) (c : Nat) (g : Nat → Nat → Int) (e : TypeId) (opn : Bool) (sz : Nat) (ro : Bool) (m : Nat) (c2 : Nat) (h : Nat → Nat → Int) (e2 : TypeId) (opn2 : Bool) (sz2 : Nat) (ro2 : Bool) (ph : Int) (hn : n ≤ 1048576) : SndF Tryz.prog 56 (cbArgs n c g e opn sz ro m c2 h e2 opn2 sz2 ro2 ph) (wS 6 (cbS n c g e opn sz ro m c2 h e2 opn2 sz2 ro2 ph)) (.int .i64 (cbV n g m h ph)) (wS 6 (cbS n c g e opn sz ro m c2 h e2 opn2 sz2 ro2 ph)) 192 0 := by
  have hx : (n : Int) ≤ 1048576 := by omega
  unfold cbV
  by_cases hq : th2 (crV n g) (ixE ph n) = 0
  · have hc : crV n g = 0 ∧ ixE ph (n : Int) = 0 := by
      unfold th2 at hq
      split at hq
      · exact ⟨by assumption, hq⟩
      · exact absurd hq (by assumption)
    have hg := (crV_ok hc.1).2
    rw [show ∀ b, th2 (th2 (crV n g) (ixE ph n)) b = b from fun b => if_pos hq]
    by_cases h2 : m = n
    · rw [if_pos h2]
      rcases first_or (p := fun i => cbE g h ph i ≠ 0) (fun _ => inferInstance) n with k | ⟨j, hj, k1, k2⟩
      · have k4 : ∀ i, i < n → cbE g h ph i = 0 := fun i hi => Decidable.not_not.1 (k i hi)
        rw [feN_all fun i _ hi => k4 i (by omega)]
        exact cbf1_s n c g e opn sz ro m c2 h e2 opn2 sz2 ro2 ph hx hc.1 hc.2 (by omega) (cb_all n c g e opn sz ro m c2 h e2 opn2 sz2 ro2 ph hg h2 hn k4)
      · have k4 : ∀ i, i < j → cbE g h ph i = 0 := fun i hi => Decidable.not_not.1 (k2 i hi)
        rw [feN_first (Nat.zero_le j) (by omega) (fun i _ hi => k4 i hi) k1, (cbE_no k1).1]
        exact cbf0_s n c g e opn sz ro m c2 h e2 opn2 sz2 ro2 ph j hx hc.1 hc.2 (by omega) (cb_ret n c g e opn sz ro m c2 h e2 opn2 sz2 ro2 ph hg h2 hn j hj k4 k1)
    · rw [if_neg h2]
      exact cbf2_s n c g e opn sz ro m c2 h e2 opn2 sz2 ro2 ph hx hc.1 hc.2 (by omega)
  · rw [show ∀ b, th2 (th2 (crV n g) (ixE ph n)) b = th2 (crV n g) (ixE ph n) from fun b => if_neg hq]
    unfold th2 at hq ⊢
    by_cases h0 : crV n g = 0
    · rw [if_pos h0] at hq ⊢; exact cbf3_s n c g e opn sz ro m c2 h e2 opn2 sz2 ro2 ph hx h0 hq
    · rw [if_neg h0]; exact cbf4_s n c g e opn sz ro m c2 h e2 opn2 sz2 ro2 ph hx h0
def kCb : CallS := fun f xs s q => match decide (f = 56) with
  | true => match xs.toList with
    | [.slice (some ⟨b, 0, none⟩) n c, .int .i64 ph, .slice (some ⟨b2, 0, none⟩) m c2] => match Nat.ble 6 b, Nat.ble 6 b2, Nat.beq b b2, rowK 1 .i64 s b n, rowK 1 .i64 s b2 m with
      | true, true, false, some (g, _, _, _, _, p), some (h, _, _, _, _, p2) => some (.int .i64 (cbV n g m h ph), s, 2 ^ b ||| 2 ^ b2, 0, ⟨q.rest, q.ob ∧ (p ∧ p2 ∧ (n ≤ 1048576))⟩)
      | _, _, _, _, _ => none
    | _ => none
  | false => none
theorem kCb_ok : FOkS Tryz.prog kCb := fun f xs s q u s1 R W q1 he => by
  unfold kCb at he
  split at he
  · rename_i hf
    have hf := of_decide_eq_true hf
    subst hf
    split at he
    · rename_i b n c ph b2 m c2 hx0
      have hxs : xs = #[.slice (some ⟨b, 0, none⟩) n c, .int .i64 ph, .slice (some ⟨b2, 0, none⟩) m c2] := by apply Array.ext'; exact hx0
      subst hxs
      split at he
      · rename_i g e opn sz ro p h e2 opn2 sz2 ro2 p2 h1 h2 h3 h4 h5
        cases he
        refine ⟨fun hq => hq.1, fun hq => ?_⟩
        obtain ⟨k1, k2, hx⟩ := hq.2
        obtain ⟨l1, w1⟩ := rowK_wo h4 k1
        obtain ⟨l2, w2⟩ := rowK_wo h5 k2
        have b1 := Nat.le_of_ble_eq_true h1
        have b3 := Nat.le_of_ble_eq_true h2
        have hne : b ≠ b2 := fun e => by rw [e, Nat.beq_refl] at h3; cases h3
        refine SndF.rows (N := 6) (bs := [b, b2]) (s0 := wS 6 [rowI 1 n g e opn sz ro, rowI 1 m h e2 opn2 sz2 ro2]) sng (cb_sndF n c g e opn sz ro m c2 h e2 opn2 sz2 ro2 ph hx) rfl rfl (fun x hx => ?_) (by simp [hne]) (by omega) (fun x hx _ => ?_) (fun x hx => ?_) (fun f j hj => ?_) (fun f _ hf => ?_)
        · simp at hx
          rcases hx with rfl | rfl <;> omega
        · rcases Nat.lt_or_ge x 6 with k | k
          · have hz := (by decide : ∀ b, b < 6 → Nat.testBit 192 b = false) x k
            rw [hz] at hx; cases hx
          · exact k
        · simp at hx
          rcases hx with rfl | rfl <;> simp [or_bit, bit_self]
        · match j, hj with
          | 0, _ => exact w1 f
          | 1, _ => exact w2 f
        · exact wvs_three (slice_wv (hf 0 (by simp))) (ground_wv (n := 8) rfl) (slice_wv (hf 1 (by simp)))
      · cases he
    · cases he
  · cases he
end Go.Proofs.YtecabbbjdnambaaGreatDoor
end
section
set_option linter.all false
set_option maxRecDepth 1000000
open Go.RowKit
namespace Go.Proofs.YtecabbbjdnambaaGreatDoor
open Mini
noncomputable def rbX : Code := loopAt Tryz.prog 62 0
noncomputable def rbK : CallS := bothX kCp (bothX kCr (bothX kRCr (bothX kFl (bothX kRl (kAll [c_range, c_rrange, c_index])))))
def rbA (n : Nat) (c : Nat) (g : Nat → Nat → Int) (e : TypeId) (opn : Bool) (sz : Nat) (ro : Bool) (m : Nat) (c2 : Nat) (h : Nat → Nat → Int) (e2 : TypeId) (opn2 : Bool) (sz2 : Nat) (ro2 : Bool) (ph : Int) (i8 : Nat) : MA := MA.ofL 61 [.slice (some ⟨6, 0, none⟩) n c, .int .i64 ph, .slice (some ⟨7, 0, none⟩) m c2, .chan none, .chan none, .chan none, .chan none, .chan none, .int .i64 ((i8 : Nat) : Int), .chan none, .chan none, .chan none, .chan none, .chan none, .chan none, .chan none, .chan none, .chan none, .chan none, .chan none, .chan none, .chan none, .chan none, .chan none, .chan none, .chan none, .chan none, .chan none, .chan none, .chan none, .chan none, .chan none, .chan none, .chan none, .chan none, .chan none, .chan none, .chan none, .chan none, .chan none, .chan none, .chan none, .chan none, .chan none, .chan none, .chan none, .chan none, .chan none, .chan none, .chan none, .chan none, .chan none, .chan none, .chan none, .chan none, .chan none, .chan none, .chan none, .chan none, .chan none, .chan none] []
def rbL (n : Nat) (c : Nat) (g : Nat → Nat → Int) (e : TypeId) (opn : Bool) (sz : Nat) (ro : Bool) (m : Nat) (c2 : Nat) (h : Nat → Nat → Int) (e2 : TypeId) (opn2 : Bool) (sz2 : Nat) (ro2 : Bool) (ph : Int) (i8 : Nat) : List MObj := [.rows n 1 (fun i j => .int .i64 (g i j)) e opn sz ro, .rows m 1 (fun i j => .int .i64 (h i j)) e2 opn2 sz2 ro2]
noncomputable def rbr0 (n : Nat) (c : Nat) (g : Nat → Nat → Int) (e : TypeId) (opn : Bool) (sz : Nat) (ro : Bool) (m : Nat) (c2 : Nat) (h : Nat → Nat → Int) (e2 : TypeId) (opn2 : Bool) (sz2 : Nat) (ro2 : Bool) (ph : Int) (i8 : Nat) : Option OutCS := evK Tryz.prog rbK 1000 false rbX (rbA n c g e opn sz ro m c2 h e2 opn2 sz2 ro2 ph i8) (wS 6 (rbL n c g e opn sz ro m c2 h e2 opn2 sz2 ro2 ph i8)) ⟨[1, .row i8 0, .row i8 0, 0, 0, 0, 0, 0, 0, 0, 0, 0, 1, 0, 0, 0, 0, 0, 0, 0, 0, 0, 0, 0, 0, 0, 0, 0, 0, 0, 1, 1], True⟩
def rbr0E (n : Nat) (c : Nat) (g : Nat → Nat → Int) (e : TypeId) (opn : Bool) (sz : Nat) (ro : Bool) (m : Nat) (c2 : Nat) (h : Nat → Nat → Int) (e2 : TypeId) (opn2 : Bool) (sz2 : Nat) (ro2 : Bool) (ph : Int) (i8 : Nat) : MA := MA.ofL 61 [.chan none, .chan none, .chan none, .chan none, .chan none, .chan none, .int .i64 (19 : Int), .chan none, .chan none, .chan none, .chan none, .chan none, .chan none, .chan none, .chan none, .chan none, .chan none, .chan none, .chan none, .chan none, .chan none, .chan none, .chan none, .chan none, .chan none, .chan none, .chan none, .chan none, .chan none, .chan none, .chan none, .chan none, .chan none, .chan none, .chan none, .chan none, .chan none, .chan none, .chan none, .chan none, .chan none, .chan none, .chan none, .chan none, .chan none, .chan none, .chan none, .chan none, .chan none, .chan none, .chan none, .chan none, .chan none, .chan none, .chan none, .chan none, .chan none, .chan none, .chan none, .chan none, .chan none] []
noncomputable def rbr1 (n : Nat) (c : Nat) (g : Nat → Nat → Int) (e : TypeId) (opn : Bool) (sz : Nat) (ro : Bool) (m : Nat) (c2 : Nat) (h : Nat → Nat → Int) (e2 : TypeId) (opn2 : Bool) (sz2 : Nat) (ro2 : Bool) (ph : Int) (i8 : Nat) : Option OutCS := evK Tryz.prog rbK 1000 false rbX (rbA n c g e opn sz ro m c2 h e2 opn2 sz2 ro2 ph i8) (wS 6 (rbL n c g e opn sz ro m c2 h e2 opn2 sz2 ro2 ph i8)) ⟨[1, .row i8 0, .row i8 0, 1, 1, 1, .row i8 0, 1, .row i8 0, 1, 1, 1, 1, 1, 0, 0, 0, 0, 0, 0, 0, 0, 0, 0, 0, 0, 0, 0, 0, 0, 0, 0, 1, 1], True⟩
def rbr1E (n : Nat) (c : Nat) (g : Nat → Nat → Int) (e : TypeId) (opn : Bool) (sz : Nat) (ro : Bool) (m : Nat) (c2 : Nat) (h : Nat → Nat → Int) (e2 : TypeId) (opn2 : Bool) (sz2 : Nat) (ro2 : Bool) (ph : Int) (i8 : Nat) : MA := MA.ofL 61 [.chan none, .chan none, .chan none, .chan none, .chan none, .chan none, .int .i64 (19 : Int), .chan none, .chan none, .chan none, .chan none, .chan none, .chan none, .chan none, .chan none, .chan none, .chan none, .chan none, .chan none, .chan none, .chan none, .chan none, .chan none, .chan none, .chan none, .chan none, .chan none, .chan none, .chan none, .chan none, .chan none, .chan none, .chan none, .chan none, .chan none, .chan none, .chan none, .chan none, .chan none, .chan none, .chan none, .chan none, .chan none, .chan none, .chan none, .chan none, .chan none, .chan none, .chan none, .chan none, .chan none, .chan none, .chan none, .chan none, .chan none, .chan none, .chan none, .chan none, .chan none, .chan none, .chan none] []
noncomputable def rbr2 (n : Nat) (c : Nat) (g : Nat → Nat → Int) (e : TypeId) (opn : Bool) (sz : Nat) (ro : Bool) (m : Nat) (c2 : Nat) (h : Nat → Nat → Int) (e2 : TypeId) (opn2 : Bool) (sz2 : Nat) (ro2 : Bool) (ph : Int) (i8 : Nat) : Option OutCS := evK Tryz.prog rbK 1000 false rbX (rbA n c g e opn sz ro m c2 h e2 opn2 sz2 ro2 ph i8) (wS 6 (rbL n c g e opn sz ro m c2 h e2 opn2 sz2 ro2 ph i8)) ⟨[1, .row i8 0, .row i8 0, 1, 1, 1, .row i8 0, 1, .row i8 0, 1, 1, 1, 1, 1, 0, 1, 1, 1, 1, 0, 0, 0, 0, 0, 0, 0, 0, 0, 0, 0, 0, 1, 0, 0, 0, .azz (.int .i64 ((i8 + 1 : Nat) : Int))], True⟩
noncomputable def rbr3 (n : Nat) (c : Nat) (g : Nat → Nat → Int) (e : TypeId) (opn : Bool) (sz : Nat) (ro : Bool) (m : Nat) (c2 : Nat) (h : Nat → Nat → Int) (e2 : TypeId) (opn2 : Bool) (sz2 : Nat) (ro2 : Bool) (ph : Int) (i8 : Nat) : Option OutCS := evK Tryz.prog rbK 1000 false rbX (rbA n c g e opn sz ro m c2 h e2 opn2 sz2 ro2 ph i8) (wS 6 (rbL n c g e opn sz ro m c2 h e2 opn2 sz2 ro2 ph i8)) ⟨[1, .row i8 0, .row i8 0, 1, 1, 1, .row i8 0, 1, .row i8 0, 1, 1, 1, 1, 1, 0, 1, 1, 1, 1, 1, 1, 1, 1, .row i8 0, 1, .row i8 0, 1, .row (Int.toNat (g i8 0)) 0, 1, .row (Int.toNat (g i8 0)) 0, 1, 1, 1, .row i8 0, 1, .row i8 0, 1, 1, 1, 0, 0, .azz (.int .i64 ((i8 + 1 : Nat) : Int))], True⟩
noncomputable def rbr4 (n : Nat) (c : Nat) (g : Nat → Nat → Int) (e : TypeId) (opn : Bool) (sz : Nat) (ro : Bool) (m : Nat) (c2 : Nat) (h : Nat → Nat → Int) (e2 : TypeId) (opn2 : Bool) (sz2 : Nat) (ro2 : Bool) (ph : Int) (i8 : Nat) : Option OutCS := evK Tryz.prog rbK 1000 false rbX (rbA n c g e opn sz ro m c2 h e2 opn2 sz2 ro2 ph i8) (wS 6 (rbL n c g e opn sz ro m c2 h e2 opn2 sz2 ro2 ph i8)) ⟨[1, .row i8 0, .row i8 0, 1, 1, 1, .row i8 0, 1, .row i8 0, 1, 1, 1, 1, 1, 0, 1, 1, 1, 1, 1, 1, 1, 1, .row i8 0, 1, .row i8 0, 1, .row (Int.toNat (g i8 0)) 0, 1, .row (Int.toNat (g i8 0)) 0, 1, 1, 1, .row i8 0, 1, .row i8 0, 1, 1, 1, 0, 1], True⟩
def rbr4E (n : Nat) (c : Nat) (g : Nat → Nat → Int) (e : TypeId) (opn : Bool) (sz : Nat) (ro : Bool) (m : Nat) (c2 : Nat) (h : Nat → Nat → Int) (e2 : TypeId) (opn2 : Bool) (sz2 : Nat) (ro2 : Bool) (ph : Int) (i8 : Nat) : MA := MA.ofL 61 [.chan none, .chan none, .chan none, .chan none, .chan none, .chan none, .int .i64 (19 : Int), .chan none, .chan none, .chan none, .chan none, .chan none, .chan none, .chan none, .chan none, .chan none, .chan none, .chan none, .chan none, .chan none, .chan none, .chan none, .chan none, .chan none, .chan none, .chan none, .chan none, .chan none, .chan none, .chan none, .chan none, .chan none, .chan none, .chan none, .chan none, .chan none, .chan none, .chan none, .chan none, .chan none, .chan none, .chan none, .chan none, .chan none, .chan none, .chan none, .chan none, .chan none, .chan none, .chan none, .chan none, .chan none, .chan none, .chan none, .chan none, .chan none, .chan none, .chan none, .chan none, .chan none, .chan none] []
noncomputable def rbr5 (n : Nat) (c : Nat) (g : Nat → Nat → Int) (e : TypeId) (opn : Bool) (sz : Nat) (ro : Bool) (m : Nat) (c2 : Nat) (h : Nat → Nat → Int) (e2 : TypeId) (opn2 : Bool) (sz2 : Nat) (ro2 : Bool) (ph : Int) (i8 : Nat) : Option OutCS := evK Tryz.prog rbK 1000 false rbX (rbA n c g e opn sz ro m c2 h e2 opn2 sz2 ro2 ph i8) (wS 6 (rbL n c g e opn sz ro m c2 h e2 opn2 sz2 ro2 ph i8)) ⟨[0], True⟩
def rbr5E (n : Nat) (c : Nat) (g : Nat → Nat → Int) (e : TypeId) (opn : Bool) (sz : Nat) (ro : Bool) (m : Nat) (c2 : Nat) (h : Nat → Nat → Int) (e2 : TypeId) (opn2 : Bool) (sz2 : Nat) (ro2 : Bool) (ph : Int) (i8 : Nat) : MA := MA.ofL 61 [.chan none, .chan none, .chan none, .chan none, .chan none, .chan none, .chan none, .chan none, .chan none, .chan none, .chan none, .chan none, .chan none, .chan none, .chan none, .chan none, .chan none, .chan none, .chan none, .chan none, .chan none, .chan none, .chan none, .chan none, .chan none, .chan none, .chan none, .chan none, .chan none, .chan none, .chan none, .chan none, .chan none, .chan none, .chan none, .chan none, .chan none, .chan none, .chan none, .chan none, .chan none, .chan none, .chan none, .chan none, .chan none, .chan none, .chan none, .chan none, .chan none, .chan none, .chan none, .chan none, .chan none, .chan none, .chan none, .chan none, .chan none, .chan none, .chan none, .chan none, .chan none] []
def rbArgs (n : Nat) (c : Nat) (g : Nat → Nat → Int) (e : TypeId) (opn : Bool) (sz : Nat) (ro : Bool) (m : Nat) (c2 : Nat) (h : Nat → Nat → Int) (e2 : TypeId) (opn2 : Bool) (sz2 : Nat) (ro2 : Bool) (ph : Int) : Array Value := #[.slice (some ⟨6, 0, none⟩) n c, .int .i64 ph, .slice (some ⟨7, 0, none⟩) m c2]
def rbS (n : Nat) (c : Nat) (g : Nat → Nat → Int) (e : TypeId) (opn : Bool) (sz : Nat) (ro : Bool) (m : Nat) (c2 : Nat) (h : Nat → Nat → Int) (e2 : TypeId) (opn2 : Bool) (sz2 : Nat) (ro2 : Bool) (ph : Int) : List MObj := [.rows n 1 (fun i j => .int .i64 (g i j)) e opn sz ro, .rows m 1 (fun i j => .int .i64 (h i j)) e2 opn2 sz2 ro2]
noncomputable def rbf0 (n : Nat) (c : Nat) (g : Nat → Nat → Int) (e : TypeId) (opn : Bool) (sz : Nat) (ro : Bool) (m : Nat) (c2 : Nat) (h : Nat → Nat → Int) (e2 : TypeId) (opn2 : Bool) (sz2 : Nat) (ro2 : Bool) (ph : Int) (jj : Nat) : Option OutCS := evK Tryz.prog rbK 1000 false (bodyOf Tryz.prog 62) (startM Tryz.f62 (rbArgs n c g e opn sz ro m c2 h e2 opn2 sz2 ro2 ph)) (wS 6 (rbS n c g e opn sz ro m c2 h e2 opn2 sz2 ro2 ph)) ⟨[0, 0, .lp 263 (rbA n c g e opn sz ro m c2 h e2 opn2 sz2 ro2 ph 0) 6 (rbL n c g e opn sz ro m c2 h e2 opn2 sz2 ro2 ph 0) .ret (rbr0E n c g e opn sz ro m c2 h e2 opn2 sz2 ro2 ph jj) [.rows n 1 (fun i j => .int .i64 (g i j)) e opn sz ro, .rows m 1 (fun i j => .int .i64 (h i j)) e2 opn2 sz2 ro2] 8 0], True⟩
noncomputable def rbf1 (n : Nat) (c : Nat) (g : Nat → Nat → Int) (e : TypeId) (opn : Bool) (sz : Nat) (ro : Bool) (m : Nat) (c2 : Nat) (h : Nat → Nat → Int) (e2 : TypeId) (opn2 : Bool) (sz2 : Nat) (ro2 : Bool) (ph : Int) : Option OutCS := evK Tryz.prog rbK 1000 false (bodyOf Tryz.prog 62) (startM Tryz.f62 (rbArgs n c g e opn sz ro m c2 h e2 opn2 sz2 ro2 ph)) (wS 6 (rbS n c g e opn sz ro m c2 h e2 opn2 sz2 ro2 ph)) ⟨[0, 0, .lp 263 (rbA n c g e opn sz ro m c2 h e2 opn2 sz2 ro2 ph 0) 6 (rbL n c g e opn sz ro m c2 h e2 opn2 sz2 ro2 ph 0) (.exit 0) (rbr5E n c g e opn sz ro m c2 h e2 opn2 sz2 ro2 ph n) [.rows n 1 (fun i j => .int .i64 (g i j)) e opn sz ro, .rows m 1 (fun i j => .int .i64 (h i j)) e2 opn2 sz2 ro2] 8 0], True⟩
noncomputable def rbf2 (n : Nat) (c : Nat) (g : Nat → Nat → Int) (e : TypeId) (opn : Bool) (sz : Nat) (ro : Bool) (m : Nat) (c2 : Nat) (h : Nat → Nat → Int) (e2 : TypeId) (opn2 : Bool) (sz2 : Nat) (ro2 : Bool) (ph : Int) : Option OutCS := evK Tryz.prog rbK 1000 false (bodyOf Tryz.prog 62) (startM Tryz.f62 (rbArgs n c g e opn sz ro m c2 h e2 opn2 sz2 ro2 ph)) (wS 6 (rbS n c g e opn sz ro m c2 h e2 opn2 sz2 ro2 ph)) ⟨[0, 1], True⟩
noncomputable def rbf3 (n : Nat) (c : Nat) (g : Nat → Nat → Int) (e : TypeId) (opn : Bool) (sz : Nat) (ro : Bool) (m : Nat) (c2 : Nat) (h : Nat → Nat → Int) (e2 : TypeId) (opn2 : Bool) (sz2 : Nat) (ro2 : Bool) (ph : Int) : Option OutCS := evK Tryz.prog rbK 1000 false (bodyOf Tryz.prog 62) (startM Tryz.f62 (rbArgs n c g e opn sz ro m c2 h e2 opn2 sz2 ro2 ph)) (wS 6 (rbS n c g e opn sz ro m c2 h e2 opn2 sz2 ro2 ph)) ⟨[1], True⟩
theorem rbK_ok : FOkS Tryz.prog rbK := bothX_ok kCp_ok (bothX_ok kCr_ok (bothX_ok kRCr_ok (bothX_ok kFl_ok (bothX_ok kRl_ok (kAll_ok _ ⟨k_range, k_rrange, k_index, trivial⟩)))))
theorem rbr0_eq (n : Nat) (c : Nat) (g : Nat → Nat → Int) (e : TypeId) (opn : Bool) (sz : Nat) (ro : Bool) (m : Nat) (c2 : Nat) (h : Nat → Nat → Int) (e2 : TypeId) (opn2 : Bool) (sz2 : Nat) (ro2 : Bool) (ph : Int) (i8 : Nat) : seenK 6 2 [] 64 0 (rbr0 n c g e opn sz ro m c2 h e2 opn2 sz2 ro2 ph i8) = some (.ret, rbr0E n c g e opn sz ro m c2 h e2 opn2 sz2 ro2 ph i8, [.rows n 1 (fun i j => .int .i64 (g i j)) e opn sz ro, .rows m 1 (fun i j => .int .i64 (h i j)) e2 opn2 sz2 ro2], 0, ⟨[], ((((((((((((((((((((True ∧ ((decide ((((i8 : Nat)) : Int) < (((n : Nat)) : Int))) = true)) ∧ (((((i8 : Nat)) : Int) = (Int.ofNat i8)) ∧ (i8 < m))) ∧ (((0 + (i8 * 1)) = ((i8 * 1) + 0)) ∧ (i8 < m))) ∧ ((decide ((h i8 0) < (0 : Int))) = true)) ∧ ((decide ((h i8 0) < (0 : Int))) = true)) ∧ ((decide ((h i8 0) < (0 : Int))) = true)) ∧ ((decide ((h i8 0) < (0 : Int))) = true)) ∧ ((decide ((h i8 0) < (0 : Int))) = true)) ∧ ((decide ((h i8 0) < (0 : Int))) = true)) ∧ ((decide ((h i8 0) < (0 : Int))) = true)) ∧ ((decide ((h i8 0) < (0 : Int))) = true)) ∧ ((decide ((h i8 0) < (0 : Int))) = true)) ∧ ((decide ((h i8 0) < (0 : Int))) = true)) ∧ (true = true)) ∧ (true = true)) ∧ (true = true)) ∧ (true = true)) ∧ (true = true)) ∧ (true = true)) ∧ (true = true))⟩) := by kernel_rfl
theorem rbr0_k (n : Nat) (c : Nat) (g : Nat → Nat → Int) (e : TypeId) (opn : Bool) (sz : Nat) (ro : Bool) (m : Nat) (c2 : Nat) (h : Nat → Nat → Int) (e2 : TypeId) (opn2 : Bool) (sz2 : Nat) (ro2 : Bool) (ph : Int) (i8 : Nat) (hgi : i8 < n → 0 ≤ g i8 0 ∧ g i8 0 < (n : Int)) (hmn : m = n) (hn : n ≤ 1048576) (h0 : ((i8 : Nat) : Int) < ((n : Nat) : Int)) (h1 : (h i8 0) < (0 : Int)) : KC Tryz.prog none rbX (rbA n c g e opn sz ro m c2 h e2 opn2 sz2 ro2 ph i8).act (wS 6 (rbL n c g e opn sz ro m c2 h e2 opn2 sz2 ro2 ph i8)) .ret (rbr0E n c g e opn sz ro m c2 h e2 opn2 sz2 ro2 ph i8).act (wS 6 [.rows n 1 (fun i j => .int .i64 (g i j)) e opn sz ro, .rows m 1 (fun i j => .int .i64 (h i j)) e2 opn2 sz2 ro2]) 8 0 := by
  refine seenK_ok smx rbK_ok sng (rbr0_eq n c g e opn sz ro m c2 h e2 opn2 sz2 ro2 ph i8) ?_
  · skip
    repeat' (first | (with_reducible assumption) | exact (fun _ _ _ _ => rfl) | apply And.intro)
    all_goals first | trivial | rfl | assumption | exact decide_eq_true (by omega) | exact decide_eq_false (by omega) | exact bne_iff_ne.2 (by assumption) | exact bne_eq_false_iff_eq.2 (by assumption) | exact beq_iff_eq.2 (by assumption) | exact beq_eq_false_iff_ne.2 (by assumption) | exact wnextW (by omega) | exact wsub1 (by omega) (by omega) | exact toNatO (by omega) | exact congrArg Bool.not (by assumption) | exact congrArg Bool.not (decide_eq_true (by omega)) | exact congrArg Bool.not (decide_eq_false (by omega)) | exact congrArg Bool.not (beq_iff_eq.2 (by assumption)) | exact congrArg Bool.not (beq_eq_false_iff_ne.2 (by assumption)) | exact beq_eq_false_iff_ne.2 (by omega) | exact beq_iff_eq.2 (by omega) | exact bne_iff_ne.2 (by omega) | exact bne_eq_false_iff_eq.2 (by omega) | omega
theorem rbr1_eq (n : Nat) (c : Nat) (g : Nat → Nat → Int) (e : TypeId) (opn : Bool) (sz : Nat) (ro : Bool) (m : Nat) (c2 : Nat) (h : Nat → Nat → Int) (e2 : TypeId) (opn2 : Bool) (sz2 : Nat) (ro2 : Bool) (ph : Int) (i8 : Nat) : seenK 6 2 [] 64 0 (rbr1 n c g e opn sz ro m c2 h e2 opn2 sz2 ro2 ph i8) = some (.ret, rbr1E n c g e opn sz ro m c2 h e2 opn2 sz2 ro2 ph i8, [.rows n 1 (fun i j => .int .i64 (g i j)) e opn sz ro, .rows m 1 (fun i j => .int .i64 (h i j)) e2 opn2 sz2 ro2], 0, ⟨[], ((((((((((((((((((((((True ∧ ((decide ((((i8 : Nat)) : Int) < (((n : Nat)) : Int))) = true)) ∧ (((((i8 : Nat)) : Int) = (Int.ofNat i8)) ∧ (i8 < m))) ∧ (((0 + (i8 * 1)) = ((i8 * 1) + 0)) ∧ (i8 < m))) ∧ ((decide ((h i8 0) < (0 : Int))) = false)) ∧ ((decide ((h i8 0) < (0 : Int))) = false)) ∧ ((decide ((h i8 0) < (0 : Int))) = false)) ∧ (((((i8 : Nat)) : Int) = (Int.ofNat i8)) ∧ (i8 < m))) ∧ ((decide ((h i8 0) < (0 : Int))) = false)) ∧ (((0 + (i8 * 1)) = ((i8 * 1) + 0)) ∧ (i8 < m))) ∧ ((decide ((h i8 0) < (0 : Int))) = false)) ∧ ((decide ((h i8 0) < (0 : Int))) = false)) ∧ ((decide ((h i8 0) < (0 : Int))) = false)) ∧ ((decide ((h i8 0) < (0 : Int))) = false)) ∧ ((decide ((h i8 0) < (0 : Int))) = false)) ∧ ((decide ((h i8 0) < (0 : Int))) = false)) ∧ ((Bool.not (((h i8 0) == (0 : Int)) == ((((i8 : Nat)) : Int) == ph))) = true)) ∧ ((Bool.not (((h i8 0) == (0 : Int)) == ((((i8 : Nat)) : Int) == ph))) = true)) ∧ ((Bool.not (((h i8 0) == (0 : Int)) == ((((i8 : Nat)) : Int) == ph))) = true)) ∧ ((Bool.not (((h i8 0) == (0 : Int)) == ((((i8 : Nat)) : Int) == ph))) = true)) ∧ ((Bool.not (((h i8 0) == (0 : Int)) == ((((i8 : Nat)) : Int) == ph))) = true)) ∧ ((Bool.not (((h i8 0) == (0 : Int)) == ((((i8 : Nat)) : Int) == ph))) = true)) ∧ (true = true))⟩) := by kernel_rfl
theorem rbr1_k (n : Nat) (c : Nat) (g : Nat → Nat → Int) (e : TypeId) (opn : Bool) (sz : Nat) (ro : Bool) (m : Nat) (c2 : Nat) (h : Nat → Nat → Int) (e2 : TypeId) (opn2 : Bool) (sz2 : Nat) (ro2 : Bool) (ph : Int) (i8 : Nat) (hgi : i8 < n → 0 ≤ g i8 0 ∧ g i8 0 < (n : Int)) (hmn : m = n) (hn : n ≤ 1048576) (h0 : ((i8 : Nat) : Int) < ((n : Nat) : Int)) (h1 : ¬ (h i8 0) < (0 : Int)) (h2 : ((((h i8 0) == (0 : Int))) != ((((i8 : Nat) : Int) == ph))) = true) : KC Tryz.prog none rbX (rbA n c g e opn sz ro m c2 h e2 opn2 sz2 ro2 ph i8).act (wS 6 (rbL n c g e opn sz ro m c2 h e2 opn2 sz2 ro2 ph i8)) .ret (rbr1E n c g e opn sz ro m c2 h e2 opn2 sz2 ro2 ph i8).act (wS 6 [.rows n 1 (fun i j => .int .i64 (g i j)) e opn sz ro, .rows m 1 (fun i j => .int .i64 (h i j)) e2 opn2 sz2 ro2]) 8 0 := by
  refine seenK_ok smx rbK_ok sng (rbr1_eq n c g e opn sz ro m c2 h e2 opn2 sz2 ro2 ph i8) ?_
  · skip
    repeat' (first | (with_reducible assumption) | exact (fun _ _ _ _ => rfl) | apply And.intro)
    all_goals first | trivial | rfl | assumption | exact decide_eq_true (by omega) | exact decide_eq_false (by omega) | exact bne_iff_ne.2 (by assumption) | exact bne_eq_false_iff_eq.2 (by assumption) | exact beq_iff_eq.2 (by assumption) | exact beq_eq_false_iff_ne.2 (by assumption) | exact wnextW (by omega) | exact wsub1 (by omega) (by omega) | exact toNatO (by omega) | exact congrArg Bool.not (by assumption) | exact congrArg Bool.not (decide_eq_true (by omega)) | exact congrArg Bool.not (decide_eq_false (by omega)) | exact congrArg Bool.not (beq_iff_eq.2 (by assumption)) | exact congrArg Bool.not (beq_eq_false_iff_ne.2 (by assumption)) | exact beq_eq_false_iff_ne.2 (by omega) | exact beq_iff_eq.2 (by omega) | exact bne_iff_ne.2 (by omega) | exact bne_eq_false_iff_eq.2 (by omega) | omega
theorem rbr2_eq (n : Nat) (c : Nat) (g : Nat → Nat → Int) (e : TypeId) (opn : Bool) (sz : Nat) (ro : Bool) (m : Nat) (c2 : Nat) (h : Nat → Nat → Int) (e2 : TypeId) (opn2 : Bool) (sz2 : Nat) (ro2 : Bool) (ph : Int) (i8 : Nat) : seenK 6 2 [] 263 0 (rbr2 n c g e opn sz ro m c2 h e2 opn2 sz2 ro2 ph i8) = some (.normal, rbA n c g e opn sz ro m c2 h e2 opn2 sz2 ro2 ph (i8 + 1), [.rows n 1 (fun i j => .int .i64 (g i j)) e opn sz ro, .rows m 1 (fun i j => .int .i64 (h i j)) e2 opn2 sz2 ro2], 0, ⟨[], ((((((((((((((((((((((((((((((((((((True ∧ ((decide ((((i8 : Nat)) : Int) < (((n : Nat)) : Int))) = true)) ∧ (((((i8 : Nat)) : Int) = (Int.ofNat i8)) ∧ (i8 < m))) ∧ (((0 + (i8 * 1)) = ((i8 * 1) + 0)) ∧ (i8 < m))) ∧ ((decide ((h i8 0) < (0 : Int))) = false)) ∧ ((decide ((h i8 0) < (0 : Int))) = false)) ∧ ((decide ((h i8 0) < (0 : Int))) = false)) ∧ (((((i8 : Nat)) : Int) = (Int.ofNat i8)) ∧ (i8 < m))) ∧ ((decide ((h i8 0) < (0 : Int))) = false)) ∧ (((0 + (i8 * 1)) = ((i8 * 1) + 0)) ∧ (i8 < m))) ∧ ((decide ((h i8 0) < (0 : Int))) = false)) ∧ ((decide ((h i8 0) < (0 : Int))) = false)) ∧ ((decide ((h i8 0) < (0 : Int))) = false)) ∧ ((decide ((h i8 0) < (0 : Int))) = false)) ∧ ((decide ((h i8 0) < (0 : Int))) = false)) ∧ ((decide ((h i8 0) < (0 : Int))) = false)) ∧ ((Bool.not (((h i8 0) == (0 : Int)) == ((((i8 : Nat)) : Int) == ph))) = false)) ∧ ((Bool.not (((h i8 0) == (0 : Int)) == ((((i8 : Nat)) : Int) == ph))) = false)) ∧ ((Bool.not (((h i8 0) == (0 : Int)) == ((((i8 : Nat)) : Int) == ph))) = false)) ∧ ((Bool.not (((h i8 0) == (0 : Int)) == ((((i8 : Nat)) : Int) == ph))) = false)) ∧ (((((i8 : Nat)) : Int) != ph) = false)) ∧ (((((i8 : Nat)) : Int) != ph) = false)) ∧ (((((i8 : Nat)) : Int) != ph) = false)) ∧ (((((i8 : Nat)) : Int) != ph) = false)) ∧ (((((i8 : Nat)) : Int) != ph) = false)) ∧ (((((i8 : Nat)) : Int) != ph) = false)) ∧ (((((i8 : Nat)) : Int) != ph) = false)) ∧ (((((i8 : Nat)) : Int) != ph) = false)) ∧ (((((i8 : Nat)) : Int) != ph) = false)) ∧ (((((i8 : Nat)) : Int) != ph) = false)) ∧ (((((i8 : Nat)) : Int) != ph) = false)) ∧ (((((i8 : Nat)) : Int) != ph) = false)) ∧ ((Bool.not (((h i8 0) == (0 : Int)) == ((((i8 : Nat)) : Int) == ph))) = false)) ∧ (((((i8 : Nat)) : Int) != ph) = false)) ∧ ((Bool.not (((h i8 0) == (0 : Int)) == ((((i8 : Nat)) : Int) == ph))) = false)) ∧ (false = false)) ∧ (((.int .i64 (IntKind.i64.wrap ((((i8 : Nat)) : Int) + (1 : Int)))) : Value) = (.int .i64 ((((i8 + 1) : Nat)) : Int))))⟩) := by kernel_rfl
theorem rbr2_k (n : Nat) (c : Nat) (g : Nat → Nat → Int) (e : TypeId) (opn : Bool) (sz : Nat) (ro : Bool) (m : Nat) (c2 : Nat) (h : Nat → Nat → Int) (e2 : TypeId) (opn2 : Bool) (sz2 : Nat) (ro2 : Bool) (ph : Int) (i8 : Nat) (hgi : i8 < n → 0 ≤ g i8 0 ∧ g i8 0 < (n : Int)) (hmn : m = n) (hn : n ≤ 1048576) (h0 : ((i8 : Nat) : Int) < ((n : Nat) : Int)) (h1 : ¬ (h i8 0) < (0 : Int)) (h2 : ((((h i8 0) == (0 : Int))) != ((((i8 : Nat) : Int) == ph))) = false) (h3 : ((i8 : Nat) : Int) = ph) : KC Tryz.prog none rbX (rbA n c g e opn sz ro m c2 h e2 opn2 sz2 ro2 ph i8).act (wS 6 (rbL n c g e opn sz ro m c2 h e2 opn2 sz2 ro2 ph i8)) .normal (rbA n c g e opn sz ro m c2 h e2 opn2 sz2 ro2 ph (i8 + 1)).act (wS 6 (rbL n c g e opn sz ro m c2 h e2 opn2 sz2 ro2 ph (i8 + 1))) 8 0 := by
  refine seenK_ok smx rbK_ok sng (rbr2_eq n c g e opn sz ro m c2 h e2 opn2 sz2 ro2 ph i8) ?_
  · skip
    repeat' (first | (with_reducible assumption) | exact (fun _ _ _ _ => rfl) | apply And.intro)
    all_goals first | trivial | rfl | assumption | exact decide_eq_true (by omega) | exact decide_eq_false (by omega) | exact bne_iff_ne.2 (by assumption) | exact bne_eq_false_iff_eq.2 (by assumption) | exact beq_iff_eq.2 (by assumption) | exact beq_eq_false_iff_ne.2 (by assumption) | exact wnextW (by omega) | exact wsub1 (by omega) (by omega) | exact toNatO (by omega) | exact congrArg Bool.not (by assumption) | exact congrArg Bool.not (decide_eq_true (by omega)) | exact congrArg Bool.not (decide_eq_false (by omega)) | exact congrArg Bool.not (beq_iff_eq.2 (by assumption)) | exact congrArg Bool.not (beq_eq_false_iff_ne.2 (by assumption)) | exact beq_eq_false_iff_ne.2 (by omega) | exact beq_iff_eq.2 (by omega) | exact bne_iff_ne.2 (by omega) | exact bne_eq_false_iff_eq.2 (by omega) | omega
theorem rbr3_eq (n : Nat) (c : Nat) (g : Nat → Nat → Int) (e : TypeId) (opn : Bool) (sz : Nat) (ro : Bool) (m : Nat) (c2 : Nat) (h : Nat → Nat → Int) (e2 : TypeId) (opn2 : Bool) (sz2 : Nat) (ro2 : Bool) (ph : Int) (i8 : Nat) : seenK 6 2 [] 263 0 (rbr3 n c g e opn sz ro m c2 h e2 opn2 sz2 ro2 ph i8) = some (.normal, rbA n c g e opn sz ro m c2 h e2 opn2 sz2 ro2 ph (i8 + 1), [.rows n 1 (fun i j => .int .i64 (g i j)) e opn sz ro, .rows m 1 (fun i j => .int .i64 (h i j)) e2 opn2 sz2 ro2], 0, ⟨[], ((((((((((((((((((((((((((((((((((((((((((True ∧ ((decide ((((i8 : Nat)) : Int) < (((n : Nat)) : Int))) = true)) ∧ (((((i8 : Nat)) : Int) = (Int.ofNat i8)) ∧ (i8 < m))) ∧ (((0 + (i8 * 1)) = ((i8 * 1) + 0)) ∧ (i8 < m))) ∧ ((decide ((h i8 0) < (0 : Int))) = false)) ∧ ((decide ((h i8 0) < (0 : Int))) = false)) ∧ ((decide ((h i8 0) < (0 : Int))) = false)) ∧ (((((i8 : Nat)) : Int) = (Int.ofNat i8)) ∧ (i8 < m))) ∧ ((decide ((h i8 0) < (0 : Int))) = false)) ∧ (((0 + (i8 * 1)) = ((i8 * 1) + 0)) ∧ (i8 < m))) ∧ ((decide ((h i8 0) < (0 : Int))) = false)) ∧ ((decide ((h i8 0) < (0 : Int))) = false)) ∧ ((decide ((h i8 0) < (0 : Int))) = false)) ∧ ((decide ((h i8 0) < (0 : Int))) = false)) ∧ ((decide ((h i8 0) < (0 : Int))) = false)) ∧ ((decide ((h i8 0) < (0 : Int))) = false)) ∧ ((Bool.not (((h i8 0) == (0 : Int)) == ((((i8 : Nat)) : Int) == ph))) = false)) ∧ ((Bool.not (((h i8 0) == (0 : Int)) == ((((i8 : Nat)) : Int) == ph))) = false)) ∧ ((Bool.not (((h i8 0) == (0 : Int)) == ((((i8 : Nat)) : Int) == ph))) = false)) ∧ ((Bool.not (((h i8 0) == (0 : Int)) == ((((i8 : Nat)) : Int) == ph))) = false)) ∧ (((((i8 : Nat)) : Int) != ph) = true)) ∧ (((((i8 : Nat)) : Int) != ph) = true)) ∧ (((((i8 : Nat)) : Int) != ph) = true)) ∧ (((((i8 : Nat)) : Int) != ph) = true)) ∧ (((((i8 : Nat)) : Int) = (Int.ofNat i8)) ∧ (i8 < n))) ∧ (((((i8 : Nat)) : Int) != ph) = true)) ∧ (((0 + (i8 * 1)) = ((i8 * 1) + 0)) ∧ (i8 < n))) ∧ (((((i8 : Nat)) : Int) != ph) = true)) ∧ (((g i8 0) = (Int.ofNat (Int.toNat (g i8 0)))) ∧ ((Int.toNat (g i8 0)) < m))) ∧ (((((i8 : Nat)) : Int) != ph) = true)) ∧ (((0 + ((Int.toNat (g i8 0)) * 1)) = (((Int.toNat (g i8 0)) * 1) + 0)) ∧ ((Int.toNat (g i8 0)) < m))) ∧ (((((i8 : Nat)) : Int) != ph) = true)) ∧ (((((i8 : Nat)) : Int) != ph) = true)) ∧ (((((i8 : Nat)) : Int) != ph) = true)) ∧ (((((i8 : Nat)) : Int) = (Int.ofNat i8)) ∧ (i8 < m))) ∧ (((((i8 : Nat)) : Int) != ph) = true)) ∧ (((0 + (i8 * 1)) = ((i8 * 1) + 0)) ∧ (i8 < m))) ∧ (((((i8 : Nat)) : Int) != ph) = true)) ∧ ((Bool.not (((h i8 0) == (0 : Int)) == ((((i8 : Nat)) : Int) == ph))) = false)) ∧ (((((i8 : Nat)) : Int) != ph) = true)) ∧ ((Bool.not (((h i8 0) == (0 : Int)) == ((((i8 : Nat)) : Int) == ph))) = false)) ∧ ((decide ((h (Int.toNat (g i8 0)) 0) ≥ (h i8 0))) = false)) ∧ (((.int .i64 (IntKind.i64.wrap ((((i8 : Nat)) : Int) + (1 : Int)))) : Value) = (.int .i64 ((((i8 + 1) : Nat)) : Int))))⟩) := by kernel_rfl
theorem rbr3_k (n : Nat) (c : Nat) (g : Nat → Nat → Int) (e : TypeId) (opn : Bool) (sz : Nat) (ro : Bool) (m : Nat) (c2 : Nat) (h : Nat → Nat → Int) (e2 : TypeId) (opn2 : Bool) (sz2 : Nat) (ro2 : Bool) (ph : Int) (i8 : Nat) (hgi : i8 < n → 0 ≤ g i8 0 ∧ g i8 0 < (n : Int)) (hmn : m = n) (hn : n ≤ 1048576) (h0 : ((i8 : Nat) : Int) < ((n : Nat) : Int)) (h1 : ¬ (h i8 0) < (0 : Int)) (h2 : ((((h i8 0) == (0 : Int))) != ((((i8 : Nat) : Int) == ph))) = false) (h3 : ((i8 : Nat) : Int) ≠ ph) (h4 : (h (Int.toNat (g i8 0)) 0) < (h i8 0)) : KC Tryz.prog none rbX (rbA n c g e opn sz ro m c2 h e2 opn2 sz2 ro2 ph i8).act (wS 6 (rbL n c g e opn sz ro m c2 h e2 opn2 sz2 ro2 ph i8)) .normal (rbA n c g e opn sz ro m c2 h e2 opn2 sz2 ro2 ph (i8 + 1)).act (wS 6 (rbL n c g e opn sz ro m c2 h e2 opn2 sz2 ro2 ph (i8 + 1))) 8 0 := by
  refine seenK_ok smx rbK_ok sng (rbr3_eq n c g e opn sz ro m c2 h e2 opn2 sz2 ro2 ph i8) ?_
  · skip
    repeat' (first | (with_reducible assumption) | exact (fun _ _ _ _ => rfl) | apply And.intro)
    all_goals first | trivial | rfl | assumption | exact decide_eq_true (by omega) | exact decide_eq_false (by omega) | exact bne_iff_ne.2 (by assumption) | exact bne_eq_false_iff_eq.2 (by assumption) | exact beq_iff_eq.2 (by assumption) | exact beq_eq_false_iff_ne.2 (by assumption) | exact wnextW (by omega) | exact wsub1 (by omega) (by omega) | exact toNatO (by omega) | exact congrArg Bool.not (by assumption) | exact congrArg Bool.not (decide_eq_true (by omega)) | exact congrArg Bool.not (decide_eq_false (by omega)) | exact congrArg Bool.not (beq_iff_eq.2 (by assumption)) | exact congrArg Bool.not (beq_eq_false_iff_ne.2 (by assumption)) | exact beq_eq_false_iff_ne.2 (by omega) | exact beq_iff_eq.2 (by omega) | exact bne_iff_ne.2 (by omega) | exact bne_eq_false_iff_eq.2 (by omega) | omega
theorem rbr4_eq (n : Nat) (c : Nat) (g : Nat → Nat → Int) (e : TypeId) (opn : Bool) (sz : Nat) (ro : Bool) (m : Nat) (c2 : Nat) (h : Nat → Nat → Int) (e2 : TypeId) (opn2 : Bool) (sz2 : Nat) (ro2 : Bool) (ph : Int) (i8 : Nat) : seenK 6 2 [] 64 0 (rbr4 n c g e opn sz ro m c2 h e2 opn2 sz2 ro2 ph i8) = some (.ret, rbr4E n c g e opn sz ro m c2 h e2 opn2 sz2 ro2 ph i8, [.rows n 1 (fun i j => .int .i64 (g i j)) e opn sz ro, .rows m 1 (fun i j => .int .i64 (h i j)) e2 opn2 sz2 ro2], 0, ⟨[], (((((((((((((((((((((((((((((((((((((((((True ∧ ((decide ((((i8 : Nat)) : Int) < (((n : Nat)) : Int))) = true)) ∧ (((((i8 : Nat)) : Int) = (Int.ofNat i8)) ∧ (i8 < m))) ∧ (((0 + (i8 * 1)) = ((i8 * 1) + 0)) ∧ (i8 < m))) ∧ ((decide ((h i8 0) < (0 : Int))) = false)) ∧ ((decide ((h i8 0) < (0 : Int))) = false)) ∧ ((decide ((h i8 0) < (0 : Int))) = false)) ∧ (((((i8 : Nat)) : Int) = (Int.ofNat i8)) ∧ (i8 < m))) ∧ ((decide ((h i8 0) < (0 : Int))) = false)) ∧ (((0 + (i8 * 1)) = ((i8 * 1) + 0)) ∧ (i8 < m))) ∧ ((decide ((h i8 0) < (0 : Int))) = false)) ∧ ((decide ((h i8 0) < (0 : Int))) = false)) ∧ ((decide ((h i8 0) < (0 : Int))) = false)) ∧ ((decide ((h i8 0) < (0 : Int))) = false)) ∧ ((decide ((h i8 0) < (0 : Int))) = false)) ∧ ((decide ((h i8 0) < (0 : Int))) = false)) ∧ ((Bool.not (((h i8 0) == (0 : Int)) == ((((i8 : Nat)) : Int) == ph))) = false)) ∧ ((Bool.not (((h i8 0) == (0 : Int)) == ((((i8 : Nat)) : Int) == ph))) = false)) ∧ ((Bool.not (((h i8 0) == (0 : Int)) == ((((i8 : Nat)) : Int) == ph))) = false)) ∧ ((Bool.not (((h i8 0) == (0 : Int)) == ((((i8 : Nat)) : Int) == ph))) = false)) ∧ (((((i8 : Nat)) : Int) != ph) = true)) ∧ (((((i8 : Nat)) : Int) != ph) = true)) ∧ (((((i8 : Nat)) : Int) != ph) = true)) ∧ (((((i8 : Nat)) : Int) != ph) = true)) ∧ (((((i8 : Nat)) : Int) = (Int.ofNat i8)) ∧ (i8 < n))) ∧ (((((i8 : Nat)) : Int) != ph) = true)) ∧ (((0 + (i8 * 1)) = ((i8 * 1) + 0)) ∧ (i8 < n))) ∧ (((((i8 : Nat)) : Int) != ph) = true)) ∧ (((g i8 0) = (Int.ofNat (Int.toNat (g i8 0)))) ∧ ((Int.toNat (g i8 0)) < m))) ∧ (((((i8 : Nat)) : Int) != ph) = true)) ∧ (((0 + ((Int.toNat (g i8 0)) * 1)) = (((Int.toNat (g i8 0)) * 1) + 0)) ∧ ((Int.toNat (g i8 0)) < m))) ∧ (((((i8 : Nat)) : Int) != ph) = true)) ∧ (((((i8 : Nat)) : Int) != ph) = true)) ∧ (((((i8 : Nat)) : Int) != ph) = true)) ∧ (((((i8 : Nat)) : Int) = (Int.ofNat i8)) ∧ (i8 < m))) ∧ (((((i8 : Nat)) : Int) != ph) = true)) ∧ (((0 + (i8 * 1)) = ((i8 * 1) + 0)) ∧ (i8 < m))) ∧ (((((i8 : Nat)) : Int) != ph) = true)) ∧ ((Bool.not (((h i8 0) == (0 : Int)) == ((((i8 : Nat)) : Int) == ph))) = false)) ∧ (((((i8 : Nat)) : Int) != ph) = true)) ∧ ((Bool.not (((h i8 0) == (0 : Int)) == ((((i8 : Nat)) : Int) == ph))) = false)) ∧ ((decide ((h (Int.toNat (g i8 0)) 0) ≥ (h i8 0))) = true))⟩) := by kernel_rfl
theorem rbr4_k (n : Nat) (c : Nat) (g : Nat → Nat → Int) (e : TypeId) (opn : Bool) (sz : Nat) (ro : Bool) (m : Nat) (c2 : Nat) (h : Nat → Nat → Int) (e2 : TypeId) (opn2 : Bool) (sz2 : Nat) (ro2 : Bool) (ph : Int) (i8 : Nat) (hgi : i8 < n → 0 ≤ g i8 0 ∧ g i8 0 < (n : Int)) (hmn : m = n) (hn : n ≤ 1048576) (h0 : ((i8 : Nat) : Int) < ((n : Nat) : Int)) (h1 : ¬ (h i8 0) < (0 : Int)) (h2 : ((((h i8 0) == (0 : Int))) != ((((i8 : Nat) : Int) == ph))) = false) (h3 : ((i8 : Nat) : Int) ≠ ph) (h4 : ¬ (h (Int.toNat (g i8 0)) 0) < (h i8 0)) : KC Tryz.prog none rbX (rbA n c g e opn sz ro m c2 h e2 opn2 sz2 ro2 ph i8).act (wS 6 (rbL n c g e opn sz ro m c2 h e2 opn2 sz2 ro2 ph i8)) .ret (rbr4E n c g e opn sz ro m c2 h e2 opn2 sz2 ro2 ph i8).act (wS 6 [.rows n 1 (fun i j => .int .i64 (g i j)) e opn sz ro, .rows m 1 (fun i j => .int .i64 (h i j)) e2 opn2 sz2 ro2]) 8 0 := by
  refine seenK_ok smx rbK_ok sng (rbr4_eq n c g e opn sz ro m c2 h e2 opn2 sz2 ro2 ph i8) ?_
  · skip
    repeat' (first | (with_reducible assumption) | exact (fun _ _ _ _ => rfl) | apply And.intro)
    all_goals first | trivial | rfl | assumption | exact decide_eq_true (by omega) | exact decide_eq_false (by omega) | exact bne_iff_ne.2 (by assumption) | exact bne_eq_false_iff_eq.2 (by assumption) | exact beq_iff_eq.2 (by assumption) | exact beq_eq_false_iff_ne.2 (by assumption) | exact wnextW (by omega) | exact wsub1 (by omega) (by omega) | exact toNatO (by omega) | exact congrArg Bool.not (by assumption) | exact congrArg Bool.not (decide_eq_true (by omega)) | exact congrArg Bool.not (decide_eq_false (by omega)) | exact congrArg Bool.not (beq_iff_eq.2 (by assumption)) | exact congrArg Bool.not (beq_eq_false_iff_ne.2 (by assumption)) | exact beq_eq_false_iff_ne.2 (by omega) | exact beq_iff_eq.2 (by omega) | exact bne_iff_ne.2 (by omega) | exact bne_eq_false_iff_eq.2 (by omega) | omega
theorem rbr5_eq (n : Nat) (c : Nat) (g : Nat → Nat → Int) (e : TypeId) (opn : Bool) (sz : Nat) (ro : Bool) (m : Nat) (c2 : Nat) (h : Nat → Nat → Int) (e2 : TypeId) (opn2 : Bool) (sz2 : Nat) (ro2 : Bool) (ph : Int) (i8 : Nat) : seenK 6 2 [] 0 0 (rbr5 n c g e opn sz ro m c2 h e2 opn2 sz2 ro2 ph i8) = some ((.exit 0), rbr5E n c g e opn sz ro m c2 h e2 opn2 sz2 ro2 ph i8, [.rows n 1 (fun i j => .int .i64 (g i j)) e opn sz ro, .rows m 1 (fun i j => .int .i64 (h i j)) e2 opn2 sz2 ro2], 0, ⟨[], (True ∧ ((decide ((((i8 : Nat)) : Int) < (((n : Nat)) : Int))) = false))⟩) := by kernel_rfl
theorem rbr5_k (n : Nat) (c : Nat) (g : Nat → Nat → Int) (e : TypeId) (opn : Bool) (sz : Nat) (ro : Bool) (m : Nat) (c2 : Nat) (h : Nat → Nat → Int) (e2 : TypeId) (opn2 : Bool) (sz2 : Nat) (ro2 : Bool) (ph : Int) (i8 : Nat) (hgi : i8 < n → 0 ≤ g i8 0 ∧ g i8 0 < (n : Int)) (hmn : m = n) (hn : n ≤ 1048576) (h0 : ¬ ((i8 : Nat) : Int) < ((n : Nat) : Int)) : KC Tryz.prog none rbX (rbA n c g e opn sz ro m c2 h e2 opn2 sz2 ro2 ph i8).act (wS 6 (rbL n c g e opn sz ro m c2 h e2 opn2 sz2 ro2 ph i8)) (.exit 0) (rbr5E n c g e opn sz ro m c2 h e2 opn2 sz2 ro2 ph i8).act (wS 6 [.rows n 1 (fun i j => .int .i64 (g i j)) e opn sz ro, .rows m 1 (fun i j => .int .i64 (h i j)) e2 opn2 sz2 ro2]) 8 0 := by
  refine seenK_ok smx rbK_ok sng (rbr5_eq n c g e opn sz ro m c2 h e2 opn2 sz2 ro2 ph i8) ?_
  · skip
    repeat' (first | (with_reducible assumption) | exact (fun _ _ _ _ => rfl) | apply And.intro)
    all_goals first | trivial | rfl | assumption | exact decide_eq_true (by omega) | exact decide_eq_false (by omega) | exact bne_iff_ne.2 (by assumption) | exact bne_eq_false_iff_eq.2 (by assumption) | exact beq_iff_eq.2 (by assumption) | exact beq_eq_false_iff_ne.2 (by assumption) | exact wnextW (by omega) | exact wsub1 (by omega) (by omega) | exact toNatO (by omega) | exact congrArg Bool.not (by assumption) | exact congrArg Bool.not (decide_eq_true (by omega)) | exact congrArg Bool.not (decide_eq_false (by omega)) | exact congrArg Bool.not (beq_iff_eq.2 (by assumption)) | exact congrArg Bool.not (beq_eq_false_iff_ne.2 (by assumption)) | exact beq_eq_false_iff_ne.2 (by omega) | exact beq_iff_eq.2 (by omega) | exact bne_iff_ne.2 (by omega) | exact bne_eq_false_iff_eq.2 (by omega) | omega
theorem rb_go (n : Nat) (c : Nat) (g : Nat → Nat → Int) (e : TypeId) (opn : Bool) (sz : Nat) (ro : Bool) (m : Nat) (c2 : Nat) (h : Nat → Nat → Int) (e2 : TypeId) (opn2 : Bool) (sz2 : Nat) (ro2 : Bool) (ph : Int) (hg : ∀ i, i < n → 0 ≤ g i 0 ∧ g i 0 < (n : Int)) (hmn : m = n) (hn : n ≤ 1048576) {i : Nat} (hi : i < n) (hq : cbE g h ph i = 0) : KC Tryz.prog none rbX (rbA n c g e opn sz ro m c2 h e2 opn2 sz2 ro2 ph i).act (wS 6 (rbL n c g e opn sz ro m c2 h e2 opn2 sz2 ro2 ph i)) .normal (rbA n c g e opn sz ro m c2 h e2 opn2 sz2 ro2 ph (i + 1)).act (wS 6 (rbL n c g e opn sz ro m c2 h e2 opn2 sz2 ro2 ph (i + 1))) 8 0 := by
  rcases cbE_at hq with ⟨c1, d1⟩ | ⟨c1, d1, d2⟩
  · exact rbr2_k n c g e opn sz ro m c2 h e2 opn2 sz2 ro2 ph i (hg i) hmn hn (by omega) (by omega) (bneB (beq_iff_eq.2 d1) (beq_iff_eq.2 c1)) c1
  · exact rbr3_k n c g e opn sz ro m c2 h e2 opn2 sz2 ro2 ph i (hg i) hmn hn (by omega) (by omega) (bneB (beq_eq_false_iff_ne.2 (by omega)) (beq_eq_false_iff_ne.2 c1)) c1 d2
theorem rb_bad (n : Nat) (c : Nat) (g : Nat → Nat → Int) (e : TypeId) (opn : Bool) (sz : Nat) (ro : Bool) (m : Nat) (c2 : Nat) (h : Nat → Nat → Int) (e2 : TypeId) (opn2 : Bool) (sz2 : Nat) (ro2 : Bool) (ph : Int) (hg : ∀ i, i < n → 0 ≤ g i 0 ∧ g i 0 < (n : Int)) (hmn : m = n) (hn : n ≤ 1048576) {i : Nat} (hi : i < n) (hq : cbE g h ph i ≠ 0) : KC Tryz.prog none rbX (rbA n c g e opn sz ro m c2 h e2 opn2 sz2 ro2 ph i).act (wS 6 (rbL n c g e opn sz ro m c2 h e2 opn2 sz2 ro2 ph i)) .ret (rbr0E n c g e opn sz ro m c2 h e2 opn2 sz2 ro2 ph i).act (wS 6 (rbL n c g e opn sz ro m c2 h e2 opn2 sz2 ro2 ph i)) 8 0 := by
  obtain ⟨_, hq⟩ := cbE_no hq
  by_cases d0 : h i 0 < 0
  · exact rbr0_k n c g e opn sz ro m c2 h e2 opn2 sz2 ro2 ph i (hg i) hmn hn (by omega) d0
  · rcases hq with ⟨c1, d1⟩ | ⟨c1, d1⟩
    · exact rbr1_k n c g e opn sz ro m c2 h e2 opn2 sz2 ro2 ph i (hg i) hmn hn (by omega) d0 (bneB (beq_eq_false_iff_ne.2 d1) (beq_iff_eq.2 c1))
    · by_cases d2 : h i 0 = 0
      · exact rbr1_k n c g e opn sz ro m c2 h e2 opn2 sz2 ro2 ph i (hg i) hmn hn (by omega) d0 (bneB (beq_iff_eq.2 d2) (beq_eq_false_iff_ne.2 c1))
      · exact rbr4_k n c g e opn sz ro m c2 h e2 opn2 sz2 ro2 ph i (hg i) hmn hn (by omega) d0 (bneB (beq_eq_false_iff_ne.2 d2) (beq_eq_false_iff_ne.2 c1)) c1 (fun k => d1 ⟨by omega, k⟩)
theorem rb_ret (n : Nat) (c : Nat) (g : Nat → Nat → Int) (e : TypeId) (opn : Bool) (sz : Nat) (ro : Bool) (m : Nat) (c2 : Nat) (h : Nat → Nat → Int) (e2 : TypeId) (opn2 : Bool) (sz2 : Nat) (ro2 : Bool) (ph : Int) (hg : ∀ i, i < n → 0 ≤ g i 0 ∧ g i 0 < (n : Int)) (hmn : m = n) (hn : n ≤ 1048576) (j : Nat) (hj : j < n) (h1 : ∀ i, i < j → cbE g h ph i = 0) (h2 : cbE g h ph j ≠ 0) : KC Tryz.prog none (.loop rbX) (rbA n c g e opn sz ro m c2 h e2 opn2 sz2 ro2 ph 0).act (wS 6 (rbL n c g e opn sz ro m c2 h e2 opn2 sz2 ro2 ph 0)) .ret (rbr0E n c g e opn sz ro m c2 h e2 opn2 sz2 ro2 ph j).act (wS 6 (rbL n c g e opn sz ro m c2 h e2 opn2 sz2 ro2 ph j)) 8 0 :=
  K_rounds (A := fun i => (rbA n c g e opn sz ro m c2 h e2 opn2 sz2 ro2 ph i).act) (S := fun i => wS 6 (rbL n c g e opn sz ro m c2 h e2 opn2 sz2 ro2 ph i)) j (fun i hi => rb_go n c g e opn sz ro m c2 h e2 opn2 sz2 ro2 ph hg hmn hn (by omega) (h1 i hi)) (rb_bad n c g e opn sz ro m c2 h e2 opn2 sz2 ro2 ph hg hmn hn hj h2) (by simp)
theorem rb_all (n : Nat) (c : Nat) (g : Nat → Nat → Int) (e : TypeId) (opn : Bool) (sz : Nat) (ro : Bool) (m : Nat) (c2 : Nat) (h : Nat → Nat → Int) (e2 : TypeId) (opn2 : Bool) (sz2 : Nat) (ro2 : Bool) (ph : Int) (hg : ∀ i, i < n → 0 ≤ g i 0 ∧ g i 0 < (n : Int)) (hmn : m = n) (hn : n ≤ 1048576) (h1 : ∀ i, i < n → cbE g h ph i = 0) : KC Tryz.prog none (.loop rbX) (rbA n c g e opn sz ro m c2 h e2 opn2 sz2 ro2 ph 0).act (wS 6 (rbL n c g e opn sz ro m c2 h e2 opn2 sz2 ro2 ph 0)) (.exit 0) (rbr5E n c g e opn sz ro m c2 h e2 opn2 sz2 ro2 ph n).act (wS 6 (rbL n c g e opn sz ro m c2 h e2 opn2 sz2 ro2 ph n)) 8 0 :=
  K_rounds (A := fun i => (rbA n c g e opn sz ro m c2 h e2 opn2 sz2 ro2 ph i).act) (S := fun i => wS 6 (rbL n c g e opn sz ro m c2 h e2 opn2 sz2 ro2 ph i)) n (fun i hi => rb_go n c g e opn sz ro m c2 h e2 opn2 sz2 ro2 ph hg hmn hn hi (h1 i hi)) (rbr5_k n c g e opn sz ro m c2 h e2 opn2 sz2 ro2 ph n (fun k => absurd k (Nat.lt_irrefl n)) hmn hn (by omega)) (by simp)
theorem rbf0_eq (n : Nat) (c : Nat) (g : Nat → Nat → Int) (e : TypeId) (opn : Bool) (sz : Nat) (ro : Bool) (m : Nat) (c2 : Nat) (h : Nat → Nat → Int) (e2 : TypeId) (opn2 : Bool) (sz2 : Nat) (ro2 : Bool) (ph : Int) (jj : Nat) : seenF' Tryz.prog Tryz.f62 6 2 [] (rbf0 n c g e opn sz ro m c2 h e2 opn2 sz2 ro2 ph jj) = some (.int .i64 (19 : Int), rbS n c g e opn sz ro m c2 h e2 opn2 sz2 ro2 ph ++ [], ⟨[], ((((True ∧ (((n = n) ∧ (∀ (i : Nat), ((i < n) → (∀ (j : Nat), ((j < (1 : Nat)) → ((Value.int .i64 (g i j)) = (Value.int .i64 (gI (Value.int .i64 (g i j)))))))))) ∧ ((((n : Nat)) : Int) ≤ (9223372036854775807 : Int)))) ∧ (((th2 (crV n (fun (i : Nat) => (fun (j : Nat) => (gI (Value.int .i64 (g i j)))))) (ixE ph (((n : Nat)) : Int))) != (0 : Int)) = false)) ∧ (((((m : Nat)) : Int) != (((n : Nat)) : Int)) = false)) ∧ ((((rbA n c g e opn sz ro m c2 h e2 opn2 sz2 ro2 ph (0 : Nat)) = (rbA n c g e opn sz ro m c2 h e2 opn2 sz2 ro2 ph (0 : Nat))) ∧ ((8 = (6 + 2)) ∧ ((HAppend.hAppend (List.replicate (6 : Nat) MObj.hole) (rbL n c g e opn sz ro m c2 h e2 opn2 sz2 ro2 ph (0 : Nat))) = (HAppend.hAppend (List.replicate (6 : Nat) MObj.hole) (rbL n c g e opn sz ro m c2 h e2 opn2 sz2 ro2 ph (0 : Nat)))))) ∧ KC Tryz.prog none (.loop rbX) (rbA n c g e opn sz ro m c2 h e2 opn2 sz2 ro2 ph 0).act (wS 6 (rbL n c g e opn sz ro m c2 h e2 opn2 sz2 ro2 ph 0)) .ret (rbr0E n c g e opn sz ro m c2 h e2 opn2 sz2 ro2 ph jj).act (wS 6 [.rows n 1 (fun i j => .int .i64 (g i j)) e opn sz ro, .rows m 1 (fun i j => .int .i64 (h i j)) e2 opn2 sz2 ro2]) 8 0))⟩) := by kernel_rfl
theorem rbf0_s (n : Nat) (c : Nat) (g : Nat → Nat → Int) (e : TypeId) (opn : Bool) (sz : Nat) (ro : Bool) (m : Nat) (c2 : Nat) (h : Nat → Nat → Int) (e2 : TypeId) (opn2 : Bool) (sz2 : Nat) (ro2 : Bool) (ph : Int) (jj : Nat) (hx : (n : Int) ≤ 1048576) (h0 : (th2 (crV n g) (ixE ph ((n : Nat) : Int))) = (0 : Int)) (h1 : ((m : Nat) : Int) = ((n : Nat) : Int)) (l0 : KC Tryz.prog none (.loop rbX) (rbA n c g e opn sz ro m c2 h e2 opn2 sz2 ro2 ph 0).act (wS 6 (rbL n c g e opn sz ro m c2 h e2 opn2 sz2 ro2 ph 0)) .ret (rbr0E n c g e opn sz ro m c2 h e2 opn2 sz2 ro2 ph jj).act (wS 6 [.rows n 1 (fun i j => .int .i64 (g i j)) e opn sz ro, .rows m 1 (fun i j => .int .i64 (h i j)) e2 opn2 sz2 ro2]) 8 0) : SndF Tryz.prog 62 (rbArgs n c g e opn sz ro m c2 h e2 opn2 sz2 ro2 ph) (wS 6 (rbS n c g e opn sz ro m c2 h e2 opn2 sz2 ro2 ph)) (.int .i64 (19 : Int)) (wS 6 (rbS n c g e opn sz ro m c2 h e2 opn2 sz2 ro2 ph)) 192 0 :=
  sndF_K (L := rbS n c g e opn sz ro m c2 h e2 opn2 sz2 ro2 ph) (L2 := []) (ms := []) smx rbK_ok sng (by kernel_rfl) (by kernel_rfl) (rbf0_eq n c g e opn sz ro m c2 h e2 opn2 sz2 ro2 ph jj) (by
    repeat' (first | (with_reducible assumption) | exact (fun _ _ _ _ => rfl) | apply And.intro)
    all_goals first | trivial | rfl | assumption | exact decide_eq_true (by omega) | exact decide_eq_false (by omega) | exact bne_iff_ne.2 (by assumption) | exact bne_eq_false_iff_eq.2 (by assumption) | exact beq_iff_eq.2 (by assumption) | exact beq_eq_false_iff_ne.2 (by assumption) | exact wnextW (by omega) | exact wsub1 (by omega) (by omega) | exact toNatO (by omega) | exact congrArg Bool.not (by assumption) | exact congrArg Bool.not (decide_eq_true (by omega)) | exact congrArg Bool.not (decide_eq_false (by omega)) | exact congrArg Bool.not (beq_iff_eq.2 (by assumption)) | exact congrArg Bool.not (beq_eq_false_iff_ne.2 (by assumption)) | exact beq_eq_false_iff_ne.2 (by omega) | exact beq_iff_eq.2 (by omega) | exact bne_iff_ne.2 (by omega) | exact bne_eq_false_iff_eq.2 (by omega) | omega) (by kernel_rfl) (fun o ho => by
      simp only [rbS, List.mem_cons, List.not_mem_nil, or_false] at ho
      rcases ho with rfl | rfl
      all_goals first | rfl | exact fun i j => rfl) (fun o ho => by cases ho) (by kernel_rfl)
theorem rbf1_eq (n : Nat) (c : Nat) (g : Nat → Nat → Int) (e : TypeId) (opn : Bool) (sz : Nat) (ro : Bool) (m : Nat) (c2 : Nat) (h : Nat → Nat → Int) (e2 : TypeId) (opn2 : Bool) (sz2 : Nat) (ro2 : Bool) (ph : Int) : seenF' Tryz.prog Tryz.f62 6 2 [] (rbf1 n c g e opn sz ro m c2 h e2 opn2 sz2 ro2 ph) = some (.int .i64 (0 : Int), rbS n c g e opn sz ro m c2 h e2 opn2 sz2 ro2 ph ++ [], ⟨[], ((((True ∧ (((n = n) ∧ (∀ (i : Nat), ((i < n) → (∀ (j : Nat), ((j < (1 : Nat)) → ((Value.int .i64 (g i j)) = (Value.int .i64 (gI (Value.int .i64 (g i j)))))))))) ∧ ((((n : Nat)) : Int) ≤ (9223372036854775807 : Int)))) ∧ (((th2 (crV n (fun (i : Nat) => (fun (j : Nat) => (gI (Value.int .i64 (g i j)))))) (ixE ph (((n : Nat)) : Int))) != (0 : Int)) = false)) ∧ (((((m : Nat)) : Int) != (((n : Nat)) : Int)) = false)) ∧ ((((rbA n c g e opn sz ro m c2 h e2 opn2 sz2 ro2 ph (0 : Nat)) = (rbA n c g e opn sz ro m c2 h e2 opn2 sz2 ro2 ph (0 : Nat))) ∧ ((8 = (6 + 2)) ∧ ((HAppend.hAppend (List.replicate (6 : Nat) MObj.hole) (rbL n c g e opn sz ro m c2 h e2 opn2 sz2 ro2 ph (0 : Nat))) = (HAppend.hAppend (List.replicate (6 : Nat) MObj.hole) (rbL n c g e opn sz ro m c2 h e2 opn2 sz2 ro2 ph (0 : Nat)))))) ∧ KC Tryz.prog none (.loop rbX) (rbA n c g e opn sz ro m c2 h e2 opn2 sz2 ro2 ph 0).act (wS 6 (rbL n c g e opn sz ro m c2 h e2 opn2 sz2 ro2 ph 0)) (.exit 0) (rbr5E n c g e opn sz ro m c2 h e2 opn2 sz2 ro2 ph n).act (wS 6 [.rows n 1 (fun i j => .int .i64 (g i j)) e opn sz ro, .rows m 1 (fun i j => .int .i64 (h i j)) e2 opn2 sz2 ro2]) 8 0))⟩) := by kernel_rfl
theorem rbf1_s (n : Nat) (c : Nat) (g : Nat → Nat → Int) (e : TypeId) (opn : Bool) (sz : Nat) (ro : Bool) (m : Nat) (c2 : Nat) (h : Nat → Nat → Int) (e2 : TypeId) (opn2 : Bool) (sz2 : Nat) (ro2 : Bool) (ph : Int) (hx : (n : Int) ≤ 1048576) (h0 : (th2 (crV n g) (ixE ph ((n : Nat) : Int))) = (0 : Int)) (h1 : ((m : Nat) : Int) = ((n : Nat) : Int)) (l0 : KC Tryz.prog none (.loop rbX) (rbA n c g e opn sz ro m c2 h e2 opn2 sz2 ro2 ph 0).act (wS 6 (rbL n c g e opn sz ro m c2 h e2 opn2 sz2 ro2 ph 0)) (.exit 0) (rbr5E n c g e opn sz ro m c2 h e2 opn2 sz2 ro2 ph n).act (wS 6 [.rows n 1 (fun i j => .int .i64 (g i j)) e opn sz ro, .rows m 1 (fun i j => .int .i64 (h i j)) e2 opn2 sz2 ro2]) 8 0) : SndF Tryz.prog 62 (rbArgs n c g e opn sz ro m c2 h e2 opn2 sz2 ro2 ph) (wS 6 (rbS n c g e opn sz ro m c2 h e2 opn2 sz2 ro2 ph)) (.int .i64 (0 : Int)) (wS 6 (rbS n c g e opn sz ro m c2 h e2 opn2 sz2 ro2 ph)) 192 0 :=
  sndF_K (L := rbS n c g e opn sz ro m c2 h e2 opn2 sz2 ro2 ph) (L2 := []) (ms := []) smx rbK_ok sng (by kernel_rfl) (by kernel_rfl) (rbf1_eq n c g e opn sz ro m c2 h e2 opn2 sz2 ro2 ph) (by
    repeat' (first | (with_reducible assumption) | exact (fun _ _ _ _ => rfl) | apply And.intro)
    all_goals first | trivial | rfl | assumption | exact decide_eq_true (by omega) | exact decide_eq_false (by omega) | exact bne_iff_ne.2 (by assumption) | exact bne_eq_false_iff_eq.2 (by assumption) | exact beq_iff_eq.2 (by assumption) | exact beq_eq_false_iff_ne.2 (by assumption) | exact wnextW (by omega) | exact wsub1 (by omega) (by omega) | exact toNatO (by omega) | exact congrArg Bool.not (by assumption) | exact congrArg Bool.not (decide_eq_true (by omega)) | exact congrArg Bool.not (decide_eq_false (by omega)) | exact congrArg Bool.not (beq_iff_eq.2 (by assumption)) | exact congrArg Bool.not (beq_eq_false_iff_ne.2 (by assumption)) | exact beq_eq_false_iff_ne.2 (by omega) | exact beq_iff_eq.2 (by omega) | exact bne_iff_ne.2 (by omega) | exact bne_eq_false_iff_eq.2 (by omega) | omega) (by kernel_rfl) (fun o ho => by
      simp only [rbS, List.mem_cons, List.not_mem_nil, or_false] at ho
      rcases ho with rfl | rfl
      all_goals first | rfl | exact fun i j => rfl) (fun o ho => by cases ho) (by kernel_rfl)
theorem rbf2_eq (n : Nat) (c : Nat) (g : Nat → Nat → Int) (e : TypeId) (opn : Bool) (sz : Nat) (ro : Bool) (m : Nat) (c2 : Nat) (h : Nat → Nat → Int) (e2 : TypeId) (opn2 : Bool) (sz2 : Nat) (ro2 : Bool) (ph : Int) : seenF' Tryz.prog Tryz.f62 6 2 [] (rbf2 n c g e opn sz ro m c2 h e2 opn2 sz2 ro2 ph) = some (.int .i64 (2 : Int), rbS n c g e opn sz ro m c2 h e2 opn2 sz2 ro2 ph ++ [], ⟨[], (((True ∧ (((n = n) ∧ (∀ (i : Nat), ((i < n) → (∀ (j : Nat), ((j < (1 : Nat)) → ((Value.int .i64 (g i j)) = (Value.int .i64 (gI (Value.int .i64 (g i j)))))))))) ∧ ((((n : Nat)) : Int) ≤ (9223372036854775807 : Int)))) ∧ (((th2 (crV n (fun (i : Nat) => (fun (j : Nat) => (gI (Value.int .i64 (g i j)))))) (ixE ph (((n : Nat)) : Int))) != (0 : Int)) = false)) ∧ (((((m : Nat)) : Int) != (((n : Nat)) : Int)) = true))⟩) := by kernel_rfl
theorem rbf2_s (n : Nat) (c : Nat) (g : Nat → Nat → Int) (e : TypeId) (opn : Bool) (sz : Nat) (ro : Bool) (m : Nat) (c2 : Nat) (h : Nat → Nat → Int) (e2 : TypeId) (opn2 : Bool) (sz2 : Nat) (ro2 : Bool) (ph : Int) (hx : (n : Int) ≤ 1048576) (h0 : (th2 (crV n g) (ixE ph ((n : Nat) : Int))) = (0 : Int)) (h1 : ((m : Nat) : Int) ≠ ((n : Nat) : Int)) : SndF Tryz.prog 62 (rbArgs n c g e opn sz ro m c2 h e2 opn2 sz2 ro2 ph) (wS 6 (rbS n c g e opn sz ro m c2 h e2 opn2 sz2 ro2 ph)) (.int .i64 (2 : Int)) (wS 6 (rbS n c g e opn sz ro m c2 h e2 opn2 sz2 ro2 ph)) 192 0 :=
  sndF_K (L := rbS n c g e opn sz ro m c2 h e2 opn2 sz2 ro2 ph) (L2 := []) (ms := []) smx rbK_ok sng (by kernel_rfl) (by kernel_rfl) (rbf2_eq n c g e opn sz ro m c2 h e2 opn2 sz2 ro2 ph) (by
    repeat' (first | (with_reducible assumption) | exact (fun _ _ _ _ => rfl) | apply And.intro)
    all_goals first | trivial | rfl | assumption | exact decide_eq_true (by omega) | exact decide_eq_false (by omega) | exact bne_iff_ne.2 (by assumption) | exact bne_eq_false_iff_eq.2 (by assumption) | exact beq_iff_eq.2 (by assumption) | exact beq_eq_false_iff_ne.2 (by assumption) | exact wnextW (by omega) | exact wsub1 (by omega) (by omega) | exact toNatO (by omega) | exact congrArg Bool.not (by assumption) | exact congrArg Bool.not (decide_eq_true (by omega)) | exact congrArg Bool.not (decide_eq_false (by omega)) | exact congrArg Bool.not (beq_iff_eq.2 (by assumption)) | exact congrArg Bool.not (beq_eq_false_iff_ne.2 (by assumption)) | exact beq_eq_false_iff_ne.2 (by omega) | exact beq_iff_eq.2 (by omega) | exact bne_iff_ne.2 (by omega) | exact bne_eq_false_iff_eq.2 (by omega) | omega) (by kernel_rfl) (fun o ho => by
      simp only [rbS, List.mem_cons, List.not_mem_nil, or_false] at ho
      rcases ho with rfl | rfl
      all_goals first | rfl | exact fun i j => rfl) (fun o ho => by cases ho) (by kernel_rfl)
theorem rbf3_eq (n : Nat) (c : Nat) (g : Nat → Nat → Int) (e : TypeId) (opn : Bool) (sz : Nat) (ro : Bool) (m : Nat) (c2 : Nat) (h : Nat → Nat → Int) (e2 : TypeId) (opn2 : Bool) (sz2 : Nat) (ro2 : Bool) (ph : Int) : seenF' Tryz.prog Tryz.f62 6 2 [] (rbf3 n c g e opn sz ro m c2 h e2 opn2 sz2 ro2 ph) = some (.int .i64 (th2 (crV n g) (ixE ph ((n : Nat) : Int))), rbS n c g e opn sz ro m c2 h e2 opn2 sz2 ro2 ph ++ [], ⟨[], ((True ∧ (((n = n) ∧ (∀ (i : Nat), ((i < n) → (∀ (j : Nat), ((j < (1 : Nat)) → ((Value.int .i64 (g i j)) = (Value.int .i64 (gI (Value.int .i64 (g i j)))))))))) ∧ ((((n : Nat)) : Int) ≤ (9223372036854775807 : Int)))) ∧ (((th2 (crV n (fun (i : Nat) => (fun (j : Nat) => (gI (Value.int .i64 (g i j)))))) (ixE ph (((n : Nat)) : Int))) != (0 : Int)) = true))⟩) := by kernel_rfl
theorem rbf3_s (n : Nat) (c : Nat) (g : Nat → Nat → Int) (e : TypeId) (opn : Bool) (sz : Nat) (ro : Bool) (m : Nat) (c2 : Nat) (h : Nat → Nat → Int) (e2 : TypeId) (opn2 : Bool) (sz2 : Nat) (ro2 : Bool) (ph : Int) (hx : (n : Int) ≤ 1048576) (h0 : (th2 (crV n g) (ixE ph ((n : Nat) : Int))) ≠ (0 : Int)) : SndF Tryz.prog 62 (rbArgs n c g e opn sz ro m c2 h e2 opn2 sz2 ro2 ph) (wS 6 (rbS n c g e opn sz ro m c2 h e2 opn2 sz2 ro2 ph)) (.int .i64 (th2 (crV n g) (ixE ph ((n : Nat) : Int)))) (wS 6 (rbS n c g e opn sz ro m c2 h e2 opn2 sz2 ro2 ph)) 192 0 :=
  sndF_K (L := rbS n c g e opn sz ro m c2 h e2 opn2 sz2 ro2 ph) (L2 := []) (ms := []) smx rbK_ok sng (by kernel_rfl) (by kernel_rfl) (rbf3_eq n c g e opn sz ro m c2 h e2 opn2 sz2 ro2 ph) (by
    repeat' (first | (with_reducible assumption) | exact (fun _ _ _ _ => rfl) | apply And.intro)
    all_goals first | trivial | rfl | assumption | exact decide_eq_true (by omega) | exact decide_eq_false (by omega) | exact bne_iff_ne.2 (by assumption) | exact bne_eq_false_iff_eq.2 (by assumption) | exact beq_iff_eq.2 (by assumption) | exact beq_eq_false_iff_ne.2 (by assumption) | exact wnextW (by omega) | exact wsub1 (by omega) (by omega) | exact toNatO (by omega) | exact congrArg Bool.not (by assumption) | exact congrArg Bool.not (decide_eq_true (by omega)) | exact congrArg Bool.not (decide_eq_false (by omega)) | exact congrArg Bool.not (beq_iff_eq.2 (by assumption)) | exact congrArg Bool.not (beq_eq_false_iff_ne.2 (by assumption)) | exact beq_eq_false_iff_ne.2 (by omega) | exact beq_iff_eq.2 (by omega) | exact bne_iff_ne.2 (by omega) | exact bne_eq_false_iff_eq.2 (by omega) | omega) (by kernel_rfl) (fun o ho => by
      simp only [rbS, List.mem_cons, List.not_mem_nil, or_false] at ho
      rcases ho with rfl | rfl
      all_goals first | rfl | exact fun i j => rfl) (fun o ho => by cases ho) (by kernel_rfl)
theorem rb_sndF (n : Nat) (c : Nat) (g : Nat → Nat → Int) (e : TypeId) (opn : Bool) (sz : Nat) (ro : Bool) (m : Nat) (c2 : Nat) (h : Nat → Nat → Int) (e2 : TypeId) (opn2 : Bool) (sz2 : Nat) (ro2 : Bool) (ph : Int) (hn : n ≤ 1048576) : SndF Tryz.prog 62 (rbArgs n c g e opn sz ro m c2 h e2 opn2 sz2 ro2 ph) (wS 6 (rbS n c g e opn sz ro m c2 h e2 opn2 sz2 ro2 ph)) (.int .i64 (cbV n g m h ph)) (wS 6 (rbS n c g e opn sz ro m c2 h e2 opn2 sz2 ro2 ph)) 192 0 := by
  have hx : (n : Int) ≤ 1048576 := by omega
  unfold cbV
  by_cases hq : th2 (crV n g) (ixE ph n) = 0
  · have hc : crV n g = 0 ∧ ixE ph (n : Int) = 0 := by
      unfold th2 at hq
      split at hq
      · exact ⟨by assumption, hq⟩
      · exact absurd hq (by assumption)
    have hg := (crV_ok hc.1).2
    rw [show ∀ b, th2 (th2 (crV n g) (ixE ph n)) b = b from fun b => if_pos hq]
    by_cases h2 : m = n
    · rw [if_pos h2]
      rcases first_or (p := fun i => cbE g h ph i ≠ 0) (fun _ => inferInstance) n with k | ⟨j, hj, k1, k2⟩
      · have k4 : ∀ i, i < n → cbE g h ph i = 0 := fun i hi => Decidable.not_not.1 (k i hi)
        rw [feN_all fun i _ hi => k4 i (by omega)]
        exact rbf1_s n c g e opn sz ro m c2 h e2 opn2 sz2 ro2 ph hx hq (by omega) (rb_all n c g e opn sz ro m c2 h e2 opn2 sz2 ro2 ph hg h2 hn k4)
      · have k4 : ∀ i, i < j → cbE g h ph i = 0 := fun i hi => Decidable.not_not.1 (k2 i hi)
        rw [feN_first (Nat.zero_le j) (by omega) (fun i _ hi => k4 i hi) k1, (cbE_no k1).1]
        exact rbf0_s n c g e opn sz ro m c2 h e2 opn2 sz2 ro2 ph j hx hq (by omega) (rb_ret n c g e opn sz ro m c2 h e2 opn2 sz2 ro2 ph hg h2 hn j hj k4 k1)
    · rw [if_neg h2]
      exact rbf2_s n c g e opn sz ro m c2 h e2 opn2 sz2 ro2 ph hx hq (by omega)
  · rw [show ∀ b, th2 (th2 (crV n g) (ixE ph n)) b = th2 (crV n g) (ixE ph n) from fun b => if_neg hq]
    exact rbf3_s n c g e opn sz ro m c2 h e2 opn2 sz2 ro2 ph hx hq
def kRb : CallS := fun f xs s q => match decide (f = 62) with
  | true => match xs.toList with
    | [.slice (some ⟨b, 0, none⟩) n c, .int .i64 ph, .slice (some ⟨b2, 0, none⟩) m c2] => match Nat.ble 6 b, Nat.ble 6 b2, Nat.beq b b2, rowK 1 .i64 s b n, rowK 1 .i64 s b2 m with
      | true, true, false, some (g, _, _, _, _, p), some (h, _, _, _, _, p2) => some (.int .i64 (cbV n g m h ph), s, 2 ^ b ||| 2 ^ b2, 0, ⟨q.rest, q.ob ∧ (p ∧ p2 ∧ (n ≤ 1048576))⟩)
      | _, _, _, _, _ => none
    | _ => none
  | false => none
theorem kRb_ok : FOkS Tryz.prog kRb := fun f xs s q u s1 R W q1 he => by
  unfold kRb at he
  split at he
  · rename_i hf
    have hf := of_decide_eq_true hf
    subst hf
    split at he
    · rename_i b n c ph b2 m c2 hx0
      have hxs : xs = #[.slice (some ⟨b, 0, none⟩) n c, .int .i64 ph, .slice (some ⟨b2, 0, none⟩) m c2] := by apply Array.ext'; exact hx0
      subst hxs
      split at he
      · rename_i g e opn sz ro p h e2 opn2 sz2 ro2 p2 h1 h2 h3 h4 h5
        cases he
        refine ⟨fun hq => hq.1, fun hq => ?_⟩
        obtain ⟨k1, k2, hx⟩ := hq.2
        obtain ⟨l1, w1⟩ := rowK_wo h4 k1
        obtain ⟨l2, w2⟩ := rowK_wo h5 k2
        have b1 := Nat.le_of_ble_eq_true h1
        have b3 := Nat.le_of_ble_eq_true h2
        have hne : b ≠ b2 := fun e => by rw [e, Nat.beq_refl] at h3; cases h3
        refine SndF.rows (N := 6) (bs := [b, b2]) (s0 := wS 6 [rowI 1 n g e opn sz ro, rowI 1 m h e2 opn2 sz2 ro2]) sng (rb_sndF n c g e opn sz ro m c2 h e2 opn2 sz2 ro2 ph hx) rfl rfl (fun x hx => ?_) (by simp [hne]) (by omega) (fun x hx _ => ?_) (fun x hx => ?_) (fun f j hj => ?_) (fun f _ hf => ?_)
        · simp at hx
          rcases hx with rfl | rfl <;> omega
        · rcases Nat.lt_or_ge x 6 with k | k
          · have hz := (by decide : ∀ b, b < 6 → Nat.testBit 192 b = false) x k
            rw [hz] at hx; cases hx
          · exact k
        · simp at hx
          rcases hx with rfl | rfl <;> simp [or_bit, bit_self]
        · match j, hj with
          | 0, _ => exact w1 f
          | 1, _ => exact w2 f
        · exact wvs_three (slice_wv (hf 0 (by simp))) (ground_wv (n := 8) rfl) (slice_wv (hf 1 (by simp)))
      · cases he
    · cases he
  · cases he
end Go.Proofs.YtecabbbjdnambaaGreatDoor
end
section
set_option linter.all false
set_option maxRecDepth 1000000
open Go.RowKit
namespace Go.Proofs.YtecabbbjdnambaaGreatDoor
open Mini
noncomputable def siX : Code := loopOf Tryz.prog 25
def siA (n m c d i : Nat) : MA := MA.ofL 26 [.slice (some ⟨6, 0, none⟩) n c, .slice (some ⟨7, 0, none⟩) m d, .chan none, .chan none, .bool false, .int .i64 (i : Int), .chan none, .chan none, .chan none, .chan none, .chan none, .chan none, .chan none, .chan none, .chan none, .chan none, .chan none, .chan none, .chan none, .chan none, .chan none, .chan none, .chan none, .chan none, .chan none, .chan none] []
def siArgs (n m c d : Nat) : Array Value := #[.slice (some ⟨6, 0, none⟩) n c, .slice (some ⟨7, 0, none⟩) m d]
noncomputable def siR (n m c d : Nat) (g h : Nat → Nat → Int) (e e2 : TypeId) (o o2 : Bool) (z z2 : Nat) (r r2 : Bool) (i : Nat) : Option OutCS := evCRS Tryz.prog noXS 1000 none false siX (siA n m c d i) (wS 6 [rowI 1 n g e o z r, rowI 1 m h e2 o2 z2 r2]) ⟨[1, .row i 0, .row i 0, .row i 0, .row i 0, 0, .azz (.int .i64 ((i + 1 : Nat) : Int))], True⟩
noncomputable def siW (n m c d : Nat) (g h : Nat → Nat → Int) (e e2 : TypeId) (o o2 : Bool) (z z2 : Nat) (r r2 : Bool) (i : Nat) : Option OutCS := evCRS Tryz.prog noXS 1000 none false siX (siA n m c d i) (wS 6 [rowI 1 n g e o z r, rowI 1 m h e2 o2 z2 r2]) ⟨[1, .row i 0, .row i 0, .row i 0, .row i 0, 1], True⟩
noncomputable def siE (n m c d : Nat) (g h : Nat → Nat → Int) (e e2 : TypeId) (o o2 : Bool) (z z2 : Nat) (r r2 : Bool) (i : Nat) : Option OutCS := evCRS Tryz.prog noXS 1000 none false siX (siA n m c d i) (wS 6 [rowI 1 n g e o z r, rowI 1 m h e2 o2 z2 r2]) ⟨[0], True⟩
noncomputable def siF_ne (n m c d : Nat) (g h : Nat → Nat → Int) (e e2 : TypeId) (o o2 : Bool) (z z2 : Nat) (r r2 : Bool) : Option OutS := evFS Tryz.prog noXS 1000 25 (siArgs n m c d) (wS 6 [rowI 1 n g e o z r, rowI 1 m h e2 o2 z2 r2]) ⟨[1], True⟩
noncomputable def siF_ret (n m c d : Nat) (g h : Nat → Nat → Int) (e e2 : TypeId) (o o2 : Bool) (z z2 : Nat) (r r2 : Bool) (i : Nat) : Option OutS := evFS Tryz.prog noXS 1000 25 (siArgs n m c d) (wS 6 [rowI 1 n g e o z r, rowI 1 m h e2 o2 z2 r2]) ⟨[0, .lp 51 (siA n m c d 0) 6 [rowI 1 n g e o z r, rowI 1 m h e2 o2 z2 r2] .ret (siA n m c d i) [rowI 1 n g e o z r, rowI 1 m h e2 o2 z2 r2] 192 0], True⟩
noncomputable def siF_end (n m c d : Nat) (g h : Nat → Nat → Int) (e e2 : TypeId) (o o2 : Bool) (z z2 : Nat) (r r2 : Bool) (i : Nat) : Option OutS := evFS Tryz.prog noXS 1000 25 (siArgs n m c d) (wS 6 [rowI 1 n g e o z r, rowI 1 m h e2 o2 z2 r2]) ⟨[0, .lp 51 (siA n m c d 0) 6 [rowI 1 n g e o z r, rowI 1 m h e2 o2 z2 r2] (.exit 0) (siA n m c d i) [rowI 1 n g e o z r, rowI 1 m h e2 o2 z2 r2] 192 0], True⟩
section
variable (n m c d : Nat) (g h : Nat → Nat → Int) (e e2 : TypeId) (o o2 : Bool) (z z2 : Nat) (r r2 : Bool) (i : Nat)
theorem siR_eq : seenF 6 2 51 (siR n m c d g h e e2 o o2 z z2 r r2 i) = some (.normal, siA n m c d (i + 1), [rowI 1 n g e o z r, rowI 1 m h e2 o2 z2 r2], 192, 0, ⟨[], (((((((True ∧ ((decide ((((i : Nat)) : Int) < (((n : Nat)) : Int))) = true)) ∧ (((((i : Nat)) : Int) = (Int.ofNat i)) ∧ (i < n))) ∧ (((0 + (i * 1)) = ((i * 1) + 0)) ∧ (i < n))) ∧ (((((i : Nat)) : Int) = (Int.ofNat i)) ∧ (i < m))) ∧ (((0 + (i * 1)) = ((i * 1) + 0)) ∧ (i < m))) ∧ (((g i 0) != (h i 0)) = false)) ∧ (((.int .i64 (IntKind.i64.wrap ((((i : Nat)) : Int) + (1 : Int)))) : Value) = (.int .i64 ((((i + 1) : Nat)) : Int))))⟩) := by kernel_rfl
theorem siW_eq : seenF 6 2 51 (siW n m c d g h e e2 o o2 z z2 r r2 i) = some (.ret, siA n m c d i, [rowI 1 n g e o z r, rowI 1 m h e2 o2 z2 r2], 192, 0, ⟨[], ((((((True ∧ ((decide ((((i : Nat)) : Int) < (((n : Nat)) : Int))) = true)) ∧ (((((i : Nat)) : Int) = (Int.ofNat i)) ∧ (i < n))) ∧ (((0 + (i * 1)) = ((i * 1) + 0)) ∧ (i < n))) ∧ (((((i : Nat)) : Int) = (Int.ofNat i)) ∧ (i < m))) ∧ (((0 + (i * 1)) = ((i * 1) + 0)) ∧ (i < m))) ∧ (((g i 0) != (h i 0)) = true))⟩) := by kernel_rfl
theorem siE_eq : seenF 6 2 51 (siE n m c d g h e e2 o o2 z z2 r r2 i) = some ((.exit (0 : Nat)), siA n m c d i, [rowI 1 n g e o z r, rowI 1 m h e2 o2 z2 r2], 0, 0, ⟨[], (True ∧ ((decide ((((i : Nat)) : Int) < (((n : Nat)) : Int))) = false))⟩) := by kernel_rfl
theorem siA_keep : allKeep (6 + 2) (siA n m c d i) 26 = true := by kernel_rfl
theorem siF_neeq : siF_ne n m c d g h e e2 o o2 z z2 r r2 = some ((.bool false), wS 6 [rowI 1 n g e o z r, rowI 1 m h e2 o2 z2 r2], 0, 0, ⟨[], (True ∧ (((((n : Nat)) : Int) != (((m : Nat)) : Int)) = true))⟩) := by kernel_rfl
theorem siF_reteq : siF_ret n m c d g h e e2 o o2 z z2 r r2 i = some ((.bool false), wS 6 [rowI 1 n g e o z r, rowI 1 m h e2 o2 z2 r2], 192, 0, ⟨[], ((True ∧ (((((n : Nat)) : Int) != (((m : Nat)) : Int)) = false)) ∧ ((((siA n m c d (0 : Nat)) = (siA n m c d (0 : Nat))) ∧ ((8 = (6 + 2)) ∧ ((HAppend.hAppend (List.replicate (6 : Nat) MObj.hole) ((rowI (1 : Nat) n g e o z r) :: ((rowI (1 : Nat) m h e2 o2 z2 r2) :: []))) = (HAppend.hAppend (List.replicate (6 : Nat) MObj.hole) ((rowI (1 : Nat) n g e o z r) :: ((rowI (1 : Nat) m h e2 o2 z2 r2) :: [])))))) ∧ SndC Tryz.prog none (.loop siX) (siA n m c d 0).act (wS 6 [rowI 1 n g e o z r, rowI 1 m h e2 o2 z2 r2]) .ret (siA n m c d i).act (wS 6 [rowI 1 n g e o z r, rowI 1 m h e2 o2 z2 r2]) 192 0))⟩) := by kernel_rfl
theorem siF_endeq : siF_end n m c d g h e e2 o o2 z z2 r r2 i = some ((.bool true), wS 6 [rowI 1 n g e o z r, rowI 1 m h e2 o2 z2 r2], 192, 0, ⟨[], ((True ∧ (((((n : Nat)) : Int) != (((m : Nat)) : Int)) = false)) ∧ ((((siA n m c d (0 : Nat)) = (siA n m c d (0 : Nat))) ∧ ((8 = (6 + 2)) ∧ ((HAppend.hAppend (List.replicate (6 : Nat) MObj.hole) ((rowI (1 : Nat) n g e o z r) :: ((rowI (1 : Nat) m h e2 o2 z2 r2) :: []))) = (HAppend.hAppend (List.replicate (6 : Nat) MObj.hole) ((rowI (1 : Nat) n g e o z r) :: ((rowI (1 : Nat) m h e2 o2 z2 r2) :: [])))))) ∧ SndC Tryz.prog none (.loop siX) (siA n m c d 0).act (wS 6 [rowI 1 n g e o z r, rowI 1 m h e2 o2 z2 r2]) (.exit 0) (siA n m c d i).act (wS 6 [rowI 1 n g e o z r, rowI 1 m h e2 o2 z2 r2]) 192 0))⟩) := by kernel_rfl
variable {n c d g h e e2 o o2 z z2 r r2 i}
theorem si_go (hn : (n : Int) ≤ 9223372036854775807) (hi : i < n) (h0 : g i 0 = h i 0) : SndC Tryz.prog none siX (siA n n c d i).act (wS 6 [rowI 1 n g e o z r, rowI 1 n h e2 o2 z2 r2]) .normal (siA n n c d (i + 1)).act (wS 6 [rowI 1 n g e o z r, rowI 1 n h e2 o2 z2 r2]) 192 0 :=
  wayF_ok0 smx noXS_ok sng (siR_eq n n c d g h e e2 o o2 z z2 r r2 i) ⟨⟨⟨⟨⟨⟨⟨trivial, decide_eq_true (by omega)⟩, rfl, hi⟩, (by omega), hi⟩, rfl, hi⟩, (by omega), hi⟩, (by simp [h0])⟩, wnextV hi hn⟩ rfl (siA_keep n n c d i) rowI_keep2 rowI_keep2 (by exact (by decide : ∀ b, b < 8 → Nat.testBit 0 b = false)) (by exact (by decide : ∀ b, b < 8 → Nat.testBit 192 b = true → Nat.testBit 192 b = true))
theorem si_bad (hi : i < n) (h0 : ¬ (g i 0 = h i 0)) : SndC Tryz.prog none siX (siA n n c d i).act (wS 6 [rowI 1 n g e o z r, rowI 1 n h e2 o2 z2 r2]) .ret (siA n n c d i).act (wS 6 [rowI 1 n g e o z r, rowI 1 n h e2 o2 z2 r2]) 192 0 :=
  wayF_ok0 smx noXS_ok sng (siW_eq n n c d g h e e2 o o2 z z2 r r2 i) ⟨⟨⟨⟨⟨⟨trivial, decide_eq_true (by omega)⟩, rfl, hi⟩, (by omega), hi⟩, rfl, hi⟩, (by omega), hi⟩, (by simpa using h0)⟩ rfl (siA_keep n n c d i) rowI_keep2 rowI_keep2 (by exact (by decide : ∀ b, b < 8 → Nat.testBit 0 b = false)) (by exact (by decide : ∀ b, b < 8 → Nat.testBit 192 b = true → Nat.testBit 192 b = true))
theorem si_end (hi : ¬ i < n) : SndC Tryz.prog none siX (siA n n c d i).act (wS 6 [rowI 1 n g e o z r, rowI 1 n h e2 o2 z2 r2]) (.exit 0) (siA n n c d i).act (wS 6 [rowI 1 n g e o z r, rowI 1 n h e2 o2 z2 r2]) 192 0 :=
  wayF_ok0 smx noXS_ok sng (siE_eq n n c d g h e e2 o o2 z z2 r r2 i) ⟨trivial, decide_eq_false (by omega)⟩ rfl (siA_keep n n c d i) rowI_keep2 rowI_keep2 (by exact (by decide : ∀ b, b < 8 → Nat.testBit 0 b = false)) (by exact (by decide : ∀ b, b < 8 → Nat.testBit 0 b = true → Nat.testBit 192 b = true))
end
def sameI (g h : Nat → Nat → Int) (n : Nat) : Prop := ∀ i, i < n → g i 0 = h i 0
instance (g h : Nat → Nat → Int) (n : Nat) : Decidable (sameI g h n) := inferInstanceAs (Decidable (∀ i, i < n → _))
theorem si_sndF {n m : Nat} (c d : Nat) (g h : Nat → Nat → Int) (e e2 : TypeId) (o o2 : Bool) (z z2 : Nat) (r r2 : Bool) (hn : (n : Int) ≤ 9223372036854775807) :
    SndF Tryz.prog 25 (siArgs n m c d) (wS 6 [rowI 1 n g e o z r, rowI 1 m h e2 o2 z2 r2]) (.bool (decide (n = m ∧ sameI g h n))) (wS 6 [rowI 1 n g e o z r, rowI 1 m h e2 o2 z2 r2]) 192 0 := by
  by_cases hm : n = m
  · subst hm
    rcases loop_split (A := fun i => (siA n n c d i).act) (S := fun _ => wS 6 [rowI 1 n g e o z r, rowI 1 n h e2 o2 z2 r2]) (A1 := fun i => (siA n n c d i).act) (S1 := fun _ => wS 6 [rowI 1 n g e o z r, rowI 1 n h e2 o2 z2 r2]) (good := fun i => g i 0 = h i 0) (fun i => Decidable.em _) n
      (fun i hi h0 => si_go hn hi h0) (fun i hi h0 => si_bad hi h0) (si_end (Nat.lt_irrefl n)) (by simp) (by simp) with ⟨h1, h2⟩ | ⟨j, hj, h1, h3, h2⟩
    · rw [decide_eq_true ⟨rfl, h1⟩]
      exact (evFS_ok smx noXS_ok 1000 _ _ _ _ _ _ _ _ _ (show evFS _ _ _ _ _ _ _ = _ from siF_endeq n n c d g h e e2 o o2 z z2 r r2 n)).2 ⟨⟨trivial, by simp⟩, ⟨rfl, rfl, rfl⟩, h2⟩
    · rw [decide_eq_false (fun q => h3 (q.2 j hj))]
      exact (evFS_ok smx noXS_ok 1000 _ _ _ _ _ _ _ _ _ (show evFS _ _ _ _ _ _ _ = _ from siF_reteq n n c d g h e e2 o o2 z z2 r r2 j)).2 ⟨⟨trivial, by simp⟩, ⟨rfl, rfl, rfl⟩, h2⟩
  · rw [decide_eq_false (fun q => hm q.1)]
    exact ((evFS_ok smx noXS_ok 1000 _ _ _ _ _ _ _ _ _ (show evFS _ _ _ _ _ _ _ = _ from siF_neeq n m c d g h e e2 o o2 z z2 r r2)).2 ⟨trivial, by simp; omega⟩).mask (fun b _ hb => by simp at hb) (fun b _ => rfl)

def kSameI : CallS := fun f xs s q => match decide (f = 25) with
  | true => match xs.toList with
    | [.slice (some ⟨b, 0, none⟩) n c, .slice (some ⟨b2, 0, none⟩) m d] => match Nat.ble 6 b, Nat.ble 6 b2, Nat.beq b b2, rowK 1 .i64 s b n, rowK 1 .i64 s b2 m with
      | true, true, false, some (g, _, _, _, _, p), some (h, _, _, _, _, p2) => some (.bool (decide (n = m ∧ sameI g h n)), s, 2 ^ b ||| 2 ^ b2, 0, ⟨q.rest, q.ob ∧ (p ∧ p2 ∧ (n : Int) ≤ 9223372036854775807)⟩)
      | _, _, _, _, _ => none
    | _ => none
  | false => none
theorem kSameI_ok : FOkS Tryz.prog kSameI := fun f xs s q u s1 R W q1 he => by
  unfold kSameI at he
  split at he
  · rename_i hf
    have hf := of_decide_eq_true hf
    subst hf
    split at he
    · rename_i b n c b2 m d hx
      have hxs : xs = #[.slice (some ⟨b, 0, none⟩) n c, .slice (some ⟨b2, 0, none⟩) m d] := by apply Array.ext'; exact hx
      subst hxs
      split at he
      · rename_i g e o z r p h e2 o2 z2 r2 p2 h1 h2 h3 h4 h5
        cases he
        refine ⟨fun hq => hq.1, fun hq => ?_⟩
        obtain ⟨k1, k2, hn⟩ := hq.2
        obtain ⟨l1, w1⟩ := rowK_wo h4 k1
        obtain ⟨l2, w2⟩ := rowK_wo h5 k2
        have b1 := Nat.le_of_ble_eq_true h1
        have b3 := Nat.le_of_ble_eq_true h2
        have hne : b ≠ b2 := fun e => by rw [e, Nat.beq_refl] at h3; cases h3
        refine SndF.rows (N := 6) (bs := [b, b2]) (s0 := wS 6 [rowI 1 n g e o z r, rowI 1 m h e2 o2 z2 r2]) sng (si_sndF c d g h e e2 o o2 z z2 r r2 hn) rfl rfl (fun x hx => ?_) (by simp [hne]) (by omega) (fun x hx _ => ?_) (fun x hx => ?_) (fun f j hj => ?_) (fun f _ hf => ?_)
        · simp at hx
          rcases hx with rfl | rfl <;> omega
        · rcases Nat.lt_or_ge x 6 with k | k
          · have hz := (by decide : ∀ b, b < 6 → Nat.testBit 192 b = false) x k
            rw [hz] at hx; cases hx
          · exact k
        · simp at hx
          rcases hx with rfl | rfl <;> simp [or_bit, bit_self]
        · match j, hj with
          | 0, _ => exact w1 f
          | 1, _ => exact w2 f
        · exact wvs_two (slice_wv (hf 0 (by simp))) (slice_wv (hf 1 (by simp)))
      · cases he
    · cases he
  · cases he
end Go.Proofs.YtecabbbjdnambaaGreatDoor
end
section
namespace Go.Proofs.YtecabbbjdnambaaGreatDoor
set_option linter.all false
open Go.RowKit
namespace Mini
variable {P : Program} {s0 s : St}
def valsEqT : List Value → List Value → Bool
  | [], _ => true
  | .int k a :: l, .int k' b :: l' => decide (k = k') && (a == b) && valsEqT l l'
  | .string a :: l, .string b :: l' => decide (a.data.toList = b.data.toList) && valsEqT l l'
  | _, _ => false
theorem valsEqT_at : ∀ (c c' : List Value), valsEqT c c' = true → ∀ (i : Nat) (v : Value), c[i]? = some v → c'[i]? = some v ∧ ((∃ k a, v = .int k a) ∨ ∃ a, v = .string a)
  | [], c', h, i, v, hi => by simp at hi
  | x :: l, [], h, i, v, hi => by cases x <;> simp [valsEqT] at h
  | x :: l, y :: l', h, i, v, hi => by
    cases x with
    | int k a => cases y with
      | int k' b =>
        simp only [valsEqT, Bool.and_eq_true, decide_eq_true_eq, beq_iff_eq] at h
        obtain ⟨⟨rfl, rfl⟩, h3⟩ := h
        cases i with
        | zero => simp at hi; subst hi; exact ⟨rfl, .inl ⟨k, a, rfl⟩⟩
        | succ i => exact valsEqT_at l l' h3 i v (by simpa using hi)
      | _ => simp [valsEqT] at h
    | string a => cases y with
      | string b =>
        simp only [valsEqT, Bool.and_eq_true, decide_eq_true_eq] at h
        obtain ⟨h2, h3⟩ := h
        have e : a = b := by
          cases a; cases b
          exact congrArg ByteArray.mk (Array.ext' h2)
        subst e
        cases i with
        | zero => simp at hi; subst hi; exact ⟨rfl, .inr ⟨a, rfl⟩⟩
        | succ i => exact valsEqT_at l l' h3 i v (by simpa using hi)
      | _ => simp [valsEqT] at h
    | _ => simp [valsEqT] at h
theorem string_inv {ρ : Ren} {a : ByteArray} {v' : Value} (h : VR ρ (.string a) v') : v' = .string a := by cases h; rfl
def tabEqT : MObj → MObj → Bool
  | .hole, _ => true
  | .cells c _ _ _ _, .cells c' _ _ _ _ => valsEqT c c'
  | _, _ => false
def tabsEqT (s0 s : St) : Nat → Bool
  | 0 => true
  | n + 1 => tabEqT (s0.get n) (s.get n) && tabsEqT s0 s n
theorem tabsEqT_at : ∀ (n : Nat), tabsEqT s0 s n = true → ∀ b, b < n → tabEqT (s0.get b) (s.get b) = true
  | 0, h, b, hb => by omega
  | n + 1, h, b, hb => by
    simp only [tabsEqT, Bool.and_eq_true] at h
    rcases Nat.lt_or_ge b n with c | c
    · exact tabsEqT_at n h.2 b c
    · rw [show b = n from by omega]; exact h.1
theorem holdsT_of {ρ : Ren} {C : Nat → MObj} {w : World} (hn : s0.next = P.globals.size) (hok : tabsOk s0 s0.next = true) (heq : tabsEqT s0 s s0.next = true) (hG : Glob P ρ) (ag : ∀ b, (2 ^ s0.next - 1).testBit b = true → b < s.next → C b = s.get b) (hr : WRel ρ C w) : Holds P s0 w := by
  refine ⟨hn, fun b hb => ?_⟩
  rw [← hn] at hb
  have h1 := tabsOk_at _ hok b hb
  have h2 := tabsEqT_at _ heq b hb
  cases hs : s0.get b with
  | hole => exact .inl rfl
  | cells c e opn sz r =>
    rw [hs] at h1 h2
    cases ho : s.get b with
    | cells c' e' opn' sz' r' =>
      rw [ho] at h2
      simp only [tabEqT] at h2
      cases opn <;> cases r <;> cases sz <;> simp only [tabOk, Bool.and_eq_true, Bool.not_eq_true', Bool.false_eq_true] at h1
      refine .inr ⟨c, e, rfl, by intro hc; rw [hc] at h1; simp at h1, h1.2, fun i v hi => ?_⟩
      obtain ⟨k1, k2⟩ := valsEqT_at c c' h2 i v hi
      have hlt : b < s.next := St.lt_of_live (by rw [ho]; simp)
      have hC : C b = .cells c' e' opn' sz' r' := (ag b (by rw [Nat.testBit_two_pow_sub_one]; simpa using hb) hlt).trans ho
      obtain ⟨L, cs, fr, q1, q2, q3⟩ := row_of hr hC
      obtain ⟨L', g1, g2, g3⟩ := hG b (hn ▸ hb)
      rw [q1] at g1
      cases g1
      obtain ⟨p1, p2, p3, p4, p5, p6, p7, p8⟩ := q3
      obtain ⟨v', z1, z2⟩ := p6 i _ k1
      have e : v' = v := by
        rcases k2 with ⟨k, a, rfl⟩ | ⟨a, rfl⟩
        · exact int_inv z2
        · exact string_inv z2
      subst e
      rw [g2] at q2
      rw [cell_row q2]
      rw [g3, Nat.zero_add] at z1
      exact z1
    | _ => rw [ho] at h2; simp [tabEqT] at h2
  | _ => rw [hs] at h1; simp [tabOk] at h1
def tabT (s0 : St) (f0 : FuncId) : CallS := fun f xs s q =>
  match decide (f = f0) && xs.toList.isEmpty && tabsOk s0 s0.next && tabsEqT s0 s s0.next with
  | true => some (.bool true, s, 2 ^ s0.next - 1, 0, q)
  | false => none
theorem tabT_ok {f0 : FuncId} (hn : s0.next = P.globals.size) (h : ∀ w, Holds P s0 w → Calls P f0 #[] w fun e w' => e = .returned (.bool true) ∧ Below w.heap.size w w') : FOkS P (tabT s0 f0) := fun f xs s q v s1 R W q1 he => by
  unfold tabT at he
  split at he
  · rename_i hc
    cases he
    simp only [Bool.and_eq_true, decide_eq_true_eq] at hc
    obtain ⟨⟨⟨rfl, h2⟩, h3⟩, h4⟩ := hc
    have hx : xs = #[] := by
      apply Array.ext'
      simpa using h2
    subst hx
    refine ⟨id, fun _ => sndF_quietG rfl fun ρ C args' w hG ag hr ha => ?_⟩
    have ea : args' = #[] := Array.eq_empty_of_size_eq_zero (ha.1.symm.trans rfl)
    subst ea
    exact h w (holdsT_of hn h3 h4 hG ag hr)
  · cases he
end Mini
end Go.Proofs.YtecabbbjdnambaaGreatDoor
end
section
namespace Go.Proofs.YtecabbbjdnambaaGreatDoor
set_option linter.all false
namespace Mini
def obY (r : Option OutS) : Prop := match r with
  | some (_, _, _, _, q) => q.ob
  | none => False
def goodY (r : Option OutS) : Bool := match r with
  | some (.bool true, _, _, 0, ⟨[], _⟩) => true
  | _ => false
theorem sndY {P : Program} {X : CallS} {n : Nat} {f : FuncId} {xs : Array Value} {s : St} {q : Orc} {r : Option OutS} (he : r = evFS P X n f xs s q) (hm : P.follows .mixedOrders = true) (hX : FOkS P X) (hg : goodY r = true) (ho : obY r) : ∃ s1 R, SndF P f xs s (.bool true) s1 R 0 := by
  unfold goodY at hg
  split at hg
  · exact ⟨_, _, (evFS_ok hm hX n _ _ _ _ _ _ _ _ _ he.symm).2 ho⟩
  · cases hg
end Mini
end Go.Proofs.YtecabbbjdnambaaGreatDoor
end
section
set_option linter.all false
set_option maxRecDepth 1000000
namespace Go.Proofs.YtecabbbjdnambaaGreatDoor
open Mini
noncomputable def aw3B : Code := bodyOf Tryz.prog 12
noncomputable def aw3A0 : MA := ⟨291, .leaf, []⟩
noncomputable def aw3H0 : Tri := (.node (.node (.one (.cells [.int .i64 (1), .int .i64 (0), .int .i64 (0), .int .i64 (1), .int .i64 (-1), .int .i64 (0), .int .i64 (0), .int .i64 (-1)] 150 true 0 true)) (.one (.cells [.string ⟨#[112, 108, 97, 110, 116, 110, 117, 109]⟩, .string ⟨#[112, 108, 97, 110, 116, 100, 101, 110]⟩, .string ⟨#[99, 111, 110, 116, 114, 111, 108, 108, 101, 114, 110, 117, 109]⟩, .string ⟨#[99, 111, 110, 116, 114, 111, 108, 108, 101, 114, 100, 101, 110]⟩] 166 true 0 true))) (.node (.one (.cells [.int .u64 (1), .int .u64 (10), .int .u64 (100), .int .u64 (1000), .int .u64 (10000), .int .u64 (100000), .int .u64 (1000000), .int .u64 (10000000), .int .u64 (100000000), .int .u64 (1000000000), .int .u64 (10000000000), .int .u64 (100000000000), .int .u64 (1000000000000), .int .u64 (10000000000000), .int .u64 (100000000000000), .int .u64 (1000000000000000), .int .u64 (10000000000000000), .int .u64 (100000000000000000), .int .u64 (1000000000000000000), .int .u64 (10000000000000000000)] 231 true 0 true)) .leaf))
noncomputable def aw3H1 : Tri := (.node (.node (.node (.node (.node (.node (.node (.node (.node (.node (.node (.node (.node (.node (.node (.node (.node (.node (.node (.node aw3H0 .leaf) .leaf) .leaf) .leaf) .leaf) .leaf) .leaf) .leaf) .leaf) .leaf) .leaf) .leaf) .leaf) .leaf) .leaf) .leaf) .leaf) .leaf) .leaf) .leaf)
noncomputable def aw3S0 : St := ⟨6, aw3H1, []⟩
noncomputable def aw3H2 : TV := (.node (.node (.node (.node (.one (.bool false)) .leaf) .leaf) .leaf) .leaf)
noncomputable def aw3A1 : MA := ⟨291, (.node (.node (.node (.node (.node aw3H2 .leaf) .leaf) .leaf) .leaf) .leaf), []⟩
noncomputable def aw3S1 : St := ⟨6, aw3H1, []⟩
noncomputable def aw3H3 : TV := (.node (.one (.bool false)) (.one (.slice (some ⟨13, 0, none⟩) 2 2)))
noncomputable def aw3H4 : TV := (.one (.tuple #[.slice (some ⟨13, 0, none⟩) 2 2, .int .i64 (0)]))
noncomputable def aw3H5 : TV := (.node aw3H4 (.one (.slice (some ⟨6, 0, none⟩) 3 3)))
noncomputable def aw3H6 : TV := (.node aw3H4 (.one (.slice (some ⟨13, 0, none⟩) 2 2)))
noncomputable def aw3A2 : MA := ⟨291, (.node (.node (.node (.node (.node (.node (.node (.node aw3H3 (.node (.one (.int .i64 (0))) .leaf)) .leaf) .leaf) .leaf) (.node (.node .leaf (.node (.node .leaf aw3H5) (.node aw3H6 (.node (.one (.int .i64 (0))) .leaf)))) .leaf)) .leaf) .leaf) .leaf), []⟩
noncomputable def aw3H7 : Tri := (.one (.cells [.int .i64 (1), .int .i64 (0), .int .i64 (2)] 3 false 0 false))
noncomputable def aw3H8 : Tri := (.node aw3H0 (.node .leaf (.node aw3H7 (.one (.cells [] 3 false 0 false)))))
noncomputable def aw3H9 : Tri := (.one (.cells [.int .i64 (1), .int .i64 (0), .int .i64 (2)] 3 true 1 false))
noncomputable def aw3H10 : Tri := (.one (.cells [.int .i64 (0), .int .i64 (3)] 3 true 1 false))
noncomputable def aw3H11 : Tri := (.node (.node aw3H9 (.one (.cells [.slice (some ⟨8, 0, none⟩) 3 3] 140 false 0 false))) (.node (.one (.cells [] 3 false 0 false)) aw3H10))
noncomputable def aw3H12 : Tri := (.node (.one (.cells [.slice (some ⟨11, 0, none⟩) 2 2] 140 false 0 false)) (.one (.cells [.slice (some ⟨8, 0, none⟩) 3 3, .slice (some ⟨11, 0, none⟩) 2 2] 140 true 1 false)))
noncomputable def aw3S2 : St := ⟨14, (.node (.node (.node (.node (.node (.node (.node (.node (.node (.node (.node (.node (.node (.node (.node (.node (.node (.node (.node aw3H8 (.node aw3H11 (.node aw3H12 .leaf))) .leaf) .leaf) .leaf) .leaf) .leaf) .leaf) .leaf) .leaf) .leaf) .leaf) .leaf) .leaf) .leaf) .leaf) .leaf) .leaf) .leaf) .leaf), []⟩
noncomputable def aw3H13 : TV := (.node (.one (.int .i64 (0))) (.one (.slice (some ⟨17, 0, none⟩) 1 1)))
noncomputable def aw3H14 : TV := (.node (.node (.one (.int .i64 (0))) .leaf) .leaf)
noncomputable def aw3H15 : TV := (.one (.tuple #[.slice (some ⟨17, 0, none⟩) 1 1, .int .i64 (0)]))
noncomputable def aw3H16 : TV := (.node aw3H6 (.node (.one (.int .i64 (0))) aw3H15))
noncomputable def aw3H17 : TV := (.node .leaf (.node (.node .leaf aw3H5) aw3H16))
noncomputable def aw3H18 : TV := (.node (.node (.one (.slice (some ⟨14, 0, none⟩) 3 3)) aw3H15) (.node (.one (.slice (some ⟨17, 0, none⟩) 1 1)) (.one (.int .i64 (0)))))
noncomputable def aw3A3 : MA := ⟨291, (.node (.node (.node (.node (.node (.node (.node (.node aw3H3 aw3H13) aw3H14) .leaf) .leaf) (.node aw3H17 (.node (.node aw3H18 .leaf) .leaf))) .leaf) .leaf) .leaf), []⟩
noncomputable def aw3H19 : Tri := (.one (.cells [.int .i64 (2), .int .i64 (3), .int .i64 (1)] 3 false 0 false))
noncomputable def aw3H20 : Tri := (.node aw3H8 (.node aw3H11 (.node aw3H12 (.node aw3H19 (.one (.cells [] 3 false 0 false))))))
noncomputable def aw3H21 : Tri := (.one (.cells [.int .i64 (2), .int .i64 (3), .int .i64 (1)] 3 true 1 false))
noncomputable def aw3H22 : Tri := (.node aw3H21 (.one (.cells [.slice (some ⟨16, 0, none⟩) 3 3] 140 false 0 false)))
noncomputable def aw3S3 : St := ⟨18, (.node (.node (.node (.node (.node (.node (.node (.node (.node (.node (.node (.node (.node (.node (.node (.node (.node (.node aw3H20 (.node (.node (.node aw3H22 .leaf) .leaf) .leaf)) .leaf) .leaf) .leaf) .leaf) .leaf) .leaf) .leaf) .leaf) .leaf) .leaf) .leaf) .leaf) .leaf) .leaf) .leaf) .leaf) .leaf), []⟩
noncomputable def aw3H23 : TV := (.node (.one (.int .i64 (0))) (.one (.bool true)))
noncomputable def aw3H24 : TV := (.node aw3H23 (.node (.one (.int .i64 (0))) .leaf))
noncomputable def aw3H25 : TV := (.one (.tuple #[.bool true, .int .i64 (0)]))
noncomputable def aw3H26 : TV := (.node aw3H18 (.node (.node aw3H25 (.one (.slice (some ⟨18, 0, none⟩) 3 3))) (.node aw3H25 (.one (.bool true)))))
noncomputable def aw3A4 : MA := ⟨291, (.node (.node (.node (.node (.node (.node (.node (.node aw3H3 aw3H13) aw3H24) .leaf) .leaf) (.node aw3H17 (.node aw3H26 (.node aw3H14 .leaf)))) .leaf) .leaf) .leaf), []⟩
noncomputable def aw3H27 : Tri := (.node (.node aw3H22 (.node aw3H7 .leaf)) .leaf)
noncomputable def aw3S4 : St := ⟨26, (.node (.node (.node (.node (.node (.node (.node (.node (.node (.node (.node (.node (.node (.node (.node (.node (.node (.node aw3H20 (.node aw3H27 .leaf)) .leaf) .leaf) .leaf) .leaf) .leaf) .leaf) .leaf) .leaf) .leaf) .leaf) .leaf) .leaf) .leaf) .leaf) .leaf) .leaf) .leaf), []⟩
noncomputable def aw3H28 : TV := (.node aw3H23 (.node (.one (.int .i64 (0))) (.one (.bool false))))
noncomputable def aw3H29 : TV := (.one (.tuple #[.bool false, .int .i64 (0)]))
noncomputable def aw3H30 : TV := (.node (.node (.one (.int .i64 (0))) aw3H29) (.node (.one (.slice (some ⟨26, 0, none⟩) 3 3)) aw3H29))
noncomputable def aw3H31 : TV := (.node (.one (.bool false)) (.one (.int .i64 (0))))
noncomputable def aw3A5 : MA := ⟨291, (.node (.node (.node (.node (.node (.node (.node (.node aw3H3 aw3H13) aw3H28) (.node aw3H14 .leaf)) .leaf) (.node aw3H17 (.node aw3H26 (.node aw3H30 (.node aw3H31 .leaf))))) .leaf) .leaf) .leaf), []⟩
noncomputable def aw3S5 : St := ⟨30, (.node (.node (.node (.node (.node (.node (.node (.node (.node (.node (.node (.node (.node (.node (.node (.node (.node (.node aw3H20 (.node aw3H27 (.node (.node .leaf (.node aw3H19 .leaf)) .leaf))) .leaf) .leaf) .leaf) .leaf) .leaf) .leaf) .leaf) .leaf) .leaf) .leaf) .leaf) .leaf) .leaf) .leaf) .leaf) .leaf) .leaf), []⟩
noncomputable def aw3H32 : TV := (.node (.one (.int .i64 (0))) (.one (.pointer (some ⟨42, 0, none⟩))))
noncomputable def aw3H33 : TV := (.one (.tuple #[.agg #[.int .i64 (-1), .int .i64 (0)], .int .i64 (0)]))
noncomputable def aw3H34 : TV := (.node aw3H26 (.node aw3H30 (.node aw3H31 (.node aw3H33 (.one (.slice (some ⟨30, 0, none⟩) 3 3))))))
noncomputable def aw3H35 : TV := (.one (.agg #[.int .i64 (-1), .int .i64 (0)]))
noncomputable def aw3H36 : TV := (.node (.node (.one (.agg #[.int .i64 (0), .int .i64 (1)])) aw3H33) (.node aw3H35 (.one (.int .i64 (0)))))
noncomputable def aw3A6 : MA := ⟨291, (.node (.node (.node (.node (.node (.node (.node (.node aw3H3 aw3H13) aw3H28) (.node (.node aw3H32 (.node (.one (.int .i64 (0))) .leaf)) .leaf)) .leaf) (.node aw3H17 aw3H34)) (.node (.node (.node (.node aw3H36 .leaf) .leaf) .leaf) .leaf)) .leaf) .leaf), []⟩
noncomputable def aw3H37 : Tri := (.node aw3H20 (.node aw3H27 (.node (.node .leaf (.node aw3H19 .leaf)) (.node .leaf (.node aw3H7 .leaf)))))
noncomputable def aw3H38 : Tri := (.one (.cells [.int .i64 (-1), .int .i64 (0)] 24 false 0 false))
noncomputable def aw3S6 : St := ⟨43, (.node (.node (.node (.node (.node (.node (.node (.node (.node (.node (.node (.node (.node (.node (.node (.node (.node aw3H37 (.node (.node .leaf (.node (.node .leaf (.node aw3H38 .leaf)) .leaf)) .leaf)) .leaf) .leaf) .leaf) .leaf) .leaf) .leaf) .leaf) .leaf) .leaf) .leaf) .leaf) .leaf) .leaf) .leaf) .leaf) .leaf), []⟩
noncomputable def aw3H39 : TV := (.node aw3H32 (.node (.one (.int .i64 (0))) (.one (.slice (some ⟨55, 0, none⟩) 2 2))))
noncomputable def aw3H40 : TV := (.one (.tuple #[.slice (some ⟨55, 0, none⟩) 2 2, .int .i64 (0)]))
noncomputable def aw3H41 : TV := (.node aw3H36 (.node (.node aw3H40 (.one (.agg #[.slice (some ⟨44, 0, none⟩) 1 1, .slice (some ⟨45, 0, none⟩) 2 2, .slice (some ⟨46, 0, none⟩) 1 1, .slice (some ⟨47, 0, none⟩) 1 1]))) (.node aw3H40 (.one (.slice (some ⟨55, 0, none⟩) 2 2)))))
noncomputable def aw3A7 : MA := ⟨291, (.node (.node (.node (.node (.node (.node (.node (.node aw3H3 aw3H13) aw3H28) (.node aw3H39 aw3H14)) .leaf) (.node aw3H17 aw3H34)) (.node (.node (.node aw3H41 (.node aw3H14 .leaf)) .leaf) .leaf)) .leaf) .leaf), []⟩
noncomputable def aw3H42 : Tri := (.one (.cells [.slice (some ⟨44, 0, none⟩) 1 1, .slice (some ⟨45, 0, none⟩) 2 2, .slice (some ⟨46, 0, none⟩) 1 1, .slice (some ⟨47, 0, none⟩) 1 1] 71 false 0 false))
noncomputable def aw3H43 : Tri := (.one (.cells [.int .i64 (1)] 3 false 0 false))
noncomputable def aw3H44 : Tri := (.one (.cells [.int .i64 (-1), .int .i64 (2)] 3 false 0 false))
noncomputable def aw3H45 : Tri := (.node (.node aw3H43 aw3H44) (.node aw3H43 aw3H43))
noncomputable def aw3H46 : Tri := (.node .leaf (.node (.node .leaf (.node aw3H38 aw3H42)) aw3H45))
noncomputable def aw3H47 : Tri := (.one (.cells [.int .i64 (0), .int .i64 (2)] 3 true 1 false))
noncomputable def aw3H48 : Tri := (.node (.node (.node aw3H42 .leaf) (.node (.one (.cells [.int .i64 (0), .int .i64 (0), .int .i64 (0), .int .i64 (0), .int .i64 (0)] 26 false 0 false)) aw3H42)) (.node (.node aw3H44 aw3H43) (.node (.one (.cells [] 3 false 0 false)) aw3H47)))
noncomputable def aw3S7 : St := ⟨56, (.node (.node (.node (.node (.node (.node (.node (.node (.node (.node (.node (.node (.node (.node (.node (.node (.node aw3H37 (.node aw3H46 (.node aw3H48 .leaf))) .leaf) .leaf) .leaf) .leaf) .leaf) .leaf) .leaf) .leaf) .leaf) .leaf) .leaf) .leaf) .leaf) .leaf) .leaf) .leaf), []⟩
noncomputable def aw3H49 : TV := (.node (.one (.int .i64 (0))) (.one (.pointer (some ⟨104, 0, none⟩))))
noncomputable def aw3H50 : TV := (.one (.tuple #[.agg #[.complex .f64 4611686018427387904 0, .complex .f64 0 4611686018427387904, .complex .f64 13835058055282163712 0, .complex .f64 0 13835058055282163712], .int .i64 (0)]))
noncomputable def aw3H51 : TV := (.node (.node (.one (.int .i64 (0))) aw3H50) (.node (.one (.agg #[.slice (some ⟨57, 0, none⟩) 1 1, .slice (some ⟨58, 0, none⟩) 2 2, .slice (some ⟨59, 0, none⟩) 1 1, .slice (some ⟨60, 0, none⟩) 1 1])) aw3H50))
noncomputable def aw3H52 : TV := (.one (.agg #[.complex .f64 4611686018427387904 0, .complex .f64 0 4611686018427387904, .complex .f64 13835058055282163712 0, .complex .f64 0 13835058055282163712]))
noncomputable def aw3A8 : MA := ⟨291, (.node (.node (.node (.node (.node (.node (.node (.node aw3H3 aw3H13) aw3H28) (.node aw3H39 (.node aw3H49 (.node (.one (.int .i64 (0))) .leaf)))) .leaf) (.node aw3H17 aw3H34)) (.node (.node (.node aw3H41 (.node aw3H51 (.node (.node aw3H52 (.one (.int .i64 (0)))) .leaf))) .leaf) .leaf)) .leaf) .leaf), []⟩
noncomputable def aw3H53 : Tri := (.node aw3H37 (.node aw3H46 (.node aw3H48 (.node (.node (.node (.one (.cells [.slice (some ⟨57, 0, none⟩) 1 1, .slice (some ⟨58, 0, none⟩) 2 2, .slice (some ⟨59, 0, none⟩) 1 1, .slice (some ⟨60, 0, none⟩) 1 1] 71 false 0 false)) aw3H43) (.node aw3H44 aw3H43)) (.node (.node aw3H43 .leaf) .leaf)))))
noncomputable def aw3H54 : Tri := (.one (.cells [.complex .f64 4611686018427387904 0, .complex .f64 0 4611686018427387904, .complex .f64 13835058055282163712 0, .complex .f64 0 13835058055282163712] 75 false 0 false))
noncomputable def aw3S8 : St := ⟨105, (.node (.node (.node (.node (.node (.node (.node (.node (.node (.node (.node (.node (.node (.node (.node (.node aw3H53 (.node .leaf (.node (.node .leaf (.node (.node (.node aw3H54 .leaf) .leaf) .leaf)) .leaf))) .leaf) .leaf) .leaf) .leaf) .leaf) .leaf) .leaf) .leaf) .leaf) .leaf) .leaf) .leaf) .leaf) .leaf) .leaf), []⟩
noncomputable def aw3H55 : TV := (.node (.one (.int .i64 (0))) (.one (.int .i64 (3))))
noncomputable def aw3H56 : TV := (.node (.node (.node aw3H3 aw3H13) aw3H28) (.node aw3H39 (.node aw3H49 aw3H55)))
noncomputable def aw3H57 : TV := (.node (.node aw3H56 (.node (.node aw3H14 .leaf) .leaf)) (.node aw3H17 aw3H34))
noncomputable def aw3H58 : TV := (.one (.tuple #[.int .i64 (3), .int .i64 (0)]))
noncomputable def aw3H59 : TV := (.node aw3H41 (.node aw3H51 (.node (.node aw3H52 (.one (.int .i64 (0)))) (.node aw3H58 (.one (.agg #[.slice (some ⟨106, 0, none⟩) 1 1, .slice (some ⟨107, 0, none⟩) 2 2, .slice (some ⟨108, 0, none⟩) 1 1, .slice (some ⟨109, 0, none⟩) 1 1]))))))
noncomputable def aw3A9 : MA := ⟨291, (.node (.node (.node aw3H57 (.node (.node aw3H59 (.node (.node (.node (.node aw3H58 (.one (.int .i64 (3)))) (.node (.one (.int .i64 (0))) .leaf)) .leaf) .leaf)) .leaf)) .leaf) .leaf), []⟩
noncomputable def aw3H60 : Tri := (.node aw3H53 (.node .leaf (.node (.node .leaf (.node (.node (.node aw3H54 (.one (.cells [.slice (some ⟨106, 0, none⟩) 1 1, .slice (some ⟨107, 0, none⟩) 2 2, .slice (some ⟨108, 0, none⟩) 1 1, .slice (some ⟨109, 0, none⟩) 1 1] 71 false 0 false))) (.node aw3H43 aw3H44)) (.node (.node aw3H43 aw3H43) .leaf))) .leaf)))
noncomputable def aw3S9 : St := ⟨151, (.node (.node (.node (.node (.node (.node (.node (.node (.node (.node (.node (.node (.node (.node (.node aw3H60 .leaf) .leaf) .leaf) .leaf) .leaf) .leaf) .leaf) .leaf) .leaf) .leaf) .leaf) .leaf) .leaf) .leaf) .leaf), []⟩
noncomputable def aw3H61 : TV := (.node (.one (.int .i64 (0))) (.one (.int .i64 (0))))
noncomputable def aw3H62 : TV := (.node (.node aw3H61 aw3H61) (.node aw3H61 aw3H61))
noncomputable def aw3H63 : TV := (.node (.one (.bool false)) (.one (.bool false)))
noncomputable def aw3H64 : TV := (.node (.one (.bool false)) (.one (.bool true)))
noncomputable def aw3H65 : TV := (.node (.node aw3H59 (.node (.node (.node (.node aw3H58 (.one (.int .i64 (3)))) aw3H61) (.node aw3H61 aw3H61)) aw3H62)) (.node (.node (.node (.node aw3H61 aw3H63) (.node (.node (.one (.slice (some ⟨13, 0, none⟩) 2 2)) (.one (.slice (some ⟨158, 0, none⟩) 2 2))) (.node (.one (.slice (some ⟨159, 0, none⟩) 3 3)) (.one (.slice (some ⟨160, 0, none⟩) 2 2))))) (.node (.node (.node (.one (.slice (some ⟨161, 0, none⟩) 2 2)) (.one (.bool true))) aw3H63) (.node (.node (.one (.bool false)) (.one (.slice (some ⟨17, 0, none⟩) 1 1))) (.node (.one (.slice (some ⟨165, 0, none⟩) 1 1)) (.one (.slice (some ⟨166, 0, none⟩) 3 3)))))) (.node (.node (.node (.node (.one (.slice (some ⟨167, 0, none⟩) 1 1)) (.one (.bool true))) aw3H63) (.node aw3H64 aw3H63)) (.node (.node aw3H63 aw3H63) (.node (.node aw3H35 aw3H35) aw3H63)))))
noncomputable def aw3H66 : TV := (.node (.node (.node (.one (.bool false)) (.one (.slice (some ⟨55, 0, none⟩) 2 2))) (.node (.one (.slice (some ⟨168, 0, none⟩) 2 2)) (.one (.bool true)))) (.node aw3H63 (.node (.one (.bool false)) aw3H52)))
noncomputable def aw3H67 : TV := (.node (.node aw3H52 (.one (.bool false))) aw3H63)
noncomputable def aw3H68 : TV := (.node (.one (.int .i64 (3))) (.one (.bool false)))
noncomputable def aw3A10 : MA := ⟨291, (.node (.node (.node aw3H57 aw3H65) (.node (.node (.node (.node aw3H66 (.node aw3H67 (.node aw3H68 (.node (.one (.bool false)) .leaf)))) .leaf) .leaf) .leaf)) .leaf), []⟩
noncomputable def aw3H69 : Tri := (.node .leaf (.node (.node .leaf (.node .leaf (.node .leaf (.one (.cells [] 3 false 0 false))))) (.node (.node (.node aw3H9 (.one (.cells [.slice (some ⟨152, 0, none⟩) 3 3] 22 false 0 false))) (.node (.one (.hole)) (.one (.cells [] 3 false 0 false)))) (.node (.node aw3H10 (.one (.cells [.slice (some ⟨156, 0, none⟩) 2 2] 22 false 0 false))) (.node (.one (.cells [.slice (some ⟨152, 0, none⟩) 3 3, .slice (some ⟨156, 0, none⟩) 2 2] 22 true 1 false)) aw3H7)))))
noncomputable def aw3H70 : Tri := (.node (.node (.node (.one (.cells [.int .i64 (0), .int .i64 (3)] 3 false 0 false)) (.one (.cells [.slice (some ⟨159, 0, none⟩) 3 3, .slice (some ⟨160, 0, none⟩) 2 2] 22 false 0 false))) (.node (.one (.cells [] 3 false 0 false)) aw3H21)) (.node (.node (.one (.cells [.slice (some ⟨163, 0, none⟩) 3 3] 22 false 0 false)) (.one (.cells [.slice (some ⟨163, 0, none⟩) 3 3] 22 true 1 false))) (.node aw3H19 (.one (.cells [.slice (some ⟨166, 0, none⟩) 3 3] 22 false 0 false)))))
noncomputable def aw3H71 : Tri := (.one (.cells [.int .i64 (0), .int .i64 (2)] 3 false 0 false))
noncomputable def aw3S10 : St := ⟨169, (.node (.node (.node (.node (.node (.node (.node (.node (.node (.node (.node (.node (.node (.node (.node aw3H60 (.node (.node aw3H69 (.node (.node aw3H70 (.node (.node (.node aw3H71 .leaf) .leaf) .leaf)) .leaf)) .leaf)) .leaf) .leaf) .leaf) .leaf) .leaf) .leaf) .leaf) .leaf) .leaf) .leaf) .leaf) .leaf) .leaf) .leaf), []⟩
noncomputable def aw3H72 : TV := (.one (.slice (some ⟨265, 0, none⟩) 1 1))
noncomputable def aw3H73 : TV := (.node (.node (.one (.int .i64 (0))) aw3H72) (.node (.one (.bool true)) (.one (.int .i64 (0)))))
noncomputable def aw3H74 : TV := (.one (.tuple #[.slice (some ⟨265, 0, none⟩) 1 1, .bool true, .int .i64 (0)]))
noncomputable def aw3H75 : TV := (.node aw3H66 (.node aw3H67 (.node aw3H68 (.node (.one (.bool false)) aw3H74))))
noncomputable def aw3H76 : TV := (.node (.node (.one (.agg #[.slice (some ⟨170, 0, none⟩) 1 1, .slice (some ⟨171, 0, none⟩) 2 2, .slice (some ⟨172, 0, none⟩) 1 1, .slice (some ⟨173, 0, none⟩) 1 1])) (.one (.agg #[.int .i64 (1), .int .i64 (4)]))) (.node (.one (.slice (some ⟨174, 0, none⟩) 1 1)) aw3H74))
noncomputable def aw3A11 : MA := ⟨291, (.node (.node (.node (.node (.node aw3H56 (.node (.node aw3H73 .leaf) .leaf)) (.node aw3H17 aw3H34)) aw3H65) (.node (.node (.node aw3H75 (.node (.node aw3H76 (.node (.node aw3H72 (.one (.bool true))) (.node (.one (.int .i64 (0))) .leaf))) .leaf)) .leaf) .leaf)) .leaf), []⟩
noncomputable def aw3H77 : Tri := (.one (.cells [.slice (some ⟨170, 0, none⟩) 1 1, .slice (some ⟨171, 0, none⟩) 2 2, .slice (some ⟨172, 0, none⟩) 1 1, .slice (some ⟨173, 0, none⟩) 1 1] 71 false 0 false))
noncomputable def aw3H78 : Tri := (.one (.cells [.int .i64 (1)] 3 true 1 false))
noncomputable def aw3H79 : Tri := (.one (.cells [.int .i64 (2)] 3 false 0 false))
noncomputable def aw3H80 : Tri := (.one (.cells [.int .i64 (2)] 3 true 1 false))
noncomputable def aw3H81 : Tri := (.node aw3H60 (.node (.node aw3H69 (.node (.node aw3H70 (.node (.node (.node aw3H71 aw3H77) (.node aw3H43 aw3H44)) (.node (.node aw3H43 aw3H43) (.node (.one (.cells [.int .i64 (1), .int .i64 (4)] 121 false 0 false)) aw3H77)))) .leaf)) (.node .leaf (.node (.node .leaf (.node (.node .leaf (.node (.one (.cells [.slice (some ⟨265, 0, none⟩) 1 1] 29 false 0 false)) (.one (.cells [.slice (some ⟨174, 0, none⟩) 1 1] 123 false 0 false)))) (.node (.node (.one (.hole)) (.one (.hole))) (.node aw3H43 aw3H78)))) (.node (.node (.node (.node (.one (.cells [] 3 false 0 false)) aw3H78) (.node aw3H77 aw3H44)) (.node (.node aw3H43 (.one (.cells [] 3 false 0 false))) (.node aw3H47 (.one (.cells [] 3 false 0 false))))) (.node (.node (.node aw3H47 (.one (.cells [.slice (some ⟨248, 0, none⟩) 2 2] 140 false 0 false))) (.node aw3H79 aw3H80)) (.node (.node (.one (.cells [] 3 false 0 false)) aw3H80) (.node aw3H77 aw3H44))))))))
noncomputable def aw3H82 : Tri := (.one (.cells [.int .i64 (1), .int .i64 (2)] 3 true 1 false))
noncomputable def aw3H83 : Tri := (.one (.cells [.int .i64 (3)] 3 false 0 false))
noncomputable def aw3H84 : Tri := (.one (.cells [.int .i64 (3)] 3 true 1 false))
noncomputable def aw3H85 : Tri := (.one (.cells [.int .i64 (2), .int .i64 (2)] 3 true 1 false))
noncomputable def aw3H86 : Tri := (.node (.node (.node (.node aw3H79 (.one (.cells [] 3 false 0 false))) (.node aw3H82 (.one (.cells [] 3 false 0 false)))) (.node (.node aw3H82 (.one (.cells [.slice (some ⟨260, 0, none⟩) 2 2] 140 false 0 false))) (.node aw3H83 aw3H84))) (.node (.node (.node (.one (.cells [] 3 false 0 false)) aw3H84) (.node aw3H77 aw3H44)) (.node (.node aw3H83 (.one (.cells [] 3 false 0 false))) (.node aw3H85 (.one (.cells [] 3 false 0 false))))))
noncomputable def aw3H87 : Tri := (.node aw3H85 (.one (.cells [.slice (some ⟨272, 0, none⟩) 2 2] 140 false 0 false)))
noncomputable def aw3S11 : St := ⟨274, (.node (.node (.node (.node (.node (.node (.node (.node (.node (.node (.node (.node (.node (.node aw3H81 (.node (.node (.node (.node aw3H86 (.node (.node (.node aw3H87 .leaf) .leaf) .leaf)) .leaf) .leaf) .leaf)) .leaf) .leaf) .leaf) .leaf) .leaf) .leaf) .leaf) .leaf) .leaf) .leaf) .leaf) .leaf) .leaf), []⟩
noncomputable def aw3H88 : TV := (.node (.one (.slice none 0 0)) (.one (.bool false)))
noncomputable def aw3H89 : TV := (.node aw3H88 (.node (.one (.int .i64 (0))) .leaf))
noncomputable def aw3H90 : TV := (.one (.tuple #[.slice none 0 0, .bool false, .int .i64 (0)]))
noncomputable def aw3H91 : TV := (.node aw3H76 (.node (.node aw3H72 (.one (.bool true))) (.node (.one (.int .i64 (0))) aw3H90)))
noncomputable def aw3H92 : TV := (.one (.agg #[.int .i64 (1), .int .i64 (2)]))
noncomputable def aw3H93 : TV := (.node (.node (.one (.agg #[.slice (some ⟨275, 0, none⟩) 1 1, .slice (some ⟨276, 0, none⟩) 2 2, .slice (some ⟨277, 0, none⟩) 1 1, .slice (some ⟨278, 0, none⟩) 1 1])) aw3H92) (.node (.one (.slice (some ⟨279, 0, none⟩) 1 1)) aw3H90))
noncomputable def aw3A12 : MA := ⟨291, (.node (.node (.node (.node (.node aw3H56 (.node (.node aw3H73 aw3H89) .leaf)) (.node aw3H17 aw3H34)) aw3H65) (.node (.node (.node aw3H75 (.node aw3H91 (.node aw3H93 aw3H89))) .leaf) .leaf)) .leaf), []⟩
noncomputable def aw3H94 : Tri := (.node (.node aw3H86 (.node (.node (.node aw3H87 (.node (.one (.cells [.slice (some ⟨275, 0, none⟩) 1 1, .slice (some ⟨276, 0, none⟩) 2 2, .slice (some ⟨277, 0, none⟩) 1 1, .slice (some ⟨278, 0, none⟩) 1 1] 71 false 0 false)) aw3H43)) (.node (.node aw3H44 aw3H43) (.node aw3H43 (.one (.cells [.int .i64 (1), .int .i64 (2)] 121 false 0 false))))) .leaf)) .leaf)
noncomputable def aw3S12 : St := ⟨349, (.node (.node (.node (.node (.node (.node (.node (.node (.node (.node (.node (.node (.node (.node aw3H81 (.node (.node aw3H94 .leaf) .leaf)) .leaf) .leaf) .leaf) .leaf) .leaf) .leaf) .leaf) .leaf) .leaf) .leaf) .leaf) .leaf) .leaf), []⟩
noncomputable def aw3H95 : TV := (.one (.slice (some ⟨358, 0, none⟩) 2 2))
noncomputable def aw3H96 : TV := (.node aw3H73 (.node aw3H88 (.node (.one (.int .i64 (0))) aw3H95)))
noncomputable def aw3H97 : TV := (.one (.tuple #[.slice (some ⟨358, 0, none⟩) 2 2, .int .i64 (0)]))
noncomputable def aw3H98 : TV := (.node aw3H75 (.node aw3H91 (.node aw3H93 (.node aw3H88 (.node (.one (.int .i64 (0))) aw3H97)))))
noncomputable def aw3H99 : TV := (.node (.node (.one (.slice (some ⟨349, 0, none⟩) 2 2)) (.one (.agg #[.int .i64 (2), .int .i64 (1)]))) (.node aw3H97 aw3H95))
noncomputable def aw3A13 : MA := ⟨291, (.node (.node (.node (.node (.node aw3H56 (.node aw3H96 (.node aw3H14 .leaf))) (.node aw3H17 aw3H34)) aw3H65) (.node (.node aw3H98 (.node (.node (.node aw3H99 aw3H14) .leaf) .leaf)) .leaf)) .leaf), []⟩
noncomputable def aw3H100 : Tri := (.one (.cells [.int .i64 (2), .int .i64 (1)] 59 false 0 false))
noncomputable def aw3H101 : Tri := (.node .leaf (.node .leaf (.node .leaf (.node (.node .leaf aw3H44) (.node aw3H100 .leaf)))))
noncomputable def aw3H102 : Tri := (.one (.cells [.int .i64 (0), .int .i64 (0)] 26 false 0 false))
noncomputable def aw3H103 : Tri := (.node (.node .leaf aw3H102) (.node aw3H100 (.one (.cells [] 3 false 0 false))))
noncomputable def aw3H104 : Tri := (.node (.one (.cells [.int .i64 (-2), .int .i64 (2)] 3 true 1 false)) aw3H79)
noncomputable def aw3H105 : Tri := (.one (.cells [.int .i64 (-1), .int .i64 (1)] 3 false 0 false))
noncomputable def aw3S13 : St := ⟨359, (.node (.node (.node (.node (.node (.node (.node (.node (.node (.node (.node (.node (.node (.node aw3H81 (.node (.node aw3H94 (.node aw3H101 (.node (.node (.node aw3H103 (.node aw3H104 (.node aw3H105 .leaf))) .leaf) .leaf))) .leaf)) .leaf) .leaf) .leaf) .leaf) .leaf) .leaf) .leaf) .leaf) .leaf) .leaf) .leaf) .leaf) .leaf), []⟩
noncomputable def aw3H106 : TV := (.node aw3H99 (.node (.node (.one (.int .i64 (0))) aw3H25) (.node (.one (.slice (some ⟨359, 0, none⟩) 2 2)) (.one (.agg #[.int .i64 (1), .int .i64 (1)])))))
noncomputable def aw3A14 : MA := ⟨291, (.node (.node (.node (.node (.node aw3H56 (.node aw3H96 (.node aw3H24 .leaf))) (.node aw3H17 aw3H34)) aw3H65) (.node (.node aw3H98 (.node (.node aw3H106 (.node (.node (.node aw3H25 (.one (.bool true))) (.node (.one (.int .i64 (0))) .leaf)) .leaf)) .leaf)) .leaf)) .leaf), []⟩
noncomputable def aw3H107 : Tri := (.node (.node aw3H103 (.node aw3H104 (.node aw3H105 aw3H44))) .leaf)
noncomputable def aw3S14 : St := ⟨373, (.node (.node (.node (.node (.node (.node (.node (.node (.node (.node (.node (.node (.node (.node aw3H81 (.node (.node aw3H94 (.node aw3H101 (.node aw3H107 .leaf))) .leaf)) .leaf) .leaf) .leaf) .leaf) .leaf) .leaf) .leaf) .leaf) .leaf) .leaf) .leaf) .leaf) .leaf), []⟩
noncomputable def aw3H108 : TV := (.node aw3H106 (.node (.node (.node aw3H25 (.one (.bool true))) (.node (.one (.int .i64 (0))) aw3H29)) (.node (.node (.one (.slice (some ⟨373, 0, none⟩) 2 2)) aw3H92) (.node aw3H29 (.one (.bool false))))))
noncomputable def aw3A15 : MA := ⟨291, (.node (.node (.node (.node (.node aw3H56 (.node aw3H96 (.node aw3H28 aw3H14))) (.node aw3H17 aw3H34)) aw3H65) (.node (.node aw3H98 (.node aw3H108 (.node (.node aw3H14 .leaf) .leaf))) .leaf)) .leaf), []⟩
noncomputable def aw3H109 : Tri := (.node aw3H94 (.node aw3H101 (.node aw3H107 (.node (.node .leaf (.node (.node .leaf aw3H44) .leaf)) .leaf))))
noncomputable def aw3S15 : St := ⟨387, (.node (.node (.node (.node (.node (.node (.node (.node (.node (.node (.node (.node (.node (.node aw3H81 (.node aw3H109 .leaf)) .leaf) .leaf) .leaf) .leaf) .leaf) .leaf) .leaf) .leaf) .leaf) .leaf) .leaf) .leaf) .leaf), []⟩
noncomputable def aw3H110 : TV := (.one (.slice (some ⟨398, 0, none⟩) 4 4))
noncomputable def aw3H111 : TV := (.one (.tuple #[.slice (some ⟨398, 0, none⟩) 4 4, .int .i64 (0)]))
noncomputable def aw3H112 : TV := (.node (.node (.one (.int .i64 (0))) aw3H111) (.node (.one (.slice (some ⟨387, 0, none⟩) 2 2)) (.one (.slice (some ⟨388, 0, none⟩) 1 1))))
noncomputable def aw3A16 : MA := ⟨291, (.node (.node (.node (.node (.node aw3H56 (.node aw3H96 (.node aw3H28 (.node (.node (.one (.int .i64 (0))) aw3H110) (.node (.one (.int .i64 (0))) .leaf))))) (.node aw3H17 aw3H34)) aw3H65) (.node (.node aw3H98 (.node aw3H108 (.node (.node aw3H112 (.node (.node aw3H111 aw3H110) (.node (.one (.int .i64 (0))) .leaf))) .leaf))) .leaf)) .leaf), []⟩
noncomputable def aw3H113 : Tri := (.one (.cells [.int .i64 (8)] 3 false 0 false))
noncomputable def aw3H114 : Tri := (.one (.cells [.int .i64 (0), .int .i64 (0), .int .i64 (0)] 26 false 0 false))
noncomputable def aw3H115 : Tri := (.node (.node .leaf (.node .leaf aw3H44)) (.node (.node aw3H113 aw3H114) (.node aw3H113 (.one (.cells [.int .i64 (-1)] 155 false 0 false)))))
noncomputable def aw3H116 : Tri := (.node (.node (.one (.cells [.int .i64 (1)] 155 false 0 false)) aw3H113) (.node (.one (.hole)) aw3H113))
noncomputable def aw3H117 : Tri := (.one (.cells [.int .i64 (8), .int .i64 (8), .int .i64 (8), .int .i64 (8)] 3 true 1 false))
noncomputable def aw3S16 : St := ⟨399, (.node (.node (.node (.node (.node (.node (.node (.node (.node (.node (.node (.node (.node (.node aw3H81 (.node aw3H109 (.node (.node (.node (.node aw3H115 (.node aw3H116 (.node (.node (.one (.hole)) aw3H113) (.node aw3H117 .leaf)))) .leaf) .leaf) .leaf))) .leaf) .leaf) .leaf) .leaf) .leaf) .leaf) .leaf) .leaf) .leaf) .leaf) .leaf) .leaf) .leaf), []⟩
noncomputable def aw3H118 : TV := (.one (.slice (some ⟨406, 0, none⟩) 3 3))
noncomputable def aw3H119 : TV := (.node aw3H96 (.node aw3H28 (.node (.node (.one (.int .i64 (0))) aw3H110) (.node (.one (.int .i64 (0))) aw3H118))))
noncomputable def aw3H120 : TV := (.node (.node (.node aw3H56 aw3H119) (.node (.node (.node aw3H14 .leaf) (.node (.node .leaf aw3H5) aw3H16)) aw3H34)) aw3H65)
noncomputable def aw3H121 : TV := (.one (.tuple #[.slice (some ⟨406, 0, none⟩) 3 3, .int .i64 (0)]))
noncomputable def aw3H122 : TV := (.node aw3H112 (.node (.node aw3H111 aw3H110) (.node (.one (.int .i64 (0))) aw3H121)))
noncomputable def aw3H123 : TV := (.node (.node (.one (.slice (some ⟨399, 0, none⟩) 3 3)) (.one (.slice (some ⟨400, 0, none⟩) 2 2))) (.node aw3H121 aw3H118))
noncomputable def aw3A17 : MA := ⟨291, (.node (.node aw3H120 (.node (.node aw3H98 (.node aw3H108 (.node aw3H122 (.node aw3H123 aw3H14)))) .leaf)) .leaf), []⟩
noncomputable def aw3H124 : Tri := (.node aw3H115 (.node aw3H116 (.node (.node (.one (.hole)) aw3H113) (.node aw3H117 (.one (.cells [.int .i64 (0), .int .i64 (0), .int .i64 (3)] 3 false 0 false))))))
noncomputable def aw3H125 : Tri := (.one (.cells [.int .i64 (0), .int .i64 (0)] 155 false 0 false))
noncomputable def aw3H126 : Tri := (.node (.node (.one (.cells [.int .i64 (5), .int .i64 (7)] 3 false 0 false)) aw3H114) (.node (.one (.cells [.int .i64 (5), .int .i64 (21)] 3 false 0 false)) aw3H125))
noncomputable def aw3H127 : Tri := (.one (.cells [.int .i64 (0)] 3 false 0 false))
noncomputable def aw3H128 : Tri := (.one (.cells [.int .i64 (5), .int .i64 (21), .int .i64 (0)] 3 true 1 false))
noncomputable def aw3S17 : St := ⟨407, (.node (.node (.node (.node (.node (.node (.node (.node (.node (.node (.node (.node (.node (.node aw3H81 (.node aw3H109 (.node (.node (.node aw3H124 (.node (.node aw3H126 (.node (.node aw3H125 aw3H127) (.node aw3H128 .leaf))) .leaf)) .leaf) .leaf))) .leaf) .leaf) .leaf) .leaf) .leaf) .leaf) .leaf) .leaf) .leaf) .leaf) .leaf) .leaf) .leaf), []⟩
noncomputable def aw3H129 : TV := (.node aw3H98 (.node aw3H108 (.node aw3H122 (.node aw3H123 (.node aw3H61 aw3H61)))))
noncomputable def aw3H130 : TV := (.node (.one (.bool true)) (.one (.bool false)))
noncomputable def aw3H131 : TV := (.node (.node aw3H62 (.node (.node aw3H61 aw3H63) (.node aw3H130 aw3H63))) (.node (.node (.node (.node aw3H72 (.one (.slice (some ⟨407, 0, none⟩) 1 1))) aw3H130) (.node aw3H63 aw3H63)) (.node (.node (.node (.one (.bool false)) aw3H95) (.node (.one (.slice (some ⟨408, 0, none⟩) 2 2)) (.one (.bool true)))) (.node aw3H63 aw3H64))))
noncomputable def aw3H132 : TV := (.node (.node (.node aw3H63 aw3H63) (.node aw3H63 (.node aw3H110 (.one (.slice (some ⟨409, 0, none⟩) 4 4))))) (.node (.node aw3H130 aw3H63) (.node (.node aw3H118 (.one (.slice (some ⟨410, 0, none⟩) 3 3))) aw3H130)))
noncomputable def aw3A18 : MA := ⟨291, (.node (.node aw3H120 (.node aw3H129 (.node aw3H131 (.node aw3H132 aw3H2)))) .leaf), []⟩
noncomputable def aw3H133 : Tri := (.node aw3H126 (.node (.node aw3H125 aw3H127) (.node aw3H128 aw3H83)))
noncomputable def aw3H134 : Tri := (.node aw3H105 (.one (.cells [.int .i64 (8), .int .i64 (8), .int .i64 (8), .int .i64 (8)] 3 false 0 false)))
noncomputable def aw3H135 : Tri := (.one (.cells [.int .i64 (5), .int .i64 (21), .int .i64 (0)] 3 false 0 false))
noncomputable def aw3S18 : St := ⟨411, (.node (.node (.node (.node (.node (.node (.node (.node (.node (.node (.node (.node (.node (.node aw3H81 (.node aw3H109 (.node (.node (.node aw3H124 (.node aw3H133 (.node (.node aw3H134 (.node aw3H135 .leaf)) .leaf))) .leaf) .leaf))) .leaf) .leaf) .leaf) .leaf) .leaf) .leaf) .leaf) .leaf) .leaf) .leaf) .leaf) .leaf) .leaf), []⟩
noncomputable def aw3H136 : TV := (.one (.slice (some ⟨412, 0, none⟩) 6 6))
noncomputable def aw3H137 : TV := (.one (.tuple #[.slice (some ⟨412, 0, none⟩) 6 6, .int .i64 (0)]))
noncomputable def aw3H138 : TV := (.node (.node (.one (.bool false)) aw3H137) (.node aw3H137 aw3H136))
noncomputable def aw3A19 : MA := ⟨291, (.node (.node (.node (.node (.node aw3H56 aw3H119) (.node (.node (.node (.node (.node (.one (.int .i64 (0))) aw3H136) (.node (.one (.int .i64 (0))) .leaf)) .leaf) (.node (.node .leaf aw3H5) aw3H16)) aw3H34)) aw3H65) (.node aw3H129 (.node aw3H131 (.node aw3H132 (.node (.node aw3H138 aw3H14) .leaf))))) .leaf), []⟩
noncomputable def aw3H139 : Tri := (.one (.cells [.int .i64 (1), .int .i64 (2), .int .i64 (2), .int .i64 (2), .int .i64 (3), .int .i64 (0)] 3 false 0 false))
noncomputable def aw3S19 : St := ⟨413, (.node (.node (.node (.node (.node (.node (.node (.node (.node (.node (.node (.node (.node (.node aw3H81 (.node aw3H109 (.node (.node (.node aw3H124 (.node aw3H133 (.node (.node aw3H134 (.node aw3H135 aw3H114)) (.node (.node aw3H139 .leaf) .leaf)))) .leaf) .leaf))) .leaf) .leaf) .leaf) .leaf) .leaf) .leaf) .leaf) .leaf) .leaf) .leaf) .leaf) .leaf) .leaf), []⟩
noncomputable def aw3H140 : TV := (.node (.node (.one (.int .i64 (0))) aw3H136) aw3H55)
noncomputable def aw3H141 : TV := (.node aw3H138 (.node (.node (.one (.int .i64 (0))) aw3H58) (.node (.one (.slice (some ⟨413, 0, none⟩) 6 6)) aw3H58)))
noncomputable def aw3H142 : TV := (.node (.one (.int .i64 (3))) (.one (.int .i64 (0))))
noncomputable def aw3A20 : MA := ⟨291, (.node (.node (.node (.node (.node aw3H56 aw3H119) (.node (.node (.node aw3H140 aw3H14) (.node (.node .leaf aw3H5) aw3H16)) aw3H34)) aw3H65) (.node aw3H129 (.node aw3H131 (.node aw3H132 (.node aw3H141 (.node (.node aw3H142 .leaf) .leaf)))))) .leaf), []⟩
noncomputable def aw3H143 : Tri := (.node aw3H124 (.node aw3H133 (.node (.node aw3H134 (.node aw3H135 aw3H114)) (.node (.node aw3H139 aw3H139) .leaf))))
noncomputable def aw3S20 : St := ⟨416, (.node (.node (.node (.node (.node (.node (.node (.node (.node (.node (.node (.node (.node (.node aw3H81 (.node aw3H109 (.node (.node aw3H143 .leaf) .leaf))) .leaf) .leaf) .leaf) .leaf) .leaf) .leaf) .leaf) .leaf) .leaf) .leaf) .leaf) .leaf) .leaf), []⟩
noncomputable def aw3H144 : TV := (.one (.slice (some ⟨430, 0, none⟩) 6 6))
noncomputable def aw3H145 : TV := (.one (.tuple #[.slice (some ⟨430, 0, none⟩) 6 6, .int .i64 (0)]))
noncomputable def aw3H146 : TV := (.node aw3H142 (.node aw3H145 (.one (.slice (some ⟨416, 0, none⟩) 6 6))))
noncomputable def aw3A21 : MA := ⟨291, (.node (.node (.node (.node (.node aw3H56 aw3H119) (.node (.node (.node aw3H140 (.node (.node (.one (.int .i64 (0))) aw3H144) (.node (.one (.int .i64 (0))) .leaf))) (.node (.node .leaf aw3H5) aw3H16)) aw3H34)) aw3H65) (.node aw3H129 (.node aw3H131 (.node aw3H132 (.node aw3H141 (.node aw3H146 (.node (.node aw3H145 aw3H144) (.node (.one (.int .i64 (0))) .leaf)))))))) .leaf), []⟩
noncomputable def aw3H147 : Tri := (.node (.node (.node aw3H139 .leaf) (.node aw3H102 aw3H127)) (.node (.node (.one (.hole)) aw3H43) (.node (.one (.hole)) aw3H79)))
noncomputable def aw3H148 : Tri := (.node (.node (.one (.hole)) aw3H83) (.node (.one (.hole)) (.one (.cells [.int .i64 (4)] 3 false 0 false))))
noncomputable def aw3H149 : Tri := (.node (.one (.hole)) (.one (.cells [.int .i64 (5)] 3 false 0 false)))
noncomputable def aw3H150 : Tri := (.one (.cells [.int .i64 (0), .int .i64 (1), .int .i64 (2), .int .i64 (3), .int .i64 (4), .int .i64 (5)] 3 true 1 false))
noncomputable def aw3S21 : St := ⟨431, (.node (.node (.node (.node (.node (.node (.node (.node (.node (.node (.node (.node (.node (.node aw3H81 (.node aw3H109 (.node (.node aw3H143 (.node (.node aw3H147 (.node aw3H148 (.node aw3H149 (.node aw3H150 .leaf)))) .leaf)) .leaf))) .leaf) .leaf) .leaf) .leaf) .leaf) .leaf) .leaf) .leaf) .leaf) .leaf) .leaf) .leaf) .leaf), []⟩
noncomputable def aw3H151 : TV := (.node aw3H140 (.node (.node (.one (.int .i64 (0))) aw3H144) aw3H61))
noncomputable def aw3H152 : TV := (.node aw3H129 (.node aw3H131 (.node aw3H132 (.node aw3H141 (.node aw3H146 (.node (.node aw3H145 aw3H144) (.node (.one (.int .i64 (0))) (.one (.slice (some ⟨431, 0, none⟩) 6 6)))))))))
noncomputable def aw3H153 : TV := (.node (.one (.slice (some ⟨432, 0, none⟩) 6 6)) (.one (.int .i64 (0))))
noncomputable def aw3A22 : MA := ⟨291, (.node (.node (.node (.node (.node aw3H56 aw3H119) (.node (.node aw3H151 (.node (.node .leaf aw3H5) aw3H16)) aw3H34)) aw3H65) aw3H152) (.node (.node (.node (.node (.node (.node (.node aw3H153 .leaf) .leaf) .leaf) .leaf) .leaf) .leaf) .leaf)), []⟩
noncomputable def aw3H154 : Tri := (.node aw3H147 (.node aw3H148 (.node aw3H149 (.node aw3H150 aw3H139))))
noncomputable def aw3H155 : Tri := (.node (.one (.cells [.int .i64 (2), .int .i64 (1), .int .i64 (0), .int .i64 (1), .int .i64 (2), .int .i64 (3)] 3 false 0 false)) .leaf)
noncomputable def aw3S22 : St := ⟨435, (.node (.node (.node (.node (.node (.node (.node (.node (.node (.node (.node (.node (.node (.node aw3H81 (.node aw3H109 (.node (.node aw3H143 (.node aw3H154 (.node (.node (.node aw3H155 .leaf) .leaf) .leaf))) .leaf))) .leaf) .leaf) .leaf) .leaf) .leaf) .leaf) .leaf) .leaf) .leaf) .leaf) .leaf) .leaf) .leaf), []⟩
noncomputable def aw3H156 : TV := (.one (.string ⟨#[112, 108, 97, 110, 116, 110, 117, 109, 32, 49, 10, 112, 108, 97, 110, 116, 100, 101, 110, 32, 45, 49, 32, 50, 10, 99, 111, 110, 116, 114, 111, 108, 108, 101, 114, 110, 117, 109, 32, 49, 10, 99, 111, 110, 116, 114, 111, 108, 108, 101, 114, 100, 101, 110, 32, 49, 10]⟩))
noncomputable def aw3H157 : TV := (.node (.node aw3H151 (.node (.node (.node aw3H156 (.one (.int .i64 (0)))) aw3H5) aw3H16)) aw3H34)
noncomputable def aw3H158 : TV := (.one (.tuple #[.string ⟨#[112, 108, 97, 110, 116, 110, 117, 109, 32, 49, 10, 112, 108, 97, 110, 116, 100, 101, 110, 32, 45, 49, 32, 50, 10, 99, 111, 110, 116, 114, 111, 108, 108, 101, 114, 110, 117, 109, 32, 49, 10, 99, 111, 110, 116, 114, 111, 108, 108, 101, 114, 100, 101, 110, 32, 49, 10]⟩, .int .i64 (0)]))
noncomputable def aw3H159 : TV := (.node aw3H153 (.node aw3H158 (.one (.agg #[.slice (some ⟨436, 0, none⟩) 1 1, .slice (some ⟨437, 0, none⟩) 2 2, .slice (some ⟨438, 0, none⟩) 1 1, .slice (some ⟨439, 0, none⟩) 1 1]))))
noncomputable def aw3A23 : MA := ⟨291, (.node (.node (.node (.node (.node aw3H56 aw3H119) aw3H157) aw3H65) aw3H152) (.node (.node (.node (.node (.node (.node aw3H159 (.node (.node aw3H158 aw3H156) (.node (.one (.int .i64 (0))) .leaf))) .leaf) .leaf) .leaf) .leaf) .leaf)), []⟩
noncomputable def aw3H160 : Tri := (.node aw3H143 (.node aw3H154 (.node (.node (.node aw3H155 (.node .leaf (.one (.cells [.slice (some ⟨436, 0, none⟩) 1 1, .slice (some ⟨437, 0, none⟩) 2 2, .slice (some ⟨438, 0, none⟩) 1 1, .slice (some ⟨439, 0, none⟩) 1 1] 71 false 0 false)))) aw3H45) .leaf)))
noncomputable def aw3S23 : St := ⟨464, (.node (.node (.node (.node (.node (.node (.node (.node (.node (.node (.node (.node (.node (.node aw3H81 (.node aw3H109 (.node aw3H160 .leaf))) .leaf) .leaf) .leaf) .leaf) .leaf) .leaf) .leaf) .leaf) .leaf) .leaf) .leaf) .leaf) .leaf), []⟩
noncomputable def aw3H161 : TV := (.node (.one (.bool true)) (.one (.bool true)))
noncomputable def aw3H162 : TV := (.node (.node (.node (.node (.node (.node (.node (.node (.node (.one (.bool true)) (.one (.slice (some ⟨13, 0, none⟩) 2 2))) aw3H13) aw3H28) (.node aw3H39 (.node aw3H49 aw3H55))) aw3H119) aw3H157) aw3H65) aw3H152) (.node (.node (.node (.node (.node (.node aw3H159 (.node (.node aw3H158 aw3H156) aw3H61)) aw3H62) (.node (.node (.node aw3H161 (.node aw3H136 (.one (.slice (some ⟨464, 0, none⟩) 6 6)))) (.node aw3H161 (.node (.one (.bool true)) (.one (.int .i64 (3)))))) (.node (.node aw3H161 (.node (.one (.bool true)) aw3H144)) (.node (.node (.one (.slice (some ⟨465, 0, none⟩) 6 6)) (.one (.bool true))) aw3H161)))) (.node (.node (.node (.node (.node aw3H156 (.one (.bool true))) (.node (.one (.bool true)) .leaf)) .leaf) .leaf) .leaf)) .leaf) .leaf))
noncomputable def aw3A24 : MA := ⟨291, aw3H162, []⟩
noncomputable def aw3H163 : Tri := (.node (.node (.node (.node (.node (.node (.node (.node (.node (.node (.node (.node (.node (.node aw3H81 (.node aw3H109 (.node aw3H160 (.node (.node .leaf (.node (.node (.node (.node aw3H139 (.one (.cells [.int .i64 (0), .int .i64 (1), .int .i64 (2), .int .i64 (3), .int .i64 (4), .int .i64 (5)] 3 false 0 false))) .leaf) .leaf) .leaf)) .leaf)))) .leaf) .leaf) .leaf) .leaf) .leaf) .leaf) .leaf) .leaf) .leaf) .leaf) .leaf) .leaf) .leaf)
noncomputable def aw3S24 : St := ⟨466, aw3H163, []⟩
noncomputable def aw3A25 : MA := ⟨291, aw3H162, []⟩
noncomputable def aw3S25 : St := ⟨466, aw3H163, []⟩
def aw3R0 : Nat := 0
def aw3W0 : Nat := 0
def aw3RR0 : Nat := 142902310678056587604909754600731638422318421984864386643669642159944849417504598702114284873728616299881533201409689947487610737044052508615
def aw3WW0 : Nat := 89648761530908179774528531960903737588787524080458361052119002694918968717662416604848289712437060341694781082138596535661773195264
def aw3R1 : Nat := 8128
def aw3W1 : Nat := 2048
def aw3RR1 : Nat := 142902310678056587604909754600731638422318421984864386643669642159944849417504598702114284873728616299881533201409689947487610737044052508615
def aw3WW1 : Nat := 89648761530908179774528531960903737588787524080458361052119002694918968717662416604848289712437060341694781082138596535661773195264
def aw3R2 : Nat := 114688
def aw3W2 : Nat := 0
def aw3RR2 : Nat := 142902310678056587604909754600731638422318421984864386643669642159944849417504598702114284873728616299881533201409689947487610737044052502791
def aw3WW2 : Nat := 89648761530908179774528531960903737588787524080458361052119002694918968717662416604848289712437060341694781082138596535661773193216
def aw3R3 : Nat := 262144
def aw3W3 : Nat := 0
def aw3RR3 : Nat := 142902310678056587604909754600731638422318421984864386643669642159944849417504598702114284873728616299881533201409689947487610737044052453639
def aw3WW3 : Nat := 89648761530908179774528531960903737588787524080458361052119002694918968717662416604848289712437060341694781082138596535661773193216
def aw3R4 : Nat := 67108864
def aw3W4 : Nat := 0
def aw3RR4 : Nat := 142902310678056587604909754600731638422318421984864386643669642159944849417504598702114284873728616299881533201409689947487610737044052191495
def aw3WW4 : Nat := 89648761530908179774528531960903737588787524080458361052119002694918968717662416604848289712437060341694781082138596535661773193216
def aw3R5 : Nat := 1073741824
def aw3W5 : Nat := 4398046511104
def aw3RR5 : Nat := 142902310678056587604909754600731638422318421984864386643669642159944849417504598702114284873728616299881533201409689947487610737043985082631
def aw3WW5 : Nat := 89648761530908179774528531960903737588787524080458361052119002694918968717662416604848289712437060341694781082138596535661773193216
def aw3R6 : Nat := 71485847991484416
def aw3W6 : Nat := 49548391994097664
def aw3RR6 : Nat := 142902310678056587604909754600731638422318421984864386643669642159944849417504598702114284873728616299881533201409689947487610737042911340807
def aw3WW6 : Nat := 89648761530908179774528531960903737588787524080458361052119002694918968717662416604848289712437060341694781082138596531263726682112
def aw3R7 : Nat := 2233785415175766017
def aw3W7 : Nat := 20282409603651742481541289213952
def aw3RR7 : Nat := 142902310678056587604909754600731638422318421984864386643669642159944849417504598702114284873728616299881533201409689947487575279991938820359
def aw3WW7 : Nat := 89648761530908179774528531960903737588787524080458361052119002694918968717662416604848289712437060341694781082138546982871732584448
def aw3R8 : Nat := 1257509395426403566284729579732992
def aw3W8 : Nat := 40564819207303340847894502572032
def aw3RR8 : Nat := 142902310678056587604909754600731638422318421984864386643669642159944849417504598702114284873728616299881533201409689947485341494576763054342
def aw3WW8 : Nat := 89648761530908179774528531960903737588787524080458361052119002694918968717662416604848289712437060321412371478486804501330443370496
def aw3R9 : Nat := 748263147854953586862709994806938521608524889532672
def aw3W9 : Nat := 22835963083295358096932575511191922182123945984
def aw3RR9 : Nat := 142902310678056587604909754600731638422318421984864386643669642159944849417504598702114284873728616299881531943900294521081775209847183321350
def aw3WW9 : Nat := 89648761530908179774528531960903737588787524080458361052119002694918968717662416604848289712437060280847552271183463653435940798464
def aw3R10 : Nat := 30354201440888981806180781018463820481507870982493934242678704758137236329529868288
def aw3W10 : Nat := 2609201198670497000107967110970804630665207338103372528024796621718171317591605248
def aw3RR10 : Nat := 142902310678056587604909754600731638422318421984864386643669642159944849417504598702114284125465468444927945081190299714143253601322293788678
def aw3WW10 : Nat := 89648761530908179774528531960903737588787524080458361052119002694918968717662416604825453749353764922750619695672271731253816852480
def aw3R11 : Nat := 1912314690784702054186345314529401423726119232191949841232252840836733905748877115392
def aw3W11 : Nat := 30354201441027016733116592294117482916287606860189680019559568902170379456331382784
def aw3RR11 : Nat := 142902310678056587604909754600731638422318421984864386643639347244053649941590474789440144753192781448177599954916409211668128416515139567622
def aw3WW11 : Nat := 89648761530908179774528531960903737588787524080455751850920332197918860750551445800194788542015661550222594899050553559936225247232
def aw3R12 : Nat := 1159363550382981149119269962575204948572663602024566108049351158310089513862729070479394378597168534553362432
def aw3W12 : Nat := 1027487379963552037201647761095334949476861115147389943434439800045341448487641194015368311793336307576471552
def aw3RR12 : Nat := 142902310678056587604909754600731638422318421984864386641727032553268947887404129474910743329466662215985650113684156370831394510766262452230
def aw3WW12 : Nat := 89648761530908179774528531960903737588787524080425397649479305181185744158257328317278500935155471870203035330148383180479893864448
def aw3R13 : Nat := 1174271291386916613944740298394668513687841274454159935353645485766104512557304221731849499192384351515967488
def aw3W13 : Nat := 0
def aw3RR13 : Nat := 142902310678056587604909754600731066194413732462022239741913654682577219144439331988770370801051235178728066036724542901202393534407467073542
def aw3WW13 : Nat := 89648761530908179774527504473523774036750322432664302314529828320070596768313893877478455593706984229009019961836589844172317392896
def aw3R14 : Nat := 19239260838083241802870625048898248928261591440656956380834127638791856333738872368854622194768025215237611323392
def aw3W14 : Nat := 0
def aw3RR14 : Nat := 142902310678056587604909754600729891923122345545408295001615260014063531303164877828835017155565469074215508732502811051703201150055951106054
def aw3WW14 : Nat := 89648761530908179774527504473523774036750322432664302314529828320070596768313893877478455593706984229009019961836589844172317392896
def aw3R15 : Nat := 645247253472155991580281560679951819671985810293142154634321252787927939730038320972520024189995378533849339969264418816
def aw3W15 : Nat := 219390370501524460253969695277599641666683988257951607047136097674840178823696468684354634507199210288011304650028351488
def aw3RR15 : Nat := 142902310678056587604909754581490631085039103742537669952717011085801939862507921448000889516773612740476636363648188856935175934818339782662
def aw3WW15 : Nat := 89648761530908179774527504473523774036750322432664302314529828320070596768313893877478455593706984229009019961836589844172317392896
def aw3R16 : Nat := 163972867258518695443150867422191254019936317844655693064746869140331123998069415858982479933288752296179851420269465829376
def aw3W16 : Nat := 72302996586433440510365736816084332481231762199218258359258461983138133416471553449630069891843859280205288815236929814528
def aw3RR16 : Nat := 142902310678056587604264507328018475093458822181857718133045025275508797707873600195212961577043574419504116339458193478401326594849075363846
def aw3WW16 : Nat := 89648761530688789404025980013269804341472722790997618326271876713023460670639053698654759125022629594501820751548578539522289041408
def aw3R17 : Nat := 5123829320593948956160403310505283284008867976041193288760765112164092045257868844370362219706193146153723477230622347362304
def aw3W17 : Nat := 0
def aw3RR17 : Nat := 142902310678056587440291640069499779650307954759666464113108707430853104643126731054881837578974158560521636406169441182221475174579609534470
def aw3WW17 : Nat := 89648761458385792817592539502904067525388390309765856127053618353764998687500920282183205675392559702657961471343289724285359226880
def aw3R18 : Nat := 5288447750321988791615322464262168318627237463714249754277190362195246329890490766601513683517722278780729696200186866434048
def aw3W18 : Nat := 10576895500643977583230644928524336637254474927428499508554380724390492659780981533203027367035444557561459392400373732868096
def aw3RR18 : Nat := 142902310678056582316462319475550823489904644254383180104240731389659815882361618890789792321105314190159416699976295028497997943957262172166
def aw3WW18 : Nat := 89648761458385792817592539502904067525388390309765856127053618353764998687500920282183205675392559702657961471343289724285359226880
def aw3R19 : Nat := 21153791001287955166461289857048673274508949854856999017108761448780985319561963066406054734070889115122918784800747465736192
def aw3W19 : Nat := 0
def aw3RR19 : Nat := 142902310678056577028014569153562031874582179992214861477003267675410061605171256695543462430614547588645733182254016247768301743770395738118
def aw3WW19 : Nat := 89648750881490292173614956272259139001051753055290928698554109799384274297008260501201672472365192667213403909883897323911626358784
def aw3R20 : Nat := 1848841333512567281548716733506054044192082217314501714095305750623458116929715572003889183757795708661743101791585328505343180800
def aw3W20 : Nat := 923320669624216667105702379680460491085766643264798293098763219716392447228240563922491477032726168096885159118983025384453308416
def aw3RR20 : Nat := 142902310678056555874223567865606865413292322943541586968053412818411044496409807914558142868651481182590999111364901124849516943022930001926
def aw3WW20 : Nat := 89648750881490292173614956272259139001051753055290928698554109799384274297008260501201672472365192667213403909883897323911626358784
def aw3R21 : Nat := 16636018164724889157470485104858502220618622452254899451022877483687727846833753738239846436624837468584347265768421430973844946944
def aw3W21 : Nat := 0
def aw3RR21 : Nat := 142902310676207714540711000584058148679786268899349504750738911104315738745786349797628427296647591998833203402703158023057931614517586821126
def aw3WW21 : Nat := 88725430211866075506509253892578678509965986412026130405455346579667881849780019937279180995332466499116518750764914298527173050368
def aw3R22 : Nat := 2750488336567848340701786870669939033808945578772810042569115743969704337343180618055654610855306461472612081273712343254342364561414
def aw3W22 : Nat := 88725430211866075506509253892578678509965986412026130405455346579667881849780019937279180995332466499116518750764914298527173050368
def aw3RR22 : Nat := 142902310659571696375986111426587663574927766678730882298484011653292861262098621950794673558407745562208365934118810757289510183543741874182
def aw3WW22 : Nat := 88725430211866075506509253892578678509965986412026130405455346579667881849780019937279180995332466499116518750764914298527173050368
def aw3R23 : Nat := 142902307909083359808137770724800792904988732869785303525673969084177117292394284607614055502753134706901904461506729483577166929201377312768
def aw3W23 : Nat := 0
def aw3RR23 : Nat := 142902307909083359808137770724800792904988732869785303525673969084177117292394284607614055502753134706901904461506729483577166929201377312768
def aw3WW23 : Nat := 0
def aw3R24 : Nat := 0
def aw3W24 : Nat := 0
end Go.Proofs.YtecabbbjdnambaaGreatDoor
end
