/-
  The small worlds between the steps.
  A law reckoned in the small world: what it answers and what must hold, told apart.
  THE SMALL WORLD: a known function without arguments where tables of integers and of strings hold.
  Two rows of integers compared.
  The contract of bipole.loop.checkPoint.
  Contracts: what is answered.
  The value of a polynomial, of both, at each length.
  What holds for all numbers in some ranges, by cutting the ranges.
  Expressions over integers of known ranges, by reflection: their ranges, and what is left when no operation overflows.
  The reference's checkNumbers.
-/
import Derived.Test.YtbkpnhbcihcgaaaGreatDoorGP3
import Derived.IntWalk
import Derived.Test.YtbkpnhbcihcgaaaGreatDoorProg
import Derived.Test.YtbkpnhbcihcgaaaGreatDoorGP2
import Derived.Test.YtbkpnhbcihcgaaaGreatDoorGP1
section
set_option linter.all false
set_option maxRecDepth 1000000
open Go.RowKit
namespace Go.Proofs.YtbkpnhbcihcgaaaGreatDoor
open Mini
noncomputable section
variable (n : Nat) (c : Nat) (g : GI) (e : TypeId) (opn : Bool) (sz : Nat) (ro : Bool) (lw : Int) (up : Int) (i7 : Nat) (jj : Nat)
noncomputable def nnX : Code := loopAt Tryz.prog 78 0
noncomputable def nnK : CallS := kAll [c_range, c_rrange, c_index]
def nnA (g : GI) (e : TypeId) (opn : Bool) (sz : Nat) (ro : Bool) (lw : Int) (up : Int) (i7 : Nat) : MA := MA.ofL 25 (jl [.slice (some ⟨6, 0, none⟩) n c, .int .i64 lw, .int .i64 up] 4 (jl [.int .i64 ((i7 : Nat) : Int)] 17 [])) []
abbrev ze0 : List MObj := [.rows n 1 (fun i j => .int .i64 (g i j)) e opn sz ro]
def nnL (c : Nat) (g : GI) (e : TypeId) (opn : Bool) (sz : Nat) (ro : Bool) (lw : Int) (up : Int) (i7 : Nat) : List MObj := (ze0 n g e opn sz ro)
noncomputable def nnr0 : Option OutCS := evK Tryz.prog nnK 1000 false nnX (nnA n c g e opn sz ro lw up i7) (wS 6 (nnL n c g e opn sz ro lw up i7)) ⟨[1, .row i7 0, .row i7 0, 0, .azz (.int .i64 ((i7 + 1 : Nat) : Int))], True⟩
noncomputable def nnr1 : Option OutCS := evK Tryz.prog nnK 1000 false nnX (nnA n c g e opn sz ro lw up i7) (wS 6 (nnL n c g e opn sz ro lw up i7)) ⟨[1, .row i7 0, .row i7 0, 1], True⟩
def nnr1E (n : Nat) (c : Nat) (g : GI) (e : TypeId) (opn : Bool) (sz : Nat) (ro : Bool) (lw : Int) (up : Int) (i7 : Nat) : MA := MA.ofL 25 (jl [] 6 (jl [.int .i64 (Pl.cr (g i7 0) lw up)] 18 [])) []
noncomputable def nnr2 : Option OutCS := evK Tryz.prog nnK 1000 false nnX (nnA n c g e opn sz ro lw up i7) (wS 6 (nnL n c g e opn sz ro lw up i7)) ⟨[0], True⟩
def nnr2E (n : Nat) (c : Nat) (g : GI) (e : TypeId) (opn : Bool) (sz : Nat) (ro : Bool) (lw : Int) (up : Int) (i7 : Nat) : MA := MA.ofL 25 (jl [] 25 []) []
def nnArgs (g : GI) (e : TypeId) (opn : Bool) (sz : Nat) (ro : Bool) (lw : Int) (up : Int) : Array Value := #[.slice (some ⟨6, 0, none⟩) n c, .int .i64 lw, .int .i64 up]
def nnS (c : Nat) (g : GI) (e : TypeId) (opn : Bool) (sz : Nat) (ro : Bool) (lw : Int) (up : Int) : List MObj := (ze0 n g e opn sz ro)
noncomputable abbrev ze1 := bodyOf Tryz.prog 78
noncomputable abbrev ze2 := startM Tryz.f78 (nnArgs n c g e opn sz ro lw up)
noncomputable def nnf0 : Option OutCS := evK Tryz.prog nnK 1000 false ze1 (ze2 n c g e opn sz ro lw up) (wS 6 (nnS n c g e opn sz ro lw up)) ⟨[.lp 135 (nnA n c g e opn sz ro lw up 0) 6 (nnL n c g e opn sz ro lw up 0) .ret (nnr1E n c g e opn sz ro lw up jj) (ze0 n g e opn sz ro) 7 0], True⟩
noncomputable def nnf1 : Option OutCS := evK Tryz.prog nnK 1000 false ze1 (ze2 n c g e opn sz ro lw up) (wS 6 (nnS n c g e opn sz ro lw up)) ⟨[.lp 135 (nnA n c g e opn sz ro lw up 0) 6 (nnL n c g e opn sz ro lw up 0) (.exit 0) (nnr2E n c g e opn sz ro lw up n) (ze0 n g e opn sz ro) 7 0], True⟩
theorem nnK_ok : FOkS Tryz.prog nnK := kAll_ok _ ⟨k_range, k_rrange, k_index, trivial⟩
abbrev ze3 := decide ((((i7 : Nat)) : Int) < (((n : Nat)) : Int))
abbrev ze4 := (((True ∧ ((ze3 n i7) = true)) ∧ (((((i7 : Nat)) : Int) = (Int.ofNat i7)) ∧ (i7 < n))) ∧ (((0 + (i7 * 1)) = ((i7 * 1) + 0)) ∧ (i7 < n))) ∧ True
theorem nnr0_eq : seenK 6 1 [] 135 0 (nnr0 n c g e opn sz ro lw up i7) = some (.normal, nnA n c g e opn sz ro lw up (i7 + 1), (ze0 n g e opn sz ro), 0, ⟨[], (((ze4 n i7) ∧ (((Pl.cr (g i7 0) lw up) != (0 : Int)) = false)) ∧ (((.int .i64 (IntKind.i64.wrap ((((i7 : Nat)) : Int) + (1 : Int)))) : Value) = (.int .i64 ((((i7 + 1) : Nat)) : Int))))⟩) := by kernel_rfl
theorem nnr0_k (hx : (n : Int) ≤ 9223372036854775807) (h0 : ((i7 : Nat) : Int) < ((n : Nat) : Int)) (h1 : (Pl.cr (g i7 0) lw up) = (0 : Int)) : KC Tryz.prog none nnX (nnA n c g e opn sz ro lw up i7).act (wS 6 (nnL n c g e opn sz ro lw up i7)) .normal (nnA n c g e opn sz ro lw up (i7 + 1)).act (wS 6 (nnL n c g e opn sz ro lw up (i7 + 1))) 7 0 :=
  seenK_ok smx nnK_ok sng (nnr0_eq n c g e opn sz ro lw up i7) kq
theorem nnr1_eq : seenK 6 1 [] 64 0 (nnr1 n c g e opn sz ro lw up i7) = some (.ret, nnr1E n c g e opn sz ro lw up i7, (ze0 n g e opn sz ro), 0, ⟨[], ((ze4 n i7) ∧ (((Pl.cr (g i7 0) lw up) != (0 : Int)) = true))⟩) := by kernel_rfl
abbrev ze5 := wS 6 (ze0 n g e opn sz ro)
theorem nnr1_k (hx : (n : Int) ≤ 9223372036854775807) (h0 : ((i7 : Nat) : Int) < ((n : Nat) : Int)) (h1 : (Pl.cr (g i7 0) lw up) ≠ (0 : Int)) : KC Tryz.prog none nnX (nnA n c g e opn sz ro lw up i7).act (wS 6 (nnL n c g e opn sz ro lw up i7)) .ret (nnr1E n c g e opn sz ro lw up i7).act (ze5 n g e opn sz ro) 7 0 :=
  seenK_ok smx nnK_ok sng (nnr1_eq n c g e opn sz ro lw up i7) kq
theorem nnr2_eq : seenK 6 1 [] 0 0 (nnr2 n c g e opn sz ro lw up i7) = some ((.exit 0), nnr2E n c g e opn sz ro lw up i7, (ze0 n g e opn sz ro), 0, ⟨[], (True ∧ ((ze3 n i7) = false))⟩) := by kernel_rfl
theorem nnr2_k (hx : (n : Int) ≤ 9223372036854775807) (h0 : ¬ ((i7 : Nat) : Int) < ((n : Nat) : Int)) : KC Tryz.prog none nnX (nnA n c g e opn sz ro lw up i7).act (wS 6 (nnL n c g e opn sz ro lw up i7)) (.exit 0) (nnr2E n c g e opn sz ro lw up i7).act (ze5 n g e opn sz ro) 7 0 :=
  seenK_ok smx nnK_ok sng (nnr2_eq n c g e opn sz ro lw up i7) kq
theorem nn_ret (hx : (n : Int) ≤ 9223372036854775807) (hj : jj < n) (h1 : ∀ i, i < jj → (Pl.cr (g i 0) lw up) = 0) (h2 : (Pl.cr (g jj 0) lw up) ≠ 0) : KC Tryz.prog none (.loop nnX) (nnA n c g e opn sz ro lw up 0).act (wS 6 (nnL n c g e opn sz ro lw up 0)) .ret (nnr1E n c g e opn sz ro lw up jj).act (ze5 n g e opn sz ro) 7 0 := by
  exact K_rounds (A := fun i => (nnA n c g e opn sz ro lw up i).act) (S := fun i => wS 6 (nnL n c g e opn sz ro lw up i)) (jj) (fun i hi => nnr0_k n c g e opn sz ro lw up i hx (by omega) (h1 i hi)) (nnr1_k n c g e opn sz ro lw up jj hx (by omega) h2) (by simp)
theorem nn_all  (hx : (n : Int) ≤ 9223372036854775807) (h1 : ∀ i, i < n → (Pl.cr (g i 0) lw up) = 0) : KC Tryz.prog none (.loop nnX) (nnA n c g e opn sz ro lw up 0).act (wS 6 (nnL n c g e opn sz ro lw up 0)) (.exit 0) (nnr2E n c g e opn sz ro lw up n).act (ze5 n g e opn sz ro) 7 0 := by
  exact K_rounds (A := fun i => (nnA n c g e opn sz ro lw up i).act) (S := fun i => wS 6 (nnL n c g e opn sz ro lw up i)) (n) (fun i hi => nnr0_k n c g e opn sz ro lw up i hx (by omega) (h1 i hi)) (nnr2_k n c g e opn sz ro lw up n hx (by omega)) (by simp)
abbrev ze6 := HAppend.hAppend (List.replicate (6 : Nat) MObj.hole) (nnL n c g e opn sz ro lw up (0 : Nat))
abbrev ze7 := ((nnA n c g e opn sz ro lw up (0 : Nat)) = (nnA n c g e opn sz ro lw up (0 : Nat))) ∧ ((7 = (6 + 1)) ∧ ((ze6 n c g e opn sz ro lw up) = (ze6 n c g e opn sz ro lw up)))
theorem nnf0_eq : seenF' Tryz.prog Tryz.f78 6 1 [] (nnf0 n c g e opn sz ro lw up jj) = some (.int .i64 (Pl.cr (g jj 0) lw up), nnS n c g e opn sz ro lw up ++ [], ⟨[], (True ∧ ((ze7 n c g e opn sz ro lw up) ∧ KC Tryz.prog none (.loop nnX) (nnA n c g e opn sz ro lw up 0).act (wS 6 (nnL n c g e opn sz ro lw up 0)) .ret (nnr1E n c g e opn sz ro lw up jj).act (ze5 n g e opn sz ro) 7 0))⟩) := by kernel_rfl
theorem nnf0_s (l0 : KC Tryz.prog none (.loop nnX) (nnA n c g e opn sz ro lw up 0).act (wS 6 (nnL n c g e opn sz ro lw up 0)) .ret (nnr1E n c g e opn sz ro lw up jj).act (ze5 n g e opn sz ro) 7 0) : SndF Tryz.prog 78 (nnArgs n c g e opn sz ro lw up) (wS 6 (nnS n c g e opn sz ro lw up)) (.int .i64 (Pl.cr (g jj 0) lw up)) (wS 6 (nnS n c g e opn sz ro lw up)) 64 0 :=
  kF (L := nnS n c g e opn sz ro lw up) (L2 := []) (ms := []) nnK_ok (nnf0_eq n c g e opn sz ro lw up jj) kq
theorem nnf1_eq : seenF' Tryz.prog Tryz.f78 6 1 [] (nnf1 n c g e opn sz ro lw up) = some (.int .i64 (0 : Int), nnS n c g e opn sz ro lw up ++ [], ⟨[], (True ∧ ((ze7 n c g e opn sz ro lw up) ∧ KC Tryz.prog none (.loop nnX) (nnA n c g e opn sz ro lw up 0).act (wS 6 (nnL n c g e opn sz ro lw up 0)) (.exit 0) (nnr2E n c g e opn sz ro lw up n).act (ze5 n g e opn sz ro) 7 0))⟩) := by kernel_rfl
theorem nnf1_s (l0 : KC Tryz.prog none (.loop nnX) (nnA n c g e opn sz ro lw up 0).act (wS 6 (nnL n c g e opn sz ro lw up 0)) (.exit 0) (nnr2E n c g e opn sz ro lw up n).act (ze5 n g e opn sz ro) 7 0) : SndF Tryz.prog 78 (nnArgs n c g e opn sz ro lw up) (wS 6 (nnS n c g e opn sz ro lw up)) (.int .i64 (0 : Int)) (wS 6 (nnS n c g e opn sz ro lw up)) 64 0 :=
  kF (L := nnS n c g e opn sz ro lw up) (L2 := []) (ms := []) nnK_ok (nnf1_eq n c g e opn sz ro lw up) kq
theorem nn_sndF (hn : (n : Int) ≤ 9223372036854775807) : SndF Tryz.prog 78 (nnArgs n c g e opn sz ro lw up) (wS 6 (nnS n c g e opn sz ro lw up)) (.int .i64 (feN (fun i => (Pl.cr (g i 0) lw up)) n 0)) (wS 6 (nnS n c g e opn sz ro lw up)) 64 0 := by
  rcases first_or (p := fun i => (Pl.cr (g i 0) lw up) ≠ 0) (fun _ => inferInstance) n with h2 | ⟨j, hj, h2, h3⟩
  · have h4 : ∀ i, i < n → (Pl.cr (g i 0) lw up) = 0 := fun i hi => Decidable.not_not.1 (h2 i hi)
    rw [feN_all fun k _ hk => h4 k (by omega)]
    exact nnf1_s n c g e opn sz ro lw up (nn_all n c g e opn sz ro lw up hn h4)
  · have h4 : ∀ i, i < j → (Pl.cr (g i 0) lw up) = 0 := fun i hi => Decidable.not_not.1 (h3 i hi)
    rw [feN_first (Nat.zero_le j) (by omega) (fun k _ hk => h4 k hk) h2]
    exact nnf0_s n c g e opn sz ro lw up j (nn_ret n c g e opn sz ro lw up j hn hj h4 h2)
def kNN : CallS := fun f xs s q => match decide (f = 78) with
  | true => match xs.toList with
    | [.slice (some ⟨b, 0, none⟩) n c, .int .i64 lw, .int .i64 up] => match Nat.ble 6 b, rowK 1 .i64 s b n with
      | true, some (g, _, _, _, _, p) => some (.int .i64 (feN (fun i => (Pl.cr (g i 0) lw up)) n 0), s, 2 ^ b, 0, ⟨q.rest, q.ob ∧ (p ∧ ((n : Int) ≤ 9223372036854775807))⟩)
      | _, _ => none
    | _ => none
  | false => none
theorem kNN_ok : FOkS Tryz.prog kNN := fun f xs s q u s1 R W q1 he => by
  unfold kNN at he
  split at he
  · rename_i hf
    have hf := of_decide_eq_true hf
    subst hf
    split at he
    · rename_i b n c lw up hx0
      split at he
      · rename_i g e opn sz ro p hb hr
        have hb := Nat.le_of_ble_eq_true hb
        have hxs : xs = #[.slice (some ⟨b, 0, none⟩) n c, .int .i64 lw, .int .i64 up] := by apply Array.ext'; exact hx0
        subst hxs
        cases he
        refine ⟨fun hq => hq.1, fun hq => ?_⟩
        obtain ⟨hp, hx⟩ := hq.2
        obtain ⟨l1, w1⟩ := rowK_wo hr hp
        exact SndF.row (N := 6) sng (nn_sndF n c g e opn sz ro lw up hx) rfl hb l1 w1 (fun f _ hf => wvs_three (slice_wv hf) (ground_wv (n := 8) rfl) (ground_wv (n := 8) rfl))
      · cases he
    · cases he
  · cases he
end
end Go.Proofs.YtbkpnhbcihcgaaaGreatDoor
end
section
namespace Go.Proofs.YtbkpnhbcihcgaaaGreatDoor
set_option linter.all false
namespace Mini
inductive Cm where
  | lt | le | gt | ge | eq | ne | eqd
inductive IE where
  | v (i : Nat)
  | k (c : Int)
  | add (a b : IE)
  | sub (a b : IE)
  | mul (a b : IE)
  | neg (a : IE)
  | wr (a : IE)
  | md (a : IE) (m : Nat)
  | dv (a : IE) (m : Nat)
  | gcd (a b : IE)
  | quo (a b : IE)
  | ite (o : Cm) (x y a b : IE)
inductive BE where
  | t
  | f
  | cm (o : Cm) (x y : IE)
  | not (b : BE)
  | and (a b : BE)
  | or (a b : BE)
  | beq (a b : BE)
def Cm.ev : Cm → Int → Int → Bool
  | .lt, x, y => decide (x < y)
  | .le, x, y => decide (x ≤ y)
  | .gt, x, y => decide (x > y)
  | .ge, x, y => decide (x ≥ y)
  | .eq, x, y => x == y
  | .ne, x, y => x != y
  | .eqd, x, y => decide (x = y)
def Cm.ite {α : Type} : Cm → Int → Int → α → α → α
  | .lt, x, y, a, b => if x < y then a else b
  | .le, x, y, a, b => if x ≤ y then a else b
  | .gt, x, y, a, b => if x > y then a else b
  | .ge, x, y, a, b => if x ≥ y then a else b
  | .eq, x, y, a, b => if x = y then a else b
  | .ne, x, y, a, b => if x = y then b else a
  | .eqd, x, y, a, b => if x = y then a else b
def IE.ev (ρ : List Int) : IE → Int
  | .v i => ρ.getD i 0
  | .k c => c
  | .add a b => a.ev ρ + b.ev ρ
  | .sub a b => a.ev ρ - b.ev ρ
  | .mul a b => a.ev ρ * b.ev ρ
  | .neg a => -(a.ev ρ)
  | .wr a => IntKind.i64.wrap (a.ev ρ)
  | .md a m => (a.ev ρ).tmod (m : Int)
  | .dv a m => (a.ev ρ).tdiv (m : Int)
  | .gcd a b => Int.ofNat (Int.gcd (a.ev ρ) (b.ev ρ))
  | .quo a b => (a.ev ρ).tdiv (b.ev ρ)
  | .ite o x y a b => o.ite (x.ev ρ) (y.ev ρ) (a.ev ρ) (b.ev ρ)
def BE.ev (ρ : List Int) : BE → Bool
  | .t => true
  | .f => false
  | .cm o x y => o.ev (x.ev ρ) (y.ev ρ)
  | .not b => Bool.not (b.ev ρ)
  | .and a b => Bool.and (a.ev ρ) (b.ev ρ)
  | .or a b => Bool.or (a.ev ρ) (b.ev ρ)
  | .beq a b => a.ev ρ == b.ev ρ
theorem Cm.ite_eq {α : Type} (o : Cm) (x y : Int) (a b : α) : o.ite x y a b = match o.ev x y with
    | true => a
    | false => b := by
  cases o <;> simp only [Cm.ite, Cm.ev]
  · by_cases h : x < y <;> simp [h]
  · by_cases h : x ≤ y <;> simp [h]
  · by_cases h : x > y <;> simp [h]
  · by_cases h : x ≥ y <;> simp [h]
  · by_cases h : x = y
    · subst h; simp
    · rw [if_neg h, show (x == y) = false from beq_eq_false_iff_ne.2 h]
  · by_cases h : x = y
    · subst h; simp
    · rw [if_neg h, show (x != y) = true from bne_iff_ne.2 h]
  · by_cases h : x = y <;> simp [h]
abbrev Rg := Int × Int
def Rg.has (r : Rg) (x : Int) : Prop := r.1 ≤ x ∧ x ≤ r.2
def mn (a b : Int) : Int := match Int.decLt a b with
  | .isTrue _ => a
  | .isFalse _ => b
def mx (a b : Int) : Int := match Int.decLt a b with
  | .isTrue _ => b
  | .isFalse _ => a
theorem mn_le (a b : Int) : mn a b ≤ a ∧ mn a b ≤ b := by unfold mn; split <;> omega
theorem le_mx (a b : Int) : a ≤ mx a b ∧ b ≤ mx a b := by unfold mx; split <;> omega
def leB (a b : Int) : Bool := decide (a ≤ b)
def ltB (a b : Int) : Bool := decide (a < b)
def Cm.tri : Cm → Rg → Rg → Option Bool
  | .lt, r, q => match ltB r.2 q.1 with
    | true => some true
    | false => match leB q.2 r.1 with
      | true => some false
      | false => none
  | .le, r, q => match leB r.2 q.1 with
    | true => some true
    | false => match ltB q.2 r.1 with
      | true => some false
      | false => none
  | .gt, r, q => match ltB q.2 r.1 with
    | true => some true
    | false => match leB r.2 q.1 with
      | true => some false
      | false => none
  | .ge, r, q => match leB q.2 r.1 with
    | true => some true
    | false => match ltB r.2 q.1 with
      | true => some false
      | false => none
  | .eq, r, q => eqT r q
  | .eqd, r, q => eqT r q
  | .ne, r, q => (eqT r q).map Bool.not
where eqT (r q : Rg) : Option Bool := match ltB r.2 q.1 with
    | true => some false
    | false => match ltB q.2 r.1 with
      | true => some false
      | false => match decide (r.1 = r.2 ∧ q.1 = q.2 ∧ r.1 = q.1) with
        | true => some true
        | false => none
theorem eqT_ok {r q : Rg} {x y : Int} (hx : r.has x) (hy : q.has y) {b : Bool} (h : Cm.tri.eqT r q = some b) : decide (x = y) = b := by
  obtain ⟨h1, h2⟩ := hx
  obtain ⟨g1, g2⟩ := hy
  unfold Cm.tri.eqT at h
  split at h
  · rename_i e; cases h; simp [ltB] at e; exact decide_eq_false (by omega)
  · split at h
    · rename_i e; cases h; simp [ltB] at e; exact decide_eq_false (by omega)
    · split at h
      · rename_i e; cases h; simp at e; exact decide_eq_true (by omega)
      · cases h
theorem Cm.tri_ok {r q : Rg} {x y : Int} (hx : r.has x) (hy : q.has y) : ∀ {o : Cm} {b : Bool}, o.tri r q = some b → o.ev x y = b := by
  intro o b h
  have hx' := hx
  have hy' := hy
  obtain ⟨h1, h2⟩ := hx
  obtain ⟨g1, g2⟩ := hy
  cases o <;> simp only [Cm.tri] at h <;> simp only [Cm.ev]
  case eq => rw [show (x == y) = decide (x = y) from rfl]; exact eqT_ok hx' hy' h
  case eqd => exact eqT_ok hx' hy' h
  case ne =>
    simp only [Option.map_eq_some_iff] at h
    obtain ⟨c, h, rfl⟩ := h
    rw [show (x != y) = Bool.not (decide (x = y)) from rfl, eqT_ok hx' hy' h]
  all_goals
    split at h
    · rename_i e; cases h; simp [leB, ltB] at e; exact decide_eq_true (by omega)
    · split at h
      · rename_i e; cases h; simp [leB, ltB] at e; exact decide_eq_false (by omega)
      · cases h
def inside (r : Rg) : Bool := Bool.and (leB (-9223372036854775808) r.1) (leB r.2 9223372036854775807)
def ab (a : Int) : Int := Int.ofNat a.natAbs
def Rg.most (r : Rg) : Int := mx (ab r.1) (ab r.2)
def Rg.pt (r : Rg) : Bool := decide (r.1 = r.2)
def Rg.off (r : Rg) : Bool := Bool.or (ltB 0 r.1) (ltB r.2 0)
theorem Rg.most_ok {r : Rg} {x : Int} (h : r.has x) : (x.natAbs : Int) ≤ r.most := by
  obtain ⟨h1, h2⟩ := h
  have h3 := le_mx (ab r.1) (ab r.2)
  unfold Rg.most
  simp only [ab, Int.ofNat_eq_natCast] at *
  omega
theorem Rg.pt_ok {r : Rg} {x : Int} (h : r.has x) (hp : r.pt = true) : x = r.1 := by
  obtain ⟨h1, h2⟩ := h
  have := of_decide_eq_true hp
  omega
def gcdR (r q : Rg) : Rg := match Bool.and r.pt q.pt with
  | true => (Int.ofNat (Int.gcd r.1 q.1), Int.ofNat (Int.gcd r.1 q.1))
  | false => (match Bool.or r.off q.off with
    | true => 1
    | false => 0, mx r.most q.most)
theorem gcdR_ok {r q : Rg} {x y : Int} (hx : r.has x) (hy : q.has y) : (gcdR r q).has (Int.ofNat (Int.gcd x y)) := by
  unfold gcdR
  split
  · rename_i h
    simp only [Bool.and_eq_true] at h
    rw [Rg.pt_ok hx h.1, Rg.pt_ok hy h.2]
    exact ⟨Int.le_refl _, Int.le_refl _⟩
  · constructor
    · show _ ≤ Int.ofNat (Int.gcd x y)
      split
      · rename_i h
        have h0 : 0 < Int.gcd x y := by
          obtain ⟨x1, x2⟩ := hx
          obtain ⟨y1, y2⟩ := hy
          simp only [Bool.or_eq_true, Rg.off, ltB, decide_eq_true_eq] at h
          rcases h with (h | h) | (h | h)
          · exact Int.gcd_pos_of_ne_zero_left _ (by omega)
          · exact Int.gcd_pos_of_ne_zero_left _ (by omega)
          · exact Int.gcd_pos_of_ne_zero_right _ (by omega)
          · exact Int.gcd_pos_of_ne_zero_right _ (by omega)
        simp only [Int.ofNat_eq_natCast]
        omega
      · exact Int.natCast_nonneg _
    · show Int.ofNat (Int.gcd x y) ≤ mx r.most q.most
      have m1 := Rg.most_ok hx
      have m2 := Rg.most_ok hy
      have m3 := le_mx r.most q.most
      have hb : Int.gcd x y ≤ x.natAbs ∨ Int.gcd x y ≤ y.natAbs := by
        rcases Nat.eq_zero_or_pos x.natAbs with c | c
        · right
          have : Int.gcd x y = y.natAbs := by rw [Int.gcd, c, Nat.gcd_zero_left]
          omega
        · left; exact Nat.gcd_le_left _ c
      simp only [Int.ofNat_eq_natCast]
      omega
def quoR (r q : Rg) : Rg := match Bool.and r.pt q.pt with
  | true => (r.1.tdiv q.1, r.1.tdiv q.1)
  | false => (-r.most, r.most)
theorem quoR_ok {r q : Rg} {x y : Int} (hx : r.has x) (hy : q.has y) : (quoR r q).has (x.tdiv y) := by
  unfold quoR
  split
  · rename_i h
    simp only [Bool.and_eq_true] at h
    rw [Rg.pt_ok hx h.1, Rg.pt_ok hy h.2]
    exact ⟨Int.le_refl _, Int.le_refl _⟩
  · have m1 := Rg.most_ok hx
    have hb : (x.tdiv y).natAbs ≤ x.natAbs := by
      rw [Int.natAbs_tdiv]; exact Nat.div_le_self _ _
    constructor
    · show -r.most ≤ x.tdiv y
      omega
    · show x.tdiv y ≤ r.most
      omega
def IE.rng (β : List Rg) : IE → Rg
  | .v i => β.getD i (0, 0)
  | .k c => (c, c)
  | .add a b => match a.rng β, b.rng β with
    | (l, h), (l', h') => (l + l', h + h')
  | .sub a b => match a.rng β, b.rng β with
    | (l, h), (l', h') => (l - h', h - l')
  | .mul a b => match a.rng β, b.rng β with
    | (l, h), (l', h') => (mn (mn (l * l') (l * h')) (mn (h * l') (h * h')), mx (mx (l * l') (l * h')) (mx (h * l') (h * h')))
  | .neg a => match a.rng β with
    | (l, h) => (-h, -l)
  | .wr a => match a.rng β with
    | r => match inside r with
      | true => r
      | false => (-9223372036854775808, 9223372036854775807)
  | .md a m => match a.rng β with
    | (l, h) => match Bool.and (ltB (-(m : Int)) l) (ltB h (m : Int)) with
      | true => (l, h)
      | false => (match leB 0 l with
        | true => 0
        | false => -((m : Int) - 1), match leB h 0 with
        | true => 0
        | false => (m : Int) - 1)
  | .dv a m => match a.rng β with
    | (l, h) => (l.tdiv m, h.tdiv m)
  | .gcd a b => gcdR (a.rng β) (b.rng β)
  | .quo a b => quoR (a.rng β) (b.rng β)
  | .ite o x y a b => match o.tri (x.rng β) (y.rng β) with
    | some true => a.rng β
    | some false => b.rng β
    | none => match a.rng β, b.rng β with
      | (l, h), (l', h') => (mn l l', mx h h')
def IE.good : IE → Bool
  | .v _ | .k _ => true
  | .add a b | .sub a b | .mul a b | .gcd a b | .quo a b => Bool.and a.good b.good
  | .neg a | .wr a => a.good
  | .md a m | .dv a m => Bool.and (Nat.blt 0 m) a.good
  | .ite _ x y a b => Bool.and (Bool.and x.good y.good) (Bool.and a.good b.good)
def InR : List Rg → List Int → Prop
  | r :: β, x :: ρ => r.has x ∧ InR β ρ
  | [], [] => True
  | _, _ => False
theorem InR.at : ∀ {β : List Rg} {ρ : List Int}, InR β ρ → ∀ i, (β.getD i (0, 0)).has (ρ.getD i 0)
  | [], [], _, i => by simp [Rg.has]
  | r :: β, x :: ρ, h, 0 => h.1
  | r :: β, x :: ρ, h, i + 1 => by
    have := h.2.at i
    simpa using this
theorem mul_lo {x y l h : Int} (g : l ≤ y ∧ y ≤ h) : mn (x * l) (x * h) ≤ x * y ∧ x * y ≤ mx (x * l) (x * h) := by
  have h1 := mn_le (x * l) (x * h)
  have h2 := le_mx (x * l) (x * h)
  by_cases c : 0 ≤ x
  · have a1 := Int.mul_le_mul_of_nonneg_left g.1 c
    have a2 := Int.mul_le_mul_of_nonneg_left g.2 c
    omega
  · have a1 := Int.mul_le_mul_of_nonpos_left (by omega : x ≤ 0) g.1
    have a2 := Int.mul_le_mul_of_nonpos_left (by omega : x ≤ 0) g.2
    omega
theorem tdiv_mono {x y m : Int} (hm : 0 < m) (h : x ≤ y) : x.tdiv m ≤ y.tdiv m := by
  rcases Int.le_total 0 x with hx | hx
  · rw [Int.tdiv_eq_ediv_of_nonneg hx, Int.tdiv_eq_ediv_of_nonneg (by omega)]
    exact Int.ediv_le_ediv hm h
  · rcases Int.le_total 0 y with hy | hy
    · have a1 : 0 ≤ (-x).tdiv m := Int.tdiv_nonneg (by omega) (by omega)
      have e1 : x.tdiv m = -((-x).tdiv m) := by rw [Int.neg_tdiv, Int.neg_neg]
      have a2 : 0 ≤ y.tdiv m := Int.tdiv_nonneg hy (by omega)
      omega
    · have e1 : x.tdiv m = -((-x).tdiv m) := by rw [Int.neg_tdiv, Int.neg_neg]
      have e2 : y.tdiv m = -((-y).tdiv m) := by rw [Int.neg_tdiv, Int.neg_neg]
      rw [e1, e2, Int.tdiv_eq_ediv_of_nonneg (by omega), Int.tdiv_eq_ediv_of_nonneg (by omega)]
      have := Int.ediv_le_ediv hm (show -y ≤ -x by omega)
      omega
theorem IE.rng_ok {β : List Rg} {ρ : List Int} (hr : InR β ρ) : ∀ {e : IE}, e.good = true → (e.rng β).has (e.ev ρ) := by
  intro e
  induction e with
  | v i => intro _; exact hr.at i
  | k c => intro _; exact ⟨Int.le_refl _, Int.le_refl _⟩
  | add a b ha hb =>
    intro hg
    simp only [IE.good, Bool.and_eq_true] at hg
    obtain ⟨h1, h2⟩ := ha hg.1
    obtain ⟨h3, h4⟩ := hb hg.2
    simp only [IE.rng, IE.ev, Rg.has]
    omega
  | sub a b ha hb =>
    intro hg
    simp only [IE.good, Bool.and_eq_true] at hg
    obtain ⟨h1, h2⟩ := ha hg.1
    obtain ⟨h3, h4⟩ := hb hg.2
    simp only [IE.rng, IE.ev, Rg.has]
    omega
  | mul a b ha hb =>
    intro hg
    simp only [IE.good, Bool.and_eq_true] at hg
    obtain ⟨h1, h2⟩ := ha hg.1
    obtain ⟨h3, h4⟩ := hb hg.2
    simp only [IE.rng, IE.ev, Rg.has]
    generalize a.ev ρ = x at *
    generalize b.ev ρ = y at *
    generalize (a.rng β).1 = l at *
    generalize (a.rng β).2 = h at *
    generalize (b.rng β).1 = l' at *
    generalize (b.rng β).2 = h' at *
    have a1 := mul_lo (x := x) (y := y) ⟨h3, h4⟩
    have a2 := mul_lo (x := l') (y := x) ⟨h1, h2⟩
    have a3 := mul_lo (x := h') (y := x) ⟨h1, h2⟩
    rw [Int.mul_comm x l', Int.mul_comm x h'] at a1
    rw [Int.mul_comm l l', Int.mul_comm l h', Int.mul_comm h l', Int.mul_comm h h']
    have b1 := mn_le (l' * l) (h' * l)
    have b2 := mn_le (l' * h) (h' * h)
    have b3 := mn_le (mn (l' * l) (h' * l)) (mn (l' * h) (h' * h))
    have c1 := le_mx (l' * l) (h' * l)
    have c2 := le_mx (l' * h) (h' * h)
    have c3 := le_mx (mx (l' * l) (h' * l)) (mx (l' * h) (h' * h))
    have d1 : mn (l' * l) (l' * h) = l' * l ∨ mn (l' * l) (l' * h) = l' * h := by unfold mn; split <;> simp
    have d2 : mn (h' * l) (h' * h) = h' * l ∨ mn (h' * l) (h' * h) = h' * h := by unfold mn; split <;> simp
    have d3 : mx (l' * l) (l' * h) = l' * l ∨ mx (l' * l) (l' * h) = l' * h := by unfold mx; split <;> simp
    have d4 : mx (h' * l) (h' * h) = h' * l ∨ mx (h' * l) (h' * h) = h' * h := by unfold mx; split <;> simp
    have d5 : mn (l' * x) (h' * x) = l' * x ∨ mn (l' * x) (h' * x) = h' * x := by unfold mn; split <;> simp
    have d6 : mx (l' * x) (h' * x) = l' * x ∨ mx (l' * x) (h' * x) = h' * x := by unfold mx; split <;> simp
    constructor
    · rcases d5 with e | e <;> rw [e] at a1
      · rcases d1 with e1 | e1 <;> rw [e1] at a2 <;> omega
      · rcases d2 with e1 | e1 <;> rw [e1] at a3 <;> omega
    · rcases d6 with e | e <;> rw [e] at a1
      · rcases d3 with e1 | e1 <;> rw [e1] at a2 <;> omega
      · rcases d4 with e1 | e1 <;> rw [e1] at a3 <;> omega
  | neg a ha =>
    intro hg
    obtain ⟨h1, h2⟩ := ha hg
    simp only [IE.rng, IE.ev, Rg.has]
    omega
  | wr a ha =>
    intro hg
    obtain ⟨h1, h2⟩ := ha hg
    simp only [IE.rng, IE.ev]
    split
    · rename_i hi
      simp [inside, leB] at hi
      rw [IntWalk.i64_in _ ⟨by omega, by omega⟩]
      exact ⟨h1, h2⟩
    · simp only [Rg.has]
      rw [IntKind.wrap_i64]
      omega
  | md a m ha =>
    intro hg
    simp only [IE.good, Bool.and_eq_true] at hg
    have hm : 0 < m := by have := hg.1; simpa [Nat.blt_eq] using this
    obtain ⟨h1, h2⟩ := ha hg.2
    simp only [IE.rng, IE.ev]
    generalize a.ev ρ = x at *
    have m1 := Int.tmod_lt_of_pos x (b := (m : Int)) (by omega)
    have m2 := Int.lt_tmod_of_pos x (b := (m : Int)) (by omega)
    split
    · rename_i hi
      simp [ltB] at hi
      have : x.tmod (m : Int) = x := by
        rcases Int.le_total 0 x with hx | hx
        · exact Int.tmod_eq_of_lt hx (by omega)
        · have e : x.tmod (m : Int) = -((-x).tmod (m : Int)) := by rw [Int.neg_tmod, Int.neg_neg]
          rw [e, Int.tmod_eq_of_lt (by omega) (by omega)]
          omega
      rw [this]
      exact ⟨h1, h2⟩
    · simp only [Rg.has]
      constructor
      · split
        · rename_i hl
          simp [leB] at hl
          exact Int.tmod_nonneg _ (by omega)
        · omega
      · split
        · rename_i hl
          simp [leB] at hl
          have e : x.tmod (m : Int) = -((-x).tmod (m : Int)) := by rw [Int.neg_tmod, Int.neg_neg]
          have := Int.tmod_nonneg (a := -x) (m : Int) (by omega)
          omega
        · omega
  | dv a m ha =>
    intro hg
    simp only [IE.good, Bool.and_eq_true] at hg
    have hm : 0 < m := by have := hg.1; simpa [Nat.blt_eq] using this
    obtain ⟨h1, h2⟩ := ha hg.2
    simp only [IE.rng, IE.ev, Rg.has]
    exact ⟨tdiv_mono (by omega) h1, tdiv_mono (by omega) h2⟩
  | gcd a b ha hb =>
    intro hg
    simp only [IE.good, Bool.and_eq_true] at hg
    exact gcdR_ok (ha hg.1) (hb hg.2)
  | quo a b ha hb =>
    intro hg
    simp only [IE.good, Bool.and_eq_true] at hg
    exact quoR_ok (ha hg.1) (hb hg.2)
  | ite o x y a b hx hy ha hb =>
    intro hg
    simp only [IE.good, Bool.and_eq_true] at hg
    obtain ⟨⟨g1, g2⟩, g3, g4⟩ := hg
    simp only [IE.rng, IE.ev, Cm.ite_eq]
    have k1 := hx g1
    have k2 := hy g2
    have k3 := ha g3
    have k4 := hb g4
    split
    · rename_i ht
      rw [Cm.tri_ok k1 k2 ht]; exact k3
    · rename_i ht
      rw [Cm.tri_ok k1 k2 ht]; exact k4
    · obtain ⟨a1, a2⟩ := k3
      obtain ⟨a3, a4⟩ := k4
      have b1 := mn_le (a.rng β).1 (b.rng β).1
      have b2 := le_mx (a.rng β).2 (b.rng β).2
      simp only [Rg.has]
      cases o.ev (x.ev ρ) (y.ev ρ) <;> simp only <;> omega
def BE.good : BE → Bool
  | .t | .f => true
  | .cm _ x y => Bool.and x.good y.good
  | .not b => b.good
  | .and a b | .or a b | .beq a b => Bool.and a.good b.good
def BE.tri (β : List Rg) : BE → Option Bool
  | .t => some true
  | .f => some false
  | .cm o x y => o.tri (x.rng β) (y.rng β)
  | .not b => match b.tri β with
    | some c => some (Bool.not c)
    | none => none
  | .and a b => match a.tri β with
    | some false => some false
    | some true => b.tri β
    | none => match b.tri β with
      | some false => some false
      | _ => none
  | .or a b => match a.tri β with
    | some true => some true
    | some false => b.tri β
    | none => match b.tri β with
      | some true => some true
      | _ => none
  | .beq a b => match a.tri β, b.tri β with
    | some x, some y => some (x == y)
    | _, _ => none
theorem BE.tri_ok {β : List Rg} {ρ : List Int} (hr : InR β ρ) : ∀ {e : BE} {c : Bool}, e.good = true → e.tri β = some c → e.ev ρ = c := by
  intro e
  induction e with
  | t => intro c _ h; cases h; rfl
  | f => intro c _ h; cases h; rfl
  | cm o x y =>
    intro c hg h
    simp only [BE.good, Bool.and_eq_true] at hg
    exact Cm.tri_ok (IE.rng_ok hr hg.1) (IE.rng_ok hr hg.2) h
  | not b ih =>
    intro c hg h
    simp only [BE.tri] at h
    split at h
    · rename_i d hd
      cases h
      simp only [BE.ev]
      rw [ih hg hd]
    · cases h
  | and a b ia ib =>
    intro c hg h
    simp only [BE.good, Bool.and_eq_true] at hg
    simp only [BE.tri] at h
    simp only [BE.ev]
    split at h
    · rename_i e; cases h; rw [ia hg.1 e]; rfl
    · rename_i e; rw [ia hg.1 e, ib hg.2 h]; rfl
    · split at h
      · rename_i e; cases h; rw [ib hg.2 e]; cases a.ev ρ <;> rfl
      · cases h
  | or a b ia ib =>
    intro c hg h
    simp only [BE.good, Bool.and_eq_true] at hg
    simp only [BE.tri] at h
    simp only [BE.ev]
    split at h
    · rename_i e; cases h; rw [ia hg.1 e]; rfl
    · rename_i e; rw [ia hg.1 e, ib hg.2 h]; rfl
    · split at h
      · rename_i e; cases h; rw [ib hg.2 e]; cases a.ev ρ <;> rfl
      · cases h
  | beq a b ia ib =>
    intro c hg h
    simp only [BE.good, Bool.and_eq_true] at hg
    simp only [BE.tri] at h
    simp only [BE.ev]
    split at h
    · rename_i e1 e2; cases h; rw [ia hg.1 e1, ib hg.2 e2]
    · cases h
def IE.str (β : List Rg) : IE → IE
  | .v i => .v i
  | .k c => .k c
  | .add a b => .add (a.str β) (b.str β)
  | .sub a b => .sub (a.str β) (b.str β)
  | .mul a b => .mul (a.str β) (b.str β)
  | .neg a => .neg (a.str β)
  | .wr a => match inside (a.rng β) with
    | true => a.str β
    | false => .wr (a.str β)
  | .md a m => .md (a.str β) m
  | .dv a m => .dv (a.str β) m
  | .gcd a b => .gcd (a.str β) (b.str β)
  | .quo a b => .quo (a.str β) (b.str β)
  | .ite o x y a b => match o.tri (x.rng β) (y.rng β) with
    | some true => a.str β
    | some false => b.str β
    | none => .ite o (x.str β) (y.str β) (a.str β) (b.str β)
theorem IE.str_ok {β : List Rg} {ρ : List Int} (hr : InR β ρ) : ∀ {e : IE}, e.good = true → (e.str β).ev ρ = e.ev ρ := by
  intro e
  induction e with
  | v i => intro _; rfl
  | k c => intro _; rfl
  | add a b ha hb => intro hg; simp only [IE.good, Bool.and_eq_true] at hg; simp only [IE.str, IE.ev]; rw [ha hg.1, hb hg.2]
  | sub a b ha hb => intro hg; simp only [IE.good, Bool.and_eq_true] at hg; simp only [IE.str, IE.ev]; rw [ha hg.1, hb hg.2]
  | mul a b ha hb => intro hg; simp only [IE.good, Bool.and_eq_true] at hg; simp only [IE.str, IE.ev]; rw [ha hg.1, hb hg.2]
  | neg a ha => intro hg; simp only [IE.str, IE.ev]; rw [ha hg]
  | wr a ha =>
    intro hg
    simp only [IE.str]
    split
    · rename_i hi
      obtain ⟨h1, h2⟩ := IE.rng_ok hr (e := a) hg
      simp [inside, leB] at hi
      rw [ha hg]
      simp only [IE.ev]
      rw [IntWalk.i64_in _ ⟨by omega, by omega⟩]
    · simp only [IE.ev]; rw [ha hg]
  | md a m ha => intro hg; simp only [IE.good, Bool.and_eq_true] at hg; simp only [IE.str, IE.ev]; rw [ha hg.2]
  | dv a m ha => intro hg; simp only [IE.good, Bool.and_eq_true] at hg; simp only [IE.str, IE.ev]; rw [ha hg.2]
  | gcd a b ha hb => intro hg; simp only [IE.good, Bool.and_eq_true] at hg; simp only [IE.str, IE.ev]; rw [ha hg.1, hb hg.2]
  | quo a b ha hb => intro hg; simp only [IE.good, Bool.and_eq_true] at hg; simp only [IE.str, IE.ev]; rw [ha hg.1, hb hg.2]
  | ite o x y a b hx hy ha hb =>
    intro hg
    simp only [IE.good, Bool.and_eq_true] at hg
    obtain ⟨⟨g1, g2⟩, g3, g4⟩ := hg
    simp only [IE.str]
    split
    · rename_i ht
      simp only [IE.ev, Cm.ite_eq]
      rw [Cm.tri_ok (IE.rng_ok hr g1) (IE.rng_ok hr g2) ht]; exact ha g3
    · rename_i ht
      simp only [IE.ev, Cm.ite_eq]
      rw [Cm.tri_ok (IE.rng_ok hr g1) (IE.rng_ok hr g2) ht]; exact hb g4
    · simp only [IE.ev]
      rw [hx g1, hy g2, ha g3, hb g4]
theorem IE.str_to {β : List Rg} {ρ : List Int} (hr : InR β ρ) (e e' : IE) (hg : e.good = true) (he : e.str β = e') : e.ev ρ = e'.ev ρ := he ▸ (IE.str_ok hr hg).symm
def BE.str (β : List Rg) : BE → BE
  | .t => .t
  | .f => .f
  | .cm o x y => match o.tri (x.rng β) (y.rng β) with
    | some true => .t
    | some false => .f
    | none => .cm o (x.str β) (y.str β)
  | .not b => .not (b.str β)
  | .and a b => .and (a.str β) (b.str β)
  | .or a b => .or (a.str β) (b.str β)
  | .beq a b => .beq (a.str β) (b.str β)
theorem BE.str_ok {β : List Rg} {ρ : List Int} (hr : InR β ρ) : ∀ {e : BE}, e.good = true → (e.str β).ev ρ = e.ev ρ := by
  intro e
  induction e with
  | t => intro _; rfl
  | f => intro _; rfl
  | cm o x y =>
    intro hg
    simp only [BE.good, Bool.and_eq_true] at hg
    simp only [BE.str]
    split
    · rename_i ht
      simp only [BE.ev]; exact (Cm.tri_ok (IE.rng_ok hr hg.1) (IE.rng_ok hr hg.2) ht).symm
    · rename_i ht
      simp only [BE.ev]; exact (Cm.tri_ok (IE.rng_ok hr hg.1) (IE.rng_ok hr hg.2) ht).symm
    · simp only [BE.ev]; rw [IE.str_ok hr hg.1, IE.str_ok hr hg.2]
  | not b ih => intro hg; simp only [BE.str, BE.ev]; rw [ih hg]
  | and a b ia ib => intro hg; simp only [BE.good, Bool.and_eq_true] at hg; simp only [BE.str, BE.ev]; rw [ia hg.1, ib hg.2]
  | or a b ia ib => intro hg; simp only [BE.good, Bool.and_eq_true] at hg; simp only [BE.str, BE.ev]; rw [ia hg.1, ib hg.2]
  | beq a b ia ib => intro hg; simp only [BE.good, Bool.and_eq_true] at hg; simp only [BE.str, BE.ev]; rw [ia hg.1, ib hg.2]
def allN (f : Int → Bool) : Nat → Int → Bool
  | 0, _ => true
  | n + 1, l => match f l with
    | true => allN f n (l + 1)
    | false => false
def allR : List Rg → (List Int → Bool) → Bool
  | [], f => f []
  | r :: β, f => allN (fun x => allR β fun ρ => f (x :: ρ)) (r.2 - r.1 + 1).toNat r.1
def zr (c : Int) : Bool := decide (c = 0)
def mulS : IE → IE → IE
  | .k c, .k d => .k (c * d)
  | .k c, b => match zr c with
    | true => .k 0
    | false => .mul (.k c) b
  | a, .k d => match zr d with
    | true => .k 0
    | false => .mul a (.k d)
  | a, b => .mul a b
def addS : IE → IE → IE
  | .k c, .k d => .k (c + d)
  | .k c, b => match zr c with
    | true => b
    | false => .add (.k c) b
  | a, .k d => match zr d with
    | true => a
    | false => .add a (.k d)
  | a, b => .add a b
def subS : IE → IE → IE
  | .k c, .k d => .k (c - d)
  | a, .k d => match zr d with
    | true => a
    | false => .sub a (.k d)
  | a, b => .sub a b
def IE.smp (β : List Rg) : IE → IE
  | .v i => match β.getD i (0, 0) with
    | (l, h) => match decide (l = h) with
      | true => .k l
      | false => .v i
  | .k c => .k c
  | .add a b => addS (a.smp β) (b.smp β)
  | .sub a b => subS (a.smp β) (b.smp β)
  | .mul a b => mulS (a.smp β) (b.smp β)
  | .neg a => .neg (a.smp β)
  | .wr a => match inside (a.rng β) with
    | true => a.smp β
    | false => .wr (a.smp β)
  | .md a m => .md (a.smp β) m
  | .dv a m => .dv (a.smp β) m
  | .gcd a b => .gcd (a.smp β) (b.smp β)
  | .quo a b => .quo (a.smp β) (b.smp β)
  | .ite o x y a b => match o.tri (x.rng β) (y.rng β) with
    | some true => a.smp β
    | some false => b.smp β
    | none => .ite o (x.smp β) (y.smp β) (a.smp β) (b.smp β)
def BE.smp (β : List Rg) : BE → BE
  | .t => .t
  | .f => .f
  | .cm o x y => match o.tri (x.rng β) (y.rng β) with
    | some true => .t
    | some false => .f
    | none => .cm o (x.smp β) (y.smp β)
  | .not b => .not (b.smp β)
  | .and a b => .and (a.smp β) (b.smp β)
  | .or a b => .or (a.smp β) (b.smp β)
  | .beq a b => .beq (a.smp β) (b.smp β)
def Cm.refl : Cm → Bool
  | .eq | .eqd | .le | .ge => true
  | _ => false
end Mini
end Go.Proofs.YtbkpnhbcihcgaaaGreatDoor
end
section
namespace Go.Proofs.YtbkpnhbcihcgaaaGreatDoor
set_option linter.all false
namespace Mini
inductive Sp where
  | f
  | c (i : Nat) (x : Int) (l r : Sp)
def cutR (hi : Bool) (x : Int) : List Rg → Nat → List Rg
  | [], _ => []
  | r :: β, 0 => (match hi with
    | false => (r.1, mn r.2 x)
    | true => (mx r.1 (x + 1), r.2)) :: β
  | r :: β, i + 1 => r :: cutR hi x β i
def Sp.ok (e : BE) : Sp → List Rg → Bool
  | .f, β => match e.tri β with
    | some true => true
    | _ => false
  | .c i x l r, β => match Sp.ok e l (cutR false x β i) with
    | true => Sp.ok e r (cutR true x β i)
    | false => false
def auS (r : Rg) (w : Int) : Int := match Bool.and (ltB r.1 0) (ltB 0 r.2) with
  | true => 1000000000 + w
  | false => r.2 - r.1
end Mini
end Go.Proofs.YtbkpnhbcihcgaaaGreatDoor
end
section
set_option linter.all false
set_option maxRecDepth 1000000
open Go.RowKit
namespace Go.Proofs.YtbkpnhbcihcgaaaGreatDoor
open Mini
noncomputable section
variable (c : Nat) (g : GI) (e : TypeId) (opn : Bool) (sz : Nat) (ro : Bool) (x : Int) (y : Int)
def vW (g : GI) (x y : Int) (n : Nat) : Nat → Int × Int
  | 0 => (0, 0)
  | k + 1 => (IntKind.i64.wrap (IntKind.i64.wrap (IntKind.i64.wrap ((vW g x y n k).1 * x) - IntKind.i64.wrap ((vW g x y n k).2 * y)) + g (n - 1 - k) 0), IntKind.i64.wrap (IntKind.i64.wrap ((vW g x y n k).1 * y) + IntKind.i64.wrap ((vW g x y n k).2 * x)))
def pwW (x y : Int) : Nat → Int × Int
  | 0 => (1, 0)
  | k + 1 => (IntKind.i64.wrap (IntKind.i64.wrap ((pwW x y k).1 * x) - IntKind.i64.wrap ((pwW x y k).2 * y)), IntKind.i64.wrap (IntKind.i64.wrap ((pwW x y k).1 * y) + IntKind.i64.wrap ((pwW x y k).2 * x)))
def rW (g : GI) (x y : Int) : Nat → Int × Int
  | 0 => (0, 0)
  | k + 1 => (IntKind.i64.wrap ((rW g x y k).1 + IntKind.i64.wrap (g k 0 * (pwW x y k).1)), IntKind.i64.wrap ((rW g x y k).2 + IntKind.i64.wrap (g k 0 * (pwW x y k).2)))
def vaR (n : Nat) (g : GI) (x y : Int) : Int := (vW g x y n n).1
def vaI (n : Nat) (g : GI) (x y : Int) : Int := (vW g x y n n).2
def rvR (n : Nat) (g : GI) (x y : Int) : Int := (rW g x y n).1
def rvI (n : Nat) (g : GI) (x y : Int) : Int := (rW g x y n).2
theorem vaR1_p (ρ : List Int) : IE.ev ρ (.add (.sub (.mul (.k (0)) (.v 1)) (.mul (.k (0)) (.v 2))) (.v 0)) = IE.ev ρ (.add (.k (0)) (.mul (.v 0) (.k (1)))) := by first | rfl | (simp only [IE.ev]; done) | (simp only [IE.ev]; generalize List.getD ρ 0 0 = v0; generalize List.getD ρ 1 0 = v1; generalize List.getD ρ 2 0 = v2; grind)
theorem vaR1 (hg : ∀ i, i < 1 → -100 ≤ g i 0 ∧ g i 0 ≤ 100) (hx : -8 ≤ x ∧ x ≤ 8) (hy : -8 ≤ y ∧ y ≤ 8) : vaR 1 g x y = rvR 1 g x y := by
  have hr : InR [(-100, 100), (-8, 8), (-8, 8)] [g 0 0, x, y] := ⟨hg 0 (by omega), ⟨hx, ⟨hy, trivial⟩⟩⟩
  exact (show vaR 1 g x y = IE.ev [g 0 0, x, y] (.wr (.add (.wr (.sub (.wr (.mul (.k (0)) (.v 1))) (.wr (.mul (.k (0)) (.v 2))))) (.v 0))) by kernel_rfl).trans ((IE.str_to hr _ (.add (.sub (.mul (.k (0)) (.v 1)) (.mul (.k (0)) (.v 2))) (.v 0)) (by kernel_rfl) (by kernel_rfl)).trans ((vaR1_p _).trans ((IE.str_to hr (.wr (.add (.k (0)) (.wr (.mul (.v 0) (.k (1)))))) (.add (.k (0)) (.mul (.v 0) (.k (1)))) (by kernel_rfl) (by kernel_rfl)).symm.trans (show IE.ev [g 0 0, x, y] (.wr (.add (.k (0)) (.wr (.mul (.v 0) (.k (1)))))) = rvR 1 g x y by kernel_rfl))))
theorem vaI1_p (ρ : List Int) : IE.ev ρ (.add (.mul (.k (0)) (.v 2)) (.mul (.k (0)) (.v 1))) = IE.ev ρ (.add (.k (0)) (.mul (.v 0) (.k (0)))) := by first | rfl | (simp only [IE.ev]; done) | (simp only [IE.ev]; generalize List.getD ρ 0 0 = v0; generalize List.getD ρ 1 0 = v1; generalize List.getD ρ 2 0 = v2; grind)
theorem vaI1 (hg : ∀ i, i < 1 → -100 ≤ g i 0 ∧ g i 0 ≤ 100) (hx : -8 ≤ x ∧ x ≤ 8) (hy : -8 ≤ y ∧ y ≤ 8) : vaI 1 g x y = rvI 1 g x y := by
  have hr : InR [(-100, 100), (-8, 8), (-8, 8)] [g 0 0, x, y] := ⟨hg 0 (by omega), ⟨hx, ⟨hy, trivial⟩⟩⟩
  exact (show vaI 1 g x y = IE.ev [g 0 0, x, y] (.wr (.add (.wr (.mul (.k (0)) (.v 2))) (.wr (.mul (.k (0)) (.v 1))))) by kernel_rfl).trans ((IE.str_to hr _ (.add (.mul (.k (0)) (.v 2)) (.mul (.k (0)) (.v 1))) (by kernel_rfl) (by kernel_rfl)).trans ((vaI1_p _).trans ((IE.str_to hr (.wr (.add (.k (0)) (.wr (.mul (.v 0) (.k (0)))))) (.add (.k (0)) (.mul (.v 0) (.k (0)))) (by kernel_rfl) (by kernel_rfl)).symm.trans (show IE.ev [g 0 0, x, y] (.wr (.add (.k (0)) (.wr (.mul (.v 0) (.k (0)))))) = rvI 1 g x y by kernel_rfl))))
theorem vaR2_p (ρ : List Int) : IE.ev ρ (.add (.sub (.mul (.add (.sub (.mul (.k (0)) (.v 2)) (.mul (.k (0)) (.v 3))) (.v 1)) (.v 2)) (.mul (.add (.mul (.k (0)) (.v 3)) (.mul (.k (0)) (.v 2))) (.v 3))) (.v 0)) = IE.ev ρ (.add (.add (.k (0)) (.mul (.v 0) (.k (1)))) (.mul (.v 1) (.sub (.mul (.k (1)) (.v 2)) (.mul (.k (0)) (.v 3))))) := by first | rfl | (simp only [IE.ev]; done) | (simp only [IE.ev]; generalize List.getD ρ 0 0 = v0; generalize List.getD ρ 1 0 = v1; generalize List.getD ρ 2 0 = v2; generalize List.getD ρ 3 0 = v3; grind)
abbrev sF0 : List Rg := [(-100, 100), (-100, 100), (-8, 8), (-8, 8)]
theorem vaR2 (hg : ∀ i, i < 2 → -100 ≤ g i 0 ∧ g i 0 ≤ 100) (hx : -8 ≤ x ∧ x ≤ 8) (hy : -8 ≤ y ∧ y ≤ 8) : vaR 2 g x y = rvR 2 g x y := by
  have hr : InR sF0 [g 0 0, g 1 0, x, y] := ⟨hg 0 (by omega), ⟨hg 1 (by omega), ⟨hx, ⟨hy, trivial⟩⟩⟩⟩
  exact (show vaR 2 g x y = IE.ev [g 0 0, g 1 0, x, y] (.wr (.add (.wr (.sub (.wr (.mul (.wr (.add (.wr (.sub (.wr (.mul (.k (0)) (.v 2))) (.wr (.mul (.k (0)) (.v 3))))) (.v 1))) (.v 2))) (.wr (.mul (.wr (.add (.wr (.mul (.k (0)) (.v 3))) (.wr (.mul (.k (0)) (.v 2))))) (.v 3))))) (.v 0))) by kernel_rfl).trans ((IE.str_to hr _ (.add (.sub (.mul (.add (.sub (.mul (.k (0)) (.v 2)) (.mul (.k (0)) (.v 3))) (.v 1)) (.v 2)) (.mul (.add (.mul (.k (0)) (.v 3)) (.mul (.k (0)) (.v 2))) (.v 3))) (.v 0)) (by kernel_rfl) (by kernel_rfl)).trans ((vaR2_p _).trans ((IE.str_to hr (.wr (.add (.wr (.add (.k (0)) (.wr (.mul (.v 0) (.k (1)))))) (.wr (.mul (.v 1) (.wr (.sub (.wr (.mul (.k (1)) (.v 2))) (.wr (.mul (.k (0)) (.v 3))))))))) (.add (.add (.k (0)) (.mul (.v 0) (.k (1)))) (.mul (.v 1) (.sub (.mul (.k (1)) (.v 2)) (.mul (.k (0)) (.v 3))))) (by kernel_rfl) (by kernel_rfl)).symm.trans (show IE.ev [g 0 0, g 1 0, x, y] (.wr (.add (.wr (.add (.k (0)) (.wr (.mul (.v 0) (.k (1)))))) (.wr (.mul (.v 1) (.wr (.sub (.wr (.mul (.k (1)) (.v 2))) (.wr (.mul (.k (0)) (.v 3))))))))) = rvR 2 g x y by kernel_rfl))))
theorem vaI2_p (ρ : List Int) : IE.ev ρ (.add (.mul (.add (.sub (.mul (.k (0)) (.v 2)) (.mul (.k (0)) (.v 3))) (.v 1)) (.v 3)) (.mul (.add (.mul (.k (0)) (.v 3)) (.mul (.k (0)) (.v 2))) (.v 2))) = IE.ev ρ (.add (.add (.k (0)) (.mul (.v 0) (.k (0)))) (.mul (.v 1) (.add (.mul (.k (1)) (.v 3)) (.mul (.k (0)) (.v 2))))) := by first | rfl | (simp only [IE.ev]; done) | (simp only [IE.ev]; generalize List.getD ρ 0 0 = v0; generalize List.getD ρ 1 0 = v1; generalize List.getD ρ 2 0 = v2; generalize List.getD ρ 3 0 = v3; grind)
theorem vaI2 (hg : ∀ i, i < 2 → -100 ≤ g i 0 ∧ g i 0 ≤ 100) (hx : -8 ≤ x ∧ x ≤ 8) (hy : -8 ≤ y ∧ y ≤ 8) : vaI 2 g x y = rvI 2 g x y := by
  have hr : InR sF0 [g 0 0, g 1 0, x, y] := ⟨hg 0 (by omega), ⟨hg 1 (by omega), ⟨hx, ⟨hy, trivial⟩⟩⟩⟩
  exact (show vaI 2 g x y = IE.ev [g 0 0, g 1 0, x, y] (.wr (.add (.wr (.mul (.wr (.add (.wr (.sub (.wr (.mul (.k (0)) (.v 2))) (.wr (.mul (.k (0)) (.v 3))))) (.v 1))) (.v 3))) (.wr (.mul (.wr (.add (.wr (.mul (.k (0)) (.v 3))) (.wr (.mul (.k (0)) (.v 2))))) (.v 2))))) by kernel_rfl).trans ((IE.str_to hr _ (.add (.mul (.add (.sub (.mul (.k (0)) (.v 2)) (.mul (.k (0)) (.v 3))) (.v 1)) (.v 3)) (.mul (.add (.mul (.k (0)) (.v 3)) (.mul (.k (0)) (.v 2))) (.v 2))) (by kernel_rfl) (by kernel_rfl)).trans ((vaI2_p _).trans ((IE.str_to hr (.wr (.add (.wr (.add (.k (0)) (.wr (.mul (.v 0) (.k (0)))))) (.wr (.mul (.v 1) (.wr (.add (.wr (.mul (.k (1)) (.v 3))) (.wr (.mul (.k (0)) (.v 2))))))))) (.add (.add (.k (0)) (.mul (.v 0) (.k (0)))) (.mul (.v 1) (.add (.mul (.k (1)) (.v 3)) (.mul (.k (0)) (.v 2))))) (by kernel_rfl) (by kernel_rfl)).symm.trans (show IE.ev [g 0 0, g 1 0, x, y] (.wr (.add (.wr (.add (.k (0)) (.wr (.mul (.v 0) (.k (0)))))) (.wr (.mul (.v 1) (.wr (.add (.wr (.mul (.k (1)) (.v 3))) (.wr (.mul (.k (0)) (.v 2))))))))) = rvI 2 g x y by kernel_rfl))))
theorem vaR3_p (ρ : List Int) : IE.ev ρ (.add (.sub (.mul (.add (.sub (.mul (.add (.sub (.mul (.k (0)) (.v 3)) (.mul (.k (0)) (.v 4))) (.v 2)) (.v 3)) (.mul (.add (.mul (.k (0)) (.v 4)) (.mul (.k (0)) (.v 3))) (.v 4))) (.v 1)) (.v 3)) (.mul (.add (.mul (.add (.sub (.mul (.k (0)) (.v 3)) (.mul (.k (0)) (.v 4))) (.v 2)) (.v 4)) (.mul (.add (.mul (.k (0)) (.v 4)) (.mul (.k (0)) (.v 3))) (.v 3))) (.v 4))) (.v 0)) = IE.ev ρ (.add (.add (.add (.k (0)) (.mul (.v 0) (.k (1)))) (.mul (.v 1) (.sub (.mul (.k (1)) (.v 3)) (.mul (.k (0)) (.v 4))))) (.mul (.v 2) (.sub (.mul (.sub (.mul (.k (1)) (.v 3)) (.mul (.k (0)) (.v 4))) (.v 3)) (.mul (.add (.mul (.k (1)) (.v 4)) (.mul (.k (0)) (.v 3))) (.v 4))))) := by first | rfl | (simp only [IE.ev]; done) | (simp only [IE.ev]; generalize List.getD ρ 0 0 = v0; generalize List.getD ρ 1 0 = v1; generalize List.getD ρ 2 0 = v2; generalize List.getD ρ 3 0 = v3; generalize List.getD ρ 4 0 = v4; grind)
abbrev sF1 : List Rg := [(-100, 100), (-100, 100), (-100, 100), (-8, 8), (-8, 8)]
theorem vaR3 (hg : ∀ i, i < 3 → -100 ≤ g i 0 ∧ g i 0 ≤ 100) (hx : -8 ≤ x ∧ x ≤ 8) (hy : -8 ≤ y ∧ y ≤ 8) : vaR 3 g x y = rvR 3 g x y := by
  have hr : InR sF1 [g 0 0, g 1 0, g 2 0, x, y] := ⟨hg 0 (by omega), ⟨hg 1 (by omega), ⟨hg 2 (by omega), ⟨hx, ⟨hy, trivial⟩⟩⟩⟩⟩
  exact (show vaR 3 g x y = IE.ev [g 0 0, g 1 0, g 2 0, x, y] (.wr (.add (.wr (.sub (.wr (.mul (.wr (.add (.wr (.sub (.wr (.mul (.wr (.add (.wr (.sub (.wr (.mul (.k (0)) (.v 3))) (.wr (.mul (.k (0)) (.v 4))))) (.v 2))) (.v 3))) (.wr (.mul (.wr (.add (.wr (.mul (.k (0)) (.v 4))) (.wr (.mul (.k (0)) (.v 3))))) (.v 4))))) (.v 1))) (.v 3))) (.wr (.mul (.wr (.add (.wr (.mul (.wr (.add (.wr (.sub (.wr (.mul (.k (0)) (.v 3))) (.wr (.mul (.k (0)) (.v 4))))) (.v 2))) (.v 4))) (.wr (.mul (.wr (.add (.wr (.mul (.k (0)) (.v 4))) (.wr (.mul (.k (0)) (.v 3))))) (.v 3))))) (.v 4))))) (.v 0))) by kernel_rfl).trans ((IE.str_to hr _ (.add (.sub (.mul (.add (.sub (.mul (.add (.sub (.mul (.k (0)) (.v 3)) (.mul (.k (0)) (.v 4))) (.v 2)) (.v 3)) (.mul (.add (.mul (.k (0)) (.v 4)) (.mul (.k (0)) (.v 3))) (.v 4))) (.v 1)) (.v 3)) (.mul (.add (.mul (.add (.sub (.mul (.k (0)) (.v 3)) (.mul (.k (0)) (.v 4))) (.v 2)) (.v 4)) (.mul (.add (.mul (.k (0)) (.v 4)) (.mul (.k (0)) (.v 3))) (.v 3))) (.v 4))) (.v 0)) (by kernel_rfl) (by kernel_rfl)).trans ((vaR3_p _).trans ((IE.str_to hr (.wr (.add (.wr (.add (.wr (.add (.k (0)) (.wr (.mul (.v 0) (.k (1)))))) (.wr (.mul (.v 1) (.wr (.sub (.wr (.mul (.k (1)) (.v 3))) (.wr (.mul (.k (0)) (.v 4))))))))) (.wr (.mul (.v 2) (.wr (.sub (.wr (.mul (.wr (.sub (.wr (.mul (.k (1)) (.v 3))) (.wr (.mul (.k (0)) (.v 4))))) (.v 3))) (.wr (.mul (.wr (.add (.wr (.mul (.k (1)) (.v 4))) (.wr (.mul (.k (0)) (.v 3))))) (.v 4))))))))) (.add (.add (.add (.k (0)) (.mul (.v 0) (.k (1)))) (.mul (.v 1) (.sub (.mul (.k (1)) (.v 3)) (.mul (.k (0)) (.v 4))))) (.mul (.v 2) (.sub (.mul (.sub (.mul (.k (1)) (.v 3)) (.mul (.k (0)) (.v 4))) (.v 3)) (.mul (.add (.mul (.k (1)) (.v 4)) (.mul (.k (0)) (.v 3))) (.v 4))))) (by kernel_rfl) (by kernel_rfl)).symm.trans (show IE.ev [g 0 0, g 1 0, g 2 0, x, y] (.wr (.add (.wr (.add (.wr (.add (.k (0)) (.wr (.mul (.v 0) (.k (1)))))) (.wr (.mul (.v 1) (.wr (.sub (.wr (.mul (.k (1)) (.v 3))) (.wr (.mul (.k (0)) (.v 4))))))))) (.wr (.mul (.v 2) (.wr (.sub (.wr (.mul (.wr (.sub (.wr (.mul (.k (1)) (.v 3))) (.wr (.mul (.k (0)) (.v 4))))) (.v 3))) (.wr (.mul (.wr (.add (.wr (.mul (.k (1)) (.v 4))) (.wr (.mul (.k (0)) (.v 3))))) (.v 4))))))))) = rvR 3 g x y by kernel_rfl))))
theorem vaI3_p (ρ : List Int) : IE.ev ρ (.add (.mul (.add (.sub (.mul (.add (.sub (.mul (.k (0)) (.v 3)) (.mul (.k (0)) (.v 4))) (.v 2)) (.v 3)) (.mul (.add (.mul (.k (0)) (.v 4)) (.mul (.k (0)) (.v 3))) (.v 4))) (.v 1)) (.v 4)) (.mul (.add (.mul (.add (.sub (.mul (.k (0)) (.v 3)) (.mul (.k (0)) (.v 4))) (.v 2)) (.v 4)) (.mul (.add (.mul (.k (0)) (.v 4)) (.mul (.k (0)) (.v 3))) (.v 3))) (.v 3))) = IE.ev ρ (.add (.add (.add (.k (0)) (.mul (.v 0) (.k (0)))) (.mul (.v 1) (.add (.mul (.k (1)) (.v 4)) (.mul (.k (0)) (.v 3))))) (.mul (.v 2) (.add (.mul (.sub (.mul (.k (1)) (.v 3)) (.mul (.k (0)) (.v 4))) (.v 4)) (.mul (.add (.mul (.k (1)) (.v 4)) (.mul (.k (0)) (.v 3))) (.v 3))))) := by first | rfl | (simp only [IE.ev]; done) | (simp only [IE.ev]; generalize List.getD ρ 0 0 = v0; generalize List.getD ρ 1 0 = v1; generalize List.getD ρ 2 0 = v2; generalize List.getD ρ 3 0 = v3; generalize List.getD ρ 4 0 = v4; grind)
theorem vaI3 (hg : ∀ i, i < 3 → -100 ≤ g i 0 ∧ g i 0 ≤ 100) (hx : -8 ≤ x ∧ x ≤ 8) (hy : -8 ≤ y ∧ y ≤ 8) : vaI 3 g x y = rvI 3 g x y := by
  have hr : InR sF1 [g 0 0, g 1 0, g 2 0, x, y] := ⟨hg 0 (by omega), ⟨hg 1 (by omega), ⟨hg 2 (by omega), ⟨hx, ⟨hy, trivial⟩⟩⟩⟩⟩
  exact (show vaI 3 g x y = IE.ev [g 0 0, g 1 0, g 2 0, x, y] (.wr (.add (.wr (.mul (.wr (.add (.wr (.sub (.wr (.mul (.wr (.add (.wr (.sub (.wr (.mul (.k (0)) (.v 3))) (.wr (.mul (.k (0)) (.v 4))))) (.v 2))) (.v 3))) (.wr (.mul (.wr (.add (.wr (.mul (.k (0)) (.v 4))) (.wr (.mul (.k (0)) (.v 3))))) (.v 4))))) (.v 1))) (.v 4))) (.wr (.mul (.wr (.add (.wr (.mul (.wr (.add (.wr (.sub (.wr (.mul (.k (0)) (.v 3))) (.wr (.mul (.k (0)) (.v 4))))) (.v 2))) (.v 4))) (.wr (.mul (.wr (.add (.wr (.mul (.k (0)) (.v 4))) (.wr (.mul (.k (0)) (.v 3))))) (.v 3))))) (.v 3))))) by kernel_rfl).trans ((IE.str_to hr _ (.add (.mul (.add (.sub (.mul (.add (.sub (.mul (.k (0)) (.v 3)) (.mul (.k (0)) (.v 4))) (.v 2)) (.v 3)) (.mul (.add (.mul (.k (0)) (.v 4)) (.mul (.k (0)) (.v 3))) (.v 4))) (.v 1)) (.v 4)) (.mul (.add (.mul (.add (.sub (.mul (.k (0)) (.v 3)) (.mul (.k (0)) (.v 4))) (.v 2)) (.v 4)) (.mul (.add (.mul (.k (0)) (.v 4)) (.mul (.k (0)) (.v 3))) (.v 3))) (.v 3))) (by kernel_rfl) (by kernel_rfl)).trans ((vaI3_p _).trans ((IE.str_to hr (.wr (.add (.wr (.add (.wr (.add (.k (0)) (.wr (.mul (.v 0) (.k (0)))))) (.wr (.mul (.v 1) (.wr (.add (.wr (.mul (.k (1)) (.v 4))) (.wr (.mul (.k (0)) (.v 3))))))))) (.wr (.mul (.v 2) (.wr (.add (.wr (.mul (.wr (.sub (.wr (.mul (.k (1)) (.v 3))) (.wr (.mul (.k (0)) (.v 4))))) (.v 4))) (.wr (.mul (.wr (.add (.wr (.mul (.k (1)) (.v 4))) (.wr (.mul (.k (0)) (.v 3))))) (.v 3))))))))) (.add (.add (.add (.k (0)) (.mul (.v 0) (.k (0)))) (.mul (.v 1) (.add (.mul (.k (1)) (.v 4)) (.mul (.k (0)) (.v 3))))) (.mul (.v 2) (.add (.mul (.sub (.mul (.k (1)) (.v 3)) (.mul (.k (0)) (.v 4))) (.v 4)) (.mul (.add (.mul (.k (1)) (.v 4)) (.mul (.k (0)) (.v 3))) (.v 3))))) (by kernel_rfl) (by kernel_rfl)).symm.trans (show IE.ev [g 0 0, g 1 0, g 2 0, x, y] (.wr (.add (.wr (.add (.wr (.add (.k (0)) (.wr (.mul (.v 0) (.k (0)))))) (.wr (.mul (.v 1) (.wr (.add (.wr (.mul (.k (1)) (.v 4))) (.wr (.mul (.k (0)) (.v 3))))))))) (.wr (.mul (.v 2) (.wr (.add (.wr (.mul (.wr (.sub (.wr (.mul (.k (1)) (.v 3))) (.wr (.mul (.k (0)) (.v 4))))) (.v 4))) (.wr (.mul (.wr (.add (.wr (.mul (.k (1)) (.v 4))) (.wr (.mul (.k (0)) (.v 3))))) (.v 3))))))))) = rvI 3 g x y by kernel_rfl))))
theorem vaR4_p (ρ : List Int) : IE.ev ρ (.add (.sub (.mul (.add (.sub (.mul (.add (.sub (.mul (.add (.sub (.mul (.k (0)) (.v 4)) (.mul (.k (0)) (.v 5))) (.v 3)) (.v 4)) (.mul (.add (.mul (.k (0)) (.v 5)) (.mul (.k (0)) (.v 4))) (.v 5))) (.v 2)) (.v 4)) (.mul (.add (.mul (.add (.sub (.mul (.k (0)) (.v 4)) (.mul (.k (0)) (.v 5))) (.v 3)) (.v 5)) (.mul (.add (.mul (.k (0)) (.v 5)) (.mul (.k (0)) (.v 4))) (.v 4))) (.v 5))) (.v 1)) (.v 4)) (.mul (.add (.mul (.add (.sub (.mul (.add (.sub (.mul (.k (0)) (.v 4)) (.mul (.k (0)) (.v 5))) (.v 3)) (.v 4)) (.mul (.add (.mul (.k (0)) (.v 5)) (.mul (.k (0)) (.v 4))) (.v 5))) (.v 2)) (.v 5)) (.mul (.add (.mul (.add (.sub (.mul (.k (0)) (.v 4)) (.mul (.k (0)) (.v 5))) (.v 3)) (.v 5)) (.mul (.add (.mul (.k (0)) (.v 5)) (.mul (.k (0)) (.v 4))) (.v 4))) (.v 4))) (.v 5))) (.v 0)) = IE.ev ρ (.add (.add (.add (.add (.k (0)) (.mul (.v 0) (.k (1)))) (.mul (.v 1) (.sub (.mul (.k (1)) (.v 4)) (.mul (.k (0)) (.v 5))))) (.mul (.v 2) (.sub (.mul (.sub (.mul (.k (1)) (.v 4)) (.mul (.k (0)) (.v 5))) (.v 4)) (.mul (.add (.mul (.k (1)) (.v 5)) (.mul (.k (0)) (.v 4))) (.v 5))))) (.mul (.v 3) (.sub (.mul (.sub (.mul (.sub (.mul (.k (1)) (.v 4)) (.mul (.k (0)) (.v 5))) (.v 4)) (.mul (.add (.mul (.k (1)) (.v 5)) (.mul (.k (0)) (.v 4))) (.v 5))) (.v 4)) (.mul (.add (.mul (.sub (.mul (.k (1)) (.v 4)) (.mul (.k (0)) (.v 5))) (.v 5)) (.mul (.add (.mul (.k (1)) (.v 5)) (.mul (.k (0)) (.v 4))) (.v 4))) (.v 5))))) := by first | rfl | (simp only [IE.ev]; done) | (simp only [IE.ev]; generalize List.getD ρ 0 0 = v0; generalize List.getD ρ 1 0 = v1; generalize List.getD ρ 2 0 = v2; generalize List.getD ρ 3 0 = v3; generalize List.getD ρ 4 0 = v4; generalize List.getD ρ 5 0 = v5; grind)
abbrev sF2 : List Rg := [(-100, 100), (-100, 100), (-100, 100), (-100, 100), (-8, 8), (-8, 8)]
theorem vaR4 (hg : ∀ i, i < 4 → -100 ≤ g i 0 ∧ g i 0 ≤ 100) (hx : -8 ≤ x ∧ x ≤ 8) (hy : -8 ≤ y ∧ y ≤ 8) : vaR 4 g x y = rvR 4 g x y := by
  have hr : InR sF2 [g 0 0, g 1 0, g 2 0, g 3 0, x, y] := ⟨hg 0 (by omega), ⟨hg 1 (by omega), ⟨hg 2 (by omega), ⟨hg 3 (by omega), ⟨hx, ⟨hy, trivial⟩⟩⟩⟩⟩⟩
  exact (show vaR 4 g x y = IE.ev [g 0 0, g 1 0, g 2 0, g 3 0, x, y] (.wr (.add (.wr (.sub (.wr (.mul (.wr (.add (.wr (.sub (.wr (.mul (.wr (.add (.wr (.sub (.wr (.mul (.wr (.add (.wr (.sub (.wr (.mul (.k (0)) (.v 4))) (.wr (.mul (.k (0)) (.v 5))))) (.v 3))) (.v 4))) (.wr (.mul (.wr (.add (.wr (.mul (.k (0)) (.v 5))) (.wr (.mul (.k (0)) (.v 4))))) (.v 5))))) (.v 2))) (.v 4))) (.wr (.mul (.wr (.add (.wr (.mul (.wr (.add (.wr (.sub (.wr (.mul (.k (0)) (.v 4))) (.wr (.mul (.k (0)) (.v 5))))) (.v 3))) (.v 5))) (.wr (.mul (.wr (.add (.wr (.mul (.k (0)) (.v 5))) (.wr (.mul (.k (0)) (.v 4))))) (.v 4))))) (.v 5))))) (.v 1))) (.v 4))) (.wr (.mul (.wr (.add (.wr (.mul (.wr (.add (.wr (.sub (.wr (.mul (.wr (.add (.wr (.sub (.wr (.mul (.k (0)) (.v 4))) (.wr (.mul (.k (0)) (.v 5))))) (.v 3))) (.v 4))) (.wr (.mul (.wr (.add (.wr (.mul (.k (0)) (.v 5))) (.wr (.mul (.k (0)) (.v 4))))) (.v 5))))) (.v 2))) (.v 5))) (.wr (.mul (.wr (.add (.wr (.mul (.wr (.add (.wr (.sub (.wr (.mul (.k (0)) (.v 4))) (.wr (.mul (.k (0)) (.v 5))))) (.v 3))) (.v 5))) (.wr (.mul (.wr (.add (.wr (.mul (.k (0)) (.v 5))) (.wr (.mul (.k (0)) (.v 4))))) (.v 4))))) (.v 4))))) (.v 5))))) (.v 0))) by kernel_rfl).trans ((IE.str_to hr _ (.add (.sub (.mul (.add (.sub (.mul (.add (.sub (.mul (.add (.sub (.mul (.k (0)) (.v 4)) (.mul (.k (0)) (.v 5))) (.v 3)) (.v 4)) (.mul (.add (.mul (.k (0)) (.v 5)) (.mul (.k (0)) (.v 4))) (.v 5))) (.v 2)) (.v 4)) (.mul (.add (.mul (.add (.sub (.mul (.k (0)) (.v 4)) (.mul (.k (0)) (.v 5))) (.v 3)) (.v 5)) (.mul (.add (.mul (.k (0)) (.v 5)) (.mul (.k (0)) (.v 4))) (.v 4))) (.v 5))) (.v 1)) (.v 4)) (.mul (.add (.mul (.add (.sub (.mul (.add (.sub (.mul (.k (0)) (.v 4)) (.mul (.k (0)) (.v 5))) (.v 3)) (.v 4)) (.mul (.add (.mul (.k (0)) (.v 5)) (.mul (.k (0)) (.v 4))) (.v 5))) (.v 2)) (.v 5)) (.mul (.add (.mul (.add (.sub (.mul (.k (0)) (.v 4)) (.mul (.k (0)) (.v 5))) (.v 3)) (.v 5)) (.mul (.add (.mul (.k (0)) (.v 5)) (.mul (.k (0)) (.v 4))) (.v 4))) (.v 4))) (.v 5))) (.v 0)) (by kernel_rfl) (by kernel_rfl)).trans ((vaR4_p _).trans ((IE.str_to hr (.wr (.add (.wr (.add (.wr (.add (.wr (.add (.k (0)) (.wr (.mul (.v 0) (.k (1)))))) (.wr (.mul (.v 1) (.wr (.sub (.wr (.mul (.k (1)) (.v 4))) (.wr (.mul (.k (0)) (.v 5))))))))) (.wr (.mul (.v 2) (.wr (.sub (.wr (.mul (.wr (.sub (.wr (.mul (.k (1)) (.v 4))) (.wr (.mul (.k (0)) (.v 5))))) (.v 4))) (.wr (.mul (.wr (.add (.wr (.mul (.k (1)) (.v 5))) (.wr (.mul (.k (0)) (.v 4))))) (.v 5))))))))) (.wr (.mul (.v 3) (.wr (.sub (.wr (.mul (.wr (.sub (.wr (.mul (.wr (.sub (.wr (.mul (.k (1)) (.v 4))) (.wr (.mul (.k (0)) (.v 5))))) (.v 4))) (.wr (.mul (.wr (.add (.wr (.mul (.k (1)) (.v 5))) (.wr (.mul (.k (0)) (.v 4))))) (.v 5))))) (.v 4))) (.wr (.mul (.wr (.add (.wr (.mul (.wr (.sub (.wr (.mul (.k (1)) (.v 4))) (.wr (.mul (.k (0)) (.v 5))))) (.v 5))) (.wr (.mul (.wr (.add (.wr (.mul (.k (1)) (.v 5))) (.wr (.mul (.k (0)) (.v 4))))) (.v 4))))) (.v 5))))))))) (.add (.add (.add (.add (.k (0)) (.mul (.v 0) (.k (1)))) (.mul (.v 1) (.sub (.mul (.k (1)) (.v 4)) (.mul (.k (0)) (.v 5))))) (.mul (.v 2) (.sub (.mul (.sub (.mul (.k (1)) (.v 4)) (.mul (.k (0)) (.v 5))) (.v 4)) (.mul (.add (.mul (.k (1)) (.v 5)) (.mul (.k (0)) (.v 4))) (.v 5))))) (.mul (.v 3) (.sub (.mul (.sub (.mul (.sub (.mul (.k (1)) (.v 4)) (.mul (.k (0)) (.v 5))) (.v 4)) (.mul (.add (.mul (.k (1)) (.v 5)) (.mul (.k (0)) (.v 4))) (.v 5))) (.v 4)) (.mul (.add (.mul (.sub (.mul (.k (1)) (.v 4)) (.mul (.k (0)) (.v 5))) (.v 5)) (.mul (.add (.mul (.k (1)) (.v 5)) (.mul (.k (0)) (.v 4))) (.v 4))) (.v 5))))) (by kernel_rfl) (by kernel_rfl)).symm.trans (show IE.ev [g 0 0, g 1 0, g 2 0, g 3 0, x, y] (.wr (.add (.wr (.add (.wr (.add (.wr (.add (.k (0)) (.wr (.mul (.v 0) (.k (1)))))) (.wr (.mul (.v 1) (.wr (.sub (.wr (.mul (.k (1)) (.v 4))) (.wr (.mul (.k (0)) (.v 5))))))))) (.wr (.mul (.v 2) (.wr (.sub (.wr (.mul (.wr (.sub (.wr (.mul (.k (1)) (.v 4))) (.wr (.mul (.k (0)) (.v 5))))) (.v 4))) (.wr (.mul (.wr (.add (.wr (.mul (.k (1)) (.v 5))) (.wr (.mul (.k (0)) (.v 4))))) (.v 5))))))))) (.wr (.mul (.v 3) (.wr (.sub (.wr (.mul (.wr (.sub (.wr (.mul (.wr (.sub (.wr (.mul (.k (1)) (.v 4))) (.wr (.mul (.k (0)) (.v 5))))) (.v 4))) (.wr (.mul (.wr (.add (.wr (.mul (.k (1)) (.v 5))) (.wr (.mul (.k (0)) (.v 4))))) (.v 5))))) (.v 4))) (.wr (.mul (.wr (.add (.wr (.mul (.wr (.sub (.wr (.mul (.k (1)) (.v 4))) (.wr (.mul (.k (0)) (.v 5))))) (.v 5))) (.wr (.mul (.wr (.add (.wr (.mul (.k (1)) (.v 5))) (.wr (.mul (.k (0)) (.v 4))))) (.v 4))))) (.v 5))))))))) = rvR 4 g x y by kernel_rfl))))
theorem vaI4_p (ρ : List Int) : IE.ev ρ (.add (.mul (.add (.sub (.mul (.add (.sub (.mul (.add (.sub (.mul (.k (0)) (.v 4)) (.mul (.k (0)) (.v 5))) (.v 3)) (.v 4)) (.mul (.add (.mul (.k (0)) (.v 5)) (.mul (.k (0)) (.v 4))) (.v 5))) (.v 2)) (.v 4)) (.mul (.add (.mul (.add (.sub (.mul (.k (0)) (.v 4)) (.mul (.k (0)) (.v 5))) (.v 3)) (.v 5)) (.mul (.add (.mul (.k (0)) (.v 5)) (.mul (.k (0)) (.v 4))) (.v 4))) (.v 5))) (.v 1)) (.v 5)) (.mul (.add (.mul (.add (.sub (.mul (.add (.sub (.mul (.k (0)) (.v 4)) (.mul (.k (0)) (.v 5))) (.v 3)) (.v 4)) (.mul (.add (.mul (.k (0)) (.v 5)) (.mul (.k (0)) (.v 4))) (.v 5))) (.v 2)) (.v 5)) (.mul (.add (.mul (.add (.sub (.mul (.k (0)) (.v 4)) (.mul (.k (0)) (.v 5))) (.v 3)) (.v 5)) (.mul (.add (.mul (.k (0)) (.v 5)) (.mul (.k (0)) (.v 4))) (.v 4))) (.v 4))) (.v 4))) = IE.ev ρ (.add (.add (.add (.add (.k (0)) (.mul (.v 0) (.k (0)))) (.mul (.v 1) (.add (.mul (.k (1)) (.v 5)) (.mul (.k (0)) (.v 4))))) (.mul (.v 2) (.add (.mul (.sub (.mul (.k (1)) (.v 4)) (.mul (.k (0)) (.v 5))) (.v 5)) (.mul (.add (.mul (.k (1)) (.v 5)) (.mul (.k (0)) (.v 4))) (.v 4))))) (.mul (.v 3) (.add (.mul (.sub (.mul (.sub (.mul (.k (1)) (.v 4)) (.mul (.k (0)) (.v 5))) (.v 4)) (.mul (.add (.mul (.k (1)) (.v 5)) (.mul (.k (0)) (.v 4))) (.v 5))) (.v 5)) (.mul (.add (.mul (.sub (.mul (.k (1)) (.v 4)) (.mul (.k (0)) (.v 5))) (.v 5)) (.mul (.add (.mul (.k (1)) (.v 5)) (.mul (.k (0)) (.v 4))) (.v 4))) (.v 4))))) := by first | rfl | (simp only [IE.ev]; done) | (simp only [IE.ev]; generalize List.getD ρ 0 0 = v0; generalize List.getD ρ 1 0 = v1; generalize List.getD ρ 2 0 = v2; generalize List.getD ρ 3 0 = v3; generalize List.getD ρ 4 0 = v4; generalize List.getD ρ 5 0 = v5; grind)
theorem vaI4 (hg : ∀ i, i < 4 → -100 ≤ g i 0 ∧ g i 0 ≤ 100) (hx : -8 ≤ x ∧ x ≤ 8) (hy : -8 ≤ y ∧ y ≤ 8) : vaI 4 g x y = rvI 4 g x y := by
  have hr : InR sF2 [g 0 0, g 1 0, g 2 0, g 3 0, x, y] := ⟨hg 0 (by omega), ⟨hg 1 (by omega), ⟨hg 2 (by omega), ⟨hg 3 (by omega), ⟨hx, ⟨hy, trivial⟩⟩⟩⟩⟩⟩
  exact (show vaI 4 g x y = IE.ev [g 0 0, g 1 0, g 2 0, g 3 0, x, y] (.wr (.add (.wr (.mul (.wr (.add (.wr (.sub (.wr (.mul (.wr (.add (.wr (.sub (.wr (.mul (.wr (.add (.wr (.sub (.wr (.mul (.k (0)) (.v 4))) (.wr (.mul (.k (0)) (.v 5))))) (.v 3))) (.v 4))) (.wr (.mul (.wr (.add (.wr (.mul (.k (0)) (.v 5))) (.wr (.mul (.k (0)) (.v 4))))) (.v 5))))) (.v 2))) (.v 4))) (.wr (.mul (.wr (.add (.wr (.mul (.wr (.add (.wr (.sub (.wr (.mul (.k (0)) (.v 4))) (.wr (.mul (.k (0)) (.v 5))))) (.v 3))) (.v 5))) (.wr (.mul (.wr (.add (.wr (.mul (.k (0)) (.v 5))) (.wr (.mul (.k (0)) (.v 4))))) (.v 4))))) (.v 5))))) (.v 1))) (.v 5))) (.wr (.mul (.wr (.add (.wr (.mul (.wr (.add (.wr (.sub (.wr (.mul (.wr (.add (.wr (.sub (.wr (.mul (.k (0)) (.v 4))) (.wr (.mul (.k (0)) (.v 5))))) (.v 3))) (.v 4))) (.wr (.mul (.wr (.add (.wr (.mul (.k (0)) (.v 5))) (.wr (.mul (.k (0)) (.v 4))))) (.v 5))))) (.v 2))) (.v 5))) (.wr (.mul (.wr (.add (.wr (.mul (.wr (.add (.wr (.sub (.wr (.mul (.k (0)) (.v 4))) (.wr (.mul (.k (0)) (.v 5))))) (.v 3))) (.v 5))) (.wr (.mul (.wr (.add (.wr (.mul (.k (0)) (.v 5))) (.wr (.mul (.k (0)) (.v 4))))) (.v 4))))) (.v 4))))) (.v 4))))) by kernel_rfl).trans ((IE.str_to hr _ (.add (.mul (.add (.sub (.mul (.add (.sub (.mul (.add (.sub (.mul (.k (0)) (.v 4)) (.mul (.k (0)) (.v 5))) (.v 3)) (.v 4)) (.mul (.add (.mul (.k (0)) (.v 5)) (.mul (.k (0)) (.v 4))) (.v 5))) (.v 2)) (.v 4)) (.mul (.add (.mul (.add (.sub (.mul (.k (0)) (.v 4)) (.mul (.k (0)) (.v 5))) (.v 3)) (.v 5)) (.mul (.add (.mul (.k (0)) (.v 5)) (.mul (.k (0)) (.v 4))) (.v 4))) (.v 5))) (.v 1)) (.v 5)) (.mul (.add (.mul (.add (.sub (.mul (.add (.sub (.mul (.k (0)) (.v 4)) (.mul (.k (0)) (.v 5))) (.v 3)) (.v 4)) (.mul (.add (.mul (.k (0)) (.v 5)) (.mul (.k (0)) (.v 4))) (.v 5))) (.v 2)) (.v 5)) (.mul (.add (.mul (.add (.sub (.mul (.k (0)) (.v 4)) (.mul (.k (0)) (.v 5))) (.v 3)) (.v 5)) (.mul (.add (.mul (.k (0)) (.v 5)) (.mul (.k (0)) (.v 4))) (.v 4))) (.v 4))) (.v 4))) (by kernel_rfl) (by kernel_rfl)).trans ((vaI4_p _).trans ((IE.str_to hr (.wr (.add (.wr (.add (.wr (.add (.wr (.add (.k (0)) (.wr (.mul (.v 0) (.k (0)))))) (.wr (.mul (.v 1) (.wr (.add (.wr (.mul (.k (1)) (.v 5))) (.wr (.mul (.k (0)) (.v 4))))))))) (.wr (.mul (.v 2) (.wr (.add (.wr (.mul (.wr (.sub (.wr (.mul (.k (1)) (.v 4))) (.wr (.mul (.k (0)) (.v 5))))) (.v 5))) (.wr (.mul (.wr (.add (.wr (.mul (.k (1)) (.v 5))) (.wr (.mul (.k (0)) (.v 4))))) (.v 4))))))))) (.wr (.mul (.v 3) (.wr (.add (.wr (.mul (.wr (.sub (.wr (.mul (.wr (.sub (.wr (.mul (.k (1)) (.v 4))) (.wr (.mul (.k (0)) (.v 5))))) (.v 4))) (.wr (.mul (.wr (.add (.wr (.mul (.k (1)) (.v 5))) (.wr (.mul (.k (0)) (.v 4))))) (.v 5))))) (.v 5))) (.wr (.mul (.wr (.add (.wr (.mul (.wr (.sub (.wr (.mul (.k (1)) (.v 4))) (.wr (.mul (.k (0)) (.v 5))))) (.v 5))) (.wr (.mul (.wr (.add (.wr (.mul (.k (1)) (.v 5))) (.wr (.mul (.k (0)) (.v 4))))) (.v 4))))) (.v 4))))))))) (.add (.add (.add (.add (.k (0)) (.mul (.v 0) (.k (0)))) (.mul (.v 1) (.add (.mul (.k (1)) (.v 5)) (.mul (.k (0)) (.v 4))))) (.mul (.v 2) (.add (.mul (.sub (.mul (.k (1)) (.v 4)) (.mul (.k (0)) (.v 5))) (.v 5)) (.mul (.add (.mul (.k (1)) (.v 5)) (.mul (.k (0)) (.v 4))) (.v 4))))) (.mul (.v 3) (.add (.mul (.sub (.mul (.sub (.mul (.k (1)) (.v 4)) (.mul (.k (0)) (.v 5))) (.v 4)) (.mul (.add (.mul (.k (1)) (.v 5)) (.mul (.k (0)) (.v 4))) (.v 5))) (.v 5)) (.mul (.add (.mul (.sub (.mul (.k (1)) (.v 4)) (.mul (.k (0)) (.v 5))) (.v 5)) (.mul (.add (.mul (.k (1)) (.v 5)) (.mul (.k (0)) (.v 4))) (.v 4))) (.v 4))))) (by kernel_rfl) (by kernel_rfl)).symm.trans (show IE.ev [g 0 0, g 1 0, g 2 0, g 3 0, x, y] (.wr (.add (.wr (.add (.wr (.add (.wr (.add (.k (0)) (.wr (.mul (.v 0) (.k (0)))))) (.wr (.mul (.v 1) (.wr (.add (.wr (.mul (.k (1)) (.v 5))) (.wr (.mul (.k (0)) (.v 4))))))))) (.wr (.mul (.v 2) (.wr (.add (.wr (.mul (.wr (.sub (.wr (.mul (.k (1)) (.v 4))) (.wr (.mul (.k (0)) (.v 5))))) (.v 5))) (.wr (.mul (.wr (.add (.wr (.mul (.k (1)) (.v 5))) (.wr (.mul (.k (0)) (.v 4))))) (.v 4))))))))) (.wr (.mul (.v 3) (.wr (.add (.wr (.mul (.wr (.sub (.wr (.mul (.wr (.sub (.wr (.mul (.k (1)) (.v 4))) (.wr (.mul (.k (0)) (.v 5))))) (.v 4))) (.wr (.mul (.wr (.add (.wr (.mul (.k (1)) (.v 5))) (.wr (.mul (.k (0)) (.v 4))))) (.v 5))))) (.v 5))) (.wr (.mul (.wr (.add (.wr (.mul (.wr (.sub (.wr (.mul (.k (1)) (.v 4))) (.wr (.mul (.k (0)) (.v 5))))) (.v 5))) (.wr (.mul (.wr (.add (.wr (.mul (.k (1)) (.v 5))) (.wr (.mul (.k (0)) (.v 4))))) (.v 4))))) (.v 4))))))))) = rvI 4 g x y by kernel_rfl))))
theorem vaR5_p (ρ : List Int) : IE.ev ρ (.add (.sub (.mul (.add (.sub (.mul (.add (.sub (.mul (.add (.sub (.mul (.add (.sub (.mul (.k (0)) (.v 5)) (.mul (.k (0)) (.v 6))) (.v 4)) (.v 5)) (.mul (.add (.mul (.k (0)) (.v 6)) (.mul (.k (0)) (.v 5))) (.v 6))) (.v 3)) (.v 5)) (.mul (.add (.mul (.add (.sub (.mul (.k (0)) (.v 5)) (.mul (.k (0)) (.v 6))) (.v 4)) (.v 6)) (.mul (.add (.mul (.k (0)) (.v 6)) (.mul (.k (0)) (.v 5))) (.v 5))) (.v 6))) (.v 2)) (.v 5)) (.mul (.add (.mul (.add (.sub (.mul (.add (.sub (.mul (.k (0)) (.v 5)) (.mul (.k (0)) (.v 6))) (.v 4)) (.v 5)) (.mul (.add (.mul (.k (0)) (.v 6)) (.mul (.k (0)) (.v 5))) (.v 6))) (.v 3)) (.v 6)) (.mul (.add (.mul (.add (.sub (.mul (.k (0)) (.v 5)) (.mul (.k (0)) (.v 6))) (.v 4)) (.v 6)) (.mul (.add (.mul (.k (0)) (.v 6)) (.mul (.k (0)) (.v 5))) (.v 5))) (.v 5))) (.v 6))) (.v 1)) (.v 5)) (.mul (.add (.mul (.add (.sub (.mul (.add (.sub (.mul (.add (.sub (.mul (.k (0)) (.v 5)) (.mul (.k (0)) (.v 6))) (.v 4)) (.v 5)) (.mul (.add (.mul (.k (0)) (.v 6)) (.mul (.k (0)) (.v 5))) (.v 6))) (.v 3)) (.v 5)) (.mul (.add (.mul (.add (.sub (.mul (.k (0)) (.v 5)) (.mul (.k (0)) (.v 6))) (.v 4)) (.v 6)) (.mul (.add (.mul (.k (0)) (.v 6)) (.mul (.k (0)) (.v 5))) (.v 5))) (.v 6))) (.v 2)) (.v 6)) (.mul (.add (.mul (.add (.sub (.mul (.add (.sub (.mul (.k (0)) (.v 5)) (.mul (.k (0)) (.v 6))) (.v 4)) (.v 5)) (.mul (.add (.mul (.k (0)) (.v 6)) (.mul (.k (0)) (.v 5))) (.v 6))) (.v 3)) (.v 6)) (.mul (.add (.mul (.add (.sub (.mul (.k (0)) (.v 5)) (.mul (.k (0)) (.v 6))) (.v 4)) (.v 6)) (.mul (.add (.mul (.k (0)) (.v 6)) (.mul (.k (0)) (.v 5))) (.v 5))) (.v 5))) (.v 5))) (.v 6))) (.v 0)) = IE.ev ρ (.add (.add (.add (.add (.add (.k (0)) (.mul (.v 0) (.k (1)))) (.mul (.v 1) (.sub (.mul (.k (1)) (.v 5)) (.mul (.k (0)) (.v 6))))) (.mul (.v 2) (.sub (.mul (.sub (.mul (.k (1)) (.v 5)) (.mul (.k (0)) (.v 6))) (.v 5)) (.mul (.add (.mul (.k (1)) (.v 6)) (.mul (.k (0)) (.v 5))) (.v 6))))) (.mul (.v 3) (.sub (.mul (.sub (.mul (.sub (.mul (.k (1)) (.v 5)) (.mul (.k (0)) (.v 6))) (.v 5)) (.mul (.add (.mul (.k (1)) (.v 6)) (.mul (.k (0)) (.v 5))) (.v 6))) (.v 5)) (.mul (.add (.mul (.sub (.mul (.k (1)) (.v 5)) (.mul (.k (0)) (.v 6))) (.v 6)) (.mul (.add (.mul (.k (1)) (.v 6)) (.mul (.k (0)) (.v 5))) (.v 5))) (.v 6))))) (.mul (.v 4) (.sub (.mul (.sub (.mul (.sub (.mul (.sub (.mul (.k (1)) (.v 5)) (.mul (.k (0)) (.v 6))) (.v 5)) (.mul (.add (.mul (.k (1)) (.v 6)) (.mul (.k (0)) (.v 5))) (.v 6))) (.v 5)) (.mul (.add (.mul (.sub (.mul (.k (1)) (.v 5)) (.mul (.k (0)) (.v 6))) (.v 6)) (.mul (.add (.mul (.k (1)) (.v 6)) (.mul (.k (0)) (.v 5))) (.v 5))) (.v 6))) (.v 5)) (.mul (.add (.mul (.sub (.mul (.sub (.mul (.k (1)) (.v 5)) (.mul (.k (0)) (.v 6))) (.v 5)) (.mul (.add (.mul (.k (1)) (.v 6)) (.mul (.k (0)) (.v 5))) (.v 6))) (.v 6)) (.mul (.add (.mul (.sub (.mul (.k (1)) (.v 5)) (.mul (.k (0)) (.v 6))) (.v 6)) (.mul (.add (.mul (.k (1)) (.v 6)) (.mul (.k (0)) (.v 5))) (.v 5))) (.v 5))) (.v 6))))) := by first | rfl | (simp only [IE.ev]; done) | (simp only [IE.ev]; generalize List.getD ρ 0 0 = v0; generalize List.getD ρ 1 0 = v1; generalize List.getD ρ 2 0 = v2; generalize List.getD ρ 3 0 = v3; generalize List.getD ρ 4 0 = v4; generalize List.getD ρ 5 0 = v5; generalize List.getD ρ 6 0 = v6; grind)
abbrev sF3 : List Rg := [(-100, 100), (-100, 100), (-100, 100), (-100, 100), (-100, 100), (-8, 8), (-8, 8)]
theorem vaR5 (hg : ∀ i, i < 5 → -100 ≤ g i 0 ∧ g i 0 ≤ 100) (hx : -8 ≤ x ∧ x ≤ 8) (hy : -8 ≤ y ∧ y ≤ 8) : vaR 5 g x y = rvR 5 g x y := by
  have hr : InR sF3 [g 0 0, g 1 0, g 2 0, g 3 0, g 4 0, x, y] := ⟨hg 0 (by omega), ⟨hg 1 (by omega), ⟨hg 2 (by omega), ⟨hg 3 (by omega), ⟨hg 4 (by omega), ⟨hx, ⟨hy, trivial⟩⟩⟩⟩⟩⟩⟩
  exact (show vaR 5 g x y = IE.ev [g 0 0, g 1 0, g 2 0, g 3 0, g 4 0, x, y] (.wr (.add (.wr (.sub (.wr (.mul (.wr (.add (.wr (.sub (.wr (.mul (.wr (.add (.wr (.sub (.wr (.mul (.wr (.add (.wr (.sub (.wr (.mul (.wr (.add (.wr (.sub (.wr (.mul (.k (0)) (.v 5))) (.wr (.mul (.k (0)) (.v 6))))) (.v 4))) (.v 5))) (.wr (.mul (.wr (.add (.wr (.mul (.k (0)) (.v 6))) (.wr (.mul (.k (0)) (.v 5))))) (.v 6))))) (.v 3))) (.v 5))) (.wr (.mul (.wr (.add (.wr (.mul (.wr (.add (.wr (.sub (.wr (.mul (.k (0)) (.v 5))) (.wr (.mul (.k (0)) (.v 6))))) (.v 4))) (.v 6))) (.wr (.mul (.wr (.add (.wr (.mul (.k (0)) (.v 6))) (.wr (.mul (.k (0)) (.v 5))))) (.v 5))))) (.v 6))))) (.v 2))) (.v 5))) (.wr (.mul (.wr (.add (.wr (.mul (.wr (.add (.wr (.sub (.wr (.mul (.wr (.add (.wr (.sub (.wr (.mul (.k (0)) (.v 5))) (.wr (.mul (.k (0)) (.v 6))))) (.v 4))) (.v 5))) (.wr (.mul (.wr (.add (.wr (.mul (.k (0)) (.v 6))) (.wr (.mul (.k (0)) (.v 5))))) (.v 6))))) (.v 3))) (.v 6))) (.wr (.mul (.wr (.add (.wr (.mul (.wr (.add (.wr (.sub (.wr (.mul (.k (0)) (.v 5))) (.wr (.mul (.k (0)) (.v 6))))) (.v 4))) (.v 6))) (.wr (.mul (.wr (.add (.wr (.mul (.k (0)) (.v 6))) (.wr (.mul (.k (0)) (.v 5))))) (.v 5))))) (.v 5))))) (.v 6))))) (.v 1))) (.v 5))) (.wr (.mul (.wr (.add (.wr (.mul (.wr (.add (.wr (.sub (.wr (.mul (.wr (.add (.wr (.sub (.wr (.mul (.wr (.add (.wr (.sub (.wr (.mul (.k (0)) (.v 5))) (.wr (.mul (.k (0)) (.v 6))))) (.v 4))) (.v 5))) (.wr (.mul (.wr (.add (.wr (.mul (.k (0)) (.v 6))) (.wr (.mul (.k (0)) (.v 5))))) (.v 6))))) (.v 3))) (.v 5))) (.wr (.mul (.wr (.add (.wr (.mul (.wr (.add (.wr (.sub (.wr (.mul (.k (0)) (.v 5))) (.wr (.mul (.k (0)) (.v 6))))) (.v 4))) (.v 6))) (.wr (.mul (.wr (.add (.wr (.mul (.k (0)) (.v 6))) (.wr (.mul (.k (0)) (.v 5))))) (.v 5))))) (.v 6))))) (.v 2))) (.v 6))) (.wr (.mul (.wr (.add (.wr (.mul (.wr (.add (.wr (.sub (.wr (.mul (.wr (.add (.wr (.sub (.wr (.mul (.k (0)) (.v 5))) (.wr (.mul (.k (0)) (.v 6))))) (.v 4))) (.v 5))) (.wr (.mul (.wr (.add (.wr (.mul (.k (0)) (.v 6))) (.wr (.mul (.k (0)) (.v 5))))) (.v 6))))) (.v 3))) (.v 6))) (.wr (.mul (.wr (.add (.wr (.mul (.wr (.add (.wr (.sub (.wr (.mul (.k (0)) (.v 5))) (.wr (.mul (.k (0)) (.v 6))))) (.v 4))) (.v 6))) (.wr (.mul (.wr (.add (.wr (.mul (.k (0)) (.v 6))) (.wr (.mul (.k (0)) (.v 5))))) (.v 5))))) (.v 5))))) (.v 5))))) (.v 6))))) (.v 0))) by kernel_rfl).trans ((IE.str_to hr _ (.add (.sub (.mul (.add (.sub (.mul (.add (.sub (.mul (.add (.sub (.mul (.add (.sub (.mul (.k (0)) (.v 5)) (.mul (.k (0)) (.v 6))) (.v 4)) (.v 5)) (.mul (.add (.mul (.k (0)) (.v 6)) (.mul (.k (0)) (.v 5))) (.v 6))) (.v 3)) (.v 5)) (.mul (.add (.mul (.add (.sub (.mul (.k (0)) (.v 5)) (.mul (.k (0)) (.v 6))) (.v 4)) (.v 6)) (.mul (.add (.mul (.k (0)) (.v 6)) (.mul (.k (0)) (.v 5))) (.v 5))) (.v 6))) (.v 2)) (.v 5)) (.mul (.add (.mul (.add (.sub (.mul (.add (.sub (.mul (.k (0)) (.v 5)) (.mul (.k (0)) (.v 6))) (.v 4)) (.v 5)) (.mul (.add (.mul (.k (0)) (.v 6)) (.mul (.k (0)) (.v 5))) (.v 6))) (.v 3)) (.v 6)) (.mul (.add (.mul (.add (.sub (.mul (.k (0)) (.v 5)) (.mul (.k (0)) (.v 6))) (.v 4)) (.v 6)) (.mul (.add (.mul (.k (0)) (.v 6)) (.mul (.k (0)) (.v 5))) (.v 5))) (.v 5))) (.v 6))) (.v 1)) (.v 5)) (.mul (.add (.mul (.add (.sub (.mul (.add (.sub (.mul (.add (.sub (.mul (.k (0)) (.v 5)) (.mul (.k (0)) (.v 6))) (.v 4)) (.v 5)) (.mul (.add (.mul (.k (0)) (.v 6)) (.mul (.k (0)) (.v 5))) (.v 6))) (.v 3)) (.v 5)) (.mul (.add (.mul (.add (.sub (.mul (.k (0)) (.v 5)) (.mul (.k (0)) (.v 6))) (.v 4)) (.v 6)) (.mul (.add (.mul (.k (0)) (.v 6)) (.mul (.k (0)) (.v 5))) (.v 5))) (.v 6))) (.v 2)) (.v 6)) (.mul (.add (.mul (.add (.sub (.mul (.add (.sub (.mul (.k (0)) (.v 5)) (.mul (.k (0)) (.v 6))) (.v 4)) (.v 5)) (.mul (.add (.mul (.k (0)) (.v 6)) (.mul (.k (0)) (.v 5))) (.v 6))) (.v 3)) (.v 6)) (.mul (.add (.mul (.add (.sub (.mul (.k (0)) (.v 5)) (.mul (.k (0)) (.v 6))) (.v 4)) (.v 6)) (.mul (.add (.mul (.k (0)) (.v 6)) (.mul (.k (0)) (.v 5))) (.v 5))) (.v 5))) (.v 5))) (.v 6))) (.v 0)) (by kernel_rfl) (by kernel_rfl)).trans ((vaR5_p _).trans ((IE.str_to hr (.wr (.add (.wr (.add (.wr (.add (.wr (.add (.wr (.add (.k (0)) (.wr (.mul (.v 0) (.k (1)))))) (.wr (.mul (.v 1) (.wr (.sub (.wr (.mul (.k (1)) (.v 5))) (.wr (.mul (.k (0)) (.v 6))))))))) (.wr (.mul (.v 2) (.wr (.sub (.wr (.mul (.wr (.sub (.wr (.mul (.k (1)) (.v 5))) (.wr (.mul (.k (0)) (.v 6))))) (.v 5))) (.wr (.mul (.wr (.add (.wr (.mul (.k (1)) (.v 6))) (.wr (.mul (.k (0)) (.v 5))))) (.v 6))))))))) (.wr (.mul (.v 3) (.wr (.sub (.wr (.mul (.wr (.sub (.wr (.mul (.wr (.sub (.wr (.mul (.k (1)) (.v 5))) (.wr (.mul (.k (0)) (.v 6))))) (.v 5))) (.wr (.mul (.wr (.add (.wr (.mul (.k (1)) (.v 6))) (.wr (.mul (.k (0)) (.v 5))))) (.v 6))))) (.v 5))) (.wr (.mul (.wr (.add (.wr (.mul (.wr (.sub (.wr (.mul (.k (1)) (.v 5))) (.wr (.mul (.k (0)) (.v 6))))) (.v 6))) (.wr (.mul (.wr (.add (.wr (.mul (.k (1)) (.v 6))) (.wr (.mul (.k (0)) (.v 5))))) (.v 5))))) (.v 6))))))))) (.wr (.mul (.v 4) (.wr (.sub (.wr (.mul (.wr (.sub (.wr (.mul (.wr (.sub (.wr (.mul (.wr (.sub (.wr (.mul (.k (1)) (.v 5))) (.wr (.mul (.k (0)) (.v 6))))) (.v 5))) (.wr (.mul (.wr (.add (.wr (.mul (.k (1)) (.v 6))) (.wr (.mul (.k (0)) (.v 5))))) (.v 6))))) (.v 5))) (.wr (.mul (.wr (.add (.wr (.mul (.wr (.sub (.wr (.mul (.k (1)) (.v 5))) (.wr (.mul (.k (0)) (.v 6))))) (.v 6))) (.wr (.mul (.wr (.add (.wr (.mul (.k (1)) (.v 6))) (.wr (.mul (.k (0)) (.v 5))))) (.v 5))))) (.v 6))))) (.v 5))) (.wr (.mul (.wr (.add (.wr (.mul (.wr (.sub (.wr (.mul (.wr (.sub (.wr (.mul (.k (1)) (.v 5))) (.wr (.mul (.k (0)) (.v 6))))) (.v 5))) (.wr (.mul (.wr (.add (.wr (.mul (.k (1)) (.v 6))) (.wr (.mul (.k (0)) (.v 5))))) (.v 6))))) (.v 6))) (.wr (.mul (.wr (.add (.wr (.mul (.wr (.sub (.wr (.mul (.k (1)) (.v 5))) (.wr (.mul (.k (0)) (.v 6))))) (.v 6))) (.wr (.mul (.wr (.add (.wr (.mul (.k (1)) (.v 6))) (.wr (.mul (.k (0)) (.v 5))))) (.v 5))))) (.v 5))))) (.v 6))))))))) (.add (.add (.add (.add (.add (.k (0)) (.mul (.v 0) (.k (1)))) (.mul (.v 1) (.sub (.mul (.k (1)) (.v 5)) (.mul (.k (0)) (.v 6))))) (.mul (.v 2) (.sub (.mul (.sub (.mul (.k (1)) (.v 5)) (.mul (.k (0)) (.v 6))) (.v 5)) (.mul (.add (.mul (.k (1)) (.v 6)) (.mul (.k (0)) (.v 5))) (.v 6))))) (.mul (.v 3) (.sub (.mul (.sub (.mul (.sub (.mul (.k (1)) (.v 5)) (.mul (.k (0)) (.v 6))) (.v 5)) (.mul (.add (.mul (.k (1)) (.v 6)) (.mul (.k (0)) (.v 5))) (.v 6))) (.v 5)) (.mul (.add (.mul (.sub (.mul (.k (1)) (.v 5)) (.mul (.k (0)) (.v 6))) (.v 6)) (.mul (.add (.mul (.k (1)) (.v 6)) (.mul (.k (0)) (.v 5))) (.v 5))) (.v 6))))) (.mul (.v 4) (.sub (.mul (.sub (.mul (.sub (.mul (.sub (.mul (.k (1)) (.v 5)) (.mul (.k (0)) (.v 6))) (.v 5)) (.mul (.add (.mul (.k (1)) (.v 6)) (.mul (.k (0)) (.v 5))) (.v 6))) (.v 5)) (.mul (.add (.mul (.sub (.mul (.k (1)) (.v 5)) (.mul (.k (0)) (.v 6))) (.v 6)) (.mul (.add (.mul (.k (1)) (.v 6)) (.mul (.k (0)) (.v 5))) (.v 5))) (.v 6))) (.v 5)) (.mul (.add (.mul (.sub (.mul (.sub (.mul (.k (1)) (.v 5)) (.mul (.k (0)) (.v 6))) (.v 5)) (.mul (.add (.mul (.k (1)) (.v 6)) (.mul (.k (0)) (.v 5))) (.v 6))) (.v 6)) (.mul (.add (.mul (.sub (.mul (.k (1)) (.v 5)) (.mul (.k (0)) (.v 6))) (.v 6)) (.mul (.add (.mul (.k (1)) (.v 6)) (.mul (.k (0)) (.v 5))) (.v 5))) (.v 5))) (.v 6))))) (by kernel_rfl) (by kernel_rfl)).symm.trans (show IE.ev [g 0 0, g 1 0, g 2 0, g 3 0, g 4 0, x, y] (.wr (.add (.wr (.add (.wr (.add (.wr (.add (.wr (.add (.k (0)) (.wr (.mul (.v 0) (.k (1)))))) (.wr (.mul (.v 1) (.wr (.sub (.wr (.mul (.k (1)) (.v 5))) (.wr (.mul (.k (0)) (.v 6))))))))) (.wr (.mul (.v 2) (.wr (.sub (.wr (.mul (.wr (.sub (.wr (.mul (.k (1)) (.v 5))) (.wr (.mul (.k (0)) (.v 6))))) (.v 5))) (.wr (.mul (.wr (.add (.wr (.mul (.k (1)) (.v 6))) (.wr (.mul (.k (0)) (.v 5))))) (.v 6))))))))) (.wr (.mul (.v 3) (.wr (.sub (.wr (.mul (.wr (.sub (.wr (.mul (.wr (.sub (.wr (.mul (.k (1)) (.v 5))) (.wr (.mul (.k (0)) (.v 6))))) (.v 5))) (.wr (.mul (.wr (.add (.wr (.mul (.k (1)) (.v 6))) (.wr (.mul (.k (0)) (.v 5))))) (.v 6))))) (.v 5))) (.wr (.mul (.wr (.add (.wr (.mul (.wr (.sub (.wr (.mul (.k (1)) (.v 5))) (.wr (.mul (.k (0)) (.v 6))))) (.v 6))) (.wr (.mul (.wr (.add (.wr (.mul (.k (1)) (.v 6))) (.wr (.mul (.k (0)) (.v 5))))) (.v 5))))) (.v 6))))))))) (.wr (.mul (.v 4) (.wr (.sub (.wr (.mul (.wr (.sub (.wr (.mul (.wr (.sub (.wr (.mul (.wr (.sub (.wr (.mul (.k (1)) (.v 5))) (.wr (.mul (.k (0)) (.v 6))))) (.v 5))) (.wr (.mul (.wr (.add (.wr (.mul (.k (1)) (.v 6))) (.wr (.mul (.k (0)) (.v 5))))) (.v 6))))) (.v 5))) (.wr (.mul (.wr (.add (.wr (.mul (.wr (.sub (.wr (.mul (.k (1)) (.v 5))) (.wr (.mul (.k (0)) (.v 6))))) (.v 6))) (.wr (.mul (.wr (.add (.wr (.mul (.k (1)) (.v 6))) (.wr (.mul (.k (0)) (.v 5))))) (.v 5))))) (.v 6))))) (.v 5))) (.wr (.mul (.wr (.add (.wr (.mul (.wr (.sub (.wr (.mul (.wr (.sub (.wr (.mul (.k (1)) (.v 5))) (.wr (.mul (.k (0)) (.v 6))))) (.v 5))) (.wr (.mul (.wr (.add (.wr (.mul (.k (1)) (.v 6))) (.wr (.mul (.k (0)) (.v 5))))) (.v 6))))) (.v 6))) (.wr (.mul (.wr (.add (.wr (.mul (.wr (.sub (.wr (.mul (.k (1)) (.v 5))) (.wr (.mul (.k (0)) (.v 6))))) (.v 6))) (.wr (.mul (.wr (.add (.wr (.mul (.k (1)) (.v 6))) (.wr (.mul (.k (0)) (.v 5))))) (.v 5))))) (.v 5))))) (.v 6))))))))) = rvR 5 g x y by kernel_rfl))))
theorem vaI5_p (ρ : List Int) : IE.ev ρ (.add (.mul (.add (.sub (.mul (.add (.sub (.mul (.add (.sub (.mul (.add (.sub (.mul (.k (0)) (.v 5)) (.mul (.k (0)) (.v 6))) (.v 4)) (.v 5)) (.mul (.add (.mul (.k (0)) (.v 6)) (.mul (.k (0)) (.v 5))) (.v 6))) (.v 3)) (.v 5)) (.mul (.add (.mul (.add (.sub (.mul (.k (0)) (.v 5)) (.mul (.k (0)) (.v 6))) (.v 4)) (.v 6)) (.mul (.add (.mul (.k (0)) (.v 6)) (.mul (.k (0)) (.v 5))) (.v 5))) (.v 6))) (.v 2)) (.v 5)) (.mul (.add (.mul (.add (.sub (.mul (.add (.sub (.mul (.k (0)) (.v 5)) (.mul (.k (0)) (.v 6))) (.v 4)) (.v 5)) (.mul (.add (.mul (.k (0)) (.v 6)) (.mul (.k (0)) (.v 5))) (.v 6))) (.v 3)) (.v 6)) (.mul (.add (.mul (.add (.sub (.mul (.k (0)) (.v 5)) (.mul (.k (0)) (.v 6))) (.v 4)) (.v 6)) (.mul (.add (.mul (.k (0)) (.v 6)) (.mul (.k (0)) (.v 5))) (.v 5))) (.v 5))) (.v 6))) (.v 1)) (.v 6)) (.mul (.add (.mul (.add (.sub (.mul (.add (.sub (.mul (.add (.sub (.mul (.k (0)) (.v 5)) (.mul (.k (0)) (.v 6))) (.v 4)) (.v 5)) (.mul (.add (.mul (.k (0)) (.v 6)) (.mul (.k (0)) (.v 5))) (.v 6))) (.v 3)) (.v 5)) (.mul (.add (.mul (.add (.sub (.mul (.k (0)) (.v 5)) (.mul (.k (0)) (.v 6))) (.v 4)) (.v 6)) (.mul (.add (.mul (.k (0)) (.v 6)) (.mul (.k (0)) (.v 5))) (.v 5))) (.v 6))) (.v 2)) (.v 6)) (.mul (.add (.mul (.add (.sub (.mul (.add (.sub (.mul (.k (0)) (.v 5)) (.mul (.k (0)) (.v 6))) (.v 4)) (.v 5)) (.mul (.add (.mul (.k (0)) (.v 6)) (.mul (.k (0)) (.v 5))) (.v 6))) (.v 3)) (.v 6)) (.mul (.add (.mul (.add (.sub (.mul (.k (0)) (.v 5)) (.mul (.k (0)) (.v 6))) (.v 4)) (.v 6)) (.mul (.add (.mul (.k (0)) (.v 6)) (.mul (.k (0)) (.v 5))) (.v 5))) (.v 5))) (.v 5))) (.v 5))) = IE.ev ρ (.add (.add (.add (.add (.add (.k (0)) (.mul (.v 0) (.k (0)))) (.mul (.v 1) (.add (.mul (.k (1)) (.v 6)) (.mul (.k (0)) (.v 5))))) (.mul (.v 2) (.add (.mul (.sub (.mul (.k (1)) (.v 5)) (.mul (.k (0)) (.v 6))) (.v 6)) (.mul (.add (.mul (.k (1)) (.v 6)) (.mul (.k (0)) (.v 5))) (.v 5))))) (.mul (.v 3) (.add (.mul (.sub (.mul (.sub (.mul (.k (1)) (.v 5)) (.mul (.k (0)) (.v 6))) (.v 5)) (.mul (.add (.mul (.k (1)) (.v 6)) (.mul (.k (0)) (.v 5))) (.v 6))) (.v 6)) (.mul (.add (.mul (.sub (.mul (.k (1)) (.v 5)) (.mul (.k (0)) (.v 6))) (.v 6)) (.mul (.add (.mul (.k (1)) (.v 6)) (.mul (.k (0)) (.v 5))) (.v 5))) (.v 5))))) (.mul (.v 4) (.add (.mul (.sub (.mul (.sub (.mul (.sub (.mul (.k (1)) (.v 5)) (.mul (.k (0)) (.v 6))) (.v 5)) (.mul (.add (.mul (.k (1)) (.v 6)) (.mul (.k (0)) (.v 5))) (.v 6))) (.v 5)) (.mul (.add (.mul (.sub (.mul (.k (1)) (.v 5)) (.mul (.k (0)) (.v 6))) (.v 6)) (.mul (.add (.mul (.k (1)) (.v 6)) (.mul (.k (0)) (.v 5))) (.v 5))) (.v 6))) (.v 6)) (.mul (.add (.mul (.sub (.mul (.sub (.mul (.k (1)) (.v 5)) (.mul (.k (0)) (.v 6))) (.v 5)) (.mul (.add (.mul (.k (1)) (.v 6)) (.mul (.k (0)) (.v 5))) (.v 6))) (.v 6)) (.mul (.add (.mul (.sub (.mul (.k (1)) (.v 5)) (.mul (.k (0)) (.v 6))) (.v 6)) (.mul (.add (.mul (.k (1)) (.v 6)) (.mul (.k (0)) (.v 5))) (.v 5))) (.v 5))) (.v 5))))) := by first | rfl | (simp only [IE.ev]; done) | (simp only [IE.ev]; generalize List.getD ρ 0 0 = v0; generalize List.getD ρ 1 0 = v1; generalize List.getD ρ 2 0 = v2; generalize List.getD ρ 3 0 = v3; generalize List.getD ρ 4 0 = v4; generalize List.getD ρ 5 0 = v5; generalize List.getD ρ 6 0 = v6; grind)
theorem vaI5 (hg : ∀ i, i < 5 → -100 ≤ g i 0 ∧ g i 0 ≤ 100) (hx : -8 ≤ x ∧ x ≤ 8) (hy : -8 ≤ y ∧ y ≤ 8) : vaI 5 g x y = rvI 5 g x y := by
  have hr : InR sF3 [g 0 0, g 1 0, g 2 0, g 3 0, g 4 0, x, y] := ⟨hg 0 (by omega), ⟨hg 1 (by omega), ⟨hg 2 (by omega), ⟨hg 3 (by omega), ⟨hg 4 (by omega), ⟨hx, ⟨hy, trivial⟩⟩⟩⟩⟩⟩⟩
  exact (show vaI 5 g x y = IE.ev [g 0 0, g 1 0, g 2 0, g 3 0, g 4 0, x, y] (.wr (.add (.wr (.mul (.wr (.add (.wr (.sub (.wr (.mul (.wr (.add (.wr (.sub (.wr (.mul (.wr (.add (.wr (.sub (.wr (.mul (.wr (.add (.wr (.sub (.wr (.mul (.k (0)) (.v 5))) (.wr (.mul (.k (0)) (.v 6))))) (.v 4))) (.v 5))) (.wr (.mul (.wr (.add (.wr (.mul (.k (0)) (.v 6))) (.wr (.mul (.k (0)) (.v 5))))) (.v 6))))) (.v 3))) (.v 5))) (.wr (.mul (.wr (.add (.wr (.mul (.wr (.add (.wr (.sub (.wr (.mul (.k (0)) (.v 5))) (.wr (.mul (.k (0)) (.v 6))))) (.v 4))) (.v 6))) (.wr (.mul (.wr (.add (.wr (.mul (.k (0)) (.v 6))) (.wr (.mul (.k (0)) (.v 5))))) (.v 5))))) (.v 6))))) (.v 2))) (.v 5))) (.wr (.mul (.wr (.add (.wr (.mul (.wr (.add (.wr (.sub (.wr (.mul (.wr (.add (.wr (.sub (.wr (.mul (.k (0)) (.v 5))) (.wr (.mul (.k (0)) (.v 6))))) (.v 4))) (.v 5))) (.wr (.mul (.wr (.add (.wr (.mul (.k (0)) (.v 6))) (.wr (.mul (.k (0)) (.v 5))))) (.v 6))))) (.v 3))) (.v 6))) (.wr (.mul (.wr (.add (.wr (.mul (.wr (.add (.wr (.sub (.wr (.mul (.k (0)) (.v 5))) (.wr (.mul (.k (0)) (.v 6))))) (.v 4))) (.v 6))) (.wr (.mul (.wr (.add (.wr (.mul (.k (0)) (.v 6))) (.wr (.mul (.k (0)) (.v 5))))) (.v 5))))) (.v 5))))) (.v 6))))) (.v 1))) (.v 6))) (.wr (.mul (.wr (.add (.wr (.mul (.wr (.add (.wr (.sub (.wr (.mul (.wr (.add (.wr (.sub (.wr (.mul (.wr (.add (.wr (.sub (.wr (.mul (.k (0)) (.v 5))) (.wr (.mul (.k (0)) (.v 6))))) (.v 4))) (.v 5))) (.wr (.mul (.wr (.add (.wr (.mul (.k (0)) (.v 6))) (.wr (.mul (.k (0)) (.v 5))))) (.v 6))))) (.v 3))) (.v 5))) (.wr (.mul (.wr (.add (.wr (.mul (.wr (.add (.wr (.sub (.wr (.mul (.k (0)) (.v 5))) (.wr (.mul (.k (0)) (.v 6))))) (.v 4))) (.v 6))) (.wr (.mul (.wr (.add (.wr (.mul (.k (0)) (.v 6))) (.wr (.mul (.k (0)) (.v 5))))) (.v 5))))) (.v 6))))) (.v 2))) (.v 6))) (.wr (.mul (.wr (.add (.wr (.mul (.wr (.add (.wr (.sub (.wr (.mul (.wr (.add (.wr (.sub (.wr (.mul (.k (0)) (.v 5))) (.wr (.mul (.k (0)) (.v 6))))) (.v 4))) (.v 5))) (.wr (.mul (.wr (.add (.wr (.mul (.k (0)) (.v 6))) (.wr (.mul (.k (0)) (.v 5))))) (.v 6))))) (.v 3))) (.v 6))) (.wr (.mul (.wr (.add (.wr (.mul (.wr (.add (.wr (.sub (.wr (.mul (.k (0)) (.v 5))) (.wr (.mul (.k (0)) (.v 6))))) (.v 4))) (.v 6))) (.wr (.mul (.wr (.add (.wr (.mul (.k (0)) (.v 6))) (.wr (.mul (.k (0)) (.v 5))))) (.v 5))))) (.v 5))))) (.v 5))))) (.v 5))))) by kernel_rfl).trans ((IE.str_to hr _ (.add (.mul (.add (.sub (.mul (.add (.sub (.mul (.add (.sub (.mul (.add (.sub (.mul (.k (0)) (.v 5)) (.mul (.k (0)) (.v 6))) (.v 4)) (.v 5)) (.mul (.add (.mul (.k (0)) (.v 6)) (.mul (.k (0)) (.v 5))) (.v 6))) (.v 3)) (.v 5)) (.mul (.add (.mul (.add (.sub (.mul (.k (0)) (.v 5)) (.mul (.k (0)) (.v 6))) (.v 4)) (.v 6)) (.mul (.add (.mul (.k (0)) (.v 6)) (.mul (.k (0)) (.v 5))) (.v 5))) (.v 6))) (.v 2)) (.v 5)) (.mul (.add (.mul (.add (.sub (.mul (.add (.sub (.mul (.k (0)) (.v 5)) (.mul (.k (0)) (.v 6))) (.v 4)) (.v 5)) (.mul (.add (.mul (.k (0)) (.v 6)) (.mul (.k (0)) (.v 5))) (.v 6))) (.v 3)) (.v 6)) (.mul (.add (.mul (.add (.sub (.mul (.k (0)) (.v 5)) (.mul (.k (0)) (.v 6))) (.v 4)) (.v 6)) (.mul (.add (.mul (.k (0)) (.v 6)) (.mul (.k (0)) (.v 5))) (.v 5))) (.v 5))) (.v 6))) (.v 1)) (.v 6)) (.mul (.add (.mul (.add (.sub (.mul (.add (.sub (.mul (.add (.sub (.mul (.k (0)) (.v 5)) (.mul (.k (0)) (.v 6))) (.v 4)) (.v 5)) (.mul (.add (.mul (.k (0)) (.v 6)) (.mul (.k (0)) (.v 5))) (.v 6))) (.v 3)) (.v 5)) (.mul (.add (.mul (.add (.sub (.mul (.k (0)) (.v 5)) (.mul (.k (0)) (.v 6))) (.v 4)) (.v 6)) (.mul (.add (.mul (.k (0)) (.v 6)) (.mul (.k (0)) (.v 5))) (.v 5))) (.v 6))) (.v 2)) (.v 6)) (.mul (.add (.mul (.add (.sub (.mul (.add (.sub (.mul (.k (0)) (.v 5)) (.mul (.k (0)) (.v 6))) (.v 4)) (.v 5)) (.mul (.add (.mul (.k (0)) (.v 6)) (.mul (.k (0)) (.v 5))) (.v 6))) (.v 3)) (.v 6)) (.mul (.add (.mul (.add (.sub (.mul (.k (0)) (.v 5)) (.mul (.k (0)) (.v 6))) (.v 4)) (.v 6)) (.mul (.add (.mul (.k (0)) (.v 6)) (.mul (.k (0)) (.v 5))) (.v 5))) (.v 5))) (.v 5))) (.v 5))) (by kernel_rfl) (by kernel_rfl)).trans ((vaI5_p _).trans ((IE.str_to hr (.wr (.add (.wr (.add (.wr (.add (.wr (.add (.wr (.add (.k (0)) (.wr (.mul (.v 0) (.k (0)))))) (.wr (.mul (.v 1) (.wr (.add (.wr (.mul (.k (1)) (.v 6))) (.wr (.mul (.k (0)) (.v 5))))))))) (.wr (.mul (.v 2) (.wr (.add (.wr (.mul (.wr (.sub (.wr (.mul (.k (1)) (.v 5))) (.wr (.mul (.k (0)) (.v 6))))) (.v 6))) (.wr (.mul (.wr (.add (.wr (.mul (.k (1)) (.v 6))) (.wr (.mul (.k (0)) (.v 5))))) (.v 5))))))))) (.wr (.mul (.v 3) (.wr (.add (.wr (.mul (.wr (.sub (.wr (.mul (.wr (.sub (.wr (.mul (.k (1)) (.v 5))) (.wr (.mul (.k (0)) (.v 6))))) (.v 5))) (.wr (.mul (.wr (.add (.wr (.mul (.k (1)) (.v 6))) (.wr (.mul (.k (0)) (.v 5))))) (.v 6))))) (.v 6))) (.wr (.mul (.wr (.add (.wr (.mul (.wr (.sub (.wr (.mul (.k (1)) (.v 5))) (.wr (.mul (.k (0)) (.v 6))))) (.v 6))) (.wr (.mul (.wr (.add (.wr (.mul (.k (1)) (.v 6))) (.wr (.mul (.k (0)) (.v 5))))) (.v 5))))) (.v 5))))))))) (.wr (.mul (.v 4) (.wr (.add (.wr (.mul (.wr (.sub (.wr (.mul (.wr (.sub (.wr (.mul (.wr (.sub (.wr (.mul (.k (1)) (.v 5))) (.wr (.mul (.k (0)) (.v 6))))) (.v 5))) (.wr (.mul (.wr (.add (.wr (.mul (.k (1)) (.v 6))) (.wr (.mul (.k (0)) (.v 5))))) (.v 6))))) (.v 5))) (.wr (.mul (.wr (.add (.wr (.mul (.wr (.sub (.wr (.mul (.k (1)) (.v 5))) (.wr (.mul (.k (0)) (.v 6))))) (.v 6))) (.wr (.mul (.wr (.add (.wr (.mul (.k (1)) (.v 6))) (.wr (.mul (.k (0)) (.v 5))))) (.v 5))))) (.v 6))))) (.v 6))) (.wr (.mul (.wr (.add (.wr (.mul (.wr (.sub (.wr (.mul (.wr (.sub (.wr (.mul (.k (1)) (.v 5))) (.wr (.mul (.k (0)) (.v 6))))) (.v 5))) (.wr (.mul (.wr (.add (.wr (.mul (.k (1)) (.v 6))) (.wr (.mul (.k (0)) (.v 5))))) (.v 6))))) (.v 6))) (.wr (.mul (.wr (.add (.wr (.mul (.wr (.sub (.wr (.mul (.k (1)) (.v 5))) (.wr (.mul (.k (0)) (.v 6))))) (.v 6))) (.wr (.mul (.wr (.add (.wr (.mul (.k (1)) (.v 6))) (.wr (.mul (.k (0)) (.v 5))))) (.v 5))))) (.v 5))))) (.v 5))))))))) (.add (.add (.add (.add (.add (.k (0)) (.mul (.v 0) (.k (0)))) (.mul (.v 1) (.add (.mul (.k (1)) (.v 6)) (.mul (.k (0)) (.v 5))))) (.mul (.v 2) (.add (.mul (.sub (.mul (.k (1)) (.v 5)) (.mul (.k (0)) (.v 6))) (.v 6)) (.mul (.add (.mul (.k (1)) (.v 6)) (.mul (.k (0)) (.v 5))) (.v 5))))) (.mul (.v 3) (.add (.mul (.sub (.mul (.sub (.mul (.k (1)) (.v 5)) (.mul (.k (0)) (.v 6))) (.v 5)) (.mul (.add (.mul (.k (1)) (.v 6)) (.mul (.k (0)) (.v 5))) (.v 6))) (.v 6)) (.mul (.add (.mul (.sub (.mul (.k (1)) (.v 5)) (.mul (.k (0)) (.v 6))) (.v 6)) (.mul (.add (.mul (.k (1)) (.v 6)) (.mul (.k (0)) (.v 5))) (.v 5))) (.v 5))))) (.mul (.v 4) (.add (.mul (.sub (.mul (.sub (.mul (.sub (.mul (.k (1)) (.v 5)) (.mul (.k (0)) (.v 6))) (.v 5)) (.mul (.add (.mul (.k (1)) (.v 6)) (.mul (.k (0)) (.v 5))) (.v 6))) (.v 5)) (.mul (.add (.mul (.sub (.mul (.k (1)) (.v 5)) (.mul (.k (0)) (.v 6))) (.v 6)) (.mul (.add (.mul (.k (1)) (.v 6)) (.mul (.k (0)) (.v 5))) (.v 5))) (.v 6))) (.v 6)) (.mul (.add (.mul (.sub (.mul (.sub (.mul (.k (1)) (.v 5)) (.mul (.k (0)) (.v 6))) (.v 5)) (.mul (.add (.mul (.k (1)) (.v 6)) (.mul (.k (0)) (.v 5))) (.v 6))) (.v 6)) (.mul (.add (.mul (.sub (.mul (.k (1)) (.v 5)) (.mul (.k (0)) (.v 6))) (.v 6)) (.mul (.add (.mul (.k (1)) (.v 6)) (.mul (.k (0)) (.v 5))) (.v 5))) (.v 5))) (.v 5))))) (by kernel_rfl) (by kernel_rfl)).symm.trans (show IE.ev [g 0 0, g 1 0, g 2 0, g 3 0, g 4 0, x, y] (.wr (.add (.wr (.add (.wr (.add (.wr (.add (.wr (.add (.k (0)) (.wr (.mul (.v 0) (.k (0)))))) (.wr (.mul (.v 1) (.wr (.add (.wr (.mul (.k (1)) (.v 6))) (.wr (.mul (.k (0)) (.v 5))))))))) (.wr (.mul (.v 2) (.wr (.add (.wr (.mul (.wr (.sub (.wr (.mul (.k (1)) (.v 5))) (.wr (.mul (.k (0)) (.v 6))))) (.v 6))) (.wr (.mul (.wr (.add (.wr (.mul (.k (1)) (.v 6))) (.wr (.mul (.k (0)) (.v 5))))) (.v 5))))))))) (.wr (.mul (.v 3) (.wr (.add (.wr (.mul (.wr (.sub (.wr (.mul (.wr (.sub (.wr (.mul (.k (1)) (.v 5))) (.wr (.mul (.k (0)) (.v 6))))) (.v 5))) (.wr (.mul (.wr (.add (.wr (.mul (.k (1)) (.v 6))) (.wr (.mul (.k (0)) (.v 5))))) (.v 6))))) (.v 6))) (.wr (.mul (.wr (.add (.wr (.mul (.wr (.sub (.wr (.mul (.k (1)) (.v 5))) (.wr (.mul (.k (0)) (.v 6))))) (.v 6))) (.wr (.mul (.wr (.add (.wr (.mul (.k (1)) (.v 6))) (.wr (.mul (.k (0)) (.v 5))))) (.v 5))))) (.v 5))))))))) (.wr (.mul (.v 4) (.wr (.add (.wr (.mul (.wr (.sub (.wr (.mul (.wr (.sub (.wr (.mul (.wr (.sub (.wr (.mul (.k (1)) (.v 5))) (.wr (.mul (.k (0)) (.v 6))))) (.v 5))) (.wr (.mul (.wr (.add (.wr (.mul (.k (1)) (.v 6))) (.wr (.mul (.k (0)) (.v 5))))) (.v 6))))) (.v 5))) (.wr (.mul (.wr (.add (.wr (.mul (.wr (.sub (.wr (.mul (.k (1)) (.v 5))) (.wr (.mul (.k (0)) (.v 6))))) (.v 6))) (.wr (.mul (.wr (.add (.wr (.mul (.k (1)) (.v 6))) (.wr (.mul (.k (0)) (.v 5))))) (.v 5))))) (.v 6))))) (.v 6))) (.wr (.mul (.wr (.add (.wr (.mul (.wr (.sub (.wr (.mul (.wr (.sub (.wr (.mul (.k (1)) (.v 5))) (.wr (.mul (.k (0)) (.v 6))))) (.v 5))) (.wr (.mul (.wr (.add (.wr (.mul (.k (1)) (.v 6))) (.wr (.mul (.k (0)) (.v 5))))) (.v 6))))) (.v 6))) (.wr (.mul (.wr (.add (.wr (.mul (.wr (.sub (.wr (.mul (.k (1)) (.v 5))) (.wr (.mul (.k (0)) (.v 6))))) (.v 6))) (.wr (.mul (.wr (.add (.wr (.mul (.k (1)) (.v 6))) (.wr (.mul (.k (0)) (.v 5))))) (.v 5))))) (.v 5))))) (.v 5))))))))) = rvI 5 g x y by kernel_rfl))))
theorem va_eq {n : Nat} (hn : 0 < n ∧ n ≤ 5) (g : GI) (x y : Int) (hg : ∀ i, i < n → -100 ≤ g i 0 ∧ g i 0 ≤ 100) (hx : -8 ≤ x ∧ x ≤ 8) (hy : -8 ≤ y ∧ y ≤ 8) : vaR n g x y = rvR n g x y ∧ vaI n g x y = rvI n g x y := by
  match n, hn, hg with
  | 1, _, hg => exact ⟨vaR1 g x y hg hx hy, vaI1 g x y hg hx hy⟩
  | 2, _, hg => exact ⟨vaR2 g x y hg hx hy, vaI2 g x y hg hx hy⟩
  | 3, _, hg => exact ⟨vaR3 g x y hg hx hy, vaI3 g x y hg hx hy⟩
  | 4, _, hg => exact ⟨vaR4 g x y hg hx hy, vaI4 g x y hg hx hy⟩
  | 5, _, hg => exact ⟨vaR5 g x y hg hx hy, vaI5 g x y hg hx hy⟩
abbrev sF4 := wS 6 [rowI 1 1 g e opn sz ro]
noncomputable def vaF1 : Option OutS := evFS Tryz.prog noXS 1000 74 #[.slice (some ⟨6, 0, none⟩) 1 c, .agg #[.int .i64 x, .int .i64 y]] (sF4 g e opn sz ro) ⟨[1, .row 0 0, .row 0 0, 0, 0], True⟩
abbrev sF5 := wS 6 [rowI 1 2 g e opn sz ro]
noncomputable def vaF2 : Option OutS := evFS Tryz.prog noXS 1000 74 #[.slice (some ⟨6, 0, none⟩) 2 c, .agg #[.int .i64 x, .int .i64 y]] (sF5 g e opn sz ro) ⟨[1, .row 1 0, .row 1 0, 0, 1, .row 0 0, .row 0 0, 0, 0], True⟩
abbrev sF6 := wS 6 [rowI 1 3 g e opn sz ro]
noncomputable def vaF3 : Option OutS := evFS Tryz.prog noXS 1000 74 #[.slice (some ⟨6, 0, none⟩) 3 c, .agg #[.int .i64 x, .int .i64 y]] (sF6 g e opn sz ro) ⟨[1, .row 2 0, .row 2 0, 0, 1, .row 1 0, .row 1 0, 0, 1, .row 0 0, .row 0 0, 0, 0], True⟩
abbrev sF7 := wS 6 [rowI 1 4 g e opn sz ro]
noncomputable def vaF4 : Option OutS := evFS Tryz.prog noXS 1000 74 #[.slice (some ⟨6, 0, none⟩) 4 c, .agg #[.int .i64 x, .int .i64 y]] (sF7 g e opn sz ro) ⟨[1, .row 3 0, .row 3 0, 0, 1, .row 2 0, .row 2 0, 0, 1, .row 1 0, .row 1 0, 0, 1, .row 0 0, .row 0 0, 0, 0], True⟩
abbrev sF8 := wS 6 [rowI 1 5 g e opn sz ro]
noncomputable def vaF5 : Option OutS := evFS Tryz.prog noXS 1000 74 #[.slice (some ⟨6, 0, none⟩) 5 c, .agg #[.int .i64 x, .int .i64 y]] (sF8 g e opn sz ro) ⟨[1, .row 4 0, .row 4 0, 0, 1, .row 3 0, .row 3 0, 0, 1, .row 2 0, .row 2 0, 0, 1, .row 1 0, .row 1 0, 0, 1, .row 0 0, .row 0 0, 0, 0], True⟩
noncomputable def rvF1 : Option OutS := evFS Tryz.prog noXS 1000 21 #[.slice (some ⟨6, 0, none⟩) 1 c, .agg #[.int .i64 x, .int .i64 y]] (sF4 g e opn sz ro) ⟨[1, .row 0 0, .row 0 0, .row 0 0, .row 0 0, 0], True⟩
noncomputable def rvF2 : Option OutS := evFS Tryz.prog noXS 1000 21 #[.slice (some ⟨6, 0, none⟩) 2 c, .agg #[.int .i64 x, .int .i64 y]] (sF5 g e opn sz ro) ⟨[1, .row 0 0, .row 0 0, .row 0 0, .row 0 0, 1, .row 1 0, .row 1 0, .row 1 0, .row 1 0, 0], True⟩
noncomputable def rvF3 : Option OutS := evFS Tryz.prog noXS 1000 21 #[.slice (some ⟨6, 0, none⟩) 3 c, .agg #[.int .i64 x, .int .i64 y]] (sF6 g e opn sz ro) ⟨[1, .row 0 0, .row 0 0, .row 0 0, .row 0 0, 1, .row 1 0, .row 1 0, .row 1 0, .row 1 0, 1, .row 2 0, .row 2 0, .row 2 0, .row 2 0, 0], True⟩
noncomputable def rvF4 : Option OutS := evFS Tryz.prog noXS 1000 21 #[.slice (some ⟨6, 0, none⟩) 4 c, .agg #[.int .i64 x, .int .i64 y]] (sF7 g e opn sz ro) ⟨[1, .row 0 0, .row 0 0, .row 0 0, .row 0 0, 1, .row 1 0, .row 1 0, .row 1 0, .row 1 0, 1, .row 2 0, .row 2 0, .row 2 0, .row 2 0, 1, .row 3 0, .row 3 0, .row 3 0, .row 3 0, 0], True⟩
noncomputable def rvF5 : Option OutS := evFS Tryz.prog noXS 1000 21 #[.slice (some ⟨6, 0, none⟩) 5 c, .agg #[.int .i64 x, .int .i64 y]] (sF8 g e opn sz ro) ⟨[1, .row 0 0, .row 0 0, .row 0 0, .row 0 0, 1, .row 1 0, .row 1 0, .row 1 0, .row 1 0, 1, .row 2 0, .row 2 0, .row 2 0, .row 2 0, 1, .row 3 0, .row 3 0, .row 3 0, .row 3 0, 1, .row 4 0, .row 4 0, .row 4 0, .row 4 0, 0], True⟩
abbrev sF9 := (((1 : Nat)) : Int) - (1 : Int)
abbrev sF10 := (0 = 0) ∧ ((0 : Nat) < (1 : Nat))
theorem vaF1eq : vaF1 c g e opn sz ro x y = some ((.agg #[.int .i64 (vaR 1 g x y), .int .i64 (vaI 1 g x y)]), wldOf (vaF1 c g e opn sz ro x y), 64, 0, ⟨[], (((((True ∧ ((decide ((IntKind.i64.wrap sF9) ≥ (0 : Int))) = true)) ∧ (((IntKind.i64.wrap sF9) = (Int.ofNat (0 : Nat))) ∧ ((0 : Nat) < (1 : Nat)))) ∧ sF10) ∧ (false = false)) ∧ ((decide ((IntKind.i64.wrap ((IntKind.i64.wrap sF9) - (1 : Int))) ≥ (0 : Int))) = false))⟩) := by kernel_rfl
theorem vaF1_s : SndF Tryz.prog 74 #[.slice (some ⟨6, 0, none⟩) 1 c, .agg #[.int .i64 x, .int .i64 y]] (sF4 g e opn sz ro) (.agg #[.int .i64 (vaR 1 g x y), .int .i64 (vaI 1 g x y)]) (sF4 g e opn sz ro) 64 0 := by
  refine (SndF.tidy0 (l := [rowI 1 1 g e opn sz ro]) ((evFS_ok smx noXS_ok 1000 _ _ _ _ _ _ _ _ _ (show evFS _ _ _ _ _ _ _ = _ from vaF1eq c g e opn sz ro x y)).2 ?_) sng rowI_keep1 (by exact (by decide : ∀ b, b < 7 → Nat.testBit 0 b = false)) (by kernel_rfl) rfl).mask (by exact (by decide : ∀ b, b < 7 → Nat.testBit 64 b = true → Nat.testBit 64 b = true)) (fun b _ => rfl)
  exact kq
abbrev sF11 := (((2 : Nat)) : Int) - (1 : Int)
abbrev sF12 := (1 = 1) ∧ ((1 : Nat) < (2 : Nat))
abbrev sF13 := IntKind.i64.wrap ((IntKind.i64.wrap sF11) - (1 : Int))
abbrev sF14 := (0 = 0) ∧ ((0 : Nat) < (2 : Nat))
theorem vaF2eq : vaF2 c g e opn sz ro x y = some ((.agg #[.int .i64 (vaR 2 g x y), .int .i64 (vaI 2 g x y)]), wldOf (vaF2 c g e opn sz ro x y), 64, 0, ⟨[], (((((((((True ∧ ((decide ((IntKind.i64.wrap sF11) ≥ (0 : Int))) = true)) ∧ (((IntKind.i64.wrap sF11) = (Int.ofNat (1 : Nat))) ∧ ((1 : Nat) < (2 : Nat)))) ∧ sF12) ∧ (false = false)) ∧ ((decide (sF13 ≥ (0 : Int))) = true)) ∧ ((sF13 = (Int.ofNat (0 : Nat))) ∧ ((0 : Nat) < (2 : Nat)))) ∧ sF14) ∧ (false = false)) ∧ ((decide ((IntKind.i64.wrap (sF13 - (1 : Int))) ≥ (0 : Int))) = false))⟩) := by kernel_rfl
theorem vaF2_s : SndF Tryz.prog 74 #[.slice (some ⟨6, 0, none⟩) 2 c, .agg #[.int .i64 x, .int .i64 y]] (sF5 g e opn sz ro) (.agg #[.int .i64 (vaR 2 g x y), .int .i64 (vaI 2 g x y)]) (sF5 g e opn sz ro) 64 0 := by
  refine (SndF.tidy0 (l := [rowI 1 2 g e opn sz ro]) ((evFS_ok smx noXS_ok 1000 _ _ _ _ _ _ _ _ _ (show evFS _ _ _ _ _ _ _ = _ from vaF2eq c g e opn sz ro x y)).2 ?_) sng rowI_keep1 (by exact (by decide : ∀ b, b < 7 → Nat.testBit 0 b = false)) (by kernel_rfl) rfl).mask (by exact (by decide : ∀ b, b < 7 → Nat.testBit 64 b = true → Nat.testBit 64 b = true)) (fun b _ => rfl)
  exact kq
abbrev sF15 := (((3 : Nat)) : Int) - (1 : Int)
abbrev sF16 := (2 = 2) ∧ ((2 : Nat) < (3 : Nat))
abbrev sF17 := IntKind.i64.wrap ((IntKind.i64.wrap sF15) - (1 : Int))
abbrev sF18 := (1 = 1) ∧ ((1 : Nat) < (3 : Nat))
abbrev sF19 := IntKind.i64.wrap (sF17 - (1 : Int))
abbrev sF20 := (0 = 0) ∧ ((0 : Nat) < (3 : Nat))
theorem vaF3eq : vaF3 c g e opn sz ro x y = some ((.agg #[.int .i64 (vaR 3 g x y), .int .i64 (vaI 3 g x y)]), wldOf (vaF3 c g e opn sz ro x y), 64, 0, ⟨[], (((((((((((((True ∧ ((decide ((IntKind.i64.wrap sF15) ≥ (0 : Int))) = true)) ∧ (((IntKind.i64.wrap sF15) = (Int.ofNat (2 : Nat))) ∧ ((2 : Nat) < (3 : Nat)))) ∧ sF16) ∧ (false = false)) ∧ ((decide (sF17 ≥ (0 : Int))) = true)) ∧ ((sF17 = (Int.ofNat (1 : Nat))) ∧ ((1 : Nat) < (3 : Nat)))) ∧ sF18) ∧ (false = false)) ∧ ((decide (sF19 ≥ (0 : Int))) = true)) ∧ ((sF19 = (Int.ofNat (0 : Nat))) ∧ ((0 : Nat) < (3 : Nat)))) ∧ sF20) ∧ (false = false)) ∧ ((decide ((IntKind.i64.wrap (sF19 - (1 : Int))) ≥ (0 : Int))) = false))⟩) := by kernel_rfl
theorem vaF3_s : SndF Tryz.prog 74 #[.slice (some ⟨6, 0, none⟩) 3 c, .agg #[.int .i64 x, .int .i64 y]] (sF6 g e opn sz ro) (.agg #[.int .i64 (vaR 3 g x y), .int .i64 (vaI 3 g x y)]) (sF6 g e opn sz ro) 64 0 := by
  refine (SndF.tidy0 (l := [rowI 1 3 g e opn sz ro]) ((evFS_ok smx noXS_ok 1000 _ _ _ _ _ _ _ _ _ (show evFS _ _ _ _ _ _ _ = _ from vaF3eq c g e opn sz ro x y)).2 ?_) sng rowI_keep1 (by exact (by decide : ∀ b, b < 7 → Nat.testBit 0 b = false)) (by kernel_rfl) rfl).mask (by exact (by decide : ∀ b, b < 7 → Nat.testBit 64 b = true → Nat.testBit 64 b = true)) (fun b _ => rfl)
  exact kq
abbrev sF21 := (((4 : Nat)) : Int) - (1 : Int)
abbrev sF22 := (3 = 3) ∧ ((3 : Nat) < (4 : Nat))
abbrev sF23 := IntKind.i64.wrap ((IntKind.i64.wrap sF21) - (1 : Int))
abbrev sF24 := (2 = 2) ∧ ((2 : Nat) < (4 : Nat))
abbrev sF25 := IntKind.i64.wrap (sF23 - (1 : Int))
abbrev sF26 := (1 = 1) ∧ ((1 : Nat) < (4 : Nat))
abbrev sF27 := IntKind.i64.wrap (sF25 - (1 : Int))
abbrev sF28 := (0 = 0) ∧ ((0 : Nat) < (4 : Nat))
theorem vaF4eq : vaF4 c g e opn sz ro x y = some ((.agg #[.int .i64 (vaR 4 g x y), .int .i64 (vaI 4 g x y)]), wldOf (vaF4 c g e opn sz ro x y), 64, 0, ⟨[], (((((((((((((((((True ∧ ((decide ((IntKind.i64.wrap sF21) ≥ (0 : Int))) = true)) ∧ (((IntKind.i64.wrap sF21) = (Int.ofNat (3 : Nat))) ∧ ((3 : Nat) < (4 : Nat)))) ∧ sF22) ∧ (false = false)) ∧ ((decide (sF23 ≥ (0 : Int))) = true)) ∧ ((sF23 = (Int.ofNat (2 : Nat))) ∧ ((2 : Nat) < (4 : Nat)))) ∧ sF24) ∧ (false = false)) ∧ ((decide (sF25 ≥ (0 : Int))) = true)) ∧ ((sF25 = (Int.ofNat (1 : Nat))) ∧ ((1 : Nat) < (4 : Nat)))) ∧ sF26) ∧ (false = false)) ∧ ((decide (sF27 ≥ (0 : Int))) = true)) ∧ ((sF27 = (Int.ofNat (0 : Nat))) ∧ ((0 : Nat) < (4 : Nat)))) ∧ sF28) ∧ (false = false)) ∧ ((decide ((IntKind.i64.wrap (sF27 - (1 : Int))) ≥ (0 : Int))) = false))⟩) := by kernel_rfl
theorem vaF4_s : SndF Tryz.prog 74 #[.slice (some ⟨6, 0, none⟩) 4 c, .agg #[.int .i64 x, .int .i64 y]] (sF7 g e opn sz ro) (.agg #[.int .i64 (vaR 4 g x y), .int .i64 (vaI 4 g x y)]) (sF7 g e opn sz ro) 64 0 := by
  refine (SndF.tidy0 (l := [rowI 1 4 g e opn sz ro]) ((evFS_ok smx noXS_ok 1000 _ _ _ _ _ _ _ _ _ (show evFS _ _ _ _ _ _ _ = _ from vaF4eq c g e opn sz ro x y)).2 ?_) sng rowI_keep1 (by exact (by decide : ∀ b, b < 7 → Nat.testBit 0 b = false)) (by kernel_rfl) rfl).mask (by exact (by decide : ∀ b, b < 7 → Nat.testBit 64 b = true → Nat.testBit 64 b = true)) (fun b _ => rfl)
  exact kq
abbrev sF29 := (((5 : Nat)) : Int) - (1 : Int)
abbrev sF30 := (4 = 4) ∧ ((4 : Nat) < (5 : Nat))
abbrev sF31 := IntKind.i64.wrap ((IntKind.i64.wrap sF29) - (1 : Int))
abbrev sF32 := (3 = 3) ∧ ((3 : Nat) < (5 : Nat))
abbrev sF33 := IntKind.i64.wrap (sF31 - (1 : Int))
abbrev sF34 := (2 = 2) ∧ ((2 : Nat) < (5 : Nat))
abbrev sF35 := IntKind.i64.wrap (sF33 - (1 : Int))
abbrev sF36 := (1 = 1) ∧ ((1 : Nat) < (5 : Nat))
abbrev sF37 := IntKind.i64.wrap (sF35 - (1 : Int))
abbrev sF38 := (0 = 0) ∧ ((0 : Nat) < (5 : Nat))
theorem vaF5eq : vaF5 c g e opn sz ro x y = some ((.agg #[.int .i64 (vaR 5 g x y), .int .i64 (vaI 5 g x y)]), wldOf (vaF5 c g e opn sz ro x y), 64, 0, ⟨[], (((((((((((((((((((((True ∧ ((decide ((IntKind.i64.wrap sF29) ≥ (0 : Int))) = true)) ∧ (((IntKind.i64.wrap sF29) = (Int.ofNat (4 : Nat))) ∧ ((4 : Nat) < (5 : Nat)))) ∧ sF30) ∧ (false = false)) ∧ ((decide (sF31 ≥ (0 : Int))) = true)) ∧ ((sF31 = (Int.ofNat (3 : Nat))) ∧ ((3 : Nat) < (5 : Nat)))) ∧ sF32) ∧ (false = false)) ∧ ((decide (sF33 ≥ (0 : Int))) = true)) ∧ ((sF33 = (Int.ofNat (2 : Nat))) ∧ ((2 : Nat) < (5 : Nat)))) ∧ sF34) ∧ (false = false)) ∧ ((decide (sF35 ≥ (0 : Int))) = true)) ∧ ((sF35 = (Int.ofNat (1 : Nat))) ∧ ((1 : Nat) < (5 : Nat)))) ∧ sF36) ∧ (false = false)) ∧ ((decide (sF37 ≥ (0 : Int))) = true)) ∧ ((sF37 = (Int.ofNat (0 : Nat))) ∧ ((0 : Nat) < (5 : Nat)))) ∧ sF38) ∧ (false = false)) ∧ ((decide ((IntKind.i64.wrap (sF37 - (1 : Int))) ≥ (0 : Int))) = false))⟩) := by kernel_rfl
theorem vaF5_s : SndF Tryz.prog 74 #[.slice (some ⟨6, 0, none⟩) 5 c, .agg #[.int .i64 x, .int .i64 y]] (sF8 g e opn sz ro) (.agg #[.int .i64 (vaR 5 g x y), .int .i64 (vaI 5 g x y)]) (sF8 g e opn sz ro) 64 0 := by
  refine (SndF.tidy0 (l := [rowI 1 5 g e opn sz ro]) ((evFS_ok smx noXS_ok 1000 _ _ _ _ _ _ _ _ _ (show evFS _ _ _ _ _ _ _ = _ from vaF5eq c g e opn sz ro x y)).2 ?_) sng rowI_keep1 (by exact (by decide : ∀ b, b < 7 → Nat.testBit 0 b = false)) (by kernel_rfl) rfl).mask (by exact (by decide : ∀ b, b < 7 → Nat.testBit 64 b = true → Nat.testBit 64 b = true)) (fun b _ => rfl)
  exact kq
theorem va_sndF (n : Nat) (c : Nat) (g : GI) (e : TypeId) (opn : Bool) (sz : Nat) (ro : Bool) (x : Int) (y : Int) (hn : 0 < n ∧ n ≤ 5) : SndF Tryz.prog 74 #[.slice (some ⟨6, 0, none⟩) n c, .agg #[.int .i64 x, .int .i64 y]] (wS 6 [rowI 1 n g e opn sz ro]) (.agg #[.int .i64 (vaR n g x y), .int .i64 (vaI n g x y)]) (wS 6 [rowI 1 n g e opn sz ro]) 64 0 := by
  match n, hn with
  | 1, _ => exact vaF1_s c g e opn sz ro x y
  | 2, _ => exact vaF2_s c g e opn sz ro x y
  | 3, _ => exact vaF3_s c g e opn sz ro x y
  | 4, _ => exact vaF4_s c g e opn sz ro x y
  | 5, _ => exact vaF5_s c g e opn sz ro x y
def kVa : CallS := fun f xs s q => match decide (f = 74) with
  | true => match xs.toList with
    | [.slice (some ⟨b, 0, none⟩) n c, .agg ⟨[.int .i64 x, .int .i64 y]⟩] => match Nat.ble 6 b, rowK 1 .i64 s b n with
      | true, some (g, _, _, _, _, p) => some (.agg #[.int .i64 (vaR n g x y), .int .i64 (vaI n g x y)], s, 2 ^ b, 0, ⟨q.rest, q.ob ∧ (p ∧ (0 < n ∧ n ≤ 5))⟩)
      | _, _ => none
    | _ => none
  | false => none
theorem kVa_ok : FOkS Tryz.prog kVa := fun f xs s q u s1 R W q1 he => by
  unfold kVa at he
  split at he
  · rename_i hf
    have hf := of_decide_eq_true hf
    subst hf
    split at he
    · rename_i b n c x y hx0
      split at he
      · rename_i g e opn sz ro p hb hr
        have hb := Nat.le_of_ble_eq_true hb
        have hxs : xs = #[.slice (some ⟨b, 0, none⟩) n c, .agg #[.int .i64 x, .int .i64 y]] := by apply Array.ext'; exact hx0
        subst hxs
        cases he
        refine ⟨fun hq => hq.1, fun hq => ?_⟩
        obtain ⟨hp, hx⟩ := hq.2
        obtain ⟨l1, w1⟩ := rowK_wo hr hp
        exact SndF.row (N := 6) sng (va_sndF n c g e opn sz ro x y hx) rfl hb l1 w1 (fun f _ hf => wvs_two (slice_wv hf) (ground_wv (n := 8) rfl))
      · cases he
    · cases he
  · cases he
abbrev sF39 := (0 : Int) = (Int.ofNat (0 : Nat))
abbrev sF40 := sF39 ∧ ((0 : Nat) < (1 : Nat))
theorem rvF1eq : rvF1 c g e opn sz ro x y = some ((.agg #[.int .i64 (rvR 1 g x y), .int .i64 (rvI 1 g x y)]), wldOf (rvF1 c g e opn sz ro x y), 64, 0, ⟨[], ((((((True ∧ ((decide ((0 : Int) < (((1 : Nat)) : Int))) = true)) ∧ sF40) ∧ sF10) ∧ sF40) ∧ sF10) ∧ ((decide ((IntKind.i64.wrap ((0 : Int) + (1 : Int))) < (((1 : Nat)) : Int))) = false))⟩) := by kernel_rfl
theorem rvF1_s : SndF Tryz.prog 21 #[.slice (some ⟨6, 0, none⟩) 1 c, .agg #[.int .i64 x, .int .i64 y]] (sF4 g e opn sz ro) (.agg #[.int .i64 (rvR 1 g x y), .int .i64 (rvI 1 g x y)]) (sF4 g e opn sz ro) 64 0 := by
  refine (SndF.tidy0 (l := [rowI 1 1 g e opn sz ro]) ((evFS_ok smx noXS_ok 1000 _ _ _ _ _ _ _ _ _ (show evFS _ _ _ _ _ _ _ = _ from rvF1eq c g e opn sz ro x y)).2 ?_) sng rowI_keep1 (by exact (by decide : ∀ b, b < 7 → Nat.testBit 0 b = false)) (by kernel_rfl) rfl).mask (by exact (by decide : ∀ b, b < 7 → Nat.testBit 64 b = true → Nat.testBit 64 b = true)) (fun b _ => rfl)
  exact kq
abbrev sF41 := sF39 ∧ ((0 : Nat) < (2 : Nat))
abbrev sF42 := (IntKind.i64.wrap ((0 : Int) + (1 : Int))) = (Int.ofNat (1 : Nat))
abbrev sF43 := sF42 ∧ ((1 : Nat) < (2 : Nat))
abbrev sF44 := IntKind.i64.wrap ((IntKind.i64.wrap ((0 : Int) + (1 : Int))) + (1 : Int))
theorem rvF2eq : rvF2 c g e opn sz ro x y = some ((.agg #[.int .i64 (rvR 2 g x y), .int .i64 (rvI 2 g x y)]), wldOf (rvF2 c g e opn sz ro x y), 64, 0, ⟨[], (((((((((((True ∧ ((decide ((0 : Int) < (((2 : Nat)) : Int))) = true)) ∧ sF41) ∧ sF14) ∧ sF41) ∧ sF14) ∧ ((decide ((IntKind.i64.wrap ((0 : Int) + (1 : Int))) < (((2 : Nat)) : Int))) = true)) ∧ sF43) ∧ sF12) ∧ sF43) ∧ sF12) ∧ ((decide (sF44 < (((2 : Nat)) : Int))) = false))⟩) := by kernel_rfl
theorem rvF2_s : SndF Tryz.prog 21 #[.slice (some ⟨6, 0, none⟩) 2 c, .agg #[.int .i64 x, .int .i64 y]] (sF5 g e opn sz ro) (.agg #[.int .i64 (rvR 2 g x y), .int .i64 (rvI 2 g x y)]) (sF5 g e opn sz ro) 64 0 := by
  refine (SndF.tidy0 (l := [rowI 1 2 g e opn sz ro]) ((evFS_ok smx noXS_ok 1000 _ _ _ _ _ _ _ _ _ (show evFS _ _ _ _ _ _ _ = _ from rvF2eq c g e opn sz ro x y)).2 ?_) sng rowI_keep1 (by exact (by decide : ∀ b, b < 7 → Nat.testBit 0 b = false)) (by kernel_rfl) rfl).mask (by exact (by decide : ∀ b, b < 7 → Nat.testBit 64 b = true → Nat.testBit 64 b = true)) (fun b _ => rfl)
  exact kq
abbrev sF45 := sF39 ∧ ((0 : Nat) < (3 : Nat))
abbrev sF46 := sF42 ∧ ((1 : Nat) < (3 : Nat))
abbrev sF47 := sF44 = (Int.ofNat (2 : Nat))
abbrev sF48 := sF47 ∧ ((2 : Nat) < (3 : Nat))
abbrev sF49 := IntKind.i64.wrap (sF44 + (1 : Int))
theorem rvF3eq : rvF3 c g e opn sz ro x y = some ((.agg #[.int .i64 (rvR 3 g x y), .int .i64 (rvI 3 g x y)]), wldOf (rvF3 c g e opn sz ro x y), 64, 0, ⟨[], ((((((((((((((((True ∧ ((decide ((0 : Int) < (((3 : Nat)) : Int))) = true)) ∧ sF45) ∧ sF20) ∧ sF45) ∧ sF20) ∧ ((decide ((IntKind.i64.wrap ((0 : Int) + (1 : Int))) < (((3 : Nat)) : Int))) = true)) ∧ sF46) ∧ sF18) ∧ sF46) ∧ sF18) ∧ ((decide (sF44 < (((3 : Nat)) : Int))) = true)) ∧ sF48) ∧ sF16) ∧ sF48) ∧ sF16) ∧ ((decide (sF49 < (((3 : Nat)) : Int))) = false))⟩) := by kernel_rfl
theorem rvF3_s : SndF Tryz.prog 21 #[.slice (some ⟨6, 0, none⟩) 3 c, .agg #[.int .i64 x, .int .i64 y]] (sF6 g e opn sz ro) (.agg #[.int .i64 (rvR 3 g x y), .int .i64 (rvI 3 g x y)]) (sF6 g e opn sz ro) 64 0 := by
  refine (SndF.tidy0 (l := [rowI 1 3 g e opn sz ro]) ((evFS_ok smx noXS_ok 1000 _ _ _ _ _ _ _ _ _ (show evFS _ _ _ _ _ _ _ = _ from rvF3eq c g e opn sz ro x y)).2 ?_) sng rowI_keep1 (by exact (by decide : ∀ b, b < 7 → Nat.testBit 0 b = false)) (by kernel_rfl) rfl).mask (by exact (by decide : ∀ b, b < 7 → Nat.testBit 64 b = true → Nat.testBit 64 b = true)) (fun b _ => rfl)
  exact kq
abbrev sF50 := sF39 ∧ ((0 : Nat) < (4 : Nat))
abbrev sF51 := sF42 ∧ ((1 : Nat) < (4 : Nat))
abbrev sF52 := sF47 ∧ ((2 : Nat) < (4 : Nat))
abbrev sF53 := sF49 = (Int.ofNat (3 : Nat))
abbrev sF54 := sF53 ∧ ((3 : Nat) < (4 : Nat))
abbrev sF55 := IntKind.i64.wrap (sF49 + (1 : Int))
theorem rvF4eq : rvF4 c g e opn sz ro x y = some ((.agg #[.int .i64 (rvR 4 g x y), .int .i64 (rvI 4 g x y)]), wldOf (rvF4 c g e opn sz ro x y), 64, 0, ⟨[], (((((((((((((((((((((True ∧ ((decide ((0 : Int) < (((4 : Nat)) : Int))) = true)) ∧ sF50) ∧ sF28) ∧ sF50) ∧ sF28) ∧ ((decide ((IntKind.i64.wrap ((0 : Int) + (1 : Int))) < (((4 : Nat)) : Int))) = true)) ∧ sF51) ∧ sF26) ∧ sF51) ∧ sF26) ∧ ((decide (sF44 < (((4 : Nat)) : Int))) = true)) ∧ sF52) ∧ sF24) ∧ sF52) ∧ sF24) ∧ ((decide (sF49 < (((4 : Nat)) : Int))) = true)) ∧ sF54) ∧ sF22) ∧ sF54) ∧ sF22) ∧ ((decide (sF55 < (((4 : Nat)) : Int))) = false))⟩) := by kernel_rfl
theorem rvF4_s : SndF Tryz.prog 21 #[.slice (some ⟨6, 0, none⟩) 4 c, .agg #[.int .i64 x, .int .i64 y]] (sF7 g e opn sz ro) (.agg #[.int .i64 (rvR 4 g x y), .int .i64 (rvI 4 g x y)]) (sF7 g e opn sz ro) 64 0 := by
  refine (SndF.tidy0 (l := [rowI 1 4 g e opn sz ro]) ((evFS_ok smx noXS_ok 1000 _ _ _ _ _ _ _ _ _ (show evFS _ _ _ _ _ _ _ = _ from rvF4eq c g e opn sz ro x y)).2 ?_) sng rowI_keep1 (by exact (by decide : ∀ b, b < 7 → Nat.testBit 0 b = false)) (by kernel_rfl) rfl).mask (by exact (by decide : ∀ b, b < 7 → Nat.testBit 64 b = true → Nat.testBit 64 b = true)) (fun b _ => rfl)
  exact kq
abbrev sF56 := sF39 ∧ ((0 : Nat) < (5 : Nat))
abbrev sF57 := sF42 ∧ ((1 : Nat) < (5 : Nat))
abbrev sF58 := sF47 ∧ ((2 : Nat) < (5 : Nat))
abbrev sF59 := sF53 ∧ ((3 : Nat) < (5 : Nat))
abbrev sF60 := (sF55 = (Int.ofNat (4 : Nat))) ∧ ((4 : Nat) < (5 : Nat))
theorem rvF5eq : rvF5 c g e opn sz ro x y = some ((.agg #[.int .i64 (rvR 5 g x y), .int .i64 (rvI 5 g x y)]), wldOf (rvF5 c g e opn sz ro x y), 64, 0, ⟨[], ((((((((((((((((((((((((((True ∧ ((decide ((0 : Int) < (((5 : Nat)) : Int))) = true)) ∧ sF56) ∧ sF38) ∧ sF56) ∧ sF38) ∧ ((decide ((IntKind.i64.wrap ((0 : Int) + (1 : Int))) < (((5 : Nat)) : Int))) = true)) ∧ sF57) ∧ sF36) ∧ sF57) ∧ sF36) ∧ ((decide (sF44 < (((5 : Nat)) : Int))) = true)) ∧ sF58) ∧ sF34) ∧ sF58) ∧ sF34) ∧ ((decide (sF49 < (((5 : Nat)) : Int))) = true)) ∧ sF59) ∧ sF32) ∧ sF59) ∧ sF32) ∧ ((decide (sF55 < (((5 : Nat)) : Int))) = true)) ∧ sF60) ∧ sF30) ∧ sF60) ∧ sF30) ∧ ((decide ((IntKind.i64.wrap (sF55 + (1 : Int))) < (((5 : Nat)) : Int))) = false))⟩) := by kernel_rfl
theorem rvF5_s : SndF Tryz.prog 21 #[.slice (some ⟨6, 0, none⟩) 5 c, .agg #[.int .i64 x, .int .i64 y]] (sF8 g e opn sz ro) (.agg #[.int .i64 (rvR 5 g x y), .int .i64 (rvI 5 g x y)]) (sF8 g e opn sz ro) 64 0 := by
  refine (SndF.tidy0 (l := [rowI 1 5 g e opn sz ro]) ((evFS_ok smx noXS_ok 1000 _ _ _ _ _ _ _ _ _ (show evFS _ _ _ _ _ _ _ = _ from rvF5eq c g e opn sz ro x y)).2 ?_) sng rowI_keep1 (by exact (by decide : ∀ b, b < 7 → Nat.testBit 0 b = false)) (by kernel_rfl) rfl).mask (by exact (by decide : ∀ b, b < 7 → Nat.testBit 64 b = true → Nat.testBit 64 b = true)) (fun b _ => rfl)
  exact kq
theorem rv_sndF (n : Nat) (c : Nat) (g : GI) (e : TypeId) (opn : Bool) (sz : Nat) (ro : Bool) (x : Int) (y : Int) (hn : 0 < n ∧ n ≤ 5) : SndF Tryz.prog 21 #[.slice (some ⟨6, 0, none⟩) n c, .agg #[.int .i64 x, .int .i64 y]] (wS 6 [rowI 1 n g e opn sz ro]) (.agg #[.int .i64 (rvR n g x y), .int .i64 (rvI n g x y)]) (wS 6 [rowI 1 n g e opn sz ro]) 64 0 := by
  match n, hn with
  | 1, _ => exact rvF1_s c g e opn sz ro x y
  | 2, _ => exact rvF2_s c g e opn sz ro x y
  | 3, _ => exact rvF3_s c g e opn sz ro x y
  | 4, _ => exact rvF4_s c g e opn sz ro x y
  | 5, _ => exact rvF5_s c g e opn sz ro x y
def kRv : CallS := fun f xs s q => match decide (f = 21) with
  | true => match xs.toList with
    | [.slice (some ⟨b, 0, none⟩) n c, .agg ⟨[.int .i64 x, .int .i64 y]⟩] => match Nat.ble 6 b, rowK 1 .i64 s b n with
      | true, some (g, _, _, _, _, p) => some (.agg #[.int .i64 (rvR n g x y), .int .i64 (rvI n g x y)], s, 2 ^ b, 0, ⟨q.rest, q.ob ∧ (p ∧ (0 < n ∧ n ≤ 5))⟩)
      | _, _ => none
    | _ => none
  | false => none
theorem kRv_ok : FOkS Tryz.prog kRv := fun f xs s q u s1 R W q1 he => by
  unfold kRv at he
  split at he
  · rename_i hf
    have hf := of_decide_eq_true hf
    subst hf
    split at he
    · rename_i b n c x y hx0
      split at he
      · rename_i g e opn sz ro p hb hr
        have hb := Nat.le_of_ble_eq_true hb
        have hxs : xs = #[.slice (some ⟨b, 0, none⟩) n c, .agg #[.int .i64 x, .int .i64 y]] := by apply Array.ext'; exact hx0
        subst hxs
        cases he
        refine ⟨fun hq => hq.1, fun hq => ?_⟩
        obtain ⟨hp, hx⟩ := hq.2
        obtain ⟨l1, w1⟩ := rowK_wo hr hp
        exact SndF.row (N := 6) sng (rv_sndF n c g e opn sz ro x y hx) rfl hb l1 w1 (fun f _ hf => wvs_two (slice_wv hf) (ground_wv (n := 8) rfl))
      · cases he
    · cases he
  · cases he
end
end Go.Proofs.YtbkpnhbcihcgaaaGreatDoor
end
section
set_option linter.all false
set_option maxRecDepth 1000000
open Go.RowKit
namespace Go.Proofs.YtbkpnhbcihcgaaaGreatDoor
open Mini

def ptE (re im : Int) : Int := if Pl.cr re (-8) 8 = 0 then Pl.cr im (-8) 8 else Pl.cr re (-8) 8

def c_point : Con := ⟨73, [.agg [.i64, .i64]], fun ns => match ns with | [re, im] => .int .i64 (ptE re im) | _ => .bool true, fun ns => match ns with | [re, im] => True | _ => True⟩
noncomputable def x_point : CallS := kAll []
noncomputable def point_e0 (re im : Int) : Option OutS := evFS Tryz.prog x_point 1000 73 #[.agg #[.int .i64 re, .int .i64 im]] (noTabs 6) ⟨[0], True⟩
noncomputable def point_e1 (re im : Int) : Option OutS := evFS Tryz.prog x_point 1000 73 #[.agg #[.int .i64 re, .int .i64 im]] (noTabs 6) ⟨[1], True⟩
end Go.Proofs.YtbkpnhbcihcgaaaGreatDoor
end
section
set_option linter.all false
set_option maxRecDepth 1000000
set_option maxHeartbeats 2000000
open Go.RowKit
namespace Go.Proofs.YtbkpnhbcihcgaaaGreatDoor
open Mini

def point_val (re im : Int) : Value := .int .i64 (ptE re im)
theorem point_X : FOkS Tryz.prog x_point := noXS_ok
theorem point_args (re im : Int) : (#[.agg #[.int .i64 re, .int .i64 im]] : Array Value).toList.all (ground 8) = true := by kernel_rfl
def point_c0 (re im : Int) : Bool := (Bool.not (Bool.and ((if ((8 : Int) < (if ((-8 : Int) > re) then (-8 : Int) else re)) then (8 : Int) else (if ((-8 : Int) > re) then (-8 : Int) else re)) == re) (Bool.and ((if ((8 : Int) < (if ((-8 : Int) > im) then (-8 : Int) else im)) then (8 : Int) else (if ((-8 : Int) > im) then (-8 : Int) else im)) == im) Bool.true)))
def point_w0 (re im : Int) : Value := .int .i64 (0 : Int)
def point_r0 (re im : Int) : Prop := (True ∧ (point_c0 re im = false))
theorem point_o0 (re im : Int) : obOf (point_e0 re im) = point_r0 re im := by kernel_rfl
theorem point_v0 (re im : Int) : resOf (point_e0 re im) = point_w0 re im := by kernel_rfl
theorem point_l0 (re im : Int) : cleanOf Tryz.prog.globals.size (point_e0 re im) = true := by kernel_rfl
theorem point_q0 (re im : Int) : point_e0 re im = evFS Tryz.prog x_point 1000 73 #[.agg #[.int .i64 re, .int .i64 im]] (noTabs 6) ⟨[0], True⟩ := by
  delta point_e0
  exact Eq.refl _
theorem point_p0 (re im : Int) (h : point_r0 re im) (w : World) : Calls Tryz.prog 73 #[.agg #[.int .i64 re, .int .i64 im]] w fun en w' => en = .returned (point_w0 re im) ∧ Below w.heap.size w w' := by
  have hv := point_v0 re im
  have hc := point_l0 re im
  have he := point_q0 re im
  have ho := point_o0 re im
  generalize point_e0 re im = r at *
  exact calls_way he gfol point_X hv rfl (point_args re im) hc ho h (bl w)
def point_w1 (re im : Int) : Value := .int .i64 (3 : Int)
def point_r1 (re im : Int) : Prop := (True ∧ (point_c0 re im = true))
theorem point_o1 (re im : Int) : obOf (point_e1 re im) = point_r1 re im := by kernel_rfl
theorem point_v1 (re im : Int) : resOf (point_e1 re im) = point_w1 re im := by kernel_rfl
theorem point_l1 (re im : Int) : cleanOf Tryz.prog.globals.size (point_e1 re im) = true := by kernel_rfl
theorem point_q1 (re im : Int) : point_e1 re im = evFS Tryz.prog x_point 1000 73 #[.agg #[.int .i64 re, .int .i64 im]] (noTabs 6) ⟨[1], True⟩ := by
  delta point_e1
  exact Eq.refl _
theorem point_p1 (re im : Int) (h : point_r1 re im) (w : World) : Calls Tryz.prog 73 #[.agg #[.int .i64 re, .int .i64 im]] w fun en w' => en = .returned (point_w1 re im) ∧ Below w.heap.size w w' := by
  have hv := point_v1 re im
  have hc := point_l1 re im
  have he := point_q1 re im
  have ho := point_o1 re im
  generalize point_e1 re im = r at *
  exact calls_way he gfol point_X hv rfl (point_args re im) hc ho h (bl w)
theorem point_any (re im : Int) (hpre : True) (w : World) : Calls Tryz.prog 73 #[.agg #[.int .i64 re, .int .i64 im]] w fun en w' => en = .returned (point_val re im) ∧ Below w.heap.size w w' := by
  rcases Bool.eq_false_or_eq_true (point_c0 re im) with h0 | h0
  ·
    unfold point_c0 at h0
    have hp := point_p1 re im ⟨trivial, h0⟩ w
    have hv : point_w1 re im = (point_val re im) := by
      clear hp
      unfold point_w1 point_val
      simp only [ptE, Pl.cr]
      simp only [Bool.and_eq_true, Bool.and_eq_false_iff, Bool.not_eq_true', Bool.not_eq_false', beq_iff_eq, beq_eq_false_iff_ne, ne_eq, Bool.true_and, Bool.and_true] at *
      grind
    exact hv ▸ hp
  ·
    unfold point_c0 at h0
    have hp := point_p0 re im ⟨trivial, h0⟩ w
    have hv : point_w0 re im = (point_val re im) := by
      clear hp
      unfold point_w0 point_val
      simp only [ptE, Pl.cr]
      simp only [Bool.and_eq_true, Bool.and_eq_false_iff, Bool.not_eq_true', Bool.not_eq_false', beq_iff_eq, beq_eq_false_iff_ne, ne_eq, Bool.true_and, Bool.and_true] at *
      grind
    exact hv ▸ hp
theorem k_point : ConOk Tryz.prog c_point := fun ns hl => by
  have hl0 : ns.length = 2 := hl
  clear hl
  obtain ⟨re, ns0, rfl, hl1⟩ := len_cons hl0
  obtain ⟨im, ns1, rfl, hl2⟩ := len_cons hl1
  obtain rfl := len_nil hl2
  exact ⟨rfl, fun h w => point_any re im h w⟩
end Go.Proofs.YtbkpnhbcihcgaaaGreatDoor
end
section
set_option linter.all false
set_option maxRecDepth 1000000
open Go.RowKit
namespace Go.Proofs.YtbkpnhbcihcgaaaGreatDoor
open Mini
noncomputable def siX : Code := loopOf Tryz.prog 25
def siA (n m c d i : Nat) : MA := MA.ofL 26 [.slice (some ⟨6, 0, none⟩) n c, .slice (some ⟨7, 0, none⟩) m d, .chan none, .chan none, .bool false, .int .i64 (i : Int), .chan none, .chan none, .chan none, .chan none, .chan none, .chan none, .chan none, .chan none, .chan none, .chan none, .chan none, .chan none, .chan none, .chan none, .chan none, .chan none, .chan none, .chan none, .chan none, .chan none] []
def siArgs (n m c d : Nat) : Array Value := #[.slice (some ⟨6, 0, none⟩) n c, .slice (some ⟨7, 0, none⟩) m d]
noncomputable def siR (n m c d : Nat) (g h : Nat → Nat → Int) (e e2 : TypeId) (o o2 : Bool) (z z2 : Nat) (r r2 : Bool) (i : Nat) : Option OutCS := evCRS Tryz.prog noXS 1000 none false siX (siA n m c d i) (wS 6 [rowI 1 n g e o z r, rowI 1 m h e2 o2 z2 r2]) ⟨[1, .row i 0, .row i 0, .row i 0, .row i 0, 0, .azz (.int .i64 ((i + 1 : Nat) : Int))], True⟩
noncomputable def siW (n m c d : Nat) (g h : Nat → Nat → Int) (e e2 : TypeId) (o o2 : Bool) (z z2 : Nat) (r r2 : Bool) (i : Nat) : Option OutCS := evCRS Tryz.prog noXS 1000 none false siX (siA n m c d i) (wS 6 [rowI 1 n g e o z r, rowI 1 m h e2 o2 z2 r2]) ⟨[1, .row i 0, .row i 0, .row i 0, .row i 0, 1], True⟩
noncomputable def siE (n m c d : Nat) (g h : Nat → Nat → Int) (e e2 : TypeId) (o o2 : Bool) (z z2 : Nat) (r r2 : Bool) (i : Nat) : Option OutCS := evCRS Tryz.prog noXS 1000 none false siX (siA n m c d i) (wS 6 [rowI 1 n g e o z r, rowI 1 m h e2 o2 z2 r2]) ⟨[0], True⟩
noncomputable def siF_ne (n m c d : Nat) (g h : Nat → Nat → Int) (e e2 : TypeId) (o o2 : Bool) (z z2 : Nat) (r r2 : Bool) : Option OutS := evFS Tryz.prog noXS 1000 25 (siArgs n m c d) (wS 6 [rowI 1 n g e o z r, rowI 1 m h e2 o2 z2 r2]) ⟨[1], True⟩
noncomputable def siF_ret (n m c d : Nat) (g h : Nat → Nat → Int) (e e2 : TypeId) (o o2 : Bool) (z z2 : Nat) (r r2 : Bool) (i : Nat) : Option OutS := evFS Tryz.prog noXS 1000 25 (siArgs n m c d) (wS 6 [rowI 1 n g e o z r, rowI 1 m h e2 o2 z2 r2]) ⟨[0, .lp 51 (siA n m c d 0) 6 [rowI 1 n g e o z r, rowI 1 m h e2 o2 z2 r2] .ret (siA n m c d i) [rowI 1 n g e o z r, rowI 1 m h e2 o2 z2 r2] 192 0], True⟩
noncomputable def siF_end (n m c d : Nat) (g h : Nat → Nat → Int) (e e2 : TypeId) (o o2 : Bool) (z z2 : Nat) (r r2 : Bool) (i : Nat) : Option OutS := evFS Tryz.prog noXS 1000 25 (siArgs n m c d) (wS 6 [rowI 1 n g e o z r, rowI 1 m h e2 o2 z2 r2]) ⟨[0, .lp 51 (siA n m c d 0) 6 [rowI 1 n g e o z r, rowI 1 m h e2 o2 z2 r2] (.exit 0) (siA n m c d i) [rowI 1 n g e o z r, rowI 1 m h e2 o2 z2 r2] 192 0], True⟩
section
variable (n m c d : Nat) (g h : Nat → Nat → Int) (e e2 : TypeId) (o o2 : Bool) (z z2 : Nat) (r r2 : Bool) (i : Nat)
theorem siR_eq : seenF 6 2 51 (siR n m c d g h e e2 o o2 z z2 r r2 i) = some (.normal, siA n m c d (i + 1), [rowI 1 n g e o z r, rowI 1 m h e2 o2 z2 r2], 192, 0, ⟨[], (((((((True ∧ ((decide ((((i : Nat)) : Int) < (((n : Nat)) : Int))) = true)) ∧ (((((i : Nat)) : Int) = (Int.ofNat i)) ∧ (i < n))) ∧ (((0 + (i * 1)) = ((i * 1) + 0)) ∧ (i < n))) ∧ (((((i : Nat)) : Int) = (Int.ofNat i)) ∧ (i < m))) ∧ (((0 + (i * 1)) = ((i * 1) + 0)) ∧ (i < m))) ∧ (((g i 0) != (h i 0)) = false)) ∧ (((.int .i64 (IntKind.i64.wrap ((((i : Nat)) : Int) + (1 : Int)))) : Value) = (.int .i64 ((((i + 1) : Nat)) : Int))))⟩) := by kernel_rfl
theorem siW_eq : seenF 6 2 51 (siW n m c d g h e e2 o o2 z z2 r r2 i) = some (.ret, siA n m c d i, [rowI 1 n g e o z r, rowI 1 m h e2 o2 z2 r2], 192, 0, ⟨[], ((((((True ∧ ((decide ((((i : Nat)) : Int) < (((n : Nat)) : Int))) = true)) ∧ (((((i : Nat)) : Int) = (Int.ofNat i)) ∧ (i < n))) ∧ (((0 + (i * 1)) = ((i * 1) + 0)) ∧ (i < n))) ∧ (((((i : Nat)) : Int) = (Int.ofNat i)) ∧ (i < m))) ∧ (((0 + (i * 1)) = ((i * 1) + 0)) ∧ (i < m))) ∧ (((g i 0) != (h i 0)) = true))⟩) := by kernel_rfl
theorem siE_eq : seenF 6 2 51 (siE n m c d g h e e2 o o2 z z2 r r2 i) = some ((.exit (0 : Nat)), siA n m c d i, [rowI 1 n g e o z r, rowI 1 m h e2 o2 z2 r2], 0, 0, ⟨[], (True ∧ ((decide ((((i : Nat)) : Int) < (((n : Nat)) : Int))) = false))⟩) := by kernel_rfl
theorem siA_keep : allKeep (6 + 2) (siA n m c d i) 26 = true := by kernel_rfl
theorem siF_neeq : siF_ne n m c d g h e e2 o o2 z z2 r r2 = some ((.bool false), wS 6 [rowI 1 n g e o z r, rowI 1 m h e2 o2 z2 r2], 0, 0, ⟨[], (True ∧ (((((n : Nat)) : Int) != (((m : Nat)) : Int)) = true))⟩) := by kernel_rfl
theorem siF_reteq : siF_ret n m c d g h e e2 o o2 z z2 r r2 i = some ((.bool false), wS 6 [rowI 1 n g e o z r, rowI 1 m h e2 o2 z2 r2], 192, 0, ⟨[], ((True ∧ (((((n : Nat)) : Int) != (((m : Nat)) : Int)) = false)) ∧ ((((siA n m c d (0 : Nat)) = (siA n m c d (0 : Nat))) ∧ ((8 = (6 + 2)) ∧ ((HAppend.hAppend (List.replicate (6 : Nat) MObj.hole) ((rowI (1 : Nat) n g e o z r) :: ((rowI (1 : Nat) m h e2 o2 z2 r2) :: []))) = (HAppend.hAppend (List.replicate (6 : Nat) MObj.hole) ((rowI (1 : Nat) n g e o z r) :: ((rowI (1 : Nat) m h e2 o2 z2 r2) :: [])))))) ∧ SndC Tryz.prog none (.loop siX) (siA n m c d 0).act (wS 6 [rowI 1 n g e o z r, rowI 1 m h e2 o2 z2 r2]) .ret (siA n m c d i).act (wS 6 [rowI 1 n g e o z r, rowI 1 m h e2 o2 z2 r2]) 192 0))⟩) := by kernel_rfl
theorem siF_endeq : siF_end n m c d g h e e2 o o2 z z2 r r2 i = some ((.bool true), wS 6 [rowI 1 n g e o z r, rowI 1 m h e2 o2 z2 r2], 192, 0, ⟨[], ((True ∧ (((((n : Nat)) : Int) != (((m : Nat)) : Int)) = false)) ∧ ((((siA n m c d (0 : Nat)) = (siA n m c d (0 : Nat))) ∧ ((8 = (6 + 2)) ∧ ((HAppend.hAppend (List.replicate (6 : Nat) MObj.hole) ((rowI (1 : Nat) n g e o z r) :: ((rowI (1 : Nat) m h e2 o2 z2 r2) :: []))) = (HAppend.hAppend (List.replicate (6 : Nat) MObj.hole) ((rowI (1 : Nat) n g e o z r) :: ((rowI (1 : Nat) m h e2 o2 z2 r2) :: [])))))) ∧ SndC Tryz.prog none (.loop siX) (siA n m c d 0).act (wS 6 [rowI 1 n g e o z r, rowI 1 m h e2 o2 z2 r2]) (.exit 0) (siA n m c d i).act (wS 6 [rowI 1 n g e o z r, rowI 1 m h e2 o2 z2 r2]) 192 0))⟩) := by kernel_rfl
variable {n c d g h e e2 o o2 z z2 r r2 i}
theorem si_go (hn : (n : Int) ≤ 9223372036854775807) (hi : i < n) (h0 : g i 0 = h i 0) : SndC Tryz.prog none siX (siA n n c d i).act (wS 6 [rowI 1 n g e o z r, rowI 1 n h e2 o2 z2 r2]) .normal (siA n n c d (i + 1)).act (wS 6 [rowI 1 n g e o z r, rowI 1 n h e2 o2 z2 r2]) 192 0 :=
  wayF_ok0 smx noXS_ok sng (siR_eq n n c d g h e e2 o o2 z z2 r r2 i) ⟨⟨⟨⟨⟨⟨⟨trivial, decide_eq_true (by omega)⟩, rfl, hi⟩, (by omega), hi⟩, rfl, hi⟩, (by omega), hi⟩, (by simp [h0])⟩, wnextV hi hn⟩ rfl (siA_keep n n c d i) rowI_keep2 rowI_keep2 (by exact (by decide : ∀ b, b < 8 → Nat.testBit 0 b = false)) (by exact (by decide : ∀ b, b < 8 → Nat.testBit 192 b = true → Nat.testBit 192 b = true))
theorem si_bad (hi : i < n) (h0 : ¬ (g i 0 = h i 0)) : SndC Tryz.prog none siX (siA n n c d i).act (wS 6 [rowI 1 n g e o z r, rowI 1 n h e2 o2 z2 r2]) .ret (siA n n c d i).act (wS 6 [rowI 1 n g e o z r, rowI 1 n h e2 o2 z2 r2]) 192 0 :=
  wayF_ok0 smx noXS_ok sng (siW_eq n n c d g h e e2 o o2 z z2 r r2 i) ⟨⟨⟨⟨⟨⟨trivial, decide_eq_true (by omega)⟩, rfl, hi⟩, (by omega), hi⟩, rfl, hi⟩, (by omega), hi⟩, (by simpa using h0)⟩ rfl (siA_keep n n c d i) rowI_keep2 rowI_keep2 (by exact (by decide : ∀ b, b < 8 → Nat.testBit 0 b = false)) (by exact (by decide : ∀ b, b < 8 → Nat.testBit 192 b = true → Nat.testBit 192 b = true))
theorem si_end (hi : ¬ i < n) : SndC Tryz.prog none siX (siA n n c d i).act (wS 6 [rowI 1 n g e o z r, rowI 1 n h e2 o2 z2 r2]) (.exit 0) (siA n n c d i).act (wS 6 [rowI 1 n g e o z r, rowI 1 n h e2 o2 z2 r2]) 192 0 :=
  wayF_ok0 smx noXS_ok sng (siE_eq n n c d g h e e2 o o2 z z2 r r2 i) ⟨trivial, decide_eq_false (by omega)⟩ rfl (siA_keep n n c d i) rowI_keep2 rowI_keep2 (by exact (by decide : ∀ b, b < 8 → Nat.testBit 0 b = false)) (by exact (by decide : ∀ b, b < 8 → Nat.testBit 0 b = true → Nat.testBit 192 b = true))
end
def sameI (g h : Nat → Nat → Int) (n : Nat) : Prop := ∀ i, i < n → g i 0 = h i 0
instance (g h : Nat → Nat → Int) (n : Nat) : Decidable (sameI g h n) := inferInstanceAs (Decidable (∀ i, i < n → _))
theorem si_sndF {n m : Nat} (c d : Nat) (g h : Nat → Nat → Int) (e e2 : TypeId) (o o2 : Bool) (z z2 : Nat) (r r2 : Bool) (hn : (n : Int) ≤ 9223372036854775807) :
    SndF Tryz.prog 25 (siArgs n m c d) (wS 6 [rowI 1 n g e o z r, rowI 1 m h e2 o2 z2 r2]) (.bool (decide (n = m ∧ sameI g h n))) (wS 6 [rowI 1 n g e o z r, rowI 1 m h e2 o2 z2 r2]) 192 0 := by
  by_cases hm : n = m
  · subst hm
    rcases loop_split (A := fun i => (siA n n c d i).act) (S := fun _ => wS 6 [rowI 1 n g e o z r, rowI 1 n h e2 o2 z2 r2]) (A1 := fun i => (siA n n c d i).act) (S1 := fun _ => wS 6 [rowI 1 n g e o z r, rowI 1 n h e2 o2 z2 r2]) (good := fun i => g i 0 = h i 0) (fun i => Decidable.em _) n
      (fun i hi h0 => si_go hn hi h0) (fun i hi h0 => si_bad hi h0) (si_end (Nat.lt_irrefl n)) (by simp) (by simp) with ⟨h1, h2⟩ | ⟨j, hj, h1, h3, h2⟩
    · rw [decide_eq_true ⟨rfl, h1⟩]
      exact (evFS_ok smx noXS_ok 1000 _ _ _ _ _ _ _ _ _ (show evFS _ _ _ _ _ _ _ = _ from siF_endeq n n c d g h e e2 o o2 z z2 r r2 n)).2 ⟨⟨trivial, by simp⟩, ⟨rfl, rfl, rfl⟩, h2⟩
    · rw [decide_eq_false (fun q => h3 (q.2 j hj))]
      exact (evFS_ok smx noXS_ok 1000 _ _ _ _ _ _ _ _ _ (show evFS _ _ _ _ _ _ _ = _ from siF_reteq n n c d g h e e2 o o2 z z2 r r2 j)).2 ⟨⟨trivial, by simp⟩, ⟨rfl, rfl, rfl⟩, h2⟩
  · rw [decide_eq_false (fun q => hm q.1)]
    exact ((evFS_ok smx noXS_ok 1000 _ _ _ _ _ _ _ _ _ (show evFS _ _ _ _ _ _ _ = _ from siF_neeq n m c d g h e e2 o o2 z z2 r r2)).2 ⟨trivial, by simp; omega⟩).mask (fun b _ hb => by simp at hb) (fun b _ => rfl)

def kSameI : CallS := fun f xs s q => match decide (f = 25) with
  | true => match xs.toList with
    | [.slice (some ⟨b, 0, none⟩) n c, .slice (some ⟨b2, 0, none⟩) m d] => match Nat.ble 6 b, Nat.ble 6 b2, Nat.beq b b2, rowK 1 .i64 s b n, rowK 1 .i64 s b2 m with
      | true, true, false, some (g, _, _, _, _, p), some (h, _, _, _, _, p2) => some (.bool (decide (n = m ∧ sameI g h n)), s, 2 ^ b ||| 2 ^ b2, 0, ⟨q.rest, q.ob ∧ (p ∧ p2 ∧ (n : Int) ≤ 9223372036854775807)⟩)
      | _, _, _, _, _ => none
    | _ => none
  | false => none
theorem kSameI_ok : FOkS Tryz.prog kSameI := fun f xs s q u s1 R W q1 he => by
  unfold kSameI at he
  split at he
  · rename_i hf
    have hf := of_decide_eq_true hf
    subst hf
    split at he
    · rename_i b n c b2 m d hx
      have hxs : xs = #[.slice (some ⟨b, 0, none⟩) n c, .slice (some ⟨b2, 0, none⟩) m d] := by apply Array.ext'; exact hx
      subst hxs
      split at he
      · rename_i g e o z r p h e2 o2 z2 r2 p2 h1 h2 h3 h4 h5
        cases he
        refine ⟨fun hq => hq.1, fun hq => ?_⟩
        obtain ⟨k1, k2, hn⟩ := hq.2
        obtain ⟨l1, w1⟩ := rowK_wo h4 k1
        obtain ⟨l2, w2⟩ := rowK_wo h5 k2
        have b1 := Nat.le_of_ble_eq_true h1
        have b3 := Nat.le_of_ble_eq_true h2
        have hne : b ≠ b2 := fun e => by rw [e, Nat.beq_refl] at h3; cases h3
        refine SndF.rows (N := 6) (bs := [b, b2]) (s0 := wS 6 [rowI 1 n g e o z r, rowI 1 m h e2 o2 z2 r2]) sng (si_sndF c d g h e e2 o o2 z z2 r r2 hn) rfl rfl (fun x hx => ?_) (by simp [hne]) (by omega) (fun x hx _ => ?_) (fun x hx => ?_) (fun f j hj => ?_) (fun f _ hf => ?_)
        · simp at hx
          rcases hx with rfl | rfl <;> omega
        · rcases Nat.lt_or_ge x 6 with k | k
          · have hz := (by decide : ∀ b, b < 6 → Nat.testBit 192 b = false) x k
            rw [hz] at hx; cases hx
          · exact k
        · simp at hx
          rcases hx with rfl | rfl <;> simp [or_bit, bit_self]
        · match j, hj with
          | 0, _ => exact w1 f
          | 1, _ => exact w2 f
        · exact wvs_two (slice_wv (hf 0 (by simp))) (slice_wv (hf 1 (by simp)))
      · cases he
    · cases he
  · cases he
end Go.Proofs.YtbkpnhbcihcgaaaGreatDoor
end
section
namespace Go.Proofs.YtbkpnhbcihcgaaaGreatDoor
set_option linter.all false
open Go.RowKit
namespace Mini
variable {P : Program} {s0 s : St}
def valsEqT : List Value → List Value → Bool
  | [], _ => true
  | .int k a :: l, .int k' b :: l' => decide (k = k') && (a == b) && valsEqT l l'
  | .string a :: l, .string b :: l' => decide (a.data.toList = b.data.toList) && valsEqT l l'
  | _, _ => false
theorem valsEqT_at : ∀ (c c' : List Value), valsEqT c c' = true → ∀ (i : Nat) (v : Value), c[i]? = some v → c'[i]? = some v ∧ ((∃ k a, v = .int k a) ∨ ∃ a, v = .string a)
  | [], c', h, i, v, hi => by simp at hi
  | x :: l, [], h, i, v, hi => by cases x <;> simp [valsEqT] at h
  | x :: l, y :: l', h, i, v, hi => by
    cases x with
    | int k a => cases y with
      | int k' b =>
        simp only [valsEqT, Bool.and_eq_true, decide_eq_true_eq, beq_iff_eq] at h
        obtain ⟨⟨rfl, rfl⟩, h3⟩ := h
        cases i with
        | zero => simp at hi; subst hi; exact ⟨rfl, .inl ⟨k, a, rfl⟩⟩
        | succ i => exact valsEqT_at l l' h3 i v (by simpa using hi)
      | _ => simp [valsEqT] at h
    | string a => cases y with
      | string b =>
        simp only [valsEqT, Bool.and_eq_true, decide_eq_true_eq] at h
        obtain ⟨h2, h3⟩ := h
        have e : a = b := by
          cases a; cases b
          exact congrArg ByteArray.mk (Array.ext' h2)
        subst e
        cases i with
        | zero => simp at hi; subst hi; exact ⟨rfl, .inr ⟨a, rfl⟩⟩
        | succ i => exact valsEqT_at l l' h3 i v (by simpa using hi)
      | _ => simp [valsEqT] at h
    | _ => simp [valsEqT] at h
theorem string_inv {ρ : Ren} {a : ByteArray} {v' : Value} (h : VR ρ (.string a) v') : v' = .string a := by cases h; rfl
def tabEqT : MObj → MObj → Bool
  | .hole, _ => true
  | .cells c _ _ _ _, .cells c' _ _ _ _ => valsEqT c c'
  | _, _ => false
def tabsEqT (s0 s : St) : Nat → Bool
  | 0 => true
  | n + 1 => tabEqT (s0.get n) (s.get n) && tabsEqT s0 s n
theorem tabsEqT_at : ∀ (n : Nat), tabsEqT s0 s n = true → ∀ b, b < n → tabEqT (s0.get b) (s.get b) = true
  | 0, h, b, hb => by omega
  | n + 1, h, b, hb => by
    simp only [tabsEqT, Bool.and_eq_true] at h
    rcases Nat.lt_or_ge b n with c | c
    · exact tabsEqT_at n h.2 b c
    · rw [show b = n from by omega]; exact h.1
theorem holdsT_of {ρ : Ren} {C : Nat → MObj} {w : World} (hn : s0.next = P.globals.size) (hok : tabsOk s0 s0.next = true) (heq : tabsEqT s0 s s0.next = true) (hG : Glob P ρ) (ag : ∀ b, (2 ^ s0.next - 1).testBit b = true → b < s.next → C b = s.get b) (hr : WRel ρ C w) : Holds P s0 w := by
  refine ⟨hn, fun b hb => ?_⟩
  rw [← hn] at hb
  have h1 := tabsOk_at _ hok b hb
  have h2 := tabsEqT_at _ heq b hb
  cases hs : s0.get b with
  | hole => exact .inl rfl
  | cells c e opn sz r =>
    rw [hs] at h1 h2
    cases ho : s.get b with
    | cells c' e' opn' sz' r' =>
      rw [ho] at h2
      simp only [tabEqT] at h2
      cases opn <;> cases r <;> cases sz <;> simp only [tabOk, Bool.and_eq_true, Bool.not_eq_true', Bool.false_eq_true] at h1
      refine .inr ⟨c, e, rfl, by intro hc; rw [hc] at h1; simp at h1, h1.2, fun i v hi => ?_⟩
      obtain ⟨k1, k2⟩ := valsEqT_at c c' h2 i v hi
      have hlt : b < s.next := St.lt_of_live (by rw [ho]; simp)
      have hC : C b = .cells c' e' opn' sz' r' := (ag b (by rw [Nat.testBit_two_pow_sub_one]; simpa using hb) hlt).trans ho
      obtain ⟨L, cs, fr, q1, q2, q3⟩ := row_of hr hC
      obtain ⟨L', g1, g2, g3⟩ := hG b (hn ▸ hb)
      rw [q1] at g1
      cases g1
      obtain ⟨p1, p2, p3, p4, p5, p6, p7, p8⟩ := q3
      obtain ⟨v', z1, z2⟩ := p6 i _ k1
      have e : v' = v := by
        rcases k2 with ⟨k, a, rfl⟩ | ⟨a, rfl⟩
        · exact int_inv z2
        · exact string_inv z2
      subst e
      rw [g2] at q2
      rw [cell_row q2]
      rw [g3, Nat.zero_add] at z1
      exact z1
    | _ => rw [ho] at h2; simp [tabEqT] at h2
  | _ => rw [hs] at h1; simp [tabOk] at h1
def tabT (s0 : St) (f0 : FuncId) : CallS := fun f xs s q =>
  match decide (f = f0) && xs.toList.isEmpty && tabsOk s0 s0.next && tabsEqT s0 s s0.next with
  | true => some (.bool true, s, 2 ^ s0.next - 1, 0, q)
  | false => none
theorem tabT_ok {f0 : FuncId} (hn : s0.next = P.globals.size) (h : ∀ w, Holds P s0 w → Calls P f0 #[] w fun e w' => e = .returned (.bool true) ∧ Below w.heap.size w w') : FOkS P (tabT s0 f0) := fun f xs s q v s1 R W q1 he => by
  unfold tabT at he
  split at he
  · rename_i hc
    cases he
    simp only [Bool.and_eq_true, decide_eq_true_eq] at hc
    obtain ⟨⟨⟨rfl, h2⟩, h3⟩, h4⟩ := hc
    have hx : xs = #[] := by
      apply Array.ext'
      simpa using h2
    subst hx
    refine ⟨id, fun _ => sndF_quietG rfl fun ρ C args' w hG ag hr ha => ?_⟩
    have ea : args' = #[] := Array.eq_empty_of_size_eq_zero (ha.1.symm.trans rfl)
    subst ea
    exact h w (holdsT_of hn h3 h4 hG ag hr)
  · cases he
end Mini
end Go.Proofs.YtbkpnhbcihcgaaaGreatDoor
end
section
namespace Go.Proofs.YtbkpnhbcihcgaaaGreatDoor
set_option linter.all false
namespace Mini
def obY (r : Option OutS) : Prop := match r with
  | some (_, _, _, _, q) => q.ob
  | none => False
def goodY (r : Option OutS) : Bool := match r with
  | some (.bool true, _, _, 0, ⟨[], _⟩) => true
  | _ => false
theorem sndY {P : Program} {X : CallS} {n : Nat} {f : FuncId} {xs : Array Value} {s : St} {q : Orc} {r : Option OutS} (he : r = evFS P X n f xs s q) (hm : P.follows .mixedOrders = true) (hX : FOkS P X) (hg : goodY r = true) (ho : obY r) : ∃ s1 R, SndF P f xs s (.bool true) s1 R 0 := by
  unfold goodY at hg
  split at hg
  · exact ⟨_, _, (evFS_ok hm hX n _ _ _ _ _ _ _ _ _ he.symm).2 ho⟩
  · cases hg
end Mini
end Go.Proofs.YtbkpnhbcihcgaaaGreatDoor
end
section
set_option linter.all false
set_option maxRecDepth 1000000
namespace Go.Proofs.YtbkpnhbcihcgaaaGreatDoor
open Mini
noncomputable def aw3B : Code := bodyOf Tryz.prog 12
noncomputable def aw3A0 : MA := ⟨291, .leaf, []⟩
noncomputable def aw3H0 : Tri := (.node (.node (.one (.cells [.int .i64 (1), .int .i64 (0), .int .i64 (0), .int .i64 (1), .int .i64 (-1), .int .i64 (0), .int .i64 (0), .int .i64 (-1)] 150 true 0 true)) (.one (.cells [.string ⟨#[112, 108, 97, 110, 116, 110, 117, 109]⟩, .string ⟨#[112, 108, 97, 110, 116, 100, 101, 110]⟩, .string ⟨#[99, 111, 110, 116, 114, 111, 108, 108, 101, 114, 110, 117, 109]⟩, .string ⟨#[99, 111, 110, 116, 114, 111, 108, 108, 101, 114, 100, 101, 110]⟩] 166 true 0 true))) (.node (.one (.cells [.int .u64 (1), .int .u64 (10), .int .u64 (100), .int .u64 (1000), .int .u64 (10000), .int .u64 (100000), .int .u64 (1000000), .int .u64 (10000000), .int .u64 (100000000), .int .u64 (1000000000), .int .u64 (10000000000), .int .u64 (100000000000), .int .u64 (1000000000000), .int .u64 (10000000000000), .int .u64 (100000000000000), .int .u64 (1000000000000000), .int .u64 (10000000000000000), .int .u64 (100000000000000000), .int .u64 (1000000000000000000), .int .u64 (10000000000000000000)] 231 true 0 true)) .leaf))
noncomputable def aw3H1 : Tri := (.node (.node (.node (.node (.node (.node (.node (.node (.node (.node (.node (.node (.node (.node (.node (.node (.node (.node (.node (.node aw3H0 .leaf) .leaf) .leaf) .leaf) .leaf) .leaf) .leaf) .leaf) .leaf) .leaf) .leaf) .leaf) .leaf) .leaf) .leaf) .leaf) .leaf) .leaf) .leaf) .leaf)
noncomputable def aw3S0 : St := ⟨6, aw3H1, []⟩
noncomputable def aw3H2 : TV := (.node (.node (.node (.node (.one (.bool false)) .leaf) .leaf) .leaf) .leaf)
noncomputable def aw3A1 : MA := ⟨291, (.node (.node (.node (.node (.node aw3H2 .leaf) .leaf) .leaf) .leaf) .leaf), []⟩
noncomputable def aw3S1 : St := ⟨6, aw3H1, []⟩
noncomputable def aw3H3 : TV := (.node (.one (.bool false)) (.one (.slice (some ⟨13, 0, none⟩) 2 2)))
noncomputable def aw3H4 : TV := (.one (.tuple #[.slice (some ⟨13, 0, none⟩) 2 2, .int .i64 (0)]))
noncomputable def aw3H5 : TV := (.node aw3H4 (.one (.slice (some ⟨6, 0, none⟩) 3 3)))
noncomputable def aw3H6 : TV := (.node aw3H4 (.one (.slice (some ⟨13, 0, none⟩) 2 2)))
noncomputable def aw3A2 : MA := ⟨291, (.node (.node (.node (.node (.node (.node (.node (.node aw3H3 (.node (.one (.int .i64 (0))) .leaf)) .leaf) .leaf) .leaf) (.node (.node .leaf (.node (.node .leaf aw3H5) (.node aw3H6 (.node (.one (.int .i64 (0))) .leaf)))) .leaf)) .leaf) .leaf) .leaf), []⟩
noncomputable def aw3H7 : Tri := (.one (.cells [.int .i64 (1), .int .i64 (0), .int .i64 (2)] 3 false 0 false))
noncomputable def aw3H8 : Tri := (.node aw3H0 (.node .leaf (.node aw3H7 (.one (.cells [] 3 false 0 false)))))
noncomputable def aw3H9 : Tri := (.one (.cells [.int .i64 (1), .int .i64 (0), .int .i64 (2)] 3 true 1 false))
noncomputable def aw3H10 : Tri := (.one (.cells [.int .i64 (0), .int .i64 (3)] 3 true 1 false))
noncomputable def aw3H11 : Tri := (.node (.node aw3H9 (.one (.cells [.slice (some ⟨8, 0, none⟩) 3 3] 140 false 0 false))) (.node (.one (.cells [] 3 false 0 false)) aw3H10))
noncomputable def aw3H12 : Tri := (.node (.one (.cells [.slice (some ⟨11, 0, none⟩) 2 2] 140 false 0 false)) (.one (.cells [.slice (some ⟨8, 0, none⟩) 3 3, .slice (some ⟨11, 0, none⟩) 2 2] 140 true 1 false)))
noncomputable def aw3S2 : St := ⟨14, (.node (.node (.node (.node (.node (.node (.node (.node (.node (.node (.node (.node (.node (.node (.node (.node (.node (.node (.node aw3H8 (.node aw3H11 (.node aw3H12 .leaf))) .leaf) .leaf) .leaf) .leaf) .leaf) .leaf) .leaf) .leaf) .leaf) .leaf) .leaf) .leaf) .leaf) .leaf) .leaf) .leaf) .leaf) .leaf), []⟩
noncomputable def aw3H13 : TV := (.node (.one (.int .i64 (0))) (.one (.slice (some ⟨17, 0, none⟩) 1 1)))
noncomputable def aw3H14 : TV := (.node (.node (.one (.int .i64 (0))) .leaf) .leaf)
noncomputable def aw3H15 : TV := (.one (.tuple #[.slice (some ⟨17, 0, none⟩) 1 1, .int .i64 (0)]))
noncomputable def aw3H16 : TV := (.node aw3H6 (.node (.one (.int .i64 (0))) aw3H15))
noncomputable def aw3H17 : TV := (.node .leaf (.node (.node .leaf aw3H5) aw3H16))
noncomputable def aw3H18 : TV := (.node (.node (.one (.slice (some ⟨14, 0, none⟩) 3 3)) aw3H15) (.node (.one (.slice (some ⟨17, 0, none⟩) 1 1)) (.one (.int .i64 (0)))))
noncomputable def aw3A3 : MA := ⟨291, (.node (.node (.node (.node (.node (.node (.node (.node aw3H3 aw3H13) aw3H14) .leaf) .leaf) (.node aw3H17 (.node (.node aw3H18 .leaf) .leaf))) .leaf) .leaf) .leaf), []⟩
noncomputable def aw3H19 : Tri := (.one (.cells [.int .i64 (2), .int .i64 (3), .int .i64 (1)] 3 false 0 false))
noncomputable def aw3H20 : Tri := (.node aw3H8 (.node aw3H11 (.node aw3H12 (.node aw3H19 (.one (.cells [] 3 false 0 false))))))
noncomputable def aw3H21 : Tri := (.one (.cells [.int .i64 (2), .int .i64 (3), .int .i64 (1)] 3 true 1 false))
noncomputable def aw3H22 : Tri := (.node aw3H21 (.one (.cells [.slice (some ⟨16, 0, none⟩) 3 3] 140 false 0 false)))
noncomputable def aw3S3 : St := ⟨18, (.node (.node (.node (.node (.node (.node (.node (.node (.node (.node (.node (.node (.node (.node (.node (.node (.node (.node aw3H20 (.node (.node (.node aw3H22 .leaf) .leaf) .leaf)) .leaf) .leaf) .leaf) .leaf) .leaf) .leaf) .leaf) .leaf) .leaf) .leaf) .leaf) .leaf) .leaf) .leaf) .leaf) .leaf) .leaf), []⟩
noncomputable def aw3H23 : TV := (.node (.one (.int .i64 (0))) (.one (.bool true)))
noncomputable def aw3H24 : TV := (.node aw3H23 (.node (.one (.int .i64 (0))) .leaf))
noncomputable def aw3H25 : TV := (.one (.tuple #[.bool true, .int .i64 (0)]))
noncomputable def aw3H26 : TV := (.node aw3H18 (.node (.node aw3H25 (.one (.slice (some ⟨18, 0, none⟩) 3 3))) (.node aw3H25 (.one (.bool true)))))
noncomputable def aw3A4 : MA := ⟨291, (.node (.node (.node (.node (.node (.node (.node (.node aw3H3 aw3H13) aw3H24) .leaf) .leaf) (.node aw3H17 (.node aw3H26 (.node aw3H14 .leaf)))) .leaf) .leaf) .leaf), []⟩
noncomputable def aw3H27 : Tri := (.node (.node aw3H22 (.node aw3H7 .leaf)) .leaf)
noncomputable def aw3S4 : St := ⟨26, (.node (.node (.node (.node (.node (.node (.node (.node (.node (.node (.node (.node (.node (.node (.node (.node (.node (.node aw3H20 (.node aw3H27 .leaf)) .leaf) .leaf) .leaf) .leaf) .leaf) .leaf) .leaf) .leaf) .leaf) .leaf) .leaf) .leaf) .leaf) .leaf) .leaf) .leaf) .leaf), []⟩
noncomputable def aw3H28 : TV := (.node aw3H23 (.node (.one (.int .i64 (0))) (.one (.bool false))))
noncomputable def aw3H29 : TV := (.one (.tuple #[.bool false, .int .i64 (0)]))
noncomputable def aw3H30 : TV := (.node (.node (.one (.int .i64 (0))) aw3H29) (.node (.one (.slice (some ⟨26, 0, none⟩) 3 3)) aw3H29))
noncomputable def aw3H31 : TV := (.node (.one (.bool false)) (.one (.int .i64 (0))))
noncomputable def aw3A5 : MA := ⟨291, (.node (.node (.node (.node (.node (.node (.node (.node aw3H3 aw3H13) aw3H28) (.node aw3H14 .leaf)) .leaf) (.node aw3H17 (.node aw3H26 (.node aw3H30 (.node aw3H31 .leaf))))) .leaf) .leaf) .leaf), []⟩
noncomputable def aw3S5 : St := ⟨30, (.node (.node (.node (.node (.node (.node (.node (.node (.node (.node (.node (.node (.node (.node (.node (.node (.node (.node aw3H20 (.node aw3H27 (.node (.node .leaf (.node aw3H19 .leaf)) .leaf))) .leaf) .leaf) .leaf) .leaf) .leaf) .leaf) .leaf) .leaf) .leaf) .leaf) .leaf) .leaf) .leaf) .leaf) .leaf) .leaf) .leaf), []⟩
noncomputable def aw3H32 : TV := (.node (.one (.int .i64 (0))) (.one (.pointer (some ⟨42, 0, none⟩))))
noncomputable def aw3H33 : TV := (.one (.tuple #[.agg #[.int .i64 (-1), .int .i64 (0)], .int .i64 (0)]))
noncomputable def aw3H34 : TV := (.node aw3H26 (.node aw3H30 (.node aw3H31 (.node aw3H33 (.one (.slice (some ⟨30, 0, none⟩) 3 3))))))
noncomputable def aw3H35 : TV := (.one (.agg #[.int .i64 (-1), .int .i64 (0)]))
noncomputable def aw3H36 : TV := (.node (.node (.one (.agg #[.int .i64 (0), .int .i64 (1)])) aw3H33) (.node aw3H35 (.one (.int .i64 (0)))))
noncomputable def aw3A6 : MA := ⟨291, (.node (.node (.node (.node (.node (.node (.node (.node aw3H3 aw3H13) aw3H28) (.node (.node aw3H32 (.node (.one (.int .i64 (0))) .leaf)) .leaf)) .leaf) (.node aw3H17 aw3H34)) (.node (.node (.node (.node aw3H36 .leaf) .leaf) .leaf) .leaf)) .leaf) .leaf), []⟩
noncomputable def aw3H37 : Tri := (.node aw3H20 (.node aw3H27 (.node (.node .leaf (.node aw3H19 .leaf)) (.node .leaf (.node aw3H7 .leaf)))))
noncomputable def aw3H38 : Tri := (.one (.cells [.int .i64 (-1), .int .i64 (0)] 24 false 0 false))
noncomputable def aw3S6 : St := ⟨43, (.node (.node (.node (.node (.node (.node (.node (.node (.node (.node (.node (.node (.node (.node (.node (.node (.node aw3H37 (.node (.node .leaf (.node (.node .leaf (.node aw3H38 .leaf)) .leaf)) .leaf)) .leaf) .leaf) .leaf) .leaf) .leaf) .leaf) .leaf) .leaf) .leaf) .leaf) .leaf) .leaf) .leaf) .leaf) .leaf) .leaf), []⟩
noncomputable def aw3H39 : TV := (.node aw3H32 (.node (.one (.int .i64 (0))) (.one (.slice (some ⟨55, 0, none⟩) 2 2))))
noncomputable def aw3H40 : TV := (.one (.tuple #[.slice (some ⟨55, 0, none⟩) 2 2, .int .i64 (0)]))
noncomputable def aw3H41 : TV := (.node aw3H36 (.node (.node aw3H40 (.one (.agg #[.slice (some ⟨44, 0, none⟩) 1 1, .slice (some ⟨45, 0, none⟩) 2 2, .slice (some ⟨46, 0, none⟩) 1 1, .slice (some ⟨47, 0, none⟩) 1 1]))) (.node aw3H40 (.one (.slice (some ⟨55, 0, none⟩) 2 2)))))
noncomputable def aw3A7 : MA := ⟨291, (.node (.node (.node (.node (.node (.node (.node (.node aw3H3 aw3H13) aw3H28) (.node aw3H39 aw3H14)) .leaf) (.node aw3H17 aw3H34)) (.node (.node (.node aw3H41 (.node aw3H14 .leaf)) .leaf) .leaf)) .leaf) .leaf), []⟩
noncomputable def aw3H42 : Tri := (.one (.cells [.slice (some ⟨44, 0, none⟩) 1 1, .slice (some ⟨45, 0, none⟩) 2 2, .slice (some ⟨46, 0, none⟩) 1 1, .slice (some ⟨47, 0, none⟩) 1 1] 71 false 0 false))
noncomputable def aw3H43 : Tri := (.one (.cells [.int .i64 (1)] 3 false 0 false))
noncomputable def aw3H44 : Tri := (.one (.cells [.int .i64 (-1), .int .i64 (2)] 3 false 0 false))
noncomputable def aw3H45 : Tri := (.node (.node aw3H43 aw3H44) (.node aw3H43 aw3H43))
noncomputable def aw3H46 : Tri := (.node .leaf (.node (.node .leaf (.node aw3H38 aw3H42)) aw3H45))
noncomputable def aw3H47 : Tri := (.one (.cells [.int .i64 (0), .int .i64 (2)] 3 true 1 false))
noncomputable def aw3H48 : Tri := (.node (.node (.node aw3H42 .leaf) (.node (.one (.cells [.int .i64 (0), .int .i64 (0), .int .i64 (0), .int .i64 (0), .int .i64 (0)] 26 false 0 false)) aw3H42)) (.node (.node aw3H44 aw3H43) (.node (.one (.cells [] 3 false 0 false)) aw3H47)))
noncomputable def aw3S7 : St := ⟨56, (.node (.node (.node (.node (.node (.node (.node (.node (.node (.node (.node (.node (.node (.node (.node (.node (.node aw3H37 (.node aw3H46 (.node aw3H48 .leaf))) .leaf) .leaf) .leaf) .leaf) .leaf) .leaf) .leaf) .leaf) .leaf) .leaf) .leaf) .leaf) .leaf) .leaf) .leaf) .leaf), []⟩
noncomputable def aw3H49 : TV := (.node (.one (.int .i64 (0))) (.one (.pointer (some ⟨104, 0, none⟩))))
noncomputable def aw3H50 : TV := (.one (.tuple #[.agg #[.complex .f64 4611686018427387904 0, .complex .f64 0 4611686018427387904, .complex .f64 13835058055282163712 0, .complex .f64 0 13835058055282163712], .int .i64 (0)]))
noncomputable def aw3H51 : TV := (.node (.node (.one (.int .i64 (0))) aw3H50) (.node (.one (.agg #[.slice (some ⟨57, 0, none⟩) 1 1, .slice (some ⟨58, 0, none⟩) 2 2, .slice (some ⟨59, 0, none⟩) 1 1, .slice (some ⟨60, 0, none⟩) 1 1])) aw3H50))
noncomputable def aw3H52 : TV := (.one (.agg #[.complex .f64 4611686018427387904 0, .complex .f64 0 4611686018427387904, .complex .f64 13835058055282163712 0, .complex .f64 0 13835058055282163712]))
noncomputable def aw3A8 : MA := ⟨291, (.node (.node (.node (.node (.node (.node (.node (.node aw3H3 aw3H13) aw3H28) (.node aw3H39 (.node aw3H49 (.node (.one (.int .i64 (0))) .leaf)))) .leaf) (.node aw3H17 aw3H34)) (.node (.node (.node aw3H41 (.node aw3H51 (.node (.node aw3H52 (.one (.int .i64 (0)))) .leaf))) .leaf) .leaf)) .leaf) .leaf), []⟩
noncomputable def aw3H53 : Tri := (.node aw3H37 (.node aw3H46 (.node aw3H48 (.node (.node (.node (.one (.cells [.slice (some ⟨57, 0, none⟩) 1 1, .slice (some ⟨58, 0, none⟩) 2 2, .slice (some ⟨59, 0, none⟩) 1 1, .slice (some ⟨60, 0, none⟩) 1 1] 71 false 0 false)) aw3H43) (.node aw3H44 aw3H43)) (.node (.node aw3H43 .leaf) .leaf)))))
noncomputable def aw3H54 : Tri := (.one (.cells [.complex .f64 4611686018427387904 0, .complex .f64 0 4611686018427387904, .complex .f64 13835058055282163712 0, .complex .f64 0 13835058055282163712] 75 false 0 false))
noncomputable def aw3S8 : St := ⟨105, (.node (.node (.node (.node (.node (.node (.node (.node (.node (.node (.node (.node (.node (.node (.node (.node aw3H53 (.node .leaf (.node (.node .leaf (.node (.node (.node aw3H54 .leaf) .leaf) .leaf)) .leaf))) .leaf) .leaf) .leaf) .leaf) .leaf) .leaf) .leaf) .leaf) .leaf) .leaf) .leaf) .leaf) .leaf) .leaf) .leaf), []⟩
noncomputable def aw3H55 : TV := (.node (.one (.int .i64 (0))) (.one (.int .i64 (3))))
noncomputable def aw3H56 : TV := (.node (.node (.node aw3H3 aw3H13) aw3H28) (.node aw3H39 (.node aw3H49 aw3H55)))
noncomputable def aw3H57 : TV := (.node (.node aw3H56 (.node (.node aw3H14 .leaf) .leaf)) (.node aw3H17 aw3H34))
noncomputable def aw3H58 : TV := (.one (.tuple #[.int .i64 (3), .int .i64 (0)]))
noncomputable def aw3H59 : TV := (.node aw3H41 (.node aw3H51 (.node (.node aw3H52 (.one (.int .i64 (0)))) (.node aw3H58 (.one (.agg #[.slice (some ⟨106, 0, none⟩) 1 1, .slice (some ⟨107, 0, none⟩) 2 2, .slice (some ⟨108, 0, none⟩) 1 1, .slice (some ⟨109, 0, none⟩) 1 1]))))))
noncomputable def aw3A9 : MA := ⟨291, (.node (.node (.node aw3H57 (.node (.node aw3H59 (.node (.node (.node (.node aw3H58 (.one (.int .i64 (3)))) (.node (.one (.int .i64 (0))) .leaf)) .leaf) .leaf)) .leaf)) .leaf) .leaf), []⟩
noncomputable def aw3H60 : Tri := (.node aw3H53 (.node .leaf (.node (.node .leaf (.node (.node (.node aw3H54 (.one (.cells [.slice (some ⟨106, 0, none⟩) 1 1, .slice (some ⟨107, 0, none⟩) 2 2, .slice (some ⟨108, 0, none⟩) 1 1, .slice (some ⟨109, 0, none⟩) 1 1] 71 false 0 false))) (.node aw3H43 aw3H44)) (.node (.node aw3H43 aw3H43) .leaf))) .leaf)))
noncomputable def aw3S9 : St := ⟨151, (.node (.node (.node (.node (.node (.node (.node (.node (.node (.node (.node (.node (.node (.node (.node aw3H60 .leaf) .leaf) .leaf) .leaf) .leaf) .leaf) .leaf) .leaf) .leaf) .leaf) .leaf) .leaf) .leaf) .leaf) .leaf), []⟩
noncomputable def aw3H61 : TV := (.node (.one (.int .i64 (0))) (.one (.int .i64 (0))))
noncomputable def aw3H62 : TV := (.node (.node aw3H61 aw3H61) (.node aw3H61 aw3H61))
noncomputable def aw3H63 : TV := (.node (.one (.bool false)) (.one (.bool false)))
noncomputable def aw3H64 : TV := (.node (.one (.bool false)) (.one (.bool true)))
noncomputable def aw3H65 : TV := (.node (.node aw3H59 (.node (.node (.node (.node aw3H58 (.one (.int .i64 (3)))) aw3H61) (.node aw3H61 aw3H61)) aw3H62)) (.node (.node (.node (.node aw3H61 aw3H63) (.node (.node (.one (.slice (some ⟨13, 0, none⟩) 2 2)) (.one (.slice (some ⟨158, 0, none⟩) 2 2))) (.node (.one (.slice (some ⟨159, 0, none⟩) 3 3)) (.one (.slice (some ⟨160, 0, none⟩) 2 2))))) (.node (.node (.node (.one (.slice (some ⟨161, 0, none⟩) 2 2)) (.one (.bool true))) aw3H63) (.node (.node (.one (.bool false)) (.one (.slice (some ⟨17, 0, none⟩) 1 1))) (.node (.one (.slice (some ⟨165, 0, none⟩) 1 1)) (.one (.slice (some ⟨166, 0, none⟩) 3 3)))))) (.node (.node (.node (.node (.one (.slice (some ⟨167, 0, none⟩) 1 1)) (.one (.bool true))) aw3H63) (.node aw3H64 aw3H63)) (.node (.node aw3H63 aw3H63) (.node (.node aw3H35 aw3H35) aw3H63)))))
noncomputable def aw3H66 : TV := (.node (.node (.node (.one (.bool false)) (.one (.slice (some ⟨55, 0, none⟩) 2 2))) (.node (.one (.slice (some ⟨168, 0, none⟩) 2 2)) (.one (.bool true)))) (.node aw3H63 (.node (.one (.bool false)) aw3H52)))
noncomputable def aw3H67 : TV := (.node (.node aw3H52 (.one (.bool false))) aw3H63)
noncomputable def aw3H68 : TV := (.node (.one (.int .i64 (3))) (.one (.bool false)))
noncomputable def aw3A10 : MA := ⟨291, (.node (.node (.node aw3H57 aw3H65) (.node (.node (.node (.node aw3H66 (.node aw3H67 (.node aw3H68 (.node (.one (.bool false)) .leaf)))) .leaf) .leaf) .leaf)) .leaf), []⟩
noncomputable def aw3H69 : Tri := (.node .leaf (.node (.node .leaf (.node .leaf (.node .leaf (.one (.cells [] 3 false 0 false))))) (.node (.node (.node aw3H9 (.one (.cells [.slice (some ⟨152, 0, none⟩) 3 3] 22 false 0 false))) (.node (.one (.hole)) (.one (.cells [] 3 false 0 false)))) (.node (.node aw3H10 (.one (.cells [.slice (some ⟨156, 0, none⟩) 2 2] 22 false 0 false))) (.node (.one (.cells [.slice (some ⟨152, 0, none⟩) 3 3, .slice (some ⟨156, 0, none⟩) 2 2] 22 true 1 false)) aw3H7)))))
noncomputable def aw3H70 : Tri := (.node (.node (.node (.one (.cells [.int .i64 (0), .int .i64 (3)] 3 false 0 false)) (.one (.cells [.slice (some ⟨159, 0, none⟩) 3 3, .slice (some ⟨160, 0, none⟩) 2 2] 22 false 0 false))) (.node (.one (.cells [] 3 false 0 false)) aw3H21)) (.node (.node (.one (.cells [.slice (some ⟨163, 0, none⟩) 3 3] 22 false 0 false)) (.one (.cells [.slice (some ⟨163, 0, none⟩) 3 3] 22 true 1 false))) (.node aw3H19 (.one (.cells [.slice (some ⟨166, 0, none⟩) 3 3] 22 false 0 false)))))
noncomputable def aw3H71 : Tri := (.one (.cells [.int .i64 (0), .int .i64 (2)] 3 false 0 false))
noncomputable def aw3S10 : St := ⟨169, (.node (.node (.node (.node (.node (.node (.node (.node (.node (.node (.node (.node (.node (.node (.node aw3H60 (.node (.node aw3H69 (.node (.node aw3H70 (.node (.node (.node aw3H71 .leaf) .leaf) .leaf)) .leaf)) .leaf)) .leaf) .leaf) .leaf) .leaf) .leaf) .leaf) .leaf) .leaf) .leaf) .leaf) .leaf) .leaf) .leaf) .leaf), []⟩
noncomputable def aw3H72 : TV := (.one (.slice (some ⟨265, 0, none⟩) 1 1))
noncomputable def aw3H73 : TV := (.node (.node (.one (.int .i64 (0))) aw3H72) (.node (.one (.bool true)) (.one (.int .i64 (0)))))
noncomputable def aw3H74 : TV := (.one (.tuple #[.slice (some ⟨265, 0, none⟩) 1 1, .bool true, .int .i64 (0)]))
noncomputable def aw3H75 : TV := (.node aw3H66 (.node aw3H67 (.node aw3H68 (.node (.one (.bool false)) aw3H74))))
noncomputable def aw3H76 : TV := (.node (.node (.one (.agg #[.slice (some ⟨170, 0, none⟩) 1 1, .slice (some ⟨171, 0, none⟩) 2 2, .slice (some ⟨172, 0, none⟩) 1 1, .slice (some ⟨173, 0, none⟩) 1 1])) (.one (.agg #[.int .i64 (1), .int .i64 (4)]))) (.node (.one (.slice (some ⟨174, 0, none⟩) 1 1)) aw3H74))
noncomputable def aw3A11 : MA := ⟨291, (.node (.node (.node (.node (.node aw3H56 (.node (.node aw3H73 .leaf) .leaf)) (.node aw3H17 aw3H34)) aw3H65) (.node (.node (.node aw3H75 (.node (.node aw3H76 (.node (.node aw3H72 (.one (.bool true))) (.node (.one (.int .i64 (0))) .leaf))) .leaf)) .leaf) .leaf)) .leaf), []⟩
noncomputable def aw3H77 : Tri := (.one (.cells [.slice (some ⟨170, 0, none⟩) 1 1, .slice (some ⟨171, 0, none⟩) 2 2, .slice (some ⟨172, 0, none⟩) 1 1, .slice (some ⟨173, 0, none⟩) 1 1] 71 false 0 false))
noncomputable def aw3H78 : Tri := (.one (.cells [.int .i64 (1)] 3 true 1 false))
noncomputable def aw3H79 : Tri := (.one (.cells [.int .i64 (2)] 3 false 0 false))
noncomputable def aw3H80 : Tri := (.one (.cells [.int .i64 (2)] 3 true 1 false))
noncomputable def aw3H81 : Tri := (.node aw3H60 (.node (.node aw3H69 (.node (.node aw3H70 (.node (.node (.node aw3H71 aw3H77) (.node aw3H43 aw3H44)) (.node (.node aw3H43 aw3H43) (.node (.one (.cells [.int .i64 (1), .int .i64 (4)] 121 false 0 false)) aw3H77)))) .leaf)) (.node .leaf (.node (.node .leaf (.node (.node .leaf (.node (.one (.cells [.slice (some ⟨265, 0, none⟩) 1 1] 29 false 0 false)) (.one (.cells [.slice (some ⟨174, 0, none⟩) 1 1] 123 false 0 false)))) (.node (.node (.one (.hole)) (.one (.hole))) (.node aw3H43 aw3H78)))) (.node (.node (.node (.node (.one (.cells [] 3 false 0 false)) aw3H78) (.node aw3H77 aw3H44)) (.node (.node aw3H43 (.one (.cells [] 3 false 0 false))) (.node aw3H47 (.one (.cells [] 3 false 0 false))))) (.node (.node (.node aw3H47 (.one (.cells [.slice (some ⟨248, 0, none⟩) 2 2] 140 false 0 false))) (.node aw3H79 aw3H80)) (.node (.node (.one (.cells [] 3 false 0 false)) aw3H80) (.node aw3H77 aw3H44))))))))
noncomputable def aw3H82 : Tri := (.one (.cells [.int .i64 (1), .int .i64 (2)] 3 true 1 false))
noncomputable def aw3H83 : Tri := (.one (.cells [.int .i64 (3)] 3 false 0 false))
noncomputable def aw3H84 : Tri := (.one (.cells [.int .i64 (3)] 3 true 1 false))
noncomputable def aw3H85 : Tri := (.one (.cells [.int .i64 (2), .int .i64 (2)] 3 true 1 false))
noncomputable def aw3H86 : Tri := (.node (.node (.node (.node aw3H79 (.one (.cells [] 3 false 0 false))) (.node aw3H82 (.one (.cells [] 3 false 0 false)))) (.node (.node aw3H82 (.one (.cells [.slice (some ⟨260, 0, none⟩) 2 2] 140 false 0 false))) (.node aw3H83 aw3H84))) (.node (.node (.node (.one (.cells [] 3 false 0 false)) aw3H84) (.node aw3H77 aw3H44)) (.node (.node aw3H83 (.one (.cells [] 3 false 0 false))) (.node aw3H85 (.one (.cells [] 3 false 0 false))))))
noncomputable def aw3H87 : Tri := (.node aw3H85 (.one (.cells [.slice (some ⟨272, 0, none⟩) 2 2] 140 false 0 false)))
noncomputable def aw3S11 : St := ⟨274, (.node (.node (.node (.node (.node (.node (.node (.node (.node (.node (.node (.node (.node (.node aw3H81 (.node (.node (.node (.node aw3H86 (.node (.node (.node aw3H87 .leaf) .leaf) .leaf)) .leaf) .leaf) .leaf)) .leaf) .leaf) .leaf) .leaf) .leaf) .leaf) .leaf) .leaf) .leaf) .leaf) .leaf) .leaf) .leaf), []⟩
noncomputable def aw3H88 : TV := (.node (.one (.slice none 0 0)) (.one (.bool false)))
noncomputable def aw3H89 : TV := (.node aw3H88 (.node (.one (.int .i64 (0))) .leaf))
noncomputable def aw3H90 : TV := (.one (.tuple #[.slice none 0 0, .bool false, .int .i64 (0)]))
noncomputable def aw3H91 : TV := (.node aw3H76 (.node (.node aw3H72 (.one (.bool true))) (.node (.one (.int .i64 (0))) aw3H90)))
noncomputable def aw3H92 : TV := (.one (.agg #[.int .i64 (1), .int .i64 (2)]))
noncomputable def aw3H93 : TV := (.node (.node (.one (.agg #[.slice (some ⟨275, 0, none⟩) 1 1, .slice (some ⟨276, 0, none⟩) 2 2, .slice (some ⟨277, 0, none⟩) 1 1, .slice (some ⟨278, 0, none⟩) 1 1])) aw3H92) (.node (.one (.slice (some ⟨279, 0, none⟩) 1 1)) aw3H90))
noncomputable def aw3A12 : MA := ⟨291, (.node (.node (.node (.node (.node aw3H56 (.node (.node aw3H73 aw3H89) .leaf)) (.node aw3H17 aw3H34)) aw3H65) (.node (.node (.node aw3H75 (.node aw3H91 (.node aw3H93 aw3H89))) .leaf) .leaf)) .leaf), []⟩
noncomputable def aw3H94 : Tri := (.node (.node aw3H86 (.node (.node (.node aw3H87 (.node (.one (.cells [.slice (some ⟨275, 0, none⟩) 1 1, .slice (some ⟨276, 0, none⟩) 2 2, .slice (some ⟨277, 0, none⟩) 1 1, .slice (some ⟨278, 0, none⟩) 1 1] 71 false 0 false)) aw3H43)) (.node (.node aw3H44 aw3H43) (.node aw3H43 (.one (.cells [.int .i64 (1), .int .i64 (2)] 121 false 0 false))))) .leaf)) .leaf)
noncomputable def aw3S12 : St := ⟨349, (.node (.node (.node (.node (.node (.node (.node (.node (.node (.node (.node (.node (.node (.node aw3H81 (.node (.node aw3H94 .leaf) .leaf)) .leaf) .leaf) .leaf) .leaf) .leaf) .leaf) .leaf) .leaf) .leaf) .leaf) .leaf) .leaf) .leaf), []⟩
noncomputable def aw3H95 : TV := (.one (.slice (some ⟨358, 0, none⟩) 2 2))
noncomputable def aw3H96 : TV := (.node aw3H73 (.node aw3H88 (.node (.one (.int .i64 (0))) aw3H95)))
noncomputable def aw3H97 : TV := (.one (.tuple #[.slice (some ⟨358, 0, none⟩) 2 2, .int .i64 (0)]))
noncomputable def aw3H98 : TV := (.node aw3H75 (.node aw3H91 (.node aw3H93 (.node aw3H88 (.node (.one (.int .i64 (0))) aw3H97)))))
noncomputable def aw3H99 : TV := (.node (.node (.one (.slice (some ⟨349, 0, none⟩) 2 2)) (.one (.agg #[.int .i64 (2), .int .i64 (1)]))) (.node aw3H97 aw3H95))
noncomputable def aw3A13 : MA := ⟨291, (.node (.node (.node (.node (.node aw3H56 (.node aw3H96 (.node aw3H14 .leaf))) (.node aw3H17 aw3H34)) aw3H65) (.node (.node aw3H98 (.node (.node (.node aw3H99 aw3H14) .leaf) .leaf)) .leaf)) .leaf), []⟩
noncomputable def aw3H100 : Tri := (.one (.cells [.int .i64 (2), .int .i64 (1)] 59 false 0 false))
noncomputable def aw3H101 : Tri := (.node .leaf (.node .leaf (.node .leaf (.node (.node .leaf aw3H44) (.node aw3H100 .leaf)))))
noncomputable def aw3H102 : Tri := (.one (.cells [.int .i64 (0), .int .i64 (0)] 26 false 0 false))
noncomputable def aw3H103 : Tri := (.node (.node .leaf aw3H102) (.node aw3H100 (.one (.cells [] 3 false 0 false))))
noncomputable def aw3H104 : Tri := (.node (.one (.cells [.int .i64 (-2), .int .i64 (2)] 3 true 1 false)) aw3H79)
noncomputable def aw3H105 : Tri := (.one (.cells [.int .i64 (-1), .int .i64 (1)] 3 false 0 false))
noncomputable def aw3S13 : St := ⟨359, (.node (.node (.node (.node (.node (.node (.node (.node (.node (.node (.node (.node (.node (.node aw3H81 (.node (.node aw3H94 (.node aw3H101 (.node (.node (.node aw3H103 (.node aw3H104 (.node aw3H105 .leaf))) .leaf) .leaf))) .leaf)) .leaf) .leaf) .leaf) .leaf) .leaf) .leaf) .leaf) .leaf) .leaf) .leaf) .leaf) .leaf) .leaf), []⟩
noncomputable def aw3H106 : TV := (.node aw3H99 (.node (.node (.one (.int .i64 (0))) aw3H25) (.node (.one (.slice (some ⟨359, 0, none⟩) 2 2)) (.one (.agg #[.int .i64 (1), .int .i64 (1)])))))
noncomputable def aw3A14 : MA := ⟨291, (.node (.node (.node (.node (.node aw3H56 (.node aw3H96 (.node aw3H24 .leaf))) (.node aw3H17 aw3H34)) aw3H65) (.node (.node aw3H98 (.node (.node aw3H106 (.node (.node (.node aw3H25 (.one (.bool true))) (.node (.one (.int .i64 (0))) .leaf)) .leaf)) .leaf)) .leaf)) .leaf), []⟩
noncomputable def aw3H107 : Tri := (.node (.node aw3H103 (.node aw3H104 (.node aw3H105 aw3H44))) .leaf)
noncomputable def aw3S14 : St := ⟨373, (.node (.node (.node (.node (.node (.node (.node (.node (.node (.node (.node (.node (.node (.node aw3H81 (.node (.node aw3H94 (.node aw3H101 (.node aw3H107 .leaf))) .leaf)) .leaf) .leaf) .leaf) .leaf) .leaf) .leaf) .leaf) .leaf) .leaf) .leaf) .leaf) .leaf) .leaf), []⟩
noncomputable def aw3H108 : TV := (.node aw3H106 (.node (.node (.node aw3H25 (.one (.bool true))) (.node (.one (.int .i64 (0))) aw3H29)) (.node (.node (.one (.slice (some ⟨373, 0, none⟩) 2 2)) aw3H92) (.node aw3H29 (.one (.bool false))))))
noncomputable def aw3A15 : MA := ⟨291, (.node (.node (.node (.node (.node aw3H56 (.node aw3H96 (.node aw3H28 aw3H14))) (.node aw3H17 aw3H34)) aw3H65) (.node (.node aw3H98 (.node aw3H108 (.node (.node aw3H14 .leaf) .leaf))) .leaf)) .leaf), []⟩
noncomputable def aw3H109 : Tri := (.node aw3H94 (.node aw3H101 (.node aw3H107 (.node (.node .leaf (.node (.node .leaf aw3H44) .leaf)) .leaf))))
noncomputable def aw3S15 : St := ⟨387, (.node (.node (.node (.node (.node (.node (.node (.node (.node (.node (.node (.node (.node (.node aw3H81 (.node aw3H109 .leaf)) .leaf) .leaf) .leaf) .leaf) .leaf) .leaf) .leaf) .leaf) .leaf) .leaf) .leaf) .leaf) .leaf), []⟩
noncomputable def aw3H110 : TV := (.one (.slice (some ⟨398, 0, none⟩) 4 4))
noncomputable def aw3H111 : TV := (.one (.tuple #[.slice (some ⟨398, 0, none⟩) 4 4, .int .i64 (0)]))
noncomputable def aw3H112 : TV := (.node (.node (.one (.int .i64 (0))) aw3H111) (.node (.one (.slice (some ⟨387, 0, none⟩) 2 2)) (.one (.slice (some ⟨388, 0, none⟩) 1 1))))
noncomputable def aw3A16 : MA := ⟨291, (.node (.node (.node (.node (.node aw3H56 (.node aw3H96 (.node aw3H28 (.node (.node (.one (.int .i64 (0))) aw3H110) (.node (.one (.int .i64 (0))) .leaf))))) (.node aw3H17 aw3H34)) aw3H65) (.node (.node aw3H98 (.node aw3H108 (.node (.node aw3H112 (.node (.node aw3H111 aw3H110) (.node (.one (.int .i64 (0))) .leaf))) .leaf))) .leaf)) .leaf), []⟩
noncomputable def aw3H113 : Tri := (.one (.cells [.int .i64 (8)] 3 false 0 false))
noncomputable def aw3H114 : Tri := (.one (.cells [.int .i64 (0), .int .i64 (0), .int .i64 (0)] 26 false 0 false))
noncomputable def aw3H115 : Tri := (.node (.node .leaf (.node .leaf aw3H44)) (.node (.node aw3H113 aw3H114) (.node aw3H113 (.one (.cells [.int .i64 (-1)] 155 false 0 false)))))
noncomputable def aw3H116 : Tri := (.node (.node (.one (.cells [.int .i64 (1)] 155 false 0 false)) aw3H113) (.node (.one (.hole)) aw3H113))
noncomputable def aw3H117 : Tri := (.one (.cells [.int .i64 (8), .int .i64 (8), .int .i64 (8), .int .i64 (8)] 3 true 1 false))
noncomputable def aw3S16 : St := ⟨399, (.node (.node (.node (.node (.node (.node (.node (.node (.node (.node (.node (.node (.node (.node aw3H81 (.node aw3H109 (.node (.node (.node (.node aw3H115 (.node aw3H116 (.node (.node (.one (.hole)) aw3H113) (.node aw3H117 .leaf)))) .leaf) .leaf) .leaf))) .leaf) .leaf) .leaf) .leaf) .leaf) .leaf) .leaf) .leaf) .leaf) .leaf) .leaf) .leaf) .leaf), []⟩
noncomputable def aw3H118 : TV := (.one (.slice (some ⟨406, 0, none⟩) 3 3))
noncomputable def aw3H119 : TV := (.node aw3H96 (.node aw3H28 (.node (.node (.one (.int .i64 (0))) aw3H110) (.node (.one (.int .i64 (0))) aw3H118))))
noncomputable def aw3H120 : TV := (.node (.node (.node aw3H56 aw3H119) (.node (.node (.node aw3H14 .leaf) (.node (.node .leaf aw3H5) aw3H16)) aw3H34)) aw3H65)
noncomputable def aw3H121 : TV := (.one (.tuple #[.slice (some ⟨406, 0, none⟩) 3 3, .int .i64 (0)]))
noncomputable def aw3H122 : TV := (.node aw3H112 (.node (.node aw3H111 aw3H110) (.node (.one (.int .i64 (0))) aw3H121)))
noncomputable def aw3H123 : TV := (.node (.node (.one (.slice (some ⟨399, 0, none⟩) 3 3)) (.one (.slice (some ⟨400, 0, none⟩) 2 2))) (.node aw3H121 aw3H118))
noncomputable def aw3A17 : MA := ⟨291, (.node (.node aw3H120 (.node (.node aw3H98 (.node aw3H108 (.node aw3H122 (.node aw3H123 aw3H14)))) .leaf)) .leaf), []⟩
noncomputable def aw3H124 : Tri := (.node aw3H115 (.node aw3H116 (.node (.node (.one (.hole)) aw3H113) (.node aw3H117 (.one (.cells [.int .i64 (0), .int .i64 (0), .int .i64 (3)] 3 false 0 false))))))
noncomputable def aw3H125 : Tri := (.one (.cells [.int .i64 (0), .int .i64 (0)] 155 false 0 false))
noncomputable def aw3H126 : Tri := (.node (.node (.one (.cells [.int .i64 (5), .int .i64 (7)] 3 false 0 false)) aw3H114) (.node (.one (.cells [.int .i64 (5), .int .i64 (21)] 3 false 0 false)) aw3H125))
noncomputable def aw3H127 : Tri := (.one (.cells [.int .i64 (0)] 3 false 0 false))
noncomputable def aw3H128 : Tri := (.one (.cells [.int .i64 (5), .int .i64 (21), .int .i64 (0)] 3 true 1 false))
noncomputable def aw3S17 : St := ⟨407, (.node (.node (.node (.node (.node (.node (.node (.node (.node (.node (.node (.node (.node (.node aw3H81 (.node aw3H109 (.node (.node (.node aw3H124 (.node (.node aw3H126 (.node (.node aw3H125 aw3H127) (.node aw3H128 .leaf))) .leaf)) .leaf) .leaf))) .leaf) .leaf) .leaf) .leaf) .leaf) .leaf) .leaf) .leaf) .leaf) .leaf) .leaf) .leaf) .leaf), []⟩
noncomputable def aw3H129 : TV := (.node aw3H98 (.node aw3H108 (.node aw3H122 (.node aw3H123 (.node aw3H61 aw3H61)))))
noncomputable def aw3H130 : TV := (.node (.one (.bool true)) (.one (.bool false)))
noncomputable def aw3H131 : TV := (.node (.node aw3H62 (.node (.node aw3H61 aw3H63) (.node aw3H130 aw3H63))) (.node (.node (.node (.node aw3H72 (.one (.slice (some ⟨407, 0, none⟩) 1 1))) aw3H130) (.node aw3H63 aw3H63)) (.node (.node (.node (.one (.bool false)) aw3H95) (.node (.one (.slice (some ⟨408, 0, none⟩) 2 2)) (.one (.bool true)))) (.node aw3H63 aw3H64))))
noncomputable def aw3H132 : TV := (.node (.node (.node aw3H63 aw3H63) (.node aw3H63 (.node aw3H110 (.one (.slice (some ⟨409, 0, none⟩) 4 4))))) (.node (.node aw3H130 aw3H63) (.node (.node aw3H118 (.one (.slice (some ⟨410, 0, none⟩) 3 3))) aw3H130)))
noncomputable def aw3A18 : MA := ⟨291, (.node (.node aw3H120 (.node aw3H129 (.node aw3H131 (.node aw3H132 aw3H2)))) .leaf), []⟩
noncomputable def aw3H133 : Tri := (.node aw3H126 (.node (.node aw3H125 aw3H127) (.node aw3H128 aw3H83)))
noncomputable def aw3H134 : Tri := (.node aw3H105 (.one (.cells [.int .i64 (8), .int .i64 (8), .int .i64 (8), .int .i64 (8)] 3 false 0 false)))
noncomputable def aw3H135 : Tri := (.one (.cells [.int .i64 (5), .int .i64 (21), .int .i64 (0)] 3 false 0 false))
noncomputable def aw3S18 : St := ⟨411, (.node (.node (.node (.node (.node (.node (.node (.node (.node (.node (.node (.node (.node (.node aw3H81 (.node aw3H109 (.node (.node (.node aw3H124 (.node aw3H133 (.node (.node aw3H134 (.node aw3H135 .leaf)) .leaf))) .leaf) .leaf))) .leaf) .leaf) .leaf) .leaf) .leaf) .leaf) .leaf) .leaf) .leaf) .leaf) .leaf) .leaf) .leaf), []⟩
noncomputable def aw3H136 : TV := (.one (.slice (some ⟨412, 0, none⟩) 6 6))
noncomputable def aw3H137 : TV := (.one (.tuple #[.slice (some ⟨412, 0, none⟩) 6 6, .int .i64 (0)]))
noncomputable def aw3H138 : TV := (.node (.node (.one (.bool false)) aw3H137) (.node aw3H137 aw3H136))
noncomputable def aw3A19 : MA := ⟨291, (.node (.node (.node (.node (.node aw3H56 aw3H119) (.node (.node (.node (.node (.node (.one (.int .i64 (0))) aw3H136) (.node (.one (.int .i64 (0))) .leaf)) .leaf) (.node (.node .leaf aw3H5) aw3H16)) aw3H34)) aw3H65) (.node aw3H129 (.node aw3H131 (.node aw3H132 (.node (.node aw3H138 aw3H14) .leaf))))) .leaf), []⟩
noncomputable def aw3H139 : Tri := (.one (.cells [.int .i64 (1), .int .i64 (2), .int .i64 (2), .int .i64 (2), .int .i64 (3), .int .i64 (0)] 3 false 0 false))
noncomputable def aw3S19 : St := ⟨413, (.node (.node (.node (.node (.node (.node (.node (.node (.node (.node (.node (.node (.node (.node aw3H81 (.node aw3H109 (.node (.node (.node aw3H124 (.node aw3H133 (.node (.node aw3H134 (.node aw3H135 aw3H114)) (.node (.node aw3H139 .leaf) .leaf)))) .leaf) .leaf))) .leaf) .leaf) .leaf) .leaf) .leaf) .leaf) .leaf) .leaf) .leaf) .leaf) .leaf) .leaf) .leaf), []⟩
noncomputable def aw3H140 : TV := (.node (.node (.one (.int .i64 (0))) aw3H136) aw3H55)
noncomputable def aw3H141 : TV := (.node aw3H138 (.node (.node (.one (.int .i64 (0))) aw3H58) (.node (.one (.slice (some ⟨413, 0, none⟩) 6 6)) aw3H58)))
noncomputable def aw3H142 : TV := (.node (.one (.int .i64 (3))) (.one (.int .i64 (0))))
noncomputable def aw3A20 : MA := ⟨291, (.node (.node (.node (.node (.node aw3H56 aw3H119) (.node (.node (.node aw3H140 aw3H14) (.node (.node .leaf aw3H5) aw3H16)) aw3H34)) aw3H65) (.node aw3H129 (.node aw3H131 (.node aw3H132 (.node aw3H141 (.node (.node aw3H142 .leaf) .leaf)))))) .leaf), []⟩
noncomputable def aw3H143 : Tri := (.node aw3H124 (.node aw3H133 (.node (.node aw3H134 (.node aw3H135 aw3H114)) (.node (.node aw3H139 aw3H139) .leaf))))
noncomputable def aw3S20 : St := ⟨416, (.node (.node (.node (.node (.node (.node (.node (.node (.node (.node (.node (.node (.node (.node aw3H81 (.node aw3H109 (.node (.node aw3H143 .leaf) .leaf))) .leaf) .leaf) .leaf) .leaf) .leaf) .leaf) .leaf) .leaf) .leaf) .leaf) .leaf) .leaf) .leaf), []⟩
noncomputable def aw3H144 : TV := (.one (.slice (some ⟨430, 0, none⟩) 6 6))
noncomputable def aw3H145 : TV := (.one (.tuple #[.slice (some ⟨430, 0, none⟩) 6 6, .int .i64 (0)]))
noncomputable def aw3H146 : TV := (.node aw3H142 (.node aw3H145 (.one (.slice (some ⟨416, 0, none⟩) 6 6))))
noncomputable def aw3A21 : MA := ⟨291, (.node (.node (.node (.node (.node aw3H56 aw3H119) (.node (.node (.node aw3H140 (.node (.node (.one (.int .i64 (0))) aw3H144) (.node (.one (.int .i64 (0))) .leaf))) (.node (.node .leaf aw3H5) aw3H16)) aw3H34)) aw3H65) (.node aw3H129 (.node aw3H131 (.node aw3H132 (.node aw3H141 (.node aw3H146 (.node (.node aw3H145 aw3H144) (.node (.one (.int .i64 (0))) .leaf)))))))) .leaf), []⟩
noncomputable def aw3H147 : Tri := (.node (.node (.node aw3H139 .leaf) (.node aw3H102 aw3H127)) (.node (.node (.one (.hole)) aw3H43) (.node (.one (.hole)) aw3H79)))
noncomputable def aw3H148 : Tri := (.node (.node (.one (.hole)) aw3H83) (.node (.one (.hole)) (.one (.cells [.int .i64 (4)] 3 false 0 false))))
noncomputable def aw3H149 : Tri := (.node (.one (.hole)) (.one (.cells [.int .i64 (5)] 3 false 0 false)))
noncomputable def aw3H150 : Tri := (.one (.cells [.int .i64 (0), .int .i64 (1), .int .i64 (2), .int .i64 (3), .int .i64 (4), .int .i64 (5)] 3 true 1 false))
noncomputable def aw3S21 : St := ⟨431, (.node (.node (.node (.node (.node (.node (.node (.node (.node (.node (.node (.node (.node (.node aw3H81 (.node aw3H109 (.node (.node aw3H143 (.node (.node aw3H147 (.node aw3H148 (.node aw3H149 (.node aw3H150 .leaf)))) .leaf)) .leaf))) .leaf) .leaf) .leaf) .leaf) .leaf) .leaf) .leaf) .leaf) .leaf) .leaf) .leaf) .leaf) .leaf), []⟩
noncomputable def aw3H151 : TV := (.node aw3H140 (.node (.node (.one (.int .i64 (0))) aw3H144) aw3H61))
noncomputable def aw3H152 : TV := (.node aw3H129 (.node aw3H131 (.node aw3H132 (.node aw3H141 (.node aw3H146 (.node (.node aw3H145 aw3H144) (.node (.one (.int .i64 (0))) (.one (.slice (some ⟨431, 0, none⟩) 6 6)))))))))
noncomputable def aw3H153 : TV := (.node (.one (.slice (some ⟨432, 0, none⟩) 6 6)) (.one (.int .i64 (0))))
noncomputable def aw3A22 : MA := ⟨291, (.node (.node (.node (.node (.node aw3H56 aw3H119) (.node (.node aw3H151 (.node (.node .leaf aw3H5) aw3H16)) aw3H34)) aw3H65) aw3H152) (.node (.node (.node (.node (.node (.node (.node aw3H153 .leaf) .leaf) .leaf) .leaf) .leaf) .leaf) .leaf)), []⟩
noncomputable def aw3H154 : Tri := (.node aw3H147 (.node aw3H148 (.node aw3H149 (.node aw3H150 aw3H139))))
noncomputable def aw3H155 : Tri := (.node (.one (.cells [.int .i64 (2), .int .i64 (1), .int .i64 (0), .int .i64 (1), .int .i64 (2), .int .i64 (3)] 3 false 0 false)) .leaf)
noncomputable def aw3S22 : St := ⟨435, (.node (.node (.node (.node (.node (.node (.node (.node (.node (.node (.node (.node (.node (.node aw3H81 (.node aw3H109 (.node (.node aw3H143 (.node aw3H154 (.node (.node (.node aw3H155 .leaf) .leaf) .leaf))) .leaf))) .leaf) .leaf) .leaf) .leaf) .leaf) .leaf) .leaf) .leaf) .leaf) .leaf) .leaf) .leaf) .leaf), []⟩
noncomputable def aw3H156 : TV := (.one (.string ⟨#[112, 108, 97, 110, 116, 110, 117, 109, 32, 49, 10, 112, 108, 97, 110, 116, 100, 101, 110, 32, 45, 49, 32, 50, 10, 99, 111, 110, 116, 114, 111, 108, 108, 101, 114, 110, 117, 109, 32, 49, 10, 99, 111, 110, 116, 114, 111, 108, 108, 101, 114, 100, 101, 110, 32, 49, 10]⟩))
noncomputable def aw3H157 : TV := (.node (.node aw3H151 (.node (.node (.node aw3H156 (.one (.int .i64 (0)))) aw3H5) aw3H16)) aw3H34)
noncomputable def aw3H158 : TV := (.one (.tuple #[.string ⟨#[112, 108, 97, 110, 116, 110, 117, 109, 32, 49, 10, 112, 108, 97, 110, 116, 100, 101, 110, 32, 45, 49, 32, 50, 10, 99, 111, 110, 116, 114, 111, 108, 108, 101, 114, 110, 117, 109, 32, 49, 10, 99, 111, 110, 116, 114, 111, 108, 108, 101, 114, 100, 101, 110, 32, 49, 10]⟩, .int .i64 (0)]))
noncomputable def aw3H159 : TV := (.node aw3H153 (.node aw3H158 (.one (.agg #[.slice (some ⟨436, 0, none⟩) 1 1, .slice (some ⟨437, 0, none⟩) 2 2, .slice (some ⟨438, 0, none⟩) 1 1, .slice (some ⟨439, 0, none⟩) 1 1]))))
noncomputable def aw3A23 : MA := ⟨291, (.node (.node (.node (.node (.node aw3H56 aw3H119) aw3H157) aw3H65) aw3H152) (.node (.node (.node (.node (.node (.node aw3H159 (.node (.node aw3H158 aw3H156) (.node (.one (.int .i64 (0))) .leaf))) .leaf) .leaf) .leaf) .leaf) .leaf)), []⟩
noncomputable def aw3H160 : Tri := (.node aw3H143 (.node aw3H154 (.node (.node (.node aw3H155 (.node .leaf (.one (.cells [.slice (some ⟨436, 0, none⟩) 1 1, .slice (some ⟨437, 0, none⟩) 2 2, .slice (some ⟨438, 0, none⟩) 1 1, .slice (some ⟨439, 0, none⟩) 1 1] 71 false 0 false)))) aw3H45) .leaf)))
noncomputable def aw3S23 : St := ⟨464, (.node (.node (.node (.node (.node (.node (.node (.node (.node (.node (.node (.node (.node (.node aw3H81 (.node aw3H109 (.node aw3H160 .leaf))) .leaf) .leaf) .leaf) .leaf) .leaf) .leaf) .leaf) .leaf) .leaf) .leaf) .leaf) .leaf) .leaf), []⟩
noncomputable def aw3H161 : TV := (.node (.one (.bool true)) (.one (.bool true)))
noncomputable def aw3H162 : TV := (.node (.node (.node (.node (.node (.node (.node (.node (.node (.one (.bool true)) (.one (.slice (some ⟨13, 0, none⟩) 2 2))) aw3H13) aw3H28) (.node aw3H39 (.node aw3H49 aw3H55))) aw3H119) aw3H157) aw3H65) aw3H152) (.node (.node (.node (.node (.node (.node aw3H159 (.node (.node aw3H158 aw3H156) aw3H61)) aw3H62) (.node (.node (.node aw3H161 (.node aw3H136 (.one (.slice (some ⟨464, 0, none⟩) 6 6)))) (.node aw3H161 (.node (.one (.bool true)) (.one (.int .i64 (3)))))) (.node (.node aw3H161 (.node (.one (.bool true)) aw3H144)) (.node (.node (.one (.slice (some ⟨465, 0, none⟩) 6 6)) (.one (.bool true))) aw3H161)))) (.node (.node (.node (.node (.node aw3H156 (.one (.bool true))) (.node (.one (.bool true)) .leaf)) .leaf) .leaf) .leaf)) .leaf) .leaf))
noncomputable def aw3A24 : MA := ⟨291, aw3H162, []⟩
noncomputable def aw3H163 : Tri := (.node (.node (.node (.node (.node (.node (.node (.node (.node (.node (.node (.node (.node (.node aw3H81 (.node aw3H109 (.node aw3H160 (.node (.node .leaf (.node (.node (.node (.node aw3H139 (.one (.cells [.int .i64 (0), .int .i64 (1), .int .i64 (2), .int .i64 (3), .int .i64 (4), .int .i64 (5)] 3 false 0 false))) .leaf) .leaf) .leaf)) .leaf)))) .leaf) .leaf) .leaf) .leaf) .leaf) .leaf) .leaf) .leaf) .leaf) .leaf) .leaf) .leaf) .leaf)
noncomputable def aw3S24 : St := ⟨466, aw3H163, []⟩
noncomputable def aw3A25 : MA := ⟨291, aw3H162, []⟩
noncomputable def aw3S25 : St := ⟨466, aw3H163, []⟩
def aw3R0 : Nat := 0
def aw3W0 : Nat := 0
def aw3RR0 : Nat := 142902310678056587604909754600731638422318421984864386643669642159944849417504598702114284873728616299881533201409689947487610737044052508615
def aw3WW0 : Nat := 89648761530908179774528531960903737588787524080458361052119002694918968717662416604848289712437060341694781082138596535661773195264
def aw3R1 : Nat := 8128
def aw3W1 : Nat := 2048
def aw3RR1 : Nat := 142902310678056587604909754600731638422318421984864386643669642159944849417504598702114284873728616299881533201409689947487610737044052508615
def aw3WW1 : Nat := 89648761530908179774528531960903737588787524080458361052119002694918968717662416604848289712437060341694781082138596535661773195264
def aw3R2 : Nat := 114688
def aw3W2 : Nat := 0
def aw3RR2 : Nat := 142902310678056587604909754600731638422318421984864386643669642159944849417504598702114284873728616299881533201409689947487610737044052502791
def aw3WW2 : Nat := 89648761530908179774528531960903737588787524080458361052119002694918968717662416604848289712437060341694781082138596535661773193216
def aw3R3 : Nat := 262144
def aw3W3 : Nat := 0
def aw3RR3 : Nat := 142902310678056587604909754600731638422318421984864386643669642159944849417504598702114284873728616299881533201409689947487610737044052453639
def aw3WW3 : Nat := 89648761530908179774528531960903737588787524080458361052119002694918968717662416604848289712437060341694781082138596535661773193216
def aw3R4 : Nat := 67108864
def aw3W4 : Nat := 0
def aw3RR4 : Nat := 142902310678056587604909754600731638422318421984864386643669642159944849417504598702114284873728616299881533201409689947487610737044052191495
def aw3WW4 : Nat := 89648761530908179774528531960903737588787524080458361052119002694918968717662416604848289712437060341694781082138596535661773193216
def aw3R5 : Nat := 1073741824
def aw3W5 : Nat := 4398046511104
def aw3RR5 : Nat := 142902310678056587604909754600731638422318421984864386643669642159944849417504598702114284873728616299881533201409689947487610737043985082631
def aw3WW5 : Nat := 89648761530908179774528531960903737588787524080458361052119002694918968717662416604848289712437060341694781082138596535661773193216
def aw3R6 : Nat := 71485847991484416
def aw3W6 : Nat := 49548391994097664
def aw3RR6 : Nat := 142902310678056587604909754600731638422318421984864386643669642159944849417504598702114284873728616299881533201409689947487610737042911340807
def aw3WW6 : Nat := 89648761530908179774528531960903737588787524080458361052119002694918968717662416604848289712437060341694781082138596531263726682112
def aw3R7 : Nat := 2233785415175766017
def aw3W7 : Nat := 20282409603651742481541289213952
def aw3RR7 : Nat := 142902310678056587604909754600731638422318421984864386643669642159944849417504598702114284873728616299881533201409689947487575279991938820359
def aw3WW7 : Nat := 89648761530908179774528531960903737588787524080458361052119002694918968717662416604848289712437060341694781082138546982871732584448
def aw3R8 : Nat := 1257509395426403566284729579732992
def aw3W8 : Nat := 40564819207303340847894502572032
def aw3RR8 : Nat := 142902310678056587604909754600731638422318421984864386643669642159944849417504598702114284873728616299881533201409689947485341494576763054342
def aw3WW8 : Nat := 89648761530908179774528531960903737588787524080458361052119002694918968717662416604848289712437060321412371478486804501330443370496
def aw3R9 : Nat := 748263147854953586862709994806938521608524889532672
def aw3W9 : Nat := 22835963083295358096932575511191922182123945984
def aw3RR9 : Nat := 142902310678056587604909754600731638422318421984864386643669642159944849417504598702114284873728616299881531943900294521081775209847183321350
def aw3WW9 : Nat := 89648761530908179774528531960903737588787524080458361052119002694918968717662416604848289712437060280847552271183463653435940798464
def aw3R10 : Nat := 30354201440888981806180781018463820481507870982493934242678704758137236329529868288
def aw3W10 : Nat := 2609201198670497000107967110970804630665207338103372528024796621718171317591605248
def aw3RR10 : Nat := 142902310678056587604909754600731638422318421984864386643669642159944849417504598702114284125465468444927945081190299714143253601322293788678
def aw3WW10 : Nat := 89648761530908179774528531960903737588787524080458361052119002694918968717662416604825453749353764922750619695672271731253816852480
def aw3R11 : Nat := 1912314690784702054186345314529401423726119232191949841232252840836733905748877115392
def aw3W11 : Nat := 30354201441027016733116592294117482916287606860189680019559568902170379456331382784
def aw3RR11 : Nat := 142902310678056587604909754600731638422318421984864386643639347244053649941590474789440144753192781448177599954916409211668128416515139567622
def aw3WW11 : Nat := 89648761530908179774528531960903737588787524080455751850920332197918860750551445800194788542015661550222594899050553559936225247232
def aw3R12 : Nat := 1159363550382981149119269962575204948572663602024566108049351158310089513862729070479394378597168534553362432
def aw3W12 : Nat := 1027487379963552037201647761095334949476861115147389943434439800045341448487641194015368311793336307576471552
def aw3RR12 : Nat := 142902310678056587604909754600731638422318421984864386641727032553268947887404129474910743329466662215985650113684156370831394510766262452230
def aw3WW12 : Nat := 89648761530908179774528531960903737588787524080425397649479305181185744158257328317278500935155471870203035330148383180479893864448
def aw3R13 : Nat := 1174271291386916613944740298394668513687841274454159935353645485766104512557304221731849499192384351515967488
def aw3W13 : Nat := 0
def aw3RR13 : Nat := 142902310678056587604909754600731066194413732462022239741913654682577219144439331988770370801051235178728066036724542901202393534407467073542
def aw3WW13 : Nat := 89648761530908179774527504473523774036750322432664302314529828320070596768313893877478455593706984229009019961836589844172317392896
def aw3R14 : Nat := 19239260838083241802870625048898248928261591440656956380834127638791856333738872368854622194768025215237611323392
def aw3W14 : Nat := 0
def aw3RR14 : Nat := 142902310678056587604909754600729891923122345545408295001615260014063531303164877828835017155565469074215508732502811051703201150055951106054
def aw3WW14 : Nat := 89648761530908179774527504473523774036750322432664302314529828320070596768313893877478455593706984229009019961836589844172317392896
def aw3R15 : Nat := 645247253472155991580281560679951819671985810293142154634321252787927939730038320972520024189995378533849339969264418816
def aw3W15 : Nat := 219390370501524460253969695277599641666683988257951607047136097674840178823696468684354634507199210288011304650028351488
def aw3RR15 : Nat := 142902310678056587604909754581490631085039103742537669952717011085801939862507921448000889516773612740476636363648188856935175934818339782662
def aw3WW15 : Nat := 89648761530908179774527504473523774036750322432664302314529828320070596768313893877478455593706984229009019961836589844172317392896
def aw3R16 : Nat := 163972867258518695443150867422191254019936317844655693064746869140331123998069415858982479933288752296179851420269465829376
def aw3W16 : Nat := 72302996586433440510365736816084332481231762199218258359258461983138133416471553449630069891843859280205288815236929814528
def aw3RR16 : Nat := 142902310678056587604264507328018475093458822181857718133045025275508797707873600195212961577043574419504116339458193478401326594849075363846
def aw3WW16 : Nat := 89648761530688789404025980013269804341472722790997618326271876713023460670639053698654759125022629594501820751548578539522289041408
def aw3R17 : Nat := 5123829320593948956160403310505283284008867976041193288760765112164092045257868844370362219706193146153723477230622347362304
def aw3W17 : Nat := 0
def aw3RR17 : Nat := 142902310678056587440291640069499779650307954759666464113108707430853104643126731054881837578974158560521636406169441182221475174579609534470
def aw3WW17 : Nat := 89648761458385792817592539502904067525388390309765856127053618353764998687500920282183205675392559702657961471343289724285359226880
def aw3R18 : Nat := 5288447750321988791615322464262168318627237463714249754277190362195246329890490766601513683517722278780729696200186866434048
def aw3W18 : Nat := 10576895500643977583230644928524336637254474927428499508554380724390492659780981533203027367035444557561459392400373732868096
def aw3RR18 : Nat := 142902310678056582316462319475550823489904644254383180104240731389659815882361618890789792321105314190159416699976295028497997943957262172166
def aw3WW18 : Nat := 89648761458385792817592539502904067525388390309765856127053618353764998687500920282183205675392559702657961471343289724285359226880
def aw3R19 : Nat := 21153791001287955166461289857048673274508949854856999017108761448780985319561963066406054734070889115122918784800747465736192
def aw3W19 : Nat := 0
def aw3RR19 : Nat := 142902310678056577028014569153562031874582179992214861477003267675410061605171256695543462430614547588645733182254016247768301743770395738118
def aw3WW19 : Nat := 89648750881490292173614956272259139001051753055290928698554109799384274297008260501201672472365192667213403909883897323911626358784
def aw3R20 : Nat := 1848841333512567281548716733506054044192082217314501714095305750623458116929715572003889183757795708661743101791585328505343180800
def aw3W20 : Nat := 923320669624216667105702379680460491085766643264798293098763219716392447228240563922491477032726168096885159118983025384453308416
def aw3RR20 : Nat := 142902310678056555874223567865606865413292322943541586968053412818411044496409807914558142868651481182590999111364901124849516943022930001926
def aw3WW20 : Nat := 89648750881490292173614956272259139001051753055290928698554109799384274297008260501201672472365192667213403909883897323911626358784
def aw3R21 : Nat := 16636018164724889157470485104858502220618622452254899451022877483687727846833753738239846436624837468584347265768421430973844946944
def aw3W21 : Nat := 0
def aw3RR21 : Nat := 142902310676207714540711000584058148679786268899349504750738911104315738745786349797628427296647591998833203402703158023057931614517586821126
def aw3WW21 : Nat := 88725430211866075506509253892578678509965986412026130405455346579667881849780019937279180995332466499116518750764914298527173050368
def aw3R22 : Nat := 2750488336567848340701786870669939033808945578772810042569115743969704337343180618055654610855306461472612081273712343254342364561414
def aw3W22 : Nat := 88725430211866075506509253892578678509965986412026130405455346579667881849780019937279180995332466499116518750764914298527173050368
def aw3RR22 : Nat := 142902310659571696375986111426587663574927766678730882298484011653292861262098621950794673558407745562208365934118810757289510183543741874182
def aw3WW22 : Nat := 88725430211866075506509253892578678509965986412026130405455346579667881849780019937279180995332466499116518750764914298527173050368
def aw3R23 : Nat := 142902307909083359808137770724800792904988732869785303525673969084177117292394284607614055502753134706901904461506729483577166929201377312768
def aw3W23 : Nat := 0
def aw3RR23 : Nat := 142902307909083359808137770724800792904988732869785303525673969084177117292394284607614055502753134706901904461506729483577166929201377312768
def aw3WW23 : Nat := 0
def aw3R24 : Nat := 0
def aw3W24 : Nat := 0
end Go.Proofs.YtbkpnhbcihcgaaaGreatDoor
end
