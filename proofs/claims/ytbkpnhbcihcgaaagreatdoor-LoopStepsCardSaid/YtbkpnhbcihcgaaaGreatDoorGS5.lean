/-
  The small worlds between the steps.
  A law reckoned in the small world: what it answers and what must hold, told apart.
  THE SMALL WORLD: a known function without arguments where tables of integers and of strings hold.
  Two rows of integers compared.
  Stepped where the numbers do not fit, or the polynomial is none; both sides.
  Stepped of both at the degree 4, known.
-/
import Derived.Test.YtbkpnhbcihcgaaaGreatDoorGS2
import Derived.Test.YtbkpnhbcihcgaaaGreatDoorGS4
import Derived.Test.YtbkpnhbcihcgaaaGreatDoorGS3
import Derived.Test.YtbkpnhbcihcgaaaGreatDoorGS1
import Derived.Test.YtbkpnhbcihcgaaaGreatDoorProg
section
set_option linter.all false
set_option maxRecDepth 1000000
open Go.RowKit
namespace Go.Proofs.YtbkpnhbcihcgaaaGreatDoor
open Mini
noncomputable section
variable (y : SV)
theorem st4_lt {x : Int} (h : Pl.cr x (0 : Int) (24 : Int) = 0) : 0 ≤ x ∧ x ≤ 24 := by
  unfold Pl.cr at h
  split at h <;> omega
theorem rt4_w {x : Int} (h : Pl.cr x (0 : Int) (24 : Int) = 0) : (IntKind.i64.wrap ((4 : Int) + x)) = 4 + x := by
  have := st4_lt h
  exact IntWalk.i64_in _ (by omega)
abbrev zy0 := fun i => Pl.cr (y.h i 0) (-1000) 1000
abbrev zy1 := IntKind.i64.wrap ((y.h 1 0) * (IntKind.i64.wrap ((1 : Int) * (y.g 4 0))))
abbrev zy2 := IntKind.i64.wrap ((IntKind.i64.wrap ((1 : Int) * (y.g 4 0))) * (y.g 4 0))
abbrev zy3 := IntKind.i64.wrap ((y.h 2 0) * (zy2 y))
abbrev zy4 := IntKind.i64.wrap ((zy2 y) * (y.g 4 0))
abbrev zy5 := IntKind.i64.wrap ((y.h 3 0) * (zy4 y))
abbrev zy6 := feN (zy0 y) 4 0
abbrev zy7 := Pl.cr y.x (0 : Int) (24 : Int)
abbrev zy8 := IntKind.i64.wrap ((y.g 0 0) * (zy4 y))
abbrev zy9 := IntKind.i64.wrap ((y.g 1 0) * (zy2 y))
abbrev zy10 := IntKind.i64.wrap ((y.g 2 0) * (IntKind.i64.wrap ((1 : Int) * (y.g 4 0))))
abbrev zy11 := IntKind.i64.wrap ((0 : Int) - (zy8 y))
abbrev zy12 := IntKind.i64.wrap ((0 : Int) - (zy9 y))
abbrev zy13 := IntKind.i64.wrap ((0 : Int) - (zy10 y))
abbrev zy14 := IntKind.i64.wrap ((0 : Int) - (IntKind.i64.wrap ((y.g 3 0) * (1 : Int))))
theorem st4_o2 (h0 : cpV 5 y.g = 0) (h1 : feN (zy0 y) 4 0 = 0) (h2 : Pl.cr y.x (0 : Int) (24 : Int) = 0) (hz : ¬ (0 : Int) < y.x) : SndF Tryz.prog 50 (st4Args y) (wS 6 (st4S y)) (.tuple #[.slice (some ⟨8, 0, none⟩) 4 4, .int .i64 (0 : Int)]) (wS 6 (st4S y ++ [.cells [.int .i64 (IntKind.i64.wrap ((y.h 0 0) * (1 : Int))), .int .i64 (zy1 y), .int .i64 (zy3 y), .int .i64 (zy5 y)] 3 false 0 false])) 192 0 :=
  st4f0_s y h0 h1 h2 (st4_l0 y (cpV 5 y.g) (zy6 y) (zy7 y) (IntKind.i64.wrap ((y.h 0 0) * (1 : Int))) (zy1 y) (zy3 y) (zy5 y) (zy8 y) (zy9 y) (zy10 y) (IntKind.i64.wrap ((y.g 3 0) * (1 : Int))) (zy11 y) (zy12 y) (zy13 y) (zy14 y) hz)
theorem st4_o1 (h0 : cpV 5 y.g = 0) (h1 : feN (zy0 y) 4 0 = 0) (h2 : Pl.cr y.x (0 : Int) (24 : Int) = 0) (hz : (0 : Int) < y.x) (hk : (∀ i, i < y.x.toNat → Pl.cr (rt4D y (i + 4)) (-1073741824 : Int) (1073741824 : Int) = 0)) : SndF Tryz.prog 50 (st4Args y) (wS 6 (st4S y)) (.tuple #[.slice (some ⟨8, 0, none⟩) ((y.x.toNat - 1) + 5) ((y.x.toNat - 1) + 5), .int .i64 (0 : Int)]) (wS 6 (st4S y ++ [.rows ((y.x.toNat - 1) + 5) 1 (fun i j => .int .i64 ((st4F y (y.x.toNat - 1)) i j)) 3 true 1 false])) 192 0 := by
  have hx := st4_lt h2
  exact st4f1_s y (y.x.toNat - 1) h0 h1 h2 (st4_l1 y (cpV 5 y.g) (zy6 y) (zy7 y) (IntKind.i64.wrap ((y.h 0 0) * (1 : Int))) (zy1 y) (zy3 y) (zy5 y) (zy8 y) (zy9 y) (zy10 y) (IntKind.i64.wrap ((y.g 3 0) * (1 : Int))) (zy11 y) (zy12 y) (zy13 y) (zy14 y) (y.x.toNat - 1) (by omega) (by omega) (fun i hi => by
    have hk := hk i (by omega)
    rw [← (st4_at y i).2] at hk
    exact hk))
theorem st4_o0 (hp : cpV 5 y.g ≠ 0 ∨ feN (fun i => Pl.cr (y.h i 0) (-1000) 1000) 4 0 ≠ 0 ∨ Pl.cr y.x (0 : Int) (24 : Int) ≠ 0 ∨ (∃ i, i < y.x.toNat ∧ Pl.cr (rt4D y (i + 4)) (-1073741824 : Int) (1073741824 : Int) ≠ 0)) : SndF Tryz.prog 50 (st4Args y) (wS 6 (st4S y)) (.tuple #[.slice none 0 0, .int .i64 (th2 (th2 (th2 (cpV 5 y.g) (feN (fun i => Pl.cr (y.h i 0) (-1000) 1000) 4 0)) (Pl.cr y.x (0 : Int) (24 : Int))) 4)]) (wS 6 (st4S y)) 192 0 := by
  by_cases h0 : cpV 5 y.g = 0
  · by_cases h1 : feN (fun i => Pl.cr (y.h i 0) (-1000) 1000) 4 0 = 0
    · by_cases h2 : Pl.cr y.x (0 : Int) (24 : Int) = 0
      · have hx := st4_lt h2
        have ev : (th2 (th2 (th2 (cpV 5 y.g) (feN (fun i => Pl.cr (y.h i 0) (-1000) 1000) 4 0)) (Pl.cr y.x (0 : Int) (24 : Int))) 4) = 4 := by rw [h0, h1, h2]; rfl
        rw [ev]
        rcases first_or (p := fun i => Pl.cr (rt4D y (i + 4)) (-1073741824 : Int) (1073741824 : Int) ≠ 0) (fun _ => inferInstance) y.x.toNat with ha | ⟨j, hj, hb, hk⟩
        · rcases hp with k | k | k | ⟨i, k1, k2⟩
          · exact absurd h0 k
          · exact absurd h1 k
          · exact absurd h2 k
          · exact absurd k2 (ha i k1)
        · have hk : ∀ i, i < j → Pl.cr (rt4D y (i + 4)) (-1073741824 : Int) (1073741824 : Int) = 0 := fun i hi => Decidable.not_not.1 (hk i hi)
          skip
          rw [← (st4_at y _).2] at hb
          have hb : Pl.cr (st4EE y (cpV 5 y.g) (feN (fun i => Pl.cr (y.h i 0) (-1000) 1000) 4 0) (Pl.cr y.x (0 : Int) (24 : Int)) (IntKind.i64.wrap ((y.h 0 0) * (1 : Int))) (IntKind.i64.wrap ((y.h 1 0) * (IntKind.i64.wrap ((1 : Int) * (y.g 4 0))))) (IntKind.i64.wrap ((y.h 2 0) * (IntKind.i64.wrap ((IntKind.i64.wrap ((1 : Int) * (y.g 4 0))) * (y.g 4 0))))) (IntKind.i64.wrap ((y.h 3 0) * (IntKind.i64.wrap ((IntKind.i64.wrap ((IntKind.i64.wrap ((1 : Int) * (y.g 4 0))) * (y.g 4 0))) * (y.g 4 0))))) (IntKind.i64.wrap ((y.g 0 0) * (IntKind.i64.wrap ((IntKind.i64.wrap ((IntKind.i64.wrap ((1 : Int) * (y.g 4 0))) * (y.g 4 0))) * (y.g 4 0))))) (IntKind.i64.wrap ((y.g 1 0) * (IntKind.i64.wrap ((IntKind.i64.wrap ((1 : Int) * (y.g 4 0))) * (y.g 4 0))))) (IntKind.i64.wrap ((y.g 2 0) * (IntKind.i64.wrap ((1 : Int) * (y.g 4 0))))) (IntKind.i64.wrap ((y.g 3 0) * (1 : Int))) (IntKind.i64.wrap ((0 : Int) - (IntKind.i64.wrap ((y.g 0 0) * (IntKind.i64.wrap ((IntKind.i64.wrap ((IntKind.i64.wrap ((1 : Int) * (y.g 4 0))) * (y.g 4 0))) * (y.g 4 0))))))) (IntKind.i64.wrap ((0 : Int) - (IntKind.i64.wrap ((y.g 1 0) * (IntKind.i64.wrap ((IntKind.i64.wrap ((1 : Int) * (y.g 4 0))) * (y.g 4 0))))))) (IntKind.i64.wrap ((0 : Int) - (IntKind.i64.wrap ((y.g 2 0) * (IntKind.i64.wrap ((1 : Int) * (y.g 4 0))))))) (IntKind.i64.wrap ((0 : Int) - (IntKind.i64.wrap ((y.g 3 0) * (1 : Int))))) j) (-1073741824 : Int) (1073741824 : Int) ≠ 0 := hb
          rcases j with _ | q
          · exact st4f2_s y h0 h1 h2 (st4_b0 y (cpV 5 y.g) (feN (fun i => Pl.cr (y.h i 0) (-1000) 1000) 4 0) (Pl.cr y.x (0 : Int) (24 : Int)) (IntKind.i64.wrap ((y.h 0 0) * (1 : Int))) (IntKind.i64.wrap ((y.h 1 0) * (IntKind.i64.wrap ((1 : Int) * (y.g 4 0))))) (IntKind.i64.wrap ((y.h 2 0) * (IntKind.i64.wrap ((IntKind.i64.wrap ((1 : Int) * (y.g 4 0))) * (y.g 4 0))))) (IntKind.i64.wrap ((y.h 3 0) * (IntKind.i64.wrap ((IntKind.i64.wrap ((IntKind.i64.wrap ((1 : Int) * (y.g 4 0))) * (y.g 4 0))) * (y.g 4 0))))) (IntKind.i64.wrap ((y.g 0 0) * (IntKind.i64.wrap ((IntKind.i64.wrap ((IntKind.i64.wrap ((1 : Int) * (y.g 4 0))) * (y.g 4 0))) * (y.g 4 0))))) (IntKind.i64.wrap ((y.g 1 0) * (IntKind.i64.wrap ((IntKind.i64.wrap ((1 : Int) * (y.g 4 0))) * (y.g 4 0))))) (IntKind.i64.wrap ((y.g 2 0) * (IntKind.i64.wrap ((1 : Int) * (y.g 4 0))))) (IntKind.i64.wrap ((y.g 3 0) * (1 : Int))) (IntKind.i64.wrap ((0 : Int) - (IntKind.i64.wrap ((y.g 0 0) * (IntKind.i64.wrap ((IntKind.i64.wrap ((IntKind.i64.wrap ((1 : Int) * (y.g 4 0))) * (y.g 4 0))) * (y.g 4 0))))))) (IntKind.i64.wrap ((0 : Int) - (IntKind.i64.wrap ((y.g 1 0) * (IntKind.i64.wrap ((IntKind.i64.wrap ((1 : Int) * (y.g 4 0))) * (y.g 4 0))))))) (IntKind.i64.wrap ((0 : Int) - (IntKind.i64.wrap ((y.g 2 0) * (IntKind.i64.wrap ((1 : Int) * (y.g 4 0))))))) (IntKind.i64.wrap ((0 : Int) - (IntKind.i64.wrap ((y.g 3 0) * (1 : Int))))) (by omega) hb)
          · exact st4f3_s y q h0 h1 h2 (st4_b1 y (cpV 5 y.g) (feN (fun i => Pl.cr (y.h i 0) (-1000) 1000) 4 0) (Pl.cr y.x (0 : Int) (24 : Int)) (IntKind.i64.wrap ((y.h 0 0) * (1 : Int))) (IntKind.i64.wrap ((y.h 1 0) * (IntKind.i64.wrap ((1 : Int) * (y.g 4 0))))) (IntKind.i64.wrap ((y.h 2 0) * (IntKind.i64.wrap ((IntKind.i64.wrap ((1 : Int) * (y.g 4 0))) * (y.g 4 0))))) (IntKind.i64.wrap ((y.h 3 0) * (IntKind.i64.wrap ((IntKind.i64.wrap ((IntKind.i64.wrap ((1 : Int) * (y.g 4 0))) * (y.g 4 0))) * (y.g 4 0))))) (IntKind.i64.wrap ((y.g 0 0) * (IntKind.i64.wrap ((IntKind.i64.wrap ((IntKind.i64.wrap ((1 : Int) * (y.g 4 0))) * (y.g 4 0))) * (y.g 4 0))))) (IntKind.i64.wrap ((y.g 1 0) * (IntKind.i64.wrap ((IntKind.i64.wrap ((1 : Int) * (y.g 4 0))) * (y.g 4 0))))) (IntKind.i64.wrap ((y.g 2 0) * (IntKind.i64.wrap ((1 : Int) * (y.g 4 0))))) (IntKind.i64.wrap ((y.g 3 0) * (1 : Int))) (IntKind.i64.wrap ((0 : Int) - (IntKind.i64.wrap ((y.g 0 0) * (IntKind.i64.wrap ((IntKind.i64.wrap ((IntKind.i64.wrap ((1 : Int) * (y.g 4 0))) * (y.g 4 0))) * (y.g 4 0))))))) (IntKind.i64.wrap ((0 : Int) - (IntKind.i64.wrap ((y.g 1 0) * (IntKind.i64.wrap ((IntKind.i64.wrap ((1 : Int) * (y.g 4 0))) * (y.g 4 0))))))) (IntKind.i64.wrap ((0 : Int) - (IntKind.i64.wrap ((y.g 2 0) * (IntKind.i64.wrap ((1 : Int) * (y.g 4 0))))))) (IntKind.i64.wrap ((0 : Int) - (IntKind.i64.wrap ((y.g 3 0) * (1 : Int))))) q (by omega) (by omega) (fun i hi => by
            have hk := hk i (by omega)
            rw [← (st4_at y i).2] at hk
            exact hk) hb)
      · have ev : (th2 (th2 (th2 (cpV 5 y.g) (feN (fun i => Pl.cr (y.h i 0) (-1000) 1000) 4 0)) (Pl.cr y.x (0 : Int) (24 : Int))) 4) = Pl.cr y.x (0 : Int) (24 : Int) := by
          rw [h0, h1, show th2 (th2 (0 : Int) 0) (Pl.cr y.x (0 : Int) (24 : Int)) = Pl.cr y.x (0 : Int) (24 : Int) from rfl]; exact if_neg h2
        rw [ev]; exact st4f4_s y h0 h1 h2
    · have ev : (th2 (th2 (th2 (cpV 5 y.g) (feN (fun i => Pl.cr (y.h i 0) (-1000) 1000) 4 0)) (Pl.cr y.x (0 : Int) (24 : Int))) 4) = feN (fun i => Pl.cr (y.h i 0) (-1000) 1000) 4 0 := by
        rw [h0, show th2 (0 : Int) (feN (fun i => Pl.cr (y.h i 0) (-1000) 1000) 4 0) = feN (fun i => Pl.cr (y.h i 0) (-1000) 1000) 4 0 from rfl]
        unfold th2
        rw [if_neg h1, if_neg h1]
      rw [ev]; exact st4f5_s y h0 h1
  · have ev : (th2 (th2 (th2 (cpV 5 y.g) (feN (fun i => Pl.cr (y.h i 0) (-1000) 1000) 4 0)) (Pl.cr y.x (0 : Int) (24 : Int))) 4) = cpV 5 y.g := by
      unfold th2
      rw [if_neg h0, if_neg h0, if_neg h0]
    rw [ev]; exact st4f6_s y h0
def kS4 : CallS := fun f xs s q => match decide (f = 50) with
  | true => match xs.toList, q.rest with
    | [.slice (some ⟨b, 0, none⟩) 5 c, .slice (some ⟨b2, 0, none⟩) 4 c2, .int .i64 x], .n dd :: rest => match Nat.ble 6 b, Nat.ble 6 b2, Nat.beq b b2, rowK 1 .i64 s b 5, rowK 1 .i64 s b2 4, dd with
      | true, true, false, some (g, e, opn, sz, ro, p), some (h, e2, opn2, sz2, ro2, p2), 2 => some (.tuple #[.slice (some ⟨s.next, 0, none⟩) 4 4, .int .i64 (0 : Int)], s.push (.cells [.int .i64 (IntKind.i64.wrap ((h 0 0) * (1 : Int))), .int .i64 (IntKind.i64.wrap ((h 1 0) * (IntKind.i64.wrap ((1 : Int) * (g 4 0))))), .int .i64 (IntKind.i64.wrap ((h 2 0) * (IntKind.i64.wrap ((IntKind.i64.wrap ((1 : Int) * (g 4 0))) * (g 4 0))))), .int .i64 (IntKind.i64.wrap ((h 3 0) * (IntKind.i64.wrap ((IntKind.i64.wrap ((IntKind.i64.wrap ((1 : Int) * (g 4 0))) * (g 4 0))) * (g 4 0)))))] 3 false 0 false), 2 ^ b ||| 2 ^ b2, 0, ⟨rest, q.ob ∧ (p ∧ p2 ∧ (cpV 5 g = 0 ∧ feN (fun i => Pl.cr (h i 0) (-1000) 1000) 4 0 = 0 ∧ Pl.cr x (0 : Int) (24 : Int) = 0 ∧ ¬ (0 : Int) < x))⟩)
      | true, true, false, some (g, e, opn, sz, ro, p), some (h, e2, opn2, sz2, ro2, p2), 1 => some (.tuple #[.slice (some ⟨s.next, 0, none⟩) ((x.toNat - 1) + 5) ((x.toNat - 1) + 5), .int .i64 (0 : Int)], s.push (.rows ((x.toNat - 1) + 5) 1 (fun i j => .int .i64 ((st4F ⟨c, g, e, opn, sz, ro, c2, h, e2, opn2, sz2, ro2, x⟩ (x.toNat - 1)) i j)) 3 true 1 false), 2 ^ b ||| 2 ^ b2, 0, ⟨rest, q.ob ∧ (p ∧ p2 ∧ (cpV 5 g = 0 ∧ feN (fun i => Pl.cr (h i 0) (-1000) 1000) 4 0 = 0 ∧ Pl.cr x (0 : Int) (24 : Int) = 0 ∧ (0 : Int) < x ∧ (∀ i, i < x.toNat → Pl.cr (rt4D ⟨c, g, e, opn, sz, ro, c2, h, e2, opn2, sz2, ro2, x⟩ (i + 4)) (-1073741824 : Int) (1073741824 : Int) = 0)))⟩)
      | true, true, false, some (g, e, opn, sz, ro, p), some (h, e2, opn2, sz2, ro2, p2), 0 => some (.tuple #[.slice none 0 0, .int .i64 (th2 (th2 (th2 (cpV 5 g) (feN (fun i => Pl.cr (h i 0) (-1000) 1000) 4 0)) (Pl.cr x (0 : Int) (24 : Int))) 4)], s, 2 ^ b ||| 2 ^ b2, 0, ⟨rest, q.ob ∧ (p ∧ p2 ∧ (cpV 5 g ≠ 0 ∨ feN (fun i => Pl.cr (h i 0) (-1000) 1000) 4 0 ≠ 0 ∨ Pl.cr x (0 : Int) (24 : Int) ≠ 0 ∨ (∃ i, i < x.toNat ∧ Pl.cr (rt4D ⟨c, g, e, opn, sz, ro, c2, h, e2, opn2, sz2, ro2, x⟩ (i + 4)) (-1073741824 : Int) (1073741824 : Int) ≠ 0)))⟩)
      | _, _, _, _, _, _ => none
    | _, _ => none
  | false => none
theorem kS4_ok : FOkS Tryz.prog kS4 := fun f xs s q u s1 R W q1 he => by
  unfold kS4 at he
  split at he
  · rename_i hf
    have hf := of_decide_eq_true hf
    subst hf
    split at he
    · rename_i b c b2 c2 x dd rest hx0 hrest
      have hxs : xs = #[.slice (some ⟨b, 0, none⟩) 5 c, .slice (some ⟨b2, 0, none⟩) 4 c2, .int .i64 x] := by apply Array.ext'; exact hx0
      subst hxs
      split at he
      · rename_i g e opn sz ro p h e2 opn2 sz2 ro2 p2 k1 k2 k3 k4 k5
        cases he
        refine ⟨fun hq => hq.1, fun hq => ?_⟩
        obtain ⟨l1, l2, hx⟩ := hq.2
        obtain ⟨m1, w1⟩ := rowK_wo k4 l1
        obtain ⟨m2, w2⟩ := rowK_wo k5 l2
        have b1 := Nat.le_of_ble_eq_true k1
        have b3 := Nat.le_of_ble_eq_true k2
        have hne : b ≠ b2 := fun e => by rw [e, Nat.beq_refl] at k3; cases k3
        refine SndF.rowsNew (N := 6) (bs := [b, b2]) (s0 := wS 6 [rowI 1 5 g e opn sz ro, rowI 1 4 h e2 opn2 sz2 ro2]) (o1 := .cells [.int .i64 (IntKind.i64.wrap ((h 0 0) * (1 : Int))), .int .i64 (IntKind.i64.wrap ((h 1 0) * (IntKind.i64.wrap ((1 : Int) * (g 4 0))))), .int .i64 (IntKind.i64.wrap ((h 2 0) * (IntKind.i64.wrap ((IntKind.i64.wrap ((1 : Int) * (g 4 0))) * (g 4 0))))), .int .i64 (IntKind.i64.wrap ((h 3 0) * (IntKind.i64.wrap ((IntKind.i64.wrap ((IntKind.i64.wrap ((1 : Int) * (g 4 0))) * (g 4 0))) * (g 4 0)))))] 3 false 0 false) sng (st4_o2 ⟨c, g, e, opn, sz, ro, c2, h, e2, opn2, sz2, ro2, x⟩ hx.1 hx.2.1 hx.2.2.1 hx.2.2.2) rfl (fun x' hx' => ?_) (by simp [hne]) (by omega) (fun x' hx' _ => ?_) (fun x' hx' => ?_) (fun f j hj => ?_) (fun f hl hf => wvs_three (slice_wv (hf 0 (by simp))) (slice_wv (hf 1 (by simp))) (ground_wv (n := 8) rfl)) (fun f _ hf hn => ⟨wv_tuple (wvs_two (slice_wv hn) (ground_wv (n := 8) rfl)), keep_wo (N := fun _ => false) (fun b hb => by cases hb) rfl⟩)
        · simp at hx'
          rcases hx' with rfl | rfl <;> omega
        · rcases Nat.lt_or_ge x' 6 with k | k
          · have hz := (by decide : ∀ b, b < 6 → Nat.testBit 192 b = false) x' k
            rw [hz] at hx'; cases hx'
          · exact k
        · simp at hx'
          rcases hx' with rfl | rfl <;> simp [or_bit, bit_self]
        · match j, hj with
          | 0, _ => exact w1 f
          | 1, _ => exact w2 f
      · rename_i g e opn sz ro p h e2 opn2 sz2 ro2 p2 k1 k2 k3 k4 k5
        cases he
        refine ⟨fun hq => hq.1, fun hq => ?_⟩
        obtain ⟨l1, l2, hx⟩ := hq.2
        obtain ⟨m1, w1⟩ := rowK_wo k4 l1
        obtain ⟨m2, w2⟩ := rowK_wo k5 l2
        have b1 := Nat.le_of_ble_eq_true k1
        have b3 := Nat.le_of_ble_eq_true k2
        have hne : b ≠ b2 := fun e => by rw [e, Nat.beq_refl] at k3; cases k3
        refine SndF.rowsNew (N := 6) (bs := [b, b2]) (s0 := wS 6 [rowI 1 5 g e opn sz ro, rowI 1 4 h e2 opn2 sz2 ro2]) (o1 := .rows ((x.toNat - 1) + 5) 1 (fun i j => .int .i64 ((st4F ⟨c, g, e, opn, sz, ro, c2, h, e2, opn2, sz2, ro2, x⟩ (x.toNat - 1)) i j)) 3 true 1 false) sng (st4_o1 ⟨c, g, e, opn, sz, ro, c2, h, e2, opn2, sz2, ro2, x⟩ hx.1 hx.2.1 hx.2.2.1 hx.2.2.2.1 hx.2.2.2.2) rfl (fun x' hx' => ?_) (by simp [hne]) (by omega) (fun x' hx' _ => ?_) (fun x' hx' => ?_) (fun f j hj => ?_) (fun f hl hf => wvs_three (slice_wv (hf 0 (by simp))) (slice_wv (hf 1 (by simp))) (ground_wv (n := 8) rfl)) (fun f _ hf hn => ⟨wv_tuple (wvs_two (slice_wv hn) (ground_wv (n := 8) rfl)), keep_wo (N := fun _ => false) (fun b hb => by cases hb) (fun i j => rfl)⟩)
        · simp at hx'
          rcases hx' with rfl | rfl <;> omega
        · rcases Nat.lt_or_ge x' 6 with k | k
          · have hz := (by decide : ∀ b, b < 6 → Nat.testBit 192 b = false) x' k
            rw [hz] at hx'; cases hx'
          · exact k
        · simp at hx'
          rcases hx' with rfl | rfl <;> simp [or_bit, bit_self]
        · match j, hj with
          | 0, _ => exact w1 f
          | 1, _ => exact w2 f
      · rename_i g e opn sz ro p h e2 opn2 sz2 ro2 p2 k1 k2 k3 k4 k5
        cases he
        refine ⟨fun hq => hq.1, fun hq => ?_⟩
        obtain ⟨l1, l2, hx⟩ := hq.2
        obtain ⟨m1, w1⟩ := rowK_wo k4 l1
        obtain ⟨m2, w2⟩ := rowK_wo k5 l2
        have b1 := Nat.le_of_ble_eq_true k1
        have b3 := Nat.le_of_ble_eq_true k2
        have hne : b ≠ b2 := fun e => by rw [e, Nat.beq_refl] at k3; cases k3
        refine SndF.rows (N := 6) (bs := [b, b2]) (s0 := wS 6 [rowI 1 5 g e opn sz ro, rowI 1 4 h e2 opn2 sz2 ro2]) sng (st4_o0 ⟨c, g, e, opn, sz, ro, c2, h, e2, opn2, sz2, ro2, x⟩ hx) rfl rfl (fun x' hx' => ?_) (by simp [hne]) (by omega) (fun x' hx' _ => ?_) (fun x' hx' => ?_) (fun f j hj => ?_) (fun f _ hf => ?_)
        · simp at hx'
          rcases hx' with rfl | rfl <;> omega
        · rcases Nat.lt_or_ge x' 6 with k | k
          · have hz := (by decide : ∀ b, b < 6 → Nat.testBit 192 b = false) x' k
            rw [hz] at hx'; cases hx'
          · exact k
        · simp at hx'
          rcases hx' with rfl | rfl <;> simp [or_bit, bit_self]
        · match j, hj with
          | 0, _ => exact w1 f
          | 1, _ => exact w2 f
        · exact wvs_three (slice_wv (hf 0 (by simp))) (slice_wv (hf 1 (by simp))) (ground_wv (n := 8) rfl)
      · cases he
    · cases he
  · cases he
theorem rt4_o2 (h0 : cpV 5 y.g = 0) (h1 : feN (zy0 y) 4 0 = 0) (h2 : Pl.cr y.x (0 : Int) (24 : Int) = 0) (hz : ¬ (0 : Int) < y.x) : SndF Tryz.prog 52 (rt4Args y) (wS 6 (rt4S y)) (.tuple #[.slice (some ⟨8, 0, none⟩) 4 4, .int .i64 (0 : Int)]) (wS 6 (rt4S y ++ [.rows 4 1 (fun i j => .int .i64 ((rt4F y 4) i j)) 3 true 1 false])) 192 0 :=
  rt4f0_s y h0 h1 h2 (rt4_l0 y (zy6 y) (zy7 y) (by rw [rt4_w h2]; omega) (by have := st4_lt h2; rw [rt4_w h2]; omega) (rt4_in y h0 h1))
theorem rt4_o1 (h0 : cpV 5 y.g = 0) (h1 : feN (fun i => Pl.cr (y.h i 0) (-1000) 1000) 4 0 = 0) (h2 : Pl.cr y.x (0 : Int) (24 : Int) = 0) (hz : (0 : Int) < y.x) (hk : (∀ i, i < y.x.toNat → Pl.cr (rt4D y (i + 4)) (-1073741824 : Int) (1073741824 : Int) = 0)) : SndF Tryz.prog 52 (rt4Args y) (wS 6 (rt4S y)) (.tuple #[.slice (some ⟨8, 0, none⟩) ((y.x.toNat - 1) + 5) ((y.x.toNat - 1) + 5), .int .i64 (0 : Int)]) (wS 6 (rt4S y ++ [.rows ((y.x.toNat - 1) + 5) 1 (fun i j => .int .i64 ((rt4F y ((y.x.toNat - 1) + 5)) i j)) 3 true 1 false])) 192 0 := by
  have hx := st4_lt h2
  exact rt4f1_s y (y.x.toNat - 1) h0 h1 h2 (rt4_l1 y (feN (fun i => Pl.cr (y.h i 0) (-1000) 1000) 4 0) (Pl.cr y.x (0 : Int) (24 : Int)) (y.x.toNat - 1) (by rw [rt4_w h2]; omega) (by omega) (fun i hi => by
    rcases Nat.lt_or_ge i 4 with c0 | c0
    · exact rt4_in y h0 h1 i c0
    · have hk := hk (i - 4) (by omega)
      rw [show i - 4 + 4 = i by omega] at hk
      exact hk))
theorem rt4_o0 (hp : cpV 5 y.g ≠ 0 ∨ feN (fun i => Pl.cr (y.h i 0) (-1000) 1000) 4 0 ≠ 0 ∨ Pl.cr y.x (0 : Int) (24 : Int) ≠ 0 ∨ (∃ i, i < y.x.toNat ∧ Pl.cr (rt4D y (i + 4)) (-1073741824 : Int) (1073741824 : Int) ≠ 0)) : SndF Tryz.prog 52 (rt4Args y) (wS 6 (rt4S y)) (.tuple #[.slice none 0 0, .int .i64 (th2 (th2 (th2 (cpV 5 y.g) (feN (fun i => Pl.cr (y.h i 0) (-1000) 1000) 4 0)) (Pl.cr y.x (0 : Int) (24 : Int))) 4)]) (wS 6 (rt4S y)) 192 0 := by
  by_cases h0 : cpV 5 y.g = 0
  · by_cases h1 : feN (fun i => Pl.cr (y.h i 0) (-1000) 1000) 4 0 = 0
    · by_cases h2 : Pl.cr y.x (0 : Int) (24 : Int) = 0
      · have hx := st4_lt h2
        have ev : (th2 (th2 (th2 (cpV 5 y.g) (feN (fun i => Pl.cr (y.h i 0) (-1000) 1000) 4 0)) (Pl.cr y.x (0 : Int) (24 : Int))) 4) = 4 := by rw [h0, h1, h2]; rfl
        rw [ev]
        rcases first_or (p := fun i => Pl.cr (rt4D y (i + 4)) (-1073741824 : Int) (1073741824 : Int) ≠ 0) (fun _ => inferInstance) y.x.toNat with ha | ⟨j, hj, hb, hk⟩
        · rcases hp with k | k | k | ⟨i, k1, k2⟩
          · exact absurd h0 k
          · exact absurd h1 k
          · exact absurd h2 k
          · exact absurd k2 (ha i k1)
        · have hk : ∀ i, i < j → Pl.cr (rt4D y (i + 4)) (-1073741824 : Int) (1073741824 : Int) = 0 := fun i hi => Decidable.not_not.1 (hk i hi)
          skip
          have hb : Pl.cr (rt4EE y (feN (fun i => Pl.cr (y.h i 0) (-1000) 1000) 4 0) (Pl.cr y.x (0 : Int) (24 : Int)) (j + 4)) (-1073741824 : Int) (1073741824 : Int) ≠ 0 := hb
          rcases j with _ | q
          · exact rt4f2_s y h0 h1 h2 (rt4_b0 y (feN (fun i => Pl.cr (y.h i 0) (-1000) 1000) 4 0) (Pl.cr y.x (0 : Int) (24 : Int)) (by rw [rt4_w h2]; omega) (rt4_in y h0 h1) hb)
          · exact rt4f3_s y q h0 h1 h2 (rt4_b1 y (feN (fun i => Pl.cr (y.h i 0) (-1000) 1000) 4 0) (Pl.cr y.x (0 : Int) (24 : Int)) q (by rw [rt4_w h2]; omega) (by omega) (fun i hi => by
            rcases Nat.lt_or_ge i 4 with c0 | c0
            · exact rt4_in y h0 h1 i c0
            · have hk := hk (i - 4) (by omega)
              rw [show i - 4 + 4 = i by omega] at hk
              exact hk) hb)
      · have ev : (th2 (th2 (th2 (cpV 5 y.g) (feN (fun i => Pl.cr (y.h i 0) (-1000) 1000) 4 0)) (Pl.cr y.x (0 : Int) (24 : Int))) 4) = Pl.cr y.x (0 : Int) (24 : Int) := by
          rw [h0, h1, show th2 (th2 (0 : Int) 0) (Pl.cr y.x (0 : Int) (24 : Int)) = Pl.cr y.x (0 : Int) (24 : Int) from rfl]; exact if_neg h2
        rw [ev]; exact rt4f4_s y h0 h1 h2
    · have ev : (th2 (th2 (th2 (cpV 5 y.g) (feN (fun i => Pl.cr (y.h i 0) (-1000) 1000) 4 0)) (Pl.cr y.x (0 : Int) (24 : Int))) 4) = feN (fun i => Pl.cr (y.h i 0) (-1000) 1000) 4 0 := by
        rw [h0, show th2 (0 : Int) (feN (fun i => Pl.cr (y.h i 0) (-1000) 1000) 4 0) = feN (fun i => Pl.cr (y.h i 0) (-1000) 1000) 4 0 from rfl]
        unfold th2
        rw [if_neg h1, if_neg h1]
      rw [ev]; exact rt4f5_s y h0 h1
  · have ev : (th2 (th2 (th2 (cpV 5 y.g) (feN (fun i => Pl.cr (y.h i 0) (-1000) 1000) 4 0)) (Pl.cr y.x (0 : Int) (24 : Int))) 4) = cpV 5 y.g := by
      unfold th2
      rw [if_neg h0, if_neg h0, if_neg h0]
    rw [ev]; exact rt4f6_s y h0
def kT4 : CallS := fun f xs s q => match decide (f = 52) with
  | true => match xs.toList, q.rest with
    | [.slice (some ⟨b, 0, none⟩) 5 c, .slice (some ⟨b2, 0, none⟩) 4 c2, .int .i64 x], .n dd :: rest => match Nat.ble 6 b, Nat.ble 6 b2, Nat.beq b b2, rowK 1 .i64 s b 5, rowK 1 .i64 s b2 4, dd with
      | true, true, false, some (g, e, opn, sz, ro, p), some (h, e2, opn2, sz2, ro2, p2), 2 => some (.tuple #[.slice (some ⟨s.next, 0, none⟩) 4 4, .int .i64 (0 : Int)], s.push (.rows 4 1 (fun i j => .int .i64 ((rt4F ⟨c, g, e, opn, sz, ro, c2, h, e2, opn2, sz2, ro2, x⟩ 4) i j)) 3 true 1 false), 2 ^ b ||| 2 ^ b2, 0, ⟨rest, q.ob ∧ (p ∧ p2 ∧ (cpV 5 g = 0 ∧ feN (fun i => Pl.cr (h i 0) (-1000) 1000) 4 0 = 0 ∧ Pl.cr x (0 : Int) (24 : Int) = 0 ∧ ¬ (0 : Int) < x))⟩)
      | true, true, false, some (g, e, opn, sz, ro, p), some (h, e2, opn2, sz2, ro2, p2), 1 => some (.tuple #[.slice (some ⟨s.next, 0, none⟩) ((x.toNat - 1) + 5) ((x.toNat - 1) + 5), .int .i64 (0 : Int)], s.push (.rows ((x.toNat - 1) + 5) 1 (fun i j => .int .i64 ((rt4F ⟨c, g, e, opn, sz, ro, c2, h, e2, opn2, sz2, ro2, x⟩ ((x.toNat - 1) + 5)) i j)) 3 true 1 false), 2 ^ b ||| 2 ^ b2, 0, ⟨rest, q.ob ∧ (p ∧ p2 ∧ (cpV 5 g = 0 ∧ feN (fun i => Pl.cr (h i 0) (-1000) 1000) 4 0 = 0 ∧ Pl.cr x (0 : Int) (24 : Int) = 0 ∧ (0 : Int) < x ∧ (∀ i, i < x.toNat → Pl.cr (rt4D ⟨c, g, e, opn, sz, ro, c2, h, e2, opn2, sz2, ro2, x⟩ (i + 4)) (-1073741824 : Int) (1073741824 : Int) = 0)))⟩)
      | true, true, false, some (g, e, opn, sz, ro, p), some (h, e2, opn2, sz2, ro2, p2), 0 => some (.tuple #[.slice none 0 0, .int .i64 (th2 (th2 (th2 (cpV 5 g) (feN (fun i => Pl.cr (h i 0) (-1000) 1000) 4 0)) (Pl.cr x (0 : Int) (24 : Int))) 4)], s, 2 ^ b ||| 2 ^ b2, 0, ⟨rest, q.ob ∧ (p ∧ p2 ∧ (cpV 5 g ≠ 0 ∨ feN (fun i => Pl.cr (h i 0) (-1000) 1000) 4 0 ≠ 0 ∨ Pl.cr x (0 : Int) (24 : Int) ≠ 0 ∨ (∃ i, i < x.toNat ∧ Pl.cr (rt4D ⟨c, g, e, opn, sz, ro, c2, h, e2, opn2, sz2, ro2, x⟩ (i + 4)) (-1073741824 : Int) (1073741824 : Int) ≠ 0)))⟩)
      | _, _, _, _, _, _ => none
    | _, _ => none
  | false => none
theorem kT4_ok : FOkS Tryz.prog kT4 := fun f xs s q u s1 R W q1 he => by
  unfold kT4 at he
  split at he
  · rename_i hf
    have hf := of_decide_eq_true hf
    subst hf
    split at he
    · rename_i b c b2 c2 x dd rest hx0 hrest
      have hxs : xs = #[.slice (some ⟨b, 0, none⟩) 5 c, .slice (some ⟨b2, 0, none⟩) 4 c2, .int .i64 x] := by apply Array.ext'; exact hx0
      subst hxs
      split at he
      · rename_i g e opn sz ro p h e2 opn2 sz2 ro2 p2 k1 k2 k3 k4 k5
        cases he
        refine ⟨fun hq => hq.1, fun hq => ?_⟩
        obtain ⟨l1, l2, hx⟩ := hq.2
        obtain ⟨m1, w1⟩ := rowK_wo k4 l1
        obtain ⟨m2, w2⟩ := rowK_wo k5 l2
        have b1 := Nat.le_of_ble_eq_true k1
        have b3 := Nat.le_of_ble_eq_true k2
        have hne : b ≠ b2 := fun e => by rw [e, Nat.beq_refl] at k3; cases k3
        refine SndF.rowsNew (N := 6) (bs := [b, b2]) (s0 := wS 6 [rowI 1 5 g e opn sz ro, rowI 1 4 h e2 opn2 sz2 ro2]) (o1 := .rows 4 1 (fun i j => .int .i64 ((rt4F ⟨c, g, e, opn, sz, ro, c2, h, e2, opn2, sz2, ro2, x⟩ 4) i j)) 3 true 1 false) sng (rt4_o2 ⟨c, g, e, opn, sz, ro, c2, h, e2, opn2, sz2, ro2, x⟩ hx.1 hx.2.1 hx.2.2.1 hx.2.2.2) rfl (fun x' hx' => ?_) (by simp [hne]) (by omega) (fun x' hx' _ => ?_) (fun x' hx' => ?_) (fun f j hj => ?_) (fun f hl hf => wvs_three (slice_wv (hf 0 (by simp))) (slice_wv (hf 1 (by simp))) (ground_wv (n := 8) rfl)) (fun f _ hf hn => ⟨wv_tuple (wvs_two (slice_wv hn) (ground_wv (n := 8) rfl)), keep_wo (N := fun _ => false) (fun b hb => by cases hb) (fun i j => rfl)⟩)
        · simp at hx'
          rcases hx' with rfl | rfl <;> omega
        · rcases Nat.lt_or_ge x' 6 with k | k
          · have hz := (by decide : ∀ b, b < 6 → Nat.testBit 192 b = false) x' k
            rw [hz] at hx'; cases hx'
          · exact k
        · simp at hx'
          rcases hx' with rfl | rfl <;> simp [or_bit, bit_self]
        · match j, hj with
          | 0, _ => exact w1 f
          | 1, _ => exact w2 f
      · rename_i g e opn sz ro p h e2 opn2 sz2 ro2 p2 k1 k2 k3 k4 k5
        cases he
        refine ⟨fun hq => hq.1, fun hq => ?_⟩
        obtain ⟨l1, l2, hx⟩ := hq.2
        obtain ⟨m1, w1⟩ := rowK_wo k4 l1
        obtain ⟨m2, w2⟩ := rowK_wo k5 l2
        have b1 := Nat.le_of_ble_eq_true k1
        have b3 := Nat.le_of_ble_eq_true k2
        have hne : b ≠ b2 := fun e => by rw [e, Nat.beq_refl] at k3; cases k3
        refine SndF.rowsNew (N := 6) (bs := [b, b2]) (s0 := wS 6 [rowI 1 5 g e opn sz ro, rowI 1 4 h e2 opn2 sz2 ro2]) (o1 := .rows ((x.toNat - 1) + 5) 1 (fun i j => .int .i64 ((rt4F ⟨c, g, e, opn, sz, ro, c2, h, e2, opn2, sz2, ro2, x⟩ ((x.toNat - 1) + 5)) i j)) 3 true 1 false) sng (rt4_o1 ⟨c, g, e, opn, sz, ro, c2, h, e2, opn2, sz2, ro2, x⟩ hx.1 hx.2.1 hx.2.2.1 hx.2.2.2.1 hx.2.2.2.2) rfl (fun x' hx' => ?_) (by simp [hne]) (by omega) (fun x' hx' _ => ?_) (fun x' hx' => ?_) (fun f j hj => ?_) (fun f hl hf => wvs_three (slice_wv (hf 0 (by simp))) (slice_wv (hf 1 (by simp))) (ground_wv (n := 8) rfl)) (fun f _ hf hn => ⟨wv_tuple (wvs_two (slice_wv hn) (ground_wv (n := 8) rfl)), keep_wo (N := fun _ => false) (fun b hb => by cases hb) (fun i j => rfl)⟩)
        · simp at hx'
          rcases hx' with rfl | rfl <;> omega
        · rcases Nat.lt_or_ge x' 6 with k | k
          · have hz := (by decide : ∀ b, b < 6 → Nat.testBit 192 b = false) x' k
            rw [hz] at hx'; cases hx'
          · exact k
        · simp at hx'
          rcases hx' with rfl | rfl <;> simp [or_bit, bit_self]
        · match j, hj with
          | 0, _ => exact w1 f
          | 1, _ => exact w2 f
      · rename_i g e opn sz ro p h e2 opn2 sz2 ro2 p2 k1 k2 k3 k4 k5
        cases he
        refine ⟨fun hq => hq.1, fun hq => ?_⟩
        obtain ⟨l1, l2, hx⟩ := hq.2
        obtain ⟨m1, w1⟩ := rowK_wo k4 l1
        obtain ⟨m2, w2⟩ := rowK_wo k5 l2
        have b1 := Nat.le_of_ble_eq_true k1
        have b3 := Nat.le_of_ble_eq_true k2
        have hne : b ≠ b2 := fun e => by rw [e, Nat.beq_refl] at k3; cases k3
        refine SndF.rows (N := 6) (bs := [b, b2]) (s0 := wS 6 [rowI 1 5 g e opn sz ro, rowI 1 4 h e2 opn2 sz2 ro2]) sng (rt4_o0 ⟨c, g, e, opn, sz, ro, c2, h, e2, opn2, sz2, ro2, x⟩ hx) rfl rfl (fun x' hx' => ?_) (by simp [hne]) (by omega) (fun x' hx' _ => ?_) (fun x' hx' => ?_) (fun f j hj => ?_) (fun f _ hf => ?_)
        · simp at hx'
          rcases hx' with rfl | rfl <;> omega
        · rcases Nat.lt_or_ge x' 6 with k | k
          · have hz := (by decide : ∀ b, b < 6 → Nat.testBit 192 b = false) x' k
            rw [hz] at hx'; cases hx'
          · exact k
        · simp at hx'
          rcases hx' with rfl | rfl <;> simp [or_bit, bit_self]
        · match j, hj with
          | 0, _ => exact w1 f
          | 1, _ => exact w2 f
        · exact wvs_three (slice_wv (hf 0 (by simp))) (slice_wv (hf 1 (by simp))) (ground_wv (n := 8) rfl)
      · cases he
    · cases he
  · cases he
end
end Go.Proofs.YtbkpnhbcihcgaaaGreatDoor
end
section
set_option linter.all false
set_option maxRecDepth 1000000
open Go.RowKit
namespace Go.Proofs.YtbkpnhbcihcgaaaGreatDoor
open Mini
noncomputable section
variable (n : Nat) (c : Nat) (g : GI) (e : TypeId) (opn : Bool) (sz : Nat) (ro : Bool) (m : Nat) (c2 : Nat) (h : GI) (e2 : TypeId) (opn2 : Bool) (sz2 : Nat) (ro2 : Bool) (x : Int)
def seV : Int := th2 (cpV n g) (if n = 1 then 12 else 2)
abbrev zz0 := kAll [c_range, c_rrange, c_index]
abbrev zz1 := bothX kEF zz0
noncomputable def seFK : CallS := bothX kCP zz1
def seArgs (g : GI) (e : TypeId) (opn : Bool) (sz : Nat) (ro : Bool) (m : Nat) (c2 : Nat) (h : GI) (e2 : TypeId) (opn2 : Bool) (sz2 : Nat) (ro2 : Bool) (x : Int) : Array Value := #[.slice (some ⟨6, 0, none⟩) n c, .slice (some ⟨7, 0, none⟩) m c2, .int .i64 x]
abbrev zz2 : List MObj := [.rows n 1 (fun i j => .int .i64 (g i j)) e opn sz ro, .rows m 1 (fun i j => .int .i64 (h i j)) e2 opn2 sz2 ro2]
def seS (c : Nat) (g : GI) (e : TypeId) (opn : Bool) (sz : Nat) (ro : Bool) (m : Nat) (c2 : Nat) (h : GI) (e2 : TypeId) (opn2 : Bool) (sz2 : Nat) (ro2 : Bool) (x : Int) : List MObj := (zz2 n g e opn sz ro m h e2 opn2 sz2 ro2)
noncomputable abbrev zz3 := bodyOf Tryz.prog 50
noncomputable abbrev zz4 := startM Tryz.f50 (seArgs n c g e opn sz ro m c2 h e2 opn2 sz2 ro2 x)
noncomputable def sef0 : Option OutCS := evK Tryz.prog seFK 1000 false zz3 (zz4 n c g e opn sz ro m c2 h e2 opn2 sz2 ro2 x) (wS 6 (seS n c g e opn sz ro m c2 h e2 opn2 sz2 ro2 x)) ⟨[.azz (.int .i64 (cpV n g)), .azz (.int .i64 (((n - 1) : Nat) : Int)), .azz (.int .i64 ((n : Nat) : Int)), .azz (.int .i64 (((n - 1) : Nat) : Int)), 1, 1, 0, 0, 1, 1, 1, 1], True⟩
noncomputable def sef1 : Option OutCS := evK Tryz.prog seFK 1000 false zz3 (zz4 n c g e opn sz ro m c2 h e2 opn2 sz2 ro2 x) (wS 6 (seS n c g e opn sz ro m c2 h e2 opn2 sz2 ro2 x)) ⟨[.azz (.int .i64 (cpV n g)), .azz (.int .i64 (((n - 1) : Nat) : Int)), .azz (.int .i64 ((n : Nat) : Int)), .azz (.int .i64 (((n - 1) : Nat) : Int)), 1, 1, 0, 1, 1], True⟩
noncomputable def sef2 : Option OutCS := evK Tryz.prog seFK 1000 false zz3 (zz4 n c g e opn sz ro m c2 h e2 opn2 sz2 ro2 x) (wS 6 (seS n c g e opn sz ro m c2 h e2 opn2 sz2 ro2 x)) ⟨[.azz (.int .i64 (cpV n g)), .azz (.int .i64 (((n - 1) : Nat) : Int)), .azz (.int .i64 ((n : Nat) : Int)), .azz (.int .i64 (((n - 1) : Nat) : Int)), 0, 0, 1, 0, 1, 1], True⟩
noncomputable def sef3 : Option OutCS := evK Tryz.prog seFK 1000 false zz3 (zz4 n c g e opn sz ro m c2 h e2 opn2 sz2 ro2 x) (wS 6 (seS n c g e opn sz ro m c2 h e2 opn2 sz2 ro2 x)) ⟨[.azz (.int .i64 (cpV n g)), .azz (.int .i64 (((n - 1) : Nat) : Int)), .azz (.int .i64 ((n : Nat) : Int)), .azz (.int .i64 (((n - 1) : Nat) : Int)), 0, 1, 1, 0, 0, 1, 1, 1, 1], True⟩
noncomputable def sef4 : Option OutCS := evK Tryz.prog seFK 1000 false zz3 (zz4 n c g e opn sz ro m c2 h e2 opn2 sz2 ro2 x) (wS 6 (seS n c g e opn sz ro m c2 h e2 opn2 sz2 ro2 x)) ⟨[.azz (.int .i64 (cpV n g)), .azz (.int .i64 (((n - 1) : Nat) : Int)), .azz (.int .i64 ((n : Nat) : Int)), .azz (.int .i64 (((n - 1) : Nat) : Int)), 0, 1, 1, 0, 1, 1], True⟩
noncomputable def szFK : CallS := bothX kCP zz1
def szArgs (g : GI) (e : TypeId) (opn : Bool) (sz : Nat) (ro : Bool) (m : Nat) (c2 : Nat) (h : GI) (e2 : TypeId) (opn2 : Bool) (sz2 : Nat) (ro2 : Bool) (x : Int) : Array Value := #[.slice (some ⟨6, 0, none⟩) 0 c, .slice (some ⟨7, 0, none⟩) m c2, .int .i64 x]
abbrev zz5 : List MObj := [.rows 0 1 (fun i j => .int .i64 (g i j)) e opn sz ro, .rows m 1 (fun i j => .int .i64 (h i j)) e2 opn2 sz2 ro2]
def szS (c : Nat) (g : GI) (e : TypeId) (opn : Bool) (sz : Nat) (ro : Bool) (m : Nat) (c2 : Nat) (h : GI) (e2 : TypeId) (opn2 : Bool) (sz2 : Nat) (ro2 : Bool) (x : Int) : List MObj := (zz5 g e opn sz ro m h e2 opn2 sz2 ro2)
noncomputable def szf0 : Option OutCS := evK Tryz.prog szFK 1000 false zz3 (startM Tryz.f50 (szArgs c g e opn sz ro m c2 h e2 opn2 sz2 ro2 x)) (wS 6 (szS c g e opn sz ro m c2 h e2 opn2 sz2 ro2 x)) ⟨[0, 1, 1, 0, 1, 1], True⟩
abbrev zz6 := bothX kNN zz0
noncomputable def reFK : CallS := bothX kRCP zz6
def reArgs (g : GI) (e : TypeId) (opn : Bool) (sz : Nat) (ro : Bool) (m : Nat) (c2 : Nat) (h : GI) (e2 : TypeId) (opn2 : Bool) (sz2 : Nat) (ro2 : Bool) (x : Int) : Array Value := #[.slice (some ⟨6, 0, none⟩) n c, .slice (some ⟨7, 0, none⟩) m c2, .int .i64 x]
def reS (c : Nat) (g : GI) (e : TypeId) (opn : Bool) (sz : Nat) (ro : Bool) (m : Nat) (c2 : Nat) (h : GI) (e2 : TypeId) (opn2 : Bool) (sz2 : Nat) (ro2 : Bool) (x : Int) : List MObj := (zz2 n g e opn sz ro m h e2 opn2 sz2 ro2)
noncomputable abbrev zz7 := bodyOf Tryz.prog 52
noncomputable abbrev zz8 := startM Tryz.f52 (reArgs n c g e opn sz ro m c2 h e2 opn2 sz2 ro2 x)
noncomputable def ref0 : Option OutCS := evK Tryz.prog reFK 1000 false zz7 (zz8 n c g e opn sz ro m c2 h e2 opn2 sz2 ro2 x) (wS 6 (reS n c g e opn sz ro m c2 h e2 opn2 sz2 ro2 x)) ⟨[0, .azz (.int .i64 ((n : Nat) : Int)), .azz (.int .i64 (((n - 1) : Nat) : Int)), 1], True⟩
noncomputable def ref1 : Option OutCS := evK Tryz.prog reFK 1000 false zz7 (zz8 n c g e opn sz ro m c2 h e2 opn2 sz2 ro2 x) (wS 6 (reS n c g e opn sz ro m c2 h e2 opn2 sz2 ro2 x)) ⟨[0, .azz (.int .i64 ((n : Nat) : Int)), .azz (.int .i64 (((n - 1) : Nat) : Int)), 0, 1], True⟩
noncomputable def ref2 : Option OutCS := evK Tryz.prog reFK 1000 false zz7 (zz8 n c g e opn sz ro m c2 h e2 opn2 sz2 ro2 x) (wS 6 (reS n c g e opn sz ro m c2 h e2 opn2 sz2 ro2 x)) ⟨[1], True⟩
noncomputable def rzFK : CallS := bothX kRCP zz6
def rzArgs (g : GI) (e : TypeId) (opn : Bool) (sz : Nat) (ro : Bool) (m : Nat) (c2 : Nat) (h : GI) (e2 : TypeId) (opn2 : Bool) (sz2 : Nat) (ro2 : Bool) (x : Int) : Array Value := #[.slice (some ⟨6, 0, none⟩) 0 c, .slice (some ⟨7, 0, none⟩) m c2, .int .i64 x]
def rzS (c : Nat) (g : GI) (e : TypeId) (opn : Bool) (sz : Nat) (ro : Bool) (m : Nat) (c2 : Nat) (h : GI) (e2 : TypeId) (opn2 : Bool) (sz2 : Nat) (ro2 : Bool) (x : Int) : List MObj := (zz5 g e opn sz ro m h e2 opn2 sz2 ro2)
noncomputable def rzf0 : Option OutCS := evK Tryz.prog rzFK 1000 false zz7 (startM Tryz.f52 (rzArgs c g e opn sz ro m c2 h e2 opn2 sz2 ro2 x)) (wS 6 (rzS c g e opn sz ro m c2 h e2 opn2 sz2 ro2 x)) ⟨[1], True⟩
theorem seFK_ok : FOkS Tryz.prog seFK := bothX_ok kCP_ok (bothX_ok kEF_ok (kAll_ok _ ⟨k_range, k_rrange, k_index, trivial⟩))
abbrev zz9 := True ∧ (((n = n) ∧ (∀ (i : Nat), ((i < n) → (∀ (j : Nat), ((j < (1 : Nat)) → ((Value.int .i64 (g i j)) = (Value.int .i64 (gI (Value.int .i64 (g i j)))))))))) ∧ ((((n : Nat)) : Int) ≤ (9223372036854775807 : Int)))
abbrev zz10 := fun (i : Nat) => (fun (j : Nat) => (gI (Value.int .i64 (g i j))))
abbrev zz11 := cpV n (zz10 g)
abbrev zz12 := ((.int .i64 (((n : Nat)) : Int)) : Value) = (.int .i64 (((n : Nat)) : Int))
abbrev zz13 := ((.int .i64 (IntKind.i64.wrap ((((n : Nat)) : Int) - (1 : Int)))) : Value) = (.int .i64 ((((n - 1) : Nat)) : Int))
abbrev zz14 := ((((zz9 n g) ∧ (((.int .i64 (zz11 n g)) : Value) = (.int .i64 (cpV n g)))) ∧ (zz12 n)) ∧ (zz13 n)) ∧ (((.int .i64 ((((n - 1) : Nat)) : Int)) : Value) = (.int .i64 ((((n - 1) : Nat)) : Int)))
abbrev zz15 := ((((n - 1) : Nat)) : Int) == (0 : Int)
abbrev zz16 := (zz15 n) = true
abbrev zz17 := (decide ((0 : Int) < (((3 : Nat)) : Int))) = true
abbrev zz18 := (0 : Int) = (Int.ofNat 0)
abbrev zz19 := ((((zz14 n g) ∧ (zz16 n)) ∧ True) ∧ zz17) ∧ zz18
abbrev zz20 := (decide ((IntKind.i64.wrap ((0 : Int) + (1 : Int))) < (((3 : Nat)) : Int))) = true
abbrev zz21 := (IntKind.i64.wrap ((0 : Int) + (1 : Int))) = (Int.ofNat 1)
abbrev zz22 := ((12 : Int) != (0 : Int)) = true
theorem sef0_eq : seenF' Tryz.prog Tryz.f50 6 2 [] (sef0 n c g e opn sz ro m c2 h e2 opn2 sz2 ro2 x) = some (.tuple #[.slice none 0 0, .int .i64 (12 : Int)], seS n c g e opn sz ro m c2 h e2 opn2 sz2 ro2 x ++ [], ⟨[], ((((((zz19 n g) ∧ (((cpV n g) != (0 : Int)) = false)) ∧ zz20) ∧ zz21) ∧ zz22) ∧ zz22)⟩) := by kernel_rfl
theorem sef0_s (hn : 0 < n) (hb : (n : Int) ≤ 9223372036854775807) (hm : (m : Int) ≤ 9223372036854775807) (h0 : (((n - 1) : Nat) : Int) = (0 : Int)) (h1 : (cpV n g) = (0 : Int)) : SndF Tryz.prog 50 (seArgs n c g e opn sz ro m c2 h e2 opn2 sz2 ro2 x) (wS 6 (seS n c g e opn sz ro m c2 h e2 opn2 sz2 ro2 x)) (.tuple #[.slice none 0 0, .int .i64 (12 : Int)]) (wS 6 (seS n c g e opn sz ro m c2 h e2 opn2 sz2 ro2 x)) 192 0 :=
  kF (L := seS n c g e opn sz ro m c2 h e2 opn2 sz2 ro2 x) (L2 := []) (ms := []) seFK_ok (sef0_eq n c g e opn sz ro m c2 h e2 opn2 sz2 ro2 x) kq
abbrev zz23 := ((cpV n g) != (0 : Int)) = true
theorem sef1_eq : seenF' Tryz.prog Tryz.f50 6 2 [] (sef1 n c g e opn sz ro m c2 h e2 opn2 sz2 ro2 x) = some (.tuple #[.slice none 0 0, .int .i64 (cpV n g)], seS n c g e opn sz ro m c2 h e2 opn2 sz2 ro2 x ++ [], ⟨[], (((zz19 n g) ∧ (zz23 n g)) ∧ (zz23 n g))⟩) := by kernel_rfl
theorem sef1_s (hn : 0 < n) (hb : (n : Int) ≤ 9223372036854775807) (hm : (m : Int) ≤ 9223372036854775807) (h0 : (((n - 1) : Nat) : Int) = (0 : Int)) (h1 : (cpV n g) ≠ (0 : Int)) : SndF Tryz.prog 50 (seArgs n c g e opn sz ro m c2 h e2 opn2 sz2 ro2 x) (wS 6 (seS n c g e opn sz ro m c2 h e2 opn2 sz2 ro2 x)) (.tuple #[.slice none 0 0, .int .i64 (cpV n g)]) (wS 6 (seS n c g e opn sz ro m c2 h e2 opn2 sz2 ro2 x)) 192 0 :=
  kF (L := seS n c g e opn sz ro m c2 h e2 opn2 sz2 ro2 x) (L2 := []) (ms := []) seFK_ok (sef1_eq n c g e opn sz ro m c2 h e2 opn2 sz2 ro2 x) kq
abbrev zz24 := (zz15 n) = false
abbrev zz25 := (zz14 n g) ∧ (zz24 n)
abbrev zz26 := (((m : Nat)) : Int) != ((((n - 1) : Nat)) : Int)
theorem sef2_eq : seenF' Tryz.prog Tryz.f50 6 2 [] (sef2 n c g e opn sz ro m c2 h e2 opn2 sz2 ro2 x) = some (.tuple #[.slice none 0 0, .int .i64 (cpV n g)], seS n c g e opn sz ro m c2 h e2 opn2 sz2 ro2 x ++ [], ⟨[], ((((((((zz25 n g) ∧ ((zz26 n m) = false)) ∧ (((m = m) ∧ (∀ (i : Nat), ((i < m) → (∀ (j : Nat), ((j < (1 : Nat)) → ((Value.int .i64 (h i j)) = (Value.int .i64 (gI (Value.int .i64 (h i j)))))))))) ∧ ((((m : Nat)) : Int) ≤ (9223372036854775807 : Int)))) ∧ True) ∧ zz17) ∧ zz18) ∧ (zz23 n g)) ∧ (zz23 n g))⟩) := by kernel_rfl
theorem sef2_s (hn : 0 < n) (hb : (n : Int) ≤ 9223372036854775807) (hm : (m : Int) ≤ 9223372036854775807) (h0 : (((n - 1) : Nat) : Int) ≠ (0 : Int)) (h1 : ((m : Nat) : Int) = (((n - 1) : Nat) : Int)) (h2 : (cpV n g) ≠ (0 : Int)) : SndF Tryz.prog 50 (seArgs n c g e opn sz ro m c2 h e2 opn2 sz2 ro2 x) (wS 6 (seS n c g e opn sz ro m c2 h e2 opn2 sz2 ro2 x)) (.tuple #[.slice none 0 0, .int .i64 (cpV n g)]) (wS 6 (seS n c g e opn sz ro m c2 h e2 opn2 sz2 ro2 x)) 192 0 :=
  kF (L := seS n c g e opn sz ro m c2 h e2 opn2 sz2 ro2 x) (L2 := []) (ms := []) seFK_ok (sef2_eq n c g e opn sz ro m c2 h e2 opn2 sz2 ro2 x) kq
abbrev zz27 := (zz26 n m) = true
abbrev zz28 := ((((zz25 n g) ∧ (zz27 n m)) ∧ True) ∧ zz17) ∧ zz18
abbrev zz29 := ((2 : Int) != (0 : Int)) = true
theorem sef3_eq : seenF' Tryz.prog Tryz.f50 6 2 [] (sef3 n c g e opn sz ro m c2 h e2 opn2 sz2 ro2 x) = some (.tuple #[.slice none 0 0, .int .i64 (2 : Int)], seS n c g e opn sz ro m c2 h e2 opn2 sz2 ro2 x ++ [], ⟨[], ((((((zz28 n g m) ∧ (((cpV n g) != (0 : Int)) = false)) ∧ zz20) ∧ zz21) ∧ zz29) ∧ zz29)⟩) := by kernel_rfl
theorem sef3_s (hn : 0 < n) (hb : (n : Int) ≤ 9223372036854775807) (hm : (m : Int) ≤ 9223372036854775807) (h0 : (((n - 1) : Nat) : Int) ≠ (0 : Int)) (h1 : ((m : Nat) : Int) ≠ (((n - 1) : Nat) : Int)) (h2 : (cpV n g) = (0 : Int)) : SndF Tryz.prog 50 (seArgs n c g e opn sz ro m c2 h e2 opn2 sz2 ro2 x) (wS 6 (seS n c g e opn sz ro m c2 h e2 opn2 sz2 ro2 x)) (.tuple #[.slice none 0 0, .int .i64 (2 : Int)]) (wS 6 (seS n c g e opn sz ro m c2 h e2 opn2 sz2 ro2 x)) 192 0 :=
  kF (L := seS n c g e opn sz ro m c2 h e2 opn2 sz2 ro2 x) (L2 := []) (ms := []) seFK_ok (sef3_eq n c g e opn sz ro m c2 h e2 opn2 sz2 ro2 x) kq
theorem sef4_eq : seenF' Tryz.prog Tryz.f50 6 2 [] (sef4 n c g e opn sz ro m c2 h e2 opn2 sz2 ro2 x) = some (.tuple #[.slice none 0 0, .int .i64 (cpV n g)], seS n c g e opn sz ro m c2 h e2 opn2 sz2 ro2 x ++ [], ⟨[], (((zz28 n g m) ∧ (zz23 n g)) ∧ (zz23 n g))⟩) := by kernel_rfl
theorem sef4_s (hn : 0 < n) (hb : (n : Int) ≤ 9223372036854775807) (hm : (m : Int) ≤ 9223372036854775807) (h0 : (((n - 1) : Nat) : Int) ≠ (0 : Int)) (h1 : ((m : Nat) : Int) ≠ (((n - 1) : Nat) : Int)) (h2 : (cpV n g) ≠ (0 : Int)) : SndF Tryz.prog 50 (seArgs n c g e opn sz ro m c2 h e2 opn2 sz2 ro2 x) (wS 6 (seS n c g e opn sz ro m c2 h e2 opn2 sz2 ro2 x)) (.tuple #[.slice none 0 0, .int .i64 (cpV n g)]) (wS 6 (seS n c g e opn sz ro m c2 h e2 opn2 sz2 ro2 x)) 192 0 :=
  kF (L := seS n c g e opn sz ro m c2 h e2 opn2 sz2 ro2 x) (L2 := []) (ms := []) seFK_ok (sef4_eq n c g e opn sz ro m c2 h e2 opn2 sz2 ro2 x) kq
theorem szFK_ok : FOkS Tryz.prog szFK := bothX_ok kCP_ok (bothX_ok kEF_ok (kAll_ok _ ⟨k_range, k_rrange, k_index, trivial⟩))
abbrev zz30 := True ∧ (((0 = 0) ∧ (∀ (i : Nat), ((i < (0 : Nat)) → (∀ (j : Nat), ((j < (1 : Nat)) → ((Value.int .i64 (g i j)) = (Value.int .i64 (gI (Value.int .i64 (g i j)))))))))) ∧ ((((0 : Nat)) : Int) ≤ (9223372036854775807 : Int)))
abbrev zz31 := (((0 : Nat)) : Int) - (1 : Int)
abbrev zz32 := ((cpV (0 : Nat) (zz10 g)) != (0 : Int)) = true
theorem szf0_eq : seenF' Tryz.prog Tryz.f50 6 2 [] (szf0 c g e opn sz ro m c2 h e2 opn2 sz2 ro2 x) = some (.tuple #[.slice none 0 0, .int .i64 (cpV 0 g)], szS c g e opn sz ro m c2 h e2 opn2 sz2 ro2 x ++ [], ⟨[], ((((((((zz30 g) ∧ (((IntKind.i64.wrap zz31) == (0 : Int)) = false)) ∧ (((((m : Nat)) : Int) != (IntKind.i64.wrap zz31)) = true)) ∧ True) ∧ zz17) ∧ zz18) ∧ (zz32 g)) ∧ (zz32 g))⟩) := by kernel_rfl
theorem szf0_s (hm : (m : Int) ≤ 9223372036854775807) (h0 : (cpV 0 g) ≠ (0 : Int)) : SndF Tryz.prog 50 (szArgs c g e opn sz ro m c2 h e2 opn2 sz2 ro2 x) (wS 6 (szS c g e opn sz ro m c2 h e2 opn2 sz2 ro2 x)) (.tuple #[.slice none 0 0, .int .i64 (cpV 0 g)]) (wS 6 (szS c g e opn sz ro m c2 h e2 opn2 sz2 ro2 x)) 192 0 :=
  kF (L := szS c g e opn sz ro m c2 h e2 opn2 sz2 ro2 x) (L2 := []) (ms := []) szFK_ok (szf0_eq c g e opn sz ro m c2 h e2 opn2 sz2 ro2 x) kq
theorem reFK_ok : FOkS Tryz.prog reFK := bothX_ok kRCP_ok (bothX_ok kNN_ok (kAll_ok _ ⟨k_range, k_rrange, k_index, trivial⟩))
abbrev zz33 := (zz11 n g) != (0 : Int)
abbrev zz34 := (((zz9 n g) ∧ ((zz33 n g) = false)) ∧ (zz12 n)) ∧ (zz13 n)
theorem ref0_eq : seenF' Tryz.prog Tryz.f52 6 2 [] (ref0 n c g e opn sz ro m c2 h e2 opn2 sz2 ro2 x) = some (.tuple #[.slice none 0 0, .int .i64 (12 : Int)], reS n c g e opn sz ro m c2 h e2 opn2 sz2 ro2 x ++ [], ⟨[], ((zz34 n g) ∧ (zz16 n))⟩) := by kernel_rfl
theorem ref0_s (hn : 0 < n) (hb : (n : Int) ≤ 9223372036854775807) (hm : (m : Int) ≤ 9223372036854775807) (h0 : (cpV n g) = (0 : Int)) (h1 : (((n - 1) : Nat) : Int) = (0 : Int)) : SndF Tryz.prog 52 (reArgs n c g e opn sz ro m c2 h e2 opn2 sz2 ro2 x) (wS 6 (reS n c g e opn sz ro m c2 h e2 opn2 sz2 ro2 x)) (.tuple #[.slice none 0 0, .int .i64 (12 : Int)]) (wS 6 (reS n c g e opn sz ro m c2 h e2 opn2 sz2 ro2 x)) 192 0 :=
  kF (L := reS n c g e opn sz ro m c2 h e2 opn2 sz2 ro2 x) (L2 := []) (ms := []) reFK_ok (ref0_eq n c g e opn sz ro m c2 h e2 opn2 sz2 ro2 x) kq
theorem ref1_eq : seenF' Tryz.prog Tryz.f52 6 2 [] (ref1 n c g e opn sz ro m c2 h e2 opn2 sz2 ro2 x) = some (.tuple #[.slice none 0 0, .int .i64 (2 : Int)], reS n c g e opn sz ro m c2 h e2 opn2 sz2 ro2 x ++ [], ⟨[], (((zz34 n g) ∧ (zz24 n)) ∧ (zz27 n m))⟩) := by kernel_rfl
theorem ref1_s (hn : 0 < n) (hb : (n : Int) ≤ 9223372036854775807) (hm : (m : Int) ≤ 9223372036854775807) (h0 : (cpV n g) = (0 : Int)) (h1 : (((n - 1) : Nat) : Int) ≠ (0 : Int)) (h2 : ((m : Nat) : Int) ≠ (((n - 1) : Nat) : Int)) : SndF Tryz.prog 52 (reArgs n c g e opn sz ro m c2 h e2 opn2 sz2 ro2 x) (wS 6 (reS n c g e opn sz ro m c2 h e2 opn2 sz2 ro2 x)) (.tuple #[.slice none 0 0, .int .i64 (2 : Int)]) (wS 6 (reS n c g e opn sz ro m c2 h e2 opn2 sz2 ro2 x)) 192 0 :=
  kF (L := reS n c g e opn sz ro m c2 h e2 opn2 sz2 ro2 x) (L2 := []) (ms := []) reFK_ok (ref1_eq n c g e opn sz ro m c2 h e2 opn2 sz2 ro2 x) kq
theorem ref2_eq : seenF' Tryz.prog Tryz.f52 6 2 [] (ref2 n c g e opn sz ro m c2 h e2 opn2 sz2 ro2 x) = some (.tuple #[.slice none 0 0, .int .i64 (cpV n g)], reS n c g e opn sz ro m c2 h e2 opn2 sz2 ro2 x ++ [], ⟨[], ((zz9 n g) ∧ ((zz33 n g) = true))⟩) := by kernel_rfl
theorem ref2_s (hn : 0 < n) (hb : (n : Int) ≤ 9223372036854775807) (hm : (m : Int) ≤ 9223372036854775807) (h0 : (cpV n g) ≠ (0 : Int)) : SndF Tryz.prog 52 (reArgs n c g e opn sz ro m c2 h e2 opn2 sz2 ro2 x) (wS 6 (reS n c g e opn sz ro m c2 h e2 opn2 sz2 ro2 x)) (.tuple #[.slice none 0 0, .int .i64 (cpV n g)]) (wS 6 (reS n c g e opn sz ro m c2 h e2 opn2 sz2 ro2 x)) 192 0 :=
  kF (L := reS n c g e opn sz ro m c2 h e2 opn2 sz2 ro2 x) (L2 := []) (ms := []) reFK_ok (ref2_eq n c g e opn sz ro m c2 h e2 opn2 sz2 ro2 x) kq
theorem rzFK_ok : FOkS Tryz.prog rzFK := bothX_ok kRCP_ok (bothX_ok kNN_ok (kAll_ok _ ⟨k_range, k_rrange, k_index, trivial⟩))
theorem rzf0_eq : seenF' Tryz.prog Tryz.f52 6 2 [] (rzf0 c g e opn sz ro m c2 h e2 opn2 sz2 ro2 x) = some (.tuple #[.slice none 0 0, .int .i64 (cpV 0 g)], rzS c g e opn sz ro m c2 h e2 opn2 sz2 ro2 x ++ [], ⟨[], ((zz30 g) ∧ (zz32 g))⟩) := by kernel_rfl
theorem rzf0_s (hm : (m : Int) ≤ 9223372036854775807) (h0 : (cpV 0 g) ≠ (0 : Int)) : SndF Tryz.prog 52 (rzArgs c g e opn sz ro m c2 h e2 opn2 sz2 ro2 x) (wS 6 (rzS c g e opn sz ro m c2 h e2 opn2 sz2 ro2 x)) (.tuple #[.slice none 0 0, .int .i64 (cpV 0 g)]) (wS 6 (rzS c g e opn sz ro m c2 h e2 opn2 sz2 ro2 x)) 192 0 :=
  kF (L := rzS c g e opn sz ro m c2 h e2 opn2 sz2 ro2 x) (L2 := []) (ms := []) rzFK_ok (rzf0_eq c g e opn sz ro m c2 h e2 opn2 sz2 ro2 x) kq
theorem se_sndF (hb : (n : Int) ≤ 9223372036854775807) (hm : (m : Int) ≤ 9223372036854775807) (hp : cpV n g ≠ 0 ∨ n = 1 ∨ m + 1 ≠ n) : SndF Tryz.prog 50 #[.slice (some ⟨6, 0, none⟩) n c, .slice (some ⟨7, 0, none⟩) m c2, .int .i64 x] (wS 6 [.rows n 1 (fun i j => .int .i64 (g i j)) e opn sz ro, .rows m 1 (fun i j => .int .i64 (h i j)) e2 opn2 sz2 ro2]) (.tuple #[.slice none 0 0, .int .i64 (seV n g)]) (wS 6 [.rows n 1 (fun i j => .int .i64 (g i j)) e opn sz ro, .rows m 1 (fun i j => .int .i64 (h i j)) e2 opn2 sz2 ro2]) 192 0 := by
  rcases Nat.eq_zero_or_pos n with rfl | hn0
  · have ev : seV 0 g = cpV 0 g := rfl
    rw [ev]
    exact szf0_s c g e opn sz ro m c2 h e2 opn2 sz2 ro2 x hm (show (12 : Int) ≠ 0 by decide)
  · unfold seV th2
    by_cases hc : cpV n g = 0
    · rw [if_pos hc]
      by_cases h1 : n = 1
      · rw [if_pos h1]
        have i1 : (((n - 1 : Nat) : Nat) : Int) = 0 := by omega
        first
          | exact sef0_s n c g e opn sz ro m c2 h e2 opn2 sz2 ro2 x hn0 hb hm (by assumption) (by assumption)
          | exact sef1_s n c g e opn sz ro m c2 h e2 opn2 sz2 ro2 x hn0 hb hm (by assumption) (by assumption)
          | exact sef2_s n c g e opn sz ro m c2 h e2 opn2 sz2 ro2 x hn0 hb hm (by assumption) (by assumption) (by assumption)
          | exact sef3_s n c g e opn sz ro m c2 h e2 opn2 sz2 ro2 x hn0 hb hm (by assumption) (by assumption) (by assumption)
          | exact sef4_s n c g e opn sz ro m c2 h e2 opn2 sz2 ro2 x hn0 hb hm (by assumption) (by assumption) (by assumption)
      · rw [if_neg h1]
        have i1 : (((n - 1 : Nat) : Nat) : Int) ≠ 0 := by omega
        have i2 : ((m : Nat) : Int) ≠ ((n - 1 : Nat) : Int) := by omega
        first
          | exact sef0_s n c g e opn sz ro m c2 h e2 opn2 sz2 ro2 x hn0 hb hm (by assumption) (by assumption)
          | exact sef1_s n c g e opn sz ro m c2 h e2 opn2 sz2 ro2 x hn0 hb hm (by assumption) (by assumption)
          | exact sef2_s n c g e opn sz ro m c2 h e2 opn2 sz2 ro2 x hn0 hb hm (by assumption) (by assumption) (by assumption)
          | exact sef3_s n c g e opn sz ro m c2 h e2 opn2 sz2 ro2 x hn0 hb hm (by assumption) (by assumption) (by assumption)
          | exact sef4_s n c g e opn sz ro m c2 h e2 opn2 sz2 ro2 x hn0 hb hm (by assumption) (by assumption) (by assumption)
    · rw [if_neg hc]
      by_cases i1 : (((n - 1 : Nat) : Nat) : Int) = 0
      · first
          | exact sef0_s n c g e opn sz ro m c2 h e2 opn2 sz2 ro2 x hn0 hb hm (by assumption) (by assumption)
          | exact sef1_s n c g e opn sz ro m c2 h e2 opn2 sz2 ro2 x hn0 hb hm (by assumption) (by assumption)
          | exact sef2_s n c g e opn sz ro m c2 h e2 opn2 sz2 ro2 x hn0 hb hm (by assumption) (by assumption) (by assumption)
          | exact sef3_s n c g e opn sz ro m c2 h e2 opn2 sz2 ro2 x hn0 hb hm (by assumption) (by assumption) (by assumption)
          | exact sef4_s n c g e opn sz ro m c2 h e2 opn2 sz2 ro2 x hn0 hb hm (by assumption) (by assumption) (by assumption)
      · by_cases i2 : ((m : Nat) : Int) = ((n - 1 : Nat) : Int)
        · first
          | exact sef0_s n c g e opn sz ro m c2 h e2 opn2 sz2 ro2 x hn0 hb hm (by assumption) (by assumption)
          | exact sef1_s n c g e opn sz ro m c2 h e2 opn2 sz2 ro2 x hn0 hb hm (by assumption) (by assumption)
          | exact sef2_s n c g e opn sz ro m c2 h e2 opn2 sz2 ro2 x hn0 hb hm (by assumption) (by assumption) (by assumption)
          | exact sef3_s n c g e opn sz ro m c2 h e2 opn2 sz2 ro2 x hn0 hb hm (by assumption) (by assumption) (by assumption)
          | exact sef4_s n c g e opn sz ro m c2 h e2 opn2 sz2 ro2 x hn0 hb hm (by assumption) (by assumption) (by assumption)
        · first
          | exact sef0_s n c g e opn sz ro m c2 h e2 opn2 sz2 ro2 x hn0 hb hm (by assumption) (by assumption)
          | exact sef1_s n c g e opn sz ro m c2 h e2 opn2 sz2 ro2 x hn0 hb hm (by assumption) (by assumption)
          | exact sef2_s n c g e opn sz ro m c2 h e2 opn2 sz2 ro2 x hn0 hb hm (by assumption) (by assumption) (by assumption)
          | exact sef3_s n c g e opn sz ro m c2 h e2 opn2 sz2 ro2 x hn0 hb hm (by assumption) (by assumption) (by assumption)
          | exact sef4_s n c g e opn sz ro m c2 h e2 opn2 sz2 ro2 x hn0 hb hm (by assumption) (by assumption) (by assumption)
def kSE : CallS := fun f xs s q => match decide (f = 50) with
  | true => match xs.toList with
    | [.slice (some ⟨b, 0, none⟩) n c, .slice (some ⟨b2, 0, none⟩) m c2, .int .i64 x] => match Nat.ble 6 b, Nat.ble 6 b2, Nat.beq b b2, rowK 1 .i64 s b n, rowK 1 .i64 s b2 m with
      | true, true, false, some (g, _, _, _, _, p), some (h, _, _, _, _, p2) => some (.tuple #[.slice none 0 0, .int .i64 (seV n g)], s, 2 ^ b ||| 2 ^ b2, 0, ⟨q.rest, q.ob ∧ (p ∧ p2 ∧ ((n : Int) ≤ 9223372036854775807 ∧ (m : Int) ≤ 9223372036854775807 ∧ (cpV n g ≠ 0 ∨ n = 1 ∨ m + 1 ≠ n)))⟩)
      | _, _, _, _, _ => none
    | _ => none
  | false => none
theorem kSE_ok : FOkS Tryz.prog kSE := fun f xs s q u s1 R W q1 he => by
  unfold kSE at he
  split at he
  · rename_i hf
    have hf := of_decide_eq_true hf
    subst hf
    split at he
    · rename_i b n c b2 m c2 x hx0
      have hxs : xs = #[.slice (some ⟨b, 0, none⟩) n c, .slice (some ⟨b2, 0, none⟩) m c2, .int .i64 x] := by apply Array.ext'; exact hx0
      subst hxs
      split at he
      · rename_i g e opn sz ro p h e2 opn2 sz2 ro2 p2 h1 h2 h3 h4 h5
        cases he
        refine ⟨fun hq => hq.1, fun hq => ?_⟩
        obtain ⟨k1, k2, hx⟩ := hq.2
        obtain ⟨l1, w1⟩ := rowK_wo h4 k1
        obtain ⟨l2, w2⟩ := rowK_wo h5 k2
        have b1 := Nat.le_of_ble_eq_true h1
        have b3 := Nat.le_of_ble_eq_true h2
        have hne : b ≠ b2 := fun e => by rw [e, Nat.beq_refl] at h3; cases h3
        refine SndF.rows (N := 6) (bs := [b, b2]) (s0 := wS 6 [rowI 1 n g e opn sz ro, rowI 1 m h e2 opn2 sz2 ro2]) sng (se_sndF n c g e opn sz ro m c2 h e2 opn2 sz2 ro2 x hx.1 hx.2.1 hx.2.2) rfl rfl (fun x hx => ?_) (by simp [hne]) (by omega) (fun x hx _ => ?_) (fun x hx => ?_) (fun f j hj => ?_) (fun f _ hf => ?_)
        · simp at hx
          rcases hx with rfl | rfl <;> omega
        · rcases Nat.lt_or_ge x 6 with k | k
          · have hz := (by decide : ∀ b, b < 6 → Nat.testBit 192 b = false) x k
            rw [hz] at hx; cases hx
          · exact k
        · simp at hx
          rcases hx with rfl | rfl <;> simp [or_bit, bit_self]
        · match j, hj with
          | 0, _ => exact w1 f
          | 1, _ => exact w2 f
        · exact wvs_three (slice_wv (hf 0 (by simp))) (slice_wv (hf 1 (by simp))) (ground_wv (n := 8) rfl)
      · cases he
    · cases he
  · cases he
theorem re_sndF (hb : (n : Int) ≤ 9223372036854775807) (hm : (m : Int) ≤ 9223372036854775807) (hp : cpV n g ≠ 0 ∨ n = 1 ∨ m + 1 ≠ n) : SndF Tryz.prog 52 #[.slice (some ⟨6, 0, none⟩) n c, .slice (some ⟨7, 0, none⟩) m c2, .int .i64 x] (wS 6 [.rows n 1 (fun i j => .int .i64 (g i j)) e opn sz ro, .rows m 1 (fun i j => .int .i64 (h i j)) e2 opn2 sz2 ro2]) (.tuple #[.slice none 0 0, .int .i64 (seV n g)]) (wS 6 [.rows n 1 (fun i j => .int .i64 (g i j)) e opn sz ro, .rows m 1 (fun i j => .int .i64 (h i j)) e2 opn2 sz2 ro2]) 192 0 := by
  rcases Nat.eq_zero_or_pos n with rfl | hn0
  · have ev : seV 0 g = cpV 0 g := rfl
    rw [ev]
    exact rzf0_s c g e opn sz ro m c2 h e2 opn2 sz2 ro2 x hm (show (12 : Int) ≠ 0 by decide)
  · unfold seV th2
    by_cases hc : cpV n g = 0
    · rw [if_pos hc]
      by_cases h1 : n = 1
      · rw [if_pos h1]
        have i1 : (((n - 1 : Nat) : Nat) : Int) = 0 := by omega
        first
          | exact ref0_s n c g e opn sz ro m c2 h e2 opn2 sz2 ro2 x hn0 hb hm (by assumption) (by assumption)
          | exact ref1_s n c g e opn sz ro m c2 h e2 opn2 sz2 ro2 x hn0 hb hm (by assumption) (by assumption) (by assumption)
          | exact ref2_s n c g e opn sz ro m c2 h e2 opn2 sz2 ro2 x hn0 hb hm (by assumption)
      · rw [if_neg h1]
        have i1 : (((n - 1 : Nat) : Nat) : Int) ≠ 0 := by omega
        have i2 : ((m : Nat) : Int) ≠ ((n - 1 : Nat) : Int) := by omega
        first
          | exact ref0_s n c g e opn sz ro m c2 h e2 opn2 sz2 ro2 x hn0 hb hm (by assumption) (by assumption)
          | exact ref1_s n c g e opn sz ro m c2 h e2 opn2 sz2 ro2 x hn0 hb hm (by assumption) (by assumption) (by assumption)
          | exact ref2_s n c g e opn sz ro m c2 h e2 opn2 sz2 ro2 x hn0 hb hm (by assumption)
    · rw [if_neg hc]
      by_cases i1 : (((n - 1 : Nat) : Nat) : Int) = 0
      · first
          | exact ref0_s n c g e opn sz ro m c2 h e2 opn2 sz2 ro2 x hn0 hb hm (by assumption) (by assumption)
          | exact ref1_s n c g e opn sz ro m c2 h e2 opn2 sz2 ro2 x hn0 hb hm (by assumption) (by assumption) (by assumption)
          | exact ref2_s n c g e opn sz ro m c2 h e2 opn2 sz2 ro2 x hn0 hb hm (by assumption)
      · by_cases i2 : ((m : Nat) : Int) = ((n - 1 : Nat) : Int)
        · first
          | exact ref0_s n c g e opn sz ro m c2 h e2 opn2 sz2 ro2 x hn0 hb hm (by assumption) (by assumption)
          | exact ref1_s n c g e opn sz ro m c2 h e2 opn2 sz2 ro2 x hn0 hb hm (by assumption) (by assumption) (by assumption)
          | exact ref2_s n c g e opn sz ro m c2 h e2 opn2 sz2 ro2 x hn0 hb hm (by assumption)
        · first
          | exact ref0_s n c g e opn sz ro m c2 h e2 opn2 sz2 ro2 x hn0 hb hm (by assumption) (by assumption)
          | exact ref1_s n c g e opn sz ro m c2 h e2 opn2 sz2 ro2 x hn0 hb hm (by assumption) (by assumption) (by assumption)
          | exact ref2_s n c g e opn sz ro m c2 h e2 opn2 sz2 ro2 x hn0 hb hm (by assumption)
def kRE : CallS := fun f xs s q => match decide (f = 52) with
  | true => match xs.toList with
    | [.slice (some ⟨b, 0, none⟩) n c, .slice (some ⟨b2, 0, none⟩) m c2, .int .i64 x] => match Nat.ble 6 b, Nat.ble 6 b2, Nat.beq b b2, rowK 1 .i64 s b n, rowK 1 .i64 s b2 m with
      | true, true, false, some (g, _, _, _, _, p), some (h, _, _, _, _, p2) => some (.tuple #[.slice none 0 0, .int .i64 (seV n g)], s, 2 ^ b ||| 2 ^ b2, 0, ⟨q.rest, q.ob ∧ (p ∧ p2 ∧ ((n : Int) ≤ 9223372036854775807 ∧ (m : Int) ≤ 9223372036854775807 ∧ (cpV n g ≠ 0 ∨ n = 1 ∨ m + 1 ≠ n)))⟩)
      | _, _, _, _, _ => none
    | _ => none
  | false => none
theorem kRE_ok : FOkS Tryz.prog kRE := fun f xs s q u s1 R W q1 he => by
  unfold kRE at he
  split at he
  · rename_i hf
    have hf := of_decide_eq_true hf
    subst hf
    split at he
    · rename_i b n c b2 m c2 x hx0
      have hxs : xs = #[.slice (some ⟨b, 0, none⟩) n c, .slice (some ⟨b2, 0, none⟩) m c2, .int .i64 x] := by apply Array.ext'; exact hx0
      subst hxs
      split at he
      · rename_i g e opn sz ro p h e2 opn2 sz2 ro2 p2 h1 h2 h3 h4 h5
        cases he
        refine ⟨fun hq => hq.1, fun hq => ?_⟩
        obtain ⟨k1, k2, hx⟩ := hq.2
        obtain ⟨l1, w1⟩ := rowK_wo h4 k1
        obtain ⟨l2, w2⟩ := rowK_wo h5 k2
        have b1 := Nat.le_of_ble_eq_true h1
        have b3 := Nat.le_of_ble_eq_true h2
        have hne : b ≠ b2 := fun e => by rw [e, Nat.beq_refl] at h3; cases h3
        refine SndF.rows (N := 6) (bs := [b, b2]) (s0 := wS 6 [rowI 1 n g e opn sz ro, rowI 1 m h e2 opn2 sz2 ro2]) sng (re_sndF n c g e opn sz ro m c2 h e2 opn2 sz2 ro2 x hx.1 hx.2.1 hx.2.2) rfl rfl (fun x hx => ?_) (by simp [hne]) (by omega) (fun x hx _ => ?_) (fun x hx => ?_) (fun f j hj => ?_) (fun f _ hf => ?_)
        · simp at hx
          rcases hx with rfl | rfl <;> omega
        · rcases Nat.lt_or_ge x 6 with k | k
          · have hz := (by decide : ∀ b, b < 6 → Nat.testBit 192 b = false) x k
            rw [hz] at hx; cases hx
          · exact k
        · simp at hx
          rcases hx with rfl | rfl <;> simp [or_bit, bit_self]
        · match j, hj with
          | 0, _ => exact w1 f
          | 1, _ => exact w2 f
        · exact wvs_three (slice_wv (hf 0 (by simp))) (slice_wv (hf 1 (by simp))) (ground_wv (n := 8) rfl)
      · cases he
    · cases he
  · cases he
end
end Go.Proofs.YtbkpnhbcihcgaaaGreatDoor
end
section
set_option linter.all false
set_option maxRecDepth 1000000
open Go.RowKit
namespace Go.Proofs.YtbkpnhbcihcgaaaGreatDoor
open Mini
noncomputable def siX : Code := loopOf Tryz.prog 25
def siA (n m c d i : Nat) : MA := MA.ofL 26 [.slice (some ⟨6, 0, none⟩) n c, .slice (some ⟨7, 0, none⟩) m d, .chan none, .chan none, .bool false, .int .i64 (i : Int), .chan none, .chan none, .chan none, .chan none, .chan none, .chan none, .chan none, .chan none, .chan none, .chan none, .chan none, .chan none, .chan none, .chan none, .chan none, .chan none, .chan none, .chan none, .chan none, .chan none] []
def siArgs (n m c d : Nat) : Array Value := #[.slice (some ⟨6, 0, none⟩) n c, .slice (some ⟨7, 0, none⟩) m d]
noncomputable def siR (n m c d : Nat) (g h : Nat → Nat → Int) (e e2 : TypeId) (o o2 : Bool) (z z2 : Nat) (r r2 : Bool) (i : Nat) : Option OutCS := evCRS Tryz.prog noXS 1000 none false siX (siA n m c d i) (wS 6 [rowI 1 n g e o z r, rowI 1 m h e2 o2 z2 r2]) ⟨[1, .row i 0, .row i 0, .row i 0, .row i 0, 0, .azz (.int .i64 ((i + 1 : Nat) : Int))], True⟩
noncomputable def siW (n m c d : Nat) (g h : Nat → Nat → Int) (e e2 : TypeId) (o o2 : Bool) (z z2 : Nat) (r r2 : Bool) (i : Nat) : Option OutCS := evCRS Tryz.prog noXS 1000 none false siX (siA n m c d i) (wS 6 [rowI 1 n g e o z r, rowI 1 m h e2 o2 z2 r2]) ⟨[1, .row i 0, .row i 0, .row i 0, .row i 0, 1], True⟩
noncomputable def siE (n m c d : Nat) (g h : Nat → Nat → Int) (e e2 : TypeId) (o o2 : Bool) (z z2 : Nat) (r r2 : Bool) (i : Nat) : Option OutCS := evCRS Tryz.prog noXS 1000 none false siX (siA n m c d i) (wS 6 [rowI 1 n g e o z r, rowI 1 m h e2 o2 z2 r2]) ⟨[0], True⟩
noncomputable def siF_ne (n m c d : Nat) (g h : Nat → Nat → Int) (e e2 : TypeId) (o o2 : Bool) (z z2 : Nat) (r r2 : Bool) : Option OutS := evFS Tryz.prog noXS 1000 25 (siArgs n m c d) (wS 6 [rowI 1 n g e o z r, rowI 1 m h e2 o2 z2 r2]) ⟨[1], True⟩
noncomputable def siF_ret (n m c d : Nat) (g h : Nat → Nat → Int) (e e2 : TypeId) (o o2 : Bool) (z z2 : Nat) (r r2 : Bool) (i : Nat) : Option OutS := evFS Tryz.prog noXS 1000 25 (siArgs n m c d) (wS 6 [rowI 1 n g e o z r, rowI 1 m h e2 o2 z2 r2]) ⟨[0, .lp 51 (siA n m c d 0) 6 [rowI 1 n g e o z r, rowI 1 m h e2 o2 z2 r2] .ret (siA n m c d i) [rowI 1 n g e o z r, rowI 1 m h e2 o2 z2 r2] 192 0], True⟩
noncomputable def siF_end (n m c d : Nat) (g h : Nat → Nat → Int) (e e2 : TypeId) (o o2 : Bool) (z z2 : Nat) (r r2 : Bool) (i : Nat) : Option OutS := evFS Tryz.prog noXS 1000 25 (siArgs n m c d) (wS 6 [rowI 1 n g e o z r, rowI 1 m h e2 o2 z2 r2]) ⟨[0, .lp 51 (siA n m c d 0) 6 [rowI 1 n g e o z r, rowI 1 m h e2 o2 z2 r2] (.exit 0) (siA n m c d i) [rowI 1 n g e o z r, rowI 1 m h e2 o2 z2 r2] 192 0], True⟩
section
variable (n m c d : Nat) (g h : Nat → Nat → Int) (e e2 : TypeId) (o o2 : Bool) (z z2 : Nat) (r r2 : Bool) (i : Nat)
theorem siR_eq : seenF 6 2 51 (siR n m c d g h e e2 o o2 z z2 r r2 i) = some (.normal, siA n m c d (i + 1), [rowI 1 n g e o z r, rowI 1 m h e2 o2 z2 r2], 192, 0, ⟨[], (((((((True ∧ ((decide ((((i : Nat)) : Int) < (((n : Nat)) : Int))) = true)) ∧ (((((i : Nat)) : Int) = (Int.ofNat i)) ∧ (i < n))) ∧ (((0 + (i * 1)) = ((i * 1) + 0)) ∧ (i < n))) ∧ (((((i : Nat)) : Int) = (Int.ofNat i)) ∧ (i < m))) ∧ (((0 + (i * 1)) = ((i * 1) + 0)) ∧ (i < m))) ∧ (((g i 0) != (h i 0)) = false)) ∧ (((.int .i64 (IntKind.i64.wrap ((((i : Nat)) : Int) + (1 : Int)))) : Value) = (.int .i64 ((((i + 1) : Nat)) : Int))))⟩) := by kernel_rfl
theorem siW_eq : seenF 6 2 51 (siW n m c d g h e e2 o o2 z z2 r r2 i) = some (.ret, siA n m c d i, [rowI 1 n g e o z r, rowI 1 m h e2 o2 z2 r2], 192, 0, ⟨[], ((((((True ∧ ((decide ((((i : Nat)) : Int) < (((n : Nat)) : Int))) = true)) ∧ (((((i : Nat)) : Int) = (Int.ofNat i)) ∧ (i < n))) ∧ (((0 + (i * 1)) = ((i * 1) + 0)) ∧ (i < n))) ∧ (((((i : Nat)) : Int) = (Int.ofNat i)) ∧ (i < m))) ∧ (((0 + (i * 1)) = ((i * 1) + 0)) ∧ (i < m))) ∧ (((g i 0) != (h i 0)) = true))⟩) := by kernel_rfl
theorem siE_eq : seenF 6 2 51 (siE n m c d g h e e2 o o2 z z2 r r2 i) = some ((.exit (0 : Nat)), siA n m c d i, [rowI 1 n g e o z r, rowI 1 m h e2 o2 z2 r2], 0, 0, ⟨[], (True ∧ ((decide ((((i : Nat)) : Int) < (((n : Nat)) : Int))) = false))⟩) := by kernel_rfl
theorem siA_keep : allKeep (6 + 2) (siA n m c d i) 26 = true := by kernel_rfl
theorem siF_neeq : siF_ne n m c d g h e e2 o o2 z z2 r r2 = some ((.bool false), wS 6 [rowI 1 n g e o z r, rowI 1 m h e2 o2 z2 r2], 0, 0, ⟨[], (True ∧ (((((n : Nat)) : Int) != (((m : Nat)) : Int)) = true))⟩) := by kernel_rfl
theorem siF_reteq : siF_ret n m c d g h e e2 o o2 z z2 r r2 i = some ((.bool false), wS 6 [rowI 1 n g e o z r, rowI 1 m h e2 o2 z2 r2], 192, 0, ⟨[], ((True ∧ (((((n : Nat)) : Int) != (((m : Nat)) : Int)) = false)) ∧ ((((siA n m c d (0 : Nat)) = (siA n m c d (0 : Nat))) ∧ ((8 = (6 + 2)) ∧ ((HAppend.hAppend (List.replicate (6 : Nat) MObj.hole) ((rowI (1 : Nat) n g e o z r) :: ((rowI (1 : Nat) m h e2 o2 z2 r2) :: []))) = (HAppend.hAppend (List.replicate (6 : Nat) MObj.hole) ((rowI (1 : Nat) n g e o z r) :: ((rowI (1 : Nat) m h e2 o2 z2 r2) :: [])))))) ∧ SndC Tryz.prog none (.loop siX) (siA n m c d 0).act (wS 6 [rowI 1 n g e o z r, rowI 1 m h e2 o2 z2 r2]) .ret (siA n m c d i).act (wS 6 [rowI 1 n g e o z r, rowI 1 m h e2 o2 z2 r2]) 192 0))⟩) := by kernel_rfl
theorem siF_endeq : siF_end n m c d g h e e2 o o2 z z2 r r2 i = some ((.bool true), wS 6 [rowI 1 n g e o z r, rowI 1 m h e2 o2 z2 r2], 192, 0, ⟨[], ((True ∧ (((((n : Nat)) : Int) != (((m : Nat)) : Int)) = false)) ∧ ((((siA n m c d (0 : Nat)) = (siA n m c d (0 : Nat))) ∧ ((8 = (6 + 2)) ∧ ((HAppend.hAppend (List.replicate (6 : Nat) MObj.hole) ((rowI (1 : Nat) n g e o z r) :: ((rowI (1 : Nat) m h e2 o2 z2 r2) :: []))) = (HAppend.hAppend (List.replicate (6 : Nat) MObj.hole) ((rowI (1 : Nat) n g e o z r) :: ((rowI (1 : Nat) m h e2 o2 z2 r2) :: [])))))) ∧ SndC Tryz.prog none (.loop siX) (siA n m c d 0).act (wS 6 [rowI 1 n g e o z r, rowI 1 m h e2 o2 z2 r2]) (.exit 0) (siA n m c d i).act (wS 6 [rowI 1 n g e o z r, rowI 1 m h e2 o2 z2 r2]) 192 0))⟩) := by kernel_rfl
variable {n c d g h e e2 o o2 z z2 r r2 i}
theorem si_go (hn : (n : Int) ≤ 9223372036854775807) (hi : i < n) (h0 : g i 0 = h i 0) : SndC Tryz.prog none siX (siA n n c d i).act (wS 6 [rowI 1 n g e o z r, rowI 1 n h e2 o2 z2 r2]) .normal (siA n n c d (i + 1)).act (wS 6 [rowI 1 n g e o z r, rowI 1 n h e2 o2 z2 r2]) 192 0 :=
  wayF_ok0 smx noXS_ok sng (siR_eq n n c d g h e e2 o o2 z z2 r r2 i) ⟨⟨⟨⟨⟨⟨⟨trivial, decide_eq_true (by omega)⟩, rfl, hi⟩, (by omega), hi⟩, rfl, hi⟩, (by omega), hi⟩, (by simp [h0])⟩, wnextV hi hn⟩ rfl (siA_keep n n c d i) rowI_keep2 rowI_keep2 (by exact (by decide : ∀ b, b < 8 → Nat.testBit 0 b = false)) (by exact (by decide : ∀ b, b < 8 → Nat.testBit 192 b = true → Nat.testBit 192 b = true))
theorem si_bad (hi : i < n) (h0 : ¬ (g i 0 = h i 0)) : SndC Tryz.prog none siX (siA n n c d i).act (wS 6 [rowI 1 n g e o z r, rowI 1 n h e2 o2 z2 r2]) .ret (siA n n c d i).act (wS 6 [rowI 1 n g e o z r, rowI 1 n h e2 o2 z2 r2]) 192 0 :=
  wayF_ok0 smx noXS_ok sng (siW_eq n n c d g h e e2 o o2 z z2 r r2 i) ⟨⟨⟨⟨⟨⟨trivial, decide_eq_true (by omega)⟩, rfl, hi⟩, (by omega), hi⟩, rfl, hi⟩, (by omega), hi⟩, (by simpa using h0)⟩ rfl (siA_keep n n c d i) rowI_keep2 rowI_keep2 (by exact (by decide : ∀ b, b < 8 → Nat.testBit 0 b = false)) (by exact (by decide : ∀ b, b < 8 → Nat.testBit 192 b = true → Nat.testBit 192 b = true))
theorem si_end (hi : ¬ i < n) : SndC Tryz.prog none siX (siA n n c d i).act (wS 6 [rowI 1 n g e o z r, rowI 1 n h e2 o2 z2 r2]) (.exit 0) (siA n n c d i).act (wS 6 [rowI 1 n g e o z r, rowI 1 n h e2 o2 z2 r2]) 192 0 :=
  wayF_ok0 smx noXS_ok sng (siE_eq n n c d g h e e2 o o2 z z2 r r2 i) ⟨trivial, decide_eq_false (by omega)⟩ rfl (siA_keep n n c d i) rowI_keep2 rowI_keep2 (by exact (by decide : ∀ b, b < 8 → Nat.testBit 0 b = false)) (by exact (by decide : ∀ b, b < 8 → Nat.testBit 0 b = true → Nat.testBit 192 b = true))
end
def sameI (g h : Nat → Nat → Int) (n : Nat) : Prop := ∀ i, i < n → g i 0 = h i 0
instance (g h : Nat → Nat → Int) (n : Nat) : Decidable (sameI g h n) := inferInstanceAs (Decidable (∀ i, i < n → _))
theorem si_sndF {n m : Nat} (c d : Nat) (g h : Nat → Nat → Int) (e e2 : TypeId) (o o2 : Bool) (z z2 : Nat) (r r2 : Bool) (hn : (n : Int) ≤ 9223372036854775807) :
    SndF Tryz.prog 25 (siArgs n m c d) (wS 6 [rowI 1 n g e o z r, rowI 1 m h e2 o2 z2 r2]) (.bool (decide (n = m ∧ sameI g h n))) (wS 6 [rowI 1 n g e o z r, rowI 1 m h e2 o2 z2 r2]) 192 0 := by
  by_cases hm : n = m
  · subst hm
    rcases loop_split (A := fun i => (siA n n c d i).act) (S := fun _ => wS 6 [rowI 1 n g e o z r, rowI 1 n h e2 o2 z2 r2]) (A1 := fun i => (siA n n c d i).act) (S1 := fun _ => wS 6 [rowI 1 n g e o z r, rowI 1 n h e2 o2 z2 r2]) (good := fun i => g i 0 = h i 0) (fun i => Decidable.em _) n
      (fun i hi h0 => si_go hn hi h0) (fun i hi h0 => si_bad hi h0) (si_end (Nat.lt_irrefl n)) (by simp) (by simp) with ⟨h1, h2⟩ | ⟨j, hj, h1, h3, h2⟩
    · rw [decide_eq_true ⟨rfl, h1⟩]
      exact (evFS_ok smx noXS_ok 1000 _ _ _ _ _ _ _ _ _ (show evFS _ _ _ _ _ _ _ = _ from siF_endeq n n c d g h e e2 o o2 z z2 r r2 n)).2 ⟨⟨trivial, by simp⟩, ⟨rfl, rfl, rfl⟩, h2⟩
    · rw [decide_eq_false (fun q => h3 (q.2 j hj))]
      exact (evFS_ok smx noXS_ok 1000 _ _ _ _ _ _ _ _ _ (show evFS _ _ _ _ _ _ _ = _ from siF_reteq n n c d g h e e2 o o2 z z2 r r2 j)).2 ⟨⟨trivial, by simp⟩, ⟨rfl, rfl, rfl⟩, h2⟩
  · rw [decide_eq_false (fun q => hm q.1)]
    exact ((evFS_ok smx noXS_ok 1000 _ _ _ _ _ _ _ _ _ (show evFS _ _ _ _ _ _ _ = _ from siF_neeq n m c d g h e e2 o o2 z z2 r r2)).2 ⟨trivial, by simp; omega⟩).mask (fun b _ hb => by simp at hb) (fun b _ => rfl)

def kSameI : CallS := fun f xs s q => match decide (f = 25) with
  | true => match xs.toList with
    | [.slice (some ⟨b, 0, none⟩) n c, .slice (some ⟨b2, 0, none⟩) m d] => match Nat.ble 6 b, Nat.ble 6 b2, Nat.beq b b2, rowK 1 .i64 s b n, rowK 1 .i64 s b2 m with
      | true, true, false, some (g, _, _, _, _, p), some (h, _, _, _, _, p2) => some (.bool (decide (n = m ∧ sameI g h n)), s, 2 ^ b ||| 2 ^ b2, 0, ⟨q.rest, q.ob ∧ (p ∧ p2 ∧ (n : Int) ≤ 9223372036854775807)⟩)
      | _, _, _, _, _ => none
    | _ => none
  | false => none
theorem kSameI_ok : FOkS Tryz.prog kSameI := fun f xs s q u s1 R W q1 he => by
  unfold kSameI at he
  split at he
  · rename_i hf
    have hf := of_decide_eq_true hf
    subst hf
    split at he
    · rename_i b n c b2 m d hx
      have hxs : xs = #[.slice (some ⟨b, 0, none⟩) n c, .slice (some ⟨b2, 0, none⟩) m d] := by apply Array.ext'; exact hx
      subst hxs
      split at he
      · rename_i g e o z r p h e2 o2 z2 r2 p2 h1 h2 h3 h4 h5
        cases he
        refine ⟨fun hq => hq.1, fun hq => ?_⟩
        obtain ⟨k1, k2, hn⟩ := hq.2
        obtain ⟨l1, w1⟩ := rowK_wo h4 k1
        obtain ⟨l2, w2⟩ := rowK_wo h5 k2
        have b1 := Nat.le_of_ble_eq_true h1
        have b3 := Nat.le_of_ble_eq_true h2
        have hne : b ≠ b2 := fun e => by rw [e, Nat.beq_refl] at h3; cases h3
        refine SndF.rows (N := 6) (bs := [b, b2]) (s0 := wS 6 [rowI 1 n g e o z r, rowI 1 m h e2 o2 z2 r2]) sng (si_sndF c d g h e e2 o o2 z z2 r r2 hn) rfl rfl (fun x hx => ?_) (by simp [hne]) (by omega) (fun x hx _ => ?_) (fun x hx => ?_) (fun f j hj => ?_) (fun f _ hf => ?_)
        · simp at hx
          rcases hx with rfl | rfl <;> omega
        · rcases Nat.lt_or_ge x 6 with k | k
          · have hz := (by decide : ∀ b, b < 6 → Nat.testBit 192 b = false) x k
            rw [hz] at hx; cases hx
          · exact k
        · simp at hx
          rcases hx with rfl | rfl <;> simp [or_bit, bit_self]
        · match j, hj with
          | 0, _ => exact w1 f
          | 1, _ => exact w2 f
        · exact wvs_two (slice_wv (hf 0 (by simp))) (slice_wv (hf 1 (by simp)))
      · cases he
    · cases he
  · cases he
end Go.Proofs.YtbkpnhbcihcgaaaGreatDoor
end
section
namespace Go.Proofs.YtbkpnhbcihcgaaaGreatDoor
set_option linter.all false
open Go.RowKit
namespace Mini
variable {P : Program} {s0 s : St}
def valsEqT : List Value → List Value → Bool
  | [], _ => true
  | .int k a :: l, .int k' b :: l' => decide (k = k') && (a == b) && valsEqT l l'
  | .string a :: l, .string b :: l' => decide (a.data.toList = b.data.toList) && valsEqT l l'
  | _, _ => false
theorem valsEqT_at : ∀ (c c' : List Value), valsEqT c c' = true → ∀ (i : Nat) (v : Value), c[i]? = some v → c'[i]? = some v ∧ ((∃ k a, v = .int k a) ∨ ∃ a, v = .string a)
  | [], c', h, i, v, hi => by simp at hi
  | x :: l, [], h, i, v, hi => by cases x <;> simp [valsEqT] at h
  | x :: l, y :: l', h, i, v, hi => by
    cases x with
    | int k a => cases y with
      | int k' b =>
        simp only [valsEqT, Bool.and_eq_true, decide_eq_true_eq, beq_iff_eq] at h
        obtain ⟨⟨rfl, rfl⟩, h3⟩ := h
        cases i with
        | zero => simp at hi; subst hi; exact ⟨rfl, .inl ⟨k, a, rfl⟩⟩
        | succ i => exact valsEqT_at l l' h3 i v (by simpa using hi)
      | _ => simp [valsEqT] at h
    | string a => cases y with
      | string b =>
        simp only [valsEqT, Bool.and_eq_true, decide_eq_true_eq] at h
        obtain ⟨h2, h3⟩ := h
        have e : a = b := by
          cases a; cases b
          exact congrArg ByteArray.mk (Array.ext' h2)
        subst e
        cases i with
        | zero => simp at hi; subst hi; exact ⟨rfl, .inr ⟨a, rfl⟩⟩
        | succ i => exact valsEqT_at l l' h3 i v (by simpa using hi)
      | _ => simp [valsEqT] at h
    | _ => simp [valsEqT] at h
theorem string_inv {ρ : Ren} {a : ByteArray} {v' : Value} (h : VR ρ (.string a) v') : v' = .string a := by cases h; rfl
def tabEqT : MObj → MObj → Bool
  | .hole, _ => true
  | .cells c _ _ _ _, .cells c' _ _ _ _ => valsEqT c c'
  | _, _ => false
def tabsEqT (s0 s : St) : Nat → Bool
  | 0 => true
  | n + 1 => tabEqT (s0.get n) (s.get n) && tabsEqT s0 s n
theorem tabsEqT_at : ∀ (n : Nat), tabsEqT s0 s n = true → ∀ b, b < n → tabEqT (s0.get b) (s.get b) = true
  | 0, h, b, hb => by omega
  | n + 1, h, b, hb => by
    simp only [tabsEqT, Bool.and_eq_true] at h
    rcases Nat.lt_or_ge b n with c | c
    · exact tabsEqT_at n h.2 b c
    · rw [show b = n from by omega]; exact h.1
theorem holdsT_of {ρ : Ren} {C : Nat → MObj} {w : World} (hn : s0.next = P.globals.size) (hok : tabsOk s0 s0.next = true) (heq : tabsEqT s0 s s0.next = true) (hG : Glob P ρ) (ag : ∀ b, (2 ^ s0.next - 1).testBit b = true → b < s.next → C b = s.get b) (hr : WRel ρ C w) : Holds P s0 w := by
  refine ⟨hn, fun b hb => ?_⟩
  rw [← hn] at hb
  have h1 := tabsOk_at _ hok b hb
  have h2 := tabsEqT_at _ heq b hb
  cases hs : s0.get b with
  | hole => exact .inl rfl
  | cells c e opn sz r =>
    rw [hs] at h1 h2
    cases ho : s.get b with
    | cells c' e' opn' sz' r' =>
      rw [ho] at h2
      simp only [tabEqT] at h2
      cases opn <;> cases r <;> cases sz <;> simp only [tabOk, Bool.and_eq_true, Bool.not_eq_true', Bool.false_eq_true] at h1
      refine .inr ⟨c, e, rfl, by intro hc; rw [hc] at h1; simp at h1, h1.2, fun i v hi => ?_⟩
      obtain ⟨k1, k2⟩ := valsEqT_at c c' h2 i v hi
      have hlt : b < s.next := St.lt_of_live (by rw [ho]; simp)
      have hC : C b = .cells c' e' opn' sz' r' := (ag b (by rw [Nat.testBit_two_pow_sub_one]; simpa using hb) hlt).trans ho
      obtain ⟨L, cs, fr, q1, q2, q3⟩ := row_of hr hC
      obtain ⟨L', g1, g2, g3⟩ := hG b (hn ▸ hb)
      rw [q1] at g1
      cases g1
      obtain ⟨p1, p2, p3, p4, p5, p6, p7, p8⟩ := q3
      obtain ⟨v', z1, z2⟩ := p6 i _ k1
      have e : v' = v := by
        rcases k2 with ⟨k, a, rfl⟩ | ⟨a, rfl⟩
        · exact int_inv z2
        · exact string_inv z2
      subst e
      rw [g2] at q2
      rw [cell_row q2]
      rw [g3, Nat.zero_add] at z1
      exact z1
    | _ => rw [ho] at h2; simp [tabEqT] at h2
  | _ => rw [hs] at h1; simp [tabOk] at h1
def tabT (s0 : St) (f0 : FuncId) : CallS := fun f xs s q =>
  match decide (f = f0) && xs.toList.isEmpty && tabsOk s0 s0.next && tabsEqT s0 s s0.next with
  | true => some (.bool true, s, 2 ^ s0.next - 1, 0, q)
  | false => none
theorem tabT_ok {f0 : FuncId} (hn : s0.next = P.globals.size) (h : ∀ w, Holds P s0 w → Calls P f0 #[] w fun e w' => e = .returned (.bool true) ∧ Below w.heap.size w w') : FOkS P (tabT s0 f0) := fun f xs s q v s1 R W q1 he => by
  unfold tabT at he
  split at he
  · rename_i hc
    cases he
    simp only [Bool.and_eq_true, decide_eq_true_eq] at hc
    obtain ⟨⟨⟨rfl, h2⟩, h3⟩, h4⟩ := hc
    have hx : xs = #[] := by
      apply Array.ext'
      simpa using h2
    subst hx
    refine ⟨id, fun _ => sndF_quietG rfl fun ρ C args' w hG ag hr ha => ?_⟩
    have ea : args' = #[] := Array.eq_empty_of_size_eq_zero (ha.1.symm.trans rfl)
    subst ea
    exact h w (holdsT_of hn h3 h4 hG ag hr)
  · cases he
end Mini
end Go.Proofs.YtbkpnhbcihcgaaaGreatDoor
end
section
namespace Go.Proofs.YtbkpnhbcihcgaaaGreatDoor
set_option linter.all false
namespace Mini
def obY (r : Option OutS) : Prop := match r with
  | some (_, _, _, _, q) => q.ob
  | none => False
def goodY (r : Option OutS) : Bool := match r with
  | some (.bool true, _, _, 0, ⟨[], _⟩) => true
  | _ => false
theorem sndY {P : Program} {X : CallS} {n : Nat} {f : FuncId} {xs : Array Value} {s : St} {q : Orc} {r : Option OutS} (he : r = evFS P X n f xs s q) (hm : P.follows .mixedOrders = true) (hX : FOkS P X) (hg : goodY r = true) (ho : obY r) : ∃ s1 R, SndF P f xs s (.bool true) s1 R 0 := by
  unfold goodY at hg
  split at hg
  · exact ⟨_, _, (evFS_ok hm hX n _ _ _ _ _ _ _ _ _ he.symm).2 ho⟩
  · cases hg
end Mini
end Go.Proofs.YtbkpnhbcihcgaaaGreatDoor
end
section
set_option linter.all false
set_option maxRecDepth 1000000
namespace Go.Proofs.YtbkpnhbcihcgaaaGreatDoor
open Mini
noncomputable def aw3B : Code := bodyOf Tryz.prog 12
noncomputable def aw3A0 : MA := ⟨291, .leaf, []⟩
noncomputable def aw3H0 : Tri := (.node (.node (.one (.cells [.int .i64 (1), .int .i64 (0), .int .i64 (0), .int .i64 (1), .int .i64 (-1), .int .i64 (0), .int .i64 (0), .int .i64 (-1)] 150 true 0 true)) (.one (.cells [.string ⟨#[112, 108, 97, 110, 116, 110, 117, 109]⟩, .string ⟨#[112, 108, 97, 110, 116, 100, 101, 110]⟩, .string ⟨#[99, 111, 110, 116, 114, 111, 108, 108, 101, 114, 110, 117, 109]⟩, .string ⟨#[99, 111, 110, 116, 114, 111, 108, 108, 101, 114, 100, 101, 110]⟩] 166 true 0 true))) (.node (.one (.cells [.int .u64 (1), .int .u64 (10), .int .u64 (100), .int .u64 (1000), .int .u64 (10000), .int .u64 (100000), .int .u64 (1000000), .int .u64 (10000000), .int .u64 (100000000), .int .u64 (1000000000), .int .u64 (10000000000), .int .u64 (100000000000), .int .u64 (1000000000000), .int .u64 (10000000000000), .int .u64 (100000000000000), .int .u64 (1000000000000000), .int .u64 (10000000000000000), .int .u64 (100000000000000000), .int .u64 (1000000000000000000), .int .u64 (10000000000000000000)] 231 true 0 true)) .leaf))
noncomputable def aw3H1 : Tri := (.node (.node (.node (.node (.node (.node (.node (.node (.node (.node (.node (.node (.node (.node (.node (.node (.node (.node (.node (.node aw3H0 .leaf) .leaf) .leaf) .leaf) .leaf) .leaf) .leaf) .leaf) .leaf) .leaf) .leaf) .leaf) .leaf) .leaf) .leaf) .leaf) .leaf) .leaf) .leaf) .leaf)
noncomputable def aw3S0 : St := ⟨6, aw3H1, []⟩
noncomputable def aw3H2 : TV := (.node (.node (.node (.node (.one (.bool false)) .leaf) .leaf) .leaf) .leaf)
noncomputable def aw3A1 : MA := ⟨291, (.node (.node (.node (.node (.node aw3H2 .leaf) .leaf) .leaf) .leaf) .leaf), []⟩
noncomputable def aw3S1 : St := ⟨6, aw3H1, []⟩
noncomputable def aw3H3 : TV := (.node (.one (.bool false)) (.one (.slice (some ⟨13, 0, none⟩) 2 2)))
noncomputable def aw3H4 : TV := (.one (.tuple #[.slice (some ⟨13, 0, none⟩) 2 2, .int .i64 (0)]))
noncomputable def aw3H5 : TV := (.node aw3H4 (.one (.slice (some ⟨6, 0, none⟩) 3 3)))
noncomputable def aw3H6 : TV := (.node aw3H4 (.one (.slice (some ⟨13, 0, none⟩) 2 2)))
noncomputable def aw3A2 : MA := ⟨291, (.node (.node (.node (.node (.node (.node (.node (.node aw3H3 (.node (.one (.int .i64 (0))) .leaf)) .leaf) .leaf) .leaf) (.node (.node .leaf (.node (.node .leaf aw3H5) (.node aw3H6 (.node (.one (.int .i64 (0))) .leaf)))) .leaf)) .leaf) .leaf) .leaf), []⟩
noncomputable def aw3H7 : Tri := (.one (.cells [.int .i64 (1), .int .i64 (0), .int .i64 (2)] 3 false 0 false))
noncomputable def aw3H8 : Tri := (.node aw3H0 (.node .leaf (.node aw3H7 (.one (.cells [] 3 false 0 false)))))
noncomputable def aw3H9 : Tri := (.one (.cells [.int .i64 (1), .int .i64 (0), .int .i64 (2)] 3 true 1 false))
noncomputable def aw3H10 : Tri := (.one (.cells [.int .i64 (0), .int .i64 (3)] 3 true 1 false))
noncomputable def aw3H11 : Tri := (.node (.node aw3H9 (.one (.cells [.slice (some ⟨8, 0, none⟩) 3 3] 140 false 0 false))) (.node (.one (.cells [] 3 false 0 false)) aw3H10))
noncomputable def aw3H12 : Tri := (.node (.one (.cells [.slice (some ⟨11, 0, none⟩) 2 2] 140 false 0 false)) (.one (.cells [.slice (some ⟨8, 0, none⟩) 3 3, .slice (some ⟨11, 0, none⟩) 2 2] 140 true 1 false)))
noncomputable def aw3S2 : St := ⟨14, (.node (.node (.node (.node (.node (.node (.node (.node (.node (.node (.node (.node (.node (.node (.node (.node (.node (.node (.node aw3H8 (.node aw3H11 (.node aw3H12 .leaf))) .leaf) .leaf) .leaf) .leaf) .leaf) .leaf) .leaf) .leaf) .leaf) .leaf) .leaf) .leaf) .leaf) .leaf) .leaf) .leaf) .leaf) .leaf), []⟩
noncomputable def aw3H13 : TV := (.node (.one (.int .i64 (0))) (.one (.slice (some ⟨17, 0, none⟩) 1 1)))
noncomputable def aw3H14 : TV := (.node (.node (.one (.int .i64 (0))) .leaf) .leaf)
noncomputable def aw3H15 : TV := (.one (.tuple #[.slice (some ⟨17, 0, none⟩) 1 1, .int .i64 (0)]))
noncomputable def aw3H16 : TV := (.node aw3H6 (.node (.one (.int .i64 (0))) aw3H15))
noncomputable def aw3H17 : TV := (.node .leaf (.node (.node .leaf aw3H5) aw3H16))
noncomputable def aw3H18 : TV := (.node (.node (.one (.slice (some ⟨14, 0, none⟩) 3 3)) aw3H15) (.node (.one (.slice (some ⟨17, 0, none⟩) 1 1)) (.one (.int .i64 (0)))))
noncomputable def aw3A3 : MA := ⟨291, (.node (.node (.node (.node (.node (.node (.node (.node aw3H3 aw3H13) aw3H14) .leaf) .leaf) (.node aw3H17 (.node (.node aw3H18 .leaf) .leaf))) .leaf) .leaf) .leaf), []⟩
noncomputable def aw3H19 : Tri := (.one (.cells [.int .i64 (2), .int .i64 (3), .int .i64 (1)] 3 false 0 false))
noncomputable def aw3H20 : Tri := (.node aw3H8 (.node aw3H11 (.node aw3H12 (.node aw3H19 (.one (.cells [] 3 false 0 false))))))
noncomputable def aw3H21 : Tri := (.one (.cells [.int .i64 (2), .int .i64 (3), .int .i64 (1)] 3 true 1 false))
noncomputable def aw3H22 : Tri := (.node aw3H21 (.one (.cells [.slice (some ⟨16, 0, none⟩) 3 3] 140 false 0 false)))
noncomputable def aw3S3 : St := ⟨18, (.node (.node (.node (.node (.node (.node (.node (.node (.node (.node (.node (.node (.node (.node (.node (.node (.node (.node aw3H20 (.node (.node (.node aw3H22 .leaf) .leaf) .leaf)) .leaf) .leaf) .leaf) .leaf) .leaf) .leaf) .leaf) .leaf) .leaf) .leaf) .leaf) .leaf) .leaf) .leaf) .leaf) .leaf) .leaf), []⟩
noncomputable def aw3H23 : TV := (.node (.one (.int .i64 (0))) (.one (.bool true)))
noncomputable def aw3H24 : TV := (.node aw3H23 (.node (.one (.int .i64 (0))) .leaf))
noncomputable def aw3H25 : TV := (.one (.tuple #[.bool true, .int .i64 (0)]))
noncomputable def aw3H26 : TV := (.node aw3H18 (.node (.node aw3H25 (.one (.slice (some ⟨18, 0, none⟩) 3 3))) (.node aw3H25 (.one (.bool true)))))
noncomputable def aw3A4 : MA := ⟨291, (.node (.node (.node (.node (.node (.node (.node (.node aw3H3 aw3H13) aw3H24) .leaf) .leaf) (.node aw3H17 (.node aw3H26 (.node aw3H14 .leaf)))) .leaf) .leaf) .leaf), []⟩
noncomputable def aw3H27 : Tri := (.node (.node aw3H22 (.node aw3H7 .leaf)) .leaf)
noncomputable def aw3S4 : St := ⟨26, (.node (.node (.node (.node (.node (.node (.node (.node (.node (.node (.node (.node (.node (.node (.node (.node (.node (.node aw3H20 (.node aw3H27 .leaf)) .leaf) .leaf) .leaf) .leaf) .leaf) .leaf) .leaf) .leaf) .leaf) .leaf) .leaf) .leaf) .leaf) .leaf) .leaf) .leaf) .leaf), []⟩
noncomputable def aw3H28 : TV := (.node aw3H23 (.node (.one (.int .i64 (0))) (.one (.bool false))))
noncomputable def aw3H29 : TV := (.one (.tuple #[.bool false, .int .i64 (0)]))
noncomputable def aw3H30 : TV := (.node (.node (.one (.int .i64 (0))) aw3H29) (.node (.one (.slice (some ⟨26, 0, none⟩) 3 3)) aw3H29))
noncomputable def aw3H31 : TV := (.node (.one (.bool false)) (.one (.int .i64 (0))))
noncomputable def aw3A5 : MA := ⟨291, (.node (.node (.node (.node (.node (.node (.node (.node aw3H3 aw3H13) aw3H28) (.node aw3H14 .leaf)) .leaf) (.node aw3H17 (.node aw3H26 (.node aw3H30 (.node aw3H31 .leaf))))) .leaf) .leaf) .leaf), []⟩
noncomputable def aw3S5 : St := ⟨30, (.node (.node (.node (.node (.node (.node (.node (.node (.node (.node (.node (.node (.node (.node (.node (.node (.node (.node aw3H20 (.node aw3H27 (.node (.node .leaf (.node aw3H19 .leaf)) .leaf))) .leaf) .leaf) .leaf) .leaf) .leaf) .leaf) .leaf) .leaf) .leaf) .leaf) .leaf) .leaf) .leaf) .leaf) .leaf) .leaf) .leaf), []⟩
noncomputable def aw3H32 : TV := (.node (.one (.int .i64 (0))) (.one (.pointer (some ⟨42, 0, none⟩))))
noncomputable def aw3H33 : TV := (.one (.tuple #[.agg #[.int .i64 (-1), .int .i64 (0)], .int .i64 (0)]))
noncomputable def aw3H34 : TV := (.node aw3H26 (.node aw3H30 (.node aw3H31 (.node aw3H33 (.one (.slice (some ⟨30, 0, none⟩) 3 3))))))
noncomputable def aw3H35 : TV := (.one (.agg #[.int .i64 (-1), .int .i64 (0)]))
noncomputable def aw3H36 : TV := (.node (.node (.one (.agg #[.int .i64 (0), .int .i64 (1)])) aw3H33) (.node aw3H35 (.one (.int .i64 (0)))))
noncomputable def aw3A6 : MA := ⟨291, (.node (.node (.node (.node (.node (.node (.node (.node aw3H3 aw3H13) aw3H28) (.node (.node aw3H32 (.node (.one (.int .i64 (0))) .leaf)) .leaf)) .leaf) (.node aw3H17 aw3H34)) (.node (.node (.node (.node aw3H36 .leaf) .leaf) .leaf) .leaf)) .leaf) .leaf), []⟩
noncomputable def aw3H37 : Tri := (.node aw3H20 (.node aw3H27 (.node (.node .leaf (.node aw3H19 .leaf)) (.node .leaf (.node aw3H7 .leaf)))))
noncomputable def aw3H38 : Tri := (.one (.cells [.int .i64 (-1), .int .i64 (0)] 24 false 0 false))
noncomputable def aw3S6 : St := ⟨43, (.node (.node (.node (.node (.node (.node (.node (.node (.node (.node (.node (.node (.node (.node (.node (.node (.node aw3H37 (.node (.node .leaf (.node (.node .leaf (.node aw3H38 .leaf)) .leaf)) .leaf)) .leaf) .leaf) .leaf) .leaf) .leaf) .leaf) .leaf) .leaf) .leaf) .leaf) .leaf) .leaf) .leaf) .leaf) .leaf) .leaf), []⟩
noncomputable def aw3H39 : TV := (.node aw3H32 (.node (.one (.int .i64 (0))) (.one (.slice (some ⟨55, 0, none⟩) 2 2))))
noncomputable def aw3H40 : TV := (.one (.tuple #[.slice (some ⟨55, 0, none⟩) 2 2, .int .i64 (0)]))
noncomputable def aw3H41 : TV := (.node aw3H36 (.node (.node aw3H40 (.one (.agg #[.slice (some ⟨44, 0, none⟩) 1 1, .slice (some ⟨45, 0, none⟩) 2 2, .slice (some ⟨46, 0, none⟩) 1 1, .slice (some ⟨47, 0, none⟩) 1 1]))) (.node aw3H40 (.one (.slice (some ⟨55, 0, none⟩) 2 2)))))
noncomputable def aw3A7 : MA := ⟨291, (.node (.node (.node (.node (.node (.node (.node (.node aw3H3 aw3H13) aw3H28) (.node aw3H39 aw3H14)) .leaf) (.node aw3H17 aw3H34)) (.node (.node (.node aw3H41 (.node aw3H14 .leaf)) .leaf) .leaf)) .leaf) .leaf), []⟩
noncomputable def aw3H42 : Tri := (.one (.cells [.slice (some ⟨44, 0, none⟩) 1 1, .slice (some ⟨45, 0, none⟩) 2 2, .slice (some ⟨46, 0, none⟩) 1 1, .slice (some ⟨47, 0, none⟩) 1 1] 71 false 0 false))
noncomputable def aw3H43 : Tri := (.one (.cells [.int .i64 (1)] 3 false 0 false))
noncomputable def aw3H44 : Tri := (.one (.cells [.int .i64 (-1), .int .i64 (2)] 3 false 0 false))
noncomputable def aw3H45 : Tri := (.node (.node aw3H43 aw3H44) (.node aw3H43 aw3H43))
noncomputable def aw3H46 : Tri := (.node .leaf (.node (.node .leaf (.node aw3H38 aw3H42)) aw3H45))
noncomputable def aw3H47 : Tri := (.one (.cells [.int .i64 (0), .int .i64 (2)] 3 true 1 false))
noncomputable def aw3H48 : Tri := (.node (.node (.node aw3H42 .leaf) (.node (.one (.cells [.int .i64 (0), .int .i64 (0), .int .i64 (0), .int .i64 (0), .int .i64 (0)] 26 false 0 false)) aw3H42)) (.node (.node aw3H44 aw3H43) (.node (.one (.cells [] 3 false 0 false)) aw3H47)))
noncomputable def aw3S7 : St := ⟨56, (.node (.node (.node (.node (.node (.node (.node (.node (.node (.node (.node (.node (.node (.node (.node (.node (.node aw3H37 (.node aw3H46 (.node aw3H48 .leaf))) .leaf) .leaf) .leaf) .leaf) .leaf) .leaf) .leaf) .leaf) .leaf) .leaf) .leaf) .leaf) .leaf) .leaf) .leaf) .leaf), []⟩
noncomputable def aw3H49 : TV := (.node (.one (.int .i64 (0))) (.one (.pointer (some ⟨104, 0, none⟩))))
noncomputable def aw3H50 : TV := (.one (.tuple #[.agg #[.complex .f64 4611686018427387904 0, .complex .f64 0 4611686018427387904, .complex .f64 13835058055282163712 0, .complex .f64 0 13835058055282163712], .int .i64 (0)]))
noncomputable def aw3H51 : TV := (.node (.node (.one (.int .i64 (0))) aw3H50) (.node (.one (.agg #[.slice (some ⟨57, 0, none⟩) 1 1, .slice (some ⟨58, 0, none⟩) 2 2, .slice (some ⟨59, 0, none⟩) 1 1, .slice (some ⟨60, 0, none⟩) 1 1])) aw3H50))
noncomputable def aw3H52 : TV := (.one (.agg #[.complex .f64 4611686018427387904 0, .complex .f64 0 4611686018427387904, .complex .f64 13835058055282163712 0, .complex .f64 0 13835058055282163712]))
noncomputable def aw3A8 : MA := ⟨291, (.node (.node (.node (.node (.node (.node (.node (.node aw3H3 aw3H13) aw3H28) (.node aw3H39 (.node aw3H49 (.node (.one (.int .i64 (0))) .leaf)))) .leaf) (.node aw3H17 aw3H34)) (.node (.node (.node aw3H41 (.node aw3H51 (.node (.node aw3H52 (.one (.int .i64 (0)))) .leaf))) .leaf) .leaf)) .leaf) .leaf), []⟩
noncomputable def aw3H53 : Tri := (.node aw3H37 (.node aw3H46 (.node aw3H48 (.node (.node (.node (.one (.cells [.slice (some ⟨57, 0, none⟩) 1 1, .slice (some ⟨58, 0, none⟩) 2 2, .slice (some ⟨59, 0, none⟩) 1 1, .slice (some ⟨60, 0, none⟩) 1 1] 71 false 0 false)) aw3H43) (.node aw3H44 aw3H43)) (.node (.node aw3H43 .leaf) .leaf)))))
noncomputable def aw3H54 : Tri := (.one (.cells [.complex .f64 4611686018427387904 0, .complex .f64 0 4611686018427387904, .complex .f64 13835058055282163712 0, .complex .f64 0 13835058055282163712] 75 false 0 false))
noncomputable def aw3S8 : St := ⟨105, (.node (.node (.node (.node (.node (.node (.node (.node (.node (.node (.node (.node (.node (.node (.node (.node aw3H53 (.node .leaf (.node (.node .leaf (.node (.node (.node aw3H54 .leaf) .leaf) .leaf)) .leaf))) .leaf) .leaf) .leaf) .leaf) .leaf) .leaf) .leaf) .leaf) .leaf) .leaf) .leaf) .leaf) .leaf) .leaf) .leaf), []⟩
noncomputable def aw3H55 : TV := (.node (.one (.int .i64 (0))) (.one (.int .i64 (3))))
noncomputable def aw3H56 : TV := (.node (.node (.node aw3H3 aw3H13) aw3H28) (.node aw3H39 (.node aw3H49 aw3H55)))
noncomputable def aw3H57 : TV := (.node (.node aw3H56 (.node (.node aw3H14 .leaf) .leaf)) (.node aw3H17 aw3H34))
noncomputable def aw3H58 : TV := (.one (.tuple #[.int .i64 (3), .int .i64 (0)]))
noncomputable def aw3H59 : TV := (.node aw3H41 (.node aw3H51 (.node (.node aw3H52 (.one (.int .i64 (0)))) (.node aw3H58 (.one (.agg #[.slice (some ⟨106, 0, none⟩) 1 1, .slice (some ⟨107, 0, none⟩) 2 2, .slice (some ⟨108, 0, none⟩) 1 1, .slice (some ⟨109, 0, none⟩) 1 1]))))))
noncomputable def aw3A9 : MA := ⟨291, (.node (.node (.node aw3H57 (.node (.node aw3H59 (.node (.node (.node (.node aw3H58 (.one (.int .i64 (3)))) (.node (.one (.int .i64 (0))) .leaf)) .leaf) .leaf)) .leaf)) .leaf) .leaf), []⟩
noncomputable def aw3H60 : Tri := (.node aw3H53 (.node .leaf (.node (.node .leaf (.node (.node (.node aw3H54 (.one (.cells [.slice (some ⟨106, 0, none⟩) 1 1, .slice (some ⟨107, 0, none⟩) 2 2, .slice (some ⟨108, 0, none⟩) 1 1, .slice (some ⟨109, 0, none⟩) 1 1] 71 false 0 false))) (.node aw3H43 aw3H44)) (.node (.node aw3H43 aw3H43) .leaf))) .leaf)))
noncomputable def aw3S9 : St := ⟨151, (.node (.node (.node (.node (.node (.node (.node (.node (.node (.node (.node (.node (.node (.node (.node aw3H60 .leaf) .leaf) .leaf) .leaf) .leaf) .leaf) .leaf) .leaf) .leaf) .leaf) .leaf) .leaf) .leaf) .leaf) .leaf), []⟩
noncomputable def aw3H61 : TV := (.node (.one (.int .i64 (0))) (.one (.int .i64 (0))))
noncomputable def aw3H62 : TV := (.node (.node aw3H61 aw3H61) (.node aw3H61 aw3H61))
noncomputable def aw3H63 : TV := (.node (.one (.bool false)) (.one (.bool false)))
noncomputable def aw3H64 : TV := (.node (.one (.bool false)) (.one (.bool true)))
noncomputable def aw3H65 : TV := (.node (.node aw3H59 (.node (.node (.node (.node aw3H58 (.one (.int .i64 (3)))) aw3H61) (.node aw3H61 aw3H61)) aw3H62)) (.node (.node (.node (.node aw3H61 aw3H63) (.node (.node (.one (.slice (some ⟨13, 0, none⟩) 2 2)) (.one (.slice (some ⟨158, 0, none⟩) 2 2))) (.node (.one (.slice (some ⟨159, 0, none⟩) 3 3)) (.one (.slice (some ⟨160, 0, none⟩) 2 2))))) (.node (.node (.node (.one (.slice (some ⟨161, 0, none⟩) 2 2)) (.one (.bool true))) aw3H63) (.node (.node (.one (.bool false)) (.one (.slice (some ⟨17, 0, none⟩) 1 1))) (.node (.one (.slice (some ⟨165, 0, none⟩) 1 1)) (.one (.slice (some ⟨166, 0, none⟩) 3 3)))))) (.node (.node (.node (.node (.one (.slice (some ⟨167, 0, none⟩) 1 1)) (.one (.bool true))) aw3H63) (.node aw3H64 aw3H63)) (.node (.node aw3H63 aw3H63) (.node (.node aw3H35 aw3H35) aw3H63)))))
noncomputable def aw3H66 : TV := (.node (.node (.node (.one (.bool false)) (.one (.slice (some ⟨55, 0, none⟩) 2 2))) (.node (.one (.slice (some ⟨168, 0, none⟩) 2 2)) (.one (.bool true)))) (.node aw3H63 (.node (.one (.bool false)) aw3H52)))
noncomputable def aw3H67 : TV := (.node (.node aw3H52 (.one (.bool false))) aw3H63)
noncomputable def aw3H68 : TV := (.node (.one (.int .i64 (3))) (.one (.bool false)))
noncomputable def aw3A10 : MA := ⟨291, (.node (.node (.node aw3H57 aw3H65) (.node (.node (.node (.node aw3H66 (.node aw3H67 (.node aw3H68 (.node (.one (.bool false)) .leaf)))) .leaf) .leaf) .leaf)) .leaf), []⟩
noncomputable def aw3H69 : Tri := (.node .leaf (.node (.node .leaf (.node .leaf (.node .leaf (.one (.cells [] 3 false 0 false))))) (.node (.node (.node aw3H9 (.one (.cells [.slice (some ⟨152, 0, none⟩) 3 3] 22 false 0 false))) (.node (.one (.hole)) (.one (.cells [] 3 false 0 false)))) (.node (.node aw3H10 (.one (.cells [.slice (some ⟨156, 0, none⟩) 2 2] 22 false 0 false))) (.node (.one (.cells [.slice (some ⟨152, 0, none⟩) 3 3, .slice (some ⟨156, 0, none⟩) 2 2] 22 true 1 false)) aw3H7)))))
noncomputable def aw3H70 : Tri := (.node (.node (.node (.one (.cells [.int .i64 (0), .int .i64 (3)] 3 false 0 false)) (.one (.cells [.slice (some ⟨159, 0, none⟩) 3 3, .slice (some ⟨160, 0, none⟩) 2 2] 22 false 0 false))) (.node (.one (.cells [] 3 false 0 false)) aw3H21)) (.node (.node (.one (.cells [.slice (some ⟨163, 0, none⟩) 3 3] 22 false 0 false)) (.one (.cells [.slice (some ⟨163, 0, none⟩) 3 3] 22 true 1 false))) (.node aw3H19 (.one (.cells [.slice (some ⟨166, 0, none⟩) 3 3] 22 false 0 false)))))
noncomputable def aw3H71 : Tri := (.one (.cells [.int .i64 (0), .int .i64 (2)] 3 false 0 false))
noncomputable def aw3S10 : St := ⟨169, (.node (.node (.node (.node (.node (.node (.node (.node (.node (.node (.node (.node (.node (.node (.node aw3H60 (.node (.node aw3H69 (.node (.node aw3H70 (.node (.node (.node aw3H71 .leaf) .leaf) .leaf)) .leaf)) .leaf)) .leaf) .leaf) .leaf) .leaf) .leaf) .leaf) .leaf) .leaf) .leaf) .leaf) .leaf) .leaf) .leaf) .leaf), []⟩
noncomputable def aw3H72 : TV := (.one (.slice (some ⟨265, 0, none⟩) 1 1))
noncomputable def aw3H73 : TV := (.node (.node (.one (.int .i64 (0))) aw3H72) (.node (.one (.bool true)) (.one (.int .i64 (0)))))
noncomputable def aw3H74 : TV := (.one (.tuple #[.slice (some ⟨265, 0, none⟩) 1 1, .bool true, .int .i64 (0)]))
noncomputable def aw3H75 : TV := (.node aw3H66 (.node aw3H67 (.node aw3H68 (.node (.one (.bool false)) aw3H74))))
noncomputable def aw3H76 : TV := (.node (.node (.one (.agg #[.slice (some ⟨170, 0, none⟩) 1 1, .slice (some ⟨171, 0, none⟩) 2 2, .slice (some ⟨172, 0, none⟩) 1 1, .slice (some ⟨173, 0, none⟩) 1 1])) (.one (.agg #[.int .i64 (1), .int .i64 (4)]))) (.node (.one (.slice (some ⟨174, 0, none⟩) 1 1)) aw3H74))
noncomputable def aw3A11 : MA := ⟨291, (.node (.node (.node (.node (.node aw3H56 (.node (.node aw3H73 .leaf) .leaf)) (.node aw3H17 aw3H34)) aw3H65) (.node (.node (.node aw3H75 (.node (.node aw3H76 (.node (.node aw3H72 (.one (.bool true))) (.node (.one (.int .i64 (0))) .leaf))) .leaf)) .leaf) .leaf)) .leaf), []⟩
noncomputable def aw3H77 : Tri := (.one (.cells [.slice (some ⟨170, 0, none⟩) 1 1, .slice (some ⟨171, 0, none⟩) 2 2, .slice (some ⟨172, 0, none⟩) 1 1, .slice (some ⟨173, 0, none⟩) 1 1] 71 false 0 false))
noncomputable def aw3H78 : Tri := (.one (.cells [.int .i64 (1)] 3 true 1 false))
noncomputable def aw3H79 : Tri := (.one (.cells [.int .i64 (2)] 3 false 0 false))
noncomputable def aw3H80 : Tri := (.one (.cells [.int .i64 (2)] 3 true 1 false))
noncomputable def aw3H81 : Tri := (.node aw3H60 (.node (.node aw3H69 (.node (.node aw3H70 (.node (.node (.node aw3H71 aw3H77) (.node aw3H43 aw3H44)) (.node (.node aw3H43 aw3H43) (.node (.one (.cells [.int .i64 (1), .int .i64 (4)] 121 false 0 false)) aw3H77)))) .leaf)) (.node .leaf (.node (.node .leaf (.node (.node .leaf (.node (.one (.cells [.slice (some ⟨265, 0, none⟩) 1 1] 29 false 0 false)) (.one (.cells [.slice (some ⟨174, 0, none⟩) 1 1] 123 false 0 false)))) (.node (.node (.one (.hole)) (.one (.hole))) (.node aw3H43 aw3H78)))) (.node (.node (.node (.node (.one (.cells [] 3 false 0 false)) aw3H78) (.node aw3H77 aw3H44)) (.node (.node aw3H43 (.one (.cells [] 3 false 0 false))) (.node aw3H47 (.one (.cells [] 3 false 0 false))))) (.node (.node (.node aw3H47 (.one (.cells [.slice (some ⟨248, 0, none⟩) 2 2] 140 false 0 false))) (.node aw3H79 aw3H80)) (.node (.node (.one (.cells [] 3 false 0 false)) aw3H80) (.node aw3H77 aw3H44))))))))
noncomputable def aw3H82 : Tri := (.one (.cells [.int .i64 (1), .int .i64 (2)] 3 true 1 false))
noncomputable def aw3H83 : Tri := (.one (.cells [.int .i64 (3)] 3 false 0 false))
noncomputable def aw3H84 : Tri := (.one (.cells [.int .i64 (3)] 3 true 1 false))
noncomputable def aw3H85 : Tri := (.one (.cells [.int .i64 (2), .int .i64 (2)] 3 true 1 false))
noncomputable def aw3H86 : Tri := (.node (.node (.node (.node aw3H79 (.one (.cells [] 3 false 0 false))) (.node aw3H82 (.one (.cells [] 3 false 0 false)))) (.node (.node aw3H82 (.one (.cells [.slice (some ⟨260, 0, none⟩) 2 2] 140 false 0 false))) (.node aw3H83 aw3H84))) (.node (.node (.node (.one (.cells [] 3 false 0 false)) aw3H84) (.node aw3H77 aw3H44)) (.node (.node aw3H83 (.one (.cells [] 3 false 0 false))) (.node aw3H85 (.one (.cells [] 3 false 0 false))))))
noncomputable def aw3H87 : Tri := (.node aw3H85 (.one (.cells [.slice (some ⟨272, 0, none⟩) 2 2] 140 false 0 false)))
noncomputable def aw3S11 : St := ⟨274, (.node (.node (.node (.node (.node (.node (.node (.node (.node (.node (.node (.node (.node (.node aw3H81 (.node (.node (.node (.node aw3H86 (.node (.node (.node aw3H87 .leaf) .leaf) .leaf)) .leaf) .leaf) .leaf)) .leaf) .leaf) .leaf) .leaf) .leaf) .leaf) .leaf) .leaf) .leaf) .leaf) .leaf) .leaf) .leaf), []⟩
noncomputable def aw3H88 : TV := (.node (.one (.slice none 0 0)) (.one (.bool false)))
noncomputable def aw3H89 : TV := (.node aw3H88 (.node (.one (.int .i64 (0))) .leaf))
noncomputable def aw3H90 : TV := (.one (.tuple #[.slice none 0 0, .bool false, .int .i64 (0)]))
noncomputable def aw3H91 : TV := (.node aw3H76 (.node (.node aw3H72 (.one (.bool true))) (.node (.one (.int .i64 (0))) aw3H90)))
noncomputable def aw3H92 : TV := (.one (.agg #[.int .i64 (1), .int .i64 (2)]))
noncomputable def aw3H93 : TV := (.node (.node (.one (.agg #[.slice (some ⟨275, 0, none⟩) 1 1, .slice (some ⟨276, 0, none⟩) 2 2, .slice (some ⟨277, 0, none⟩) 1 1, .slice (some ⟨278, 0, none⟩) 1 1])) aw3H92) (.node (.one (.slice (some ⟨279, 0, none⟩) 1 1)) aw3H90))
noncomputable def aw3A12 : MA := ⟨291, (.node (.node (.node (.node (.node aw3H56 (.node (.node aw3H73 aw3H89) .leaf)) (.node aw3H17 aw3H34)) aw3H65) (.node (.node (.node aw3H75 (.node aw3H91 (.node aw3H93 aw3H89))) .leaf) .leaf)) .leaf), []⟩
noncomputable def aw3H94 : Tri := (.node (.node aw3H86 (.node (.node (.node aw3H87 (.node (.one (.cells [.slice (some ⟨275, 0, none⟩) 1 1, .slice (some ⟨276, 0, none⟩) 2 2, .slice (some ⟨277, 0, none⟩) 1 1, .slice (some ⟨278, 0, none⟩) 1 1] 71 false 0 false)) aw3H43)) (.node (.node aw3H44 aw3H43) (.node aw3H43 (.one (.cells [.int .i64 (1), .int .i64 (2)] 121 false 0 false))))) .leaf)) .leaf)
noncomputable def aw3S12 : St := ⟨349, (.node (.node (.node (.node (.node (.node (.node (.node (.node (.node (.node (.node (.node (.node aw3H81 (.node (.node aw3H94 .leaf) .leaf)) .leaf) .leaf) .leaf) .leaf) .leaf) .leaf) .leaf) .leaf) .leaf) .leaf) .leaf) .leaf) .leaf), []⟩
noncomputable def aw3H95 : TV := (.one (.slice (some ⟨358, 0, none⟩) 2 2))
noncomputable def aw3H96 : TV := (.node aw3H73 (.node aw3H88 (.node (.one (.int .i64 (0))) aw3H95)))
noncomputable def aw3H97 : TV := (.one (.tuple #[.slice (some ⟨358, 0, none⟩) 2 2, .int .i64 (0)]))
noncomputable def aw3H98 : TV := (.node aw3H75 (.node aw3H91 (.node aw3H93 (.node aw3H88 (.node (.one (.int .i64 (0))) aw3H97)))))
noncomputable def aw3H99 : TV := (.node (.node (.one (.slice (some ⟨349, 0, none⟩) 2 2)) (.one (.agg #[.int .i64 (2), .int .i64 (1)]))) (.node aw3H97 aw3H95))
noncomputable def aw3A13 : MA := ⟨291, (.node (.node (.node (.node (.node aw3H56 (.node aw3H96 (.node aw3H14 .leaf))) (.node aw3H17 aw3H34)) aw3H65) (.node (.node aw3H98 (.node (.node (.node aw3H99 aw3H14) .leaf) .leaf)) .leaf)) .leaf), []⟩
noncomputable def aw3H100 : Tri := (.one (.cells [.int .i64 (2), .int .i64 (1)] 59 false 0 false))
noncomputable def aw3H101 : Tri := (.node .leaf (.node .leaf (.node .leaf (.node (.node .leaf aw3H44) (.node aw3H100 .leaf)))))
noncomputable def aw3H102 : Tri := (.one (.cells [.int .i64 (0), .int .i64 (0)] 26 false 0 false))
noncomputable def aw3H103 : Tri := (.node (.node .leaf aw3H102) (.node aw3H100 (.one (.cells [] 3 false 0 false))))
noncomputable def aw3H104 : Tri := (.node (.one (.cells [.int .i64 (-2), .int .i64 (2)] 3 true 1 false)) aw3H79)
noncomputable def aw3H105 : Tri := (.one (.cells [.int .i64 (-1), .int .i64 (1)] 3 false 0 false))
noncomputable def aw3S13 : St := ⟨359, (.node (.node (.node (.node (.node (.node (.node (.node (.node (.node (.node (.node (.node (.node aw3H81 (.node (.node aw3H94 (.node aw3H101 (.node (.node (.node aw3H103 (.node aw3H104 (.node aw3H105 .leaf))) .leaf) .leaf))) .leaf)) .leaf) .leaf) .leaf) .leaf) .leaf) .leaf) .leaf) .leaf) .leaf) .leaf) .leaf) .leaf) .leaf), []⟩
noncomputable def aw3H106 : TV := (.node aw3H99 (.node (.node (.one (.int .i64 (0))) aw3H25) (.node (.one (.slice (some ⟨359, 0, none⟩) 2 2)) (.one (.agg #[.int .i64 (1), .int .i64 (1)])))))
noncomputable def aw3A14 : MA := ⟨291, (.node (.node (.node (.node (.node aw3H56 (.node aw3H96 (.node aw3H24 .leaf))) (.node aw3H17 aw3H34)) aw3H65) (.node (.node aw3H98 (.node (.node aw3H106 (.node (.node (.node aw3H25 (.one (.bool true))) (.node (.one (.int .i64 (0))) .leaf)) .leaf)) .leaf)) .leaf)) .leaf), []⟩
noncomputable def aw3H107 : Tri := (.node (.node aw3H103 (.node aw3H104 (.node aw3H105 aw3H44))) .leaf)
noncomputable def aw3S14 : St := ⟨373, (.node (.node (.node (.node (.node (.node (.node (.node (.node (.node (.node (.node (.node (.node aw3H81 (.node (.node aw3H94 (.node aw3H101 (.node aw3H107 .leaf))) .leaf)) .leaf) .leaf) .leaf) .leaf) .leaf) .leaf) .leaf) .leaf) .leaf) .leaf) .leaf) .leaf) .leaf), []⟩
noncomputable def aw3H108 : TV := (.node aw3H106 (.node (.node (.node aw3H25 (.one (.bool true))) (.node (.one (.int .i64 (0))) aw3H29)) (.node (.node (.one (.slice (some ⟨373, 0, none⟩) 2 2)) aw3H92) (.node aw3H29 (.one (.bool false))))))
noncomputable def aw3A15 : MA := ⟨291, (.node (.node (.node (.node (.node aw3H56 (.node aw3H96 (.node aw3H28 aw3H14))) (.node aw3H17 aw3H34)) aw3H65) (.node (.node aw3H98 (.node aw3H108 (.node (.node aw3H14 .leaf) .leaf))) .leaf)) .leaf), []⟩
noncomputable def aw3H109 : Tri := (.node aw3H94 (.node aw3H101 (.node aw3H107 (.node (.node .leaf (.node (.node .leaf aw3H44) .leaf)) .leaf))))
noncomputable def aw3S15 : St := ⟨387, (.node (.node (.node (.node (.node (.node (.node (.node (.node (.node (.node (.node (.node (.node aw3H81 (.node aw3H109 .leaf)) .leaf) .leaf) .leaf) .leaf) .leaf) .leaf) .leaf) .leaf) .leaf) .leaf) .leaf) .leaf) .leaf), []⟩
noncomputable def aw3H110 : TV := (.one (.slice (some ⟨398, 0, none⟩) 4 4))
noncomputable def aw3H111 : TV := (.one (.tuple #[.slice (some ⟨398, 0, none⟩) 4 4, .int .i64 (0)]))
noncomputable def aw3H112 : TV := (.node (.node (.one (.int .i64 (0))) aw3H111) (.node (.one (.slice (some ⟨387, 0, none⟩) 2 2)) (.one (.slice (some ⟨388, 0, none⟩) 1 1))))
noncomputable def aw3A16 : MA := ⟨291, (.node (.node (.node (.node (.node aw3H56 (.node aw3H96 (.node aw3H28 (.node (.node (.one (.int .i64 (0))) aw3H110) (.node (.one (.int .i64 (0))) .leaf))))) (.node aw3H17 aw3H34)) aw3H65) (.node (.node aw3H98 (.node aw3H108 (.node (.node aw3H112 (.node (.node aw3H111 aw3H110) (.node (.one (.int .i64 (0))) .leaf))) .leaf))) .leaf)) .leaf), []⟩
noncomputable def aw3H113 : Tri := (.one (.cells [.int .i64 (8)] 3 false 0 false))
noncomputable def aw3H114 : Tri := (.one (.cells [.int .i64 (0), .int .i64 (0), .int .i64 (0)] 26 false 0 false))
noncomputable def aw3H115 : Tri := (.node (.node .leaf (.node .leaf aw3H44)) (.node (.node aw3H113 aw3H114) (.node aw3H113 (.one (.cells [.int .i64 (-1)] 155 false 0 false)))))
noncomputable def aw3H116 : Tri := (.node (.node (.one (.cells [.int .i64 (1)] 155 false 0 false)) aw3H113) (.node (.one (.hole)) aw3H113))
noncomputable def aw3H117 : Tri := (.one (.cells [.int .i64 (8), .int .i64 (8), .int .i64 (8), .int .i64 (8)] 3 true 1 false))
noncomputable def aw3S16 : St := ⟨399, (.node (.node (.node (.node (.node (.node (.node (.node (.node (.node (.node (.node (.node (.node aw3H81 (.node aw3H109 (.node (.node (.node (.node aw3H115 (.node aw3H116 (.node (.node (.one (.hole)) aw3H113) (.node aw3H117 .leaf)))) .leaf) .leaf) .leaf))) .leaf) .leaf) .leaf) .leaf) .leaf) .leaf) .leaf) .leaf) .leaf) .leaf) .leaf) .leaf) .leaf), []⟩
noncomputable def aw3H118 : TV := (.one (.slice (some ⟨406, 0, none⟩) 3 3))
noncomputable def aw3H119 : TV := (.node aw3H96 (.node aw3H28 (.node (.node (.one (.int .i64 (0))) aw3H110) (.node (.one (.int .i64 (0))) aw3H118))))
noncomputable def aw3H120 : TV := (.node (.node (.node aw3H56 aw3H119) (.node (.node (.node aw3H14 .leaf) (.node (.node .leaf aw3H5) aw3H16)) aw3H34)) aw3H65)
noncomputable def aw3H121 : TV := (.one (.tuple #[.slice (some ⟨406, 0, none⟩) 3 3, .int .i64 (0)]))
noncomputable def aw3H122 : TV := (.node aw3H112 (.node (.node aw3H111 aw3H110) (.node (.one (.int .i64 (0))) aw3H121)))
noncomputable def aw3H123 : TV := (.node (.node (.one (.slice (some ⟨399, 0, none⟩) 3 3)) (.one (.slice (some ⟨400, 0, none⟩) 2 2))) (.node aw3H121 aw3H118))
noncomputable def aw3A17 : MA := ⟨291, (.node (.node aw3H120 (.node (.node aw3H98 (.node aw3H108 (.node aw3H122 (.node aw3H123 aw3H14)))) .leaf)) .leaf), []⟩
noncomputable def aw3H124 : Tri := (.node aw3H115 (.node aw3H116 (.node (.node (.one (.hole)) aw3H113) (.node aw3H117 (.one (.cells [.int .i64 (0), .int .i64 (0), .int .i64 (3)] 3 false 0 false))))))
noncomputable def aw3H125 : Tri := (.one (.cells [.int .i64 (0), .int .i64 (0)] 155 false 0 false))
noncomputable def aw3H126 : Tri := (.node (.node (.one (.cells [.int .i64 (5), .int .i64 (7)] 3 false 0 false)) aw3H114) (.node (.one (.cells [.int .i64 (5), .int .i64 (21)] 3 false 0 false)) aw3H125))
noncomputable def aw3H127 : Tri := (.one (.cells [.int .i64 (0)] 3 false 0 false))
noncomputable def aw3H128 : Tri := (.one (.cells [.int .i64 (5), .int .i64 (21), .int .i64 (0)] 3 true 1 false))
noncomputable def aw3S17 : St := ⟨407, (.node (.node (.node (.node (.node (.node (.node (.node (.node (.node (.node (.node (.node (.node aw3H81 (.node aw3H109 (.node (.node (.node aw3H124 (.node (.node aw3H126 (.node (.node aw3H125 aw3H127) (.node aw3H128 .leaf))) .leaf)) .leaf) .leaf))) .leaf) .leaf) .leaf) .leaf) .leaf) .leaf) .leaf) .leaf) .leaf) .leaf) .leaf) .leaf) .leaf), []⟩
noncomputable def aw3H129 : TV := (.node aw3H98 (.node aw3H108 (.node aw3H122 (.node aw3H123 (.node aw3H61 aw3H61)))))
noncomputable def aw3H130 : TV := (.node (.one (.bool true)) (.one (.bool false)))
noncomputable def aw3H131 : TV := (.node (.node aw3H62 (.node (.node aw3H61 aw3H63) (.node aw3H130 aw3H63))) (.node (.node (.node (.node aw3H72 (.one (.slice (some ⟨407, 0, none⟩) 1 1))) aw3H130) (.node aw3H63 aw3H63)) (.node (.node (.node (.one (.bool false)) aw3H95) (.node (.one (.slice (some ⟨408, 0, none⟩) 2 2)) (.one (.bool true)))) (.node aw3H63 aw3H64))))
noncomputable def aw3H132 : TV := (.node (.node (.node aw3H63 aw3H63) (.node aw3H63 (.node aw3H110 (.one (.slice (some ⟨409, 0, none⟩) 4 4))))) (.node (.node aw3H130 aw3H63) (.node (.node aw3H118 (.one (.slice (some ⟨410, 0, none⟩) 3 3))) aw3H130)))
noncomputable def aw3A18 : MA := ⟨291, (.node (.node aw3H120 (.node aw3H129 (.node aw3H131 (.node aw3H132 aw3H2)))) .leaf), []⟩
noncomputable def aw3H133 : Tri := (.node aw3H126 (.node (.node aw3H125 aw3H127) (.node aw3H128 aw3H83)))
noncomputable def aw3H134 : Tri := (.node aw3H105 (.one (.cells [.int .i64 (8), .int .i64 (8), .int .i64 (8), .int .i64 (8)] 3 false 0 false)))
noncomputable def aw3H135 : Tri := (.one (.cells [.int .i64 (5), .int .i64 (21), .int .i64 (0)] 3 false 0 false))
noncomputable def aw3S18 : St := ⟨411, (.node (.node (.node (.node (.node (.node (.node (.node (.node (.node (.node (.node (.node (.node aw3H81 (.node aw3H109 (.node (.node (.node aw3H124 (.node aw3H133 (.node (.node aw3H134 (.node aw3H135 .leaf)) .leaf))) .leaf) .leaf))) .leaf) .leaf) .leaf) .leaf) .leaf) .leaf) .leaf) .leaf) .leaf) .leaf) .leaf) .leaf) .leaf), []⟩
noncomputable def aw3H136 : TV := (.one (.slice (some ⟨412, 0, none⟩) 6 6))
noncomputable def aw3H137 : TV := (.one (.tuple #[.slice (some ⟨412, 0, none⟩) 6 6, .int .i64 (0)]))
noncomputable def aw3H138 : TV := (.node (.node (.one (.bool false)) aw3H137) (.node aw3H137 aw3H136))
noncomputable def aw3A19 : MA := ⟨291, (.node (.node (.node (.node (.node aw3H56 aw3H119) (.node (.node (.node (.node (.node (.one (.int .i64 (0))) aw3H136) (.node (.one (.int .i64 (0))) .leaf)) .leaf) (.node (.node .leaf aw3H5) aw3H16)) aw3H34)) aw3H65) (.node aw3H129 (.node aw3H131 (.node aw3H132 (.node (.node aw3H138 aw3H14) .leaf))))) .leaf), []⟩
noncomputable def aw3H139 : Tri := (.one (.cells [.int .i64 (1), .int .i64 (2), .int .i64 (2), .int .i64 (2), .int .i64 (3), .int .i64 (0)] 3 false 0 false))
noncomputable def aw3S19 : St := ⟨413, (.node (.node (.node (.node (.node (.node (.node (.node (.node (.node (.node (.node (.node (.node aw3H81 (.node aw3H109 (.node (.node (.node aw3H124 (.node aw3H133 (.node (.node aw3H134 (.node aw3H135 aw3H114)) (.node (.node aw3H139 .leaf) .leaf)))) .leaf) .leaf))) .leaf) .leaf) .leaf) .leaf) .leaf) .leaf) .leaf) .leaf) .leaf) .leaf) .leaf) .leaf) .leaf), []⟩
noncomputable def aw3H140 : TV := (.node (.node (.one (.int .i64 (0))) aw3H136) aw3H55)
noncomputable def aw3H141 : TV := (.node aw3H138 (.node (.node (.one (.int .i64 (0))) aw3H58) (.node (.one (.slice (some ⟨413, 0, none⟩) 6 6)) aw3H58)))
noncomputable def aw3H142 : TV := (.node (.one (.int .i64 (3))) (.one (.int .i64 (0))))
noncomputable def aw3A20 : MA := ⟨291, (.node (.node (.node (.node (.node aw3H56 aw3H119) (.node (.node (.node aw3H140 aw3H14) (.node (.node .leaf aw3H5) aw3H16)) aw3H34)) aw3H65) (.node aw3H129 (.node aw3H131 (.node aw3H132 (.node aw3H141 (.node (.node aw3H142 .leaf) .leaf)))))) .leaf), []⟩
noncomputable def aw3H143 : Tri := (.node aw3H124 (.node aw3H133 (.node (.node aw3H134 (.node aw3H135 aw3H114)) (.node (.node aw3H139 aw3H139) .leaf))))
noncomputable def aw3S20 : St := ⟨416, (.node (.node (.node (.node (.node (.node (.node (.node (.node (.node (.node (.node (.node (.node aw3H81 (.node aw3H109 (.node (.node aw3H143 .leaf) .leaf))) .leaf) .leaf) .leaf) .leaf) .leaf) .leaf) .leaf) .leaf) .leaf) .leaf) .leaf) .leaf) .leaf), []⟩
noncomputable def aw3H144 : TV := (.one (.slice (some ⟨430, 0, none⟩) 6 6))
noncomputable def aw3H145 : TV := (.one (.tuple #[.slice (some ⟨430, 0, none⟩) 6 6, .int .i64 (0)]))
noncomputable def aw3H146 : TV := (.node aw3H142 (.node aw3H145 (.one (.slice (some ⟨416, 0, none⟩) 6 6))))
noncomputable def aw3A21 : MA := ⟨291, (.node (.node (.node (.node (.node aw3H56 aw3H119) (.node (.node (.node aw3H140 (.node (.node (.one (.int .i64 (0))) aw3H144) (.node (.one (.int .i64 (0))) .leaf))) (.node (.node .leaf aw3H5) aw3H16)) aw3H34)) aw3H65) (.node aw3H129 (.node aw3H131 (.node aw3H132 (.node aw3H141 (.node aw3H146 (.node (.node aw3H145 aw3H144) (.node (.one (.int .i64 (0))) .leaf)))))))) .leaf), []⟩
noncomputable def aw3H147 : Tri := (.node (.node (.node aw3H139 .leaf) (.node aw3H102 aw3H127)) (.node (.node (.one (.hole)) aw3H43) (.node (.one (.hole)) aw3H79)))
noncomputable def aw3H148 : Tri := (.node (.node (.one (.hole)) aw3H83) (.node (.one (.hole)) (.one (.cells [.int .i64 (4)] 3 false 0 false))))
noncomputable def aw3H149 : Tri := (.node (.one (.hole)) (.one (.cells [.int .i64 (5)] 3 false 0 false)))
noncomputable def aw3H150 : Tri := (.one (.cells [.int .i64 (0), .int .i64 (1), .int .i64 (2), .int .i64 (3), .int .i64 (4), .int .i64 (5)] 3 true 1 false))
noncomputable def aw3S21 : St := ⟨431, (.node (.node (.node (.node (.node (.node (.node (.node (.node (.node (.node (.node (.node (.node aw3H81 (.node aw3H109 (.node (.node aw3H143 (.node (.node aw3H147 (.node aw3H148 (.node aw3H149 (.node aw3H150 .leaf)))) .leaf)) .leaf))) .leaf) .leaf) .leaf) .leaf) .leaf) .leaf) .leaf) .leaf) .leaf) .leaf) .leaf) .leaf) .leaf), []⟩
noncomputable def aw3H151 : TV := (.node aw3H140 (.node (.node (.one (.int .i64 (0))) aw3H144) aw3H61))
noncomputable def aw3H152 : TV := (.node aw3H129 (.node aw3H131 (.node aw3H132 (.node aw3H141 (.node aw3H146 (.node (.node aw3H145 aw3H144) (.node (.one (.int .i64 (0))) (.one (.slice (some ⟨431, 0, none⟩) 6 6)))))))))
noncomputable def aw3H153 : TV := (.node (.one (.slice (some ⟨432, 0, none⟩) 6 6)) (.one (.int .i64 (0))))
noncomputable def aw3A22 : MA := ⟨291, (.node (.node (.node (.node (.node aw3H56 aw3H119) (.node (.node aw3H151 (.node (.node .leaf aw3H5) aw3H16)) aw3H34)) aw3H65) aw3H152) (.node (.node (.node (.node (.node (.node (.node aw3H153 .leaf) .leaf) .leaf) .leaf) .leaf) .leaf) .leaf)), []⟩
noncomputable def aw3H154 : Tri := (.node aw3H147 (.node aw3H148 (.node aw3H149 (.node aw3H150 aw3H139))))
noncomputable def aw3H155 : Tri := (.node (.one (.cells [.int .i64 (2), .int .i64 (1), .int .i64 (0), .int .i64 (1), .int .i64 (2), .int .i64 (3)] 3 false 0 false)) .leaf)
noncomputable def aw3S22 : St := ⟨435, (.node (.node (.node (.node (.node (.node (.node (.node (.node (.node (.node (.node (.node (.node aw3H81 (.node aw3H109 (.node (.node aw3H143 (.node aw3H154 (.node (.node (.node aw3H155 .leaf) .leaf) .leaf))) .leaf))) .leaf) .leaf) .leaf) .leaf) .leaf) .leaf) .leaf) .leaf) .leaf) .leaf) .leaf) .leaf) .leaf), []⟩
noncomputable def aw3H156 : TV := (.one (.string ⟨#[112, 108, 97, 110, 116, 110, 117, 109, 32, 49, 10, 112, 108, 97, 110, 116, 100, 101, 110, 32, 45, 49, 32, 50, 10, 99, 111, 110, 116, 114, 111, 108, 108, 101, 114, 110, 117, 109, 32, 49, 10, 99, 111, 110, 116, 114, 111, 108, 108, 101, 114, 100, 101, 110, 32, 49, 10]⟩))
noncomputable def aw3H157 : TV := (.node (.node aw3H151 (.node (.node (.node aw3H156 (.one (.int .i64 (0)))) aw3H5) aw3H16)) aw3H34)
noncomputable def aw3H158 : TV := (.one (.tuple #[.string ⟨#[112, 108, 97, 110, 116, 110, 117, 109, 32, 49, 10, 112, 108, 97, 110, 116, 100, 101, 110, 32, 45, 49, 32, 50, 10, 99, 111, 110, 116, 114, 111, 108, 108, 101, 114, 110, 117, 109, 32, 49, 10, 99, 111, 110, 116, 114, 111, 108, 108, 101, 114, 100, 101, 110, 32, 49, 10]⟩, .int .i64 (0)]))
noncomputable def aw3H159 : TV := (.node aw3H153 (.node aw3H158 (.one (.agg #[.slice (some ⟨436, 0, none⟩) 1 1, .slice (some ⟨437, 0, none⟩) 2 2, .slice (some ⟨438, 0, none⟩) 1 1, .slice (some ⟨439, 0, none⟩) 1 1]))))
noncomputable def aw3A23 : MA := ⟨291, (.node (.node (.node (.node (.node aw3H56 aw3H119) aw3H157) aw3H65) aw3H152) (.node (.node (.node (.node (.node (.node aw3H159 (.node (.node aw3H158 aw3H156) (.node (.one (.int .i64 (0))) .leaf))) .leaf) .leaf) .leaf) .leaf) .leaf)), []⟩
noncomputable def aw3H160 : Tri := (.node aw3H143 (.node aw3H154 (.node (.node (.node aw3H155 (.node .leaf (.one (.cells [.slice (some ⟨436, 0, none⟩) 1 1, .slice (some ⟨437, 0, none⟩) 2 2, .slice (some ⟨438, 0, none⟩) 1 1, .slice (some ⟨439, 0, none⟩) 1 1] 71 false 0 false)))) aw3H45) .leaf)))
noncomputable def aw3S23 : St := ⟨464, (.node (.node (.node (.node (.node (.node (.node (.node (.node (.node (.node (.node (.node (.node aw3H81 (.node aw3H109 (.node aw3H160 .leaf))) .leaf) .leaf) .leaf) .leaf) .leaf) .leaf) .leaf) .leaf) .leaf) .leaf) .leaf) .leaf) .leaf), []⟩
noncomputable def aw3H161 : TV := (.node (.one (.bool true)) (.one (.bool true)))
noncomputable def aw3H162 : TV := (.node (.node (.node (.node (.node (.node (.node (.node (.node (.one (.bool true)) (.one (.slice (some ⟨13, 0, none⟩) 2 2))) aw3H13) aw3H28) (.node aw3H39 (.node aw3H49 aw3H55))) aw3H119) aw3H157) aw3H65) aw3H152) (.node (.node (.node (.node (.node (.node aw3H159 (.node (.node aw3H158 aw3H156) aw3H61)) aw3H62) (.node (.node (.node aw3H161 (.node aw3H136 (.one (.slice (some ⟨464, 0, none⟩) 6 6)))) (.node aw3H161 (.node (.one (.bool true)) (.one (.int .i64 (3)))))) (.node (.node aw3H161 (.node (.one (.bool true)) aw3H144)) (.node (.node (.one (.slice (some ⟨465, 0, none⟩) 6 6)) (.one (.bool true))) aw3H161)))) (.node (.node (.node (.node (.node aw3H156 (.one (.bool true))) (.node (.one (.bool true)) .leaf)) .leaf) .leaf) .leaf)) .leaf) .leaf))
noncomputable def aw3A24 : MA := ⟨291, aw3H162, []⟩
noncomputable def aw3H163 : Tri := (.node (.node (.node (.node (.node (.node (.node (.node (.node (.node (.node (.node (.node (.node aw3H81 (.node aw3H109 (.node aw3H160 (.node (.node .leaf (.node (.node (.node (.node aw3H139 (.one (.cells [.int .i64 (0), .int .i64 (1), .int .i64 (2), .int .i64 (3), .int .i64 (4), .int .i64 (5)] 3 false 0 false))) .leaf) .leaf) .leaf)) .leaf)))) .leaf) .leaf) .leaf) .leaf) .leaf) .leaf) .leaf) .leaf) .leaf) .leaf) .leaf) .leaf) .leaf)
noncomputable def aw3S24 : St := ⟨466, aw3H163, []⟩
noncomputable def aw3A25 : MA := ⟨291, aw3H162, []⟩
noncomputable def aw3S25 : St := ⟨466, aw3H163, []⟩
def aw3R0 : Nat := 0
def aw3W0 : Nat := 0
def aw3RR0 : Nat := 142902310678056587604909754600731638422318421984864386643669642159944849417504598702114284873728616299881533201409689947487610737044052508615
def aw3WW0 : Nat := 89648761530908179774528531960903737588787524080458361052119002694918968717662416604848289712437060341694781082138596535661773195264
def aw3R1 : Nat := 8128
def aw3W1 : Nat := 2048
def aw3RR1 : Nat := 142902310678056587604909754600731638422318421984864386643669642159944849417504598702114284873728616299881533201409689947487610737044052508615
def aw3WW1 : Nat := 89648761530908179774528531960903737588787524080458361052119002694918968717662416604848289712437060341694781082138596535661773195264
def aw3R2 : Nat := 114688
def aw3W2 : Nat := 0
def aw3RR2 : Nat := 142902310678056587604909754600731638422318421984864386643669642159944849417504598702114284873728616299881533201409689947487610737044052502791
def aw3WW2 : Nat := 89648761530908179774528531960903737588787524080458361052119002694918968717662416604848289712437060341694781082138596535661773193216
def aw3R3 : Nat := 262144
def aw3W3 : Nat := 0
def aw3RR3 : Nat := 142902310678056587604909754600731638422318421984864386643669642159944849417504598702114284873728616299881533201409689947487610737044052453639
def aw3WW3 : Nat := 89648761530908179774528531960903737588787524080458361052119002694918968717662416604848289712437060341694781082138596535661773193216
def aw3R4 : Nat := 67108864
def aw3W4 : Nat := 0
def aw3RR4 : Nat := 142902310678056587604909754600731638422318421984864386643669642159944849417504598702114284873728616299881533201409689947487610737044052191495
def aw3WW4 : Nat := 89648761530908179774528531960903737588787524080458361052119002694918968717662416604848289712437060341694781082138596535661773193216
def aw3R5 : Nat := 1073741824
def aw3W5 : Nat := 4398046511104
def aw3RR5 : Nat := 142902310678056587604909754600731638422318421984864386643669642159944849417504598702114284873728616299881533201409689947487610737043985082631
def aw3WW5 : Nat := 89648761530908179774528531960903737588787524080458361052119002694918968717662416604848289712437060341694781082138596535661773193216
def aw3R6 : Nat := 71485847991484416
def aw3W6 : Nat := 49548391994097664
def aw3RR6 : Nat := 142902310678056587604909754600731638422318421984864386643669642159944849417504598702114284873728616299881533201409689947487610737042911340807
def aw3WW6 : Nat := 89648761530908179774528531960903737588787524080458361052119002694918968717662416604848289712437060341694781082138596531263726682112
def aw3R7 : Nat := 2233785415175766017
def aw3W7 : Nat := 20282409603651742481541289213952
def aw3RR7 : Nat := 142902310678056587604909754600731638422318421984864386643669642159944849417504598702114284873728616299881533201409689947487575279991938820359
def aw3WW7 : Nat := 89648761530908179774528531960903737588787524080458361052119002694918968717662416604848289712437060341694781082138546982871732584448
def aw3R8 : Nat := 1257509395426403566284729579732992
def aw3W8 : Nat := 40564819207303340847894502572032
def aw3RR8 : Nat := 142902310678056587604909754600731638422318421984864386643669642159944849417504598702114284873728616299881533201409689947485341494576763054342
def aw3WW8 : Nat := 89648761530908179774528531960903737588787524080458361052119002694918968717662416604848289712437060321412371478486804501330443370496
def aw3R9 : Nat := 748263147854953586862709994806938521608524889532672
def aw3W9 : Nat := 22835963083295358096932575511191922182123945984
def aw3RR9 : Nat := 142902310678056587604909754600731638422318421984864386643669642159944849417504598702114284873728616299881531943900294521081775209847183321350
def aw3WW9 : Nat := 89648761530908179774528531960903737588787524080458361052119002694918968717662416604848289712437060280847552271183463653435940798464
def aw3R10 : Nat := 30354201440888981806180781018463820481507870982493934242678704758137236329529868288
def aw3W10 : Nat := 2609201198670497000107967110970804630665207338103372528024796621718171317591605248
def aw3RR10 : Nat := 142902310678056587604909754600731638422318421984864386643669642159944849417504598702114284125465468444927945081190299714143253601322293788678
def aw3WW10 : Nat := 89648761530908179774528531960903737588787524080458361052119002694918968717662416604825453749353764922750619695672271731253816852480
def aw3R11 : Nat := 1912314690784702054186345314529401423726119232191949841232252840836733905748877115392
def aw3W11 : Nat := 30354201441027016733116592294117482916287606860189680019559568902170379456331382784
def aw3RR11 : Nat := 142902310678056587604909754600731638422318421984864386643639347244053649941590474789440144753192781448177599954916409211668128416515139567622
def aw3WW11 : Nat := 89648761530908179774528531960903737588787524080455751850920332197918860750551445800194788542015661550222594899050553559936225247232
def aw3R12 : Nat := 1159363550382981149119269962575204948572663602024566108049351158310089513862729070479394378597168534553362432
def aw3W12 : Nat := 1027487379963552037201647761095334949476861115147389943434439800045341448487641194015368311793336307576471552
def aw3RR12 : Nat := 142902310678056587604909754600731638422318421984864386641727032553268947887404129474910743329466662215985650113684156370831394510766262452230
def aw3WW12 : Nat := 89648761530908179774528531960903737588787524080425397649479305181185744158257328317278500935155471870203035330148383180479893864448
def aw3R13 : Nat := 1174271291386916613944740298394668513687841274454159935353645485766104512557304221731849499192384351515967488
def aw3W13 : Nat := 0
def aw3RR13 : Nat := 142902310678056587604909754600731066194413732462022239741913654682577219144439331988770370801051235178728066036724542901202393534407467073542
def aw3WW13 : Nat := 89648761530908179774527504473523774036750322432664302314529828320070596768313893877478455593706984229009019961836589844172317392896
def aw3R14 : Nat := 19239260838083241802870625048898248928261591440656956380834127638791856333738872368854622194768025215237611323392
def aw3W14 : Nat := 0
def aw3RR14 : Nat := 142902310678056587604909754600729891923122345545408295001615260014063531303164877828835017155565469074215508732502811051703201150055951106054
def aw3WW14 : Nat := 89648761530908179774527504473523774036750322432664302314529828320070596768313893877478455593706984229009019961836589844172317392896
def aw3R15 : Nat := 645247253472155991580281560679951819671985810293142154634321252787927939730038320972520024189995378533849339969264418816
def aw3W15 : Nat := 219390370501524460253969695277599641666683988257951607047136097674840178823696468684354634507199210288011304650028351488
def aw3RR15 : Nat := 142902310678056587604909754581490631085039103742537669952717011085801939862507921448000889516773612740476636363648188856935175934818339782662
def aw3WW15 : Nat := 89648761530908179774527504473523774036750322432664302314529828320070596768313893877478455593706984229009019961836589844172317392896
def aw3R16 : Nat := 163972867258518695443150867422191254019936317844655693064746869140331123998069415858982479933288752296179851420269465829376
def aw3W16 : Nat := 72302996586433440510365736816084332481231762199218258359258461983138133416471553449630069891843859280205288815236929814528
def aw3RR16 : Nat := 142902310678056587604264507328018475093458822181857718133045025275508797707873600195212961577043574419504116339458193478401326594849075363846
def aw3WW16 : Nat := 89648761530688789404025980013269804341472722790997618326271876713023460670639053698654759125022629594501820751548578539522289041408
def aw3R17 : Nat := 5123829320593948956160403310505283284008867976041193288760765112164092045257868844370362219706193146153723477230622347362304
def aw3W17 : Nat := 0
def aw3RR17 : Nat := 142902310678056587440291640069499779650307954759666464113108707430853104643126731054881837578974158560521636406169441182221475174579609534470
def aw3WW17 : Nat := 89648761458385792817592539502904067525388390309765856127053618353764998687500920282183205675392559702657961471343289724285359226880
def aw3R18 : Nat := 5288447750321988791615322464262168318627237463714249754277190362195246329890490766601513683517722278780729696200186866434048
def aw3W18 : Nat := 10576895500643977583230644928524336637254474927428499508554380724390492659780981533203027367035444557561459392400373732868096
def aw3RR18 : Nat := 142902310678056582316462319475550823489904644254383180104240731389659815882361618890789792321105314190159416699976295028497997943957262172166
def aw3WW18 : Nat := 89648761458385792817592539502904067525388390309765856127053618353764998687500920282183205675392559702657961471343289724285359226880
def aw3R19 : Nat := 21153791001287955166461289857048673274508949854856999017108761448780985319561963066406054734070889115122918784800747465736192
def aw3W19 : Nat := 0
def aw3RR19 : Nat := 142902310678056577028014569153562031874582179992214861477003267675410061605171256695543462430614547588645733182254016247768301743770395738118
def aw3WW19 : Nat := 89648750881490292173614956272259139001051753055290928698554109799384274297008260501201672472365192667213403909883897323911626358784
def aw3R20 : Nat := 1848841333512567281548716733506054044192082217314501714095305750623458116929715572003889183757795708661743101791585328505343180800
def aw3W20 : Nat := 923320669624216667105702379680460491085766643264798293098763219716392447228240563922491477032726168096885159118983025384453308416
def aw3RR20 : Nat := 142902310678056555874223567865606865413292322943541586968053412818411044496409807914558142868651481182590999111364901124849516943022930001926
def aw3WW20 : Nat := 89648750881490292173614956272259139001051753055290928698554109799384274297008260501201672472365192667213403909883897323911626358784
def aw3R21 : Nat := 16636018164724889157470485104858502220618622452254899451022877483687727846833753738239846436624837468584347265768421430973844946944
def aw3W21 : Nat := 0
def aw3RR21 : Nat := 142902310676207714540711000584058148679786268899349504750738911104315738745786349797628427296647591998833203402703158023057931614517586821126
def aw3WW21 : Nat := 88725430211866075506509253892578678509965986412026130405455346579667881849780019937279180995332466499116518750764914298527173050368
def aw3R22 : Nat := 2750488336567848340701786870669939033808945578772810042569115743969704337343180618055654610855306461472612081273712343254342364561414
def aw3W22 : Nat := 88725430211866075506509253892578678509965986412026130405455346579667881849780019937279180995332466499116518750764914298527173050368
def aw3RR22 : Nat := 142902310659571696375986111426587663574927766678730882298484011653292861262098621950794673558407745562208365934118810757289510183543741874182
def aw3WW22 : Nat := 88725430211866075506509253892578678509965986412026130405455346579667881849780019937279180995332466499116518750764914298527173050368
def aw3R23 : Nat := 142902307909083359808137770724800792904988732869785303525673969084177117292394284607614055502753134706901904461506729483577166929201377312768
def aw3W23 : Nat := 0
def aw3RR23 : Nat := 142902307909083359808137770724800792904988732869785303525673969084177117292394284607614055502753134706901904461506729483577166929201377312768
def aw3WW23 : Nat := 0
def aw3R24 : Nat := 0
def aw3W24 : Nat := 0
end Go.Proofs.YtbkpnhbcihcgaaaGreatDoor
end
