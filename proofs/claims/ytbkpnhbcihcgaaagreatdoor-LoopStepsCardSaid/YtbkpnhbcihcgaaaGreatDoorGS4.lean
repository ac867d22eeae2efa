/-
  Both sides make the same values at the degree 4.
  The reference's Stepped at the degree 4.
  The reference's Stepped at the degree 4: the loop.
  Stepped at the degree 4.
  Stepped at the degree 4: the loop.
  Stepped of both at the degree 3, known.
  Both sides make the same values at the degree 3.
  The reference's Stepped at the degree 3.
  The reference's Stepped at the degree 3: the loop.
  Stepped at the degree 3.
  Stepped at the degree 3: the loop.
  Stepped of both at the degree 2, known.
-/
import Derived.Test.YtbkpnhbcihcgaaaGreatDoorGS2
import Derived.Test.YtbkpnhbcihcgaaaGreatDoorGS3
section
set_option linter.all false
set_option maxRecDepth 1000000
open Go.RowKit
namespace Go.Proofs.YtbkpnhbcihcgaaaGreatDoor
open Mini
noncomputable section
variable (y : SV)
theorem st2_lt {x : Int} (h : Pl.cr x (0 : Int) (24 : Int) = 0) : 0 ≤ x ∧ x ≤ 24 := by
  unfold Pl.cr at h
  split at h <;> omega
theorem rt2_w {x : Int} (h : Pl.cr x (0 : Int) (24 : Int) = 0) : (IntKind.i64.wrap ((2 : Int) + x)) = 2 + x := by
  have := st2_lt h
  exact IntWalk.i64_in _ (by omega)
abbrev zw0 := fun i => Pl.cr (y.h i 0) (-1000) 1000
abbrev zw1 := IntKind.i64.wrap ((y.h 1 0) * (IntKind.i64.wrap ((1 : Int) * (y.g 2 0))))
abbrev zw2 := feN (zw0 y) 2 0
abbrev zw3 := Pl.cr y.x (0 : Int) (24 : Int)
abbrev zw4 := IntKind.i64.wrap ((y.g 0 0) * (IntKind.i64.wrap ((1 : Int) * (y.g 2 0))))
abbrev zw5 := IntKind.i64.wrap ((0 : Int) - (zw4 y))
abbrev zw6 := IntKind.i64.wrap ((0 : Int) - (IntKind.i64.wrap ((y.g 1 0) * (1 : Int))))
theorem st2_o2 (h0 : cpV 3 y.g = 0) (h1 : feN (zw0 y) 2 0 = 0) (h2 : Pl.cr y.x (0 : Int) (24 : Int) = 0) (hz : ¬ (0 : Int) < y.x) : SndF Tryz.prog 50 (st2Args y) (wS 6 (st2S y)) (.tuple #[.slice (some ⟨8, 0, none⟩) 2 2, .int .i64 (0 : Int)]) (wS 6 (st2S y ++ [.cells [.int .i64 (IntKind.i64.wrap ((y.h 0 0) * (1 : Int))), .int .i64 (zw1 y)] 3 false 0 false])) 192 0 :=
  st2f0_s y h0 h1 h2 (st2_l0 y (cpV 3 y.g) (zw2 y) (zw3 y) (IntKind.i64.wrap ((y.h 0 0) * (1 : Int))) (zw1 y) (zw4 y) (IntKind.i64.wrap ((y.g 1 0) * (1 : Int))) (zw5 y) (zw6 y) hz)
theorem st2_o1 (h0 : cpV 3 y.g = 0) (h1 : feN (zw0 y) 2 0 = 0) (h2 : Pl.cr y.x (0 : Int) (24 : Int) = 0) (hz : (0 : Int) < y.x) (hk : (∀ i, i < y.x.toNat → Pl.cr (rt2D y (i + 2)) (-1073741824 : Int) (1073741824 : Int) = 0)) : SndF Tryz.prog 50 (st2Args y) (wS 6 (st2S y)) (.tuple #[.slice (some ⟨8, 0, none⟩) ((y.x.toNat - 1) + 3) ((y.x.toNat - 1) + 3), .int .i64 (0 : Int)]) (wS 6 (st2S y ++ [.rows ((y.x.toNat - 1) + 3) 1 (fun i j => .int .i64 ((st2F y (y.x.toNat - 1)) i j)) 3 true 1 false])) 192 0 := by
  have hx := st2_lt h2
  exact st2f1_s y (y.x.toNat - 1) h0 h1 h2 (st2_l1 y (cpV 3 y.g) (zw2 y) (zw3 y) (IntKind.i64.wrap ((y.h 0 0) * (1 : Int))) (zw1 y) (zw4 y) (IntKind.i64.wrap ((y.g 1 0) * (1 : Int))) (zw5 y) (zw6 y) (y.x.toNat - 1) (by omega) (by omega) (fun i hi => by
    have hk := hk i (by omega)
    rw [← (st2_at y i).2] at hk
    exact hk))
theorem st2_o0 (hp : cpV 3 y.g ≠ 0 ∨ feN (fun i => Pl.cr (y.h i 0) (-1000) 1000) 2 0 ≠ 0 ∨ Pl.cr y.x (0 : Int) (24 : Int) ≠ 0 ∨ (∃ i, i < y.x.toNat ∧ Pl.cr (rt2D y (i + 2)) (-1073741824 : Int) (1073741824 : Int) ≠ 0)) : SndF Tryz.prog 50 (st2Args y) (wS 6 (st2S y)) (.tuple #[.slice none 0 0, .int .i64 (th2 (th2 (th2 (cpV 3 y.g) (feN (fun i => Pl.cr (y.h i 0) (-1000) 1000) 2 0)) (Pl.cr y.x (0 : Int) (24 : Int))) 4)]) (wS 6 (st2S y)) 192 0 := by
  by_cases h0 : cpV 3 y.g = 0
  · by_cases h1 : feN (fun i => Pl.cr (y.h i 0) (-1000) 1000) 2 0 = 0
    · by_cases h2 : Pl.cr y.x (0 : Int) (24 : Int) = 0
      · have hx := st2_lt h2
        have ev : (th2 (th2 (th2 (cpV 3 y.g) (feN (fun i => Pl.cr (y.h i 0) (-1000) 1000) 2 0)) (Pl.cr y.x (0 : Int) (24 : Int))) 4) = 4 := by rw [h0, h1, h2]; rfl
        rw [ev]
        rcases first_or (p := fun i => Pl.cr (rt2D y (i + 2)) (-1073741824 : Int) (1073741824 : Int) ≠ 0) (fun _ => inferInstance) y.x.toNat with ha | ⟨j, hj, hb, hk⟩
        · rcases hp with k | k | k | ⟨i, k1, k2⟩
          · exact absurd h0 k
          · exact absurd h1 k
          · exact absurd h2 k
          · exact absurd k2 (ha i k1)
        · have hk : ∀ i, i < j → Pl.cr (rt2D y (i + 2)) (-1073741824 : Int) (1073741824 : Int) = 0 := fun i hi => Decidable.not_not.1 (hk i hi)
          skip
          match j, hj, hb, hk with
          | 0, hj, hb, hk => rw [← (st2_at y _).2] at hb; exact st2f2_s y h0 h1 h2 (st2_b0 y (cpV 3 y.g) (feN (fun i => Pl.cr (y.h i 0) (-1000) 1000) 2 0) (Pl.cr y.x (0 : Int) (24 : Int)) (IntKind.i64.wrap ((y.h 0 0) * (1 : Int))) (IntKind.i64.wrap ((y.h 1 0) * (IntKind.i64.wrap ((1 : Int) * (y.g 2 0))))) (IntKind.i64.wrap ((y.g 0 0) * (IntKind.i64.wrap ((1 : Int) * (y.g 2 0))))) (IntKind.i64.wrap ((y.g 1 0) * (1 : Int))) (IntKind.i64.wrap ((0 : Int) - (IntKind.i64.wrap ((y.g 0 0) * (IntKind.i64.wrap ((1 : Int) * (y.g 2 0))))))) (IntKind.i64.wrap ((0 : Int) - (IntKind.i64.wrap ((y.g 1 0) * (1 : Int))))) (by omega) hb)
          | q + 1, hj, hb, hk => rw [← (st2_at y _).2] at hb; exact st2f3_s y q h0 h1 h2 (st2_b1 y (cpV 3 y.g) (feN (fun i => Pl.cr (y.h i 0) (-1000) 1000) 2 0) (Pl.cr y.x (0 : Int) (24 : Int)) (IntKind.i64.wrap ((y.h 0 0) * (1 : Int))) (IntKind.i64.wrap ((y.h 1 0) * (IntKind.i64.wrap ((1 : Int) * (y.g 2 0))))) (IntKind.i64.wrap ((y.g 0 0) * (IntKind.i64.wrap ((1 : Int) * (y.g 2 0))))) (IntKind.i64.wrap ((y.g 1 0) * (1 : Int))) (IntKind.i64.wrap ((0 : Int) - (IntKind.i64.wrap ((y.g 0 0) * (IntKind.i64.wrap ((1 : Int) * (y.g 2 0))))))) (IntKind.i64.wrap ((0 : Int) - (IntKind.i64.wrap ((y.g 1 0) * (1 : Int))))) q (by omega) (by omega) (fun i hi => by
            have hk := hk i (by omega)
            rw [← (st2_at y i).2] at hk
            exact hk) hb)
      · have ev : (th2 (th2 (th2 (cpV 3 y.g) (feN (fun i => Pl.cr (y.h i 0) (-1000) 1000) 2 0)) (Pl.cr y.x (0 : Int) (24 : Int))) 4) = Pl.cr y.x (0 : Int) (24 : Int) := by
          rw [h0, h1, show th2 (th2 (0 : Int) 0) (Pl.cr y.x (0 : Int) (24 : Int)) = Pl.cr y.x (0 : Int) (24 : Int) from rfl]; exact if_neg h2
        rw [ev]; exact st2f4_s y h0 h1 h2
    · have ev : (th2 (th2 (th2 (cpV 3 y.g) (feN (fun i => Pl.cr (y.h i 0) (-1000) 1000) 2 0)) (Pl.cr y.x (0 : Int) (24 : Int))) 4) = feN (fun i => Pl.cr (y.h i 0) (-1000) 1000) 2 0 := by
        rw [h0, show th2 (0 : Int) (feN (fun i => Pl.cr (y.h i 0) (-1000) 1000) 2 0) = feN (fun i => Pl.cr (y.h i 0) (-1000) 1000) 2 0 from rfl]
        unfold th2
        rw [if_neg h1, if_neg h1]
      rw [ev]; exact st2f5_s y h0 h1
  · have ev : (th2 (th2 (th2 (cpV 3 y.g) (feN (fun i => Pl.cr (y.h i 0) (-1000) 1000) 2 0)) (Pl.cr y.x (0 : Int) (24 : Int))) 4) = cpV 3 y.g := by
      unfold th2
      rw [if_neg h0, if_neg h0, if_neg h0]
    rw [ev]; exact st2f6_s y h0
def kS2 : CallS := fun f xs s q => match decide (f = 50) with
  | true => match xs.toList, q.rest with
    | [.slice (some ⟨b, 0, none⟩) 3 c, .slice (some ⟨b2, 0, none⟩) 2 c2, .int .i64 x], .n dd :: rest => match Nat.ble 6 b, Nat.ble 6 b2, Nat.beq b b2, rowK 1 .i64 s b 3, rowK 1 .i64 s b2 2, dd with
      | true, true, false, some (g, e, opn, sz, ro, p), some (h, e2, opn2, sz2, ro2, p2), 2 => some (.tuple #[.slice (some ⟨s.next, 0, none⟩) 2 2, .int .i64 (0 : Int)], s.push (.cells [.int .i64 (IntKind.i64.wrap ((h 0 0) * (1 : Int))), .int .i64 (IntKind.i64.wrap ((h 1 0) * (IntKind.i64.wrap ((1 : Int) * (g 2 0)))))] 3 false 0 false), 2 ^ b ||| 2 ^ b2, 0, ⟨rest, q.ob ∧ (p ∧ p2 ∧ (cpV 3 g = 0 ∧ feN (fun i => Pl.cr (h i 0) (-1000) 1000) 2 0 = 0 ∧ Pl.cr x (0 : Int) (24 : Int) = 0 ∧ ¬ (0 : Int) < x))⟩)
      | true, true, false, some (g, e, opn, sz, ro, p), some (h, e2, opn2, sz2, ro2, p2), 1 => some (.tuple #[.slice (some ⟨s.next, 0, none⟩) ((x.toNat - 1) + 3) ((x.toNat - 1) + 3), .int .i64 (0 : Int)], s.push (.rows ((x.toNat - 1) + 3) 1 (fun i j => .int .i64 ((st2F ⟨c, g, e, opn, sz, ro, c2, h, e2, opn2, sz2, ro2, x⟩ (x.toNat - 1)) i j)) 3 true 1 false), 2 ^ b ||| 2 ^ b2, 0, ⟨rest, q.ob ∧ (p ∧ p2 ∧ (cpV 3 g = 0 ∧ feN (fun i => Pl.cr (h i 0) (-1000) 1000) 2 0 = 0 ∧ Pl.cr x (0 : Int) (24 : Int) = 0 ∧ (0 : Int) < x ∧ (∀ i, i < x.toNat → Pl.cr (rt2D ⟨c, g, e, opn, sz, ro, c2, h, e2, opn2, sz2, ro2, x⟩ (i + 2)) (-1073741824 : Int) (1073741824 : Int) = 0)))⟩)
      | true, true, false, some (g, e, opn, sz, ro, p), some (h, e2, opn2, sz2, ro2, p2), 0 => some (.tuple #[.slice none 0 0, .int .i64 (th2 (th2 (th2 (cpV 3 g) (feN (fun i => Pl.cr (h i 0) (-1000) 1000) 2 0)) (Pl.cr x (0 : Int) (24 : Int))) 4)], s, 2 ^ b ||| 2 ^ b2, 0, ⟨rest, q.ob ∧ (p ∧ p2 ∧ (cpV 3 g ≠ 0 ∨ feN (fun i => Pl.cr (h i 0) (-1000) 1000) 2 0 ≠ 0 ∨ Pl.cr x (0 : Int) (24 : Int) ≠ 0 ∨ (∃ i, i < x.toNat ∧ Pl.cr (rt2D ⟨c, g, e, opn, sz, ro, c2, h, e2, opn2, sz2, ro2, x⟩ (i + 2)) (-1073741824 : Int) (1073741824 : Int) ≠ 0)))⟩)
      | _, _, _, _, _, _ => none
    | _, _ => none
  | false => none
theorem kS2_ok : FOkS Tryz.prog kS2 := fun f xs s q u s1 R W q1 he => by
  unfold kS2 at he
  split at he
  · rename_i hf
    have hf := of_decide_eq_true hf
    subst hf
    split at he
    · rename_i b c b2 c2 x dd rest hx0 hrest
      have hxs : xs = #[.slice (some ⟨b, 0, none⟩) 3 c, .slice (some ⟨b2, 0, none⟩) 2 c2, .int .i64 x] := by apply Array.ext'; exact hx0
      subst hxs
      split at he
      · rename_i g e opn sz ro p h e2 opn2 sz2 ro2 p2 k1 k2 k3 k4 k5
        cases he
        refine ⟨fun hq => hq.1, fun hq => ?_⟩
        obtain ⟨l1, l2, hx⟩ := hq.2
        obtain ⟨m1, w1⟩ := rowK_wo k4 l1
        obtain ⟨m2, w2⟩ := rowK_wo k5 l2
        have b1 := Nat.le_of_ble_eq_true k1
        have b3 := Nat.le_of_ble_eq_true k2
        have hne : b ≠ b2 := fun e => by rw [e, Nat.beq_refl] at k3; cases k3
        refine SndF.rowsNew (N := 6) (bs := [b, b2]) (s0 := wS 6 [rowI 1 3 g e opn sz ro, rowI 1 2 h e2 opn2 sz2 ro2]) (o1 := .cells [.int .i64 (IntKind.i64.wrap ((h 0 0) * (1 : Int))), .int .i64 (IntKind.i64.wrap ((h 1 0) * (IntKind.i64.wrap ((1 : Int) * (g 2 0)))))] 3 false 0 false) sng (st2_o2 ⟨c, g, e, opn, sz, ro, c2, h, e2, opn2, sz2, ro2, x⟩ hx.1 hx.2.1 hx.2.2.1 hx.2.2.2) rfl (fun x' hx' => ?_) (by simp [hne]) (by omega) (fun x' hx' _ => ?_) (fun x' hx' => ?_) (fun f j hj => ?_) (fun f hl hf => wvs_three (slice_wv (hf 0 (by simp))) (slice_wv (hf 1 (by simp))) (ground_wv (n := 8) rfl)) (fun f _ hf hn => ⟨wv_tuple (wvs_two (slice_wv hn) (ground_wv (n := 8) rfl)), keep_wo (N := fun _ => false) (fun b hb => by cases hb) rfl⟩)
        · simp at hx'
          rcases hx' with rfl | rfl <;> omega
        · rcases Nat.lt_or_ge x' 6 with k | k
          · have hz := (by decide : ∀ b, b < 6 → Nat.testBit 192 b = false) x' k
            rw [hz] at hx'; cases hx'
          · exact k
        · simp at hx'
          rcases hx' with rfl | rfl <;> simp [or_bit, bit_self]
        · match j, hj with
          | 0, _ => exact w1 f
          | 1, _ => exact w2 f
      · rename_i g e opn sz ro p h e2 opn2 sz2 ro2 p2 k1 k2 k3 k4 k5
        cases he
        refine ⟨fun hq => hq.1, fun hq => ?_⟩
        obtain ⟨l1, l2, hx⟩ := hq.2
        obtain ⟨m1, w1⟩ := rowK_wo k4 l1
        obtain ⟨m2, w2⟩ := rowK_wo k5 l2
        have b1 := Nat.le_of_ble_eq_true k1
        have b3 := Nat.le_of_ble_eq_true k2
        have hne : b ≠ b2 := fun e => by rw [e, Nat.beq_refl] at k3; cases k3
        refine SndF.rowsNew (N := 6) (bs := [b, b2]) (s0 := wS 6 [rowI 1 3 g e opn sz ro, rowI 1 2 h e2 opn2 sz2 ro2]) (o1 := .rows ((x.toNat - 1) + 3) 1 (fun i j => .int .i64 ((st2F ⟨c, g, e, opn, sz, ro, c2, h, e2, opn2, sz2, ro2, x⟩ (x.toNat - 1)) i j)) 3 true 1 false) sng (st2_o1 ⟨c, g, e, opn, sz, ro, c2, h, e2, opn2, sz2, ro2, x⟩ hx.1 hx.2.1 hx.2.2.1 hx.2.2.2.1 hx.2.2.2.2) rfl (fun x' hx' => ?_) (by simp [hne]) (by omega) (fun x' hx' _ => ?_) (fun x' hx' => ?_) (fun f j hj => ?_) (fun f hl hf => wvs_three (slice_wv (hf 0 (by simp))) (slice_wv (hf 1 (by simp))) (ground_wv (n := 8) rfl)) (fun f _ hf hn => ⟨wv_tuple (wvs_two (slice_wv hn) (ground_wv (n := 8) rfl)), keep_wo (N := fun _ => false) (fun b hb => by cases hb) (fun i j => rfl)⟩)
        · simp at hx'
          rcases hx' with rfl | rfl <;> omega
        · rcases Nat.lt_or_ge x' 6 with k | k
          · have hz := (by decide : ∀ b, b < 6 → Nat.testBit 192 b = false) x' k
            rw [hz] at hx'; cases hx'
          · exact k
        · simp at hx'
          rcases hx' with rfl | rfl <;> simp [or_bit, bit_self]
        · match j, hj with
          | 0, _ => exact w1 f
          | 1, _ => exact w2 f
      · rename_i g e opn sz ro p h e2 opn2 sz2 ro2 p2 k1 k2 k3 k4 k5
        cases he
        refine ⟨fun hq => hq.1, fun hq => ?_⟩
        obtain ⟨l1, l2, hx⟩ := hq.2
        obtain ⟨m1, w1⟩ := rowK_wo k4 l1
        obtain ⟨m2, w2⟩ := rowK_wo k5 l2
        have b1 := Nat.le_of_ble_eq_true k1
        have b3 := Nat.le_of_ble_eq_true k2
        have hne : b ≠ b2 := fun e => by rw [e, Nat.beq_refl] at k3; cases k3
        refine SndF.rows (N := 6) (bs := [b, b2]) (s0 := wS 6 [rowI 1 3 g e opn sz ro, rowI 1 2 h e2 opn2 sz2 ro2]) sng (st2_o0 ⟨c, g, e, opn, sz, ro, c2, h, e2, opn2, sz2, ro2, x⟩ hx) rfl rfl (fun x' hx' => ?_) (by simp [hne]) (by omega) (fun x' hx' _ => ?_) (fun x' hx' => ?_) (fun f j hj => ?_) (fun f _ hf => ?_)
        · simp at hx'
          rcases hx' with rfl | rfl <;> omega
        · rcases Nat.lt_or_ge x' 6 with k | k
          · have hz := (by decide : ∀ b, b < 6 → Nat.testBit 192 b = false) x' k
            rw [hz] at hx'; cases hx'
          · exact k
        · simp at hx'
          rcases hx' with rfl | rfl <;> simp [or_bit, bit_self]
        · match j, hj with
          | 0, _ => exact w1 f
          | 1, _ => exact w2 f
        · exact wvs_three (slice_wv (hf 0 (by simp))) (slice_wv (hf 1 (by simp))) (ground_wv (n := 8) rfl)
      · cases he
    · cases he
  · cases he
theorem rt2_o2 (h0 : cpV 3 y.g = 0) (h1 : feN (zw0 y) 2 0 = 0) (h2 : Pl.cr y.x (0 : Int) (24 : Int) = 0) (hz : ¬ (0 : Int) < y.x) : SndF Tryz.prog 52 (rt2Args y) (wS 6 (rt2S y)) (.tuple #[.slice (some ⟨8, 0, none⟩) 2 2, .int .i64 (0 : Int)]) (wS 6 (rt2S y ++ [.rows 2 1 (fun i j => .int .i64 ((rt2F y 2) i j)) 3 true 1 false])) 192 0 :=
  rt2f0_s y h0 h1 h2 (rt2_l0 y (zw2 y) (zw3 y) (by rw [rt2_w h2]; omega) (by have := st2_lt h2; rw [rt2_w h2]; omega) (rt2_in y h0 h1))
theorem rt2_o1 (h0 : cpV 3 y.g = 0) (h1 : feN (fun i => Pl.cr (y.h i 0) (-1000) 1000) 2 0 = 0) (h2 : Pl.cr y.x (0 : Int) (24 : Int) = 0) (hz : (0 : Int) < y.x) (hk : (∀ i, i < y.x.toNat → Pl.cr (rt2D y (i + 2)) (-1073741824 : Int) (1073741824 : Int) = 0)) : SndF Tryz.prog 52 (rt2Args y) (wS 6 (rt2S y)) (.tuple #[.slice (some ⟨8, 0, none⟩) ((y.x.toNat - 1) + 3) ((y.x.toNat - 1) + 3), .int .i64 (0 : Int)]) (wS 6 (rt2S y ++ [.rows ((y.x.toNat - 1) + 3) 1 (fun i j => .int .i64 ((rt2F y ((y.x.toNat - 1) + 3)) i j)) 3 true 1 false])) 192 0 := by
  have hx := st2_lt h2
  exact rt2f1_s y (y.x.toNat - 1) h0 h1 h2 (rt2_l1 y (feN (fun i => Pl.cr (y.h i 0) (-1000) 1000) 2 0) (Pl.cr y.x (0 : Int) (24 : Int)) (y.x.toNat - 1) (by rw [rt2_w h2]; omega) (by omega) (fun i hi => by
    rcases Nat.lt_or_ge i 2 with c0 | c0
    · exact rt2_in y h0 h1 i c0
    · have hk := hk (i - 2) (by omega)
      rw [show i - 2 + 2 = i by omega] at hk
      exact hk))
theorem rt2_o0 (hp : cpV 3 y.g ≠ 0 ∨ feN (fun i => Pl.cr (y.h i 0) (-1000) 1000) 2 0 ≠ 0 ∨ Pl.cr y.x (0 : Int) (24 : Int) ≠ 0 ∨ (∃ i, i < y.x.toNat ∧ Pl.cr (rt2D y (i + 2)) (-1073741824 : Int) (1073741824 : Int) ≠ 0)) : SndF Tryz.prog 52 (rt2Args y) (wS 6 (rt2S y)) (.tuple #[.slice none 0 0, .int .i64 (th2 (th2 (th2 (cpV 3 y.g) (feN (fun i => Pl.cr (y.h i 0) (-1000) 1000) 2 0)) (Pl.cr y.x (0 : Int) (24 : Int))) 4)]) (wS 6 (rt2S y)) 192 0 := by
  by_cases h0 : cpV 3 y.g = 0
  · by_cases h1 : feN (fun i => Pl.cr (y.h i 0) (-1000) 1000) 2 0 = 0
    · by_cases h2 : Pl.cr y.x (0 : Int) (24 : Int) = 0
      · have hx := st2_lt h2
        have ev : (th2 (th2 (th2 (cpV 3 y.g) (feN (fun i => Pl.cr (y.h i 0) (-1000) 1000) 2 0)) (Pl.cr y.x (0 : Int) (24 : Int))) 4) = 4 := by rw [h0, h1, h2]; rfl
        rw [ev]
        rcases first_or (p := fun i => Pl.cr (rt2D y (i + 2)) (-1073741824 : Int) (1073741824 : Int) ≠ 0) (fun _ => inferInstance) y.x.toNat with ha | ⟨j, hj, hb, hk⟩
        · rcases hp with k | k | k | ⟨i, k1, k2⟩
          · exact absurd h0 k
          · exact absurd h1 k
          · exact absurd h2 k
          · exact absurd k2 (ha i k1)
        · have hk : ∀ i, i < j → Pl.cr (rt2D y (i + 2)) (-1073741824 : Int) (1073741824 : Int) = 0 := fun i hi => Decidable.not_not.1 (hk i hi)
          skip
          match j, hj, hb, hk with
          | 0, hj, hb, hk => exact rt2f2_s y h0 h1 h2 (rt2_b0 y (feN (fun i => Pl.cr (y.h i 0) (-1000) 1000) 2 0) (Pl.cr y.x (0 : Int) (24 : Int)) (by rw [rt2_w h2]; omega) (rt2_in y h0 h1) hb)
          | q + 1, hj, hb, hk => exact rt2f3_s y q h0 h1 h2 (rt2_b1 y (feN (fun i => Pl.cr (y.h i 0) (-1000) 1000) 2 0) (Pl.cr y.x (0 : Int) (24 : Int)) q (by rw [rt2_w h2]; omega) (by omega) (fun i hi => by
            rcases Nat.lt_or_ge i 2 with c0 | c0
            · exact rt2_in y h0 h1 i c0
            · have hk := hk (i - 2) (by omega)
              rw [show i - 2 + 2 = i by omega] at hk
              exact hk) hb)
      · have ev : (th2 (th2 (th2 (cpV 3 y.g) (feN (fun i => Pl.cr (y.h i 0) (-1000) 1000) 2 0)) (Pl.cr y.x (0 : Int) (24 : Int))) 4) = Pl.cr y.x (0 : Int) (24 : Int) := by
          rw [h0, h1, show th2 (th2 (0 : Int) 0) (Pl.cr y.x (0 : Int) (24 : Int)) = Pl.cr y.x (0 : Int) (24 : Int) from rfl]; exact if_neg h2
        rw [ev]; exact rt2f4_s y h0 h1 h2
    · have ev : (th2 (th2 (th2 (cpV 3 y.g) (feN (fun i => Pl.cr (y.h i 0) (-1000) 1000) 2 0)) (Pl.cr y.x (0 : Int) (24 : Int))) 4) = feN (fun i => Pl.cr (y.h i 0) (-1000) 1000) 2 0 := by
        rw [h0, show th2 (0 : Int) (feN (fun i => Pl.cr (y.h i 0) (-1000) 1000) 2 0) = feN (fun i => Pl.cr (y.h i 0) (-1000) 1000) 2 0 from rfl]
        unfold th2
        rw [if_neg h1, if_neg h1]
      rw [ev]; exact rt2f5_s y h0 h1
  · have ev : (th2 (th2 (th2 (cpV 3 y.g) (feN (fun i => Pl.cr (y.h i 0) (-1000) 1000) 2 0)) (Pl.cr y.x (0 : Int) (24 : Int))) 4) = cpV 3 y.g := by
      unfold th2
      rw [if_neg h0, if_neg h0, if_neg h0]
    rw [ev]; exact rt2f6_s y h0
def kT2 : CallS := fun f xs s q => match decide (f = 52) with
  | true => match xs.toList, q.rest with
    | [.slice (some ⟨b, 0, none⟩) 3 c, .slice (some ⟨b2, 0, none⟩) 2 c2, .int .i64 x], .n dd :: rest => match Nat.ble 6 b, Nat.ble 6 b2, Nat.beq b b2, rowK 1 .i64 s b 3, rowK 1 .i64 s b2 2, dd with
      | true, true, false, some (g, e, opn, sz, ro, p), some (h, e2, opn2, sz2, ro2, p2), 2 => some (.tuple #[.slice (some ⟨s.next, 0, none⟩) 2 2, .int .i64 (0 : Int)], s.push (.rows 2 1 (fun i j => .int .i64 ((rt2F ⟨c, g, e, opn, sz, ro, c2, h, e2, opn2, sz2, ro2, x⟩ 2) i j)) 3 true 1 false), 2 ^ b ||| 2 ^ b2, 0, ⟨rest, q.ob ∧ (p ∧ p2 ∧ (cpV 3 g = 0 ∧ feN (fun i => Pl.cr (h i 0) (-1000) 1000) 2 0 = 0 ∧ Pl.cr x (0 : Int) (24 : Int) = 0 ∧ ¬ (0 : Int) < x))⟩)
      | true, true, false, some (g, e, opn, sz, ro, p), some (h, e2, opn2, sz2, ro2, p2), 1 => some (.tuple #[.slice (some ⟨s.next, 0, none⟩) ((x.toNat - 1) + 3) ((x.toNat - 1) + 3), .int .i64 (0 : Int)], s.push (.rows ((x.toNat - 1) + 3) 1 (fun i j => .int .i64 ((rt2F ⟨c, g, e, opn, sz, ro, c2, h, e2, opn2, sz2, ro2, x⟩ ((x.toNat - 1) + 3)) i j)) 3 true 1 false), 2 ^ b ||| 2 ^ b2, 0, ⟨rest, q.ob ∧ (p ∧ p2 ∧ (cpV 3 g = 0 ∧ feN (fun i => Pl.cr (h i 0) (-1000) 1000) 2 0 = 0 ∧ Pl.cr x (0 : Int) (24 : Int) = 0 ∧ (0 : Int) < x ∧ (∀ i, i < x.toNat → Pl.cr (rt2D ⟨c, g, e, opn, sz, ro, c2, h, e2, opn2, sz2, ro2, x⟩ (i + 2)) (-1073741824 : Int) (1073741824 : Int) = 0)))⟩)
      | true, true, false, some (g, e, opn, sz, ro, p), some (h, e2, opn2, sz2, ro2, p2), 0 => some (.tuple #[.slice none 0 0, .int .i64 (th2 (th2 (th2 (cpV 3 g) (feN (fun i => Pl.cr (h i 0) (-1000) 1000) 2 0)) (Pl.cr x (0 : Int) (24 : Int))) 4)], s, 2 ^ b ||| 2 ^ b2, 0, ⟨rest, q.ob ∧ (p ∧ p2 ∧ (cpV 3 g ≠ 0 ∨ feN (fun i => Pl.cr (h i 0) (-1000) 1000) 2 0 ≠ 0 ∨ Pl.cr x (0 : Int) (24 : Int) ≠ 0 ∨ (∃ i, i < x.toNat ∧ Pl.cr (rt2D ⟨c, g, e, opn, sz, ro, c2, h, e2, opn2, sz2, ro2, x⟩ (i + 2)) (-1073741824 : Int) (1073741824 : Int) ≠ 0)))⟩)
      | _, _, _, _, _, _ => none
    | _, _ => none
  | false => none
theorem kT2_ok : FOkS Tryz.prog kT2 := fun f xs s q u s1 R W q1 he => by
  unfold kT2 at he
  split at he
  · rename_i hf
    have hf := of_decide_eq_true hf
    subst hf
    split at he
    · rename_i b c b2 c2 x dd rest hx0 hrest
      have hxs : xs = #[.slice (some ⟨b, 0, none⟩) 3 c, .slice (some ⟨b2, 0, none⟩) 2 c2, .int .i64 x] := by apply Array.ext'; exact hx0
      subst hxs
      split at he
      · rename_i g e opn sz ro p h e2 opn2 sz2 ro2 p2 k1 k2 k3 k4 k5
        cases he
        refine ⟨fun hq => hq.1, fun hq => ?_⟩
        obtain ⟨l1, l2, hx⟩ := hq.2
        obtain ⟨m1, w1⟩ := rowK_wo k4 l1
        obtain ⟨m2, w2⟩ := rowK_wo k5 l2
        have b1 := Nat.le_of_ble_eq_true k1
        have b3 := Nat.le_of_ble_eq_true k2
        have hne : b ≠ b2 := fun e => by rw [e, Nat.beq_refl] at k3; cases k3
        refine SndF.rowsNew (N := 6) (bs := [b, b2]) (s0 := wS 6 [rowI 1 3 g e opn sz ro, rowI 1 2 h e2 opn2 sz2 ro2]) (o1 := .rows 2 1 (fun i j => .int .i64 ((rt2F ⟨c, g, e, opn, sz, ro, c2, h, e2, opn2, sz2, ro2, x⟩ 2) i j)) 3 true 1 false) sng (rt2_o2 ⟨c, g, e, opn, sz, ro, c2, h, e2, opn2, sz2, ro2, x⟩ hx.1 hx.2.1 hx.2.2.1 hx.2.2.2) rfl (fun x' hx' => ?_) (by simp [hne]) (by omega) (fun x' hx' _ => ?_) (fun x' hx' => ?_) (fun f j hj => ?_) (fun f hl hf => wvs_three (slice_wv (hf 0 (by simp))) (slice_wv (hf 1 (by simp))) (ground_wv (n := 8) rfl)) (fun f _ hf hn => ⟨wv_tuple (wvs_two (slice_wv hn) (ground_wv (n := 8) rfl)), keep_wo (N := fun _ => false) (fun b hb => by cases hb) (fun i j => rfl)⟩)
        · simp at hx'
          rcases hx' with rfl | rfl <;> omega
        · rcases Nat.lt_or_ge x' 6 with k | k
          · have hz := (by decide : ∀ b, b < 6 → Nat.testBit 192 b = false) x' k
            rw [hz] at hx'; cases hx'
          · exact k
        · simp at hx'
          rcases hx' with rfl | rfl <;> simp [or_bit, bit_self]
        · match j, hj with
          | 0, _ => exact w1 f
          | 1, _ => exact w2 f
      · rename_i g e opn sz ro p h e2 opn2 sz2 ro2 p2 k1 k2 k3 k4 k5
        cases he
        refine ⟨fun hq => hq.1, fun hq => ?_⟩
        obtain ⟨l1, l2, hx⟩ := hq.2
        obtain ⟨m1, w1⟩ := rowK_wo k4 l1
        obtain ⟨m2, w2⟩ := rowK_wo k5 l2
        have b1 := Nat.le_of_ble_eq_true k1
        have b3 := Nat.le_of_ble_eq_true k2
        have hne : b ≠ b2 := fun e => by rw [e, Nat.beq_refl] at k3; cases k3
        refine SndF.rowsNew (N := 6) (bs := [b, b2]) (s0 := wS 6 [rowI 1 3 g e opn sz ro, rowI 1 2 h e2 opn2 sz2 ro2]) (o1 := .rows ((x.toNat - 1) + 3) 1 (fun i j => .int .i64 ((rt2F ⟨c, g, e, opn, sz, ro, c2, h, e2, opn2, sz2, ro2, x⟩ ((x.toNat - 1) + 3)) i j)) 3 true 1 false) sng (rt2_o1 ⟨c, g, e, opn, sz, ro, c2, h, e2, opn2, sz2, ro2, x⟩ hx.1 hx.2.1 hx.2.2.1 hx.2.2.2.1 hx.2.2.2.2) rfl (fun x' hx' => ?_) (by simp [hne]) (by omega) (fun x' hx' _ => ?_) (fun x' hx' => ?_) (fun f j hj => ?_) (fun f hl hf => wvs_three (slice_wv (hf 0 (by simp))) (slice_wv (hf 1 (by simp))) (ground_wv (n := 8) rfl)) (fun f _ hf hn => ⟨wv_tuple (wvs_two (slice_wv hn) (ground_wv (n := 8) rfl)), keep_wo (N := fun _ => false) (fun b hb => by cases hb) (fun i j => rfl)⟩)
        · simp at hx'
          rcases hx' with rfl | rfl <;> omega
        · rcases Nat.lt_or_ge x' 6 with k | k
          · have hz := (by decide : ∀ b, b < 6 → Nat.testBit 192 b = false) x' k
            rw [hz] at hx'; cases hx'
          · exact k
        · simp at hx'
          rcases hx' with rfl | rfl <;> simp [or_bit, bit_self]
        · match j, hj with
          | 0, _ => exact w1 f
          | 1, _ => exact w2 f
      · rename_i g e opn sz ro p h e2 opn2 sz2 ro2 p2 k1 k2 k3 k4 k5
        cases he
        refine ⟨fun hq => hq.1, fun hq => ?_⟩
        obtain ⟨l1, l2, hx⟩ := hq.2
        obtain ⟨m1, w1⟩ := rowK_wo k4 l1
        obtain ⟨m2, w2⟩ := rowK_wo k5 l2
        have b1 := Nat.le_of_ble_eq_true k1
        have b3 := Nat.le_of_ble_eq_true k2
        have hne : b ≠ b2 := fun e => by rw [e, Nat.beq_refl] at k3; cases k3
        refine SndF.rows (N := 6) (bs := [b, b2]) (s0 := wS 6 [rowI 1 3 g e opn sz ro, rowI 1 2 h e2 opn2 sz2 ro2]) sng (rt2_o0 ⟨c, g, e, opn, sz, ro, c2, h, e2, opn2, sz2, ro2, x⟩ hx) rfl rfl (fun x' hx' => ?_) (by simp [hne]) (by omega) (fun x' hx' _ => ?_) (fun x' hx' => ?_) (fun f j hj => ?_) (fun f _ hf => ?_)
        · simp at hx'
          rcases hx' with rfl | rfl <;> omega
        · rcases Nat.lt_or_ge x' 6 with k | k
          · have hz := (by decide : ∀ b, b < 6 → Nat.testBit 192 b = false) x' k
            rw [hz] at hx'; cases hx'
          · exact k
        · simp at hx'
          rcases hx' with rfl | rfl <;> simp [or_bit, bit_self]
        · match j, hj with
          | 0, _ => exact w1 f
          | 1, _ => exact w2 f
        · exact wvs_three (slice_wv (hf 0 (by simp))) (slice_wv (hf 1 (by simp))) (ground_wv (n := 8) rfl)
      · cases he
    · cases he
  · cases he
end
end Go.Proofs.YtbkpnhbcihcgaaaGreatDoor
end
section
set_option linter.all false
set_option maxRecDepth 1000000
open Go.RowKit
namespace Go.Proofs.YtbkpnhbcihcgaaaGreatDoor
open Mini
noncomputable section
variable (y : SV) (a0 : Int) (a1 : Int) (a2 : Int) (v0 : Int) (v1 : Int) (v2 : Int) (u0 : Int) (u1 : Int) (u2 : Int) (w0 : Int) (w1 : Int) (w2 : Int) (m9 : Nat) (i34 : Nat) (g6 : GI)
noncomputable def st3X : Code := loopAt Tryz.prog 50 0
noncomputable def st3K : CallS := kAll [c_range, c_rrange, c_index]
def st3A (a0 : Int) (a1 : Int) (a2 : Int) (v0 : Int) (v1 : Int) (v2 : Int) (u0 : Int) (u1 : Int) (u2 : Int) (w0 : Int) (w1 : Int) (w2 : Int) : MA := MA.ofL 64 (jl [] 9 (jl [.slice (some ⟨9, 0, none⟩) 3 3, .slice (some ⟨11, 0, none⟩) 3 3] 22 (jl [.int .i64 y.x, .int .i64 (0 : Int)] 29 []))) []
abbrev zh0 : List MObj := [.rows 4 1 (fun i j => .int .i64 (y.g i j)) y.e y.opn y.sz y.ro, .rows 3 1 (fun i j => .int .i64 (y.h i j)) y.e2 y.opn2 y.sz2 y.ro2, .cells [.int .i64 a0, .int .i64 a1, .int .i64 a2] 26 false 0 false, .cells [.int .i64 v0, .int .i64 v1, .int .i64 v2] 3 false 0 false, .cells [.int .i64 u0, .int .i64 u1, .int .i64 u2] 155 false 0 false, .cells [.int .i64 w0, .int .i64 w1, .int .i64 w2] 155 false 0 false]
def st3L : List MObj := (zh0 y a0 a1 a2 v0 v1 v2 u0 u1 u2 w0 w1 w2)
def st3A1 (a0 : Int) (a1 : Int) (a2 : Int) (v0 : Int) (v1 : Int) (v2 : Int) (u0 : Int) (u1 : Int) (u2 : Int) (w0 : Int) (w1 : Int) (w2 : Int) (m9 : Nat) (i34 : Nat) (g6 : GI) : MA := MA.ofL 64 (jl [] 9 (jl [.slice (some ⟨12, 0, none⟩) (m9 + 4) (m9 + 4), .slice (some ⟨11, 0, none⟩) 3 3] 22 (jl [.int .i64 y.x, .int .i64 ((i34 : Nat) : Int)] 29 []))) []
abbrev zh1 : List MObj := [.rows 4 1 (fun i j => .int .i64 (y.g i j)) y.e y.opn y.sz y.ro, .rows 3 1 (fun i j => .int .i64 (y.h i j)) y.e2 y.opn2 y.sz2 y.ro2, .cells [.int .i64 a0, .int .i64 a1, .int .i64 a2] 26 false 0 false, .cells [.int .i64 v0, .int .i64 v1, .int .i64 v2] 3 false 0 false, .cells [.int .i64 u0, .int .i64 u1, .int .i64 u2] 155 false 0 false, .cells [.int .i64 w0, .int .i64 w1, .int .i64 w2] 155 false 0 false, .rows (m9 + 4) 1 (fun i j => .int .i64 (g6 i j)) 3 true 1 false]
def st3L1 (i34 : Nat) (g6 : GI) : List MObj := (zh1 y a0 a1 a2 v0 v1 v2 u0 u1 u2 w0 w1 w2 m9 g6)
noncomputable def st3r0 : Option OutCS := evK Tryz.prog st3K 1000 false st3X (st3A y a0 a1 a2 v0 v1 v2 u0 u1 u2 w0 w1 w2) (wS 6 (st3L y a0 a1 a2 v0 v1 v2 u0 u1 u2 w0 w1 w2)) ⟨[1, 1, 0, 0, 1, 1, 1, 1, 2, 2, 0, 0], True⟩
noncomputable def st3r1 : Option OutCS := evK Tryz.prog st3K 1000 false st3X (st3A y a0 a1 a2 v0 v1 v2 u0 u1 u2 w0 w1 w2) (wS 6 (st3L y a0 a1 a2 v0 v1 v2 u0 u1 u2 w0 w1 w2)) ⟨[1, 1, 0, 0, 1, 1, 1, 1, 2, 2, 0, 1], True⟩
abbrev zh2 := jl [] 6 (jl [.slice none 0 0, .int .i64 (4 : Int)] 56 [])
def st3r1E (y : SV) (a0 : Int) (a1 : Int) (a2 : Int) (v0 : Int) (v1 : Int) (v2 : Int) (u0 : Int) (u1 : Int) (u2 : Int) (w0 : Int) (w1 : Int) (w2 : Int) : MA := MA.ofL 64 zh2 []
noncomputable def st3r2 : Option OutCS := evK Tryz.prog st3K 1000 false st3X (st3A y a0 a1 a2 v0 v1 v2 u0 u1 u2 w0 w1 w2) (wS 6 (st3L y a0 a1 a2 v0 v1 v2 u0 u1 u2 w0 w1 w2)) ⟨[0], True⟩
def st3r2E (y : SV) (a0 : Int) (a1 : Int) (a2 : Int) (v0 : Int) (v1 : Int) (v2 : Int) (u0 : Int) (u1 : Int) (u2 : Int) (w0 : Int) (w1 : Int) (w2 : Int) : MA := MA.ofL 64 (jl [] 9 (jl [.slice (some ⟨9, 0, none⟩) 3 3] 54 [])) []
noncomputable def st3r3 : Option OutCS := evK Tryz.prog st3K 1000 false st3X (st3A1 y a0 a1 a2 v0 v1 v2 u0 u1 u2 w0 w1 w2 m9 i34 g6) (wS 6 (st3L1 y a0 a1 a2 v0 v1 v2 u0 u1 u2 w0 w1 w2 m9 i34 g6)) ⟨[1, 1, 0, .azz (.int .i64 ((i34 : Nat) : Int)), .row i34 0, .row i34 0, 1, 1, .azz (.int .i64 ((i34 + 1 : Nat) : Int)), .row (i34 + 1) 0, .row (i34 + 1) 0, 1, 2, .azz (.int .i64 ((i34 + 2 : Nat) : Int)), .row (i34 + 2) 0, .row (i34 + 2) 0, 0, 0, .row 0 0, .azz (.int .i64 ((i34 + 1 : Nat) : Int))], True⟩
noncomputable def st3r4 : Option OutCS := evK Tryz.prog st3K 1000 false st3X (st3A1 y a0 a1 a2 v0 v1 v2 u0 u1 u2 w0 w1 w2 m9 i34 g6) (wS 6 (st3L1 y a0 a1 a2 v0 v1 v2 u0 u1 u2 w0 w1 w2 m9 i34 g6)) ⟨[1, 1, 0, .azz (.int .i64 ((i34 : Nat) : Int)), .row i34 0, .row i34 0, 1, 1, .azz (.int .i64 ((i34 + 1 : Nat) : Int)), .row (i34 + 1) 0, .row (i34 + 1) 0, 1, 2, .azz (.int .i64 ((i34 + 2 : Nat) : Int)), .row (i34 + 2) 0, .row (i34 + 2) 0, 0, 1], True⟩
def st3r4E (y : SV) (a0 : Int) (a1 : Int) (a2 : Int) (v0 : Int) (v1 : Int) (v2 : Int) (u0 : Int) (u1 : Int) (u2 : Int) (w0 : Int) (w1 : Int) (w2 : Int) (m9 : Nat) (i34 : Nat) (g6 : GI) : MA := MA.ofL 64 zh2 []
noncomputable def st3r5 : Option OutCS := evK Tryz.prog st3K 1000 false st3X (st3A1 y a0 a1 a2 v0 v1 v2 u0 u1 u2 w0 w1 w2 m9 i34 g6) (wS 6 (st3L1 y a0 a1 a2 v0 v1 v2 u0 u1 u2 w0 w1 w2 m9 i34 g6)) ⟨[0], True⟩
def st3r5E (y : SV) (a0 : Int) (a1 : Int) (a2 : Int) (v0 : Int) (v1 : Int) (v2 : Int) (u0 : Int) (u1 : Int) (u2 : Int) (w0 : Int) (w1 : Int) (w2 : Int) (m9 : Nat) (i34 : Nat) (g6 : GI) : MA := MA.ofL 64 (jl [] 9 (jl [.slice (some ⟨12, 0, none⟩) (m9 + 4) (m9 + 4)] 54 [])) []
theorem st3K_ok : FOkS Tryz.prog st3K := kAll_ok _ ⟨k_range, k_rrange, k_index, trivial⟩
abbrev zh3 := IntKind.i64.wrap ((IntKind.i64.wrap ((IntKind.i64.wrap ((0 : Int) + (IntKind.i64.wrap (w0 * v0)))) + (IntKind.i64.wrap (w1 * v1)))) + (IntKind.i64.wrap (w2 * v2)))
abbrev zh4 := fun i j => ([v0, v1, v2, (zh3 v0 v1 v2 w0 w1 w2)] : List Int).getD (i * 1 + j) 0
abbrev zh5 : List MObj := [.rows 4 1 (fun i j => .int .i64 (y.g i j)) y.e y.opn y.sz y.ro, .rows 3 1 (fun i j => .int .i64 (y.h i j)) y.e2 y.opn2 y.sz2 y.ro2, .cells [.int .i64 a0, .int .i64 a1, .int .i64 a2] 26 false 0 false, .cells [.int .i64 v0, .int .i64 v1, .int .i64 v2] 3 false 0 false, .cells [.int .i64 u0, .int .i64 u1, .int .i64 u2] 155 false 0 false, .cells [.int .i64 w0, .int .i64 w1, .int .i64 w2] 155 false 0 false, .cells [.int .i64 v0, .int .i64 v1, .int .i64 v2, .int .i64 (zh3 v0 v1 v2 w0 w1 w2)] 3 true 1 false]
abbrev zh6 := (decide ((0 : Int) < (((3 : Nat)) : Int))) = true
abbrev zh7 := (decide ((IntKind.i64.wrap ((0 : Int) + (1 : Int))) < (((3 : Nat)) : Int))) = true
abbrev zh8 := (IntKind.i64.wrap ((0 : Int) + (1 : Int))) = (Int.ofNat 1)
abbrev zh9 := IntKind.i64.wrap ((IntKind.i64.wrap ((0 : Int) + (1 : Int))) + (1 : Int))
abbrev zh10 := (decide (zh9 < (((3 : Nat)) : Int))) = true
abbrev zh11 := zh9 = (Int.ofNat 2)
abbrev zh12 := (decide ((IntKind.i64.wrap (zh9 + (1 : Int))) < (((3 : Nat)) : Int))) = false
abbrev zh13 := (((((((((((True ∧ ((decide ((0 : Int) < y.x)) = true)) ∧ zh6) ∧ ((0 : Int) = (Int.ofNat 0))) ∧ ((IntKind.i64.wrap ((0 : Int) + (0 : Int))) = (Int.ofNat 0))) ∧ zh7) ∧ zh8) ∧ ((IntKind.i64.wrap ((0 : Int) + (IntKind.i64.wrap ((0 : Int) + (1 : Int))))) = (Int.ofNat 1))) ∧ zh10) ∧ zh11) ∧ ((IntKind.i64.wrap ((0 : Int) + zh9)) = (Int.ofNat 2))) ∧ zh12) ∧ True
abbrev zh14 := (Pl.cr (zh3 v0 v1 v2 w0 w1 w2) (- (1073741824 : Int)) (1073741824 : Int)) != (0 : Int)
theorem st3r0_eq : seenK 6 6 [13] 25769805312 4096 (st3r0 y a0 a1 a2 v0 v1 v2 u0 u1 u2 w0 w1 w2) = some (.normal, st3A1 y a0 a1 a2 v0 v1 v2 u0 u1 u2 w0 w1 w2 0 1 (zh4 v0 v1 v2 w0 w1 w2), (zh5 y a0 a1 a2 v0 v1 v2 u0 u1 u2 w0 w1 w2), 4096, ⟨[], ((zh13 y) ∧ ((zh14 v0 v1 v2 w0 w1 w2) = false))⟩) := by kernel_rfl
abbrev zh15 := Pl.cr (zh3 v0 v1 v2 w0 w1 w2) (-1073741824 : Int) (1073741824 : Int)
theorem st3r0_k (h0 : (0 : Int) < y.x) (h1 : (zh15 v0 v1 v2 w0 w1 w2) = (0 : Int)) : KC Tryz.prog none st3X (st3A y a0 a1 a2 v0 v1 v2 u0 u1 u2 w0 w1 w2).act (wS 6 (st3L y a0 a1 a2 v0 v1 v2 u0 u1 u2 w0 w1 w2)) .normal (st3A1 y a0 a1 a2 v0 v1 v2 u0 u1 u2 w0 w1 w2 0 1 (zh4 v0 v1 v2 w0 w1 w2)).act (wS 6 (st3L1 y a0 a1 a2 v0 v1 v2 u0 u1 u2 w0 w1 w2 0 1 (zh4 v0 v1 v2 w0 w1 w2))) 12 4096 := by
  refine KT.toldAs (L := (zh5 y a0 a1 a2 v0 v1 v2 u0 u1 u2 w0 w1 w2)) ?_ (by
    simp only [List.map_cons, List.map_nil, st3L, st3L1]
    all_goals exact kr)
  exact seenK_ok smx st3K_ok sng (st3r0_eq y a0 a1 a2 v0 v1 v2 u0 u1 u2 w0 w1 w2) kq
theorem st3r1_eq : seenK 6 6 [] 192 4096 (st3r1 y a0 a1 a2 v0 v1 v2 u0 u1 u2 w0 w1 w2) = some (.ret, st3r1E y a0 a1 a2 v0 v1 v2 u0 u1 u2 w0 w1 w2, (zh0 y a0 a1 a2 v0 v1 v2 u0 u1 u2 w0 w1 w2), 4096, ⟨[], ((zh13 y) ∧ ((zh14 v0 v1 v2 w0 w1 w2) = true))⟩) := by kernel_rfl
abbrev zh16 := wS 6 (zh0 y a0 a1 a2 v0 v1 v2 u0 u1 u2 w0 w1 w2)
theorem st3r1_k (h0 : (0 : Int) < y.x) (h1 : (zh15 v0 v1 v2 w0 w1 w2) ≠ (0 : Int)) : KC Tryz.prog none st3X (st3A y a0 a1 a2 v0 v1 v2 u0 u1 u2 w0 w1 w2).act (wS 6 (st3L y a0 a1 a2 v0 v1 v2 u0 u1 u2 w0 w1 w2)) .ret (st3r1E y a0 a1 a2 v0 v1 v2 u0 u1 u2 w0 w1 w2).act (zh16 y a0 a1 a2 v0 v1 v2 u0 u1 u2 w0 w1 w2) 12 4096 :=
  seenK_ok smx st3K_ok sng (st3r1_eq y a0 a1 a2 v0 v1 v2 u0 u1 u2 w0 w1 w2) kq
theorem st3r2_eq : seenK 6 6 [] 512 4096 (st3r2 y a0 a1 a2 v0 v1 v2 u0 u1 u2 w0 w1 w2) = some ((.exit 0), st3r2E y a0 a1 a2 v0 v1 v2 u0 u1 u2 w0 w1 w2, (zh0 y a0 a1 a2 v0 v1 v2 u0 u1 u2 w0 w1 w2), 4096, ⟨[], (True ∧ ((decide ((0 : Int) < y.x)) = false))⟩) := by kernel_rfl
theorem st3r2_k (h0 : ¬ (0 : Int) < y.x) : KC Tryz.prog none st3X (st3A y a0 a1 a2 v0 v1 v2 u0 u1 u2 w0 w1 w2).act (wS 6 (st3L y a0 a1 a2 v0 v1 v2 u0 u1 u2 w0 w1 w2)) (.exit 0) (st3r2E y a0 a1 a2 v0 v1 v2 u0 u1 u2 w0 w1 w2).act (zh16 y a0 a1 a2 v0 v1 v2 u0 u1 u2 w0 w1 w2) 12 4096 :=
  seenK_ok smx st3K_ok sng (st3r2_eq y a0 a1 a2 v0 v1 v2 u0 u1 u2 w0 w1 w2) kq
abbrev zh17 := IntKind.i64.wrap ((IntKind.i64.wrap ((IntKind.i64.wrap ((0 : Int) + (IntKind.i64.wrap (w0 * (g6 i34 0))))) + (IntKind.i64.wrap (w1 * (g6 (i34 + 1) 0))))) + (IntKind.i64.wrap (w2 * (g6 (i34 + 2) 0))))
abbrev zh18 := pushI (m9 + 4) g6 [(zh17 w0 w1 w2 i34 g6)]
abbrev zh19 : List MObj := [.rows 4 1 (fun i j => .int .i64 (y.g i j)) y.e y.opn y.sz y.ro, .rows 3 1 (fun i j => .int .i64 (y.h i j)) y.e2 y.opn2 y.sz2 y.ro2, .cells [.int .i64 a0, .int .i64 a1, .int .i64 a2] 26 false 0 false, .cells [.int .i64 v0, .int .i64 v1, .int .i64 v2] 3 false 0 false, .cells [.int .i64 u0, .int .i64 u1, .int .i64 u2] 155 false 0 false, .cells [.int .i64 w0, .int .i64 w1, .int .i64 w2] 155 false 0 false, .rows (m9 + 5) 1 (fun i j => tellV (invN 12 [14]) 8 ((pushRow (m9 + 4) 1 (fun i j => .int .i64 (g6 i j)) [.int .i64 (zh17 w0 w1 w2 i34 g6)]) i j)) 3 true 1 false]
abbrev zh20 := (((((((((((((((((True ∧ ((decide ((((i34 : Nat)) : Int) < y.x)) = true)) ∧ zh6) ∧ ((0 : Int) = (Int.ofNat 0))) ∧ (((.int .i64 (IntKind.i64.wrap ((((i34 : Nat)) : Int) + (0 : Int)))) : Value) = (.int .i64 (((i34 : Nat)) : Int)))) ∧ (((((i34 : Nat)) : Int) = (Int.ofNat i34)) ∧ (i34 < (m9 + 4)))) ∧ (((0 + (i34 * 1)) = ((i34 * 1) + 0)) ∧ (i34 < (m9 + 4)))) ∧ zh7) ∧ zh8) ∧ (((.int .i64 (IntKind.i64.wrap ((((i34 : Nat)) : Int) + (IntKind.i64.wrap ((0 : Int) + (1 : Int)))))) : Value) = (.int .i64 ((((i34 + 1) : Nat)) : Int)))) ∧ ((((((i34 + 1) : Nat)) : Int) = (Int.ofNat (i34 + 1))) ∧ ((i34 + 1) < (m9 + 4)))) ∧ (((0 + ((i34 + 1) * 1)) = (((i34 + 1) * 1) + 0)) ∧ ((i34 + 1) < (m9 + 4)))) ∧ zh10) ∧ zh11) ∧ (((.int .i64 (IntKind.i64.wrap ((((i34 : Nat)) : Int) + zh9))) : Value) = (.int .i64 ((((i34 + 2) : Nat)) : Int)))) ∧ ((((((i34 + 2) : Nat)) : Int) = (Int.ofNat (i34 + 2))) ∧ ((i34 + 2) < (m9 + 4)))) ∧ (((0 + ((i34 + 2) * 1)) = (((i34 + 2) * 1) + 0)) ∧ ((i34 + 2) < (m9 + 4)))) ∧ zh12) ∧ True
abbrev zh21 := (Pl.cr (zh17 w0 w1 w2 i34 g6) (- (1073741824 : Int)) (1073741824 : Int)) != (0 : Int)
theorem st3r3_eq : seenK 6 6 [14] 25769805312 4096 (st3r3 y a0 a1 a2 v0 v1 v2 u0 u1 u2 w0 w1 w2 m9 i34 g6) = some (.normal, st3A1 y a0 a1 a2 v0 v1 v2 u0 u1 u2 w0 w1 w2 (m9 + 1) (i34 + 1) (zh18 w0 w1 w2 m9 i34 g6), (zh19 y a0 a1 a2 v0 v1 v2 u0 u1 u2 w0 w1 w2 m9 i34 g6), 4096, ⟨[], ((((zh20 y m9 i34) ∧ ((zh21 w0 w1 w2 i34 g6) = false)) ∧ (((m9 + 4) = (m9 + 4)) ∧ (((m9 + 4) = (m9 + 4)) ∧ ((((m9 + 4) + 1) * 8) ≤ (140737488355328 : Nat))))) ∧ (((.int .i64 (IntKind.i64.wrap ((((i34 : Nat)) : Int) + (1 : Int)))) : Value) = (.int .i64 ((((i34 + 1) : Nat)) : Int))))⟩) := by kernel_rfl
abbrev zh22 := Pl.cr (zh17 w0 w1 w2 i34 g6) (-1073741824 : Int) (1073741824 : Int)
theorem st3r3_k (hx : i34 = m9 + 1) (hb : m9 ≤ 1000) (h0 : ((i34 : Nat) : Int) < y.x) (h1 : (zh22 w0 w1 w2 i34 g6) = (0 : Int)) : KC Tryz.prog none st3X (st3A1 y a0 a1 a2 v0 v1 v2 u0 u1 u2 w0 w1 w2 m9 i34 g6).act (wS 6 (st3L1 y a0 a1 a2 v0 v1 v2 u0 u1 u2 w0 w1 w2 m9 i34 g6)) .normal (st3A1 y a0 a1 a2 v0 v1 v2 u0 u1 u2 w0 w1 w2 (m9 + 1) (i34 + 1) (zh18 w0 w1 w2 m9 i34 g6)).act (wS 6 (st3L1 y a0 a1 a2 v0 v1 v2 u0 u1 u2 w0 w1 w2 (m9 + 1) (i34 + 1) (zh18 w0 w1 w2 m9 i34 g6))) 12 4096 := by
  refine KT.toldAs (L := (zh19 y a0 a1 a2 v0 v1 v2 u0 u1 u2 w0 w1 w2 m9 i34 g6)) ?_ (by
    simp only [List.map_cons, List.map_nil, st3L, st3L1]
    all_goals exact kr)
  exact seenK_ok smx st3K_ok sng (st3r3_eq y a0 a1 a2 v0 v1 v2 u0 u1 u2 w0 w1 w2 m9 i34 g6) kq
theorem st3r4_eq : seenK 6 6 [] 192 4096 (st3r4 y a0 a1 a2 v0 v1 v2 u0 u1 u2 w0 w1 w2 m9 i34 g6) = some (.ret, st3r4E y a0 a1 a2 v0 v1 v2 u0 u1 u2 w0 w1 w2 m9 i34 g6, (zh0 y a0 a1 a2 v0 v1 v2 u0 u1 u2 w0 w1 w2), 4096, ⟨[], ((zh20 y m9 i34) ∧ ((zh21 w0 w1 w2 i34 g6) = true))⟩) := by kernel_rfl
theorem st3r4_k (hx : i34 = m9 + 1) (hb : m9 ≤ 1000) (h0 : ((i34 : Nat) : Int) < y.x) (h1 : (zh22 w0 w1 w2 i34 g6) ≠ (0 : Int)) : KC Tryz.prog none st3X (st3A1 y a0 a1 a2 v0 v1 v2 u0 u1 u2 w0 w1 w2 m9 i34 g6).act (wS 6 (st3L1 y a0 a1 a2 v0 v1 v2 u0 u1 u2 w0 w1 w2 m9 i34 g6)) .ret (st3r4E y a0 a1 a2 v0 v1 v2 u0 u1 u2 w0 w1 w2 m9 i34 g6).act (zh16 y a0 a1 a2 v0 v1 v2 u0 u1 u2 w0 w1 w2) 12 4096 :=
  seenK_ok smx st3K_ok sng (st3r4_eq y a0 a1 a2 v0 v1 v2 u0 u1 u2 w0 w1 w2 m9 i34 g6) kq
theorem st3r5_eq : seenK 6 6 [12] 512 4096 (st3r5 y a0 a1 a2 v0 v1 v2 u0 u1 u2 w0 w1 w2 m9 i34 g6) = some ((.exit 0), st3r5E y a0 a1 a2 v0 v1 v2 u0 u1 u2 w0 w1 w2 m9 i34 g6, (zh1 y a0 a1 a2 v0 v1 v2 u0 u1 u2 w0 w1 w2 m9 g6), 4096, ⟨[], (True ∧ ((decide ((((i34 : Nat)) : Int) < y.x)) = false))⟩) := by kernel_rfl
theorem st3r5_k (hx : i34 = m9 + 1) (hb : m9 ≤ 1000) (h0 : ¬ ((i34 : Nat) : Int) < y.x) : KC Tryz.prog none st3X (st3A1 y a0 a1 a2 v0 v1 v2 u0 u1 u2 w0 w1 w2 m9 i34 g6).act (wS 6 (st3L1 y a0 a1 a2 v0 v1 v2 u0 u1 u2 w0 w1 w2 m9 i34 g6)) (.exit 0) (st3r5E y a0 a1 a2 v0 v1 v2 u0 u1 u2 w0 w1 w2 m9 i34 g6).act (wS 6 (zh1 y a0 a1 a2 v0 v1 v2 u0 u1 u2 w0 w1 w2 m9 g6)) 12 4096 := by
  refine KT.toldAs (L := (zh1 y a0 a1 a2 v0 v1 v2 u0 u1 u2 w0 w1 w2 m9 g6)) ?_ (by
    simp only [List.map_cons, List.map_nil, st3L, st3L1]
    all_goals exact kr)
  exact seenK_ok smx st3K_ok sng (st3r5_eq y a0 a1 a2 v0 v1 v2 u0 u1 u2 w0 w1 w2 m9 i34 g6) kq
end
end Go.Proofs.YtbkpnhbcihcgaaaGreatDoor
end
section
set_option linter.all false
set_option maxRecDepth 1000000
open Go.RowKit
namespace Go.Proofs.YtbkpnhbcihcgaaaGreatDoor
open Mini
noncomputable section
variable (y : SV) (a0 : Int) (a1 : Int) (a2 : Int) (v0 : Int) (v1 : Int) (v2 : Int) (u0 : Int) (u1 : Int) (u2 : Int) (w0 : Int) (w1 : Int) (w2 : Int) (mm : Nat) (jj : Nat) (i : Nat)
abbrev zp0 := IntKind.i64.wrap ((IntKind.i64.wrap ((IntKind.i64.wrap ((0 : Int) + (IntKind.i64.wrap (w0 * v0)))) + (IntKind.i64.wrap (w1 * v1)))) + (IntKind.i64.wrap (w2 * v2)))
def st3RR (y : SV) (a0 : Int) (a1 : Int) (a2 : Int) (v0 : Int) (v1 : Int) (v2 : Int) (u0 : Int) (u1 : Int) (u2 : Int) (w0 : Int) (w1 : Int) (w2 : Int) : Nat → Nat → Nat → Int
  | 0 => (fun i j => ([v0, v1, v2, (zp0 v0 v1 v2 w0 w1 w2)] : List Int).getD (i * 1 + j) 0)
  | q + 1 => pushI (q + 4) (st3RR y a0 a1 a2 v0 v1 v2 u0 u1 u2 w0 w1 w2 q) [(IntKind.i64.wrap ((IntKind.i64.wrap ((IntKind.i64.wrap ((0 : Int) + (IntKind.i64.wrap (w0 * ((st3RR y a0 a1 a2 v0 v1 v2 u0 u1 u2 w0 w1 w2 q) (q + 1) 0))))) + (IntKind.i64.wrap (w1 * ((st3RR y a0 a1 a2 v0 v1 v2 u0 u1 u2 w0 w1 w2 q) ((q + 1) + 1) 0))))) + (IntKind.i64.wrap (w2 * ((st3RR y a0 a1 a2 v0 v1 v2 u0 u1 u2 w0 w1 w2 q) ((q + 1) + 2) 0)))))]
def st3EE : Nat → Int
  | 0 => (zp0 v0 v1 v2 w0 w1 w2)
  | q + 1 => (IntKind.i64.wrap ((IntKind.i64.wrap ((IntKind.i64.wrap ((0 : Int) + (IntKind.i64.wrap (w0 * ((st3RR y a0 a1 a2 v0 v1 v2 u0 u1 u2 w0 w1 w2 q) (q + 1) 0))))) + (IntKind.i64.wrap (w1 * ((st3RR y a0 a1 a2 v0 v1 v2 u0 u1 u2 w0 w1 w2 q) ((q + 1) + 1) 0))))) + (IntKind.i64.wrap (w2 * ((st3RR y a0 a1 a2 v0 v1 v2 u0 u1 u2 w0 w1 w2 q) ((q + 1) + 2) 0)))))
def st3AA : MA := match i with
  | 0 => st3A y a0 a1 a2 v0 v1 v2 u0 u1 u2 w0 w1 w2
  | q + 1 => st3A1 y a0 a1 a2 v0 v1 v2 u0 u1 u2 w0 w1 w2 q (q + 1) (st3RR y a0 a1 a2 v0 v1 v2 u0 u1 u2 w0 w1 w2 q)
def st3LL : List MObj := match i with
  | 0 => st3L y a0 a1 a2 v0 v1 v2 u0 u1 u2 w0 w1 w2
  | q + 1 => st3L1 y a0 a1 a2 v0 v1 v2 u0 u1 u2 w0 w1 w2 q (q + 1) (st3RR y a0 a1 a2 v0 v1 v2 u0 u1 u2 w0 w1 w2 q)
abbrev zp1 := feN (fun i => Pl.cr (y.h i 0) (-1000) 1000) 3 0
abbrev zp2 := Pl.cr y.x (0 : Int) (24 : Int)
abbrev zp3 := IntKind.i64.wrap ((y.h 1 0) * (IntKind.i64.wrap ((1 : Int) * (y.g 3 0))))
abbrev zp4 := IntKind.i64.wrap ((IntKind.i64.wrap ((1 : Int) * (y.g 3 0))) * (y.g 3 0))
abbrev zp5 := IntKind.i64.wrap ((y.h 2 0) * (zp4 y))
abbrev zp6 := IntKind.i64.wrap ((y.g 0 0) * (zp4 y))
abbrev zp7 := IntKind.i64.wrap ((y.g 1 0) * (IntKind.i64.wrap ((1 : Int) * (y.g 3 0))))
abbrev zp8 := IntKind.i64.wrap ((0 : Int) - (zp6 y))
abbrev zp9 := IntKind.i64.wrap ((0 : Int) - (zp7 y))
abbrev zp10 := IntKind.i64.wrap ((0 : Int) - (IntKind.i64.wrap ((y.g 2 0) * (1 : Int))))
def st3F : Nat → Nat → Nat → Int := st3RR y (cpV 4 y.g) (zp1 y) (zp2 y) (IntKind.i64.wrap ((y.h 0 0) * (1 : Int))) (zp3 y) (zp5 y) (zp6 y) (zp7 y) (IntKind.i64.wrap ((y.g 2 0) * (1 : Int))) (zp8 y) (zp9 y) (zp10 y)
noncomputable def st3FK : CallS := bothX kCP (bothX kEF (kAll [c_range, c_rrange, c_index]))
def st3Args : Array Value := #[.slice (some ⟨6, 0, none⟩) 4 y.c, .slice (some ⟨7, 0, none⟩) 3 y.c2, .int .i64 y.x]
def st3S : List MObj := [.rows 4 1 (fun i j => .int .i64 (y.g i j)) y.e y.opn y.sz y.ro, .rows 3 1 (fun i j => .int .i64 (y.h i j)) y.e2 y.opn2 y.sz2 y.ro2]
noncomputable abbrev zp11 := bodyOf Tryz.prog 50
noncomputable abbrev zp12 := startM Tryz.f50 (st3Args y)
abbrev zp13 := st3A y (cpV 4 y.g) (zp1 y) (zp2 y) (IntKind.i64.wrap ((y.h 0 0) * (1 : Int))) (zp3 y) (zp5 y) (zp6 y) (zp7 y) (IntKind.i64.wrap ((y.g 2 0) * (1 : Int))) (zp8 y) (zp9 y) (zp10 y)
abbrev zp14 := st3L y (cpV 4 y.g) (zp1 y) (zp2 y) (IntKind.i64.wrap ((y.h 0 0) * (1 : Int))) (zp3 y) (zp5 y) (zp6 y) (zp7 y) (IntKind.i64.wrap ((y.g 2 0) * (1 : Int))) (zp8 y) (zp9 y) (zp10 y)
abbrev zp15 := st3r2E y (cpV 4 y.g) (zp1 y) (zp2 y) (IntKind.i64.wrap ((y.h 0 0) * (1 : Int))) (zp3 y) (zp5 y) (zp6 y) (zp7 y) (IntKind.i64.wrap ((y.g 2 0) * (1 : Int))) (zp8 y) (zp9 y) (zp10 y)
abbrev zp16 : List MObj := [.rows 4 1 (fun i j => .int .i64 (y.g i j)) y.e y.opn y.sz y.ro, .rows 3 1 (fun i j => .int .i64 (y.h i j)) y.e2 y.opn2 y.sz2 y.ro2, .cells [.int .i64 (cpV 4 y.g), .int .i64 (zp1 y), .int .i64 (zp2 y)] 26 false 0 false, .cells [.int .i64 (IntKind.i64.wrap ((y.h 0 0) * (1 : Int))), .int .i64 (zp3 y), .int .i64 (zp5 y)] 3 false 0 false, .cells [.int .i64 (zp6 y), .int .i64 (zp7 y), .int .i64 (IntKind.i64.wrap ((y.g 2 0) * (1 : Int)))] 155 false 0 false, .cells [.int .i64 (zp8 y), .int .i64 (zp9 y), .int .i64 (zp10 y)] 155 false 0 false]
noncomputable def st3f0 : Option OutCS := evK Tryz.prog st3FK 1000 false zp11 (zp12 y) (wS 6 (st3S y)) ⟨[0, 0, 1, 0, 0, 1, 1, 0, 1, 2, 0, 0, 0, 1, .row 0 0, .row 0 0, .row 3 0, .row 3 0, 0, 0, 1, .row 1 0, .row 1 0, .row 3 0, .row 3 0, 1, 0, 1, 1, .row 2 0, .row 2 0, .row 3 0, .row 3 0, 1, 1, 0, 2, 0, 1, .row 0 0, .row 0 0, .row 3 0, .row 3 0, 1, 1, 0, 0, 1, .row 1 0, .row 1 0, .row 3 0, .row 3 0, 1, 0, 1, 1, .row 2 0, .row 2 0, .row 3 0, .row 3 0, 0, 2, 0, 1, 0, 0, 1, 1, 1, 1, 2, 2, 0, .lp 25769805312 (zp13 y) 6 (zp14 y) (.exit 0) (zp15 y) (zp16 y) 12 4096], True⟩
abbrev zp17 := st3r5E y (cpV 4 y.g) (zp1 y) (zp2 y) (IntKind.i64.wrap ((y.h 0 0) * (1 : Int))) (zp3 y) (zp5 y) (zp6 y) (zp7 y) (IntKind.i64.wrap ((y.g 2 0) * (1 : Int))) (zp8 y) (zp9 y) (zp10 y) mm (mm + 1) (st3F y mm)
abbrev zp18 : List MObj := [.rows 4 1 (fun i j => .int .i64 (y.g i j)) y.e y.opn y.sz y.ro, .rows 3 1 (fun i j => .int .i64 (y.h i j)) y.e2 y.opn2 y.sz2 y.ro2, .cells [.int .i64 (cpV 4 y.g), .int .i64 (zp1 y), .int .i64 (zp2 y)] 26 false 0 false, .cells [.int .i64 (IntKind.i64.wrap ((y.h 0 0) * (1 : Int))), .int .i64 (zp3 y), .int .i64 (zp5 y)] 3 false 0 false, .cells [.int .i64 (zp6 y), .int .i64 (zp7 y), .int .i64 (IntKind.i64.wrap ((y.g 2 0) * (1 : Int)))] 155 false 0 false, .cells [.int .i64 (zp8 y), .int .i64 (zp9 y), .int .i64 (zp10 y)] 155 false 0 false, .rows (mm + 4) 1 (fun i j => .int .i64 ((st3F y mm) i j)) 3 true 1 false]
noncomputable def st3f1 : Option OutCS := evK Tryz.prog st3FK 1000 false zp11 (zp12 y) (wS 6 (st3S y)) ⟨[0, 0, 1, 0, 0, 1, 1, 0, 1, 2, 0, 0, 0, 1, .row 0 0, .row 0 0, .row 3 0, .row 3 0, 0, 0, 1, .row 1 0, .row 1 0, .row 3 0, .row 3 0, 1, 0, 1, 1, .row 2 0, .row 2 0, .row 3 0, .row 3 0, 1, 1, 0, 2, 0, 1, .row 0 0, .row 0 0, .row 3 0, .row 3 0, 1, 1, 0, 0, 1, .row 1 0, .row 1 0, .row 3 0, .row 3 0, 1, 0, 1, 1, .row 2 0, .row 2 0, .row 3 0, .row 3 0, 0, 2, 0, 1, 0, 0, 1, 1, 1, 1, 2, 2, 0, .lp 25769805312 (zp13 y) 6 (zp14 y) (.exit 0) (zp17 y mm) (zp18 y mm) 12 4096], True⟩
abbrev zp19 := st3r1E y (cpV 4 y.g) (zp1 y) (zp2 y) (IntKind.i64.wrap ((y.h 0 0) * (1 : Int))) (zp3 y) (zp5 y) (zp6 y) (zp7 y) (IntKind.i64.wrap ((y.g 2 0) * (1 : Int))) (zp8 y) (zp9 y) (zp10 y)
noncomputable def st3f2 : Option OutCS := evK Tryz.prog st3FK 1000 false zp11 (zp12 y) (wS 6 (st3S y)) ⟨[0, 0, 1, 0, 0, 1, 1, 0, 1, 2, 0, 0, 0, 1, .row 0 0, .row 0 0, .row 3 0, .row 3 0, 0, 0, 1, .row 1 0, .row 1 0, .row 3 0, .row 3 0, 1, 0, 1, 1, .row 2 0, .row 2 0, .row 3 0, .row 3 0, 1, 1, 0, 2, 0, 1, .row 0 0, .row 0 0, .row 3 0, .row 3 0, 1, 1, 0, 0, 1, .row 1 0, .row 1 0, .row 3 0, .row 3 0, 1, 0, 1, 1, .row 2 0, .row 2 0, .row 3 0, .row 3 0, 0, 2, 0, 1, 0, 0, 1, 1, 1, 1, 2, 2, 0, .lp 25769805312 (zp13 y) 6 (zp14 y) .ret (zp19 y) (zp16 y) 12 4096], True⟩
abbrev zp20 := st3r4E y (cpV 4 y.g) (zp1 y) (zp2 y) (IntKind.i64.wrap ((y.h 0 0) * (1 : Int))) (zp3 y) (zp5 y) (zp6 y) (zp7 y) (IntKind.i64.wrap ((y.g 2 0) * (1 : Int))) (zp8 y) (zp9 y) (zp10 y) jj (jj + 1) (st3F y jj)
noncomputable def st3f3 : Option OutCS := evK Tryz.prog st3FK 1000 false zp11 (zp12 y) (wS 6 (st3S y)) ⟨[0, 0, 1, 0, 0, 1, 1, 0, 1, 2, 0, 0, 0, 1, .row 0 0, .row 0 0, .row 3 0, .row 3 0, 0, 0, 1, .row 1 0, .row 1 0, .row 3 0, .row 3 0, 1, 0, 1, 1, .row 2 0, .row 2 0, .row 3 0, .row 3 0, 1, 1, 0, 2, 0, 1, .row 0 0, .row 0 0, .row 3 0, .row 3 0, 1, 1, 0, 0, 1, .row 1 0, .row 1 0, .row 3 0, .row 3 0, 1, 0, 1, 1, .row 2 0, .row 2 0, .row 3 0, .row 3 0, 0, 2, 0, 1, 0, 0, 1, 1, 1, 1, 2, 2, 0, .lp 25769805312 (zp13 y) 6 (zp14 y) .ret (zp20 y jj) (zp16 y) 12 4096], True⟩
noncomputable def st3f4 : Option OutCS := evK Tryz.prog st3FK 1000 false zp11 (zp12 y) (wS 6 (st3S y)) ⟨[0, 0, 1, 0, 0, 1, 1, 0, 1, 2, 1, 1], True⟩
noncomputable def st3f5 : Option OutCS := evK Tryz.prog st3FK 1000 false zp11 (zp12 y) (wS 6 (st3S y)) ⟨[0, 0, 1, 0, 0, 1, 1, 1, 1], True⟩
noncomputable def st3f6 : Option OutCS := evK Tryz.prog st3FK 1000 false zp11 (zp12 y) (wS 6 (st3S y)) ⟨[0, 0, 1, 0, 1, 1], True⟩
theorem st3_go (hi : ((i : Nat) : Int) < y.x) (hb : i ≤ 1000) (h1 : Pl.cr (st3EE y a0 a1 a2 v0 v1 v2 u0 u1 u2 w0 w1 w2 i) (-1073741824 : Int) (1073741824 : Int) = 0) : KC Tryz.prog none st3X (st3AA y a0 a1 a2 v0 v1 v2 u0 u1 u2 w0 w1 w2 i).act (wS 6 (st3LL y a0 a1 a2 v0 v1 v2 u0 u1 u2 w0 w1 w2 i)) .normal (st3AA y a0 a1 a2 v0 v1 v2 u0 u1 u2 w0 w1 w2 (i + 1)).act (wS 6 (st3LL y a0 a1 a2 v0 v1 v2 u0 u1 u2 w0 w1 w2 (i + 1))) 12 4096 := by
  cases i with
  | zero => exact st3r0_k y a0 a1 a2 v0 v1 v2 u0 u1 u2 w0 w1 w2 hi h1
  | succ q => exact st3r3_k y a0 a1 a2 v0 v1 v2 u0 u1 u2 w0 w1 w2 q (q + 1) (st3RR y a0 a1 a2 v0 v1 v2 u0 u1 u2 w0 w1 w2 q) rfl (by omega) hi h1
abbrev zp21 := wS 6 [.rows 4 1 (fun i j => .int .i64 (y.g i j)) y.e y.opn y.sz y.ro, .rows 3 1 (fun i j => .int .i64 (y.h i j)) y.e2 y.opn2 y.sz2 y.ro2, .cells [.int .i64 a0, .int .i64 a1, .int .i64 a2] 26 false 0 false, .cells [.int .i64 v0, .int .i64 v1, .int .i64 v2] 3 false 0 false, .cells [.int .i64 u0, .int .i64 u1, .int .i64 u2] 155 false 0 false, .cells [.int .i64 w0, .int .i64 w1, .int .i64 w2] 155 false 0 false]
theorem st3_l0 (hz : ¬ (0 : Int) < y.x) : KC Tryz.prog none (.loop st3X) (st3A y a0 a1 a2 v0 v1 v2 u0 u1 u2 w0 w1 w2).act (wS 6 (st3L y a0 a1 a2 v0 v1 v2 u0 u1 u2 w0 w1 w2)) (.exit 0) (st3r2E y a0 a1 a2 v0 v1 v2 u0 u1 u2 w0 w1 w2).act (zp21 y a0 a1 a2 v0 v1 v2 u0 u1 u2 w0 w1 w2) 12 4096 :=
  K_rounds (A := fun i => (st3AA y a0 a1 a2 v0 v1 v2 u0 u1 u2 w0 w1 w2 i).act) (S := fun i => wS 6 (st3LL y a0 a1 a2 v0 v1 v2 u0 u1 u2 w0 w1 w2 i)) 0 (fun i hi => absurd hi (Nat.not_lt_zero i)) (st3r2_k y a0 a1 a2 v0 v1 v2 u0 u1 u2 w0 w1 w2 hz) (by simp)
theorem st3_l1 (hm : y.x = ((mm + 1 : Nat) : Int)) (hb : mm ≤ 900) (h1 : ∀ i, i < mm + 1 → Pl.cr (st3EE y a0 a1 a2 v0 v1 v2 u0 u1 u2 w0 w1 w2 i) (-1073741824 : Int) (1073741824 : Int) = 0) : KC Tryz.prog none (.loop st3X) (st3A y a0 a1 a2 v0 v1 v2 u0 u1 u2 w0 w1 w2).act (wS 6 (st3L y a0 a1 a2 v0 v1 v2 u0 u1 u2 w0 w1 w2)) (.exit 0) (st3r5E y a0 a1 a2 v0 v1 v2 u0 u1 u2 w0 w1 w2 mm (mm + 1) (st3RR y a0 a1 a2 v0 v1 v2 u0 u1 u2 w0 w1 w2 mm)).act (wS 6 [.rows 4 1 (fun i j => .int .i64 (y.g i j)) y.e y.opn y.sz y.ro, .rows 3 1 (fun i j => .int .i64 (y.h i j)) y.e2 y.opn2 y.sz2 y.ro2, .cells [.int .i64 a0, .int .i64 a1, .int .i64 a2] 26 false 0 false, .cells [.int .i64 v0, .int .i64 v1, .int .i64 v2] 3 false 0 false, .cells [.int .i64 u0, .int .i64 u1, .int .i64 u2] 155 false 0 false, .cells [.int .i64 w0, .int .i64 w1, .int .i64 w2] 155 false 0 false, .rows (mm + 4) 1 (fun i j => .int .i64 ((st3RR y a0 a1 a2 v0 v1 v2 u0 u1 u2 w0 w1 w2 mm) i j)) 3 true 1 false]) 12 4096 :=
  K_rounds (A := fun i => (st3AA y a0 a1 a2 v0 v1 v2 u0 u1 u2 w0 w1 w2 i).act) (S := fun i => wS 6 (st3LL y a0 a1 a2 v0 v1 v2 u0 u1 u2 w0 w1 w2 i)) (mm + 1) (fun i hi => st3_go y a0 a1 a2 v0 v1 v2 u0 u1 u2 w0 w1 w2 i (by omega) (by omega) (h1 i hi)) (st3r5_k y a0 a1 a2 v0 v1 v2 u0 u1 u2 w0 w1 w2 mm (mm + 1) (st3RR y a0 a1 a2 v0 v1 v2 u0 u1 u2 w0 w1 w2 mm) rfl (by omega) (by omega)) (by simp)
theorem st3_b0 (hz : (0 : Int) < y.x) (h2 : Pl.cr (st3EE y a0 a1 a2 v0 v1 v2 u0 u1 u2 w0 w1 w2 0) (-1073741824 : Int) (1073741824 : Int) ≠ 0) : KC Tryz.prog none (.loop st3X) (st3A y a0 a1 a2 v0 v1 v2 u0 u1 u2 w0 w1 w2).act (wS 6 (st3L y a0 a1 a2 v0 v1 v2 u0 u1 u2 w0 w1 w2)) .ret (st3r1E y a0 a1 a2 v0 v1 v2 u0 u1 u2 w0 w1 w2).act (zp21 y a0 a1 a2 v0 v1 v2 u0 u1 u2 w0 w1 w2) 12 4096 :=
  K_rounds (A := fun i => (st3AA y a0 a1 a2 v0 v1 v2 u0 u1 u2 w0 w1 w2 i).act) (S := fun i => wS 6 (st3LL y a0 a1 a2 v0 v1 v2 u0 u1 u2 w0 w1 w2 i)) 0 (fun i hi => absurd hi (Nat.not_lt_zero i)) (st3r1_k y a0 a1 a2 v0 v1 v2 u0 u1 u2 w0 w1 w2 hz h2) (by simp)
theorem st3_b1 (hj : ((jj + 1 : Nat) : Int) < y.x) (hb : jj ≤ 900) (h1 : ∀ i, i < jj + 1 → Pl.cr (st3EE y a0 a1 a2 v0 v1 v2 u0 u1 u2 w0 w1 w2 i) (-1073741824 : Int) (1073741824 : Int) = 0) (h2 : Pl.cr (st3EE y a0 a1 a2 v0 v1 v2 u0 u1 u2 w0 w1 w2 (jj + 1)) (-1073741824 : Int) (1073741824 : Int) ≠ 0) : KC Tryz.prog none (.loop st3X) (st3A y a0 a1 a2 v0 v1 v2 u0 u1 u2 w0 w1 w2).act (wS 6 (st3L y a0 a1 a2 v0 v1 v2 u0 u1 u2 w0 w1 w2)) .ret (st3r4E y a0 a1 a2 v0 v1 v2 u0 u1 u2 w0 w1 w2 jj (jj + 1) (st3RR y a0 a1 a2 v0 v1 v2 u0 u1 u2 w0 w1 w2 jj)).act (zp21 y a0 a1 a2 v0 v1 v2 u0 u1 u2 w0 w1 w2) 12 4096 :=
  K_rounds (A := fun i => (st3AA y a0 a1 a2 v0 v1 v2 u0 u1 u2 w0 w1 w2 i).act) (S := fun i => wS 6 (st3LL y a0 a1 a2 v0 v1 v2 u0 u1 u2 w0 w1 w2 i)) (jj + 1) (fun i hi => st3_go y a0 a1 a2 v0 v1 v2 u0 u1 u2 w0 w1 w2 i (by omega) (by omega) (h1 i hi)) (st3r4_k y a0 a1 a2 v0 v1 v2 u0 u1 u2 w0 w1 w2 jj (jj + 1) (st3RR y a0 a1 a2 v0 v1 v2 u0 u1 u2 w0 w1 w2 jj) rfl (by omega) hj h2) (by simp)
theorem st3FK_ok : FOkS Tryz.prog st3FK := bothX_ok kCP_ok (bothX_ok kEF_ok (kAll_ok _ ⟨k_range, k_rrange, k_index, trivial⟩))
abbrev zp22 : List MObj := [.cells [.int .i64 (IntKind.i64.wrap ((y.h 0 0) * (1 : Int))), .int .i64 (zp3 y), .int .i64 (zp5 y)] 3 false 0 false]
abbrev zp23 := (((4 : Nat)) : Int) - (1 : Int)
abbrev zp24 := (decide ((0 : Int) < (((3 : Nat)) : Int))) = true
abbrev zp25 := (0 : Int) = (Int.ofNat 0)
abbrev zp26 := ((((((True ∧ (((4 = 4) ∧ (∀ (i : Nat), ((i < (4 : Nat)) → (∀ (j : Nat), ((j < (1 : Nat)) → ((Value.int .i64 (y.g i j)) = (Value.int .i64 (gI (Value.int .i64 (y.g i j)))))))))) ∧ ((((4 : Nat)) : Int) ≤ (9223372036854775807 : Int)))) ∧ (((IntKind.i64.wrap zp23) == (0 : Int)) = false)) ∧ (((((3 : Nat)) : Int) != (IntKind.i64.wrap zp23)) = false)) ∧ (((3 = 3) ∧ (∀ (i : Nat), ((i < (3 : Nat)) → (∀ (j : Nat), ((j < (1 : Nat)) → ((Value.int .i64 (y.h i j)) = (Value.int .i64 (gI (Value.int .i64 (y.h i j)))))))))) ∧ ((((3 : Nat)) : Int) ≤ (9223372036854775807 : Int)))) ∧ True) ∧ zp24) ∧ zp25
abbrev zp27 := (cpV (4 : Nat) (fun (i : Nat) => (fun (j : Nat) => (gI (Value.int .i64 (y.g i j)))))) != (0 : Int)
abbrev zp28 := (decide ((IntKind.i64.wrap ((0 : Int) + (1 : Int))) < (((3 : Nat)) : Int))) = true
abbrev zp29 := (IntKind.i64.wrap ((0 : Int) + (1 : Int))) = (Int.ofNat 1)
abbrev zp30 := (((zp26 y) ∧ ((zp27 y) = false)) ∧ zp28) ∧ zp29
abbrev zp31 := (feN (fun (i : Nat) => (Pl.cr (gI (Value.int .i64 (y.h i 0))) (- (1000 : Int)) (1000 : Int))) (3 : Nat) (0 : Nat)) != (0 : Int)
abbrev zp32 := IntKind.i64.wrap ((IntKind.i64.wrap ((0 : Int) + (1 : Int))) + (1 : Int))
abbrev zp33 := (decide (zp32 < (((3 : Nat)) : Int))) = true
abbrev zp34 := zp32 = (Int.ofNat 2)
abbrev zp35 := (((zp30 y) ∧ ((zp31 y) = false)) ∧ zp33) ∧ zp34
abbrev zp36 := (zp2 y) != (0 : Int)
abbrev zp37 := IntKind.i64.wrap (zp32 + (1 : Int))
abbrev zp38 := (decide (zp37 < (((3 : Nat)) : Int))) = false
abbrev zp39 := (0 : Int) = (Int.ofNat (0 : Nat))
abbrev zp40 := ((IntKind.i64.wrap zp23) = (Int.ofNat (3 : Nat))) ∧ ((3 : Nat) < (4 : Nat))
abbrev zp41 := (3 = 3) ∧ ((3 : Nat) < (4 : Nat))
abbrev zp42 := (IntKind.i64.wrap ((0 : Int) + (1 : Int))) = (Int.ofNat (1 : Nat))
abbrev zp43 := zp32 = (Int.ofNat (2 : Nat))
abbrev zp44 := IntKind.i64.wrap ((IntKind.i64.wrap ((IntKind.i64.wrap zp23) - (0 : Int))) - (1 : Int))
abbrev zp45 := IntKind.i64.wrap ((IntKind.i64.wrap ((IntKind.i64.wrap zp23) - (IntKind.i64.wrap ((0 : Int) + (1 : Int))))) - (1 : Int))
abbrev zp46 := (((((((((((((((((((((((((((((((((((((((((((((((((((((((((((((((zp35 y) ∧ ((zp36 y) = false)) ∧ zp38) ∧ (((0 : Int) != (0 : Int)) = false)) ∧ zp24) ∧ (zp39 ∧ ((0 : Nat) < (3 : Nat)))) ∧ ((0 = 0) ∧ ((0 : Nat) < (3 : Nat)))) ∧ zp40) ∧ zp41) ∧ ((decide ((0 : Int) < (0 : Int))) = false)) ∧ zp25) ∧ zp28) ∧ (zp42 ∧ ((1 : Nat) < (3 : Nat)))) ∧ ((1 = 1) ∧ ((1 : Nat) < (3 : Nat)))) ∧ zp40) ∧ zp41) ∧ ((decide ((0 : Int) < (IntKind.i64.wrap ((0 : Int) + (1 : Int))))) = true)) ∧ ((decide ((IntKind.i64.wrap ((0 : Int) + (1 : Int))) < (IntKind.i64.wrap ((0 : Int) + (1 : Int))))) = false)) ∧ zp29) ∧ zp33) ∧ (zp43 ∧ ((2 : Nat) < (3 : Nat)))) ∧ ((2 = 2) ∧ ((2 : Nat) < (3 : Nat)))) ∧ zp40) ∧ zp41) ∧ ((decide ((0 : Int) < zp32)) = true)) ∧ ((decide ((IntKind.i64.wrap ((0 : Int) + (1 : Int))) < zp32)) = true)) ∧ ((decide (zp32 < zp32)) = false)) ∧ zp34) ∧ zp38) ∧ ((decide ((0 : Int) < (IntKind.i64.wrap zp23))) = true)) ∧ (zp39 ∧ ((0 : Nat) < (4 : Nat)))) ∧ ((0 = 0) ∧ ((0 : Nat) < (4 : Nat)))) ∧ zp40) ∧ zp41) ∧ ((decide ((0 : Int) < zp44)) = true)) ∧ ((decide ((IntKind.i64.wrap ((0 : Int) + (1 : Int))) < zp44)) = true)) ∧ ((decide (zp32 < zp44)) = false)) ∧ zp25) ∧ ((decide ((IntKind.i64.wrap ((0 : Int) + (1 : Int))) < (IntKind.i64.wrap zp23))) = true)) ∧ (zp42 ∧ ((1 : Nat) < (4 : Nat)))) ∧ ((1 = 1) ∧ ((1 : Nat) < (4 : Nat)))) ∧ zp40) ∧ zp41) ∧ ((decide ((0 : Int) < zp45)) = true)) ∧ ((decide ((IntKind.i64.wrap ((0 : Int) + (1 : Int))) < zp45)) = false)) ∧ zp29) ∧ ((decide (zp32 < (IntKind.i64.wrap zp23))) = true)) ∧ (zp43 ∧ ((2 : Nat) < (4 : Nat)))) ∧ ((2 = 2) ∧ ((2 : Nat) < (4 : Nat)))) ∧ zp40) ∧ zp41) ∧ ((decide ((0 : Int) < (IntKind.i64.wrap ((IntKind.i64.wrap ((IntKind.i64.wrap zp23) - zp32)) - (1 : Int))))) = false)) ∧ zp34) ∧ ((decide (zp37 < (IntKind.i64.wrap zp23))) = false)) ∧ zp24) ∧ zp25) ∧ zp25) ∧ zp28) ∧ zp29) ∧ zp29) ∧ zp33) ∧ zp34) ∧ zp34) ∧ zp38
abbrev zp47 := feN (fun (i : Nat) => (Pl.cr (y.h i 0) (- (1000 : Int)) (1000 : Int))) (3 : Nat) (0 : Nat)
abbrev zp48 := st3A y (cpV (4 : Nat) y.g) (zp47 y) (zp2 y) (IntKind.i64.wrap ((y.h 0 0) * (1 : Int))) (zp3 y) (zp5 y) (zp6 y) (zp7 y) (IntKind.i64.wrap ((y.g 2 0) * (1 : Int))) (zp8 y) (zp9 y) (zp10 y)
abbrev zp49 := HAppend.hAppend (List.replicate (6 : Nat) MObj.hole) (st3L y (cpV (4 : Nat) y.g) (zp47 y) (zp2 y) (IntKind.i64.wrap ((y.h 0 0) * (1 : Int))) (zp3 y) (zp5 y) (zp6 y) (zp7 y) (IntKind.i64.wrap ((y.g 2 0) * (1 : Int))) (zp8 y) (zp9 y) (zp10 y))
abbrev zp50 := ((zp48 y) = (zp48 y)) ∧ ((12 = (6 + 6)) ∧ ((zp49 y) = (zp49 y)))
abbrev zp51 := wS 6 (zp14 y)
abbrev zp52 := wS 6 (zp16 y)
theorem st3f0_eq : seenF' Tryz.prog Tryz.f50 6 2 [9] (st3f0 y) = some (.tuple #[.slice (some ⟨8, 0, none⟩) 3 3, .int .i64 (0 : Int)], st3S y ++ (zp22 y), ⟨[], ((zp46 y) ∧ ((zp50 y) ∧ KC Tryz.prog none (.loop st3X) (zp13 y).act (zp51 y) (.exit 0) (zp15 y).act (zp52 y) 12 4096))⟩) := by kernel_rfl
theorem st3f0_s (h0 : (cpV 4 y.g) = (0 : Int)) (h1 : (zp1 y) = (0 : Int)) (h2 : (zp2 y) = (0 : Int)) (l0 : KC Tryz.prog none (.loop st3X) (zp13 y).act (zp51 y) (.exit 0) (zp15 y).act (zp52 y) 12 4096) : SndF Tryz.prog 50 (st3Args y) (wS 6 (st3S y)) (.tuple #[.slice (some ⟨8, 0, none⟩) 3 3, .int .i64 (0 : Int)]) (wS 6 (st3S y ++ (zp22 y))) 192 0 :=
  kF (L := st3S y) (L2 := (zp22 y)) (ms := [9]) st3FK_ok (st3f0_eq y) kq
abbrev zp53 : List MObj := [.rows (mm + 4) 1 (fun i j => .int .i64 ((st3F y mm) i j)) 3 true 1 false]
abbrev zp54 := wS 6 (zp18 y mm)
theorem st3f1_eq : seenF' Tryz.prog Tryz.f50 6 2 [12] (st3f1 y mm) = some (.tuple #[.slice (some ⟨8, 0, none⟩) (mm + 4) (mm + 4), .int .i64 (0 : Int)], st3S y ++ (zp53 y mm), ⟨[], ((zp46 y) ∧ ((zp50 y) ∧ KC Tryz.prog none (.loop st3X) (zp13 y).act (zp51 y) (.exit 0) (zp17 y mm).act (zp54 y mm) 12 4096))⟩) := by kernel_rfl
theorem st3f1_s (h0 : (cpV 4 y.g) = (0 : Int)) (h1 : (zp1 y) = (0 : Int)) (h2 : (zp2 y) = (0 : Int)) (l0 : KC Tryz.prog none (.loop st3X) (zp13 y).act (zp51 y) (.exit 0) (zp17 y mm).act (zp54 y mm) 12 4096) : SndF Tryz.prog 50 (st3Args y) (wS 6 (st3S y)) (.tuple #[.slice (some ⟨8, 0, none⟩) (mm + 4) (mm + 4), .int .i64 (0 : Int)]) (wS 6 (st3S y ++ (zp53 y mm))) 192 0 :=
  kF (L := st3S y) (L2 := (zp53 y mm)) (ms := [12]) st3FK_ok (st3f1_eq y mm) kq
theorem st3f2_eq : seenF' Tryz.prog Tryz.f50 6 2 [] (st3f2 y) = some (.tuple #[.slice none 0 0, .int .i64 (4 : Int)], st3S y ++ [], ⟨[], ((zp46 y) ∧ ((zp50 y) ∧ KC Tryz.prog none (.loop st3X) (zp13 y).act (zp51 y) .ret (zp19 y).act (zp52 y) 12 4096))⟩) := by kernel_rfl
theorem st3f2_s (h0 : (cpV 4 y.g) = (0 : Int)) (h1 : (zp1 y) = (0 : Int)) (h2 : (zp2 y) = (0 : Int)) (l0 : KC Tryz.prog none (.loop st3X) (zp13 y).act (zp51 y) .ret (zp19 y).act (zp52 y) 12 4096) : SndF Tryz.prog 50 (st3Args y) (wS 6 (st3S y)) (.tuple #[.slice none 0 0, .int .i64 (4 : Int)]) (wS 6 (st3S y)) 192 0 :=
  kF (L := st3S y) (L2 := []) (ms := []) st3FK_ok (st3f2_eq y) kq
theorem st3f3_eq : seenF' Tryz.prog Tryz.f50 6 2 [] (st3f3 y jj) = some (.tuple #[.slice none 0 0, .int .i64 (4 : Int)], st3S y ++ [], ⟨[], ((zp46 y) ∧ ((zp50 y) ∧ KC Tryz.prog none (.loop st3X) (zp13 y).act (zp51 y) .ret (zp20 y jj).act (zp52 y) 12 4096))⟩) := by kernel_rfl
theorem st3f3_s (h0 : (cpV 4 y.g) = (0 : Int)) (h1 : (zp1 y) = (0 : Int)) (h2 : (zp2 y) = (0 : Int)) (l0 : KC Tryz.prog none (.loop st3X) (zp13 y).act (zp51 y) .ret (zp20 y jj).act (zp52 y) 12 4096) : SndF Tryz.prog 50 (st3Args y) (wS 6 (st3S y)) (.tuple #[.slice none 0 0, .int .i64 (4 : Int)]) (wS 6 (st3S y)) 192 0 :=
  kF (L := st3S y) (L2 := []) (ms := []) st3FK_ok (st3f3_eq y jj) kq
abbrev zp55 := (zp36 y) = true
theorem st3f4_eq : seenF' Tryz.prog Tryz.f50 6 2 [] (st3f4 y) = some (.tuple #[.slice none 0 0, .int .i64 (zp2 y)], st3S y ++ [], ⟨[], (((zp35 y) ∧ (zp55 y)) ∧ (zp55 y))⟩) := by kernel_rfl
theorem st3f4_s (h0 : (cpV 4 y.g) = (0 : Int)) (h1 : (zp1 y) = (0 : Int)) (h2 : (zp2 y) ≠ (0 : Int)) : SndF Tryz.prog 50 (st3Args y) (wS 6 (st3S y)) (.tuple #[.slice none 0 0, .int .i64 (zp2 y)]) (wS 6 (st3S y)) 192 0 :=
  kF (L := st3S y) (L2 := []) (ms := []) st3FK_ok (st3f4_eq y) kq
abbrev zp56 := (zp31 y) = true
theorem st3f5_eq : seenF' Tryz.prog Tryz.f50 6 2 [] (st3f5 y) = some (.tuple #[.slice none 0 0, .int .i64 (zp1 y)], st3S y ++ [], ⟨[], (((zp30 y) ∧ (zp56 y)) ∧ (zp56 y))⟩) := by kernel_rfl
theorem st3f5_s (h0 : (cpV 4 y.g) = (0 : Int)) (h1 : (zp1 y) ≠ (0 : Int)) : SndF Tryz.prog 50 (st3Args y) (wS 6 (st3S y)) (.tuple #[.slice none 0 0, .int .i64 (zp1 y)]) (wS 6 (st3S y)) 192 0 :=
  kF (L := st3S y) (L2 := []) (ms := []) st3FK_ok (st3f5_eq y) kq
abbrev zp57 := (zp27 y) = true
theorem st3f6_eq : seenF' Tryz.prog Tryz.f50 6 2 [] (st3f6 y) = some (.tuple #[.slice none 0 0, .int .i64 (cpV 4 y.g)], st3S y ++ [], ⟨[], (((zp26 y) ∧ (zp57 y)) ∧ (zp57 y))⟩) := by kernel_rfl
theorem st3f6_s (h0 : (cpV 4 y.g) ≠ (0 : Int)) : SndF Tryz.prog 50 (st3Args y) (wS 6 (st3S y)) (.tuple #[.slice none 0 0, .int .i64 (cpV 4 y.g)]) (wS 6 (st3S y)) 192 0 :=
  kF (L := st3S y) (L2 := []) (ms := []) st3FK_ok (st3f6_eq y) kq
end
end Go.Proofs.YtbkpnhbcihcgaaaGreatDoor
end
section
set_option linter.all false
set_option maxRecDepth 1000000
open Go.RowKit
namespace Go.Proofs.YtbkpnhbcihcgaaaGreatDoor
open Mini
noncomputable section
variable (y : SV) (a0 : Int) (a1 : Int) (g3 : GI) (m11 : Nat) (i12 : Nat)
noncomputable def rt3X : Code := loopAt Tryz.prog 52 0
noncomputable def rt3K : CallS := kAll [c_range, c_rrange, c_index]
def rt3A (a0 : Int) (a1 : Int) : MA := MA.ofL 102 (jl [.slice (some ⟨6, 0, none⟩) 4 y.c, .slice (some ⟨7, 0, none⟩) 3 y.c2, .int .i64 y.x] 6 (jl [.int .i64 (3 : Int), .chan none, .slice none 0 0, .int .i64 (0 : Int)] 89 [])) []
abbrev zl0 : List MObj := [.rows 4 1 (fun i j => .int .i64 (y.g i j)) y.e y.opn y.sz y.ro, .rows 3 1 (fun i j => .int .i64 (y.h i j)) y.e2 y.opn2 y.sz2 y.ro2, .cells [.int .i64 a0, .int .i64 a1] 3 false 0 false]
def rt3L : List MObj := (zl0 y a0 a1)
def rt3A1 (a0 : Int) (a1 : Int) (g3 : GI) : MA := MA.ofL 102 (jl [.slice (some ⟨6, 0, none⟩) 4 y.c, .slice (some ⟨7, 0, none⟩) 3 y.c2, .int .i64 y.x] 6 (jl [.int .i64 (3 : Int), .chan none, .slice (some ⟨9, 0, none⟩) 1 1, .int .i64 (1 : Int)] 89 [])) []
abbrev zl1 : List MObj := [.rows 4 1 (fun i j => .int .i64 (y.g i j)) y.e y.opn y.sz y.ro, .rows 3 1 (fun i j => .int .i64 (y.h i j)) y.e2 y.opn2 y.sz2 y.ro2, .cells [.int .i64 a0, .int .i64 a1] 3 false 0 false, .rows 1 1 (fun i j => .int .i64 (g3 i j)) 3 true 1 false]
def rt3L1 : List MObj := (zl1 y a0 a1 g3)
def rt3A2 (a0 : Int) (a1 : Int) (g3 : GI) : MA := MA.ofL 102 (jl [.slice (some ⟨6, 0, none⟩) 4 y.c, .slice (some ⟨7, 0, none⟩) 3 y.c2, .int .i64 y.x] 6 (jl [.int .i64 (3 : Int), .chan none, .slice (some ⟨9, 0, none⟩) 2 2, .int .i64 (2 : Int)] 89 [])) []
abbrev zl2 : List MObj := [.rows 4 1 (fun i j => .int .i64 (y.g i j)) y.e y.opn y.sz y.ro, .rows 3 1 (fun i j => .int .i64 (y.h i j)) y.e2 y.opn2 y.sz2 y.ro2, .cells [.int .i64 a0, .int .i64 a1] 3 false 0 false, .rows 2 1 (fun i j => .int .i64 (g3 i j)) 3 true 1 false]
def rt3L2 : List MObj := (zl2 y a0 a1 g3)
def rt3A3 (a0 : Int) (a1 : Int) (g3 : GI) : MA := MA.ofL 102 (jl [.slice (some ⟨6, 0, none⟩) 4 y.c, .slice (some ⟨7, 0, none⟩) 3 y.c2, .int .i64 y.x] 6 (jl [.int .i64 (3 : Int), .chan none, .slice (some ⟨9, 0, none⟩) 3 3, .int .i64 (3 : Int)] 89 [])) []
abbrev zl3 : List MObj := [.rows 4 1 (fun i j => .int .i64 (y.g i j)) y.e y.opn y.sz y.ro, .rows 3 1 (fun i j => .int .i64 (y.h i j)) y.e2 y.opn2 y.sz2 y.ro2, .cells [.int .i64 a0, .int .i64 a1] 3 false 0 false, .rows 3 1 (fun i j => .int .i64 (g3 i j)) 3 true 1 false]
def rt3L3 : List MObj := (zl3 y a0 a1 g3)
def rt3A4 (a0 : Int) (a1 : Int) (g3 : GI) (m11 : Nat) (i12 : Nat) : MA := MA.ofL 102 (jl [.slice (some ⟨6, 0, none⟩) 4 y.c, .slice (some ⟨7, 0, none⟩) 3 y.c2, .int .i64 y.x] 6 (jl [.int .i64 (3 : Int), .chan none, .slice (some ⟨9, 0, none⟩) (m11 + 4) (m11 + 4), .int .i64 ((i12 + 4 : Nat) : Int)] 89 [])) []
abbrev zl4 : List MObj := [.rows 4 1 (fun i j => .int .i64 (y.g i j)) y.e y.opn y.sz y.ro, .rows 3 1 (fun i j => .int .i64 (y.h i j)) y.e2 y.opn2 y.sz2 y.ro2, .cells [.int .i64 a0, .int .i64 a1] 3 false 0 false, .rows (m11 + 4) 1 (fun i j => .int .i64 (g3 i j)) 3 true 1 false]
def rt3L4 (i12 : Nat) : List MObj := (zl4 y a0 a1 g3 m11)
noncomputable def rt3r0 : Option OutCS := evK Tryz.prog rt3K 1000 false rt3X (rt3A y a0 a1) (wS 6 (rt3L y a0 a1)) ⟨[1, 1, .row 0 0, .row 0 0, .row 3 0, .row 3 0, 0, 1, 1, 1, 1, 0, 0], True⟩
abbrev zl5 := jl [] 6 (jl [.slice none 0 0, .int .i64 (4 : Int)] 94 [])
noncomputable def rt3r3 : Option OutCS := evK Tryz.prog rt3K 1000 false rt3X (rt3A1 y a0 a1 g3) (wS 6 (rt3L1 y a0 a1 g3)) ⟨[1, 1, .row 1 0, .row 1 0, .row 3 0, .row 3 0, 1, 0, 1, 1, 1, 1, 0, 0, .row 0 0], True⟩
noncomputable def rt3r6 : Option OutCS := evK Tryz.prog rt3K 1000 false rt3X (rt3A2 y a0 a1 g3) (wS 6 (rt3L2 y a0 a1 g3)) ⟨[1, 1, .row 2 0, .row 2 0, .row 3 0, .row 3 0, 1, 1, 0, 1, 1, 1, 1, 0, 0, .row 0 0], True⟩
noncomputable def rt3r9 : Option OutCS := evK Tryz.prog rt3K 1000 false rt3X (rt3A3 y a0 a1 g3) (wS 6 (rt3L3 y a0 a1 g3)) ⟨[1, 0, 1, 1, 1, 1, 1, .row 0 0, .row 0 0, .row 0 0, .row 0 0, .row 3 0, .row 3 0, 1, 1, 0, 1, 1, 1, 1, 1, .row 1 0, .row 1 0, .row 1 0, .row 1 0, .row 3 0, .row 3 0, 1, 0, 1, 1, 1, 1, 1, .row 2 0, .row 2 0, .row 2 0, .row 2 0, .row 3 0, .row 3 0, 0, 0, 0, 0, 0, 0, 0, .row 0 0], True⟩
noncomputable def rt3r10 : Option OutCS := evK Tryz.prog rt3K 1000 false rt3X (rt3A3 y a0 a1 g3) (wS 6 (rt3L3 y a0 a1 g3)) ⟨[1, 0, 1, 1, 1, 1, 1, .row 0 0, .row 0 0, .row 0 0, .row 0 0, .row 3 0, .row 3 0, 1, 1, 0, 1, 1, 1, 1, 1, .row 1 0, .row 1 0, .row 1 0, .row 1 0, .row 3 0, .row 3 0, 1, 0, 1, 1, 1, 1, 1, .row 2 0, .row 2 0, .row 2 0, .row 2 0, .row 3 0, .row 3 0, 0, 0, 0, 0, 0, 0, 1], True⟩
def rt3r10E (y : SV) (a0 : Int) (a1 : Int) (g3 : GI) : MA := MA.ofL 102 zl5 []
noncomputable def rt3r11 : Option OutCS := evK Tryz.prog rt3K 1000 false rt3X (rt3A3 y a0 a1 g3) (wS 6 (rt3L3 y a0 a1 g3)) ⟨[0], True⟩
def rt3r11E (y : SV) (a0 : Int) (a1 : Int) (g3 : GI) : MA := MA.ofL 102 (jl [] 11 (jl [.slice (some ⟨9, 0, none⟩) 3 3] 90 [])) []
noncomputable def rt3r12 : Option OutCS := evK Tryz.prog rt3K 1000 false rt3X (rt3A4 y a0 a1 g3 m11 i12) (wS 6 (rt3L4 y a0 a1 g3 m11 i12)) ⟨[1, 0, 1, 1, 1, 1, 1, .row 0 0, .row 0 0, .azz (.int .i64 ((i12 + 1 : Nat) : Int)), .azz (.int .i64 ((i12 + 1 : Nat) : Int)), .row (i12 + 1) 0, .row (i12 + 1) 0, .row 3 0, .row 3 0, 1, 1, 0, 1, 1, 1, 1, 1, .row 1 0, .row 1 0, .azz (.int .i64 ((i12 + 1 : Nat) : Int)), .azz (.int .i64 ((i12 + 2 : Nat) : Int)), .row (i12 + 2) 0, .row (i12 + 2) 0, .row 3 0, .row 3 0, 1, 0, 1, 1, 1, 1, 1, .row 2 0, .row 2 0, .azz (.int .i64 ((i12 + 1 : Nat) : Int)), .azz (.int .i64 ((i12 + 3 : Nat) : Int)), .row (i12 + 3) 0, .row (i12 + 3) 0, .row 3 0, .row 3 0, 0, 0, 0, 0, 0, 0, 0, .row 0 0, .azz (.int .i64 ((i12 + 5 : Nat) : Int))], True⟩
noncomputable def rt3r13 : Option OutCS := evK Tryz.prog rt3K 1000 false rt3X (rt3A4 y a0 a1 g3 m11 i12) (wS 6 (rt3L4 y a0 a1 g3 m11 i12)) ⟨[1, 0, 1, 1, 1, 1, 1, .row 0 0, .row 0 0, .azz (.int .i64 ((i12 + 1 : Nat) : Int)), .azz (.int .i64 ((i12 + 1 : Nat) : Int)), .row (i12 + 1) 0, .row (i12 + 1) 0, .row 3 0, .row 3 0, 1, 1, 0, 1, 1, 1, 1, 1, .row 1 0, .row 1 0, .azz (.int .i64 ((i12 + 1 : Nat) : Int)), .azz (.int .i64 ((i12 + 2 : Nat) : Int)), .row (i12 + 2) 0, .row (i12 + 2) 0, .row 3 0, .row 3 0, 1, 0, 1, 1, 1, 1, 1, .row 2 0, .row 2 0, .azz (.int .i64 ((i12 + 1 : Nat) : Int)), .azz (.int .i64 ((i12 + 3 : Nat) : Int)), .row (i12 + 3) 0, .row (i12 + 3) 0, .row 3 0, .row 3 0, 0, 0, 0, 0, 0, 0, 1], True⟩
def rt3r13E (y : SV) (a0 : Int) (a1 : Int) (g3 : GI) (m11 : Nat) (i12 : Nat) : MA := MA.ofL 102 zl5 []
noncomputable def rt3r14 : Option OutCS := evK Tryz.prog rt3K 1000 false rt3X (rt3A4 y a0 a1 g3 m11 i12) (wS 6 (rt3L4 y a0 a1 g3 m11 i12)) ⟨[0], True⟩
def rt3r14E (y : SV) (a0 : Int) (a1 : Int) (g3 : GI) (m11 : Nat) (i12 : Nat) : MA := MA.ofL 102 (jl [] 11 (jl [.slice (some ⟨9, 0, none⟩) (m11 + 4) (m11 + 4)] 90 [])) []
theorem rt3K_ok : FOkS Tryz.prog rt3K := kAll_ok _ ⟨k_range, k_rrange, k_index, trivial⟩
abbrev zl6 := fun i j => ([(IntKind.i64.wrap ((y.h 0 0) * (1 : Int)))] : List Int).getD (i * 1 + j) 0
abbrev zl7 : List MObj := [.rows 4 1 (fun i j => .int .i64 (y.g i j)) y.e y.opn y.sz y.ro, .rows 3 1 (fun i j => .int .i64 (y.h i j)) y.e2 y.opn2 y.sz2 y.ro2, .cells [.int .i64 a0, .int .i64 a1] 3 false 0 false, .cells [.int .i64 (IntKind.i64.wrap ((y.h 0 0) * (1 : Int)))] 3 true 1 false]
abbrev zl8 := decide ((0 : Int) < (IntKind.i64.wrap ((3 : Int) + y.x)))
abbrev zl9 := (decide ((0 : Int) < (3 : Int))) = true
abbrev zl10 := (0 : Int) = (Int.ofNat (0 : Nat))
abbrev zl11 := (0 = 0) ∧ ((0 : Nat) < (3 : Nat))
abbrev zl12 := ((3 : Int) = (Int.ofNat (3 : Nat))) ∧ ((3 : Nat) < (4 : Nat))
abbrev zl13 := (3 = 3) ∧ ((3 : Nat) < (4 : Nat))
abbrev zl14 := ((((((((((((True ∧ ((zl8 y) = true)) ∧ zl9) ∧ (zl10 ∧ ((0 : Nat) < (3 : Nat)))) ∧ zl11) ∧ zl12) ∧ zl13) ∧ ((decide ((0 : Int) < (0 : Int))) = false)) ∧ zl9) ∧ zl9) ∧ zl9) ∧ zl9) ∧ ((decide ((0 : Int) ≥ (3 : Int))) = false)) ∧ True
abbrev zl15 := (Pl.cr (IntKind.i64.wrap ((y.h 0 0) * (1 : Int))) (- (1073741824 : Int)) (1073741824 : Int)) != (0 : Int)
theorem rt3r0_eq : seenK 6 3 [10] 6663 512 (rt3r0 y a0 a1) = some (.normal, rt3A1 y a0 a1 (zl6 y), (zl7 y a0 a1), 512, ⟨[], ((zl14 y) ∧ ((zl15 y) = false))⟩) := by kernel_rfl
abbrev zl16 := Pl.cr (IntKind.i64.wrap ((y.h 0 0) * (1 : Int))) (-1073741824 : Int) (1073741824 : Int)
theorem rt3r0_k (h0 : (0 : Int) < (IntKind.i64.wrap ((3 : Int) + y.x))) (h1 : (zl16 y) = (0 : Int)) : KC Tryz.prog none rt3X (rt3A y a0 a1).act (wS 6 (rt3L y a0 a1)) .normal (rt3A1 y a0 a1 (zl6 y)).act (wS 6 (rt3L1 y a0 a1 (zl6 y))) 9 512 := by
  refine KT.toldAs (L := (zl7 y a0 a1)) ?_ (by
    simp only [List.map_cons, List.map_nil, rt3L, rt3L1, rt3L2, rt3L3, rt3L4]
    all_goals exact kr)
  exact seenK_ok smx rt3K_ok sng (rt3r0_eq y a0 a1) kq
abbrev zl17 := wS 6 (zl0 y a0 a1)
abbrev zl18 := IntKind.i64.wrap ((y.h 1 0) * (IntKind.i64.wrap ((1 : Int) * (y.g 3 0))))
abbrev zl19 := pushI 1 g3 [(zl18 y)]
abbrev zl20 : List MObj := [.rows 4 1 (fun i j => .int .i64 (y.g i j)) y.e y.opn y.sz y.ro, .rows 3 1 (fun i j => .int .i64 (y.h i j)) y.e2 y.opn2 y.sz2 y.ro2, .cells [.int .i64 a0, .int .i64 a1] 3 false 0 false, .rows 2 1 (fun i j => tellV (invN 9 [11]) 8 ((pushRow 1 1 (fun i j => .int .i64 (g3 i j)) [.int .i64 (zl18 y)]) i j)) 3 true 1 false]
abbrev zl21 := decide ((1 : Int) < (IntKind.i64.wrap ((3 : Int) + y.x)))
abbrev zl22 := (1 = 1) ∧ ((1 : Nat) < (3 : Nat))
abbrev zl23 := (((((((((((((True ∧ ((zl21 y) = true)) ∧ ((decide ((1 : Int) < (3 : Int))) = true)) ∧ (((1 : Int) = (Int.ofNat (1 : Nat))) ∧ ((1 : Nat) < (3 : Nat)))) ∧ zl22) ∧ zl12) ∧ zl13) ∧ ((decide ((0 : Int) < (1 : Int))) = true)) ∧ ((decide ((IntKind.i64.wrap ((0 : Int) + (1 : Int))) < (1 : Int))) = false)) ∧ zl9) ∧ zl9) ∧ zl9) ∧ zl9) ∧ ((decide ((1 : Int) ≥ (3 : Int))) = false)) ∧ True
abbrev zl24 := (Pl.cr (zl18 y) (- (1073741824 : Int)) (1073741824 : Int)) != (0 : Int)
theorem rt3r3_eq : seenK 6 3 [11] 6663 512 (rt3r3 y a0 a1 g3) = some (.normal, rt3A2 y a0 a1 (zl19 y g3), (zl20 y a0 a1 g3), 512, ⟨[], (((zl23 y) ∧ ((zl24 y) = false)) ∧ ((1 = 1) ∧ ((1 = 1) ∧ (16 ≤ (140737488355328 : Nat)))))⟩) := by kernel_rfl
abbrev zl25 := Pl.cr (zl18 y) (-1073741824 : Int) (1073741824 : Int)
theorem rt3r3_k (h0 : (1 : Int) < (IntKind.i64.wrap ((3 : Int) + y.x))) (h1 : (zl25 y) = (0 : Int)) : KC Tryz.prog none rt3X (rt3A1 y a0 a1 g3).act (wS 6 (rt3L1 y a0 a1 g3)) .normal (rt3A2 y a0 a1 (zl19 y g3)).act (wS 6 (rt3L2 y a0 a1 (zl19 y g3))) 9 512 := by
  refine KT.toldAs (L := (zl20 y a0 a1 g3)) ?_ (by
    simp only [List.map_cons, List.map_nil, rt3L, rt3L1, rt3L2, rt3L3, rt3L4]
    all_goals exact kr)
  exact seenK_ok smx rt3K_ok sng (rt3r3_eq y a0 a1 g3) kq
abbrev zl26 := IntKind.i64.wrap ((IntKind.i64.wrap ((1 : Int) * (y.g 3 0))) * (y.g 3 0))
abbrev zl27 := IntKind.i64.wrap ((y.h 2 0) * (zl26 y))
abbrev zl28 := pushI 2 g3 [(zl27 y)]
abbrev zl29 : List MObj := [.rows 4 1 (fun i j => .int .i64 (y.g i j)) y.e y.opn y.sz y.ro, .rows 3 1 (fun i j => .int .i64 (y.h i j)) y.e2 y.opn2 y.sz2 y.ro2, .cells [.int .i64 a0, .int .i64 a1] 3 false 0 false, .rows 3 1 (fun i j => tellV (invN 9 [11]) 8 ((pushRow 2 1 (fun i j => .int .i64 (g3 i j)) [.int .i64 (zl27 y)]) i j)) 3 true 1 false]
abbrev zl30 := decide ((2 : Int) < (IntKind.i64.wrap ((3 : Int) + y.x)))
abbrev zl31 := (2 = 2) ∧ ((2 : Nat) < (3 : Nat))
abbrev zl32 := IntKind.i64.wrap ((IntKind.i64.wrap ((0 : Int) + (1 : Int))) + (1 : Int))
abbrev zl33 := ((((((((((((((True ∧ ((zl30 y) = true)) ∧ ((decide ((2 : Int) < (3 : Int))) = true)) ∧ (((2 : Int) = (Int.ofNat (2 : Nat))) ∧ ((2 : Nat) < (3 : Nat)))) ∧ zl31) ∧ zl12) ∧ zl13) ∧ ((decide ((0 : Int) < (2 : Int))) = true)) ∧ ((decide ((IntKind.i64.wrap ((0 : Int) + (1 : Int))) < (2 : Int))) = true)) ∧ ((decide (zl32 < (2 : Int))) = false)) ∧ zl9) ∧ zl9) ∧ zl9) ∧ zl9) ∧ ((decide ((2 : Int) ≥ (3 : Int))) = false)) ∧ True
abbrev zl34 := (Pl.cr (zl27 y) (- (1073741824 : Int)) (1073741824 : Int)) != (0 : Int)
theorem rt3r6_eq : seenK 6 3 [11] 6663 512 (rt3r6 y a0 a1 g3) = some (.normal, rt3A3 y a0 a1 (zl28 y g3), (zl29 y a0 a1 g3), 512, ⟨[], (((zl33 y) ∧ ((zl34 y) = false)) ∧ ((2 = 2) ∧ ((2 = 2) ∧ (24 ≤ (140737488355328 : Nat)))))⟩) := by kernel_rfl
abbrev zl35 := Pl.cr (zl27 y) (-1073741824 : Int) (1073741824 : Int)
theorem rt3r6_k (h0 : (2 : Int) < (IntKind.i64.wrap ((3 : Int) + y.x))) (h1 : (zl35 y) = (0 : Int)) : KC Tryz.prog none rt3X (rt3A2 y a0 a1 g3).act (wS 6 (rt3L2 y a0 a1 g3)) .normal (rt3A3 y a0 a1 (zl28 y g3)).act (wS 6 (rt3L3 y a0 a1 (zl28 y g3))) 9 512 := by
  refine KT.toldAs (L := (zl29 y a0 a1 g3)) ?_ (by
    simp only [List.map_cons, List.map_nil, rt3L, rt3L1, rt3L2, rt3L3, rt3L4]
    all_goals exact kr)
  exact seenK_ok smx rt3K_ok sng (rt3r6_eq y a0 a1 g3) kq
abbrev zl36 := IntKind.i64.wrap ((IntKind.i64.wrap ((IntKind.i64.wrap ((0 : Int) - (IntKind.i64.wrap ((IntKind.i64.wrap ((y.g 0 0) * (g3 0 0))) * (zl26 y))))) - (IntKind.i64.wrap ((IntKind.i64.wrap ((y.g 1 0) * (g3 1 0))) * (IntKind.i64.wrap ((1 : Int) * (y.g 3 0))))))) - (IntKind.i64.wrap ((IntKind.i64.wrap ((y.g 2 0) * (g3 2 0))) * (1 : Int))))
abbrev zl37 := pushI 3 g3 [(zl36 y g3)]
abbrev zl38 : List MObj := [.rows 4 1 (fun i j => .int .i64 (y.g i j)) y.e y.opn y.sz y.ro, .rows 3 1 (fun i j => .int .i64 (y.h i j)) y.e2 y.opn2 y.sz2 y.ro2, .cells [.int .i64 a0, .int .i64 a1] 3 false 0 false, .rows 4 1 (fun i j => tellV (invN 9 [11]) 8 ((pushRow 3 1 (fun i j => .int .i64 (g3 i j)) [.int .i64 (zl36 y g3)]) i j)) 3 true 1 false]
abbrev zl39 := decide ((3 : Int) < (IntKind.i64.wrap ((3 : Int) + y.x)))
abbrev zl40 := (decide ((3 : Int) ≥ (3 : Int))) = true
abbrev zl41 := zl10 ∧ ((0 : Nat) < (4 : Nat))
abbrev zl42 := (0 = 0) ∧ ((0 : Nat) < (4 : Nat))
abbrev zl43 := IntKind.i64.wrap ((IntKind.i64.wrap ((3 : Int) - (0 : Int))) - (1 : Int))
abbrev zl44 := (decide ((0 : Int) < zl43)) = true
abbrev zl45 := (decide ((IntKind.i64.wrap ((0 : Int) + (1 : Int))) < zl43)) = true
abbrev zl46 := (decide (zl32 < zl43)) = false
abbrev zl47 := (decide ((IntKind.i64.wrap ((0 : Int) + (1 : Int))) < (3 : Int))) = true
abbrev zl48 := ((IntKind.i64.wrap ((0 : Int) + (1 : Int))) = (Int.ofNat (1 : Nat))) ∧ ((1 : Nat) < (4 : Nat))
abbrev zl49 := (1 = 1) ∧ ((1 : Nat) < (4 : Nat))
abbrev zl50 := IntKind.i64.wrap ((IntKind.i64.wrap ((3 : Int) - (IntKind.i64.wrap ((0 : Int) + (1 : Int))))) - (1 : Int))
abbrev zl51 := (decide ((0 : Int) < zl50)) = true
abbrev zl52 := (decide ((IntKind.i64.wrap ((0 : Int) + (1 : Int))) < zl50)) = false
abbrev zl53 := (decide (zl32 < (3 : Int))) = true
abbrev zl54 := (zl32 = (Int.ofNat (2 : Nat))) ∧ ((2 : Nat) < (4 : Nat))
abbrev zl55 := (2 = 2) ∧ ((2 : Nat) < (4 : Nat))
abbrev zl56 := (decide ((0 : Int) < (IntKind.i64.wrap ((IntKind.i64.wrap ((3 : Int) - zl32)) - (1 : Int))))) = false
abbrev zl57 := (decide ((IntKind.i64.wrap (zl32 + (1 : Int))) < (3 : Int))) = false
abbrev zl58 := ((((((((((((((((((((((((((((((((((((((((((((((True ∧ ((zl39 y) = true)) ∧ ((decide ((3 : Int) < (3 : Int))) = false)) ∧ zl9) ∧ zl9) ∧ zl9) ∧ zl9) ∧ zl40) ∧ zl41) ∧ zl42) ∧ (((IntKind.i64.wrap ((IntKind.i64.wrap ((3 : Int) - (3 : Int))) + (0 : Int))) = (Int.ofNat (0 : Nat))) ∧ ((0 : Nat) < (3 : Nat)))) ∧ zl11) ∧ zl12) ∧ zl13) ∧ zl44) ∧ zl45) ∧ zl46) ∧ zl47) ∧ zl47) ∧ zl47) ∧ zl47) ∧ zl40) ∧ zl48) ∧ zl49) ∧ (((IntKind.i64.wrap ((IntKind.i64.wrap ((3 : Int) - (3 : Int))) + (IntKind.i64.wrap ((0 : Int) + (1 : Int))))) = (Int.ofNat (1 : Nat))) ∧ ((1 : Nat) < (3 : Nat)))) ∧ zl22) ∧ zl12) ∧ zl13) ∧ zl51) ∧ zl52) ∧ zl53) ∧ zl53) ∧ zl53) ∧ zl53) ∧ zl40) ∧ zl54) ∧ zl55) ∧ (((IntKind.i64.wrap ((IntKind.i64.wrap ((3 : Int) - (3 : Int))) + zl32)) = (Int.ofNat (2 : Nat))) ∧ ((2 : Nat) < (3 : Nat)))) ∧ zl31) ∧ zl12) ∧ zl13) ∧ zl56) ∧ zl57) ∧ zl57) ∧ zl57) ∧ zl57) ∧ (false = false)) ∧ True
abbrev zl59 := (Pl.cr (zl36 y g3) (- (1073741824 : Int)) (1073741824 : Int)) != (0 : Int)
theorem rt3r9_eq : seenK 6 3 [11] 6663 512 (rt3r9 y a0 a1 g3) = some (.normal, rt3A4 y a0 a1 (zl37 y g3) 0 0, (zl38 y a0 a1 g3), 512, ⟨[], (((zl58 y) ∧ ((zl59 y g3) = false)) ∧ ((3 = 3) ∧ ((3 = 3) ∧ (32 ≤ (140737488355328 : Nat)))))⟩) := by kernel_rfl
abbrev zl60 := Pl.cr (zl36 y g3) (-1073741824 : Int) (1073741824 : Int)
theorem rt3r9_k (h0 : (3 : Int) < (IntKind.i64.wrap ((3 : Int) + y.x))) (h1 : (zl60 y g3) = (0 : Int)) : KC Tryz.prog none rt3X (rt3A3 y a0 a1 g3).act (wS 6 (rt3L3 y a0 a1 g3)) .normal (rt3A4 y a0 a1 (zl37 y g3) 0 0).act (wS 6 (rt3L4 y a0 a1 (zl37 y g3) 0 0)) 9 512 := by
  refine KT.toldAs (L := (zl38 y a0 a1 g3)) ?_ (by
    simp only [List.map_cons, List.map_nil, rt3L, rt3L1, rt3L2, rt3L3, rt3L4]
    all_goals exact kr)
  exact seenK_ok smx rt3K_ok sng (rt3r9_eq y a0 a1 g3) kq
theorem rt3r10_eq : seenK 6 3 [] 192 512 (rt3r10 y a0 a1 g3) = some (.ret, rt3r10E y a0 a1 g3, (zl0 y a0 a1), 512, ⟨[], ((zl58 y) ∧ ((zl59 y g3) = true))⟩) := by kernel_rfl
theorem rt3r10_k (h0 : (3 : Int) < (IntKind.i64.wrap ((3 : Int) + y.x))) (h1 : (zl60 y g3) ≠ (0 : Int)) : KC Tryz.prog none rt3X (rt3A3 y a0 a1 g3).act (wS 6 (rt3L3 y a0 a1 g3)) .ret (rt3r10E y a0 a1 g3).act (zl17 y a0 a1) 9 512 :=
  seenK_ok smx rt3K_ok sng (rt3r10_eq y a0 a1 g3) kq
theorem rt3r11_eq : seenK 6 3 [9] 2048 512 (rt3r11 y a0 a1 g3) = some ((.exit 0), rt3r11E y a0 a1 g3, (zl3 y a0 a1 g3), 512, ⟨[], (True ∧ ((zl39 y) = false))⟩) := by kernel_rfl
theorem rt3r11_k (h0 : ¬ (3 : Int) < (IntKind.i64.wrap ((3 : Int) + y.x))) : KC Tryz.prog none rt3X (rt3A3 y a0 a1 g3).act (wS 6 (rt3L3 y a0 a1 g3)) (.exit 0) (rt3r11E y a0 a1 g3).act (wS 6 (zl3 y a0 a1 g3)) 9 512 :=
  seenK_ok smx rt3K_ok sng (rt3r11_eq y a0 a1 g3) kq
abbrev zl61 := IntKind.i64.wrap ((IntKind.i64.wrap ((IntKind.i64.wrap ((0 : Int) - (IntKind.i64.wrap ((IntKind.i64.wrap ((y.g 0 0) * (g3 (i12 + 1) 0))) * (zl26 y))))) - (IntKind.i64.wrap ((IntKind.i64.wrap ((y.g 1 0) * (g3 (i12 + 2) 0))) * (IntKind.i64.wrap ((1 : Int) * (y.g 3 0))))))) - (IntKind.i64.wrap ((IntKind.i64.wrap ((y.g 2 0) * (g3 (i12 + 3) 0))) * (1 : Int))))
abbrev zl62 := pushI (m11 + 4) g3 [(zl61 y g3 i12)]
abbrev zl63 : List MObj := [.rows 4 1 (fun i j => .int .i64 (y.g i j)) y.e y.opn y.sz y.ro, .rows 3 1 (fun i j => .int .i64 (y.h i j)) y.e2 y.opn2 y.sz2 y.ro2, .cells [.int .i64 a0, .int .i64 a1] 3 false 0 false, .rows (m11 + 5) 1 (fun i j => tellV (invN 9 [11]) 8 ((pushRow (m11 + 4) 1 (fun i j => .int .i64 (g3 i j)) [.int .i64 (zl61 y g3 i12)]) i j)) 3 true 1 false]
abbrev zl64 := decide (((((i12 + 4) : Nat)) : Int) < (IntKind.i64.wrap ((3 : Int) + y.x)))
abbrev zl65 := (decide (((((i12 + 4) : Nat)) : Int) ≥ (3 : Int))) = true
abbrev zl66 := ((.int .i64 (IntKind.i64.wrap (((((i12 + 4) : Nat)) : Int) - (3 : Int)))) : Value) = (.int .i64 ((((i12 + 1) : Nat)) : Int))
abbrev zl67 := ((((((((((((((((((((((((((((((((((((((((((((((((((((True ∧ ((zl64 y i12) = true)) ∧ ((decide (((((i12 + 4) : Nat)) : Int) < (3 : Int))) = false)) ∧ zl9) ∧ zl9) ∧ zl9) ∧ zl9) ∧ (zl65 i12)) ∧ zl41) ∧ zl42) ∧ (zl66 i12)) ∧ (((.int .i64 (IntKind.i64.wrap (((((i12 + 1) : Nat)) : Int) + (0 : Int)))) : Value) = (.int .i64 ((((i12 + 1) : Nat)) : Int)))) ∧ ((((((i12 + 1) : Nat)) : Int) = (Int.ofNat (i12 + 1))) ∧ ((i12 + 1) < (m11 + 4)))) ∧ (((0 + ((i12 + 1) * 1)) = (((i12 + 1) * 1) + 0)) ∧ ((i12 + 1) < (m11 + 4)))) ∧ zl12) ∧ zl13) ∧ zl44) ∧ zl45) ∧ zl46) ∧ zl47) ∧ zl47) ∧ zl47) ∧ zl47) ∧ (zl65 i12)) ∧ zl48) ∧ zl49) ∧ (zl66 i12)) ∧ (((.int .i64 (IntKind.i64.wrap (((((i12 + 1) : Nat)) : Int) + (IntKind.i64.wrap ((0 : Int) + (1 : Int)))))) : Value) = (.int .i64 ((((i12 + 2) : Nat)) : Int)))) ∧ ((((((i12 + 2) : Nat)) : Int) = (Int.ofNat (i12 + 2))) ∧ ((i12 + 2) < (m11 + 4)))) ∧ (((0 + ((i12 + 2) * 1)) = (((i12 + 2) * 1) + 0)) ∧ ((i12 + 2) < (m11 + 4)))) ∧ zl12) ∧ zl13) ∧ zl51) ∧ zl52) ∧ zl53) ∧ zl53) ∧ zl53) ∧ zl53) ∧ (zl65 i12)) ∧ zl54) ∧ zl55) ∧ (zl66 i12)) ∧ (((.int .i64 (IntKind.i64.wrap (((((i12 + 1) : Nat)) : Int) + zl32))) : Value) = (.int .i64 ((((i12 + 3) : Nat)) : Int)))) ∧ ((((((i12 + 3) : Nat)) : Int) = (Int.ofNat (i12 + 3))) ∧ ((i12 + 3) < (m11 + 4)))) ∧ (((0 + ((i12 + 3) * 1)) = (((i12 + 3) * 1) + 0)) ∧ ((i12 + 3) < (m11 + 4)))) ∧ zl12) ∧ zl13) ∧ zl56) ∧ zl57) ∧ zl57) ∧ zl57) ∧ zl57) ∧ (false = false)) ∧ True
abbrev zl68 := (Pl.cr (zl61 y g3 i12) (- (1073741824 : Int)) (1073741824 : Int)) != (0 : Int)
theorem rt3r12_eq : seenK 6 3 [11] 6663 512 (rt3r12 y a0 a1 g3 m11 i12) = some (.normal, rt3A4 y a0 a1 (zl62 y g3 m11 i12) (m11 + 1) (i12 + 1), (zl63 y a0 a1 g3 m11 i12), 512, ⟨[], ((((zl67 y m11 i12) ∧ ((zl68 y g3 i12) = false)) ∧ (((m11 + 4) = (m11 + 4)) ∧ (((m11 + 4) = (m11 + 4)) ∧ ((((m11 + 4) + 1) * 8) ≤ (140737488355328 : Nat))))) ∧ (((.int .i64 (IntKind.i64.wrap (((((i12 + 4) : Nat)) : Int) + (1 : Int)))) : Value) = (.int .i64 ((((i12 + 5) : Nat)) : Int))))⟩) := by kernel_rfl
abbrev zl69 := Pl.cr (zl61 y g3 i12) (-1073741824 : Int) (1073741824 : Int)
theorem rt3r12_k (hx : i12 = m11) (hb : m11 ≤ 1000) (h0 : ((i12 + 4 : Nat) : Int) < (IntKind.i64.wrap ((3 : Int) + y.x))) (h1 : (zl69 y g3 i12) = (0 : Int)) : KC Tryz.prog none rt3X (rt3A4 y a0 a1 g3 m11 i12).act (wS 6 (rt3L4 y a0 a1 g3 m11 i12)) .normal (rt3A4 y a0 a1 (zl62 y g3 m11 i12) (m11 + 1) (i12 + 1)).act (wS 6 (rt3L4 y a0 a1 (zl62 y g3 m11 i12) (m11 + 1) (i12 + 1))) 9 512 := by
  refine KT.toldAs (L := (zl63 y a0 a1 g3 m11 i12)) ?_ (by
    simp only [List.map_cons, List.map_nil, rt3L, rt3L1, rt3L2, rt3L3, rt3L4]
    all_goals exact kr)
  exact seenK_ok smx rt3K_ok sng (rt3r12_eq y a0 a1 g3 m11 i12) kq
theorem rt3r13_eq : seenK 6 3 [] 192 512 (rt3r13 y a0 a1 g3 m11 i12) = some (.ret, rt3r13E y a0 a1 g3 m11 i12, (zl0 y a0 a1), 512, ⟨[], ((zl67 y m11 i12) ∧ ((zl68 y g3 i12) = true))⟩) := by kernel_rfl
theorem rt3r13_k (hx : i12 = m11) (hb : m11 ≤ 1000) (h0 : ((i12 + 4 : Nat) : Int) < (IntKind.i64.wrap ((3 : Int) + y.x))) (h1 : (zl69 y g3 i12) ≠ (0 : Int)) : KC Tryz.prog none rt3X (rt3A4 y a0 a1 g3 m11 i12).act (wS 6 (rt3L4 y a0 a1 g3 m11 i12)) .ret (rt3r13E y a0 a1 g3 m11 i12).act (zl17 y a0 a1) 9 512 :=
  seenK_ok smx rt3K_ok sng (rt3r13_eq y a0 a1 g3 m11 i12) kq
theorem rt3r14_eq : seenK 6 3 [9] 2048 512 (rt3r14 y a0 a1 g3 m11 i12) = some ((.exit 0), rt3r14E y a0 a1 g3 m11 i12, (zl4 y a0 a1 g3 m11), 512, ⟨[], (True ∧ ((zl64 y i12) = false))⟩) := by kernel_rfl
theorem rt3r14_k (hx : i12 = m11) (hb : m11 ≤ 1000) (h0 : ¬ ((i12 + 4 : Nat) : Int) < (IntKind.i64.wrap ((3 : Int) + y.x))) : KC Tryz.prog none rt3X (rt3A4 y a0 a1 g3 m11 i12).act (wS 6 (rt3L4 y a0 a1 g3 m11 i12)) (.exit 0) (rt3r14E y a0 a1 g3 m11 i12).act (wS 6 (zl4 y a0 a1 g3 m11)) 9 512 :=
  seenK_ok smx rt3K_ok sng (rt3r14_eq y a0 a1 g3 m11 i12) kq
end
end Go.Proofs.YtbkpnhbcihcgaaaGreatDoor
end
section
set_option linter.all false
set_option maxRecDepth 1000000
open Go.RowKit
namespace Go.Proofs.YtbkpnhbcihcgaaaGreatDoor
open Mini
noncomputable section
variable (y : SV) (a0 : Int) (a1 : Int) (mm : Nat) (jj : Nat) (i : Nat)
abbrev zt0 := IntKind.i64.wrap ((y.h 1 0) * (IntKind.i64.wrap ((1 : Int) * (y.g 3 0))))
abbrev zt1 := IntKind.i64.wrap ((IntKind.i64.wrap ((1 : Int) * (y.g 3 0))) * (y.g 3 0))
abbrev zt2 := IntKind.i64.wrap ((y.h 2 0) * (zt1 y))
def rt3RR (y : SV) (a0 : Int) (a1 : Int) : Nat → Nat → Nat → Int
  | 0 => fun _ _ => 0
  | 1 => (fun i j => ([(IntKind.i64.wrap ((y.h 0 0) * (1 : Int)))] : List Int).getD (i * 1 + j) 0)
  | 2 => (pushI 1 (rt3RR y a0 a1 1) [(zt0 y)])
  | 3 => (pushI 2 (rt3RR y a0 a1 2) [(zt2 y)])
  | q + 4 => pushI (q + 3) (rt3RR y a0 a1 (q + 3)) [(IntKind.i64.wrap ((IntKind.i64.wrap ((IntKind.i64.wrap ((0 : Int) - (IntKind.i64.wrap ((IntKind.i64.wrap ((y.g 0 0) * ((rt3RR y a0 a1 (q + 3)) q 0))) * (zt1 y))))) - (IntKind.i64.wrap ((IntKind.i64.wrap ((y.g 1 0) * ((rt3RR y a0 a1 (q + 3)) (q + 1) 0))) * (IntKind.i64.wrap ((1 : Int) * (y.g 3 0))))))) - (IntKind.i64.wrap ((IntKind.i64.wrap ((y.g 2 0) * ((rt3RR y a0 a1 (q + 3)) (q + 2) 0))) * (1 : Int)))))]
def rt3EE : Nat → Int
  | 0 => (IntKind.i64.wrap ((y.h 0 0) * (1 : Int)))
  | 1 => (zt0 y)
  | 2 => (zt2 y)
  | q + 3 => (IntKind.i64.wrap ((IntKind.i64.wrap ((IntKind.i64.wrap ((0 : Int) - (IntKind.i64.wrap ((IntKind.i64.wrap ((y.g 0 0) * ((rt3RR y a0 a1 (q + 3)) q 0))) * (zt1 y))))) - (IntKind.i64.wrap ((IntKind.i64.wrap ((y.g 1 0) * ((rt3RR y a0 a1 (q + 3)) (q + 1) 0))) * (IntKind.i64.wrap ((1 : Int) * (y.g 3 0))))))) - (IntKind.i64.wrap ((IntKind.i64.wrap ((y.g 2 0) * ((rt3RR y a0 a1 (q + 3)) (q + 2) 0))) * (1 : Int)))))
def rt3AA : MA := match i with
  | 0 => rt3A y a0 a1 
  | 1 => rt3A1 y a0 a1 (rt3RR y a0 a1 1)
  | 2 => rt3A2 y a0 a1 (rt3RR y a0 a1 2)
  | 3 => rt3A3 y a0 a1 (rt3RR y a0 a1 3)
  | q + 4 => rt3A4 y a0 a1 (rt3RR y a0 a1 (q + 4)) q q
def rt3LL : List MObj := match i with
  | 0 => rt3L y a0 a1 
  | 1 => rt3L1 y a0 a1 (rt3RR y a0 a1 1)
  | 2 => rt3L2 y a0 a1 (rt3RR y a0 a1 2)
  | 3 => rt3L3 y a0 a1 (rt3RR y a0 a1 3)
  | q + 4 => rt3L4 y a0 a1 (rt3RR y a0 a1 (q + 4)) q q
abbrev zt3 := feN (fun i => Pl.cr (y.h i 0) (-1000) 1000) 3 0
abbrev zt4 := Pl.cr y.x (0 : Int) (24 : Int)
def rt3F : Nat → Nat → Nat → Int := rt3RR y (zt3 y) (zt4 y)
noncomputable def rt3FK : CallS := bothX kRCP (bothX kNN (kAll [c_range, c_rrange, c_index]))
def rt3Args : Array Value := #[.slice (some ⟨6, 0, none⟩) 4 y.c, .slice (some ⟨7, 0, none⟩) 3 y.c2, .int .i64 y.x]
def rt3S : List MObj := [.rows 4 1 (fun i j => .int .i64 (y.g i j)) y.e y.opn y.sz y.ro, .rows 3 1 (fun i j => .int .i64 (y.h i j)) y.e2 y.opn2 y.sz2 y.ro2]
noncomputable abbrev zt5 := bodyOf Tryz.prog 52
noncomputable abbrev zt6 := startM Tryz.f52 (rt3Args y)
abbrev zt7 := rt3A y (zt3 y) (zt4 y)
abbrev zt8 := rt3L y (zt3 y) (zt4 y)
abbrev zt9 := rt3r11E y (zt3 y) (zt4 y) (rt3F y 3)
abbrev zt10 : List MObj := [.rows 4 1 (fun i j => .int .i64 (y.g i j)) y.e y.opn y.sz y.ro, .rows 3 1 (fun i j => .int .i64 (y.h i j)) y.e2 y.opn2 y.sz2 y.ro2, .cells [.int .i64 (zt3 y), .int .i64 (zt4 y)] 3 false 0 false, .rows 3 1 (fun i j => .int .i64 ((rt3F y 3) i j)) 3 true 1 false]
noncomputable def rt3f0 : Option OutCS := evK Tryz.prog rt3FK 1000 false zt5 (zt6 y) (wS 6 (rt3S y)) ⟨[0, 0, 0, 1, 0, 0, 1, 1, 0, 0, 0, .lp 6663 (zt7 y) 6 (zt8 y) (.exit 0) (zt9 y) (zt10 y) 9 512], True⟩
abbrev zt11 := rt3r14E y (zt3 y) (zt4 y) (rt3F y (mm + 4)) mm mm
abbrev zt12 : List MObj := [.rows 4 1 (fun i j => .int .i64 (y.g i j)) y.e y.opn y.sz y.ro, .rows 3 1 (fun i j => .int .i64 (y.h i j)) y.e2 y.opn2 y.sz2 y.ro2, .cells [.int .i64 (zt3 y), .int .i64 (zt4 y)] 3 false 0 false, .rows (mm + 4) 1 (fun i j => .int .i64 ((rt3F y (mm + 4)) i j)) 3 true 1 false]
noncomputable def rt3f1 : Option OutCS := evK Tryz.prog rt3FK 1000 false zt5 (zt6 y) (wS 6 (rt3S y)) ⟨[0, 0, 0, 1, 0, 0, 1, 1, 0, 0, 0, .lp 6663 (zt7 y) 6 (zt8 y) (.exit 0) (zt11 y mm) (zt12 y mm) 9 512], True⟩
abbrev zt13 := rt3r10E y (zt3 y) (zt4 y) (rt3F y 3)
abbrev zt14 : List MObj := [.rows 4 1 (fun i j => .int .i64 (y.g i j)) y.e y.opn y.sz y.ro, .rows 3 1 (fun i j => .int .i64 (y.h i j)) y.e2 y.opn2 y.sz2 y.ro2, .cells [.int .i64 (zt3 y), .int .i64 (zt4 y)] 3 false 0 false]
noncomputable def rt3f2 : Option OutCS := evK Tryz.prog rt3FK 1000 false zt5 (zt6 y) (wS 6 (rt3S y)) ⟨[0, 0, 0, 1, 0, 0, 1, 1, 0, 0, 0, .lp 6663 (zt7 y) 6 (zt8 y) .ret (zt13 y) (zt14 y) 9 512], True⟩
abbrev zt15 := rt3r13E y (zt3 y) (zt4 y) (rt3F y (jj + 4)) jj jj
noncomputable def rt3f3 : Option OutCS := evK Tryz.prog rt3FK 1000 false zt5 (zt6 y) (wS 6 (rt3S y)) ⟨[0, 0, 0, 1, 0, 0, 1, 1, 0, 0, 0, .lp 6663 (zt7 y) 6 (zt8 y) .ret (zt15 y jj) (zt14 y) 9 512], True⟩
noncomputable def rt3f4 : Option OutCS := evK Tryz.prog rt3FK 1000 false zt5 (zt6 y) (wS 6 (rt3S y)) ⟨[0, 0, 0, 1, 0, 0, 1, 1, 1, 1, 1], True⟩
noncomputable def rt3f5 : Option OutCS := evK Tryz.prog rt3FK 1000 false zt5 (zt6 y) (wS 6 (rt3S y)) ⟨[0, 0, 0, 1, 0, 1, 0, 1], True⟩
noncomputable def rt3f6 : Option OutCS := evK Tryz.prog rt3FK 1000 false zt5 (zt6 y) (wS 6 (rt3S y)) ⟨[1], True⟩
theorem rt3_go (hi : ((i : Nat) : Int) < (IntKind.i64.wrap ((3 : Int) + y.x))) (hb : i ≤ 1000) (h1 : Pl.cr (rt3EE y a0 a1 i) (-1073741824 : Int) (1073741824 : Int) = 0) : KC Tryz.prog none rt3X (rt3AA y a0 a1 i).act (wS 6 (rt3LL y a0 a1 i)) .normal (rt3AA y a0 a1 (i + 1)).act (wS 6 (rt3LL y a0 a1 (i + 1))) 9 512 := by
  match i, hi, hb, h1 with
  | 0, hi, hb, h1 => exact rt3r0_k y a0 a1  hi h1
  | 1, hi, hb, h1 => exact rt3r3_k y a0 a1 (rt3RR y a0 a1 1) hi h1
  | 2, hi, hb, h1 => exact rt3r6_k y a0 a1 (rt3RR y a0 a1 2) hi h1
  | 3, hi, hb, h1 => exact rt3r9_k y a0 a1 (rt3RR y a0 a1 3) hi h1
  | q + 4, hi, hb, h1 => exact rt3r12_k y a0 a1 (rt3RR y a0 a1 (q + 4)) q q rfl (by omega) hi h1
theorem rt3_l0 (hz : ¬ (3 : Int) < (IntKind.i64.wrap ((3 : Int) + y.x))) (hw : (3 : Int) ≤ (IntKind.i64.wrap ((3 : Int) + y.x))) (h1 : ∀ i, i < 3 → Pl.cr (rt3EE y a0 a1 i) (-1073741824 : Int) (1073741824 : Int) = 0) : KC Tryz.prog none (.loop rt3X) (rt3A y a0 a1).act (wS 6 (rt3L y a0 a1)) (.exit 0) (rt3r11E y a0 a1 (rt3RR y a0 a1 3)).act (wS 6 [.rows 4 1 (fun i j => .int .i64 (y.g i j)) y.e y.opn y.sz y.ro, .rows 3 1 (fun i j => .int .i64 (y.h i j)) y.e2 y.opn2 y.sz2 y.ro2, .cells [.int .i64 a0, .int .i64 a1] 3 false 0 false, .rows 3 1 (fun i j => .int .i64 ((rt3RR y a0 a1 3) i j)) 3 true 1 false]) 9 512 :=
  K_rounds (A := fun i => (rt3AA y a0 a1 i).act) (S := fun i => wS 6 (rt3LL y a0 a1 i)) 3 (fun i hi => rt3_go y a0 a1 i (by omega) (by omega) (h1 i hi)) (rt3r11_k y a0 a1 (rt3RR y a0 a1 3) hz) (by simp)
theorem rt3_l1 (hm : ((mm + 4 : Nat) : Int) = (IntKind.i64.wrap ((3 : Int) + y.x))) (hb : mm ≤ 900) (h1 : ∀ i, i < mm + 4 → Pl.cr (rt3EE y a0 a1 i) (-1073741824 : Int) (1073741824 : Int) = 0) : KC Tryz.prog none (.loop rt3X) (rt3A y a0 a1).act (wS 6 (rt3L y a0 a1)) (.exit 0) (rt3r14E y a0 a1 (rt3RR y a0 a1 (mm + 4)) mm mm).act (wS 6 [.rows 4 1 (fun i j => .int .i64 (y.g i j)) y.e y.opn y.sz y.ro, .rows 3 1 (fun i j => .int .i64 (y.h i j)) y.e2 y.opn2 y.sz2 y.ro2, .cells [.int .i64 a0, .int .i64 a1] 3 false 0 false, .rows (mm + 4) 1 (fun i j => .int .i64 ((rt3RR y a0 a1 (mm + 4)) i j)) 3 true 1 false]) 9 512 :=
  K_rounds (A := fun i => (rt3AA y a0 a1 i).act) (S := fun i => wS 6 (rt3LL y a0 a1 i)) (mm + 4) (fun i hi => rt3_go y a0 a1 i (by omega) (by omega) (h1 i hi)) (rt3r14_k y a0 a1 (rt3RR y a0 a1 (mm + 4)) mm mm rfl (by omega) (by omega)) (by simp)
abbrev zt16 := wS 6 [.rows 4 1 (fun i j => .int .i64 (y.g i j)) y.e y.opn y.sz y.ro, .rows 3 1 (fun i j => .int .i64 (y.h i j)) y.e2 y.opn2 y.sz2 y.ro2, .cells [.int .i64 a0, .int .i64 a1] 3 false 0 false]
theorem rt3_b0 (hz : (3 : Int) < (IntKind.i64.wrap ((3 : Int) + y.x))) (h1 : ∀ i, i < 3 → Pl.cr (rt3EE y a0 a1 i) (-1073741824 : Int) (1073741824 : Int) = 0) (h2 : Pl.cr (rt3EE y a0 a1 3) (-1073741824 : Int) (1073741824 : Int) ≠ 0) : KC Tryz.prog none (.loop rt3X) (rt3A y a0 a1).act (wS 6 (rt3L y a0 a1)) .ret (rt3r10E y a0 a1 (rt3RR y a0 a1 3)).act (zt16 y a0 a1) 9 512 :=
  K_rounds (A := fun i => (rt3AA y a0 a1 i).act) (S := fun i => wS 6 (rt3LL y a0 a1 i)) 3 (fun i hi => rt3_go y a0 a1 i (by omega) (by omega) (h1 i hi)) (rt3r10_k y a0 a1 (rt3RR y a0 a1 3) hz h2) (by simp)
theorem rt3_b1 (hj : ((jj + 4 : Nat) : Int) < (IntKind.i64.wrap ((3 : Int) + y.x))) (hb : jj ≤ 900) (h1 : ∀ i, i < jj + 4 → Pl.cr (rt3EE y a0 a1 i) (-1073741824 : Int) (1073741824 : Int) = 0) (h2 : Pl.cr (rt3EE y a0 a1 (jj + 4)) (-1073741824 : Int) (1073741824 : Int) ≠ 0) : KC Tryz.prog none (.loop rt3X) (rt3A y a0 a1).act (wS 6 (rt3L y a0 a1)) .ret (rt3r13E y a0 a1 (rt3RR y a0 a1 (jj + 4)) jj jj).act (zt16 y a0 a1) 9 512 :=
  K_rounds (A := fun i => (rt3AA y a0 a1 i).act) (S := fun i => wS 6 (rt3LL y a0 a1 i)) (jj + 4) (fun i hi => rt3_go y a0 a1 i (by omega) (by omega) (h1 i hi)) (rt3r13_k y a0 a1 (rt3RR y a0 a1 (jj + 4)) jj jj rfl (by omega) hj h2) (by simp)
theorem rt3FK_ok : FOkS Tryz.prog rt3FK := bothX_ok kRCP_ok (bothX_ok kNN_ok (kAll_ok _ ⟨k_range, k_rrange, k_index, trivial⟩))
abbrev zt17 : List MObj := [.rows 3 1 (fun i j => .int .i64 ((rt3F y 3) i j)) 3 true 1 false]
abbrev zt18 := True ∧ (((4 = 4) ∧ (∀ (i : Nat), ((i < (4 : Nat)) → (∀ (j : Nat), ((j < (1 : Nat)) → ((Value.int .i64 (y.g i j)) = (Value.int .i64 (gI (Value.int .i64 (y.g i j)))))))))) ∧ ((((4 : Nat)) : Int) ≤ (9223372036854775807 : Int)))
abbrev zt19 := (cpV (4 : Nat) (fun (i : Nat) => (fun (j : Nat) => (gI (Value.int .i64 (y.g i j)))))) != (0 : Int)
abbrev zt20 := (((4 : Nat)) : Int) - (1 : Int)
abbrev zt21 := (((((((zt18 y) ∧ ((zt19 y) = false)) ∧ (((IntKind.i64.wrap zt20) == (0 : Int)) = false)) ∧ (((((3 : Nat)) : Int) != (IntKind.i64.wrap zt20)) = false)) ∧ (((3 = 3) ∧ (∀ (i : Nat), ((i < (3 : Nat)) → (∀ (j : Nat), ((j < (1 : Nat)) → ((Value.int .i64 (y.h i j)) = (Value.int .i64 (gI (Value.int .i64 (y.h i j)))))))))) ∧ ((((3 : Nat)) : Int) ≤ (9223372036854775807 : Int)))) ∧ True) ∧ ((decide ((0 : Int) < (((2 : Nat)) : Int))) = true)) ∧ ((0 : Int) = (Int.ofNat 0))
abbrev zt22 := (feN (fun (i : Nat) => (Pl.cr (gI (Value.int .i64 (y.h i 0))) (- (1000 : Int)) (1000 : Int))) (3 : Nat) (0 : Nat)) != (0 : Int)
abbrev zt23 := (IntKind.i64.wrap ((0 : Int) + (1 : Int))) = (Int.ofNat 1)
abbrev zt24 := (((zt21 y) ∧ ((zt22 y) = false)) ∧ ((decide ((IntKind.i64.wrap ((0 : Int) + (1 : Int))) < (((2 : Nat)) : Int))) = true)) ∧ zt23
abbrev zt25 := (zt4 y) != (0 : Int)
abbrev zt26 := (((zt24 y) ∧ ((zt25 y) = false)) ∧ ((decide ((IntKind.i64.wrap ((IntKind.i64.wrap ((0 : Int) + (1 : Int))) + (1 : Int))) < (((2 : Nat)) : Int))) = false)) ∧ (((0 : Int) != (0 : Int)) = false)
abbrev zt27 := feN (fun (i : Nat) => (Pl.cr (y.h i 0) (- (1000 : Int)) (1000 : Int))) (3 : Nat) (0 : Nat)
abbrev zt28 := rt3A y (zt27 y) (zt4 y)
abbrev zt29 := HAppend.hAppend (List.replicate (6 : Nat) MObj.hole) (rt3L y (zt27 y) (zt4 y))
abbrev zt30 := ((zt28 y) = (zt28 y)) ∧ ((9 = (6 + 3)) ∧ ((zt29 y) = (zt29 y)))
abbrev zt31 := wS 6 (zt8 y)
abbrev zt32 := wS 6 (zt10 y)
theorem rt3f0_eq : seenF' Tryz.prog Tryz.f52 6 2 [9] (rt3f0 y) = some (.tuple #[.slice (some ⟨8, 0, none⟩) 3 3, .int .i64 (0 : Int)], rt3S y ++ (zt17 y), ⟨[], ((zt26 y) ∧ ((zt30 y) ∧ KC Tryz.prog none (.loop rt3X) (zt7 y).act (zt31 y) (.exit 0) (zt9 y).act (zt32 y) 9 512))⟩) := by kernel_rfl
theorem rt3f0_s (h0 : (cpV 4 y.g) = (0 : Int)) (h1 : (zt3 y) = (0 : Int)) (h2 : (zt4 y) = (0 : Int)) (l0 : KC Tryz.prog none (.loop rt3X) (zt7 y).act (zt31 y) (.exit 0) (zt9 y).act (zt32 y) 9 512) : SndF Tryz.prog 52 (rt3Args y) (wS 6 (rt3S y)) (.tuple #[.slice (some ⟨8, 0, none⟩) 3 3, .int .i64 (0 : Int)]) (wS 6 (rt3S y ++ (zt17 y))) 192 0 :=
  kF (L := rt3S y) (L2 := (zt17 y)) (ms := [9]) rt3FK_ok (rt3f0_eq y) kq
abbrev zt33 : List MObj := [.rows (mm + 4) 1 (fun i j => .int .i64 ((rt3F y (mm + 4)) i j)) 3 true 1 false]
abbrev zt34 := wS 6 (zt12 y mm)
theorem rt3f1_eq : seenF' Tryz.prog Tryz.f52 6 2 [9] (rt3f1 y mm) = some (.tuple #[.slice (some ⟨8, 0, none⟩) (mm + 4) (mm + 4), .int .i64 (0 : Int)], rt3S y ++ (zt33 y mm), ⟨[], ((zt26 y) ∧ ((zt30 y) ∧ KC Tryz.prog none (.loop rt3X) (zt7 y).act (zt31 y) (.exit 0) (zt11 y mm).act (zt34 y mm) 9 512))⟩) := by kernel_rfl
theorem rt3f1_s (h0 : (cpV 4 y.g) = (0 : Int)) (h1 : (zt3 y) = (0 : Int)) (h2 : (zt4 y) = (0 : Int)) (l0 : KC Tryz.prog none (.loop rt3X) (zt7 y).act (zt31 y) (.exit 0) (zt11 y mm).act (zt34 y mm) 9 512) : SndF Tryz.prog 52 (rt3Args y) (wS 6 (rt3S y)) (.tuple #[.slice (some ⟨8, 0, none⟩) (mm + 4) (mm + 4), .int .i64 (0 : Int)]) (wS 6 (rt3S y ++ (zt33 y mm))) 192 0 :=
  kF (L := rt3S y) (L2 := (zt33 y mm)) (ms := [9]) rt3FK_ok (rt3f1_eq y mm) kq
abbrev zt35 := wS 6 (zt14 y)
theorem rt3f2_eq : seenF' Tryz.prog Tryz.f52 6 2 [] (rt3f2 y) = some (.tuple #[.slice none 0 0, .int .i64 (4 : Int)], rt3S y ++ [], ⟨[], ((zt26 y) ∧ ((zt30 y) ∧ KC Tryz.prog none (.loop rt3X) (zt7 y).act (zt31 y) .ret (zt13 y).act (zt35 y) 9 512))⟩) := by kernel_rfl
theorem rt3f2_s (h0 : (cpV 4 y.g) = (0 : Int)) (h1 : (zt3 y) = (0 : Int)) (h2 : (zt4 y) = (0 : Int)) (l0 : KC Tryz.prog none (.loop rt3X) (zt7 y).act (zt31 y) .ret (zt13 y).act (zt35 y) 9 512) : SndF Tryz.prog 52 (rt3Args y) (wS 6 (rt3S y)) (.tuple #[.slice none 0 0, .int .i64 (4 : Int)]) (wS 6 (rt3S y)) 192 0 :=
  kF (L := rt3S y) (L2 := []) (ms := []) rt3FK_ok (rt3f2_eq y) kq
theorem rt3f3_eq : seenF' Tryz.prog Tryz.f52 6 2 [] (rt3f3 y jj) = some (.tuple #[.slice none 0 0, .int .i64 (4 : Int)], rt3S y ++ [], ⟨[], ((zt26 y) ∧ ((zt30 y) ∧ KC Tryz.prog none (.loop rt3X) (zt7 y).act (zt31 y) .ret (zt15 y jj).act (zt35 y) 9 512))⟩) := by kernel_rfl
theorem rt3f3_s (h0 : (cpV 4 y.g) = (0 : Int)) (h1 : (zt3 y) = (0 : Int)) (h2 : (zt4 y) = (0 : Int)) (l0 : KC Tryz.prog none (.loop rt3X) (zt7 y).act (zt31 y) .ret (zt15 y jj).act (zt35 y) 9 512) : SndF Tryz.prog 52 (rt3Args y) (wS 6 (rt3S y)) (.tuple #[.slice none 0 0, .int .i64 (4 : Int)]) (wS 6 (rt3S y)) 192 0 :=
  kF (L := rt3S y) (L2 := []) (ms := []) rt3FK_ok (rt3f3_eq y jj) kq
abbrev zt36 := (zt25 y) = true
theorem rt3f4_eq : seenF' Tryz.prog Tryz.f52 6 2 [] (rt3f4 y) = some (.tuple #[.slice none 0 0, .int .i64 (zt4 y)], rt3S y ++ [], ⟨[], ((((zt24 y) ∧ (zt36 y)) ∧ zt23) ∧ (zt36 y))⟩) := by kernel_rfl
theorem rt3f4_s (h0 : (cpV 4 y.g) = (0 : Int)) (h1 : (zt3 y) = (0 : Int)) (h2 : (zt4 y) ≠ (0 : Int)) : SndF Tryz.prog 52 (rt3Args y) (wS 6 (rt3S y)) (.tuple #[.slice none 0 0, .int .i64 (zt4 y)]) (wS 6 (rt3S y)) 192 0 :=
  kF (L := rt3S y) (L2 := []) (ms := []) rt3FK_ok (rt3f4_eq y) kq
abbrev zt37 := (zt22 y) = true
theorem rt3f5_eq : seenF' Tryz.prog Tryz.f52 6 2 [] (rt3f5 y) = some (.tuple #[.slice none 0 0, .int .i64 (zt3 y)], rt3S y ++ [], ⟨[], ((((zt21 y) ∧ (zt37 y)) ∧ ((0 : Int) = (Int.ofNat 0))) ∧ (zt37 y))⟩) := by kernel_rfl
theorem rt3f5_s (h0 : (cpV 4 y.g) = (0 : Int)) (h1 : (zt3 y) ≠ (0 : Int)) : SndF Tryz.prog 52 (rt3Args y) (wS 6 (rt3S y)) (.tuple #[.slice none 0 0, .int .i64 (zt3 y)]) (wS 6 (rt3S y)) 192 0 :=
  kF (L := rt3S y) (L2 := []) (ms := []) rt3FK_ok (rt3f5_eq y) kq
theorem rt3f6_eq : seenF' Tryz.prog Tryz.f52 6 2 [] (rt3f6 y) = some (.tuple #[.slice none 0 0, .int .i64 (cpV 4 y.g)], rt3S y ++ [], ⟨[], ((zt18 y) ∧ ((zt19 y) = true))⟩) := by kernel_rfl
theorem rt3f6_s (h0 : (cpV 4 y.g) ≠ (0 : Int)) : SndF Tryz.prog 52 (rt3Args y) (wS 6 (rt3S y)) (.tuple #[.slice none 0 0, .int .i64 (cpV 4 y.g)]) (wS 6 (rt3S y)) 192 0 :=
  kF (L := rt3S y) (L2 := []) (ms := []) rt3FK_ok (rt3f6_eq y) kq
end
end Go.Proofs.YtbkpnhbcihcgaaaGreatDoor
end
section
set_option linter.all false
set_option maxRecDepth 1000000
open Go.RowKit
namespace Go.Proofs.YtbkpnhbcihcgaaaGreatDoor
open Mini
def st3D (y : SV) : Nat → Int := st3EE y (cpV 4 y.g) (feN (fun i => Pl.cr (y.h i 0) (-1000) 1000) 3 0) (Pl.cr y.x (0 : Int) (24 : Int)) (IntKind.i64.wrap ((y.h 0 0) * (1 : Int))) (IntKind.i64.wrap ((y.h 1 0) * (IntKind.i64.wrap ((1 : Int) * (y.g 3 0))))) (IntKind.i64.wrap ((y.h 2 0) * (IntKind.i64.wrap ((IntKind.i64.wrap ((1 : Int) * (y.g 3 0))) * (y.g 3 0))))) (IntKind.i64.wrap ((y.g 0 0) * (IntKind.i64.wrap ((IntKind.i64.wrap ((1 : Int) * (y.g 3 0))) * (y.g 3 0))))) (IntKind.i64.wrap ((y.g 1 0) * (IntKind.i64.wrap ((1 : Int) * (y.g 3 0))))) (IntKind.i64.wrap ((y.g 2 0) * (1 : Int))) (IntKind.i64.wrap ((0 : Int) - (IntKind.i64.wrap ((y.g 0 0) * (IntKind.i64.wrap ((IntKind.i64.wrap ((1 : Int) * (y.g 3 0))) * (y.g 3 0))))))) (IntKind.i64.wrap ((0 : Int) - (IntKind.i64.wrap ((y.g 1 0) * (IntKind.i64.wrap ((1 : Int) * (y.g 3 0))))))) (IntKind.i64.wrap ((0 : Int) - (IntKind.i64.wrap ((y.g 2 0) * (1 : Int)))))
def rt3D (y : SV) : Nat → Int := rt3EE y (feN (fun i => Pl.cr (y.h i 0) (-1000) 1000) 3 0) (Pl.cr y.x (0 : Int) (24 : Int))
theorem al3 (g : Nat → Nat → Int) (y0 : Int) (y1 : Int) (y2 : Int) : (IntKind.i64.wrap ((IntKind.i64.wrap ((IntKind.i64.wrap ((0 : Int) + (IntKind.i64.wrap ((IntKind.i64.wrap ((0 : Int) - (IntKind.i64.wrap ((g 0 0) * (IntKind.i64.wrap ((IntKind.i64.wrap ((1 : Int) * (g 3 0))) * (g 3 0))))))) * y0)))) + (IntKind.i64.wrap ((IntKind.i64.wrap ((0 : Int) - (IntKind.i64.wrap ((g 1 0) * (IntKind.i64.wrap ((1 : Int) * (g 3 0))))))) * y1)))) + (IntKind.i64.wrap ((IntKind.i64.wrap ((0 : Int) - (IntKind.i64.wrap ((g 2 0) * (1 : Int))))) * y2)))) = (IntKind.i64.wrap ((IntKind.i64.wrap ((IntKind.i64.wrap ((0 : Int) - (IntKind.i64.wrap ((IntKind.i64.wrap ((g 0 0) * y0)) * (IntKind.i64.wrap ((IntKind.i64.wrap ((1 : Int) * (g 3 0))) * (g 3 0))))))) - (IntKind.i64.wrap ((IntKind.i64.wrap ((g 1 0) * y1)) * (IntKind.i64.wrap ((1 : Int) * (g 3 0))))))) - (IntKind.i64.wrap ((IntKind.i64.wrap ((g 2 0) * y2)) * (1 : Int))))) := by
  simp only [wr_al, wr_ar, wr_sl, wr_sr, wr_ml, wr_mr]
  refine congrArg _ ?_
  all_goals try simp only [Int.zero_add, Int.zero_sub, Int.mul_one, Int.one_mul, Int.neg_mul, Int.sub_mul, Int.add_mul]
  all_goals try simp only [Int.mul_assoc, Int.mul_comm, Int.mul_left_comm]
  all_goals omega
theorem rt3_at (y : SV) : ∀ t j, j < t → rt3F y t j 0 = rt3D y j
  | 0, j, hz => absurd hz (Nat.not_lt_zero j)
  | 1, j, hz => by
    obtain rfl : j = 0 := by omega
    rfl
  | 2, j, hz => by
    show (if j < 1 then rt3F y 1 j 0 else _) = _
    by_cases c0 : j < 1
    · rw [if_pos c0]; exact rt3_at y 1 j c0
    · rw [if_neg c0]
      obtain rfl : j = 1 := by omega
      rfl
  | 3, j, hz => by
    show (if j < 2 then rt3F y 2 j 0 else _) = _
    by_cases c0 : j < 2
    · rw [if_pos c0]; exact rt3_at y 2 j c0
    · rw [if_neg c0]
      obtain rfl : j = 2 := by omega
      rfl
  | q + 4, j, hz => by
    show (if j < q + 3 then rt3F y (q + 3) j 0 else _) = _
    by_cases c0 : j < q + 3
    · rw [if_pos c0]; exact rt3_at y (q + 3) j c0
    · rw [if_neg c0]
      obtain rfl : j = q + 3 := by omega
      rfl
theorem rt3_nx (y : SV) (q : Nat) : rt3D y (q + 3) = (IntKind.i64.wrap ((IntKind.i64.wrap ((IntKind.i64.wrap ((0 : Int) - (IntKind.i64.wrap ((IntKind.i64.wrap ((y.g 0 0) * (rt3D y (q)))) * (IntKind.i64.wrap ((IntKind.i64.wrap ((1 : Int) * (y.g 3 0))) * (y.g 3 0))))))) - (IntKind.i64.wrap ((IntKind.i64.wrap ((y.g 1 0) * (rt3D y (q + 1)))) * (IntKind.i64.wrap ((1 : Int) * (y.g 3 0))))))) - (IntKind.i64.wrap ((IntKind.i64.wrap ((y.g 2 0) * (rt3D y (q + 2)))) * (1 : Int))))) := by
  rw [← rt3_at y (q + 3) (q) (by omega), ← rt3_at y (q + 3) (q + 1) (by omega), ← rt3_at y (q + 3) (q + 2) (by omega)]
  rfl
theorem st3_at (y : SV) : ∀ q, (∀ j, j < q + 4 → st3F y q j 0 = rt3D y j) ∧ st3D y q = rt3D y (q + 3)
  | 0 => by
    have hd : st3D y 0 = rt3D y (0 + 3) := by
      rw [rt3_nx]
      exact al3 y.g (rt3D y 0) (rt3D y 1) (rt3D y 2)
    refine ⟨fun j hj => ?_, hd⟩
    match j, hj with
    | 0, _ => rfl
    | 1, _ => rfl
    | 2, _ => rfl
    | 3, _ => exact hd
    | j + 4, hj => omega
  | q + 1 => by
    obtain ⟨h1, h2⟩ := st3_at y q
    have hd : st3D y (q + 1) = rt3D y (q + 1 + 3) := by
      rw [rt3_nx, ← al3 y.g, ← h1 (q + 1) (by omega), ← h1 (q + 1 + 1) (by omega), ← h1 (q + 1 + 2) (by omega)]
      rfl
    refine ⟨fun j hj => ?_, hd⟩
    show (if j < q + 4 then st3F y q j 0 else _) = _
    by_cases c0 : j < q + 4
    · rw [if_pos c0]; exact h1 j c0
    · rw [if_neg c0]
      obtain rfl : j = q + 1 + 3 := by omega
      exact hd
theorem rt3_in (y : SV) (h1 : cpV 4 y.g = 0) (h2 : feN (fun i => Pl.cr (y.h i 0) (-1000) 1000) 3 0 = 0) : ∀ i, i < 3 → Pl.cr (rt3D y i) (-1073741824 : Int) (1073741824 : Int) = 0 := fun i hi => by
  have hg : (y.g 3 0).natAbs ≤ 100 := cr_nab (A := 100) (cpV_c h1 3 (by omega))
  have hh : ∀ k, k < 3 → (y.h k 0).natAbs ≤ 1000 := fun k hk => cr_nab (A := 1000) (feN_zero h2 k hk)
  match i, hi with
  | 0, _ =>
    show Pl.cr (IntKind.i64.wrap ((y.h 0 0) * (1 : Int))) _ _ = 0
    try simp only [wr_ml, wr_mr]
    exact cr_in (nab_mul (hh 0 (by omega)) (by decide : (1 : Int).natAbs ≤ 1)) (by decide)
  | 1, _ =>
    show Pl.cr (IntKind.i64.wrap ((y.h 1 0) * (IntKind.i64.wrap ((1 : Int) * (y.g 3 0))))) _ _ = 0
    try simp only [wr_ml, wr_mr]
    exact cr_in (nab_mul (hh 1 (by omega)) (nab_mul (by decide : (1 : Int).natAbs ≤ 1) hg)) (by decide)
  | 2, _ =>
    show Pl.cr (IntKind.i64.wrap ((y.h 2 0) * (IntKind.i64.wrap ((IntKind.i64.wrap ((1 : Int) * (y.g 3 0))) * (y.g 3 0))))) _ _ = 0
    try simp only [wr_ml, wr_mr]
    exact cr_in (nab_mul (hh 2 (by omega)) (nab_mul (nab_mul (by decide : (1 : Int).natAbs ≤ 1) hg) hg)) (by decide)
  | i + 3, hi => omega
end Go.Proofs.YtbkpnhbcihcgaaaGreatDoor
end
section
set_option linter.all false
set_option maxRecDepth 1000000
open Go.RowKit
namespace Go.Proofs.YtbkpnhbcihcgaaaGreatDoor
open Mini
noncomputable section
variable (y : SV)
theorem st3_lt {x : Int} (h : Pl.cr x (0 : Int) (24 : Int) = 0) : 0 ≤ x ∧ x ≤ 24 := by
  unfold Pl.cr at h
  split at h <;> omega
theorem rt3_w {x : Int} (h : Pl.cr x (0 : Int) (24 : Int) = 0) : (IntKind.i64.wrap ((3 : Int) + x)) = 3 + x := by
  have := st3_lt h
  exact IntWalk.i64_in _ (by omega)
abbrev zx0 := fun i => Pl.cr (y.h i 0) (-1000) 1000
abbrev zx1 := IntKind.i64.wrap ((y.h 1 0) * (IntKind.i64.wrap ((1 : Int) * (y.g 3 0))))
abbrev zx2 := IntKind.i64.wrap ((IntKind.i64.wrap ((1 : Int) * (y.g 3 0))) * (y.g 3 0))
abbrev zx3 := IntKind.i64.wrap ((y.h 2 0) * (zx2 y))
abbrev zx4 := feN (zx0 y) 3 0
abbrev zx5 := Pl.cr y.x (0 : Int) (24 : Int)
abbrev zx6 := IntKind.i64.wrap ((y.g 0 0) * (zx2 y))
abbrev zx7 := IntKind.i64.wrap ((y.g 1 0) * (IntKind.i64.wrap ((1 : Int) * (y.g 3 0))))
abbrev zx8 := IntKind.i64.wrap ((0 : Int) - (zx6 y))
abbrev zx9 := IntKind.i64.wrap ((0 : Int) - (zx7 y))
abbrev zx10 := IntKind.i64.wrap ((0 : Int) - (IntKind.i64.wrap ((y.g 2 0) * (1 : Int))))
theorem st3_o2 (h0 : cpV 4 y.g = 0) (h1 : feN (zx0 y) 3 0 = 0) (h2 : Pl.cr y.x (0 : Int) (24 : Int) = 0) (hz : ¬ (0 : Int) < y.x) : SndF Tryz.prog 50 (st3Args y) (wS 6 (st3S y)) (.tuple #[.slice (some ⟨8, 0, none⟩) 3 3, .int .i64 (0 : Int)]) (wS 6 (st3S y ++ [.cells [.int .i64 (IntKind.i64.wrap ((y.h 0 0) * (1 : Int))), .int .i64 (zx1 y), .int .i64 (zx3 y)] 3 false 0 false])) 192 0 :=
  st3f0_s y h0 h1 h2 (st3_l0 y (cpV 4 y.g) (zx4 y) (zx5 y) (IntKind.i64.wrap ((y.h 0 0) * (1 : Int))) (zx1 y) (zx3 y) (zx6 y) (zx7 y) (IntKind.i64.wrap ((y.g 2 0) * (1 : Int))) (zx8 y) (zx9 y) (zx10 y) hz)
theorem st3_o1 (h0 : cpV 4 y.g = 0) (h1 : feN (zx0 y) 3 0 = 0) (h2 : Pl.cr y.x (0 : Int) (24 : Int) = 0) (hz : (0 : Int) < y.x) (hk : (∀ i, i < y.x.toNat → Pl.cr (rt3D y (i + 3)) (-1073741824 : Int) (1073741824 : Int) = 0)) : SndF Tryz.prog 50 (st3Args y) (wS 6 (st3S y)) (.tuple #[.slice (some ⟨8, 0, none⟩) ((y.x.toNat - 1) + 4) ((y.x.toNat - 1) + 4), .int .i64 (0 : Int)]) (wS 6 (st3S y ++ [.rows ((y.x.toNat - 1) + 4) 1 (fun i j => .int .i64 ((st3F y (y.x.toNat - 1)) i j)) 3 true 1 false])) 192 0 := by
  have hx := st3_lt h2
  exact st3f1_s y (y.x.toNat - 1) h0 h1 h2 (st3_l1 y (cpV 4 y.g) (zx4 y) (zx5 y) (IntKind.i64.wrap ((y.h 0 0) * (1 : Int))) (zx1 y) (zx3 y) (zx6 y) (zx7 y) (IntKind.i64.wrap ((y.g 2 0) * (1 : Int))) (zx8 y) (zx9 y) (zx10 y) (y.x.toNat - 1) (by omega) (by omega) (fun i hi => by
    have hk := hk i (by omega)
    rw [← (st3_at y i).2] at hk
    exact hk))
theorem st3_o0 (hp : cpV 4 y.g ≠ 0 ∨ feN (fun i => Pl.cr (y.h i 0) (-1000) 1000) 3 0 ≠ 0 ∨ Pl.cr y.x (0 : Int) (24 : Int) ≠ 0 ∨ (∃ i, i < y.x.toNat ∧ Pl.cr (rt3D y (i + 3)) (-1073741824 : Int) (1073741824 : Int) ≠ 0)) : SndF Tryz.prog 50 (st3Args y) (wS 6 (st3S y)) (.tuple #[.slice none 0 0, .int .i64 (th2 (th2 (th2 (cpV 4 y.g) (feN (fun i => Pl.cr (y.h i 0) (-1000) 1000) 3 0)) (Pl.cr y.x (0 : Int) (24 : Int))) 4)]) (wS 6 (st3S y)) 192 0 := by
  by_cases h0 : cpV 4 y.g = 0
  · by_cases h1 : feN (fun i => Pl.cr (y.h i 0) (-1000) 1000) 3 0 = 0
    · by_cases h2 : Pl.cr y.x (0 : Int) (24 : Int) = 0
      · have hx := st3_lt h2
        have ev : (th2 (th2 (th2 (cpV 4 y.g) (feN (fun i => Pl.cr (y.h i 0) (-1000) 1000) 3 0)) (Pl.cr y.x (0 : Int) (24 : Int))) 4) = 4 := by rw [h0, h1, h2]; rfl
        rw [ev]
        rcases first_or (p := fun i => Pl.cr (rt3D y (i + 3)) (-1073741824 : Int) (1073741824 : Int) ≠ 0) (fun _ => inferInstance) y.x.toNat with ha | ⟨j, hj, hb, hk⟩
        · rcases hp with k | k | k | ⟨i, k1, k2⟩
          · exact absurd h0 k
          · exact absurd h1 k
          · exact absurd h2 k
          · exact absurd k2 (ha i k1)
        · have hk : ∀ i, i < j → Pl.cr (rt3D y (i + 3)) (-1073741824 : Int) (1073741824 : Int) = 0 := fun i hi => Decidable.not_not.1 (hk i hi)
          skip
          rw [← (st3_at y _).2] at hb
          have hb : Pl.cr (st3EE y (cpV 4 y.g) (feN (fun i => Pl.cr (y.h i 0) (-1000) 1000) 3 0) (Pl.cr y.x (0 : Int) (24 : Int)) (IntKind.i64.wrap ((y.h 0 0) * (1 : Int))) (IntKind.i64.wrap ((y.h 1 0) * (IntKind.i64.wrap ((1 : Int) * (y.g 3 0))))) (IntKind.i64.wrap ((y.h 2 0) * (IntKind.i64.wrap ((IntKind.i64.wrap ((1 : Int) * (y.g 3 0))) * (y.g 3 0))))) (IntKind.i64.wrap ((y.g 0 0) * (IntKind.i64.wrap ((IntKind.i64.wrap ((1 : Int) * (y.g 3 0))) * (y.g 3 0))))) (IntKind.i64.wrap ((y.g 1 0) * (IntKind.i64.wrap ((1 : Int) * (y.g 3 0))))) (IntKind.i64.wrap ((y.g 2 0) * (1 : Int))) (IntKind.i64.wrap ((0 : Int) - (IntKind.i64.wrap ((y.g 0 0) * (IntKind.i64.wrap ((IntKind.i64.wrap ((1 : Int) * (y.g 3 0))) * (y.g 3 0))))))) (IntKind.i64.wrap ((0 : Int) - (IntKind.i64.wrap ((y.g 1 0) * (IntKind.i64.wrap ((1 : Int) * (y.g 3 0))))))) (IntKind.i64.wrap ((0 : Int) - (IntKind.i64.wrap ((y.g 2 0) * (1 : Int))))) j) (-1073741824 : Int) (1073741824 : Int) ≠ 0 := hb
          rcases j with _ | q
          · exact st3f2_s y h0 h1 h2 (st3_b0 y (cpV 4 y.g) (feN (fun i => Pl.cr (y.h i 0) (-1000) 1000) 3 0) (Pl.cr y.x (0 : Int) (24 : Int)) (IntKind.i64.wrap ((y.h 0 0) * (1 : Int))) (IntKind.i64.wrap ((y.h 1 0) * (IntKind.i64.wrap ((1 : Int) * (y.g 3 0))))) (IntKind.i64.wrap ((y.h 2 0) * (IntKind.i64.wrap ((IntKind.i64.wrap ((1 : Int) * (y.g 3 0))) * (y.g 3 0))))) (IntKind.i64.wrap ((y.g 0 0) * (IntKind.i64.wrap ((IntKind.i64.wrap ((1 : Int) * (y.g 3 0))) * (y.g 3 0))))) (IntKind.i64.wrap ((y.g 1 0) * (IntKind.i64.wrap ((1 : Int) * (y.g 3 0))))) (IntKind.i64.wrap ((y.g 2 0) * (1 : Int))) (IntKind.i64.wrap ((0 : Int) - (IntKind.i64.wrap ((y.g 0 0) * (IntKind.i64.wrap ((IntKind.i64.wrap ((1 : Int) * (y.g 3 0))) * (y.g 3 0))))))) (IntKind.i64.wrap ((0 : Int) - (IntKind.i64.wrap ((y.g 1 0) * (IntKind.i64.wrap ((1 : Int) * (y.g 3 0))))))) (IntKind.i64.wrap ((0 : Int) - (IntKind.i64.wrap ((y.g 2 0) * (1 : Int))))) (by omega) hb)
          · exact st3f3_s y q h0 h1 h2 (st3_b1 y (cpV 4 y.g) (feN (fun i => Pl.cr (y.h i 0) (-1000) 1000) 3 0) (Pl.cr y.x (0 : Int) (24 : Int)) (IntKind.i64.wrap ((y.h 0 0) * (1 : Int))) (IntKind.i64.wrap ((y.h 1 0) * (IntKind.i64.wrap ((1 : Int) * (y.g 3 0))))) (IntKind.i64.wrap ((y.h 2 0) * (IntKind.i64.wrap ((IntKind.i64.wrap ((1 : Int) * (y.g 3 0))) * (y.g 3 0))))) (IntKind.i64.wrap ((y.g 0 0) * (IntKind.i64.wrap ((IntKind.i64.wrap ((1 : Int) * (y.g 3 0))) * (y.g 3 0))))) (IntKind.i64.wrap ((y.g 1 0) * (IntKind.i64.wrap ((1 : Int) * (y.g 3 0))))) (IntKind.i64.wrap ((y.g 2 0) * (1 : Int))) (IntKind.i64.wrap ((0 : Int) - (IntKind.i64.wrap ((y.g 0 0) * (IntKind.i64.wrap ((IntKind.i64.wrap ((1 : Int) * (y.g 3 0))) * (y.g 3 0))))))) (IntKind.i64.wrap ((0 : Int) - (IntKind.i64.wrap ((y.g 1 0) * (IntKind.i64.wrap ((1 : Int) * (y.g 3 0))))))) (IntKind.i64.wrap ((0 : Int) - (IntKind.i64.wrap ((y.g 2 0) * (1 : Int))))) q (by omega) (by omega) (fun i hi => by
            have hk := hk i (by omega)
            rw [← (st3_at y i).2] at hk
            exact hk) hb)
      · have ev : (th2 (th2 (th2 (cpV 4 y.g) (feN (fun i => Pl.cr (y.h i 0) (-1000) 1000) 3 0)) (Pl.cr y.x (0 : Int) (24 : Int))) 4) = Pl.cr y.x (0 : Int) (24 : Int) := by
          rw [h0, h1, show th2 (th2 (0 : Int) 0) (Pl.cr y.x (0 : Int) (24 : Int)) = Pl.cr y.x (0 : Int) (24 : Int) from rfl]; exact if_neg h2
        rw [ev]; exact st3f4_s y h0 h1 h2
    · have ev : (th2 (th2 (th2 (cpV 4 y.g) (feN (fun i => Pl.cr (y.h i 0) (-1000) 1000) 3 0)) (Pl.cr y.x (0 : Int) (24 : Int))) 4) = feN (fun i => Pl.cr (y.h i 0) (-1000) 1000) 3 0 := by
        rw [h0, show th2 (0 : Int) (feN (fun i => Pl.cr (y.h i 0) (-1000) 1000) 3 0) = feN (fun i => Pl.cr (y.h i 0) (-1000) 1000) 3 0 from rfl]
        unfold th2
        rw [if_neg h1, if_neg h1]
      rw [ev]; exact st3f5_s y h0 h1
  · have ev : (th2 (th2 (th2 (cpV 4 y.g) (feN (fun i => Pl.cr (y.h i 0) (-1000) 1000) 3 0)) (Pl.cr y.x (0 : Int) (24 : Int))) 4) = cpV 4 y.g := by
      unfold th2
      rw [if_neg h0, if_neg h0, if_neg h0]
    rw [ev]; exact st3f6_s y h0
def kS3 : CallS := fun f xs s q => match decide (f = 50) with
  | true => match xs.toList, q.rest with
    | [.slice (some ⟨b, 0, none⟩) 4 c, .slice (some ⟨b2, 0, none⟩) 3 c2, .int .i64 x], .n dd :: rest => match Nat.ble 6 b, Nat.ble 6 b2, Nat.beq b b2, rowK 1 .i64 s b 4, rowK 1 .i64 s b2 3, dd with
      | true, true, false, some (g, e, opn, sz, ro, p), some (h, e2, opn2, sz2, ro2, p2), 2 => some (.tuple #[.slice (some ⟨s.next, 0, none⟩) 3 3, .int .i64 (0 : Int)], s.push (.cells [.int .i64 (IntKind.i64.wrap ((h 0 0) * (1 : Int))), .int .i64 (IntKind.i64.wrap ((h 1 0) * (IntKind.i64.wrap ((1 : Int) * (g 3 0))))), .int .i64 (IntKind.i64.wrap ((h 2 0) * (IntKind.i64.wrap ((IntKind.i64.wrap ((1 : Int) * (g 3 0))) * (g 3 0)))))] 3 false 0 false), 2 ^ b ||| 2 ^ b2, 0, ⟨rest, q.ob ∧ (p ∧ p2 ∧ (cpV 4 g = 0 ∧ feN (fun i => Pl.cr (h i 0) (-1000) 1000) 3 0 = 0 ∧ Pl.cr x (0 : Int) (24 : Int) = 0 ∧ ¬ (0 : Int) < x))⟩)
      | true, true, false, some (g, e, opn, sz, ro, p), some (h, e2, opn2, sz2, ro2, p2), 1 => some (.tuple #[.slice (some ⟨s.next, 0, none⟩) ((x.toNat - 1) + 4) ((x.toNat - 1) + 4), .int .i64 (0 : Int)], s.push (.rows ((x.toNat - 1) + 4) 1 (fun i j => .int .i64 ((st3F ⟨c, g, e, opn, sz, ro, c2, h, e2, opn2, sz2, ro2, x⟩ (x.toNat - 1)) i j)) 3 true 1 false), 2 ^ b ||| 2 ^ b2, 0, ⟨rest, q.ob ∧ (p ∧ p2 ∧ (cpV 4 g = 0 ∧ feN (fun i => Pl.cr (h i 0) (-1000) 1000) 3 0 = 0 ∧ Pl.cr x (0 : Int) (24 : Int) = 0 ∧ (0 : Int) < x ∧ (∀ i, i < x.toNat → Pl.cr (rt3D ⟨c, g, e, opn, sz, ro, c2, h, e2, opn2, sz2, ro2, x⟩ (i + 3)) (-1073741824 : Int) (1073741824 : Int) = 0)))⟩)
      | true, true, false, some (g, e, opn, sz, ro, p), some (h, e2, opn2, sz2, ro2, p2), 0 => some (.tuple #[.slice none 0 0, .int .i64 (th2 (th2 (th2 (cpV 4 g) (feN (fun i => Pl.cr (h i 0) (-1000) 1000) 3 0)) (Pl.cr x (0 : Int) (24 : Int))) 4)], s, 2 ^ b ||| 2 ^ b2, 0, ⟨rest, q.ob ∧ (p ∧ p2 ∧ (cpV 4 g ≠ 0 ∨ feN (fun i => Pl.cr (h i 0) (-1000) 1000) 3 0 ≠ 0 ∨ Pl.cr x (0 : Int) (24 : Int) ≠ 0 ∨ (∃ i, i < x.toNat ∧ Pl.cr (rt3D ⟨c, g, e, opn, sz, ro, c2, h, e2, opn2, sz2, ro2, x⟩ (i + 3)) (-1073741824 : Int) (1073741824 : Int) ≠ 0)))⟩)
      | _, _, _, _, _, _ => none
    | _, _ => none
  | false => none
theorem kS3_ok : FOkS Tryz.prog kS3 := fun f xs s q u s1 R W q1 he => by
  unfold kS3 at he
  split at he
  · rename_i hf
    have hf := of_decide_eq_true hf
    subst hf
    split at he
    · rename_i b c b2 c2 x dd rest hx0 hrest
      have hxs : xs = #[.slice (some ⟨b, 0, none⟩) 4 c, .slice (some ⟨b2, 0, none⟩) 3 c2, .int .i64 x] := by apply Array.ext'; exact hx0
      subst hxs
      split at he
      · rename_i g e opn sz ro p h e2 opn2 sz2 ro2 p2 k1 k2 k3 k4 k5
        cases he
        refine ⟨fun hq => hq.1, fun hq => ?_⟩
        obtain ⟨l1, l2, hx⟩ := hq.2
        obtain ⟨m1, w1⟩ := rowK_wo k4 l1
        obtain ⟨m2, w2⟩ := rowK_wo k5 l2
        have b1 := Nat.le_of_ble_eq_true k1
        have b3 := Nat.le_of_ble_eq_true k2
        have hne : b ≠ b2 := fun e => by rw [e, Nat.beq_refl] at k3; cases k3
        refine SndF.rowsNew (N := 6) (bs := [b, b2]) (s0 := wS 6 [rowI 1 4 g e opn sz ro, rowI 1 3 h e2 opn2 sz2 ro2]) (o1 := .cells [.int .i64 (IntKind.i64.wrap ((h 0 0) * (1 : Int))), .int .i64 (IntKind.i64.wrap ((h 1 0) * (IntKind.i64.wrap ((1 : Int) * (g 3 0))))), .int .i64 (IntKind.i64.wrap ((h 2 0) * (IntKind.i64.wrap ((IntKind.i64.wrap ((1 : Int) * (g 3 0))) * (g 3 0)))))] 3 false 0 false) sng (st3_o2 ⟨c, g, e, opn, sz, ro, c2, h, e2, opn2, sz2, ro2, x⟩ hx.1 hx.2.1 hx.2.2.1 hx.2.2.2) rfl (fun x' hx' => ?_) (by simp [hne]) (by omega) (fun x' hx' _ => ?_) (fun x' hx' => ?_) (fun f j hj => ?_) (fun f hl hf => wvs_three (slice_wv (hf 0 (by simp))) (slice_wv (hf 1 (by simp))) (ground_wv (n := 8) rfl)) (fun f _ hf hn => ⟨wv_tuple (wvs_two (slice_wv hn) (ground_wv (n := 8) rfl)), keep_wo (N := fun _ => false) (fun b hb => by cases hb) rfl⟩)
        · simp at hx'
          rcases hx' with rfl | rfl <;> omega
        · rcases Nat.lt_or_ge x' 6 with k | k
          · have hz := (by decide : ∀ b, b < 6 → Nat.testBit 192 b = false) x' k
            rw [hz] at hx'; cases hx'
          · exact k
        · simp at hx'
          rcases hx' with rfl | rfl <;> simp [or_bit, bit_self]
        · match j, hj with
          | 0, _ => exact w1 f
          | 1, _ => exact w2 f
      · rename_i g e opn sz ro p h e2 opn2 sz2 ro2 p2 k1 k2 k3 k4 k5
        cases he
        refine ⟨fun hq => hq.1, fun hq => ?_⟩
        obtain ⟨l1, l2, hx⟩ := hq.2
        obtain ⟨m1, w1⟩ := rowK_wo k4 l1
        obtain ⟨m2, w2⟩ := rowK_wo k5 l2
        have b1 := Nat.le_of_ble_eq_true k1
        have b3 := Nat.le_of_ble_eq_true k2
        have hne : b ≠ b2 := fun e => by rw [e, Nat.beq_refl] at k3; cases k3
        refine SndF.rowsNew (N := 6) (bs := [b, b2]) (s0 := wS 6 [rowI 1 4 g e opn sz ro, rowI 1 3 h e2 opn2 sz2 ro2]) (o1 := .rows ((x.toNat - 1) + 4) 1 (fun i j => .int .i64 ((st3F ⟨c, g, e, opn, sz, ro, c2, h, e2, opn2, sz2, ro2, x⟩ (x.toNat - 1)) i j)) 3 true 1 false) sng (st3_o1 ⟨c, g, e, opn, sz, ro, c2, h, e2, opn2, sz2, ro2, x⟩ hx.1 hx.2.1 hx.2.2.1 hx.2.2.2.1 hx.2.2.2.2) rfl (fun x' hx' => ?_) (by simp [hne]) (by omega) (fun x' hx' _ => ?_) (fun x' hx' => ?_) (fun f j hj => ?_) (fun f hl hf => wvs_three (slice_wv (hf 0 (by simp))) (slice_wv (hf 1 (by simp))) (ground_wv (n := 8) rfl)) (fun f _ hf hn => ⟨wv_tuple (wvs_two (slice_wv hn) (ground_wv (n := 8) rfl)), keep_wo (N := fun _ => false) (fun b hb => by cases hb) (fun i j => rfl)⟩)
        · simp at hx'
          rcases hx' with rfl | rfl <;> omega
        · rcases Nat.lt_or_ge x' 6 with k | k
          · have hz := (by decide : ∀ b, b < 6 → Nat.testBit 192 b = false) x' k
            rw [hz] at hx'; cases hx'
          · exact k
        · simp at hx'
          rcases hx' with rfl | rfl <;> simp [or_bit, bit_self]
        · match j, hj with
          | 0, _ => exact w1 f
          | 1, _ => exact w2 f
      · rename_i g e opn sz ro p h e2 opn2 sz2 ro2 p2 k1 k2 k3 k4 k5
        cases he
        refine ⟨fun hq => hq.1, fun hq => ?_⟩
        obtain ⟨l1, l2, hx⟩ := hq.2
        obtain ⟨m1, w1⟩ := rowK_wo k4 l1
        obtain ⟨m2, w2⟩ := rowK_wo k5 l2
        have b1 := Nat.le_of_ble_eq_true k1
        have b3 := Nat.le_of_ble_eq_true k2
        have hne : b ≠ b2 := fun e => by rw [e, Nat.beq_refl] at k3; cases k3
        refine SndF.rows (N := 6) (bs := [b, b2]) (s0 := wS 6 [rowI 1 4 g e opn sz ro, rowI 1 3 h e2 opn2 sz2 ro2]) sng (st3_o0 ⟨c, g, e, opn, sz, ro, c2, h, e2, opn2, sz2, ro2, x⟩ hx) rfl rfl (fun x' hx' => ?_) (by simp [hne]) (by omega) (fun x' hx' _ => ?_) (fun x' hx' => ?_) (fun f j hj => ?_) (fun f _ hf => ?_)
        · simp at hx'
          rcases hx' with rfl | rfl <;> omega
        · rcases Nat.lt_or_ge x' 6 with k | k
          · have hz := (by decide : ∀ b, b < 6 → Nat.testBit 192 b = false) x' k
            rw [hz] at hx'; cases hx'
          · exact k
        · simp at hx'
          rcases hx' with rfl | rfl <;> simp [or_bit, bit_self]
        · match j, hj with
          | 0, _ => exact w1 f
          | 1, _ => exact w2 f
        · exact wvs_three (slice_wv (hf 0 (by simp))) (slice_wv (hf 1 (by simp))) (ground_wv (n := 8) rfl)
      · cases he
    · cases he
  · cases he
theorem rt3_o2 (h0 : cpV 4 y.g = 0) (h1 : feN (zx0 y) 3 0 = 0) (h2 : Pl.cr y.x (0 : Int) (24 : Int) = 0) (hz : ¬ (0 : Int) < y.x) : SndF Tryz.prog 52 (rt3Args y) (wS 6 (rt3S y)) (.tuple #[.slice (some ⟨8, 0, none⟩) 3 3, .int .i64 (0 : Int)]) (wS 6 (rt3S y ++ [.rows 3 1 (fun i j => .int .i64 ((rt3F y 3) i j)) 3 true 1 false])) 192 0 :=
  rt3f0_s y h0 h1 h2 (rt3_l0 y (zx4 y) (zx5 y) (by rw [rt3_w h2]; omega) (by have := st3_lt h2; rw [rt3_w h2]; omega) (rt3_in y h0 h1))
theorem rt3_o1 (h0 : cpV 4 y.g = 0) (h1 : feN (fun i => Pl.cr (y.h i 0) (-1000) 1000) 3 0 = 0) (h2 : Pl.cr y.x (0 : Int) (24 : Int) = 0) (hz : (0 : Int) < y.x) (hk : (∀ i, i < y.x.toNat → Pl.cr (rt3D y (i + 3)) (-1073741824 : Int) (1073741824 : Int) = 0)) : SndF Tryz.prog 52 (rt3Args y) (wS 6 (rt3S y)) (.tuple #[.slice (some ⟨8, 0, none⟩) ((y.x.toNat - 1) + 4) ((y.x.toNat - 1) + 4), .int .i64 (0 : Int)]) (wS 6 (rt3S y ++ [.rows ((y.x.toNat - 1) + 4) 1 (fun i j => .int .i64 ((rt3F y ((y.x.toNat - 1) + 4)) i j)) 3 true 1 false])) 192 0 := by
  have hx := st3_lt h2
  exact rt3f1_s y (y.x.toNat - 1) h0 h1 h2 (rt3_l1 y (feN (fun i => Pl.cr (y.h i 0) (-1000) 1000) 3 0) (Pl.cr y.x (0 : Int) (24 : Int)) (y.x.toNat - 1) (by rw [rt3_w h2]; omega) (by omega) (fun i hi => by
    rcases Nat.lt_or_ge i 3 with c0 | c0
    · exact rt3_in y h0 h1 i c0
    · have hk := hk (i - 3) (by omega)
      rw [show i - 3 + 3 = i by omega] at hk
      exact hk))
theorem rt3_o0 (hp : cpV 4 y.g ≠ 0 ∨ feN (fun i => Pl.cr (y.h i 0) (-1000) 1000) 3 0 ≠ 0 ∨ Pl.cr y.x (0 : Int) (24 : Int) ≠ 0 ∨ (∃ i, i < y.x.toNat ∧ Pl.cr (rt3D y (i + 3)) (-1073741824 : Int) (1073741824 : Int) ≠ 0)) : SndF Tryz.prog 52 (rt3Args y) (wS 6 (rt3S y)) (.tuple #[.slice none 0 0, .int .i64 (th2 (th2 (th2 (cpV 4 y.g) (feN (fun i => Pl.cr (y.h i 0) (-1000) 1000) 3 0)) (Pl.cr y.x (0 : Int) (24 : Int))) 4)]) (wS 6 (rt3S y)) 192 0 := by
  by_cases h0 : cpV 4 y.g = 0
  · by_cases h1 : feN (fun i => Pl.cr (y.h i 0) (-1000) 1000) 3 0 = 0
    · by_cases h2 : Pl.cr y.x (0 : Int) (24 : Int) = 0
      · have hx := st3_lt h2
        have ev : (th2 (th2 (th2 (cpV 4 y.g) (feN (fun i => Pl.cr (y.h i 0) (-1000) 1000) 3 0)) (Pl.cr y.x (0 : Int) (24 : Int))) 4) = 4 := by rw [h0, h1, h2]; rfl
        rw [ev]
        rcases first_or (p := fun i => Pl.cr (rt3D y (i + 3)) (-1073741824 : Int) (1073741824 : Int) ≠ 0) (fun _ => inferInstance) y.x.toNat with ha | ⟨j, hj, hb, hk⟩
        · rcases hp with k | k | k | ⟨i, k1, k2⟩
          · exact absurd h0 k
          · exact absurd h1 k
          · exact absurd h2 k
          · exact absurd k2 (ha i k1)
        · have hk : ∀ i, i < j → Pl.cr (rt3D y (i + 3)) (-1073741824 : Int) (1073741824 : Int) = 0 := fun i hi => Decidable.not_not.1 (hk i hi)
          skip
          have hb : Pl.cr (rt3EE y (feN (fun i => Pl.cr (y.h i 0) (-1000) 1000) 3 0) (Pl.cr y.x (0 : Int) (24 : Int)) (j + 3)) (-1073741824 : Int) (1073741824 : Int) ≠ 0 := hb
          rcases j with _ | q
          · exact rt3f2_s y h0 h1 h2 (rt3_b0 y (feN (fun i => Pl.cr (y.h i 0) (-1000) 1000) 3 0) (Pl.cr y.x (0 : Int) (24 : Int)) (by rw [rt3_w h2]; omega) (rt3_in y h0 h1) hb)
          · exact rt3f3_s y q h0 h1 h2 (rt3_b1 y (feN (fun i => Pl.cr (y.h i 0) (-1000) 1000) 3 0) (Pl.cr y.x (0 : Int) (24 : Int)) q (by rw [rt3_w h2]; omega) (by omega) (fun i hi => by
            rcases Nat.lt_or_ge i 3 with c0 | c0
            · exact rt3_in y h0 h1 i c0
            · have hk := hk (i - 3) (by omega)
              rw [show i - 3 + 3 = i by omega] at hk
              exact hk) hb)
      · have ev : (th2 (th2 (th2 (cpV 4 y.g) (feN (fun i => Pl.cr (y.h i 0) (-1000) 1000) 3 0)) (Pl.cr y.x (0 : Int) (24 : Int))) 4) = Pl.cr y.x (0 : Int) (24 : Int) := by
          rw [h0, h1, show th2 (th2 (0 : Int) 0) (Pl.cr y.x (0 : Int) (24 : Int)) = Pl.cr y.x (0 : Int) (24 : Int) from rfl]; exact if_neg h2
        rw [ev]; exact rt3f4_s y h0 h1 h2
    · have ev : (th2 (th2 (th2 (cpV 4 y.g) (feN (fun i => Pl.cr (y.h i 0) (-1000) 1000) 3 0)) (Pl.cr y.x (0 : Int) (24 : Int))) 4) = feN (fun i => Pl.cr (y.h i 0) (-1000) 1000) 3 0 := by
        rw [h0, show th2 (0 : Int) (feN (fun i => Pl.cr (y.h i 0) (-1000) 1000) 3 0) = feN (fun i => Pl.cr (y.h i 0) (-1000) 1000) 3 0 from rfl]
        unfold th2
        rw [if_neg h1, if_neg h1]
      rw [ev]; exact rt3f5_s y h0 h1
  · have ev : (th2 (th2 (th2 (cpV 4 y.g) (feN (fun i => Pl.cr (y.h i 0) (-1000) 1000) 3 0)) (Pl.cr y.x (0 : Int) (24 : Int))) 4) = cpV 4 y.g := by
      unfold th2
      rw [if_neg h0, if_neg h0, if_neg h0]
    rw [ev]; exact rt3f6_s y h0
def kT3 : CallS := fun f xs s q => match decide (f = 52) with
  | true => match xs.toList, q.rest with
    | [.slice (some ⟨b, 0, none⟩) 4 c, .slice (some ⟨b2, 0, none⟩) 3 c2, .int .i64 x], .n dd :: rest => match Nat.ble 6 b, Nat.ble 6 b2, Nat.beq b b2, rowK 1 .i64 s b 4, rowK 1 .i64 s b2 3, dd with
      | true, true, false, some (g, e, opn, sz, ro, p), some (h, e2, opn2, sz2, ro2, p2), 2 => some (.tuple #[.slice (some ⟨s.next, 0, none⟩) 3 3, .int .i64 (0 : Int)], s.push (.rows 3 1 (fun i j => .int .i64 ((rt3F ⟨c, g, e, opn, sz, ro, c2, h, e2, opn2, sz2, ro2, x⟩ 3) i j)) 3 true 1 false), 2 ^ b ||| 2 ^ b2, 0, ⟨rest, q.ob ∧ (p ∧ p2 ∧ (cpV 4 g = 0 ∧ feN (fun i => Pl.cr (h i 0) (-1000) 1000) 3 0 = 0 ∧ Pl.cr x (0 : Int) (24 : Int) = 0 ∧ ¬ (0 : Int) < x))⟩)
      | true, true, false, some (g, e, opn, sz, ro, p), some (h, e2, opn2, sz2, ro2, p2), 1 => some (.tuple #[.slice (some ⟨s.next, 0, none⟩) ((x.toNat - 1) + 4) ((x.toNat - 1) + 4), .int .i64 (0 : Int)], s.push (.rows ((x.toNat - 1) + 4) 1 (fun i j => .int .i64 ((rt3F ⟨c, g, e, opn, sz, ro, c2, h, e2, opn2, sz2, ro2, x⟩ ((x.toNat - 1) + 4)) i j)) 3 true 1 false), 2 ^ b ||| 2 ^ b2, 0, ⟨rest, q.ob ∧ (p ∧ p2 ∧ (cpV 4 g = 0 ∧ feN (fun i => Pl.cr (h i 0) (-1000) 1000) 3 0 = 0 ∧ Pl.cr x (0 : Int) (24 : Int) = 0 ∧ (0 : Int) < x ∧ (∀ i, i < x.toNat → Pl.cr (rt3D ⟨c, g, e, opn, sz, ro, c2, h, e2, opn2, sz2, ro2, x⟩ (i + 3)) (-1073741824 : Int) (1073741824 : Int) = 0)))⟩)
      | true, true, false, some (g, e, opn, sz, ro, p), some (h, e2, opn2, sz2, ro2, p2), 0 => some (.tuple #[.slice none 0 0, .int .i64 (th2 (th2 (th2 (cpV 4 g) (feN (fun i => Pl.cr (h i 0) (-1000) 1000) 3 0)) (Pl.cr x (0 : Int) (24 : Int))) 4)], s, 2 ^ b ||| 2 ^ b2, 0, ⟨rest, q.ob ∧ (p ∧ p2 ∧ (cpV 4 g ≠ 0 ∨ feN (fun i => Pl.cr (h i 0) (-1000) 1000) 3 0 ≠ 0 ∨ Pl.cr x (0 : Int) (24 : Int) ≠ 0 ∨ (∃ i, i < x.toNat ∧ Pl.cr (rt3D ⟨c, g, e, opn, sz, ro, c2, h, e2, opn2, sz2, ro2, x⟩ (i + 3)) (-1073741824 : Int) (1073741824 : Int) ≠ 0)))⟩)
      | _, _, _, _, _, _ => none
    | _, _ => none
  | false => none
theorem kT3_ok : FOkS Tryz.prog kT3 := fun f xs s q u s1 R W q1 he => by
  unfold kT3 at he
  split at he
  · rename_i hf
    have hf := of_decide_eq_true hf
    subst hf
    split at he
    · rename_i b c b2 c2 x dd rest hx0 hrest
      have hxs : xs = #[.slice (some ⟨b, 0, none⟩) 4 c, .slice (some ⟨b2, 0, none⟩) 3 c2, .int .i64 x] := by apply Array.ext'; exact hx0
      subst hxs
      split at he
      · rename_i g e opn sz ro p h e2 opn2 sz2 ro2 p2 k1 k2 k3 k4 k5
        cases he
        refine ⟨fun hq => hq.1, fun hq => ?_⟩
        obtain ⟨l1, l2, hx⟩ := hq.2
        obtain ⟨m1, w1⟩ := rowK_wo k4 l1
        obtain ⟨m2, w2⟩ := rowK_wo k5 l2
        have b1 := Nat.le_of_ble_eq_true k1
        have b3 := Nat.le_of_ble_eq_true k2
        have hne : b ≠ b2 := fun e => by rw [e, Nat.beq_refl] at k3; cases k3
        refine SndF.rowsNew (N := 6) (bs := [b, b2]) (s0 := wS 6 [rowI 1 4 g e opn sz ro, rowI 1 3 h e2 opn2 sz2 ro2]) (o1 := .rows 3 1 (fun i j => .int .i64 ((rt3F ⟨c, g, e, opn, sz, ro, c2, h, e2, opn2, sz2, ro2, x⟩ 3) i j)) 3 true 1 false) sng (rt3_o2 ⟨c, g, e, opn, sz, ro, c2, h, e2, opn2, sz2, ro2, x⟩ hx.1 hx.2.1 hx.2.2.1 hx.2.2.2) rfl (fun x' hx' => ?_) (by simp [hne]) (by omega) (fun x' hx' _ => ?_) (fun x' hx' => ?_) (fun f j hj => ?_) (fun f hl hf => wvs_three (slice_wv (hf 0 (by simp))) (slice_wv (hf 1 (by simp))) (ground_wv (n := 8) rfl)) (fun f _ hf hn => ⟨wv_tuple (wvs_two (slice_wv hn) (ground_wv (n := 8) rfl)), keep_wo (N := fun _ => false) (fun b hb => by cases hb) (fun i j => rfl)⟩)
        · simp at hx'
          rcases hx' with rfl | rfl <;> omega
        · rcases Nat.lt_or_ge x' 6 with k | k
          · have hz := (by decide : ∀ b, b < 6 → Nat.testBit 192 b = false) x' k
            rw [hz] at hx'; cases hx'
          · exact k
        · simp at hx'
          rcases hx' with rfl | rfl <;> simp [or_bit, bit_self]
        · match j, hj with
          | 0, _ => exact w1 f
          | 1, _ => exact w2 f
      · rename_i g e opn sz ro p h e2 opn2 sz2 ro2 p2 k1 k2 k3 k4 k5
        cases he
        refine ⟨fun hq => hq.1, fun hq => ?_⟩
        obtain ⟨l1, l2, hx⟩ := hq.2
        obtain ⟨m1, w1⟩ := rowK_wo k4 l1
        obtain ⟨m2, w2⟩ := rowK_wo k5 l2
        have b1 := Nat.le_of_ble_eq_true k1
        have b3 := Nat.le_of_ble_eq_true k2
        have hne : b ≠ b2 := fun e => by rw [e, Nat.beq_refl] at k3; cases k3
        refine SndF.rowsNew (N := 6) (bs := [b, b2]) (s0 := wS 6 [rowI 1 4 g e opn sz ro, rowI 1 3 h e2 opn2 sz2 ro2]) (o1 := .rows ((x.toNat - 1) + 4) 1 (fun i j => .int .i64 ((rt3F ⟨c, g, e, opn, sz, ro, c2, h, e2, opn2, sz2, ro2, x⟩ ((x.toNat - 1) + 4)) i j)) 3 true 1 false) sng (rt3_o1 ⟨c, g, e, opn, sz, ro, c2, h, e2, opn2, sz2, ro2, x⟩ hx.1 hx.2.1 hx.2.2.1 hx.2.2.2.1 hx.2.2.2.2) rfl (fun x' hx' => ?_) (by simp [hne]) (by omega) (fun x' hx' _ => ?_) (fun x' hx' => ?_) (fun f j hj => ?_) (fun f hl hf => wvs_three (slice_wv (hf 0 (by simp))) (slice_wv (hf 1 (by simp))) (ground_wv (n := 8) rfl)) (fun f _ hf hn => ⟨wv_tuple (wvs_two (slice_wv hn) (ground_wv (n := 8) rfl)), keep_wo (N := fun _ => false) (fun b hb => by cases hb) (fun i j => rfl)⟩)
        · simp at hx'
          rcases hx' with rfl | rfl <;> omega
        · rcases Nat.lt_or_ge x' 6 with k | k
          · have hz := (by decide : ∀ b, b < 6 → Nat.testBit 192 b = false) x' k
            rw [hz] at hx'; cases hx'
          · exact k
        · simp at hx'
          rcases hx' with rfl | rfl <;> simp [or_bit, bit_self]
        · match j, hj with
          | 0, _ => exact w1 f
          | 1, _ => exact w2 f
      · rename_i g e opn sz ro p h e2 opn2 sz2 ro2 p2 k1 k2 k3 k4 k5
        cases he
        refine ⟨fun hq => hq.1, fun hq => ?_⟩
        obtain ⟨l1, l2, hx⟩ := hq.2
        obtain ⟨m1, w1⟩ := rowK_wo k4 l1
        obtain ⟨m2, w2⟩ := rowK_wo k5 l2
        have b1 := Nat.le_of_ble_eq_true k1
        have b3 := Nat.le_of_ble_eq_true k2
        have hne : b ≠ b2 := fun e => by rw [e, Nat.beq_refl] at k3; cases k3
        refine SndF.rows (N := 6) (bs := [b, b2]) (s0 := wS 6 [rowI 1 4 g e opn sz ro, rowI 1 3 h e2 opn2 sz2 ro2]) sng (rt3_o0 ⟨c, g, e, opn, sz, ro, c2, h, e2, opn2, sz2, ro2, x⟩ hx) rfl rfl (fun x' hx' => ?_) (by simp [hne]) (by omega) (fun x' hx' _ => ?_) (fun x' hx' => ?_) (fun f j hj => ?_) (fun f _ hf => ?_)
        · simp at hx'
          rcases hx' with rfl | rfl <;> omega
        · rcases Nat.lt_or_ge x' 6 with k | k
          · have hz := (by decide : ∀ b, b < 6 → Nat.testBit 192 b = false) x' k
            rw [hz] at hx'; cases hx'
          · exact k
        · simp at hx'
          rcases hx' with rfl | rfl <;> simp [or_bit, bit_self]
        · match j, hj with
          | 0, _ => exact w1 f
          | 1, _ => exact w2 f
        · exact wvs_three (slice_wv (hf 0 (by simp))) (slice_wv (hf 1 (by simp))) (ground_wv (n := 8) rfl)
      · cases he
    · cases he
  · cases he
end
end Go.Proofs.YtbkpnhbcihcgaaaGreatDoor
end
section
set_option linter.all false
set_option maxRecDepth 1000000
open Go.RowKit
namespace Go.Proofs.YtbkpnhbcihcgaaaGreatDoor
open Mini
noncomputable section
variable (y : SV) (a0 : Int) (a1 : Int) (a2 : Int) (v0 : Int) (v1 : Int) (v2 : Int) (v3 : Int) (u0 : Int) (u1 : Int) (u2 : Int) (u3 : Int) (w0 : Int) (w1 : Int) (w2 : Int) (w3 : Int) (m9 : Nat) (i34 : Nat) (g6 : GI)
noncomputable def st4X : Code := loopAt Tryz.prog 50 0
noncomputable def st4K : CallS := kAll [c_range, c_rrange, c_index]
def st4A (a0 : Int) (a1 : Int) (a2 : Int) (v0 : Int) (v1 : Int) (v2 : Int) (v3 : Int) (u0 : Int) (u1 : Int) (u2 : Int) (u3 : Int) (w0 : Int) (w1 : Int) (w2 : Int) (w3 : Int) : MA := MA.ofL 64 (jl [] 9 (jl [.slice (some ⟨9, 0, none⟩) 4 4, .slice (some ⟨11, 0, none⟩) 4 4] 22 (jl [.int .i64 y.x, .int .i64 (0 : Int)] 29 []))) []
abbrev zi0 : List MObj := [.rows 5 1 (fun i j => .int .i64 (y.g i j)) y.e y.opn y.sz y.ro, .rows 4 1 (fun i j => .int .i64 (y.h i j)) y.e2 y.opn2 y.sz2 y.ro2, .cells [.int .i64 a0, .int .i64 a1, .int .i64 a2] 26 false 0 false, .cells [.int .i64 v0, .int .i64 v1, .int .i64 v2, .int .i64 v3] 3 false 0 false, .cells [.int .i64 u0, .int .i64 u1, .int .i64 u2, .int .i64 u3] 155 false 0 false, .cells [.int .i64 w0, .int .i64 w1, .int .i64 w2, .int .i64 w3] 155 false 0 false]
def st4L : List MObj := (zi0 y a0 a1 a2 v0 v1 v2 v3 u0 u1 u2 u3 w0 w1 w2 w3)
def st4A1 (a0 : Int) (a1 : Int) (a2 : Int) (v0 : Int) (v1 : Int) (v2 : Int) (v3 : Int) (u0 : Int) (u1 : Int) (u2 : Int) (u3 : Int) (w0 : Int) (w1 : Int) (w2 : Int) (w3 : Int) (m9 : Nat) (i34 : Nat) (g6 : GI) : MA := MA.ofL 64 (jl [] 9 (jl [.slice (some ⟨12, 0, none⟩) (m9 + 5) (m9 + 5), .slice (some ⟨11, 0, none⟩) 4 4] 22 (jl [.int .i64 y.x, .int .i64 ((i34 : Nat) : Int)] 29 []))) []
abbrev zi1 : List MObj := [.rows 5 1 (fun i j => .int .i64 (y.g i j)) y.e y.opn y.sz y.ro, .rows 4 1 (fun i j => .int .i64 (y.h i j)) y.e2 y.opn2 y.sz2 y.ro2, .cells [.int .i64 a0, .int .i64 a1, .int .i64 a2] 26 false 0 false, .cells [.int .i64 v0, .int .i64 v1, .int .i64 v2, .int .i64 v3] 3 false 0 false, .cells [.int .i64 u0, .int .i64 u1, .int .i64 u2, .int .i64 u3] 155 false 0 false, .cells [.int .i64 w0, .int .i64 w1, .int .i64 w2, .int .i64 w3] 155 false 0 false, .rows (m9 + 5) 1 (fun i j => .int .i64 (g6 i j)) 3 true 1 false]
def st4L1 (i34 : Nat) (g6 : GI) : List MObj := (zi1 y a0 a1 a2 v0 v1 v2 v3 u0 u1 u2 u3 w0 w1 w2 w3 m9 g6)
noncomputable def st4r0 : Option OutCS := evK Tryz.prog st4K 1000 false st4X (st4A y a0 a1 a2 v0 v1 v2 v3 u0 u1 u2 u3 w0 w1 w2 w3) (wS 6 (st4L y a0 a1 a2 v0 v1 v2 v3 u0 u1 u2 u3 w0 w1 w2 w3)) ⟨[1, 1, 0, 0, 1, 1, 1, 1, 2, 2, 1, 3, 3, 0, 0], True⟩
noncomputable def st4r1 : Option OutCS := evK Tryz.prog st4K 1000 false st4X (st4A y a0 a1 a2 v0 v1 v2 v3 u0 u1 u2 u3 w0 w1 w2 w3) (wS 6 (st4L y a0 a1 a2 v0 v1 v2 v3 u0 u1 u2 u3 w0 w1 w2 w3)) ⟨[1, 1, 0, 0, 1, 1, 1, 1, 2, 2, 1, 3, 3, 0, 1], True⟩
abbrev zi2 := jl [] 6 (jl [.slice none 0 0, .int .i64 (4 : Int)] 56 [])
def st4r1E (y : SV) (a0 : Int) (a1 : Int) (a2 : Int) (v0 : Int) (v1 : Int) (v2 : Int) (v3 : Int) (u0 : Int) (u1 : Int) (u2 : Int) (u3 : Int) (w0 : Int) (w1 : Int) (w2 : Int) (w3 : Int) : MA := MA.ofL 64 zi2 []
noncomputable def st4r2 : Option OutCS := evK Tryz.prog st4K 1000 false st4X (st4A y a0 a1 a2 v0 v1 v2 v3 u0 u1 u2 u3 w0 w1 w2 w3) (wS 6 (st4L y a0 a1 a2 v0 v1 v2 v3 u0 u1 u2 u3 w0 w1 w2 w3)) ⟨[0], True⟩
def st4r2E (y : SV) (a0 : Int) (a1 : Int) (a2 : Int) (v0 : Int) (v1 : Int) (v2 : Int) (v3 : Int) (u0 : Int) (u1 : Int) (u2 : Int) (u3 : Int) (w0 : Int) (w1 : Int) (w2 : Int) (w3 : Int) : MA := MA.ofL 64 (jl [] 9 (jl [.slice (some ⟨9, 0, none⟩) 4 4] 54 [])) []
noncomputable def st4r3 : Option OutCS := evK Tryz.prog st4K 1000 false st4X (st4A1 y a0 a1 a2 v0 v1 v2 v3 u0 u1 u2 u3 w0 w1 w2 w3 m9 i34 g6) (wS 6 (st4L1 y a0 a1 a2 v0 v1 v2 v3 u0 u1 u2 u3 w0 w1 w2 w3 m9 i34 g6)) ⟨[1, 1, 0, .azz (.int .i64 ((i34 : Nat) : Int)), .row i34 0, .row i34 0, 1, 1, .azz (.int .i64 ((i34 + 1 : Nat) : Int)), .row (i34 + 1) 0, .row (i34 + 1) 0, 1, 2, .azz (.int .i64 ((i34 + 2 : Nat) : Int)), .row (i34 + 2) 0, .row (i34 + 2) 0, 1, 3, .azz (.int .i64 ((i34 + 3 : Nat) : Int)), .row (i34 + 3) 0, .row (i34 + 3) 0, 0, 0, .row 0 0, .azz (.int .i64 ((i34 + 1 : Nat) : Int))], True⟩
noncomputable def st4r4 : Option OutCS := evK Tryz.prog st4K 1000 false st4X (st4A1 y a0 a1 a2 v0 v1 v2 v3 u0 u1 u2 u3 w0 w1 w2 w3 m9 i34 g6) (wS 6 (st4L1 y a0 a1 a2 v0 v1 v2 v3 u0 u1 u2 u3 w0 w1 w2 w3 m9 i34 g6)) ⟨[1, 1, 0, .azz (.int .i64 ((i34 : Nat) : Int)), .row i34 0, .row i34 0, 1, 1, .azz (.int .i64 ((i34 + 1 : Nat) : Int)), .row (i34 + 1) 0, .row (i34 + 1) 0, 1, 2, .azz (.int .i64 ((i34 + 2 : Nat) : Int)), .row (i34 + 2) 0, .row (i34 + 2) 0, 1, 3, .azz (.int .i64 ((i34 + 3 : Nat) : Int)), .row (i34 + 3) 0, .row (i34 + 3) 0, 0, 1], True⟩
def st4r4E (y : SV) (a0 : Int) (a1 : Int) (a2 : Int) (v0 : Int) (v1 : Int) (v2 : Int) (v3 : Int) (u0 : Int) (u1 : Int) (u2 : Int) (u3 : Int) (w0 : Int) (w1 : Int) (w2 : Int) (w3 : Int) (m9 : Nat) (i34 : Nat) (g6 : GI) : MA := MA.ofL 64 zi2 []
noncomputable def st4r5 : Option OutCS := evK Tryz.prog st4K 1000 false st4X (st4A1 y a0 a1 a2 v0 v1 v2 v3 u0 u1 u2 u3 w0 w1 w2 w3 m9 i34 g6) (wS 6 (st4L1 y a0 a1 a2 v0 v1 v2 v3 u0 u1 u2 u3 w0 w1 w2 w3 m9 i34 g6)) ⟨[0], True⟩
def st4r5E (y : SV) (a0 : Int) (a1 : Int) (a2 : Int) (v0 : Int) (v1 : Int) (v2 : Int) (v3 : Int) (u0 : Int) (u1 : Int) (u2 : Int) (u3 : Int) (w0 : Int) (w1 : Int) (w2 : Int) (w3 : Int) (m9 : Nat) (i34 : Nat) (g6 : GI) : MA := MA.ofL 64 (jl [] 9 (jl [.slice (some ⟨12, 0, none⟩) (m9 + 5) (m9 + 5)] 54 [])) []
theorem st4K_ok : FOkS Tryz.prog st4K := kAll_ok _ ⟨k_range, k_rrange, k_index, trivial⟩
abbrev zi3 := IntKind.i64.wrap ((IntKind.i64.wrap ((IntKind.i64.wrap ((IntKind.i64.wrap ((0 : Int) + (IntKind.i64.wrap (w0 * v0)))) + (IntKind.i64.wrap (w1 * v1)))) + (IntKind.i64.wrap (w2 * v2)))) + (IntKind.i64.wrap (w3 * v3)))
abbrev zi4 := fun i j => ([v0, v1, v2, v3, (zi3 v0 v1 v2 v3 w0 w1 w2 w3)] : List Int).getD (i * 1 + j) 0
abbrev zi5 : List MObj := [.rows 5 1 (fun i j => .int .i64 (y.g i j)) y.e y.opn y.sz y.ro, .rows 4 1 (fun i j => .int .i64 (y.h i j)) y.e2 y.opn2 y.sz2 y.ro2, .cells [.int .i64 a0, .int .i64 a1, .int .i64 a2] 26 false 0 false, .cells [.int .i64 v0, .int .i64 v1, .int .i64 v2, .int .i64 v3] 3 false 0 false, .cells [.int .i64 u0, .int .i64 u1, .int .i64 u2, .int .i64 u3] 155 false 0 false, .cells [.int .i64 w0, .int .i64 w1, .int .i64 w2, .int .i64 w3] 155 false 0 false, .cells [.int .i64 v0, .int .i64 v1, .int .i64 v2, .int .i64 v3, .int .i64 (zi3 v0 v1 v2 v3 w0 w1 w2 w3)] 3 true 1 false]
abbrev zi6 := (decide ((0 : Int) < (((4 : Nat)) : Int))) = true
abbrev zi7 := (decide ((IntKind.i64.wrap ((0 : Int) + (1 : Int))) < (((4 : Nat)) : Int))) = true
abbrev zi8 := (IntKind.i64.wrap ((0 : Int) + (1 : Int))) = (Int.ofNat 1)
abbrev zi9 := IntKind.i64.wrap ((IntKind.i64.wrap ((0 : Int) + (1 : Int))) + (1 : Int))
abbrev zi10 := (decide (zi9 < (((4 : Nat)) : Int))) = true
abbrev zi11 := zi9 = (Int.ofNat 2)
abbrev zi12 := IntKind.i64.wrap (zi9 + (1 : Int))
abbrev zi13 := (decide (zi12 < (((4 : Nat)) : Int))) = true
abbrev zi14 := zi12 = (Int.ofNat 3)
abbrev zi15 := (decide ((IntKind.i64.wrap (zi12 + (1 : Int))) < (((4 : Nat)) : Int))) = false
abbrev zi16 := ((((((((((((((True ∧ ((decide ((0 : Int) < y.x)) = true)) ∧ zi6) ∧ ((0 : Int) = (Int.ofNat 0))) ∧ ((IntKind.i64.wrap ((0 : Int) + (0 : Int))) = (Int.ofNat 0))) ∧ zi7) ∧ zi8) ∧ ((IntKind.i64.wrap ((0 : Int) + (IntKind.i64.wrap ((0 : Int) + (1 : Int))))) = (Int.ofNat 1))) ∧ zi10) ∧ zi11) ∧ ((IntKind.i64.wrap ((0 : Int) + zi9)) = (Int.ofNat 2))) ∧ zi13) ∧ zi14) ∧ ((IntKind.i64.wrap ((0 : Int) + zi12)) = (Int.ofNat 3))) ∧ zi15) ∧ True
abbrev zi17 := (Pl.cr (zi3 v0 v1 v2 v3 w0 w1 w2 w3) (- (1073741824 : Int)) (1073741824 : Int)) != (0 : Int)
theorem st4r0_eq : seenK 6 6 [13] 25769805312 4096 (st4r0 y a0 a1 a2 v0 v1 v2 v3 u0 u1 u2 u3 w0 w1 w2 w3) = some (.normal, st4A1 y a0 a1 a2 v0 v1 v2 v3 u0 u1 u2 u3 w0 w1 w2 w3 0 1 (zi4 v0 v1 v2 v3 w0 w1 w2 w3), (zi5 y a0 a1 a2 v0 v1 v2 v3 u0 u1 u2 u3 w0 w1 w2 w3), 4096, ⟨[], ((zi16 y) ∧ ((zi17 v0 v1 v2 v3 w0 w1 w2 w3) = false))⟩) := by kernel_rfl
abbrev zi18 := Pl.cr (zi3 v0 v1 v2 v3 w0 w1 w2 w3) (-1073741824 : Int) (1073741824 : Int)
theorem st4r0_k (h0 : (0 : Int) < y.x) (h1 : (zi18 v0 v1 v2 v3 w0 w1 w2 w3) = (0 : Int)) : KC Tryz.prog none st4X (st4A y a0 a1 a2 v0 v1 v2 v3 u0 u1 u2 u3 w0 w1 w2 w3).act (wS 6 (st4L y a0 a1 a2 v0 v1 v2 v3 u0 u1 u2 u3 w0 w1 w2 w3)) .normal (st4A1 y a0 a1 a2 v0 v1 v2 v3 u0 u1 u2 u3 w0 w1 w2 w3 0 1 (zi4 v0 v1 v2 v3 w0 w1 w2 w3)).act (wS 6 (st4L1 y a0 a1 a2 v0 v1 v2 v3 u0 u1 u2 u3 w0 w1 w2 w3 0 1 (zi4 v0 v1 v2 v3 w0 w1 w2 w3))) 12 4096 := by
  refine KT.toldAs (L := (zi5 y a0 a1 a2 v0 v1 v2 v3 u0 u1 u2 u3 w0 w1 w2 w3)) ?_ (by
    simp only [List.map_cons, List.map_nil, st4L, st4L1]
    all_goals exact kr)
  exact seenK_ok smx st4K_ok sng (st4r0_eq y a0 a1 a2 v0 v1 v2 v3 u0 u1 u2 u3 w0 w1 w2 w3) kq
theorem st4r1_eq : seenK 6 6 [] 192 4096 (st4r1 y a0 a1 a2 v0 v1 v2 v3 u0 u1 u2 u3 w0 w1 w2 w3) = some (.ret, st4r1E y a0 a1 a2 v0 v1 v2 v3 u0 u1 u2 u3 w0 w1 w2 w3, (zi0 y a0 a1 a2 v0 v1 v2 v3 u0 u1 u2 u3 w0 w1 w2 w3), 4096, ⟨[], ((zi16 y) ∧ ((zi17 v0 v1 v2 v3 w0 w1 w2 w3) = true))⟩) := by kernel_rfl
abbrev zi19 := wS 6 (zi0 y a0 a1 a2 v0 v1 v2 v3 u0 u1 u2 u3 w0 w1 w2 w3)
theorem st4r1_k (h0 : (0 : Int) < y.x) (h1 : (zi18 v0 v1 v2 v3 w0 w1 w2 w3) ≠ (0 : Int)) : KC Tryz.prog none st4X (st4A y a0 a1 a2 v0 v1 v2 v3 u0 u1 u2 u3 w0 w1 w2 w3).act (wS 6 (st4L y a0 a1 a2 v0 v1 v2 v3 u0 u1 u2 u3 w0 w1 w2 w3)) .ret (st4r1E y a0 a1 a2 v0 v1 v2 v3 u0 u1 u2 u3 w0 w1 w2 w3).act (zi19 y a0 a1 a2 v0 v1 v2 v3 u0 u1 u2 u3 w0 w1 w2 w3) 12 4096 :=
  seenK_ok smx st4K_ok sng (st4r1_eq y a0 a1 a2 v0 v1 v2 v3 u0 u1 u2 u3 w0 w1 w2 w3) kq
theorem st4r2_eq : seenK 6 6 [] 512 4096 (st4r2 y a0 a1 a2 v0 v1 v2 v3 u0 u1 u2 u3 w0 w1 w2 w3) = some ((.exit 0), st4r2E y a0 a1 a2 v0 v1 v2 v3 u0 u1 u2 u3 w0 w1 w2 w3, (zi0 y a0 a1 a2 v0 v1 v2 v3 u0 u1 u2 u3 w0 w1 w2 w3), 4096, ⟨[], (True ∧ ((decide ((0 : Int) < y.x)) = false))⟩) := by kernel_rfl
theorem st4r2_k (h0 : ¬ (0 : Int) < y.x) : KC Tryz.prog none st4X (st4A y a0 a1 a2 v0 v1 v2 v3 u0 u1 u2 u3 w0 w1 w2 w3).act (wS 6 (st4L y a0 a1 a2 v0 v1 v2 v3 u0 u1 u2 u3 w0 w1 w2 w3)) (.exit 0) (st4r2E y a0 a1 a2 v0 v1 v2 v3 u0 u1 u2 u3 w0 w1 w2 w3).act (zi19 y a0 a1 a2 v0 v1 v2 v3 u0 u1 u2 u3 w0 w1 w2 w3) 12 4096 :=
  seenK_ok smx st4K_ok sng (st4r2_eq y a0 a1 a2 v0 v1 v2 v3 u0 u1 u2 u3 w0 w1 w2 w3) kq
abbrev zi20 := IntKind.i64.wrap ((IntKind.i64.wrap ((IntKind.i64.wrap ((IntKind.i64.wrap ((0 : Int) + (IntKind.i64.wrap (w0 * (g6 i34 0))))) + (IntKind.i64.wrap (w1 * (g6 (i34 + 1) 0))))) + (IntKind.i64.wrap (w2 * (g6 (i34 + 2) 0))))) + (IntKind.i64.wrap (w3 * (g6 (i34 + 3) 0))))
abbrev zi21 := pushI (m9 + 5) g6 [(zi20 w0 w1 w2 w3 i34 g6)]
abbrev zi22 : List MObj := [.rows 5 1 (fun i j => .int .i64 (y.g i j)) y.e y.opn y.sz y.ro, .rows 4 1 (fun i j => .int .i64 (y.h i j)) y.e2 y.opn2 y.sz2 y.ro2, .cells [.int .i64 a0, .int .i64 a1, .int .i64 a2] 26 false 0 false, .cells [.int .i64 v0, .int .i64 v1, .int .i64 v2, .int .i64 v3] 3 false 0 false, .cells [.int .i64 u0, .int .i64 u1, .int .i64 u2, .int .i64 u3] 155 false 0 false, .cells [.int .i64 w0, .int .i64 w1, .int .i64 w2, .int .i64 w3] 155 false 0 false, .rows (m9 + 6) 1 (fun i j => tellV (invN 12 [14]) 8 ((pushRow (m9 + 5) 1 (fun i j => .int .i64 (g6 i j)) [.int .i64 (zi20 w0 w1 w2 w3 i34 g6)]) i j)) 3 true 1 false]
abbrev zi23 := ((((((((((((((((((((((True ∧ ((decide ((((i34 : Nat)) : Int) < y.x)) = true)) ∧ zi6) ∧ ((0 : Int) = (Int.ofNat 0))) ∧ (((.int .i64 (IntKind.i64.wrap ((((i34 : Nat)) : Int) + (0 : Int)))) : Value) = (.int .i64 (((i34 : Nat)) : Int)))) ∧ (((((i34 : Nat)) : Int) = (Int.ofNat i34)) ∧ (i34 < (m9 + 5)))) ∧ (((0 + (i34 * 1)) = ((i34 * 1) + 0)) ∧ (i34 < (m9 + 5)))) ∧ zi7) ∧ zi8) ∧ (((.int .i64 (IntKind.i64.wrap ((((i34 : Nat)) : Int) + (IntKind.i64.wrap ((0 : Int) + (1 : Int)))))) : Value) = (.int .i64 ((((i34 + 1) : Nat)) : Int)))) ∧ ((((((i34 + 1) : Nat)) : Int) = (Int.ofNat (i34 + 1))) ∧ ((i34 + 1) < (m9 + 5)))) ∧ (((0 + ((i34 + 1) * 1)) = (((i34 + 1) * 1) + 0)) ∧ ((i34 + 1) < (m9 + 5)))) ∧ zi10) ∧ zi11) ∧ (((.int .i64 (IntKind.i64.wrap ((((i34 : Nat)) : Int) + zi9))) : Value) = (.int .i64 ((((i34 + 2) : Nat)) : Int)))) ∧ ((((((i34 + 2) : Nat)) : Int) = (Int.ofNat (i34 + 2))) ∧ ((i34 + 2) < (m9 + 5)))) ∧ (((0 + ((i34 + 2) * 1)) = (((i34 + 2) * 1) + 0)) ∧ ((i34 + 2) < (m9 + 5)))) ∧ zi13) ∧ zi14) ∧ (((.int .i64 (IntKind.i64.wrap ((((i34 : Nat)) : Int) + zi12))) : Value) = (.int .i64 ((((i34 + 3) : Nat)) : Int)))) ∧ ((((((i34 + 3) : Nat)) : Int) = (Int.ofNat (i34 + 3))) ∧ ((i34 + 3) < (m9 + 5)))) ∧ (((0 + ((i34 + 3) * 1)) = (((i34 + 3) * 1) + 0)) ∧ ((i34 + 3) < (m9 + 5)))) ∧ zi15) ∧ True
abbrev zi24 := (Pl.cr (zi20 w0 w1 w2 w3 i34 g6) (- (1073741824 : Int)) (1073741824 : Int)) != (0 : Int)
theorem st4r3_eq : seenK 6 6 [14] 25769805312 4096 (st4r3 y a0 a1 a2 v0 v1 v2 v3 u0 u1 u2 u3 w0 w1 w2 w3 m9 i34 g6) = some (.normal, st4A1 y a0 a1 a2 v0 v1 v2 v3 u0 u1 u2 u3 w0 w1 w2 w3 (m9 + 1) (i34 + 1) (zi21 w0 w1 w2 w3 m9 i34 g6), (zi22 y a0 a1 a2 v0 v1 v2 v3 u0 u1 u2 u3 w0 w1 w2 w3 m9 i34 g6), 4096, ⟨[], ((((zi23 y m9 i34) ∧ ((zi24 w0 w1 w2 w3 i34 g6) = false)) ∧ (((m9 + 5) = (m9 + 5)) ∧ (((m9 + 5) = (m9 + 5)) ∧ ((((m9 + 5) + 1) * 8) ≤ (140737488355328 : Nat))))) ∧ (((.int .i64 (IntKind.i64.wrap ((((i34 : Nat)) : Int) + (1 : Int)))) : Value) = (.int .i64 ((((i34 + 1) : Nat)) : Int))))⟩) := by kernel_rfl
abbrev zi25 := Pl.cr (zi20 w0 w1 w2 w3 i34 g6) (-1073741824 : Int) (1073741824 : Int)
theorem st4r3_k (hx : i34 = m9 + 1) (hb : m9 ≤ 1000) (h0 : ((i34 : Nat) : Int) < y.x) (h1 : (zi25 w0 w1 w2 w3 i34 g6) = (0 : Int)) : KC Tryz.prog none st4X (st4A1 y a0 a1 a2 v0 v1 v2 v3 u0 u1 u2 u3 w0 w1 w2 w3 m9 i34 g6).act (wS 6 (st4L1 y a0 a1 a2 v0 v1 v2 v3 u0 u1 u2 u3 w0 w1 w2 w3 m9 i34 g6)) .normal (st4A1 y a0 a1 a2 v0 v1 v2 v3 u0 u1 u2 u3 w0 w1 w2 w3 (m9 + 1) (i34 + 1) (zi21 w0 w1 w2 w3 m9 i34 g6)).act (wS 6 (st4L1 y a0 a1 a2 v0 v1 v2 v3 u0 u1 u2 u3 w0 w1 w2 w3 (m9 + 1) (i34 + 1) (zi21 w0 w1 w2 w3 m9 i34 g6))) 12 4096 := by
  refine KT.toldAs (L := (zi22 y a0 a1 a2 v0 v1 v2 v3 u0 u1 u2 u3 w0 w1 w2 w3 m9 i34 g6)) ?_ (by
    simp only [List.map_cons, List.map_nil, st4L, st4L1]
    all_goals exact kr)
  exact seenK_ok smx st4K_ok sng (st4r3_eq y a0 a1 a2 v0 v1 v2 v3 u0 u1 u2 u3 w0 w1 w2 w3 m9 i34 g6) kq
theorem st4r4_eq : seenK 6 6 [] 192 4096 (st4r4 y a0 a1 a2 v0 v1 v2 v3 u0 u1 u2 u3 w0 w1 w2 w3 m9 i34 g6) = some (.ret, st4r4E y a0 a1 a2 v0 v1 v2 v3 u0 u1 u2 u3 w0 w1 w2 w3 m9 i34 g6, (zi0 y a0 a1 a2 v0 v1 v2 v3 u0 u1 u2 u3 w0 w1 w2 w3), 4096, ⟨[], ((zi23 y m9 i34) ∧ ((zi24 w0 w1 w2 w3 i34 g6) = true))⟩) := by kernel_rfl
theorem st4r4_k (hx : i34 = m9 + 1) (hb : m9 ≤ 1000) (h0 : ((i34 : Nat) : Int) < y.x) (h1 : (zi25 w0 w1 w2 w3 i34 g6) ≠ (0 : Int)) : KC Tryz.prog none st4X (st4A1 y a0 a1 a2 v0 v1 v2 v3 u0 u1 u2 u3 w0 w1 w2 w3 m9 i34 g6).act (wS 6 (st4L1 y a0 a1 a2 v0 v1 v2 v3 u0 u1 u2 u3 w0 w1 w2 w3 m9 i34 g6)) .ret (st4r4E y a0 a1 a2 v0 v1 v2 v3 u0 u1 u2 u3 w0 w1 w2 w3 m9 i34 g6).act (zi19 y a0 a1 a2 v0 v1 v2 v3 u0 u1 u2 u3 w0 w1 w2 w3) 12 4096 :=
  seenK_ok smx st4K_ok sng (st4r4_eq y a0 a1 a2 v0 v1 v2 v3 u0 u1 u2 u3 w0 w1 w2 w3 m9 i34 g6) kq
theorem st4r5_eq : seenK 6 6 [12] 512 4096 (st4r5 y a0 a1 a2 v0 v1 v2 v3 u0 u1 u2 u3 w0 w1 w2 w3 m9 i34 g6) = some ((.exit 0), st4r5E y a0 a1 a2 v0 v1 v2 v3 u0 u1 u2 u3 w0 w1 w2 w3 m9 i34 g6, (zi1 y a0 a1 a2 v0 v1 v2 v3 u0 u1 u2 u3 w0 w1 w2 w3 m9 g6), 4096, ⟨[], (True ∧ ((decide ((((i34 : Nat)) : Int) < y.x)) = false))⟩) := by kernel_rfl
theorem st4r5_k (hx : i34 = m9 + 1) (hb : m9 ≤ 1000) (h0 : ¬ ((i34 : Nat) : Int) < y.x) : KC Tryz.prog none st4X (st4A1 y a0 a1 a2 v0 v1 v2 v3 u0 u1 u2 u3 w0 w1 w2 w3 m9 i34 g6).act (wS 6 (st4L1 y a0 a1 a2 v0 v1 v2 v3 u0 u1 u2 u3 w0 w1 w2 w3 m9 i34 g6)) (.exit 0) (st4r5E y a0 a1 a2 v0 v1 v2 v3 u0 u1 u2 u3 w0 w1 w2 w3 m9 i34 g6).act (wS 6 (zi1 y a0 a1 a2 v0 v1 v2 v3 u0 u1 u2 u3 w0 w1 w2 w3 m9 g6)) 12 4096 := by
  refine KT.toldAs (L := (zi1 y a0 a1 a2 v0 v1 v2 v3 u0 u1 u2 u3 w0 w1 w2 w3 m9 g6)) ?_ (by
    simp only [List.map_cons, List.map_nil, st4L, st4L1]
    all_goals exact kr)
  exact seenK_ok smx st4K_ok sng (st4r5_eq y a0 a1 a2 v0 v1 v2 v3 u0 u1 u2 u3 w0 w1 w2 w3 m9 i34 g6) kq
end
end Go.Proofs.YtbkpnhbcihcgaaaGreatDoor
end
section
set_option linter.all false
set_option maxRecDepth 1000000
open Go.RowKit
namespace Go.Proofs.YtbkpnhbcihcgaaaGreatDoor
open Mini
noncomputable section
variable (y : SV) (a0 : Int) (a1 : Int) (a2 : Int) (v0 : Int) (v1 : Int) (v2 : Int) (v3 : Int) (u0 : Int) (u1 : Int) (u2 : Int) (u3 : Int) (w0 : Int) (w1 : Int) (w2 : Int) (w3 : Int) (mm : Nat) (jj : Nat) (i : Nat)
abbrev zq0 := IntKind.i64.wrap ((IntKind.i64.wrap ((IntKind.i64.wrap ((IntKind.i64.wrap ((0 : Int) + (IntKind.i64.wrap (w0 * v0)))) + (IntKind.i64.wrap (w1 * v1)))) + (IntKind.i64.wrap (w2 * v2)))) + (IntKind.i64.wrap (w3 * v3)))
def st4RR (y : SV) (a0 : Int) (a1 : Int) (a2 : Int) (v0 : Int) (v1 : Int) (v2 : Int) (v3 : Int) (u0 : Int) (u1 : Int) (u2 : Int) (u3 : Int) (w0 : Int) (w1 : Int) (w2 : Int) (w3 : Int) : Nat → Nat → Nat → Int
  | 0 => (fun i j => ([v0, v1, v2, v3, (zq0 v0 v1 v2 v3 w0 w1 w2 w3)] : List Int).getD (i * 1 + j) 0)
  | q + 1 => pushI (q + 5) (st4RR y a0 a1 a2 v0 v1 v2 v3 u0 u1 u2 u3 w0 w1 w2 w3 q) [(IntKind.i64.wrap ((IntKind.i64.wrap ((IntKind.i64.wrap ((IntKind.i64.wrap ((0 : Int) + (IntKind.i64.wrap (w0 * ((st4RR y a0 a1 a2 v0 v1 v2 v3 u0 u1 u2 u3 w0 w1 w2 w3 q) (q + 1) 0))))) + (IntKind.i64.wrap (w1 * ((st4RR y a0 a1 a2 v0 v1 v2 v3 u0 u1 u2 u3 w0 w1 w2 w3 q) ((q + 1) + 1) 0))))) + (IntKind.i64.wrap (w2 * ((st4RR y a0 a1 a2 v0 v1 v2 v3 u0 u1 u2 u3 w0 w1 w2 w3 q) ((q + 1) + 2) 0))))) + (IntKind.i64.wrap (w3 * ((st4RR y a0 a1 a2 v0 v1 v2 v3 u0 u1 u2 u3 w0 w1 w2 w3 q) ((q + 1) + 3) 0)))))]
def st4EE : Nat → Int
  | 0 => (zq0 v0 v1 v2 v3 w0 w1 w2 w3)
  | q + 1 => (IntKind.i64.wrap ((IntKind.i64.wrap ((IntKind.i64.wrap ((IntKind.i64.wrap ((0 : Int) + (IntKind.i64.wrap (w0 * ((st4RR y a0 a1 a2 v0 v1 v2 v3 u0 u1 u2 u3 w0 w1 w2 w3 q) (q + 1) 0))))) + (IntKind.i64.wrap (w1 * ((st4RR y a0 a1 a2 v0 v1 v2 v3 u0 u1 u2 u3 w0 w1 w2 w3 q) ((q + 1) + 1) 0))))) + (IntKind.i64.wrap (w2 * ((st4RR y a0 a1 a2 v0 v1 v2 v3 u0 u1 u2 u3 w0 w1 w2 w3 q) ((q + 1) + 2) 0))))) + (IntKind.i64.wrap (w3 * ((st4RR y a0 a1 a2 v0 v1 v2 v3 u0 u1 u2 u3 w0 w1 w2 w3 q) ((q + 1) + 3) 0)))))
def st4AA : MA := match i with
  | 0 => st4A y a0 a1 a2 v0 v1 v2 v3 u0 u1 u2 u3 w0 w1 w2 w3
  | q + 1 => st4A1 y a0 a1 a2 v0 v1 v2 v3 u0 u1 u2 u3 w0 w1 w2 w3 q (q + 1) (st4RR y a0 a1 a2 v0 v1 v2 v3 u0 u1 u2 u3 w0 w1 w2 w3 q)
def st4LL : List MObj := match i with
  | 0 => st4L y a0 a1 a2 v0 v1 v2 v3 u0 u1 u2 u3 w0 w1 w2 w3
  | q + 1 => st4L1 y a0 a1 a2 v0 v1 v2 v3 u0 u1 u2 u3 w0 w1 w2 w3 q (q + 1) (st4RR y a0 a1 a2 v0 v1 v2 v3 u0 u1 u2 u3 w0 w1 w2 w3 q)
abbrev zq1 := feN (fun i => Pl.cr (y.h i 0) (-1000) 1000) 4 0
abbrev zq2 := Pl.cr y.x (0 : Int) (24 : Int)
abbrev zq3 := IntKind.i64.wrap ((y.h 1 0) * (IntKind.i64.wrap ((1 : Int) * (y.g 4 0))))
abbrev zq4 := IntKind.i64.wrap ((IntKind.i64.wrap ((1 : Int) * (y.g 4 0))) * (y.g 4 0))
abbrev zq5 := IntKind.i64.wrap ((y.h 2 0) * (zq4 y))
abbrev zq6 := IntKind.i64.wrap ((zq4 y) * (y.g 4 0))
abbrev zq7 := IntKind.i64.wrap ((y.h 3 0) * (zq6 y))
abbrev zq8 := IntKind.i64.wrap ((y.g 0 0) * (zq6 y))
abbrev zq9 := IntKind.i64.wrap ((y.g 1 0) * (zq4 y))
abbrev zq10 := IntKind.i64.wrap ((y.g 2 0) * (IntKind.i64.wrap ((1 : Int) * (y.g 4 0))))
abbrev zq11 := IntKind.i64.wrap ((0 : Int) - (zq8 y))
abbrev zq12 := IntKind.i64.wrap ((0 : Int) - (zq9 y))
abbrev zq13 := IntKind.i64.wrap ((0 : Int) - (zq10 y))
abbrev zq14 := IntKind.i64.wrap ((0 : Int) - (IntKind.i64.wrap ((y.g 3 0) * (1 : Int))))
def st4F : Nat → Nat → Nat → Int := st4RR y (cpV 5 y.g) (zq1 y) (zq2 y) (IntKind.i64.wrap ((y.h 0 0) * (1 : Int))) (zq3 y) (zq5 y) (zq7 y) (zq8 y) (zq9 y) (zq10 y) (IntKind.i64.wrap ((y.g 3 0) * (1 : Int))) (zq11 y) (zq12 y) (zq13 y) (zq14 y)
noncomputable def st4FK : CallS := bothX kCP (bothX kEF (kAll [c_range, c_rrange, c_index]))
def st4Args : Array Value := #[.slice (some ⟨6, 0, none⟩) 5 y.c, .slice (some ⟨7, 0, none⟩) 4 y.c2, .int .i64 y.x]
def st4S : List MObj := [.rows 5 1 (fun i j => .int .i64 (y.g i j)) y.e y.opn y.sz y.ro, .rows 4 1 (fun i j => .int .i64 (y.h i j)) y.e2 y.opn2 y.sz2 y.ro2]
noncomputable abbrev zq15 := bodyOf Tryz.prog 50
noncomputable abbrev zq16 := startM Tryz.f50 (st4Args y)
abbrev zq17 := st4A y (cpV 5 y.g) (zq1 y) (zq2 y) (IntKind.i64.wrap ((y.h 0 0) * (1 : Int))) (zq3 y) (zq5 y) (zq7 y) (zq8 y) (zq9 y) (zq10 y) (IntKind.i64.wrap ((y.g 3 0) * (1 : Int))) (zq11 y) (zq12 y) (zq13 y) (zq14 y)
abbrev zq18 := st4L y (cpV 5 y.g) (zq1 y) (zq2 y) (IntKind.i64.wrap ((y.h 0 0) * (1 : Int))) (zq3 y) (zq5 y) (zq7 y) (zq8 y) (zq9 y) (zq10 y) (IntKind.i64.wrap ((y.g 3 0) * (1 : Int))) (zq11 y) (zq12 y) (zq13 y) (zq14 y)
abbrev zq19 := st4r2E y (cpV 5 y.g) (zq1 y) (zq2 y) (IntKind.i64.wrap ((y.h 0 0) * (1 : Int))) (zq3 y) (zq5 y) (zq7 y) (zq8 y) (zq9 y) (zq10 y) (IntKind.i64.wrap ((y.g 3 0) * (1 : Int))) (zq11 y) (zq12 y) (zq13 y) (zq14 y)
abbrev zq20 : List MObj := [.rows 5 1 (fun i j => .int .i64 (y.g i j)) y.e y.opn y.sz y.ro, .rows 4 1 (fun i j => .int .i64 (y.h i j)) y.e2 y.opn2 y.sz2 y.ro2, .cells [.int .i64 (cpV 5 y.g), .int .i64 (zq1 y), .int .i64 (zq2 y)] 26 false 0 false, .cells [.int .i64 (IntKind.i64.wrap ((y.h 0 0) * (1 : Int))), .int .i64 (zq3 y), .int .i64 (zq5 y), .int .i64 (zq7 y)] 3 false 0 false, .cells [.int .i64 (zq8 y), .int .i64 (zq9 y), .int .i64 (zq10 y), .int .i64 (IntKind.i64.wrap ((y.g 3 0) * (1 : Int)))] 155 false 0 false, .cells [.int .i64 (zq11 y), .int .i64 (zq12 y), .int .i64 (zq13 y), .int .i64 (zq14 y)] 155 false 0 false]
noncomputable def st4f0 : Option OutCS := evK Tryz.prog st4FK 1000 false zq15 (zq16 y) (wS 6 (st4S y)) ⟨[0, 0, 1, 0, 0, 1, 1, 0, 1, 2, 0, 0, 0, 1, .row 0 0, .row 0 0, .row 4 0, .row 4 0, 0, 0, 1, .row 1 0, .row 1 0, .row 4 0, .row 4 0, 1, 0, 1, 1, .row 2 0, .row 2 0, .row 4 0, .row 4 0, 1, 1, 0, 2, 1, .row 3 0, .row 3 0, .row 4 0, .row 4 0, 1, 1, 1, 0, 3, 0, 1, .row 0 0, .row 0 0, .row 4 0, .row 4 0, 1, 1, 1, 0, 0, 1, .row 1 0, .row 1 0, .row 4 0, .row 4 0, 1, 1, 0, 1, 1, .row 2 0, .row 2 0, .row 4 0, .row 4 0, 1, 0, 2, 1, .row 3 0, .row 3 0, .row 4 0, .row 4 0, 0, 3, 0, 1, 0, 0, 1, 1, 1, 1, 2, 2, 1, 3, 3, 0, .lp 25769805312 (zq17 y) 6 (zq18 y) (.exit 0) (zq19 y) (zq20 y) 12 4096], True⟩
abbrev zq21 := st4r5E y (cpV 5 y.g) (zq1 y) (zq2 y) (IntKind.i64.wrap ((y.h 0 0) * (1 : Int))) (zq3 y) (zq5 y) (zq7 y) (zq8 y) (zq9 y) (zq10 y) (IntKind.i64.wrap ((y.g 3 0) * (1 : Int))) (zq11 y) (zq12 y) (zq13 y) (zq14 y) mm (mm + 1) (st4F y mm)
abbrev zq22 : List MObj := [.rows 5 1 (fun i j => .int .i64 (y.g i j)) y.e y.opn y.sz y.ro, .rows 4 1 (fun i j => .int .i64 (y.h i j)) y.e2 y.opn2 y.sz2 y.ro2, .cells [.int .i64 (cpV 5 y.g), .int .i64 (zq1 y), .int .i64 (zq2 y)] 26 false 0 false, .cells [.int .i64 (IntKind.i64.wrap ((y.h 0 0) * (1 : Int))), .int .i64 (zq3 y), .int .i64 (zq5 y), .int .i64 (zq7 y)] 3 false 0 false, .cells [.int .i64 (zq8 y), .int .i64 (zq9 y), .int .i64 (zq10 y), .int .i64 (IntKind.i64.wrap ((y.g 3 0) * (1 : Int)))] 155 false 0 false, .cells [.int .i64 (zq11 y), .int .i64 (zq12 y), .int .i64 (zq13 y), .int .i64 (zq14 y)] 155 false 0 false, .rows (mm + 5) 1 (fun i j => .int .i64 ((st4F y mm) i j)) 3 true 1 false]
noncomputable def st4f1 : Option OutCS := evK Tryz.prog st4FK 1000 false zq15 (zq16 y) (wS 6 (st4S y)) ⟨[0, 0, 1, 0, 0, 1, 1, 0, 1, 2, 0, 0, 0, 1, .row 0 0, .row 0 0, .row 4 0, .row 4 0, 0, 0, 1, .row 1 0, .row 1 0, .row 4 0, .row 4 0, 1, 0, 1, 1, .row 2 0, .row 2 0, .row 4 0, .row 4 0, 1, 1, 0, 2, 1, .row 3 0, .row 3 0, .row 4 0, .row 4 0, 1, 1, 1, 0, 3, 0, 1, .row 0 0, .row 0 0, .row 4 0, .row 4 0, 1, 1, 1, 0, 0, 1, .row 1 0, .row 1 0, .row 4 0, .row 4 0, 1, 1, 0, 1, 1, .row 2 0, .row 2 0, .row 4 0, .row 4 0, 1, 0, 2, 1, .row 3 0, .row 3 0, .row 4 0, .row 4 0, 0, 3, 0, 1, 0, 0, 1, 1, 1, 1, 2, 2, 1, 3, 3, 0, .lp 25769805312 (zq17 y) 6 (zq18 y) (.exit 0) (zq21 y mm) (zq22 y mm) 12 4096], True⟩
abbrev zq23 := st4r1E y (cpV 5 y.g) (zq1 y) (zq2 y) (IntKind.i64.wrap ((y.h 0 0) * (1 : Int))) (zq3 y) (zq5 y) (zq7 y) (zq8 y) (zq9 y) (zq10 y) (IntKind.i64.wrap ((y.g 3 0) * (1 : Int))) (zq11 y) (zq12 y) (zq13 y) (zq14 y)
noncomputable def st4f2 : Option OutCS := evK Tryz.prog st4FK 1000 false zq15 (zq16 y) (wS 6 (st4S y)) ⟨[0, 0, 1, 0, 0, 1, 1, 0, 1, 2, 0, 0, 0, 1, .row 0 0, .row 0 0, .row 4 0, .row 4 0, 0, 0, 1, .row 1 0, .row 1 0, .row 4 0, .row 4 0, 1, 0, 1, 1, .row 2 0, .row 2 0, .row 4 0, .row 4 0, 1, 1, 0, 2, 1, .row 3 0, .row 3 0, .row 4 0, .row 4 0, 1, 1, 1, 0, 3, 0, 1, .row 0 0, .row 0 0, .row 4 0, .row 4 0, 1, 1, 1, 0, 0, 1, .row 1 0, .row 1 0, .row 4 0, .row 4 0, 1, 1, 0, 1, 1, .row 2 0, .row 2 0, .row 4 0, .row 4 0, 1, 0, 2, 1, .row 3 0, .row 3 0, .row 4 0, .row 4 0, 0, 3, 0, 1, 0, 0, 1, 1, 1, 1, 2, 2, 1, 3, 3, 0, .lp 25769805312 (zq17 y) 6 (zq18 y) .ret (zq23 y) (zq20 y) 12 4096], True⟩
abbrev zq24 := st4r4E y (cpV 5 y.g) (zq1 y) (zq2 y) (IntKind.i64.wrap ((y.h 0 0) * (1 : Int))) (zq3 y) (zq5 y) (zq7 y) (zq8 y) (zq9 y) (zq10 y) (IntKind.i64.wrap ((y.g 3 0) * (1 : Int))) (zq11 y) (zq12 y) (zq13 y) (zq14 y) jj (jj + 1) (st4F y jj)
noncomputable def st4f3 : Option OutCS := evK Tryz.prog st4FK 1000 false zq15 (zq16 y) (wS 6 (st4S y)) ⟨[0, 0, 1, 0, 0, 1, 1, 0, 1, 2, 0, 0, 0, 1, .row 0 0, .row 0 0, .row 4 0, .row 4 0, 0, 0, 1, .row 1 0, .row 1 0, .row 4 0, .row 4 0, 1, 0, 1, 1, .row 2 0, .row 2 0, .row 4 0, .row 4 0, 1, 1, 0, 2, 1, .row 3 0, .row 3 0, .row 4 0, .row 4 0, 1, 1, 1, 0, 3, 0, 1, .row 0 0, .row 0 0, .row 4 0, .row 4 0, 1, 1, 1, 0, 0, 1, .row 1 0, .row 1 0, .row 4 0, .row 4 0, 1, 1, 0, 1, 1, .row 2 0, .row 2 0, .row 4 0, .row 4 0, 1, 0, 2, 1, .row 3 0, .row 3 0, .row 4 0, .row 4 0, 0, 3, 0, 1, 0, 0, 1, 1, 1, 1, 2, 2, 1, 3, 3, 0, .lp 25769805312 (zq17 y) 6 (zq18 y) .ret (zq24 y jj) (zq20 y) 12 4096], True⟩
noncomputable def st4f4 : Option OutCS := evK Tryz.prog st4FK 1000 false zq15 (zq16 y) (wS 6 (st4S y)) ⟨[0, 0, 1, 0, 0, 1, 1, 0, 1, 2, 1, 1], True⟩
noncomputable def st4f5 : Option OutCS := evK Tryz.prog st4FK 1000 false zq15 (zq16 y) (wS 6 (st4S y)) ⟨[0, 0, 1, 0, 0, 1, 1, 1, 1], True⟩
noncomputable def st4f6 : Option OutCS := evK Tryz.prog st4FK 1000 false zq15 (zq16 y) (wS 6 (st4S y)) ⟨[0, 0, 1, 0, 1, 1], True⟩
theorem st4_go (hi : ((i : Nat) : Int) < y.x) (hb : i ≤ 1000) (h1 : Pl.cr (st4EE y a0 a1 a2 v0 v1 v2 v3 u0 u1 u2 u3 w0 w1 w2 w3 i) (-1073741824 : Int) (1073741824 : Int) = 0) : KC Tryz.prog none st4X (st4AA y a0 a1 a2 v0 v1 v2 v3 u0 u1 u2 u3 w0 w1 w2 w3 i).act (wS 6 (st4LL y a0 a1 a2 v0 v1 v2 v3 u0 u1 u2 u3 w0 w1 w2 w3 i)) .normal (st4AA y a0 a1 a2 v0 v1 v2 v3 u0 u1 u2 u3 w0 w1 w2 w3 (i + 1)).act (wS 6 (st4LL y a0 a1 a2 v0 v1 v2 v3 u0 u1 u2 u3 w0 w1 w2 w3 (i + 1))) 12 4096 := by
  cases i with
  | zero => exact st4r0_k y a0 a1 a2 v0 v1 v2 v3 u0 u1 u2 u3 w0 w1 w2 w3 hi h1
  | succ q => exact st4r3_k y a0 a1 a2 v0 v1 v2 v3 u0 u1 u2 u3 w0 w1 w2 w3 q (q + 1) (st4RR y a0 a1 a2 v0 v1 v2 v3 u0 u1 u2 u3 w0 w1 w2 w3 q) rfl (by omega) hi h1
abbrev zq25 := wS 6 [.rows 5 1 (fun i j => .int .i64 (y.g i j)) y.e y.opn y.sz y.ro, .rows 4 1 (fun i j => .int .i64 (y.h i j)) y.e2 y.opn2 y.sz2 y.ro2, .cells [.int .i64 a0, .int .i64 a1, .int .i64 a2] 26 false 0 false, .cells [.int .i64 v0, .int .i64 v1, .int .i64 v2, .int .i64 v3] 3 false 0 false, .cells [.int .i64 u0, .int .i64 u1, .int .i64 u2, .int .i64 u3] 155 false 0 false, .cells [.int .i64 w0, .int .i64 w1, .int .i64 w2, .int .i64 w3] 155 false 0 false]
theorem st4_l0 (hz : ¬ (0 : Int) < y.x) : KC Tryz.prog none (.loop st4X) (st4A y a0 a1 a2 v0 v1 v2 v3 u0 u1 u2 u3 w0 w1 w2 w3).act (wS 6 (st4L y a0 a1 a2 v0 v1 v2 v3 u0 u1 u2 u3 w0 w1 w2 w3)) (.exit 0) (st4r2E y a0 a1 a2 v0 v1 v2 v3 u0 u1 u2 u3 w0 w1 w2 w3).act (zq25 y a0 a1 a2 v0 v1 v2 v3 u0 u1 u2 u3 w0 w1 w2 w3) 12 4096 :=
  K_rounds (A := fun i => (st4AA y a0 a1 a2 v0 v1 v2 v3 u0 u1 u2 u3 w0 w1 w2 w3 i).act) (S := fun i => wS 6 (st4LL y a0 a1 a2 v0 v1 v2 v3 u0 u1 u2 u3 w0 w1 w2 w3 i)) 0 (fun i hi => absurd hi (Nat.not_lt_zero i)) (st4r2_k y a0 a1 a2 v0 v1 v2 v3 u0 u1 u2 u3 w0 w1 w2 w3 hz) (by simp)
theorem st4_l1 (hm : y.x = ((mm + 1 : Nat) : Int)) (hb : mm ≤ 900) (h1 : ∀ i, i < mm + 1 → Pl.cr (st4EE y a0 a1 a2 v0 v1 v2 v3 u0 u1 u2 u3 w0 w1 w2 w3 i) (-1073741824 : Int) (1073741824 : Int) = 0) : KC Tryz.prog none (.loop st4X) (st4A y a0 a1 a2 v0 v1 v2 v3 u0 u1 u2 u3 w0 w1 w2 w3).act (wS 6 (st4L y a0 a1 a2 v0 v1 v2 v3 u0 u1 u2 u3 w0 w1 w2 w3)) (.exit 0) (st4r5E y a0 a1 a2 v0 v1 v2 v3 u0 u1 u2 u3 w0 w1 w2 w3 mm (mm + 1) (st4RR y a0 a1 a2 v0 v1 v2 v3 u0 u1 u2 u3 w0 w1 w2 w3 mm)).act (wS 6 [.rows 5 1 (fun i j => .int .i64 (y.g i j)) y.e y.opn y.sz y.ro, .rows 4 1 (fun i j => .int .i64 (y.h i j)) y.e2 y.opn2 y.sz2 y.ro2, .cells [.int .i64 a0, .int .i64 a1, .int .i64 a2] 26 false 0 false, .cells [.int .i64 v0, .int .i64 v1, .int .i64 v2, .int .i64 v3] 3 false 0 false, .cells [.int .i64 u0, .int .i64 u1, .int .i64 u2, .int .i64 u3] 155 false 0 false, .cells [.int .i64 w0, .int .i64 w1, .int .i64 w2, .int .i64 w3] 155 false 0 false, .rows (mm + 5) 1 (fun i j => .int .i64 ((st4RR y a0 a1 a2 v0 v1 v2 v3 u0 u1 u2 u3 w0 w1 w2 w3 mm) i j)) 3 true 1 false]) 12 4096 :=
  K_rounds (A := fun i => (st4AA y a0 a1 a2 v0 v1 v2 v3 u0 u1 u2 u3 w0 w1 w2 w3 i).act) (S := fun i => wS 6 (st4LL y a0 a1 a2 v0 v1 v2 v3 u0 u1 u2 u3 w0 w1 w2 w3 i)) (mm + 1) (fun i hi => st4_go y a0 a1 a2 v0 v1 v2 v3 u0 u1 u2 u3 w0 w1 w2 w3 i (by omega) (by omega) (h1 i hi)) (st4r5_k y a0 a1 a2 v0 v1 v2 v3 u0 u1 u2 u3 w0 w1 w2 w3 mm (mm + 1) (st4RR y a0 a1 a2 v0 v1 v2 v3 u0 u1 u2 u3 w0 w1 w2 w3 mm) rfl (by omega) (by omega)) (by simp)
theorem st4_b0 (hz : (0 : Int) < y.x) (h2 : Pl.cr (st4EE y a0 a1 a2 v0 v1 v2 v3 u0 u1 u2 u3 w0 w1 w2 w3 0) (-1073741824 : Int) (1073741824 : Int) ≠ 0) : KC Tryz.prog none (.loop st4X) (st4A y a0 a1 a2 v0 v1 v2 v3 u0 u1 u2 u3 w0 w1 w2 w3).act (wS 6 (st4L y a0 a1 a2 v0 v1 v2 v3 u0 u1 u2 u3 w0 w1 w2 w3)) .ret (st4r1E y a0 a1 a2 v0 v1 v2 v3 u0 u1 u2 u3 w0 w1 w2 w3).act (zq25 y a0 a1 a2 v0 v1 v2 v3 u0 u1 u2 u3 w0 w1 w2 w3) 12 4096 :=
  K_rounds (A := fun i => (st4AA y a0 a1 a2 v0 v1 v2 v3 u0 u1 u2 u3 w0 w1 w2 w3 i).act) (S := fun i => wS 6 (st4LL y a0 a1 a2 v0 v1 v2 v3 u0 u1 u2 u3 w0 w1 w2 w3 i)) 0 (fun i hi => absurd hi (Nat.not_lt_zero i)) (st4r1_k y a0 a1 a2 v0 v1 v2 v3 u0 u1 u2 u3 w0 w1 w2 w3 hz h2) (by simp)
theorem st4_b1 (hj : ((jj + 1 : Nat) : Int) < y.x) (hb : jj ≤ 900) (h1 : ∀ i, i < jj + 1 → Pl.cr (st4EE y a0 a1 a2 v0 v1 v2 v3 u0 u1 u2 u3 w0 w1 w2 w3 i) (-1073741824 : Int) (1073741824 : Int) = 0) (h2 : Pl.cr (st4EE y a0 a1 a2 v0 v1 v2 v3 u0 u1 u2 u3 w0 w1 w2 w3 (jj + 1)) (-1073741824 : Int) (1073741824 : Int) ≠ 0) : KC Tryz.prog none (.loop st4X) (st4A y a0 a1 a2 v0 v1 v2 v3 u0 u1 u2 u3 w0 w1 w2 w3).act (wS 6 (st4L y a0 a1 a2 v0 v1 v2 v3 u0 u1 u2 u3 w0 w1 w2 w3)) .ret (st4r4E y a0 a1 a2 v0 v1 v2 v3 u0 u1 u2 u3 w0 w1 w2 w3 jj (jj + 1) (st4RR y a0 a1 a2 v0 v1 v2 v3 u0 u1 u2 u3 w0 w1 w2 w3 jj)).act (zq25 y a0 a1 a2 v0 v1 v2 v3 u0 u1 u2 u3 w0 w1 w2 w3) 12 4096 :=
  K_rounds (A := fun i => (st4AA y a0 a1 a2 v0 v1 v2 v3 u0 u1 u2 u3 w0 w1 w2 w3 i).act) (S := fun i => wS 6 (st4LL y a0 a1 a2 v0 v1 v2 v3 u0 u1 u2 u3 w0 w1 w2 w3 i)) (jj + 1) (fun i hi => st4_go y a0 a1 a2 v0 v1 v2 v3 u0 u1 u2 u3 w0 w1 w2 w3 i (by omega) (by omega) (h1 i hi)) (st4r4_k y a0 a1 a2 v0 v1 v2 v3 u0 u1 u2 u3 w0 w1 w2 w3 jj (jj + 1) (st4RR y a0 a1 a2 v0 v1 v2 v3 u0 u1 u2 u3 w0 w1 w2 w3 jj) rfl (by omega) hj h2) (by simp)
theorem st4FK_ok : FOkS Tryz.prog st4FK := bothX_ok kCP_ok (bothX_ok kEF_ok (kAll_ok _ ⟨k_range, k_rrange, k_index, trivial⟩))
abbrev zq26 : List MObj := [.cells [.int .i64 (IntKind.i64.wrap ((y.h 0 0) * (1 : Int))), .int .i64 (zq3 y), .int .i64 (zq5 y), .int .i64 (zq7 y)] 3 false 0 false]
abbrev zq27 := (((5 : Nat)) : Int) - (1 : Int)
abbrev zq28 := (0 : Int) = (Int.ofNat 0)
abbrev zq29 := ((((((True ∧ (((5 = 5) ∧ (∀ (i : Nat), ((i < (5 : Nat)) → (∀ (j : Nat), ((j < (1 : Nat)) → ((Value.int .i64 (y.g i j)) = (Value.int .i64 (gI (Value.int .i64 (y.g i j)))))))))) ∧ ((((5 : Nat)) : Int) ≤ (9223372036854775807 : Int)))) ∧ (((IntKind.i64.wrap zq27) == (0 : Int)) = false)) ∧ (((((4 : Nat)) : Int) != (IntKind.i64.wrap zq27)) = false)) ∧ (((4 = 4) ∧ (∀ (i : Nat), ((i < (4 : Nat)) → (∀ (j : Nat), ((j < (1 : Nat)) → ((Value.int .i64 (y.h i j)) = (Value.int .i64 (gI (Value.int .i64 (y.h i j)))))))))) ∧ ((((4 : Nat)) : Int) ≤ (9223372036854775807 : Int)))) ∧ True) ∧ ((decide ((0 : Int) < (((3 : Nat)) : Int))) = true)) ∧ zq28
abbrev zq30 := (cpV (5 : Nat) (fun (i : Nat) => (fun (j : Nat) => (gI (Value.int .i64 (y.g i j)))))) != (0 : Int)
abbrev zq31 := (IntKind.i64.wrap ((0 : Int) + (1 : Int))) = (Int.ofNat 1)
abbrev zq32 := (((zq29 y) ∧ ((zq30 y) = false)) ∧ ((decide ((IntKind.i64.wrap ((0 : Int) + (1 : Int))) < (((3 : Nat)) : Int))) = true)) ∧ zq31
abbrev zq33 := (feN (fun (i : Nat) => (Pl.cr (gI (Value.int .i64 (y.h i 0))) (- (1000 : Int)) (1000 : Int))) (4 : Nat) (0 : Nat)) != (0 : Int)
abbrev zq34 := IntKind.i64.wrap ((IntKind.i64.wrap ((0 : Int) + (1 : Int))) + (1 : Int))
abbrev zq35 := zq34 = (Int.ofNat 2)
abbrev zq36 := (((zq32 y) ∧ ((zq33 y) = false)) ∧ ((decide (zq34 < (((3 : Nat)) : Int))) = true)) ∧ zq35
abbrev zq37 := (zq2 y) != (0 : Int)
abbrev zq38 := IntKind.i64.wrap (zq34 + (1 : Int))
abbrev zq39 := (decide ((0 : Int) < (((4 : Nat)) : Int))) = true
abbrev zq40 := (0 : Int) = (Int.ofNat (0 : Nat))
abbrev zq41 := ((IntKind.i64.wrap zq27) = (Int.ofNat (4 : Nat))) ∧ ((4 : Nat) < (5 : Nat))
abbrev zq42 := (4 = 4) ∧ ((4 : Nat) < (5 : Nat))
abbrev zq43 := (decide ((IntKind.i64.wrap ((0 : Int) + (1 : Int))) < (((4 : Nat)) : Int))) = true
abbrev zq44 := (IntKind.i64.wrap ((0 : Int) + (1 : Int))) = (Int.ofNat (1 : Nat))
abbrev zq45 := (decide (zq34 < (((4 : Nat)) : Int))) = true
abbrev zq46 := zq34 = (Int.ofNat (2 : Nat))
abbrev zq47 := (decide (zq38 < (((4 : Nat)) : Int))) = true
abbrev zq48 := zq38 = (Int.ofNat (3 : Nat))
abbrev zq49 := zq38 = (Int.ofNat 3)
abbrev zq50 := IntKind.i64.wrap (zq38 + (1 : Int))
abbrev zq51 := (decide (zq50 < (((4 : Nat)) : Int))) = false
abbrev zq52 := IntKind.i64.wrap ((IntKind.i64.wrap ((IntKind.i64.wrap zq27) - (0 : Int))) - (1 : Int))
abbrev zq53 := IntKind.i64.wrap ((IntKind.i64.wrap ((IntKind.i64.wrap zq27) - (IntKind.i64.wrap ((0 : Int) + (1 : Int))))) - (1 : Int))
abbrev zq54 := IntKind.i64.wrap ((IntKind.i64.wrap ((IntKind.i64.wrap zq27) - zq34)) - (1 : Int))
abbrev zq55 := ((((((((((((((((((((((((((((((((((((((((((((((((((((((((((((((((((((((((((((((((((((((zq36 y) ∧ ((zq37 y) = false)) ∧ ((decide (zq38 < (((3 : Nat)) : Int))) = false)) ∧ (((0 : Int) != (0 : Int)) = false)) ∧ zq39) ∧ (zq40 ∧ ((0 : Nat) < (4 : Nat)))) ∧ ((0 = 0) ∧ ((0 : Nat) < (4 : Nat)))) ∧ zq41) ∧ zq42) ∧ ((decide ((0 : Int) < (0 : Int))) = false)) ∧ zq28) ∧ zq43) ∧ (zq44 ∧ ((1 : Nat) < (4 : Nat)))) ∧ ((1 = 1) ∧ ((1 : Nat) < (4 : Nat)))) ∧ zq41) ∧ zq42) ∧ ((decide ((0 : Int) < (IntKind.i64.wrap ((0 : Int) + (1 : Int))))) = true)) ∧ ((decide ((IntKind.i64.wrap ((0 : Int) + (1 : Int))) < (IntKind.i64.wrap ((0 : Int) + (1 : Int))))) = false)) ∧ zq31) ∧ zq45) ∧ (zq46 ∧ ((2 : Nat) < (4 : Nat)))) ∧ ((2 = 2) ∧ ((2 : Nat) < (4 : Nat)))) ∧ zq41) ∧ zq42) ∧ ((decide ((0 : Int) < zq34)) = true)) ∧ ((decide ((IntKind.i64.wrap ((0 : Int) + (1 : Int))) < zq34)) = true)) ∧ ((decide (zq34 < zq34)) = false)) ∧ zq35) ∧ zq47) ∧ (zq48 ∧ ((3 : Nat) < (4 : Nat)))) ∧ ((3 = 3) ∧ ((3 : Nat) < (4 : Nat)))) ∧ zq41) ∧ zq42) ∧ ((decide ((0 : Int) < zq38)) = true)) ∧ ((decide ((IntKind.i64.wrap ((0 : Int) + (1 : Int))) < zq38)) = true)) ∧ ((decide (zq34 < zq38)) = true)) ∧ ((decide (zq38 < zq38)) = false)) ∧ zq49) ∧ zq51) ∧ ((decide ((0 : Int) < (IntKind.i64.wrap zq27))) = true)) ∧ (zq40 ∧ ((0 : Nat) < (5 : Nat)))) ∧ ((0 = 0) ∧ ((0 : Nat) < (5 : Nat)))) ∧ zq41) ∧ zq42) ∧ ((decide ((0 : Int) < zq52)) = true)) ∧ ((decide ((IntKind.i64.wrap ((0 : Int) + (1 : Int))) < zq52)) = true)) ∧ ((decide (zq34 < zq52)) = true)) ∧ ((decide (zq38 < zq52)) = false)) ∧ zq28) ∧ ((decide ((IntKind.i64.wrap ((0 : Int) + (1 : Int))) < (IntKind.i64.wrap zq27))) = true)) ∧ (zq44 ∧ ((1 : Nat) < (5 : Nat)))) ∧ ((1 = 1) ∧ ((1 : Nat) < (5 : Nat)))) ∧ zq41) ∧ zq42) ∧ ((decide ((0 : Int) < zq53)) = true)) ∧ ((decide ((IntKind.i64.wrap ((0 : Int) + (1 : Int))) < zq53)) = true)) ∧ ((decide (zq34 < zq53)) = false)) ∧ zq31) ∧ ((decide (zq34 < (IntKind.i64.wrap zq27))) = true)) ∧ (zq46 ∧ ((2 : Nat) < (5 : Nat)))) ∧ ((2 = 2) ∧ ((2 : Nat) < (5 : Nat)))) ∧ zq41) ∧ zq42) ∧ ((decide ((0 : Int) < zq54)) = true)) ∧ ((decide ((IntKind.i64.wrap ((0 : Int) + (1 : Int))) < zq54)) = false)) ∧ zq35) ∧ ((decide (zq38 < (IntKind.i64.wrap zq27))) = true)) ∧ (zq48 ∧ ((3 : Nat) < (5 : Nat)))) ∧ ((3 = 3) ∧ ((3 : Nat) < (5 : Nat)))) ∧ zq41) ∧ zq42) ∧ ((decide ((0 : Int) < (IntKind.i64.wrap ((IntKind.i64.wrap ((IntKind.i64.wrap zq27) - zq38)) - (1 : Int))))) = false)) ∧ zq49) ∧ ((decide (zq50 < (IntKind.i64.wrap zq27))) = false)) ∧ zq39) ∧ zq28) ∧ zq28) ∧ zq43) ∧ zq31) ∧ zq31) ∧ zq45) ∧ zq35) ∧ zq35) ∧ zq47) ∧ zq49) ∧ zq49) ∧ zq51
abbrev zq56 := feN (fun (i : Nat) => (Pl.cr (y.h i 0) (- (1000 : Int)) (1000 : Int))) (4 : Nat) (0 : Nat)
abbrev zq57 := st4A y (cpV (5 : Nat) y.g) (zq56 y) (zq2 y) (IntKind.i64.wrap ((y.h 0 0) * (1 : Int))) (zq3 y) (zq5 y) (zq7 y) (zq8 y) (zq9 y) (zq10 y) (IntKind.i64.wrap ((y.g 3 0) * (1 : Int))) (zq11 y) (zq12 y) (zq13 y) (zq14 y)
abbrev zq58 := HAppend.hAppend (List.replicate (6 : Nat) MObj.hole) (st4L y (cpV (5 : Nat) y.g) (zq56 y) (zq2 y) (IntKind.i64.wrap ((y.h 0 0) * (1 : Int))) (zq3 y) (zq5 y) (zq7 y) (zq8 y) (zq9 y) (zq10 y) (IntKind.i64.wrap ((y.g 3 0) * (1 : Int))) (zq11 y) (zq12 y) (zq13 y) (zq14 y))
abbrev zq59 := ((zq57 y) = (zq57 y)) ∧ ((12 = (6 + 6)) ∧ ((zq58 y) = (zq58 y)))
abbrev zq60 := wS 6 (zq18 y)
abbrev zq61 := wS 6 (zq20 y)
theorem st4f0_eq : seenF' Tryz.prog Tryz.f50 6 2 [9] (st4f0 y) = some (.tuple #[.slice (some ⟨8, 0, none⟩) 4 4, .int .i64 (0 : Int)], st4S y ++ (zq26 y), ⟨[], ((zq55 y) ∧ ((zq59 y) ∧ KC Tryz.prog none (.loop st4X) (zq17 y).act (zq60 y) (.exit 0) (zq19 y).act (zq61 y) 12 4096))⟩) := by kernel_rfl
theorem st4f0_s (h0 : (cpV 5 y.g) = (0 : Int)) (h1 : (zq1 y) = (0 : Int)) (h2 : (zq2 y) = (0 : Int)) (l0 : KC Tryz.prog none (.loop st4X) (zq17 y).act (zq60 y) (.exit 0) (zq19 y).act (zq61 y) 12 4096) : SndF Tryz.prog 50 (st4Args y) (wS 6 (st4S y)) (.tuple #[.slice (some ⟨8, 0, none⟩) 4 4, .int .i64 (0 : Int)]) (wS 6 (st4S y ++ (zq26 y))) 192 0 :=
  kF (L := st4S y) (L2 := (zq26 y)) (ms := [9]) st4FK_ok (st4f0_eq y) kq
abbrev zq62 : List MObj := [.rows (mm + 5) 1 (fun i j => .int .i64 ((st4F y mm) i j)) 3 true 1 false]
abbrev zq63 := wS 6 (zq22 y mm)
theorem st4f1_eq : seenF' Tryz.prog Tryz.f50 6 2 [12] (st4f1 y mm) = some (.tuple #[.slice (some ⟨8, 0, none⟩) (mm + 5) (mm + 5), .int .i64 (0 : Int)], st4S y ++ (zq62 y mm), ⟨[], ((zq55 y) ∧ ((zq59 y) ∧ KC Tryz.prog none (.loop st4X) (zq17 y).act (zq60 y) (.exit 0) (zq21 y mm).act (zq63 y mm) 12 4096))⟩) := by kernel_rfl
theorem st4f1_s (h0 : (cpV 5 y.g) = (0 : Int)) (h1 : (zq1 y) = (0 : Int)) (h2 : (zq2 y) = (0 : Int)) (l0 : KC Tryz.prog none (.loop st4X) (zq17 y).act (zq60 y) (.exit 0) (zq21 y mm).act (zq63 y mm) 12 4096) : SndF Tryz.prog 50 (st4Args y) (wS 6 (st4S y)) (.tuple #[.slice (some ⟨8, 0, none⟩) (mm + 5) (mm + 5), .int .i64 (0 : Int)]) (wS 6 (st4S y ++ (zq62 y mm))) 192 0 :=
  kF (L := st4S y) (L2 := (zq62 y mm)) (ms := [12]) st4FK_ok (st4f1_eq y mm) kq
theorem st4f2_eq : seenF' Tryz.prog Tryz.f50 6 2 [] (st4f2 y) = some (.tuple #[.slice none 0 0, .int .i64 (4 : Int)], st4S y ++ [], ⟨[], ((zq55 y) ∧ ((zq59 y) ∧ KC Tryz.prog none (.loop st4X) (zq17 y).act (zq60 y) .ret (zq23 y).act (zq61 y) 12 4096))⟩) := by kernel_rfl
theorem st4f2_s (h0 : (cpV 5 y.g) = (0 : Int)) (h1 : (zq1 y) = (0 : Int)) (h2 : (zq2 y) = (0 : Int)) (l0 : KC Tryz.prog none (.loop st4X) (zq17 y).act (zq60 y) .ret (zq23 y).act (zq61 y) 12 4096) : SndF Tryz.prog 50 (st4Args y) (wS 6 (st4S y)) (.tuple #[.slice none 0 0, .int .i64 (4 : Int)]) (wS 6 (st4S y)) 192 0 :=
  kF (L := st4S y) (L2 := []) (ms := []) st4FK_ok (st4f2_eq y) kq
theorem st4f3_eq : seenF' Tryz.prog Tryz.f50 6 2 [] (st4f3 y jj) = some (.tuple #[.slice none 0 0, .int .i64 (4 : Int)], st4S y ++ [], ⟨[], ((zq55 y) ∧ ((zq59 y) ∧ KC Tryz.prog none (.loop st4X) (zq17 y).act (zq60 y) .ret (zq24 y jj).act (zq61 y) 12 4096))⟩) := by kernel_rfl
theorem st4f3_s (h0 : (cpV 5 y.g) = (0 : Int)) (h1 : (zq1 y) = (0 : Int)) (h2 : (zq2 y) = (0 : Int)) (l0 : KC Tryz.prog none (.loop st4X) (zq17 y).act (zq60 y) .ret (zq24 y jj).act (zq61 y) 12 4096) : SndF Tryz.prog 50 (st4Args y) (wS 6 (st4S y)) (.tuple #[.slice none 0 0, .int .i64 (4 : Int)]) (wS 6 (st4S y)) 192 0 :=
  kF (L := st4S y) (L2 := []) (ms := []) st4FK_ok (st4f3_eq y jj) kq
abbrev zq64 := (zq37 y) = true
theorem st4f4_eq : seenF' Tryz.prog Tryz.f50 6 2 [] (st4f4 y) = some (.tuple #[.slice none 0 0, .int .i64 (zq2 y)], st4S y ++ [], ⟨[], (((zq36 y) ∧ (zq64 y)) ∧ (zq64 y))⟩) := by kernel_rfl
theorem st4f4_s (h0 : (cpV 5 y.g) = (0 : Int)) (h1 : (zq1 y) = (0 : Int)) (h2 : (zq2 y) ≠ (0 : Int)) : SndF Tryz.prog 50 (st4Args y) (wS 6 (st4S y)) (.tuple #[.slice none 0 0, .int .i64 (zq2 y)]) (wS 6 (st4S y)) 192 0 :=
  kF (L := st4S y) (L2 := []) (ms := []) st4FK_ok (st4f4_eq y) kq
abbrev zq65 := (zq33 y) = true
theorem st4f5_eq : seenF' Tryz.prog Tryz.f50 6 2 [] (st4f5 y) = some (.tuple #[.slice none 0 0, .int .i64 (zq1 y)], st4S y ++ [], ⟨[], (((zq32 y) ∧ (zq65 y)) ∧ (zq65 y))⟩) := by kernel_rfl
theorem st4f5_s (h0 : (cpV 5 y.g) = (0 : Int)) (h1 : (zq1 y) ≠ (0 : Int)) : SndF Tryz.prog 50 (st4Args y) (wS 6 (st4S y)) (.tuple #[.slice none 0 0, .int .i64 (zq1 y)]) (wS 6 (st4S y)) 192 0 :=
  kF (L := st4S y) (L2 := []) (ms := []) st4FK_ok (st4f5_eq y) kq
abbrev zq66 := (zq30 y) = true
theorem st4f6_eq : seenF' Tryz.prog Tryz.f50 6 2 [] (st4f6 y) = some (.tuple #[.slice none 0 0, .int .i64 (cpV 5 y.g)], st4S y ++ [], ⟨[], (((zq29 y) ∧ (zq66 y)) ∧ (zq66 y))⟩) := by kernel_rfl
theorem st4f6_s (h0 : (cpV 5 y.g) ≠ (0 : Int)) : SndF Tryz.prog 50 (st4Args y) (wS 6 (st4S y)) (.tuple #[.slice none 0 0, .int .i64 (cpV 5 y.g)]) (wS 6 (st4S y)) 192 0 :=
  kF (L := st4S y) (L2 := []) (ms := []) st4FK_ok (st4f6_eq y) kq
end
end Go.Proofs.YtbkpnhbcihcgaaaGreatDoor
end
section
set_option linter.all false
set_option maxRecDepth 1000000
open Go.RowKit
namespace Go.Proofs.YtbkpnhbcihcgaaaGreatDoor
open Mini
noncomputable section
variable (y : SV) (a0 : Int) (a1 : Int) (g3 : GI) (m11 : Nat) (i12 : Nat)
noncomputable def rt4X : Code := loopAt Tryz.prog 52 0
noncomputable def rt4K : CallS := kAll [c_range, c_rrange, c_index]
def rt4A (a0 : Int) (a1 : Int) : MA := MA.ofL 102 (jl [.slice (some ⟨6, 0, none⟩) 5 y.c, .slice (some ⟨7, 0, none⟩) 4 y.c2, .int .i64 y.x] 6 (jl [.int .i64 (4 : Int), .chan none, .slice none 0 0, .int .i64 (0 : Int)] 89 [])) []
abbrev zm0 : List MObj := [.rows 5 1 (fun i j => .int .i64 (y.g i j)) y.e y.opn y.sz y.ro, .rows 4 1 (fun i j => .int .i64 (y.h i j)) y.e2 y.opn2 y.sz2 y.ro2, .cells [.int .i64 a0, .int .i64 a1] 3 false 0 false]
def rt4L : List MObj := (zm0 y a0 a1)
def rt4A1 (a0 : Int) (a1 : Int) (g3 : GI) : MA := MA.ofL 102 (jl [.slice (some ⟨6, 0, none⟩) 5 y.c, .slice (some ⟨7, 0, none⟩) 4 y.c2, .int .i64 y.x] 6 (jl [.int .i64 (4 : Int), .chan none, .slice (some ⟨9, 0, none⟩) 1 1, .int .i64 (1 : Int)] 89 [])) []
abbrev zm1 : List MObj := [.rows 5 1 (fun i j => .int .i64 (y.g i j)) y.e y.opn y.sz y.ro, .rows 4 1 (fun i j => .int .i64 (y.h i j)) y.e2 y.opn2 y.sz2 y.ro2, .cells [.int .i64 a0, .int .i64 a1] 3 false 0 false, .rows 1 1 (fun i j => .int .i64 (g3 i j)) 3 true 1 false]
def rt4L1 : List MObj := (zm1 y a0 a1 g3)
def rt4A2 (a0 : Int) (a1 : Int) (g3 : GI) : MA := MA.ofL 102 (jl [.slice (some ⟨6, 0, none⟩) 5 y.c, .slice (some ⟨7, 0, none⟩) 4 y.c2, .int .i64 y.x] 6 (jl [.int .i64 (4 : Int), .chan none, .slice (some ⟨9, 0, none⟩) 2 2, .int .i64 (2 : Int)] 89 [])) []
abbrev zm2 : List MObj := [.rows 5 1 (fun i j => .int .i64 (y.g i j)) y.e y.opn y.sz y.ro, .rows 4 1 (fun i j => .int .i64 (y.h i j)) y.e2 y.opn2 y.sz2 y.ro2, .cells [.int .i64 a0, .int .i64 a1] 3 false 0 false, .rows 2 1 (fun i j => .int .i64 (g3 i j)) 3 true 1 false]
def rt4L2 : List MObj := (zm2 y a0 a1 g3)
def rt4A3 (a0 : Int) (a1 : Int) (g3 : GI) : MA := MA.ofL 102 (jl [.slice (some ⟨6, 0, none⟩) 5 y.c, .slice (some ⟨7, 0, none⟩) 4 y.c2, .int .i64 y.x] 6 (jl [.int .i64 (4 : Int), .chan none, .slice (some ⟨9, 0, none⟩) 3 3, .int .i64 (3 : Int)] 89 [])) []
abbrev zm3 : List MObj := [.rows 5 1 (fun i j => .int .i64 (y.g i j)) y.e y.opn y.sz y.ro, .rows 4 1 (fun i j => .int .i64 (y.h i j)) y.e2 y.opn2 y.sz2 y.ro2, .cells [.int .i64 a0, .int .i64 a1] 3 false 0 false, .rows 3 1 (fun i j => .int .i64 (g3 i j)) 3 true 1 false]
def rt4L3 : List MObj := (zm3 y a0 a1 g3)
def rt4A4 (a0 : Int) (a1 : Int) (g3 : GI) : MA := MA.ofL 102 (jl [.slice (some ⟨6, 0, none⟩) 5 y.c, .slice (some ⟨7, 0, none⟩) 4 y.c2, .int .i64 y.x] 6 (jl [.int .i64 (4 : Int), .chan none, .slice (some ⟨9, 0, none⟩) 4 4, .int .i64 (4 : Int)] 89 [])) []
abbrev zm4 : List MObj := [.rows 5 1 (fun i j => .int .i64 (y.g i j)) y.e y.opn y.sz y.ro, .rows 4 1 (fun i j => .int .i64 (y.h i j)) y.e2 y.opn2 y.sz2 y.ro2, .cells [.int .i64 a0, .int .i64 a1] 3 false 0 false, .rows 4 1 (fun i j => .int .i64 (g3 i j)) 3 true 1 false]
def rt4L4 : List MObj := (zm4 y a0 a1 g3)
def rt4A5 (a0 : Int) (a1 : Int) (g3 : GI) (m11 : Nat) (i12 : Nat) : MA := MA.ofL 102 (jl [.slice (some ⟨6, 0, none⟩) 5 y.c, .slice (some ⟨7, 0, none⟩) 4 y.c2, .int .i64 y.x] 6 (jl [.int .i64 (4 : Int), .chan none, .slice (some ⟨9, 0, none⟩) (m11 + 5) (m11 + 5), .int .i64 ((i12 + 5 : Nat) : Int)] 89 [])) []
abbrev zm5 : List MObj := [.rows 5 1 (fun i j => .int .i64 (y.g i j)) y.e y.opn y.sz y.ro, .rows 4 1 (fun i j => .int .i64 (y.h i j)) y.e2 y.opn2 y.sz2 y.ro2, .cells [.int .i64 a0, .int .i64 a1] 3 false 0 false, .rows (m11 + 5) 1 (fun i j => .int .i64 (g3 i j)) 3 true 1 false]
def rt4L5 (i12 : Nat) : List MObj := (zm5 y a0 a1 g3 m11)
noncomputable def rt4r0 : Option OutCS := evK Tryz.prog rt4K 1000 false rt4X (rt4A y a0 a1) (wS 6 (rt4L y a0 a1)) ⟨[1, 1, .row 0 0, .row 0 0, .row 4 0, .row 4 0, 0, 1, 1, 1, 1, 0, 0], True⟩
abbrev zm6 := jl [] 6 (jl [.slice none 0 0, .int .i64 (4 : Int)] 94 [])
noncomputable def rt4r3 : Option OutCS := evK Tryz.prog rt4K 1000 false rt4X (rt4A1 y a0 a1 g3) (wS 6 (rt4L1 y a0 a1 g3)) ⟨[1, 1, .row 1 0, .row 1 0, .row 4 0, .row 4 0, 1, 0, 1, 1, 1, 1, 0, 0, .row 0 0], True⟩
noncomputable def rt4r6 : Option OutCS := evK Tryz.prog rt4K 1000 false rt4X (rt4A2 y a0 a1 g3) (wS 6 (rt4L2 y a0 a1 g3)) ⟨[1, 1, .row 2 0, .row 2 0, .row 4 0, .row 4 0, 1, 1, 0, 1, 1, 1, 1, 0, 0, .row 0 0], True⟩
noncomputable def rt4r9 : Option OutCS := evK Tryz.prog rt4K 1000 false rt4X (rt4A3 y a0 a1 g3) (wS 6 (rt4L3 y a0 a1 g3)) ⟨[1, 1, .row 3 0, .row 3 0, .row 4 0, .row 4 0, 1, 1, 1, 0, 1, 1, 1, 1, 0, 0, .row 0 0], True⟩
noncomputable def rt4r12 : Option OutCS := evK Tryz.prog rt4K 1000 false rt4X (rt4A4 y a0 a1 g3) (wS 6 (rt4L4 y a0 a1 g3)) ⟨[1, 0, 1, 1, 1, 1, 1, .row 0 0, .row 0 0, .row 0 0, .row 0 0, .row 4 0, .row 4 0, 1, 1, 1, 0, 1, 1, 1, 1, 1, .row 1 0, .row 1 0, .row 1 0, .row 1 0, .row 4 0, .row 4 0, 1, 1, 0, 1, 1, 1, 1, 1, .row 2 0, .row 2 0, .row 2 0, .row 2 0, .row 4 0, .row 4 0, 1, 0, 1, 1, 1, 1, 1, .row 3 0, .row 3 0, .row 3 0, .row 3 0, .row 4 0, .row 4 0, 0, 0, 0, 0, 0, 0, 0, .row 0 0], True⟩
noncomputable def rt4r13 : Option OutCS := evK Tryz.prog rt4K 1000 false rt4X (rt4A4 y a0 a1 g3) (wS 6 (rt4L4 y a0 a1 g3)) ⟨[1, 0, 1, 1, 1, 1, 1, .row 0 0, .row 0 0, .row 0 0, .row 0 0, .row 4 0, .row 4 0, 1, 1, 1, 0, 1, 1, 1, 1, 1, .row 1 0, .row 1 0, .row 1 0, .row 1 0, .row 4 0, .row 4 0, 1, 1, 0, 1, 1, 1, 1, 1, .row 2 0, .row 2 0, .row 2 0, .row 2 0, .row 4 0, .row 4 0, 1, 0, 1, 1, 1, 1, 1, .row 3 0, .row 3 0, .row 3 0, .row 3 0, .row 4 0, .row 4 0, 0, 0, 0, 0, 0, 0, 1], True⟩
def rt4r13E (y : SV) (a0 : Int) (a1 : Int) (g3 : GI) : MA := MA.ofL 102 zm6 []
noncomputable def rt4r14 : Option OutCS := evK Tryz.prog rt4K 1000 false rt4X (rt4A4 y a0 a1 g3) (wS 6 (rt4L4 y a0 a1 g3)) ⟨[0], True⟩
def rt4r14E (y : SV) (a0 : Int) (a1 : Int) (g3 : GI) : MA := MA.ofL 102 (jl [] 11 (jl [.slice (some ⟨9, 0, none⟩) 4 4] 90 [])) []
noncomputable def rt4r15 : Option OutCS := evK Tryz.prog rt4K 1000 false rt4X (rt4A5 y a0 a1 g3 m11 i12) (wS 6 (rt4L5 y a0 a1 g3 m11 i12)) ⟨[1, 0, 1, 1, 1, 1, 1, .row 0 0, .row 0 0, .azz (.int .i64 ((i12 + 1 : Nat) : Int)), .azz (.int .i64 ((i12 + 1 : Nat) : Int)), .row (i12 + 1) 0, .row (i12 + 1) 0, .row 4 0, .row 4 0, 1, 1, 1, 0, 1, 1, 1, 1, 1, .row 1 0, .row 1 0, .azz (.int .i64 ((i12 + 1 : Nat) : Int)), .azz (.int .i64 ((i12 + 2 : Nat) : Int)), .row (i12 + 2) 0, .row (i12 + 2) 0, .row 4 0, .row 4 0, 1, 1, 0, 1, 1, 1, 1, 1, .row 2 0, .row 2 0, .azz (.int .i64 ((i12 + 1 : Nat) : Int)), .azz (.int .i64 ((i12 + 3 : Nat) : Int)), .row (i12 + 3) 0, .row (i12 + 3) 0, .row 4 0, .row 4 0, 1, 0, 1, 1, 1, 1, 1, .row 3 0, .row 3 0, .azz (.int .i64 ((i12 + 1 : Nat) : Int)), .azz (.int .i64 ((i12 + 4 : Nat) : Int)), .row (i12 + 4) 0, .row (i12 + 4) 0, .row 4 0, .row 4 0, 0, 0, 0, 0, 0, 0, 0, .row 0 0, .azz (.int .i64 ((i12 + 6 : Nat) : Int))], True⟩
noncomputable def rt4r16 : Option OutCS := evK Tryz.prog rt4K 1000 false rt4X (rt4A5 y a0 a1 g3 m11 i12) (wS 6 (rt4L5 y a0 a1 g3 m11 i12)) ⟨[1, 0, 1, 1, 1, 1, 1, .row 0 0, .row 0 0, .azz (.int .i64 ((i12 + 1 : Nat) : Int)), .azz (.int .i64 ((i12 + 1 : Nat) : Int)), .row (i12 + 1) 0, .row (i12 + 1) 0, .row 4 0, .row 4 0, 1, 1, 1, 0, 1, 1, 1, 1, 1, .row 1 0, .row 1 0, .azz (.int .i64 ((i12 + 1 : Nat) : Int)), .azz (.int .i64 ((i12 + 2 : Nat) : Int)), .row (i12 + 2) 0, .row (i12 + 2) 0, .row 4 0, .row 4 0, 1, 1, 0, 1, 1, 1, 1, 1, .row 2 0, .row 2 0, .azz (.int .i64 ((i12 + 1 : Nat) : Int)), .azz (.int .i64 ((i12 + 3 : Nat) : Int)), .row (i12 + 3) 0, .row (i12 + 3) 0, .row 4 0, .row 4 0, 1, 0, 1, 1, 1, 1, 1, .row 3 0, .row 3 0, .azz (.int .i64 ((i12 + 1 : Nat) : Int)), .azz (.int .i64 ((i12 + 4 : Nat) : Int)), .row (i12 + 4) 0, .row (i12 + 4) 0, .row 4 0, .row 4 0, 0, 0, 0, 0, 0, 0, 1], True⟩
def rt4r16E (y : SV) (a0 : Int) (a1 : Int) (g3 : GI) (m11 : Nat) (i12 : Nat) : MA := MA.ofL 102 zm6 []
noncomputable def rt4r17 : Option OutCS := evK Tryz.prog rt4K 1000 false rt4X (rt4A5 y a0 a1 g3 m11 i12) (wS 6 (rt4L5 y a0 a1 g3 m11 i12)) ⟨[0], True⟩
def rt4r17E (y : SV) (a0 : Int) (a1 : Int) (g3 : GI) (m11 : Nat) (i12 : Nat) : MA := MA.ofL 102 (jl [] 11 (jl [.slice (some ⟨9, 0, none⟩) (m11 + 5) (m11 + 5)] 90 [])) []
theorem rt4K_ok : FOkS Tryz.prog rt4K := kAll_ok _ ⟨k_range, k_rrange, k_index, trivial⟩
abbrev zm7 := fun i j => ([(IntKind.i64.wrap ((y.h 0 0) * (1 : Int)))] : List Int).getD (i * 1 + j) 0
abbrev zm8 : List MObj := [.rows 5 1 (fun i j => .int .i64 (y.g i j)) y.e y.opn y.sz y.ro, .rows 4 1 (fun i j => .int .i64 (y.h i j)) y.e2 y.opn2 y.sz2 y.ro2, .cells [.int .i64 a0, .int .i64 a1] 3 false 0 false, .cells [.int .i64 (IntKind.i64.wrap ((y.h 0 0) * (1 : Int)))] 3 true 1 false]
abbrev zm9 := decide ((0 : Int) < (IntKind.i64.wrap ((4 : Int) + y.x)))
abbrev zm10 := (decide ((0 : Int) < (4 : Int))) = true
abbrev zm11 := (0 : Int) = (Int.ofNat (0 : Nat))
abbrev zm12 := (0 = 0) ∧ ((0 : Nat) < (4 : Nat))
abbrev zm13 := ((4 : Int) = (Int.ofNat (4 : Nat))) ∧ ((4 : Nat) < (5 : Nat))
abbrev zm14 := (4 = 4) ∧ ((4 : Nat) < (5 : Nat))
abbrev zm15 := ((((((((((((True ∧ ((zm9 y) = true)) ∧ zm10) ∧ (zm11 ∧ ((0 : Nat) < (4 : Nat)))) ∧ zm12) ∧ zm13) ∧ zm14) ∧ ((decide ((0 : Int) < (0 : Int))) = false)) ∧ zm10) ∧ zm10) ∧ zm10) ∧ zm10) ∧ ((decide ((0 : Int) ≥ (4 : Int))) = false)) ∧ True
abbrev zm16 := (Pl.cr (IntKind.i64.wrap ((y.h 0 0) * (1 : Int))) (- (1073741824 : Int)) (1073741824 : Int)) != (0 : Int)
theorem rt4r0_eq : seenK 6 3 [10] 6663 512 (rt4r0 y a0 a1) = some (.normal, rt4A1 y a0 a1 (zm7 y), (zm8 y a0 a1), 512, ⟨[], ((zm15 y) ∧ ((zm16 y) = false))⟩) := by kernel_rfl
abbrev zm17 := Pl.cr (IntKind.i64.wrap ((y.h 0 0) * (1 : Int))) (-1073741824 : Int) (1073741824 : Int)
theorem rt4r0_k (h0 : (0 : Int) < (IntKind.i64.wrap ((4 : Int) + y.x))) (h1 : (zm17 y) = (0 : Int)) : KC Tryz.prog none rt4X (rt4A y a0 a1).act (wS 6 (rt4L y a0 a1)) .normal (rt4A1 y a0 a1 (zm7 y)).act (wS 6 (rt4L1 y a0 a1 (zm7 y))) 9 512 := by
  refine KT.toldAs (L := (zm8 y a0 a1)) ?_ (by
    simp only [List.map_cons, List.map_nil, rt4L, rt4L1, rt4L2, rt4L3, rt4L4, rt4L5]
    all_goals exact kr)
  exact seenK_ok smx rt4K_ok sng (rt4r0_eq y a0 a1) kq
abbrev zm18 := wS 6 (zm0 y a0 a1)
abbrev zm19 := IntKind.i64.wrap ((y.h 1 0) * (IntKind.i64.wrap ((1 : Int) * (y.g 4 0))))
abbrev zm20 := pushI 1 g3 [(zm19 y)]
abbrev zm21 : List MObj := [.rows 5 1 (fun i j => .int .i64 (y.g i j)) y.e y.opn y.sz y.ro, .rows 4 1 (fun i j => .int .i64 (y.h i j)) y.e2 y.opn2 y.sz2 y.ro2, .cells [.int .i64 a0, .int .i64 a1] 3 false 0 false, .rows 2 1 (fun i j => tellV (invN 9 [11]) 8 ((pushRow 1 1 (fun i j => .int .i64 (g3 i j)) [.int .i64 (zm19 y)]) i j)) 3 true 1 false]
abbrev zm22 := decide ((1 : Int) < (IntKind.i64.wrap ((4 : Int) + y.x)))
abbrev zm23 := (1 = 1) ∧ ((1 : Nat) < (4 : Nat))
abbrev zm24 := (((((((((((((True ∧ ((zm22 y) = true)) ∧ ((decide ((1 : Int) < (4 : Int))) = true)) ∧ (((1 : Int) = (Int.ofNat (1 : Nat))) ∧ ((1 : Nat) < (4 : Nat)))) ∧ zm23) ∧ zm13) ∧ zm14) ∧ ((decide ((0 : Int) < (1 : Int))) = true)) ∧ ((decide ((IntKind.i64.wrap ((0 : Int) + (1 : Int))) < (1 : Int))) = false)) ∧ zm10) ∧ zm10) ∧ zm10) ∧ zm10) ∧ ((decide ((1 : Int) ≥ (4 : Int))) = false)) ∧ True
abbrev zm25 := (Pl.cr (zm19 y) (- (1073741824 : Int)) (1073741824 : Int)) != (0 : Int)
theorem rt4r3_eq : seenK 6 3 [11] 6663 512 (rt4r3 y a0 a1 g3) = some (.normal, rt4A2 y a0 a1 (zm20 y g3), (zm21 y a0 a1 g3), 512, ⟨[], (((zm24 y) ∧ ((zm25 y) = false)) ∧ ((1 = 1) ∧ ((1 = 1) ∧ (16 ≤ (140737488355328 : Nat)))))⟩) := by kernel_rfl
abbrev zm26 := Pl.cr (zm19 y) (-1073741824 : Int) (1073741824 : Int)
theorem rt4r3_k (h0 : (1 : Int) < (IntKind.i64.wrap ((4 : Int) + y.x))) (h1 : (zm26 y) = (0 : Int)) : KC Tryz.prog none rt4X (rt4A1 y a0 a1 g3).act (wS 6 (rt4L1 y a0 a1 g3)) .normal (rt4A2 y a0 a1 (zm20 y g3)).act (wS 6 (rt4L2 y a0 a1 (zm20 y g3))) 9 512 := by
  refine KT.toldAs (L := (zm21 y a0 a1 g3)) ?_ (by
    simp only [List.map_cons, List.map_nil, rt4L, rt4L1, rt4L2, rt4L3, rt4L4, rt4L5]
    all_goals exact kr)
  exact seenK_ok smx rt4K_ok sng (rt4r3_eq y a0 a1 g3) kq
abbrev zm27 := IntKind.i64.wrap ((IntKind.i64.wrap ((1 : Int) * (y.g 4 0))) * (y.g 4 0))
abbrev zm28 := IntKind.i64.wrap ((y.h 2 0) * (zm27 y))
abbrev zm29 := pushI 2 g3 [(zm28 y)]
abbrev zm30 : List MObj := [.rows 5 1 (fun i j => .int .i64 (y.g i j)) y.e y.opn y.sz y.ro, .rows 4 1 (fun i j => .int .i64 (y.h i j)) y.e2 y.opn2 y.sz2 y.ro2, .cells [.int .i64 a0, .int .i64 a1] 3 false 0 false, .rows 3 1 (fun i j => tellV (invN 9 [11]) 8 ((pushRow 2 1 (fun i j => .int .i64 (g3 i j)) [.int .i64 (zm28 y)]) i j)) 3 true 1 false]
abbrev zm31 := decide ((2 : Int) < (IntKind.i64.wrap ((4 : Int) + y.x)))
abbrev zm32 := (2 = 2) ∧ ((2 : Nat) < (4 : Nat))
abbrev zm33 := IntKind.i64.wrap ((IntKind.i64.wrap ((0 : Int) + (1 : Int))) + (1 : Int))
abbrev zm34 := ((((((((((((((True ∧ ((zm31 y) = true)) ∧ ((decide ((2 : Int) < (4 : Int))) = true)) ∧ (((2 : Int) = (Int.ofNat (2 : Nat))) ∧ ((2 : Nat) < (4 : Nat)))) ∧ zm32) ∧ zm13) ∧ zm14) ∧ ((decide ((0 : Int) < (2 : Int))) = true)) ∧ ((decide ((IntKind.i64.wrap ((0 : Int) + (1 : Int))) < (2 : Int))) = true)) ∧ ((decide (zm33 < (2 : Int))) = false)) ∧ zm10) ∧ zm10) ∧ zm10) ∧ zm10) ∧ ((decide ((2 : Int) ≥ (4 : Int))) = false)) ∧ True
abbrev zm35 := (Pl.cr (zm28 y) (- (1073741824 : Int)) (1073741824 : Int)) != (0 : Int)
theorem rt4r6_eq : seenK 6 3 [11] 6663 512 (rt4r6 y a0 a1 g3) = some (.normal, rt4A3 y a0 a1 (zm29 y g3), (zm30 y a0 a1 g3), 512, ⟨[], (((zm34 y) ∧ ((zm35 y) = false)) ∧ ((2 = 2) ∧ ((2 = 2) ∧ (24 ≤ (140737488355328 : Nat)))))⟩) := by kernel_rfl
abbrev zm36 := Pl.cr (zm28 y) (-1073741824 : Int) (1073741824 : Int)
theorem rt4r6_k (h0 : (2 : Int) < (IntKind.i64.wrap ((4 : Int) + y.x))) (h1 : (zm36 y) = (0 : Int)) : KC Tryz.prog none rt4X (rt4A2 y a0 a1 g3).act (wS 6 (rt4L2 y a0 a1 g3)) .normal (rt4A3 y a0 a1 (zm29 y g3)).act (wS 6 (rt4L3 y a0 a1 (zm29 y g3))) 9 512 := by
  refine KT.toldAs (L := (zm30 y a0 a1 g3)) ?_ (by
    simp only [List.map_cons, List.map_nil, rt4L, rt4L1, rt4L2, rt4L3, rt4L4, rt4L5]
    all_goals exact kr)
  exact seenK_ok smx rt4K_ok sng (rt4r6_eq y a0 a1 g3) kq
abbrev zm37 := IntKind.i64.wrap ((zm27 y) * (y.g 4 0))
abbrev zm38 := IntKind.i64.wrap ((y.h 3 0) * (zm37 y))
abbrev zm39 := pushI 3 g3 [(zm38 y)]
abbrev zm40 : List MObj := [.rows 5 1 (fun i j => .int .i64 (y.g i j)) y.e y.opn y.sz y.ro, .rows 4 1 (fun i j => .int .i64 (y.h i j)) y.e2 y.opn2 y.sz2 y.ro2, .cells [.int .i64 a0, .int .i64 a1] 3 false 0 false, .rows 4 1 (fun i j => tellV (invN 9 [11]) 8 ((pushRow 3 1 (fun i j => .int .i64 (g3 i j)) [.int .i64 (zm38 y)]) i j)) 3 true 1 false]
abbrev zm41 := decide ((3 : Int) < (IntKind.i64.wrap ((4 : Int) + y.x)))
abbrev zm42 := (3 = 3) ∧ ((3 : Nat) < (4 : Nat))
abbrev zm43 := IntKind.i64.wrap (zm33 + (1 : Int))
abbrev zm44 := (((((((((((((((True ∧ ((zm41 y) = true)) ∧ ((decide ((3 : Int) < (4 : Int))) = true)) ∧ (((3 : Int) = (Int.ofNat (3 : Nat))) ∧ ((3 : Nat) < (4 : Nat)))) ∧ zm42) ∧ zm13) ∧ zm14) ∧ ((decide ((0 : Int) < (3 : Int))) = true)) ∧ ((decide ((IntKind.i64.wrap ((0 : Int) + (1 : Int))) < (3 : Int))) = true)) ∧ ((decide (zm33 < (3 : Int))) = true)) ∧ ((decide (zm43 < (3 : Int))) = false)) ∧ zm10) ∧ zm10) ∧ zm10) ∧ zm10) ∧ ((decide ((3 : Int) ≥ (4 : Int))) = false)) ∧ True
abbrev zm45 := (Pl.cr (zm38 y) (- (1073741824 : Int)) (1073741824 : Int)) != (0 : Int)
theorem rt4r9_eq : seenK 6 3 [11] 6663 512 (rt4r9 y a0 a1 g3) = some (.normal, rt4A4 y a0 a1 (zm39 y g3), (zm40 y a0 a1 g3), 512, ⟨[], (((zm44 y) ∧ ((zm45 y) = false)) ∧ ((3 = 3) ∧ ((3 = 3) ∧ (32 ≤ (140737488355328 : Nat)))))⟩) := by kernel_rfl
abbrev zm46 := Pl.cr (zm38 y) (-1073741824 : Int) (1073741824 : Int)
theorem rt4r9_k (h0 : (3 : Int) < (IntKind.i64.wrap ((4 : Int) + y.x))) (h1 : (zm46 y) = (0 : Int)) : KC Tryz.prog none rt4X (rt4A3 y a0 a1 g3).act (wS 6 (rt4L3 y a0 a1 g3)) .normal (rt4A4 y a0 a1 (zm39 y g3)).act (wS 6 (rt4L4 y a0 a1 (zm39 y g3))) 9 512 := by
  refine KT.toldAs (L := (zm40 y a0 a1 g3)) ?_ (by
    simp only [List.map_cons, List.map_nil, rt4L, rt4L1, rt4L2, rt4L3, rt4L4, rt4L5]
    all_goals exact kr)
  exact seenK_ok smx rt4K_ok sng (rt4r9_eq y a0 a1 g3) kq
abbrev zm47 := IntKind.i64.wrap ((IntKind.i64.wrap ((IntKind.i64.wrap ((IntKind.i64.wrap ((0 : Int) - (IntKind.i64.wrap ((IntKind.i64.wrap ((y.g 0 0) * (g3 0 0))) * (zm37 y))))) - (IntKind.i64.wrap ((IntKind.i64.wrap ((y.g 1 0) * (g3 1 0))) * (zm27 y))))) - (IntKind.i64.wrap ((IntKind.i64.wrap ((y.g 2 0) * (g3 2 0))) * (IntKind.i64.wrap ((1 : Int) * (y.g 4 0))))))) - (IntKind.i64.wrap ((IntKind.i64.wrap ((y.g 3 0) * (g3 3 0))) * (1 : Int))))
abbrev zm48 := pushI 4 g3 [(zm47 y g3)]
abbrev zm49 : List MObj := [.rows 5 1 (fun i j => .int .i64 (y.g i j)) y.e y.opn y.sz y.ro, .rows 4 1 (fun i j => .int .i64 (y.h i j)) y.e2 y.opn2 y.sz2 y.ro2, .cells [.int .i64 a0, .int .i64 a1] 3 false 0 false, .rows 5 1 (fun i j => tellV (invN 9 [11]) 8 ((pushRow 4 1 (fun i j => .int .i64 (g3 i j)) [.int .i64 (zm47 y g3)]) i j)) 3 true 1 false]
abbrev zm50 := decide ((4 : Int) < (IntKind.i64.wrap ((4 : Int) + y.x)))
abbrev zm51 := (decide ((4 : Int) ≥ (4 : Int))) = true
abbrev zm52 := zm11 ∧ ((0 : Nat) < (5 : Nat))
abbrev zm53 := (0 = 0) ∧ ((0 : Nat) < (5 : Nat))
abbrev zm54 := IntKind.i64.wrap ((IntKind.i64.wrap ((4 : Int) - (0 : Int))) - (1 : Int))
abbrev zm55 := (decide ((0 : Int) < zm54)) = true
abbrev zm56 := (decide ((IntKind.i64.wrap ((0 : Int) + (1 : Int))) < zm54)) = true
abbrev zm57 := (decide (zm33 < zm54)) = true
abbrev zm58 := (decide (zm43 < zm54)) = false
abbrev zm59 := (decide ((IntKind.i64.wrap ((0 : Int) + (1 : Int))) < (4 : Int))) = true
abbrev zm60 := ((IntKind.i64.wrap ((0 : Int) + (1 : Int))) = (Int.ofNat (1 : Nat))) ∧ ((1 : Nat) < (5 : Nat))
abbrev zm61 := (1 = 1) ∧ ((1 : Nat) < (5 : Nat))
abbrev zm62 := IntKind.i64.wrap ((IntKind.i64.wrap ((4 : Int) - (IntKind.i64.wrap ((0 : Int) + (1 : Int))))) - (1 : Int))
abbrev zm63 := (decide ((0 : Int) < zm62)) = true
abbrev zm64 := (decide ((IntKind.i64.wrap ((0 : Int) + (1 : Int))) < zm62)) = true
abbrev zm65 := (decide (zm33 < zm62)) = false
abbrev zm66 := (decide (zm33 < (4 : Int))) = true
abbrev zm67 := (zm33 = (Int.ofNat (2 : Nat))) ∧ ((2 : Nat) < (5 : Nat))
abbrev zm68 := (2 = 2) ∧ ((2 : Nat) < (5 : Nat))
abbrev zm69 := IntKind.i64.wrap ((IntKind.i64.wrap ((4 : Int) - zm33)) - (1 : Int))
abbrev zm70 := (decide ((0 : Int) < zm69)) = true
abbrev zm71 := (decide ((IntKind.i64.wrap ((0 : Int) + (1 : Int))) < zm69)) = false
abbrev zm72 := (decide (zm43 < (4 : Int))) = true
abbrev zm73 := (zm43 = (Int.ofNat (3 : Nat))) ∧ ((3 : Nat) < (5 : Nat))
abbrev zm74 := (3 = 3) ∧ ((3 : Nat) < (5 : Nat))
abbrev zm75 := (decide ((0 : Int) < (IntKind.i64.wrap ((IntKind.i64.wrap ((4 : Int) - zm43)) - (1 : Int))))) = false
abbrev zm76 := (decide ((IntKind.i64.wrap (zm43 + (1 : Int))) < (4 : Int))) = false
abbrev zm77 := (((((((((((((((((((((((((((((((((((((((((((((((((((((((((((((True ∧ ((zm50 y) = true)) ∧ ((decide ((4 : Int) < (4 : Int))) = false)) ∧ zm10) ∧ zm10) ∧ zm10) ∧ zm10) ∧ zm51) ∧ zm52) ∧ zm53) ∧ (((IntKind.i64.wrap ((IntKind.i64.wrap ((4 : Int) - (4 : Int))) + (0 : Int))) = (Int.ofNat (0 : Nat))) ∧ ((0 : Nat) < (4 : Nat)))) ∧ zm12) ∧ zm13) ∧ zm14) ∧ zm55) ∧ zm56) ∧ zm57) ∧ zm58) ∧ zm59) ∧ zm59) ∧ zm59) ∧ zm59) ∧ zm51) ∧ zm60) ∧ zm61) ∧ (((IntKind.i64.wrap ((IntKind.i64.wrap ((4 : Int) - (4 : Int))) + (IntKind.i64.wrap ((0 : Int) + (1 : Int))))) = (Int.ofNat (1 : Nat))) ∧ ((1 : Nat) < (4 : Nat)))) ∧ zm23) ∧ zm13) ∧ zm14) ∧ zm63) ∧ zm64) ∧ zm65) ∧ zm66) ∧ zm66) ∧ zm66) ∧ zm66) ∧ zm51) ∧ zm67) ∧ zm68) ∧ (((IntKind.i64.wrap ((IntKind.i64.wrap ((4 : Int) - (4 : Int))) + zm33)) = (Int.ofNat (2 : Nat))) ∧ ((2 : Nat) < (4 : Nat)))) ∧ zm32) ∧ zm13) ∧ zm14) ∧ zm70) ∧ zm71) ∧ zm72) ∧ zm72) ∧ zm72) ∧ zm72) ∧ zm51) ∧ zm73) ∧ zm74) ∧ (((IntKind.i64.wrap ((IntKind.i64.wrap ((4 : Int) - (4 : Int))) + zm43)) = (Int.ofNat (3 : Nat))) ∧ ((3 : Nat) < (4 : Nat)))) ∧ zm42) ∧ zm13) ∧ zm14) ∧ zm75) ∧ zm76) ∧ zm76) ∧ zm76) ∧ zm76) ∧ (false = false)) ∧ True
abbrev zm78 := (Pl.cr (zm47 y g3) (- (1073741824 : Int)) (1073741824 : Int)) != (0 : Int)
theorem rt4r12_eq : seenK 6 3 [11] 6663 512 (rt4r12 y a0 a1 g3) = some (.normal, rt4A5 y a0 a1 (zm48 y g3) 0 0, (zm49 y a0 a1 g3), 512, ⟨[], (((zm77 y) ∧ ((zm78 y g3) = false)) ∧ ((4 = 4) ∧ ((4 = 4) ∧ (40 ≤ (140737488355328 : Nat)))))⟩) := by kernel_rfl
abbrev zm79 := Pl.cr (zm47 y g3) (-1073741824 : Int) (1073741824 : Int)
theorem rt4r12_k (h0 : (4 : Int) < (IntKind.i64.wrap ((4 : Int) + y.x))) (h1 : (zm79 y g3) = (0 : Int)) : KC Tryz.prog none rt4X (rt4A4 y a0 a1 g3).act (wS 6 (rt4L4 y a0 a1 g3)) .normal (rt4A5 y a0 a1 (zm48 y g3) 0 0).act (wS 6 (rt4L5 y a0 a1 (zm48 y g3) 0 0)) 9 512 := by
  refine KT.toldAs (L := (zm49 y a0 a1 g3)) ?_ (by
    simp only [List.map_cons, List.map_nil, rt4L, rt4L1, rt4L2, rt4L3, rt4L4, rt4L5]
    all_goals exact kr)
  exact seenK_ok smx rt4K_ok sng (rt4r12_eq y a0 a1 g3) kq
theorem rt4r13_eq : seenK 6 3 [] 192 512 (rt4r13 y a0 a1 g3) = some (.ret, rt4r13E y a0 a1 g3, (zm0 y a0 a1), 512, ⟨[], ((zm77 y) ∧ ((zm78 y g3) = true))⟩) := by kernel_rfl
theorem rt4r13_k (h0 : (4 : Int) < (IntKind.i64.wrap ((4 : Int) + y.x))) (h1 : (zm79 y g3) ≠ (0 : Int)) : KC Tryz.prog none rt4X (rt4A4 y a0 a1 g3).act (wS 6 (rt4L4 y a0 a1 g3)) .ret (rt4r13E y a0 a1 g3).act (zm18 y a0 a1) 9 512 :=
  seenK_ok smx rt4K_ok sng (rt4r13_eq y a0 a1 g3) kq
theorem rt4r14_eq : seenK 6 3 [9] 2048 512 (rt4r14 y a0 a1 g3) = some ((.exit 0), rt4r14E y a0 a1 g3, (zm4 y a0 a1 g3), 512, ⟨[], (True ∧ ((zm50 y) = false))⟩) := by kernel_rfl
theorem rt4r14_k (h0 : ¬ (4 : Int) < (IntKind.i64.wrap ((4 : Int) + y.x))) : KC Tryz.prog none rt4X (rt4A4 y a0 a1 g3).act (wS 6 (rt4L4 y a0 a1 g3)) (.exit 0) (rt4r14E y a0 a1 g3).act (wS 6 (zm4 y a0 a1 g3)) 9 512 :=
  seenK_ok smx rt4K_ok sng (rt4r14_eq y a0 a1 g3) kq
abbrev zm80 := IntKind.i64.wrap ((IntKind.i64.wrap ((IntKind.i64.wrap ((IntKind.i64.wrap ((0 : Int) - (IntKind.i64.wrap ((IntKind.i64.wrap ((y.g 0 0) * (g3 (i12 + 1) 0))) * (zm37 y))))) - (IntKind.i64.wrap ((IntKind.i64.wrap ((y.g 1 0) * (g3 (i12 + 2) 0))) * (zm27 y))))) - (IntKind.i64.wrap ((IntKind.i64.wrap ((y.g 2 0) * (g3 (i12 + 3) 0))) * (IntKind.i64.wrap ((1 : Int) * (y.g 4 0))))))) - (IntKind.i64.wrap ((IntKind.i64.wrap ((y.g 3 0) * (g3 (i12 + 4) 0))) * (1 : Int))))
abbrev zm81 := pushI (m11 + 5) g3 [(zm80 y g3 i12)]
abbrev zm82 : List MObj := [.rows 5 1 (fun i j => .int .i64 (y.g i j)) y.e y.opn y.sz y.ro, .rows 4 1 (fun i j => .int .i64 (y.h i j)) y.e2 y.opn2 y.sz2 y.ro2, .cells [.int .i64 a0, .int .i64 a1] 3 false 0 false, .rows (m11 + 6) 1 (fun i j => tellV (invN 9 [11]) 8 ((pushRow (m11 + 5) 1 (fun i j => .int .i64 (g3 i j)) [.int .i64 (zm80 y g3 i12)]) i j)) 3 true 1 false]
abbrev zm83 := decide (((((i12 + 5) : Nat)) : Int) < (IntKind.i64.wrap ((4 : Int) + y.x)))
abbrev zm84 := (decide (((((i12 + 5) : Nat)) : Int) ≥ (4 : Int))) = true
abbrev zm85 := ((.int .i64 (IntKind.i64.wrap (((((i12 + 5) : Nat)) : Int) - (4 : Int)))) : Value) = (.int .i64 ((((i12 + 1) : Nat)) : Int))
abbrev zm86 := (((((((((((((((((((((((((((((((((((((((((((((((((((((((((((((((((((((True ∧ ((zm83 y i12) = true)) ∧ ((decide (((((i12 + 5) : Nat)) : Int) < (4 : Int))) = false)) ∧ zm10) ∧ zm10) ∧ zm10) ∧ zm10) ∧ (zm84 i12)) ∧ zm52) ∧ zm53) ∧ (zm85 i12)) ∧ (((.int .i64 (IntKind.i64.wrap (((((i12 + 1) : Nat)) : Int) + (0 : Int)))) : Value) = (.int .i64 ((((i12 + 1) : Nat)) : Int)))) ∧ ((((((i12 + 1) : Nat)) : Int) = (Int.ofNat (i12 + 1))) ∧ ((i12 + 1) < (m11 + 5)))) ∧ (((0 + ((i12 + 1) * 1)) = (((i12 + 1) * 1) + 0)) ∧ ((i12 + 1) < (m11 + 5)))) ∧ zm13) ∧ zm14) ∧ zm55) ∧ zm56) ∧ zm57) ∧ zm58) ∧ zm59) ∧ zm59) ∧ zm59) ∧ zm59) ∧ (zm84 i12)) ∧ zm60) ∧ zm61) ∧ (zm85 i12)) ∧ (((.int .i64 (IntKind.i64.wrap (((((i12 + 1) : Nat)) : Int) + (IntKind.i64.wrap ((0 : Int) + (1 : Int)))))) : Value) = (.int .i64 ((((i12 + 2) : Nat)) : Int)))) ∧ ((((((i12 + 2) : Nat)) : Int) = (Int.ofNat (i12 + 2))) ∧ ((i12 + 2) < (m11 + 5)))) ∧ (((0 + ((i12 + 2) * 1)) = (((i12 + 2) * 1) + 0)) ∧ ((i12 + 2) < (m11 + 5)))) ∧ zm13) ∧ zm14) ∧ zm63) ∧ zm64) ∧ zm65) ∧ zm66) ∧ zm66) ∧ zm66) ∧ zm66) ∧ (zm84 i12)) ∧ zm67) ∧ zm68) ∧ (zm85 i12)) ∧ (((.int .i64 (IntKind.i64.wrap (((((i12 + 1) : Nat)) : Int) + zm33))) : Value) = (.int .i64 ((((i12 + 3) : Nat)) : Int)))) ∧ ((((((i12 + 3) : Nat)) : Int) = (Int.ofNat (i12 + 3))) ∧ ((i12 + 3) < (m11 + 5)))) ∧ (((0 + ((i12 + 3) * 1)) = (((i12 + 3) * 1) + 0)) ∧ ((i12 + 3) < (m11 + 5)))) ∧ zm13) ∧ zm14) ∧ zm70) ∧ zm71) ∧ zm72) ∧ zm72) ∧ zm72) ∧ zm72) ∧ (zm84 i12)) ∧ zm73) ∧ zm74) ∧ (zm85 i12)) ∧ (((.int .i64 (IntKind.i64.wrap (((((i12 + 1) : Nat)) : Int) + zm43))) : Value) = (.int .i64 ((((i12 + 4) : Nat)) : Int)))) ∧ ((((((i12 + 4) : Nat)) : Int) = (Int.ofNat (i12 + 4))) ∧ ((i12 + 4) < (m11 + 5)))) ∧ (((0 + ((i12 + 4) * 1)) = (((i12 + 4) * 1) + 0)) ∧ ((i12 + 4) < (m11 + 5)))) ∧ zm13) ∧ zm14) ∧ zm75) ∧ zm76) ∧ zm76) ∧ zm76) ∧ zm76) ∧ (false = false)) ∧ True
abbrev zm87 := (Pl.cr (zm80 y g3 i12) (- (1073741824 : Int)) (1073741824 : Int)) != (0 : Int)
theorem rt4r15_eq : seenK 6 3 [11] 6663 512 (rt4r15 y a0 a1 g3 m11 i12) = some (.normal, rt4A5 y a0 a1 (zm81 y g3 m11 i12) (m11 + 1) (i12 + 1), (zm82 y a0 a1 g3 m11 i12), 512, ⟨[], ((((zm86 y m11 i12) ∧ ((zm87 y g3 i12) = false)) ∧ (((m11 + 5) = (m11 + 5)) ∧ (((m11 + 5) = (m11 + 5)) ∧ ((((m11 + 5) + 1) * 8) ≤ (140737488355328 : Nat))))) ∧ (((.int .i64 (IntKind.i64.wrap (((((i12 + 5) : Nat)) : Int) + (1 : Int)))) : Value) = (.int .i64 ((((i12 + 6) : Nat)) : Int))))⟩) := by kernel_rfl
abbrev zm88 := Pl.cr (zm80 y g3 i12) (-1073741824 : Int) (1073741824 : Int)
theorem rt4r15_k (hx : i12 = m11) (hb : m11 ≤ 1000) (h0 : ((i12 + 5 : Nat) : Int) < (IntKind.i64.wrap ((4 : Int) + y.x))) (h1 : (zm88 y g3 i12) = (0 : Int)) : KC Tryz.prog none rt4X (rt4A5 y a0 a1 g3 m11 i12).act (wS 6 (rt4L5 y a0 a1 g3 m11 i12)) .normal (rt4A5 y a0 a1 (zm81 y g3 m11 i12) (m11 + 1) (i12 + 1)).act (wS 6 (rt4L5 y a0 a1 (zm81 y g3 m11 i12) (m11 + 1) (i12 + 1))) 9 512 := by
  refine KT.toldAs (L := (zm82 y a0 a1 g3 m11 i12)) ?_ (by
    simp only [List.map_cons, List.map_nil, rt4L, rt4L1, rt4L2, rt4L3, rt4L4, rt4L5]
    all_goals exact kr)
  exact seenK_ok smx rt4K_ok sng (rt4r15_eq y a0 a1 g3 m11 i12) kq
theorem rt4r16_eq : seenK 6 3 [] 192 512 (rt4r16 y a0 a1 g3 m11 i12) = some (.ret, rt4r16E y a0 a1 g3 m11 i12, (zm0 y a0 a1), 512, ⟨[], ((zm86 y m11 i12) ∧ ((zm87 y g3 i12) = true))⟩) := by kernel_rfl
theorem rt4r16_k (hx : i12 = m11) (hb : m11 ≤ 1000) (h0 : ((i12 + 5 : Nat) : Int) < (IntKind.i64.wrap ((4 : Int) + y.x))) (h1 : (zm88 y g3 i12) ≠ (0 : Int)) : KC Tryz.prog none rt4X (rt4A5 y a0 a1 g3 m11 i12).act (wS 6 (rt4L5 y a0 a1 g3 m11 i12)) .ret (rt4r16E y a0 a1 g3 m11 i12).act (zm18 y a0 a1) 9 512 :=
  seenK_ok smx rt4K_ok sng (rt4r16_eq y a0 a1 g3 m11 i12) kq
theorem rt4r17_eq : seenK 6 3 [9] 2048 512 (rt4r17 y a0 a1 g3 m11 i12) = some ((.exit 0), rt4r17E y a0 a1 g3 m11 i12, (zm5 y a0 a1 g3 m11), 512, ⟨[], (True ∧ ((zm83 y i12) = false))⟩) := by kernel_rfl
theorem rt4r17_k (hx : i12 = m11) (hb : m11 ≤ 1000) (h0 : ¬ ((i12 + 5 : Nat) : Int) < (IntKind.i64.wrap ((4 : Int) + y.x))) : KC Tryz.prog none rt4X (rt4A5 y a0 a1 g3 m11 i12).act (wS 6 (rt4L5 y a0 a1 g3 m11 i12)) (.exit 0) (rt4r17E y a0 a1 g3 m11 i12).act (wS 6 (zm5 y a0 a1 g3 m11)) 9 512 :=
  seenK_ok smx rt4K_ok sng (rt4r17_eq y a0 a1 g3 m11 i12) kq
end
end Go.Proofs.YtbkpnhbcihcgaaaGreatDoor
end
section
set_option linter.all false
set_option maxRecDepth 1000000
open Go.RowKit
namespace Go.Proofs.YtbkpnhbcihcgaaaGreatDoor
open Mini
noncomputable section
variable (y : SV) (a0 : Int) (a1 : Int) (mm : Nat) (jj : Nat) (i : Nat)
abbrev zu0 := IntKind.i64.wrap ((y.h 1 0) * (IntKind.i64.wrap ((1 : Int) * (y.g 4 0))))
abbrev zu1 := IntKind.i64.wrap ((IntKind.i64.wrap ((1 : Int) * (y.g 4 0))) * (y.g 4 0))
abbrev zu2 := IntKind.i64.wrap ((y.h 2 0) * (zu1 y))
abbrev zu3 := IntKind.i64.wrap ((zu1 y) * (y.g 4 0))
abbrev zu4 := IntKind.i64.wrap ((y.h 3 0) * (zu3 y))
def rt4RR (y : SV) (a0 : Int) (a1 : Int) : Nat → Nat → Nat → Int
  | 0 => fun _ _ => 0
  | 1 => (fun i j => ([(IntKind.i64.wrap ((y.h 0 0) * (1 : Int)))] : List Int).getD (i * 1 + j) 0)
  | 2 => (pushI 1 (rt4RR y a0 a1 1) [(zu0 y)])
  | 3 => (pushI 2 (rt4RR y a0 a1 2) [(zu2 y)])
  | 4 => (pushI 3 (rt4RR y a0 a1 3) [(zu4 y)])
  | q + 5 => pushI (q + 4) (rt4RR y a0 a1 (q + 4)) [(IntKind.i64.wrap ((IntKind.i64.wrap ((IntKind.i64.wrap ((IntKind.i64.wrap ((0 : Int) - (IntKind.i64.wrap ((IntKind.i64.wrap ((y.g 0 0) * ((rt4RR y a0 a1 (q + 4)) q 0))) * (zu3 y))))) - (IntKind.i64.wrap ((IntKind.i64.wrap ((y.g 1 0) * ((rt4RR y a0 a1 (q + 4)) (q + 1) 0))) * (zu1 y))))) - (IntKind.i64.wrap ((IntKind.i64.wrap ((y.g 2 0) * ((rt4RR y a0 a1 (q + 4)) (q + 2) 0))) * (IntKind.i64.wrap ((1 : Int) * (y.g 4 0))))))) - (IntKind.i64.wrap ((IntKind.i64.wrap ((y.g 3 0) * ((rt4RR y a0 a1 (q + 4)) (q + 3) 0))) * (1 : Int)))))]
def rt4EE : Nat → Int
  | 0 => (IntKind.i64.wrap ((y.h 0 0) * (1 : Int)))
  | 1 => (zu0 y)
  | 2 => (zu2 y)
  | 3 => (zu4 y)
  | q + 4 => (IntKind.i64.wrap ((IntKind.i64.wrap ((IntKind.i64.wrap ((IntKind.i64.wrap ((0 : Int) - (IntKind.i64.wrap ((IntKind.i64.wrap ((y.g 0 0) * ((rt4RR y a0 a1 (q + 4)) q 0))) * (zu3 y))))) - (IntKind.i64.wrap ((IntKind.i64.wrap ((y.g 1 0) * ((rt4RR y a0 a1 (q + 4)) (q + 1) 0))) * (zu1 y))))) - (IntKind.i64.wrap ((IntKind.i64.wrap ((y.g 2 0) * ((rt4RR y a0 a1 (q + 4)) (q + 2) 0))) * (IntKind.i64.wrap ((1 : Int) * (y.g 4 0))))))) - (IntKind.i64.wrap ((IntKind.i64.wrap ((y.g 3 0) * ((rt4RR y a0 a1 (q + 4)) (q + 3) 0))) * (1 : Int)))))
def rt4AA : MA := match i with
  | 0 => rt4A y a0 a1 
  | 1 => rt4A1 y a0 a1 (rt4RR y a0 a1 1)
  | 2 => rt4A2 y a0 a1 (rt4RR y a0 a1 2)
  | 3 => rt4A3 y a0 a1 (rt4RR y a0 a1 3)
  | 4 => rt4A4 y a0 a1 (rt4RR y a0 a1 4)
  | q + 5 => rt4A5 y a0 a1 (rt4RR y a0 a1 (q + 5)) q q
def rt4LL : List MObj := match i with
  | 0 => rt4L y a0 a1 
  | 1 => rt4L1 y a0 a1 (rt4RR y a0 a1 1)
  | 2 => rt4L2 y a0 a1 (rt4RR y a0 a1 2)
  | 3 => rt4L3 y a0 a1 (rt4RR y a0 a1 3)
  | 4 => rt4L4 y a0 a1 (rt4RR y a0 a1 4)
  | q + 5 => rt4L5 y a0 a1 (rt4RR y a0 a1 (q + 5)) q q
abbrev zu5 := feN (fun i => Pl.cr (y.h i 0) (-1000) 1000) 4 0
abbrev zu6 := Pl.cr y.x (0 : Int) (24 : Int)
def rt4F : Nat → Nat → Nat → Int := rt4RR y (zu5 y) (zu6 y)
noncomputable def rt4FK : CallS := bothX kRCP (bothX kNN (kAll [c_range, c_rrange, c_index]))
def rt4Args : Array Value := #[.slice (some ⟨6, 0, none⟩) 5 y.c, .slice (some ⟨7, 0, none⟩) 4 y.c2, .int .i64 y.x]
def rt4S : List MObj := [.rows 5 1 (fun i j => .int .i64 (y.g i j)) y.e y.opn y.sz y.ro, .rows 4 1 (fun i j => .int .i64 (y.h i j)) y.e2 y.opn2 y.sz2 y.ro2]
noncomputable abbrev zu7 := bodyOf Tryz.prog 52
noncomputable abbrev zu8 := startM Tryz.f52 (rt4Args y)
abbrev zu9 := rt4A y (zu5 y) (zu6 y)
abbrev zu10 := rt4L y (zu5 y) (zu6 y)
abbrev zu11 := rt4r14E y (zu5 y) (zu6 y) (rt4F y 4)
abbrev zu12 : List MObj := [.rows 5 1 (fun i j => .int .i64 (y.g i j)) y.e y.opn y.sz y.ro, .rows 4 1 (fun i j => .int .i64 (y.h i j)) y.e2 y.opn2 y.sz2 y.ro2, .cells [.int .i64 (zu5 y), .int .i64 (zu6 y)] 3 false 0 false, .rows 4 1 (fun i j => .int .i64 ((rt4F y 4) i j)) 3 true 1 false]
noncomputable def rt4f0 : Option OutCS := evK Tryz.prog rt4FK 1000 false zu7 (zu8 y) (wS 6 (rt4S y)) ⟨[0, 0, 0, 1, 0, 0, 1, 1, 0, 0, 0, .lp 6663 (zu9 y) 6 (zu10 y) (.exit 0) (zu11 y) (zu12 y) 9 512], True⟩
abbrev zu13 := rt4r17E y (zu5 y) (zu6 y) (rt4F y (mm + 5)) mm mm
abbrev zu14 : List MObj := [.rows 5 1 (fun i j => .int .i64 (y.g i j)) y.e y.opn y.sz y.ro, .rows 4 1 (fun i j => .int .i64 (y.h i j)) y.e2 y.opn2 y.sz2 y.ro2, .cells [.int .i64 (zu5 y), .int .i64 (zu6 y)] 3 false 0 false, .rows (mm + 5) 1 (fun i j => .int .i64 ((rt4F y (mm + 5)) i j)) 3 true 1 false]
noncomputable def rt4f1 : Option OutCS := evK Tryz.prog rt4FK 1000 false zu7 (zu8 y) (wS 6 (rt4S y)) ⟨[0, 0, 0, 1, 0, 0, 1, 1, 0, 0, 0, .lp 6663 (zu9 y) 6 (zu10 y) (.exit 0) (zu13 y mm) (zu14 y mm) 9 512], True⟩
abbrev zu15 := rt4r13E y (zu5 y) (zu6 y) (rt4F y 4)
abbrev zu16 : List MObj := [.rows 5 1 (fun i j => .int .i64 (y.g i j)) y.e y.opn y.sz y.ro, .rows 4 1 (fun i j => .int .i64 (y.h i j)) y.e2 y.opn2 y.sz2 y.ro2, .cells [.int .i64 (zu5 y), .int .i64 (zu6 y)] 3 false 0 false]
noncomputable def rt4f2 : Option OutCS := evK Tryz.prog rt4FK 1000 false zu7 (zu8 y) (wS 6 (rt4S y)) ⟨[0, 0, 0, 1, 0, 0, 1, 1, 0, 0, 0, .lp 6663 (zu9 y) 6 (zu10 y) .ret (zu15 y) (zu16 y) 9 512], True⟩
abbrev zu17 := rt4r16E y (zu5 y) (zu6 y) (rt4F y (jj + 5)) jj jj
noncomputable def rt4f3 : Option OutCS := evK Tryz.prog rt4FK 1000 false zu7 (zu8 y) (wS 6 (rt4S y)) ⟨[0, 0, 0, 1, 0, 0, 1, 1, 0, 0, 0, .lp 6663 (zu9 y) 6 (zu10 y) .ret (zu17 y jj) (zu16 y) 9 512], True⟩
noncomputable def rt4f4 : Option OutCS := evK Tryz.prog rt4FK 1000 false zu7 (zu8 y) (wS 6 (rt4S y)) ⟨[0, 0, 0, 1, 0, 0, 1, 1, 1, 1, 1], True⟩
noncomputable def rt4f5 : Option OutCS := evK Tryz.prog rt4FK 1000 false zu7 (zu8 y) (wS 6 (rt4S y)) ⟨[0, 0, 0, 1, 0, 1, 0, 1], True⟩
noncomputable def rt4f6 : Option OutCS := evK Tryz.prog rt4FK 1000 false zu7 (zu8 y) (wS 6 (rt4S y)) ⟨[1], True⟩
theorem rt4_go (hi : ((i : Nat) : Int) < (IntKind.i64.wrap ((4 : Int) + y.x))) (hb : i ≤ 1000) (h1 : Pl.cr (rt4EE y a0 a1 i) (-1073741824 : Int) (1073741824 : Int) = 0) : KC Tryz.prog none rt4X (rt4AA y a0 a1 i).act (wS 6 (rt4LL y a0 a1 i)) .normal (rt4AA y a0 a1 (i + 1)).act (wS 6 (rt4LL y a0 a1 (i + 1))) 9 512 := by
  match i, hi, hb, h1 with
  | 0, hi, hb, h1 => exact rt4r0_k y a0 a1  hi h1
  | 1, hi, hb, h1 => exact rt4r3_k y a0 a1 (rt4RR y a0 a1 1) hi h1
  | 2, hi, hb, h1 => exact rt4r6_k y a0 a1 (rt4RR y a0 a1 2) hi h1
  | 3, hi, hb, h1 => exact rt4r9_k y a0 a1 (rt4RR y a0 a1 3) hi h1
  | 4, hi, hb, h1 => exact rt4r12_k y a0 a1 (rt4RR y a0 a1 4) hi h1
  | q + 5, hi, hb, h1 => exact rt4r15_k y a0 a1 (rt4RR y a0 a1 (q + 5)) q q rfl (by omega) hi h1
theorem rt4_l0 (hz : ¬ (4 : Int) < (IntKind.i64.wrap ((4 : Int) + y.x))) (hw : (4 : Int) ≤ (IntKind.i64.wrap ((4 : Int) + y.x))) (h1 : ∀ i, i < 4 → Pl.cr (rt4EE y a0 a1 i) (-1073741824 : Int) (1073741824 : Int) = 0) : KC Tryz.prog none (.loop rt4X) (rt4A y a0 a1).act (wS 6 (rt4L y a0 a1)) (.exit 0) (rt4r14E y a0 a1 (rt4RR y a0 a1 4)).act (wS 6 [.rows 5 1 (fun i j => .int .i64 (y.g i j)) y.e y.opn y.sz y.ro, .rows 4 1 (fun i j => .int .i64 (y.h i j)) y.e2 y.opn2 y.sz2 y.ro2, .cells [.int .i64 a0, .int .i64 a1] 3 false 0 false, .rows 4 1 (fun i j => .int .i64 ((rt4RR y a0 a1 4) i j)) 3 true 1 false]) 9 512 :=
  K_rounds (A := fun i => (rt4AA y a0 a1 i).act) (S := fun i => wS 6 (rt4LL y a0 a1 i)) 4 (fun i hi => rt4_go y a0 a1 i (by omega) (by omega) (h1 i hi)) (rt4r14_k y a0 a1 (rt4RR y a0 a1 4) hz) (by simp)
theorem rt4_l1 (hm : ((mm + 5 : Nat) : Int) = (IntKind.i64.wrap ((4 : Int) + y.x))) (hb : mm ≤ 900) (h1 : ∀ i, i < mm + 5 → Pl.cr (rt4EE y a0 a1 i) (-1073741824 : Int) (1073741824 : Int) = 0) : KC Tryz.prog none (.loop rt4X) (rt4A y a0 a1).act (wS 6 (rt4L y a0 a1)) (.exit 0) (rt4r17E y a0 a1 (rt4RR y a0 a1 (mm + 5)) mm mm).act (wS 6 [.rows 5 1 (fun i j => .int .i64 (y.g i j)) y.e y.opn y.sz y.ro, .rows 4 1 (fun i j => .int .i64 (y.h i j)) y.e2 y.opn2 y.sz2 y.ro2, .cells [.int .i64 a0, .int .i64 a1] 3 false 0 false, .rows (mm + 5) 1 (fun i j => .int .i64 ((rt4RR y a0 a1 (mm + 5)) i j)) 3 true 1 false]) 9 512 :=
  K_rounds (A := fun i => (rt4AA y a0 a1 i).act) (S := fun i => wS 6 (rt4LL y a0 a1 i)) (mm + 5) (fun i hi => rt4_go y a0 a1 i (by omega) (by omega) (h1 i hi)) (rt4r17_k y a0 a1 (rt4RR y a0 a1 (mm + 5)) mm mm rfl (by omega) (by omega)) (by simp)
abbrev zu18 := wS 6 [.rows 5 1 (fun i j => .int .i64 (y.g i j)) y.e y.opn y.sz y.ro, .rows 4 1 (fun i j => .int .i64 (y.h i j)) y.e2 y.opn2 y.sz2 y.ro2, .cells [.int .i64 a0, .int .i64 a1] 3 false 0 false]
theorem rt4_b0 (hz : (4 : Int) < (IntKind.i64.wrap ((4 : Int) + y.x))) (h1 : ∀ i, i < 4 → Pl.cr (rt4EE y a0 a1 i) (-1073741824 : Int) (1073741824 : Int) = 0) (h2 : Pl.cr (rt4EE y a0 a1 4) (-1073741824 : Int) (1073741824 : Int) ≠ 0) : KC Tryz.prog none (.loop rt4X) (rt4A y a0 a1).act (wS 6 (rt4L y a0 a1)) .ret (rt4r13E y a0 a1 (rt4RR y a0 a1 4)).act (zu18 y a0 a1) 9 512 :=
  K_rounds (A := fun i => (rt4AA y a0 a1 i).act) (S := fun i => wS 6 (rt4LL y a0 a1 i)) 4 (fun i hi => rt4_go y a0 a1 i (by omega) (by omega) (h1 i hi)) (rt4r13_k y a0 a1 (rt4RR y a0 a1 4) hz h2) (by simp)
theorem rt4_b1 (hj : ((jj + 5 : Nat) : Int) < (IntKind.i64.wrap ((4 : Int) + y.x))) (hb : jj ≤ 900) (h1 : ∀ i, i < jj + 5 → Pl.cr (rt4EE y a0 a1 i) (-1073741824 : Int) (1073741824 : Int) = 0) (h2 : Pl.cr (rt4EE y a0 a1 (jj + 5)) (-1073741824 : Int) (1073741824 : Int) ≠ 0) : KC Tryz.prog none (.loop rt4X) (rt4A y a0 a1).act (wS 6 (rt4L y a0 a1)) .ret (rt4r16E y a0 a1 (rt4RR y a0 a1 (jj + 5)) jj jj).act (zu18 y a0 a1) 9 512 :=
  K_rounds (A := fun i => (rt4AA y a0 a1 i).act) (S := fun i => wS 6 (rt4LL y a0 a1 i)) (jj + 5) (fun i hi => rt4_go y a0 a1 i (by omega) (by omega) (h1 i hi)) (rt4r16_k y a0 a1 (rt4RR y a0 a1 (jj + 5)) jj jj rfl (by omega) hj h2) (by simp)
theorem rt4FK_ok : FOkS Tryz.prog rt4FK := bothX_ok kRCP_ok (bothX_ok kNN_ok (kAll_ok _ ⟨k_range, k_rrange, k_index, trivial⟩))
abbrev zu19 : List MObj := [.rows 4 1 (fun i j => .int .i64 ((rt4F y 4) i j)) 3 true 1 false]
abbrev zu20 := True ∧ (((5 = 5) ∧ (∀ (i : Nat), ((i < (5 : Nat)) → (∀ (j : Nat), ((j < (1 : Nat)) → ((Value.int .i64 (y.g i j)) = (Value.int .i64 (gI (Value.int .i64 (y.g i j)))))))))) ∧ ((((5 : Nat)) : Int) ≤ (9223372036854775807 : Int)))
abbrev zu21 := (cpV (5 : Nat) (fun (i : Nat) => (fun (j : Nat) => (gI (Value.int .i64 (y.g i j)))))) != (0 : Int)
abbrev zu22 := (((5 : Nat)) : Int) - (1 : Int)
abbrev zu23 := (((((((zu20 y) ∧ ((zu21 y) = false)) ∧ (((IntKind.i64.wrap zu22) == (0 : Int)) = false)) ∧ (((((4 : Nat)) : Int) != (IntKind.i64.wrap zu22)) = false)) ∧ (((4 = 4) ∧ (∀ (i : Nat), ((i < (4 : Nat)) → (∀ (j : Nat), ((j < (1 : Nat)) → ((Value.int .i64 (y.h i j)) = (Value.int .i64 (gI (Value.int .i64 (y.h i j)))))))))) ∧ ((((4 : Nat)) : Int) ≤ (9223372036854775807 : Int)))) ∧ True) ∧ ((decide ((0 : Int) < (((2 : Nat)) : Int))) = true)) ∧ ((0 : Int) = (Int.ofNat 0))
abbrev zu24 := (feN (fun (i : Nat) => (Pl.cr (gI (Value.int .i64 (y.h i 0))) (- (1000 : Int)) (1000 : Int))) (4 : Nat) (0 : Nat)) != (0 : Int)
abbrev zu25 := (IntKind.i64.wrap ((0 : Int) + (1 : Int))) = (Int.ofNat 1)
abbrev zu26 := (((zu23 y) ∧ ((zu24 y) = false)) ∧ ((decide ((IntKind.i64.wrap ((0 : Int) + (1 : Int))) < (((2 : Nat)) : Int))) = true)) ∧ zu25
abbrev zu27 := (zu6 y) != (0 : Int)
abbrev zu28 := (((zu26 y) ∧ ((zu27 y) = false)) ∧ ((decide ((IntKind.i64.wrap ((IntKind.i64.wrap ((0 : Int) + (1 : Int))) + (1 : Int))) < (((2 : Nat)) : Int))) = false)) ∧ (((0 : Int) != (0 : Int)) = false)
abbrev zu29 := feN (fun (i : Nat) => (Pl.cr (y.h i 0) (- (1000 : Int)) (1000 : Int))) (4 : Nat) (0 : Nat)
abbrev zu30 := rt4A y (zu29 y) (zu6 y)
abbrev zu31 := HAppend.hAppend (List.replicate (6 : Nat) MObj.hole) (rt4L y (zu29 y) (zu6 y))
abbrev zu32 := ((zu30 y) = (zu30 y)) ∧ ((9 = (6 + 3)) ∧ ((zu31 y) = (zu31 y)))
abbrev zu33 := wS 6 (zu10 y)
abbrev zu34 := wS 6 (zu12 y)
theorem rt4f0_eq : seenF' Tryz.prog Tryz.f52 6 2 [9] (rt4f0 y) = some (.tuple #[.slice (some ⟨8, 0, none⟩) 4 4, .int .i64 (0 : Int)], rt4S y ++ (zu19 y), ⟨[], ((zu28 y) ∧ ((zu32 y) ∧ KC Tryz.prog none (.loop rt4X) (zu9 y).act (zu33 y) (.exit 0) (zu11 y).act (zu34 y) 9 512))⟩) := by kernel_rfl
theorem rt4f0_s (h0 : (cpV 5 y.g) = (0 : Int)) (h1 : (zu5 y) = (0 : Int)) (h2 : (zu6 y) = (0 : Int)) (l0 : KC Tryz.prog none (.loop rt4X) (zu9 y).act (zu33 y) (.exit 0) (zu11 y).act (zu34 y) 9 512) : SndF Tryz.prog 52 (rt4Args y) (wS 6 (rt4S y)) (.tuple #[.slice (some ⟨8, 0, none⟩) 4 4, .int .i64 (0 : Int)]) (wS 6 (rt4S y ++ (zu19 y))) 192 0 :=
  kF (L := rt4S y) (L2 := (zu19 y)) (ms := [9]) rt4FK_ok (rt4f0_eq y) kq
abbrev zu35 : List MObj := [.rows (mm + 5) 1 (fun i j => .int .i64 ((rt4F y (mm + 5)) i j)) 3 true 1 false]
abbrev zu36 := wS 6 (zu14 y mm)
theorem rt4f1_eq : seenF' Tryz.prog Tryz.f52 6 2 [9] (rt4f1 y mm) = some (.tuple #[.slice (some ⟨8, 0, none⟩) (mm + 5) (mm + 5), .int .i64 (0 : Int)], rt4S y ++ (zu35 y mm), ⟨[], ((zu28 y) ∧ ((zu32 y) ∧ KC Tryz.prog none (.loop rt4X) (zu9 y).act (zu33 y) (.exit 0) (zu13 y mm).act (zu36 y mm) 9 512))⟩) := by kernel_rfl
theorem rt4f1_s (h0 : (cpV 5 y.g) = (0 : Int)) (h1 : (zu5 y) = (0 : Int)) (h2 : (zu6 y) = (0 : Int)) (l0 : KC Tryz.prog none (.loop rt4X) (zu9 y).act (zu33 y) (.exit 0) (zu13 y mm).act (zu36 y mm) 9 512) : SndF Tryz.prog 52 (rt4Args y) (wS 6 (rt4S y)) (.tuple #[.slice (some ⟨8, 0, none⟩) (mm + 5) (mm + 5), .int .i64 (0 : Int)]) (wS 6 (rt4S y ++ (zu35 y mm))) 192 0 :=
  kF (L := rt4S y) (L2 := (zu35 y mm)) (ms := [9]) rt4FK_ok (rt4f1_eq y mm) kq
abbrev zu37 := wS 6 (zu16 y)
theorem rt4f2_eq : seenF' Tryz.prog Tryz.f52 6 2 [] (rt4f2 y) = some (.tuple #[.slice none 0 0, .int .i64 (4 : Int)], rt4S y ++ [], ⟨[], ((zu28 y) ∧ ((zu32 y) ∧ KC Tryz.prog none (.loop rt4X) (zu9 y).act (zu33 y) .ret (zu15 y).act (zu37 y) 9 512))⟩) := by kernel_rfl
theorem rt4f2_s (h0 : (cpV 5 y.g) = (0 : Int)) (h1 : (zu5 y) = (0 : Int)) (h2 : (zu6 y) = (0 : Int)) (l0 : KC Tryz.prog none (.loop rt4X) (zu9 y).act (zu33 y) .ret (zu15 y).act (zu37 y) 9 512) : SndF Tryz.prog 52 (rt4Args y) (wS 6 (rt4S y)) (.tuple #[.slice none 0 0, .int .i64 (4 : Int)]) (wS 6 (rt4S y)) 192 0 :=
  kF (L := rt4S y) (L2 := []) (ms := []) rt4FK_ok (rt4f2_eq y) kq
theorem rt4f3_eq : seenF' Tryz.prog Tryz.f52 6 2 [] (rt4f3 y jj) = some (.tuple #[.slice none 0 0, .int .i64 (4 : Int)], rt4S y ++ [], ⟨[], ((zu28 y) ∧ ((zu32 y) ∧ KC Tryz.prog none (.loop rt4X) (zu9 y).act (zu33 y) .ret (zu17 y jj).act (zu37 y) 9 512))⟩) := by kernel_rfl
theorem rt4f3_s (h0 : (cpV 5 y.g) = (0 : Int)) (h1 : (zu5 y) = (0 : Int)) (h2 : (zu6 y) = (0 : Int)) (l0 : KC Tryz.prog none (.loop rt4X) (zu9 y).act (zu33 y) .ret (zu17 y jj).act (zu37 y) 9 512) : SndF Tryz.prog 52 (rt4Args y) (wS 6 (rt4S y)) (.tuple #[.slice none 0 0, .int .i64 (4 : Int)]) (wS 6 (rt4S y)) 192 0 :=
  kF (L := rt4S y) (L2 := []) (ms := []) rt4FK_ok (rt4f3_eq y jj) kq
abbrev zu38 := (zu27 y) = true
theorem rt4f4_eq : seenF' Tryz.prog Tryz.f52 6 2 [] (rt4f4 y) = some (.tuple #[.slice none 0 0, .int .i64 (zu6 y)], rt4S y ++ [], ⟨[], ((((zu26 y) ∧ (zu38 y)) ∧ zu25) ∧ (zu38 y))⟩) := by kernel_rfl
theorem rt4f4_s (h0 : (cpV 5 y.g) = (0 : Int)) (h1 : (zu5 y) = (0 : Int)) (h2 : (zu6 y) ≠ (0 : Int)) : SndF Tryz.prog 52 (rt4Args y) (wS 6 (rt4S y)) (.tuple #[.slice none 0 0, .int .i64 (zu6 y)]) (wS 6 (rt4S y)) 192 0 :=
  kF (L := rt4S y) (L2 := []) (ms := []) rt4FK_ok (rt4f4_eq y) kq
abbrev zu39 := (zu24 y) = true
theorem rt4f5_eq : seenF' Tryz.prog Tryz.f52 6 2 [] (rt4f5 y) = some (.tuple #[.slice none 0 0, .int .i64 (zu5 y)], rt4S y ++ [], ⟨[], ((((zu23 y) ∧ (zu39 y)) ∧ ((0 : Int) = (Int.ofNat 0))) ∧ (zu39 y))⟩) := by kernel_rfl
theorem rt4f5_s (h0 : (cpV 5 y.g) = (0 : Int)) (h1 : (zu5 y) ≠ (0 : Int)) : SndF Tryz.prog 52 (rt4Args y) (wS 6 (rt4S y)) (.tuple #[.slice none 0 0, .int .i64 (zu5 y)]) (wS 6 (rt4S y)) 192 0 :=
  kF (L := rt4S y) (L2 := []) (ms := []) rt4FK_ok (rt4f5_eq y) kq
theorem rt4f6_eq : seenF' Tryz.prog Tryz.f52 6 2 [] (rt4f6 y) = some (.tuple #[.slice none 0 0, .int .i64 (cpV 5 y.g)], rt4S y ++ [], ⟨[], ((zu20 y) ∧ ((zu21 y) = true))⟩) := by kernel_rfl
theorem rt4f6_s (h0 : (cpV 5 y.g) ≠ (0 : Int)) : SndF Tryz.prog 52 (rt4Args y) (wS 6 (rt4S y)) (.tuple #[.slice none 0 0, .int .i64 (cpV 5 y.g)]) (wS 6 (rt4S y)) 192 0 :=
  kF (L := rt4S y) (L2 := []) (ms := []) rt4FK_ok (rt4f6_eq y) kq
end
end Go.Proofs.YtbkpnhbcihcgaaaGreatDoor
end
section
set_option linter.all false
set_option maxRecDepth 1000000
open Go.RowKit
namespace Go.Proofs.YtbkpnhbcihcgaaaGreatDoor
open Mini
def st4D (y : SV) : Nat → Int := st4EE y (cpV 5 y.g) (feN (fun i => Pl.cr (y.h i 0) (-1000) 1000) 4 0) (Pl.cr y.x (0 : Int) (24 : Int)) (IntKind.i64.wrap ((y.h 0 0) * (1 : Int))) (IntKind.i64.wrap ((y.h 1 0) * (IntKind.i64.wrap ((1 : Int) * (y.g 4 0))))) (IntKind.i64.wrap ((y.h 2 0) * (IntKind.i64.wrap ((IntKind.i64.wrap ((1 : Int) * (y.g 4 0))) * (y.g 4 0))))) (IntKind.i64.wrap ((y.h 3 0) * (IntKind.i64.wrap ((IntKind.i64.wrap ((IntKind.i64.wrap ((1 : Int) * (y.g 4 0))) * (y.g 4 0))) * (y.g 4 0))))) (IntKind.i64.wrap ((y.g 0 0) * (IntKind.i64.wrap ((IntKind.i64.wrap ((IntKind.i64.wrap ((1 : Int) * (y.g 4 0))) * (y.g 4 0))) * (y.g 4 0))))) (IntKind.i64.wrap ((y.g 1 0) * (IntKind.i64.wrap ((IntKind.i64.wrap ((1 : Int) * (y.g 4 0))) * (y.g 4 0))))) (IntKind.i64.wrap ((y.g 2 0) * (IntKind.i64.wrap ((1 : Int) * (y.g 4 0))))) (IntKind.i64.wrap ((y.g 3 0) * (1 : Int))) (IntKind.i64.wrap ((0 : Int) - (IntKind.i64.wrap ((y.g 0 0) * (IntKind.i64.wrap ((IntKind.i64.wrap ((IntKind.i64.wrap ((1 : Int) * (y.g 4 0))) * (y.g 4 0))) * (y.g 4 0))))))) (IntKind.i64.wrap ((0 : Int) - (IntKind.i64.wrap ((y.g 1 0) * (IntKind.i64.wrap ((IntKind.i64.wrap ((1 : Int) * (y.g 4 0))) * (y.g 4 0))))))) (IntKind.i64.wrap ((0 : Int) - (IntKind.i64.wrap ((y.g 2 0) * (IntKind.i64.wrap ((1 : Int) * (y.g 4 0))))))) (IntKind.i64.wrap ((0 : Int) - (IntKind.i64.wrap ((y.g 3 0) * (1 : Int)))))
def rt4D (y : SV) : Nat → Int := rt4EE y (feN (fun i => Pl.cr (y.h i 0) (-1000) 1000) 4 0) (Pl.cr y.x (0 : Int) (24 : Int))
theorem al4 (g : Nat → Nat → Int) (y0 : Int) (y1 : Int) (y2 : Int) (y3 : Int) : (IntKind.i64.wrap ((IntKind.i64.wrap ((IntKind.i64.wrap ((IntKind.i64.wrap ((0 : Int) + (IntKind.i64.wrap ((IntKind.i64.wrap ((0 : Int) - (IntKind.i64.wrap ((g 0 0) * (IntKind.i64.wrap ((IntKind.i64.wrap ((IntKind.i64.wrap ((1 : Int) * (g 4 0))) * (g 4 0))) * (g 4 0))))))) * y0)))) + (IntKind.i64.wrap ((IntKind.i64.wrap ((0 : Int) - (IntKind.i64.wrap ((g 1 0) * (IntKind.i64.wrap ((IntKind.i64.wrap ((1 : Int) * (g 4 0))) * (g 4 0))))))) * y1)))) + (IntKind.i64.wrap ((IntKind.i64.wrap ((0 : Int) - (IntKind.i64.wrap ((g 2 0) * (IntKind.i64.wrap ((1 : Int) * (g 4 0))))))) * y2)))) + (IntKind.i64.wrap ((IntKind.i64.wrap ((0 : Int) - (IntKind.i64.wrap ((g 3 0) * (1 : Int))))) * y3)))) = (IntKind.i64.wrap ((IntKind.i64.wrap ((IntKind.i64.wrap ((IntKind.i64.wrap ((0 : Int) - (IntKind.i64.wrap ((IntKind.i64.wrap ((g 0 0) * y0)) * (IntKind.i64.wrap ((IntKind.i64.wrap ((IntKind.i64.wrap ((1 : Int) * (g 4 0))) * (g 4 0))) * (g 4 0))))))) - (IntKind.i64.wrap ((IntKind.i64.wrap ((g 1 0) * y1)) * (IntKind.i64.wrap ((IntKind.i64.wrap ((1 : Int) * (g 4 0))) * (g 4 0))))))) - (IntKind.i64.wrap ((IntKind.i64.wrap ((g 2 0) * y2)) * (IntKind.i64.wrap ((1 : Int) * (g 4 0))))))) - (IntKind.i64.wrap ((IntKind.i64.wrap ((g 3 0) * y3)) * (1 : Int))))) := by
  simp only [wr_al, wr_ar, wr_sl, wr_sr, wr_ml, wr_mr]
  refine congrArg _ ?_
  all_goals try simp only [Int.zero_add, Int.zero_sub, Int.mul_one, Int.one_mul, Int.neg_mul, Int.sub_mul, Int.add_mul]
  all_goals try simp only [Int.mul_assoc, Int.mul_comm, Int.mul_left_comm]
  all_goals omega
theorem rt4_at (y : SV) : ∀ t j, j < t → rt4F y t j 0 = rt4D y j
  | 0, j, hz => absurd hz (Nat.not_lt_zero j)
  | 1, j, hz => by
    obtain rfl : j = 0 := by omega
    rfl
  | 2, j, hz => by
    show (if j < 1 then rt4F y 1 j 0 else _) = _
    by_cases c0 : j < 1
    · rw [if_pos c0]; exact rt4_at y 1 j c0
    · rw [if_neg c0]
      obtain rfl : j = 1 := by omega
      rfl
  | 3, j, hz => by
    show (if j < 2 then rt4F y 2 j 0 else _) = _
    by_cases c0 : j < 2
    · rw [if_pos c0]; exact rt4_at y 2 j c0
    · rw [if_neg c0]
      obtain rfl : j = 2 := by omega
      rfl
  | 4, j, hz => by
    show (if j < 3 then rt4F y 3 j 0 else _) = _
    by_cases c0 : j < 3
    · rw [if_pos c0]; exact rt4_at y 3 j c0
    · rw [if_neg c0]
      obtain rfl : j = 3 := by omega
      rfl
  | q + 5, j, hz => by
    show (if j < q + 4 then rt4F y (q + 4) j 0 else _) = _
    by_cases c0 : j < q + 4
    · rw [if_pos c0]; exact rt4_at y (q + 4) j c0
    · rw [if_neg c0]
      obtain rfl : j = q + 4 := by omega
      rfl
theorem rt4_nx (y : SV) (q : Nat) : rt4D y (q + 4) = (IntKind.i64.wrap ((IntKind.i64.wrap ((IntKind.i64.wrap ((IntKind.i64.wrap ((0 : Int) - (IntKind.i64.wrap ((IntKind.i64.wrap ((y.g 0 0) * (rt4D y (q)))) * (IntKind.i64.wrap ((IntKind.i64.wrap ((IntKind.i64.wrap ((1 : Int) * (y.g 4 0))) * (y.g 4 0))) * (y.g 4 0))))))) - (IntKind.i64.wrap ((IntKind.i64.wrap ((y.g 1 0) * (rt4D y (q + 1)))) * (IntKind.i64.wrap ((IntKind.i64.wrap ((1 : Int) * (y.g 4 0))) * (y.g 4 0))))))) - (IntKind.i64.wrap ((IntKind.i64.wrap ((y.g 2 0) * (rt4D y (q + 2)))) * (IntKind.i64.wrap ((1 : Int) * (y.g 4 0))))))) - (IntKind.i64.wrap ((IntKind.i64.wrap ((y.g 3 0) * (rt4D y (q + 3)))) * (1 : Int))))) := by
  rw [← rt4_at y (q + 4) (q) (by omega), ← rt4_at y (q + 4) (q + 1) (by omega), ← rt4_at y (q + 4) (q + 2) (by omega), ← rt4_at y (q + 4) (q + 3) (by omega)]
  rfl
theorem st4_at (y : SV) : ∀ q, (∀ j, j < q + 5 → st4F y q j 0 = rt4D y j) ∧ st4D y q = rt4D y (q + 4)
  | 0 => by
    have hd : st4D y 0 = rt4D y (0 + 4) := by
      rw [rt4_nx]
      exact al4 y.g (rt4D y 0) (rt4D y 1) (rt4D y 2) (rt4D y 3)
    refine ⟨fun j hj => ?_, hd⟩
    match j, hj with
    | 0, _ => rfl
    | 1, _ => rfl
    | 2, _ => rfl
    | 3, _ => rfl
    | 4, _ => exact hd
    | j + 5, hj => omega
  | q + 1 => by
    obtain ⟨h1, h2⟩ := st4_at y q
    have hd : st4D y (q + 1) = rt4D y (q + 1 + 4) := by
      rw [rt4_nx, ← al4 y.g, ← h1 (q + 1) (by omega), ← h1 (q + 1 + 1) (by omega), ← h1 (q + 1 + 2) (by omega), ← h1 (q + 1 + 3) (by omega)]
      rfl
    refine ⟨fun j hj => ?_, hd⟩
    show (if j < q + 5 then st4F y q j 0 else _) = _
    by_cases c0 : j < q + 5
    · rw [if_pos c0]; exact h1 j c0
    · rw [if_neg c0]
      obtain rfl : j = q + 1 + 4 := by omega
      exact hd
theorem rt4_in (y : SV) (h1 : cpV 5 y.g = 0) (h2 : feN (fun i => Pl.cr (y.h i 0) (-1000) 1000) 4 0 = 0) : ∀ i, i < 4 → Pl.cr (rt4D y i) (-1073741824 : Int) (1073741824 : Int) = 0 := fun i hi => by
  have hg : (y.g 4 0).natAbs ≤ 100 := cr_nab (A := 100) (cpV_c h1 4 (by omega))
  have hh : ∀ k, k < 4 → (y.h k 0).natAbs ≤ 1000 := fun k hk => cr_nab (A := 1000) (feN_zero h2 k hk)
  match i, hi with
  | 0, _ =>
    show Pl.cr (IntKind.i64.wrap ((y.h 0 0) * (1 : Int))) _ _ = 0
    try simp only [wr_ml, wr_mr]
    exact cr_in (nab_mul (hh 0 (by omega)) (by decide : (1 : Int).natAbs ≤ 1)) (by decide)
  | 1, _ =>
    show Pl.cr (IntKind.i64.wrap ((y.h 1 0) * (IntKind.i64.wrap ((1 : Int) * (y.g 4 0))))) _ _ = 0
    try simp only [wr_ml, wr_mr]
    exact cr_in (nab_mul (hh 1 (by omega)) (nab_mul (by decide : (1 : Int).natAbs ≤ 1) hg)) (by decide)
  | 2, _ =>
    show Pl.cr (IntKind.i64.wrap ((y.h 2 0) * (IntKind.i64.wrap ((IntKind.i64.wrap ((1 : Int) * (y.g 4 0))) * (y.g 4 0))))) _ _ = 0
    try simp only [wr_ml, wr_mr]
    exact cr_in (nab_mul (hh 2 (by omega)) (nab_mul (nab_mul (by decide : (1 : Int).natAbs ≤ 1) hg) hg)) (by decide)
  | 3, _ =>
    show Pl.cr (IntKind.i64.wrap ((y.h 3 0) * (IntKind.i64.wrap ((IntKind.i64.wrap ((IntKind.i64.wrap ((1 : Int) * (y.g 4 0))) * (y.g 4 0))) * (y.g 4 0))))) _ _ = 0
    try simp only [wr_ml, wr_mr]
    exact cr_in (nab_mul (hh 3 (by omega)) (nab_mul (nab_mul (nab_mul (by decide : (1 : Int).natAbs ≤ 1) hg) hg) hg)) (by decide)
  | i + 4, hi => omega
end Go.Proofs.YtbkpnhbcihcgaaaGreatDoor
end
