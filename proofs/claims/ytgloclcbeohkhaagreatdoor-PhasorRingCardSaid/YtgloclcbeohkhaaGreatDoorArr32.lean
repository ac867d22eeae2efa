/-
  Arrays of three pairs of small integers by value, opened and shut; the tables that chapter 1's laws read.
-/
import Derived.Test.YtgloclcbeohkhaaGreatDoorPost
import Derived.Lib.LaidTab
import Derived.LaidSub
import Derived.Test.YtgloclcbeohkhaaGreatDoorMiniR
namespace Go.Proofs.YtgloclcbeohkhaaGreatDoor
set_option linter.all false
open Go.ChangeShapes Go.WideShapes Go.ChangeAt Go.RowKit

section
open Go.Lib

theorem trod_lit {H : Type} {enc : TypeId × Value → H} {P : Program} {w : World} {base : Nat} {sp : Nat → Bool} {held : Bool} {fuel : Nat} {t : TypeId} {k : IntKind} {z : Int} {cs : List Value} {p : List MemPlace}
    (ht : P.underlying t = some (.int k)) (h : DataW.trod enc P w base sp held fuel t cs = some (.lit (.int k z), p)) : cs = [.int k z] := by
  obtain ⟨z', hc, hd, _⟩ := DataW.trod_int ht h
  cases hd
  exact hc
theorem cells_of_pairs {H : Type} {enc : TypeId × Value → H} {P : Program} {w : World} {base : Nat} {sp : Nat → Bool} {held : Bool} {fuel : Nat} {t e : TypeId} {n : Nat} {k : IntKind} {cs : List Value} {zs : List (Int × Int)} {p : List MemPlace} {fs : Array Field} {f0 f1 : Field}
    (ht : P.underlying t = some (.array n e)) (he : P.underlying e = some (.struct fs)) (hfs : fs.toList = [f0, f1]) (h0 : f0.offset = 0) (h1 : f1.offset = 1) (k0 : P.underlying f0.type = some (.int k)) (k1 : P.underlying f1.type = some (.int k))
    (c0 : P.cellsOf f0.type = 1) (c1 : P.cellsOf f1.type = 1) (hce : P.cellsOf e = 2)
    (h : DataW.trod enc P w base sp held fuel t cs = some (.agg (zs.map fun z => .agg [.lit (.int k z.1), .lit (.int k z.2)]), p)) :
    ∀ (i : Nat) (z : Int × Int), zs[i]? = some z → cs[i * 2]? = some (.int k z.1) ∧ cs[i * 2 + 1]? = some (.int k z.2) := by
  cases fuel with
  | zero => simp [DataW.trod] at h
  | succ fuel =>
    simp only [DataW.trod, ht, hce] at h
    split at h
    · rename_i hl
      obtain ⟨xs, hm, hx⟩ := Option.map_eq_some_iff.1 h
      have hxs : xs.map (·.1) = zs.map fun z => (DataW.agg [.lit (.int k z.1), .lit (.int k z.2)] : DataW H) := by
        have := congrArg Prod.fst hx
        simpa using this
      have hxl : xs.length = n := by simpa using mapM_length hm
      have hzl : zs.length = n := by
        have := congrArg List.length hxs
        simp at this
        omega
      intro i z hz
      have hi : i < n := by
        have := (List.getElem?_eq_some_iff.1 hz).1
        omega
      obtain ⟨b, hb, hf⟩ := mapM_at hm i i (by simp [hi])
      have h2 : (xs.map (·.1))[i]? = some b.1 := by simp [hb]
      rw [hxs] at h2
      simp only [List.getElem?_map, hz, Option.map_some, Option.some.injEq] at h2
      cases fuel with
      | zero => simp [DataW.trod] at hf
      | succ fuel =>
        simp only [DataW.trod, he] at hf
        split at hf
        · obtain ⟨ys, hy, hyb⟩ := Option.map_eq_some_iff.1 hf
          rw [hfs] at hy
          simp only [List.mapM_cons, List.mapM_nil, Option.bind_eq_bind, Option.bind_eq_some_iff, Option.pure_def, Option.some.injEq] at hy
          obtain ⟨y0, e0, l1, ⟨y1, e1, l2, rfl, rfl⟩, rfl⟩ := hy
          have hb1 := congrArg Prod.fst hyb
          simp only [List.map_cons, List.map_nil] at hb1
          rw [← h2] at hb1
          simp only [DataW.agg.injEq, List.cons.injEq, and_true] at hb1
          obtain ⟨q0, q1⟩ := hb1
          obtain ⟨d0, p0⟩ := y0
          obtain ⟨d1, p1⟩ := y1
          simp only at q0 q1
          subst q0 q1
          have g0 := trod_lit k0 e0
          have g1 := trod_lit k1 e1
          rw [h0, c0] at g0
          rw [h1, c1] at g1
          have a0 := congrArg (·[0]?) g0
          have a1 := congrArg (·[0]?) g1
          simp [List.getElem?_take, List.getElem?_drop] at a0 a1
          exact ⟨by simpa using a0, by simpa using a1⟩
        · cases hf
    · cases h
end
theorem list6 {α : Type} (l : List α) (h : (⟨l⟩ : Array α).size = 6) : ∃ a b c d e f, l = [a, b, c, d, e, f] := by
  match l, h with
  | [a, b, c, d, e, f], _ => exact ⟨a, b, c, d, e, f, rfl⟩
theorem trod2 {H : Type} {enc : TypeId × Value → H} {P : Program} {w : World} {base : Nat} {spare : Nat → Bool} {held : Bool} {u e : TypeId} {k : IntKind} {fuel : Nat} {c0 c1 : Value} {y : DataW H × List MemPlace}
    (hu : P.underlying u = some (.array 2 e)) (he : P.underlying e = some (.int k)) (hce : P.cellsOf e = 1) (h : DataW.trod enc P w base spare held fuel u [c0, c1] = some y) :
    ∃ x0 x1, c0 = .int k x0 ∧ c1 = .int k x1 ∧ y = (.agg [.lit (.int k x0), .lit (.int k x1)], []) ∧ (Lit.int k x0).wf = true ∧ (Lit.int k x1).wf = true := by
  obtain ⟨d, ps⟩ := y
  obtain ⟨xs, m, _, hx, _, hl, hi⟩ := DataW.trod_array hu h
  have h0 := hi 0 (by omega)
  have h1 := hi 1 (by omega)
  rw [hce] at h0 h1
  match xs, hl with
  | [y0, y1], _ =>
    simp at h0 h1
    obtain ⟨x0, e0, rfl, w0⟩ := DataW.trod_int he h0
    obtain ⟨x1, e1, rfl, w1⟩ := DataW.trod_int he h1
    simp at e0 e1 hx
    subst e0 e1
    exact ⟨x0, x1, rfl, rfl, by rw [hx.1, hx.2], w0, w1⟩
theorem open_arr32 {H : Type} {enc : TypeId × Value → H} {P : Program} {w : World} {base b0 : Nat} {spare : Nat → Bool} {held : Bool} {r : Reach} {t u e : TypeId} {k : IntKind} {v : Value} {d : DataW H} {ps : List MemPlace}
    (ht : P.underlying t = some (.array 3 u)) (hu : P.underlying u = some (.array 2 e)) (he : P.underlying e = some (.int k)) (hc : P.cellsOf t = 6) (hcu : P.cellsOf u = 2) (hce : P.cellsOf e = 1) (hval : Value.okWide P w r b0 t v) (hd : DataW.Trod enc P w base spare held t v d ps) :
    ∃ x0 x1 x2 x3 x4 x5, v = .agg #[.int k x0, .int k x1, .int k x2, .int k x3, .int k x4, .int k x5] ∧ d = .agg [.agg [.lit (.int k x0), .lit (.int k x1)], .agg [.lit (.int k x2), .lit (.int k x3)], .agg [.lit (.int k x4), .lit (.int k x5)]] ∧ ps = [] ∧
      (Lit.int k x0).wf = true ∧ (Lit.int k x1).wf = true ∧ (Lit.int k x2).wf = true ∧ (Lit.int k x3).wf = true ∧ (Lit.int k x4).wf = true ∧ (Lit.int k x5).wf = true := by
  obtain ⟨cs, rfl, hsz⟩ : ∃ cs, v = .agg cs ∧ cs.size = P.cellsOf t := by
    have h := hval
    simp only [Value.okWide, ht] at h
    obtain ⟨cs, h1, h2, _⟩ := h
    exact ⟨cs, h1, h2⟩
  rw [hc] at hsz
  obtain ⟨l⟩ := cs
  obtain ⟨c0, c1, c2, c3, c4, c5, rfl⟩ := list6 l hsz
  obtain ⟨fuel, hf⟩ := hd
  obtain ⟨xs, m, _, hx, _, hl, hi⟩ := DataW.trod_array ht hf
  have h0 := hi 0 (by omega)
  have h1 := hi 1 (by omega)
  have h2 := hi 2 (by omega)
  rw [hcu] at h0 h1 h2
  match xs, hl with
  | [y0, y1, y2], _ =>
    simp [Value.cells] at h0 h1 h2
    obtain ⟨x0, x1, rfl, rfl, e0, w0, w1⟩ := trod2 hu he hce h0
    obtain ⟨x2, x3, rfl, rfl, e1, w2, w3⟩ := trod2 hu he hce h1
    obtain ⟨x4, x5, rfl, rfl, e2, w4, w5⟩ := trod2 hu he hce h2
    subst e0 e1 e2
    simp at hx
    exact ⟨x0, x1, x2, x3, x4, x5, rfl, hx.1, hx.2, w0, w1, w2, w3, w4, w5⟩
theorem shut_arr32 {H : Type} {enc : TypeId × Value → H} {P : Program} {w : World} {base : Nat} {spare : Nat → Bool} {held : Bool} {t u e : TypeId} {k : IntKind} {x0 x1 x2 x3 x4 x5 : Int}
    (ht : P.underlying t = some (.array 3 u)) (hu : P.underlying u = some (.array 2 e)) (he : P.underlying e = some (.int k)) (hc : P.cellsOf t = 6) (hcu : P.cellsOf u = 2) (hce : P.cellsOf e = 1)
    (w0 : (Lit.int k x0).wf = true) (w1 : (Lit.int k x1).wf = true) (w2 : (Lit.int k x2).wf = true) (w3 : (Lit.int k x3).wf = true) (w4 : (Lit.int k x4).wf = true) (w5 : (Lit.int k x5).wf = true) :
    DataW.Trod enc P w base spare held t (.agg #[.int k x0, .int k x1, .int k x2, .int k x3, .int k x4, .int k x5]) (DataW.agg [.agg [.lit (.int k x0), .lit (.int k x1)], .agg [.lit (.int k x2), .lit (.int k x3)], .agg [.lit (.int k x4), .lit (.int k x5)]]) [] :=
  ⟨3, by simp [DataW.trod, Value.cells, ht, hu, he, hc, hcu, hce, w0, w1, w2, w3, w4, w5, show List.range 2 = [0, 1] from rfl, show List.range 3 = [0, 1, 2] from rfl]⟩

/-- A table of pairs on a row's list. -/
theorem pairs_of_laid {P : Program} {W : World} {name : String} {k : IntKind} {zs : List (Int × Int)} {g : Nat} {t e : TypeId} {n : Nat} {fs : Array Field} {f0 f1 : Field}
    (hg : P.globalNamed name = some g) (hty : (P.globals[g]?).map (·.type) = some t) (ht : P.underlying t = some (.array n e)) (he : P.underlying e = some (.struct fs)) (hfs : fs.toList = [f0, f1]) (h0 : f0.offset = 0) (h1 : f1.offset = 1) (k0 : P.underlying f0.type = some (.int k)) (k1 : P.underlying f1.type = some (.int k))
    (c0 : P.cellsOf f0.type = 1) (c1 : P.cellsOf f1.type = 1) (hce : P.cellsOf e = 2)
    (h : laidMet P [(name, .agg (zs.map fun z => .agg [.lit (.int k z.1), .lit (.int k z.2)]))] W) (i : Nat) (z : Int × Int) (hz : zs[i]? = some z) :
    W.cell? ⟨g, i * 2, none⟩ = some (.int k z.1) ∧ W.cell? ⟨g, i * 2 + 1, none⟩ = some (.int k z.2) := by
  obtain ⟨ps, ⟨g', t', cs, fuel, p, q, hg', ht', hvar, hd, _, _⟩, _⟩ := h
  obtain rfl := Option.some.inj (hg.symm.trans hg')
  obtain rfl := Option.some.inj (hty.symm.trans ht')
  obtain ⟨a, b⟩ := cells_of_pairs ht he hfs h0 h1 k0 k1 c0 c1 hce hd i z hz
  have r0 := World.var?_cell hg hvar (i * 2)
  have r1 := World.var?_cell hg hvar (i * 2 + 1)
  constructor
  · rw [r0]; simpa using a
  · rw [r1]; simpa using b
end Go.Proofs.YtgloclcbeohkhaaGreatDoor
