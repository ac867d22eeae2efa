/-
  TopWasherSteps: for all arguments the law returns true and leaves its arguments as they were, wherever the tables that its row lists are laid as the text lays them.
  Tables of structures of two pairs on a row's list.
  The last step of a row whose call leaves a world of which only 'Below' is known; tables of pairs on a row's list.
  Arguments that are made of integers alone (numbers, arrays and structs of them, in any depth), opened: their cells are numbers, and their data is the same in each world.
-/
import Derived.Test.YtnmnndhkchmokaaGWS2
import Derived.OpenShut
import Derived.RowKit
import Derived.WideShapes
import Derived.Below
import Derived.ChangeSame
import Derived.ProofKit
import Derived.JoinedCond
import Derived.JoinedOf
import Derived.JoinedAt
import Derived.RowKit3
import Derived.Lib.LaidTab
import Derived.LaidSub
import Derived.Test.YtnmnndhkchmokaaRows
import Derived.Handed
import Derived.Test.YtnmnndhkchmokaaGWS5
import Derived.WalkKit
import Derived.Deep.DeepHandedRow
section
namespace Go.Proofs.Ytnmnndhkchmokaa
set_option linter.all false
open Go.ChangeShapes Go.WideShapes Go.RowKit
namespace Mini

def pairsK (g : TypeId → Option (List IntKind)) (P : Program) : Nat → List (Nat × TypeId) → Option (List IntKind)
  | _, [] => some []
  | off, x :: l => match g x.2 with
    | some ks => match (x.1 == off) && (P.cellsOf x.2 == ks.length) with
      | true => match pairsK g P (off + ks.length) l with
        | some r => some (ks ++ r)
        | none => none
      | false => none
    | none => none
def kindsT (P : Program) : Nat → TypeId → Option (List IntKind)
  | 0, _ => none
  | n + 1, t => match P.underlying t with
    | some (.int k) => some [k]
    | some (.array m e) => match pairsK (kindsT P n) P 0 ((List.range m).map fun i => (i * P.cellsOf e, e)) with
      | some ks => match P.cellsOf t == ks.length with
        | true => some ks
        | false => none
      | none => none
    | some (.struct fs) => match pairsK (kindsT P n) P 0 (fs.toList.map fun f => (f.offset, f.type)) with
      | some ks => match P.cellsOf t == ks.length with
        | true => some ks
        | false => none
      | none => none
    | _ => none
def wfs : List IntKind → List Int → Bool
  | k :: ks, n :: ns => (Lit.int k n).wf && wfs ks ns
  | _, _ => true
theorem backI_length : ∀ (ks : List IntKind) (ns : List Int), ns.length = ks.length → (backI ks ns).length = ks.length
  | [], [], _ => rfl
  | k :: ks, n :: ns, h => by simp only [backI, List.length_cons, backI_length ks ns (by simpa using h)]
  | [], n :: ns, h => by cases h
  | k :: ks, [], h => by cases h
theorem backI_append : ∀ (ks ks' : List IntKind) (ns ns' : List Int), ns.length = ks.length → backI (ks ++ ks') (ns ++ ns') = backI ks ns ++ backI ks' ns'
  | [], ks', [], ns', _ => rfl
  | k :: ks, ks', n :: ns, ns', h => by
    show Value.int k n :: backI (ks ++ ks') (ns ++ ns') = _
    rw [backI_append ks ks' ns ns' (by simpa using h)]
    rfl
  | [], ks', n :: ns, ns', h => by cases h
  | k :: ks, ks', [], ns', h => by cases h
theorem wfs_append : ∀ (ks ks' : List IntKind) (ns ns' : List Int), ns.length = ks.length → wfs ks ns = true → wfs ks' ns' = true → wfs (ks ++ ks') (ns ++ ns') = true
  | [], ks', [], ns', _, _, h => h
  | k :: ks, ks', n :: ns, ns', h, h1, h2 => by
    simp only [wfs, Bool.and_eq_true] at h1
    show ((Lit.int k n).wf && wfs (ks ++ ks') (ns ++ ns')) = true
    rw [h1.1, wfs_append ks ks' ns ns' (by simpa using h) h1.2 h2]
    rfl
  | [], ks', n :: ns, ns', h, _, _ => by cases h
  | k :: ks, ks', [], ns', h, _, _ => by cases h
theorem mapM_map' {α β γ : Type} (f : α → β) (g : β → Option γ) : ∀ l : List α, (l.map f).mapM g = l.mapM fun a => g (f a)
  | [] => rfl
  | a :: l => by simp [List.mapM_cons, mapM_map' f g l]

section
variable {H : Type} {enc : TypeId × Value → H} {P : Program}

def Flat (enc : TypeId × Value → H) (P : Program) (fuel : Nat) (t : TypeId) (cs : List Value) (d : DataW H) (ks : List IntKind) : Prop :=
  ∃ ns, ns.length = ks.length ∧ cs = backI ks ns ∧ wfs ks ns = true ∧ ∀ w b sp held, DataW.trod enc P w b sp held fuel t cs = some (d, [])
theorem flat_pairs {n fuel : Nat} (IH : ∀ (t : TypeId) (ks : List IntKind), kindsT P n t = some ks → ∀ (cs : List Value) (d : DataW H) (p : List MemPlace) w b sp held, DataW.trod enc P w b sp held fuel t cs = some (d, p) → p = [] ∧ Flat enc P fuel t cs d ks) :
    ∀ (L : List (Nat × TypeId)) (off : Nat) (ks : List IntKind) (cs : List Value) (xs : List (DataW H × List MemPlace)) (w : World) (b : Nat) (sp : Nat → Bool) (held : Bool), pairsK (kindsT P n) P off L = some ks → off + ks.length ≤ cs.length →
      L.mapM (fun x => DataW.trod enc P w b sp held fuel x.2 ((cs.drop x.1).take (P.cellsOf x.2))) = some xs →
      xs.flatMap (·.2) = [] ∧ ∃ ns, ns.length = ks.length ∧ (cs.drop off).take ks.length = backI ks ns ∧ wfs ks ns = true ∧ ∀ w b sp held, L.mapM (fun x => DataW.trod enc P w b sp held fuel x.2 ((cs.drop x.1).take (P.cellsOf x.2))) = some xs
  | [], off, ks, cs, xs, w, b, sp, held, hk, hl, hm => by
    cases hk
    simp at hm
    subst hm
    exact ⟨rfl, [], rfl, by simp [backI], rfl, fun _ _ _ _ => rfl⟩
  | x :: L, off, ks, cs, xs, w, b, sp, held, hk, hl, hm => by
    simp only [pairsK] at hk
    split at hk
    · rename_i ks1 hk1
      split at hk
      · rename_i hc
        simp only [Bool.and_eq_true, beq_iff_eq] at hc
        obtain ⟨hx, hcell⟩ := hc
        split at hk
        · rename_i r hr
          cases hk
          simp only [List.length_append] at hl
          simp only [List.mapM_cons, Option.bind_eq_bind, Option.bind_eq_some_iff, Option.pure_def, Option.some.injEq] at hm
          obtain ⟨y, hy, ys, hys, rfl⟩ := hm
          obtain ⟨d, p⟩ := y
          obtain ⟨rfl, ns1, l1, c1, f1, t1⟩ := IH x.2 ks1 hk1 _ d p w b sp held hy
          obtain ⟨e2, ns2, l2, c2, f2, t2⟩ := flat_pairs IH L (off + ks1.length) r cs ys w b sp held hr (by omega) hys
          refine ⟨by simpa using e2, ns1 ++ ns2, by simp [l1, l2], ?_, wfs_append _ _ _ _ l1 f1 f2, fun w' b' sp' held' => ?_⟩
          · rw [backI_append _ _ _ _ l1, ← c2, List.length_append, List.take_add, List.drop_drop]
            rw [hx, hcell] at c1
            rw [c1]
          · simp only [List.mapM_cons, Option.bind_eq_bind, Option.pure_def]
            rw [t1 w' b' sp' held', t2 w' b' sp' held']
            rfl
        · cases hk
      · cases hk
    · cases hk
theorem open_kinds : ∀ (n : Nat) (t : TypeId) (ks : List IntKind), kindsT P n t = some ks → ∀ (fuel : Nat) (cs : List Value) (d : DataW H) (p : List MemPlace) w b sp held, DataW.trod enc P w b sp held fuel t cs = some (d, p) → p = [] ∧ Flat enc P fuel t cs d ks
  | 0, t, ks, hk, fuel, cs, d, p, w, b, sp, held, h => by cases hk
  | n + 1, t, ks, hk, fuel, cs, d, p, w, b, sp, held, h => by
    cases fuel with
    | zero => simp [DataW.trod] at h
    | succ fuel =>
      simp only [kindsT] at hk
      split at hk
      · rename_i k ht
        cases hk
        obtain ⟨z, rfl, hx, hw⟩ := DataW.trod_int ht h
        cases hx
        refine ⟨rfl, [z], rfl, rfl, by simp [wfs, hw], fun w' b' sp' held' => ?_⟩
        simp [DataW.trod, ht, hw]
      · rename_i m e ht
        split at hk
        · rename_i ks' hk'
          split at hk
          · rename_i hc
            cases hk
            have hc := beq_iff_eq.1 hc
            simp only [DataW.trod, ht] at h
            split at h
            · rename_i hl
              obtain ⟨xs, hm, hx⟩ := Option.map_eq_some_iff.1 h
              have hm2 : ((List.range m).map fun i => (i * P.cellsOf e, e)).mapM (fun x => DataW.trod enc P w b sp held fuel x.2 ((cs.drop x.1).take (P.cellsOf x.2))) = some xs := by rw [mapM_map']; exact hm
              obtain ⟨e1, ns, l1, c1, f1, t1⟩ := flat_pairs (fun t ks hk cs d p w b sp held h => open_kinds n t ks hk fuel cs d p w b sp held h) _ 0 ks cs xs w b sp held hk' (by omega) hm2
              simp only [Prod.mk.injEq] at hx
              obtain ⟨rfl, rfl⟩ := hx
              refine ⟨e1, ns, l1, ?_, f1, fun w' b' sp' held' => ?_⟩
              · rw [← c1, List.drop_zero, List.take_of_length_le (by omega)]
              · have := t1 w' b' sp' held'
                rw [mapM_map'] at this
                simp only [DataW.trod, ht, if_pos hl]
                rw [this]
                simp [e1]
            · cases h
          · cases hk
        · cases hk
      · rename_i fs ht
        split at hk
        · rename_i ks' hk'
          split at hk
          · rename_i hc
            cases hk
            have hc := beq_iff_eq.1 hc
            simp only [DataW.trod, ht] at h
            split at h
            · rename_i hl
              obtain ⟨xs, hm, hx⟩ := Option.map_eq_some_iff.1 h
              have hm2 : (fs.toList.map fun f => (f.offset, f.type)).mapM (fun x => DataW.trod enc P w b sp held fuel x.2 ((cs.drop x.1).take (P.cellsOf x.2))) = some xs := by rw [mapM_map']; exact hm
              obtain ⟨e1, ns, l1, c1, f1, t1⟩ := flat_pairs (fun t ks hk cs d p w b sp held h => open_kinds n t ks hk fuel cs d p w b sp held h) _ 0 ks cs xs w b sp held hk' (by omega) hm2
              simp only [Prod.mk.injEq] at hx
              obtain ⟨rfl, rfl⟩ := hx
              refine ⟨e1, ns, l1, ?_, f1, fun w' b' sp' held' => ?_⟩
              · rw [← c1, List.drop_zero, List.take_of_length_le (by omega)]
              · have := t1 w' b' sp' held'
                rw [mapM_map'] at this
                simp only [DataW.trod, ht, if_pos hl]
                rw [this]
                simp [e1]
            · cases h
          · cases hk
        · cases hk
      · cases hk
def isRow (P : Program) (t : TypeId) : Bool := match P.underlying t with
  | some (.struct _) | some (.array _ _) => true
  | _ => false
theorem open_agg {w : World} {base b0 n : Nat} {spare : Nat → Bool} {held : Bool} {r : Reach} {t : TypeId} {v : Value} {d : DataW H} {ps : List MemPlace} {ks : List IntKind} (hr : isRow P t = true) (hk : kindsT P n t = some ks) (hval : Value.okWide P w r b0 t v) (hd : DataW.Trod enc P w base spare held t v d ps) :
    ∃ ns, ns.length = ks.length ∧ v = .agg (backI ks ns).toArray ∧ ps = [] ∧ wfs ks ns = true ∧ ∀ w b sp held, DataW.Trod enc P w b sp held t v d [] := by
  obtain ⟨cs, rfl⟩ : ∃ cs, v = .agg cs := by
    unfold isRow at hr
    unfold Value.okWide at hval
    split at hr
    · rename_i h; rw [h] at hval; obtain ⟨cs, h1, _⟩ := hval; exact ⟨cs, h1⟩
    · rename_i h; rw [h] at hval; obtain ⟨cs, h1, _⟩ := hval; exact ⟨cs, h1⟩
    · cases hr
  obtain ⟨fuel, hf⟩ := hd
  obtain ⟨rfl, ns, l1, c1, f1, t1⟩ := open_kinds n t ks hk fuel _ d ps w base spare held hf
  refine ⟨ns, l1, ?_, rfl, f1, fun w b sp held => ⟨fuel, t1 w b sp held⟩⟩
  congr 1
  apply Array.ext'
  simpa [Value.cells] using c1
theorem open_num {w : World} {base b0 : Nat} {spare : Nat → Bool} {held : Bool} {r : Reach} {t : TypeId} {k : IntKind} {v : Value} {d : DataW H} {ps : List MemPlace} (ht : P.underlying t = some (.int k)) (hval : Value.okWide P w r b0 t v) (hd : DataW.Trod enc P w base spare held t v d ps) :
    ∃ n, v = .int k n ∧ ps = [] ∧ (Lit.int k n).wf = true ∧ ∀ w b sp held, DataW.Trod enc P w b sp held t v d [] := by
  obtain ⟨n, rfl, rfl, rfl, hw⟩ := open_int ht hval hd
  exact ⟨n, rfl, rfl, hw, fun w b sp held => shut_int ht hw⟩
end
theorem bounds_i64 {n : Int} (h : (Lit.int .i64 n).wf = true) : -9223372036854775808 ≤ n ∧ n ≤ 9223372036854775807 := by
  simp [Lit.wf, IntKind.min, IntKind.max, IntKind.signed, IntKind.bits] at h
  omega
end Mini
end Go.Proofs.Ytnmnndhkchmokaa
end
section
namespace Go.Proofs.Ytnmnndhkchmokaa
set_option linter.all false
open Go.ChangeShapes Go.WideShapes Go.ChangeAt Go.RowKit

section
variable {H : Type} {enc : TypeId × Value → H} {P : Program}
theorem post_below {f : Func} {s : ChangeSpec} {W W' : World} {args : Array Value} {v : Value} {ds gs : List (DataW H)} {ps pa pv : List MemPlace} {apart fresh handsOn again : Bool} (hw : DataW.Whole enc P f.params.toList s.vars apart W args.toList ds gs ps)
    (ok : ∀ (j : Nat) (t : TypeId) (r : Value), f.resultTypes[j]? = some t → (v.resultList f.resultTypes.size)[j]? = some r → Value.okWide P W' .any 0 t r)
    (res : ∀ (b : Nat) (sp : Nat → Bool) (hd : Bool), DataW.TrodAll enc P W' b sp hd f.resultTypes.toList (v.resultList f.resultTypes.size) (s.fn H (ds ++ gs)).results [])
    (arg : ∀ sp : Nat → Bool, (∀ p ∈ ps, sp p.block = true) → DataW.TrodAll enc P W' 0 sp true f.params.toList args.toList (s.fn H (ds ++ gs)).args pa)
    (vrs : ∀ sp : Nat → Bool, (∀ p ∈ ps, sp p.block = true) → DataW.TrodVars enc P W' sp s.vars (s.fn H (ds ++ gs)).vars pv)
    (hps : ps = pa ++ pv) (hb : Below W.heap.size W W') : s.post enc P f apart fresh handsOn again W args v W' := by
  have hb' := hb
  have lt : ∀ p ∈ ps, p.block < W.heap.size := fun p hp => hw.lt p hp
  have old : ∀ p ∈ ps, (fun b => decide (b < W.heap.size)) p.block = true := fun p hp => by simpa using lt p hp
  have whole := hw
  obtain ⟨_, _, _, _, _, hz, hn⟩ := hw
  subst hps
  refine ⟨ds, gs, pa ++ pv, [], pa, pv, whole, res _ _ _, arg _ old, vrs _ old, World.keptBut_mono (fun p hp => ⟨hp, Or.inr (List.mem_append.1 hp)⟩) (hb'.frame (· ∈ pa ++ pv)), fun _ => ⟨ok, _, _, ([] ++ pa) ++ pv, ⟨[] ++ pa, pv, trodAll_append (arg _ (fun _ _ => rfl)) (res _ _ _), vrs _ (fun _ _ => rfl), rfl, fun b off hp => ?_, fun ha => ?_⟩, fun p hp _ => ?_⟩⟩
  · have hin : MemPlace.cell b off ∈ pa ++ pv := by simpa using hp
    exact (hb'.frozen (lt _ hin)).trans (hz b off hin)
  · simpa using hn ha
  · simpa using hp
end

section
open Go.Lib

theorem trod_lit {H : Type} {enc : TypeId × Value → H} {P : Program} {w : World} {base : Nat} {sp : Nat → Bool} {held : Bool} {fuel : Nat} {t : TypeId} {k : IntKind} {z : Int} {cs : List Value} {p : List MemPlace}
    (ht : P.underlying t = some (.int k)) (h : DataW.trod enc P w base sp held fuel t cs = some (.lit (.int k z), p)) : cs = [.int k z] := by
  obtain ⟨z', hc, hd, _⟩ := DataW.trod_int ht h
  cases hd
  exact hc
theorem cells_of_pairs {H : Type} {enc : TypeId × Value → H} {P : Program} {w : World} {base : Nat} {sp : Nat → Bool} {held : Bool} {fuel : Nat} {t e : TypeId} {n : Nat} {k : IntKind} {cs : List Value} {zs : List (Int × Int)} {p : List MemPlace} {fs : Array Field} {f0 f1 : Field}
    (ht : P.underlying t = some (.array n e)) (he : P.underlying e = some (.struct fs)) (hfs : fs.toList = [f0, f1]) (h0 : f0.offset = 0) (h1 : f1.offset = 1) (k0 : P.underlying f0.type = some (.int k)) (k1 : P.underlying f1.type = some (.int k))
    (c0 : P.cellsOf f0.type = 1) (c1 : P.cellsOf f1.type = 1) (hce : P.cellsOf e = 2)
    (h : DataW.trod enc P w base sp held fuel t cs = some (.agg (zs.map fun z => .agg [.lit (.int k z.1), .lit (.int k z.2)]), p)) :
    ∀ (i : Nat) (z : Int × Int), zs[i]? = some z → cs[i * 2]? = some (.int k z.1) ∧ cs[i * 2 + 1]? = some (.int k z.2) := by
  cases fuel with
  | zero => simp [DataW.trod] at h
  | succ fuel =>
    simp only [DataW.trod, ht, hce] at h
    split at h
    · rename_i hl
      obtain ⟨xs, hm, hx⟩ := Option.map_eq_some_iff.1 h
      have hxs : xs.map (·.1) = zs.map fun z => (DataW.agg [.lit (.int k z.1), .lit (.int k z.2)] : DataW H) := by
        have := congrArg Prod.fst hx
        simpa using this
      have hxl : xs.length = n := by simpa using mapM_length hm
      have hzl : zs.length = n := by
        have := congrArg List.length hxs
        simp at this
        omega
      intro i z hz
      have hi : i < n := by
        have := (List.getElem?_eq_some_iff.1 hz).1
        omega
      obtain ⟨b, hb, hf⟩ := mapM_at hm i i (by simp [hi])
      have h2 : (xs.map (·.1))[i]? = some b.1 := by simp [hb]
      rw [hxs] at h2
      simp only [List.getElem?_map, hz, Option.map_some, Option.some.injEq] at h2
      cases fuel with
      | zero => simp [DataW.trod] at hf
      | succ fuel =>
        simp only [DataW.trod, he] at hf
        split at hf
        · obtain ⟨ys, hy, hyb⟩ := Option.map_eq_some_iff.1 hf
          rw [hfs] at hy
          simp only [List.mapM_cons, List.mapM_nil, Option.bind_eq_bind, Option.bind_eq_some_iff, Option.pure_def, Option.some.injEq] at hy
          obtain ⟨y0, e0, l1, ⟨y1, e1, l2, rfl, rfl⟩, rfl⟩ := hy
          have hb1 := congrArg Prod.fst hyb
          simp only [List.map_cons, List.map_nil] at hb1
          rw [← h2] at hb1
          simp only [DataW.agg.injEq, List.cons.injEq, and_true] at hb1
          obtain ⟨q0, q1⟩ := hb1
          obtain ⟨d0, p0⟩ := y0
          obtain ⟨d1, p1⟩ := y1
          simp only at q0 q1
          subst q0 q1
          have g0 := trod_lit k0 e0
          have g1 := trod_lit k1 e1
          rw [h0, c0] at g0
          rw [h1, c1] at g1
          have a0 := congrArg (·[0]?) g0
          have a1 := congrArg (·[0]?) g1
          simp [List.getElem?_take, List.getElem?_drop] at a0 a1
          exact ⟨by simpa using a0, by simpa using a1⟩
        · cases hf
    · cases h
end
theorem pairs_of_laid {P : Program} {W : World} {name : String} {k : IntKind} {zs : List (Int × Int)} {g : Nat} {t e : TypeId} {n : Nat} {fs : Array Field} {f0 f1 : Field}
    (hg : P.globalNamed name = some g) (hty : (P.globals[g]?).map (·.type) = some t) (ht : P.underlying t = some (.array n e)) (he : P.underlying e = some (.struct fs)) (hfs : fs.toList = [f0, f1]) (h0 : f0.offset = 0) (h1 : f1.offset = 1) (k0 : P.underlying f0.type = some (.int k)) (k1 : P.underlying f1.type = some (.int k))
    (c0 : P.cellsOf f0.type = 1) (c1 : P.cellsOf f1.type = 1) (hce : P.cellsOf e = 2)
    (h : laidMet P [(name, .agg (zs.map fun z => .agg [.lit (.int k z.1), .lit (.int k z.2)]))] W) (i : Nat) (z : Int × Int) (hz : zs[i]? = some z) :
    W.cell? ⟨g, i * 2, none⟩ = some (.int k z.1) ∧ W.cell? ⟨g, i * 2 + 1, none⟩ = some (.int k z.2) := by
  obtain ⟨ps, ⟨g', t', cs, fuel, p, q, hg', ht', hvar, hd, _, _⟩, _⟩ := h
  obtain rfl := Option.some.inj (hg.symm.trans hg')
  obtain rfl := Option.some.inj (hty.symm.trans ht')
  obtain ⟨a, b⟩ := cells_of_pairs ht he hfs h0 h1 k0 k1 c0 c1 hce hd i z hz
  have r0 := World.var?_cell hg hvar (i * 2)
  have r1 := World.var?_cell hg hvar (i * 2 + 1)
  constructor
  · rw [r0]; simpa using a
  · rw [r1]; simpa using b
end Go.Proofs.Ytnmnndhkchmokaa
end
section
namespace Go.Proofs.Ytnmnndhkchmokaa
set_option linter.all false
open Go.ChangeShapes Go.WideShapes Go.ChangeAt Go.RowKit Go.Lib
theorem trod_pair {H : Type} {enc : TypeId × Value → H} {P : Program} {w : World} {base : Nat} {sp : Nat → Bool} {held : Bool} {fuel : Nat} {e : TypeId} {k : IntKind} {cs : List Value} {x y : Int} {p : List MemPlace} {fs : Array Field} {f0 f1 : Field}
    (he : P.underlying e = some (.struct fs)) (hfs : fs.toList = [f0, f1]) (h0 : f0.offset = 0) (h1 : f1.offset = 1) (k0 : P.underlying f0.type = some (.int k)) (k1 : P.underlying f1.type = some (.int k))
    (c0 : P.cellsOf f0.type = 1) (c1 : P.cellsOf f1.type = 1) (h : DataW.trod enc P w base sp held fuel e cs = some (.agg [.lit (.int k x), .lit (.int k y)], p)) : cs[0]? = some (.int k x) ∧ cs[1]? = some (.int k y) := by
  cases fuel with
  | zero => simp [DataW.trod] at h
  | succ fuel =>
    simp only [DataW.trod, he] at h
    split at h
    · obtain ⟨ys, hy, hyb⟩ := Option.map_eq_some_iff.1 h
      rw [hfs] at hy
      simp only [List.mapM_cons, List.mapM_nil, Option.bind_eq_bind, Option.bind_eq_some_iff, Option.pure_def, Option.some.injEq] at hy
      obtain ⟨y0, e0, l1, ⟨y1, e1, l2, rfl, rfl⟩, rfl⟩ := hy
      have hb1 := congrArg Prod.fst hyb
      simp only [List.map_cons, List.map_nil] at hb1
      simp only [DataW.agg.injEq, List.cons.injEq, and_true] at hb1
      obtain ⟨q0, q1⟩ := hb1
      obtain ⟨d0, p0⟩ := y0
      obtain ⟨d1, p1⟩ := y1
      simp only at q0 q1
      subst q0 q1
      have g0 := trod_lit k0 e0
      have g1 := trod_lit k1 e1
      rw [h0, c0] at g0
      rw [h1, c1] at g1
      have a0 := congrArg (·[0]?) g0
      have a1 := congrArg (·[0]?) g1
      simp [List.getElem?_take, List.getElem?_drop] at a0 a1
      exact ⟨by simpa using a0, by simpa using a1⟩
    · cases h
def quadD {H : Type} (k : IntKind) (z : Int × Int × Int × Int) : DataW H := .agg [.agg [.lit (.int k z.1), .lit (.int k z.2.1)], .agg [.lit (.int k z.2.2.1), .lit (.int k z.2.2.2)]]
theorem trod_quad {H : Type} {enc : TypeId × Value → H} {P : Program} {w : World} {base : Nat} {sp : Nat → Bool} {held : Bool} {fuel : Nat} {t e : TypeId} {k : IntKind} {cs : List Value} {z : Int × Int × Int × Int} {p : List MemPlace} {gs : Array Field} {g0 g1 : Field} {fs : Array Field} {f0 f1 : Field}
    (ht : P.underlying t = some (.struct gs)) (hgs : gs.toList = [g0, g1]) (o0 : g0.offset = 0) (o1 : g1.offset = 2) (t0 : g0.type = e) (t1 : g1.type = e) (ce : P.cellsOf e = 2)
    (he : P.underlying e = some (.struct fs)) (hfs : fs.toList = [f0, f1]) (h0 : f0.offset = 0) (h1 : f1.offset = 1) (k0 : P.underlying f0.type = some (.int k)) (k1 : P.underlying f1.type = some (.int k))
    (c0 : P.cellsOf f0.type = 1) (c1 : P.cellsOf f1.type = 1) (h : DataW.trod enc P w base sp held fuel t cs = some (quadD k z, p)) :
    cs[0]? = some (.int k z.1) ∧ cs[1]? = some (.int k z.2.1) ∧ cs[2]? = some (.int k z.2.2.1) ∧ cs[3]? = some (.int k z.2.2.2) := by
  unfold quadD at h
  cases fuel with
  | zero => simp [DataW.trod] at h
  | succ fuel =>
    simp only [DataW.trod, ht] at h
    split at h
    · obtain ⟨ys, hy, hyb⟩ := Option.map_eq_some_iff.1 h
      rw [hgs] at hy
      simp only [List.mapM_cons, List.mapM_nil, Option.bind_eq_bind, Option.bind_eq_some_iff, Option.pure_def, Option.some.injEq] at hy
      obtain ⟨y0, e0, l1, ⟨y1, e1, l2, rfl, rfl⟩, rfl⟩ := hy
      have hb1 := congrArg Prod.fst hyb
      simp only [List.map_cons, List.map_nil] at hb1
      simp only [DataW.agg.injEq, List.cons.injEq, and_true] at hb1
      obtain ⟨q0, q1⟩ := hb1
      obtain ⟨d0, p0⟩ := y0
      obtain ⟨d1, p1⟩ := y1
      simp only at q0 q1
      subst q0 q1
      rw [t0] at e0
      rw [t1] at e1
      have a := trod_pair he hfs h0 h1 k0 k1 c0 c1 e0
      have b := trod_pair he hfs h0 h1 k0 k1 c0 c1 e1
      rw [o0, ce] at a
      rw [o1, ce] at b
      simp [List.getElem?_take, List.getElem?_drop] at a b
      exact ⟨by simpa using a.1, by simpa using a.2, by simpa using b.1, by simpa using b.2⟩
    · cases h
theorem cells_of_quads {H : Type} {enc : TypeId × Value → H} {P : Program} {w : World} {base : Nat} {sp : Nat → Bool} {held : Bool} {fuel : Nat} {u t e : TypeId} {n : Nat} {k : IntKind} {cs : List Value} {zs : List (Int × Int × Int × Int)} {p : List MemPlace} {gs : Array Field} {g0 g1 : Field} {fs : Array Field} {f0 f1 : Field}
    (hu : P.underlying u = some (.array n t)) (ht : P.underlying t = some (.struct gs)) (hgs : gs.toList = [g0, g1]) (o0 : g0.offset = 0) (o1 : g1.offset = 2) (t0 : g0.type = e) (t1 : g1.type = e) (ce : P.cellsOf e = 2) (ct : P.cellsOf t = 4)
    (he : P.underlying e = some (.struct fs)) (hfs : fs.toList = [f0, f1]) (h0 : f0.offset = 0) (h1 : f1.offset = 1) (k0 : P.underlying f0.type = some (.int k)) (k1 : P.underlying f1.type = some (.int k))
    (c0 : P.cellsOf f0.type = 1) (c1 : P.cellsOf f1.type = 1)
    (h : DataW.trod enc P w base sp held fuel u cs = some (.agg (zs.map (quadD k)), p)) :
    ∀ (i : Nat) (z : Int × Int × Int × Int), zs[i]? = some z → cs[i * 4]? = some (.int k z.1) ∧ cs[i * 4 + 1]? = some (.int k z.2.1) ∧ cs[i * 4 + 2]? = some (.int k z.2.2.1) ∧ cs[i * 4 + 3]? = some (.int k z.2.2.2) := by
  cases fuel with
  | zero => simp [DataW.trod] at h
  | succ fuel =>
    simp only [DataW.trod, hu, ct] at h
    split at h
    · rename_i hl
      obtain ⟨xs, hm, hx⟩ := Option.map_eq_some_iff.1 h
      have hxs : xs.map (·.1) = zs.map (quadD (H := H) k) := by
        have := congrArg Prod.fst hx
        simpa using this
      have hxl : xs.length = n := by simpa using mapM_length hm
      have hzl : zs.length = n := by
        have := congrArg List.length hxs
        simp at this
        omega
      intro i z hz
      have hi : i < n := by
        have := (List.getElem?_eq_some_iff.1 hz).1
        omega
      obtain ⟨b, hb, hf⟩ := mapM_at hm i i (by simp [hi])
      have h2 : (xs.map (·.1))[i]? = some b.1 := by simp [hb]
      rw [hxs] at h2
      simp only [List.getElem?_map, hz, Option.map_some, Option.some.injEq] at h2
      obtain ⟨bd, bp⟩ := b
      simp only at h2
      subst h2
      have a := trod_quad ht hgs o0 o1 t0 t1 ce he hfs h0 h1 k0 k1 c0 c1 hf
      simp [List.getElem?_take, List.getElem?_drop] at a
      exact ⟨by simpa using a.1, by simpa using a.2.1, by simpa using a.2.2.1, by simpa using a.2.2.2⟩
    · cases h
theorem quads_of_laid {P : Program} {W : World} {name : String} {k : IntKind} {zs : List (Int × Int × Int × Int)} {g : Nat} {u t e : TypeId} {n : Nat} {gs : Array Field} {g0 g1 : Field} {fs : Array Field} {f0 f1 : Field}
    (hg : P.globalNamed name = some g) (hty : (P.globals[g]?).map (·.type) = some u)
    (hu : P.underlying u = some (.array n t)) (ht : P.underlying t = some (.struct gs)) (hgs : gs.toList = [g0, g1]) (o0 : g0.offset = 0) (o1 : g1.offset = 2) (t0 : g0.type = e) (t1 : g1.type = e) (ce : P.cellsOf e = 2) (ct : P.cellsOf t = 4)
    (he : P.underlying e = some (.struct fs)) (hfs : fs.toList = [f0, f1]) (h0 : f0.offset = 0) (h1 : f1.offset = 1) (k0 : P.underlying f0.type = some (.int k)) (k1 : P.underlying f1.type = some (.int k))
    (c0 : P.cellsOf f0.type = 1) (c1 : P.cellsOf f1.type = 1)
    (h : laidMet P [(name, .agg (zs.map (quadD k)))] W) (i : Nat) (z : Int × Int × Int × Int) (hz : zs[i]? = some z) :
    W.cell? ⟨g, i * 4, none⟩ = some (.int k z.1) ∧ W.cell? ⟨g, i * 4 + 1, none⟩ = some (.int k z.2.1) ∧ W.cell? ⟨g, i * 4 + 2, none⟩ = some (.int k z.2.2.1) ∧ W.cell? ⟨g, i * 4 + 3, none⟩ = some (.int k z.2.2.2) := by
  obtain ⟨ps, ⟨g', t', cs, fuel, p, q, hg', ht', hvar, hd, _, _⟩, _⟩ := h
  obtain rfl := Option.some.inj (hg.symm.trans hg')
  obtain rfl := Option.some.inj (hty.symm.trans ht')
  obtain ⟨a, b, c, d⟩ := cells_of_quads hu ht hgs o0 o1 t0 t1 ce ct he hfs h0 h1 k0 k1 c0 c1 hd i z hz
  have r0 := World.var?_cell hg hvar (i * 4)
  have r1 := World.var?_cell hg hvar (i * 4 + 1)
  have r2 := World.var?_cell hg hvar (i * 4 + 2)
  have r3 := World.var?_cell hg hvar (i * 4 + 3)
  exact ⟨by rw [r0]; simpa using a, by rw [r1]; simpa using b, by rw [r2]; simpa using c, by rw [r3]; simpa using d⟩
end Go.Proofs.Ytnmnndhkchmokaa
end
section
set_option linter.all false
namespace Go.Proofs.Ytnmnndhkchmokaa.topWasherSteps
open Go.ChangeShapes Go.WideShapes Go.ChangeAt Go.RowKit Mini

theorem own : ownKnob Try.prog.godebug = none := by kernel_rfl
set_option maxRecDepth 100000 in
theorem contract (H : Type) (enc : TypeId × Value → H) (W : World) (base : Nat) (args : Array Value) (ds gs : List (DataW H)) (before : List MemPlace)
    (hval : ∀ (j : Nat) t v, Try.f3.params[j]? = some t → args[j]? = some v → Value.okWide Try.prog W .any base t v)
    (hW : DataW.Whole enc Try.prog Try.f3.params.toList Rows.topWasherStepsSpec.vars false W args.toList ds gs before) :
    Calls Try.prog 3 args W fun e W' => ∃ v, e = .returned v ∧ Rows.topWasherStepsSpec.post enc Try.prog Try.f3 false true false false W args v W' := by
  have hW' := hW
  obtain ⟨p, q, hA0, hV, rfl, hfz, hnd⟩ := hW
  have hA : DataW.TrodAll enc Try.prog W 0 (fun _ => true) true Try.f3.params.toList args.toList ds p := hA0
  rw [Try.params3] at hA hval
  obtain ⟨v0, vs0, d0, ds0, p0, q0, hargs, rfl, rfl, h0, r0⟩ := trodAll_cons hA
  obtain ⟨v1, vs1, d1, ds1, p1, q1, rfl, rfl, rfl, h1, r1⟩ := trodAll_cons r0
  obtain ⟨v2, vs2, d2, ds2, p2, q2, rfl, rfl, rfl, h2, r2⟩ := trodAll_cons r1
  obtain ⟨rfl, rfl, rfl⟩ := trodAll_nil r2
  obtain rfl : args = #[v0, v1, v2] := by apply Array.ext'; simpa using hargs
  obtain ⟨rfl, rfl⟩ := trodVars_none hV
  obtain ⟨ns0, l0, rfl, rfl, f0, t0⟩ := open_agg (n := 6) (ks := [.i8, .i8]) (by kernel_rfl) (by kernel_rfl) (hval 0 23 v0 rfl rfl) h0
  have l0_0 : ns0.length = 2 := l0
  clear l0
  obtain ⟨x0_0, ns0_0, rfl, l0_1⟩ := len_cons l0_0
  obtain ⟨x0_1, ns0_1, rfl, l0_2⟩ := len_cons l0_1
  obtain rfl := len_nil l0_2
  obtain ⟨ns1, l1, rfl, rfl, f1, t1⟩ := open_agg (n := 6) (ks := [.i8, .i8]) (by kernel_rfl) (by kernel_rfl) (hval 1 23 v1 rfl rfl) h1
  have l1_0 : ns1.length = 2 := l1
  clear l1
  obtain ⟨x1_0, ns1_0, rfl, l1_1⟩ := len_cons l1_0
  obtain ⟨x1_1, ns1_1, rfl, l1_2⟩ := len_cons l1_1
  obtain rfl := len_nil l1_2
  obtain ⟨x2, rfl, rfl, f2, t2⟩ := open_num Try.underlying22 (hval 2 22 v2 rfl rfl) h2
  clear hA0
  simp only [List.append_nil] at hW'
  refine (lSteps_any x0_0 x0_1 x1_0 x1_1 x2 (trivial) W (⟨rfl, fun b hb => absurd hb (Nat.not_lt_zero b)⟩)).mono fun e W' ⟨he, hb⟩ => ?_
  subst he
  exact ⟨_, rfl, post_below (pa := []) (pv := []) hW' (ok_one (by kernel_rfl) rfl (okWide_bool_mk Try.underlying4 _)) (fun _ _ _ => trodAll_cons_mk (shut_bool Try.underlying4 _) trodAll_mk0)
    (fun sp _ => trodAll_cons_mk (t0 _ _ _ _) (trodAll_cons_mk (t1 _ _ _ _) (trodAll_cons_mk (t2 _ _ _ _) (trodAll_mk0))))
    (fun _ _ => rfl) rfl hb⟩

set_option maxRecDepth 100000 in
theorem lifted (os : Os) (started : os.Started) (H : Type) (enc : TypeId × Value → H) :
    ReturnsInHanded {} Try.checked os 3 .any (Rows.topWasherStepsSpec.pre6 enc Try.prog Try.f3 Rows.topWasherStepsRow.domain false) (Rows.topWasherStepsSpec.post enc Try.prog Try.f3 false true false false) := by
  refine returnsInHanded_of_change (C := Try.checked) own started (by kernel_rfl) Try.func3
    (ChangeSpec.witness6 (enc := enc) (C := Try.checked) false ⟨#[], #[.agg #[.int .i8 0, .int .i8 0], .agg #[.int .i8 0, .int .i8 0], .int .i8 0], []⟩ 8 (by kernel_rfl) (by kernel_rfl) (by kernel_rfl) (by kernel_rfl)) ?_
  intro W base args ds gs before hval hW _ _
  exact contract H enc W base args ds gs before hval hW
theorem proved : Rows.TopWasherStepsSaid :=
  OpenClaim.holds_of_wide 3 Try.f3 rfl rfl rfl rfl rfl rfl rfl ⟨rfl, rfl, rfl, rfl, rfl⟩ rfl rfl rfl rfl rfl (by kernel_rfl) Try.func3 (by kernel_rfl)
    (of_decide_eq_true (by kernel_rfl)) (by unfold Func.isWrapper; first | (rw [if_pos (by decide +kernel)]; kernel_rfl) | (rw [if_neg (by decide +kernel)]; exact ⟨rfl, rfl⟩))
    (fun os started H enc _ => lifted os started H enc)
end Go.Proofs.Ytnmnndhkchmokaa.topWasherSteps
end
