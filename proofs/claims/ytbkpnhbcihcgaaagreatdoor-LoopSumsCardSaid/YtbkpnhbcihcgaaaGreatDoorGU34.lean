/-
  LoopSums: for all arguments the law returns true and leaves its arguments as they were, wherever the tables that its row lists are laid as the text lays them.
  Tables of strings on a row's list.
  Tables of structures of two pairs on a row's list.
  The last step of a row whose call leaves a world of which only 'Below' is known; tables of pairs on a row's list.
  Arguments that are made of integers alone (numbers, arrays and structs of them, in any depth), opened: their cells are numbers, and their data is the same in each world.
  LoopSums: its cases, by the lengths of both polynomials.
-/
import Derived.Test.YtbkpnhbcihcgaaaGreatDoorGU12
import Derived.Test.YtbkpnhbcihcgaaaGreatDoorGU13
import Derived.Test.YtbkpnhbcihcgaaaGreatDoorGU14
import Derived.Test.YtbkpnhbcihcgaaaGreatDoorGU15
import Derived.Test.YtbkpnhbcihcgaaaGreatDoorGU16
import Derived.Test.YtbkpnhbcihcgaaaGreatDoorGU17
import Derived.Test.YtbkpnhbcihcgaaaGreatDoorGU18
import Derived.Test.YtbkpnhbcihcgaaaGreatDoorGU19
import Derived.Test.YtbkpnhbcihcgaaaGreatDoorGU20
import Derived.Test.YtbkpnhbcihcgaaaGreatDoorGU33
import Derived.Test.YtbkpnhbcihcgaaaGreatDoorGU2
import Derived.OpenShut
import Derived.RowKit
import Derived.WideShapes
import Derived.Below
import Derived.ChangeSame
import Derived.ProofKit
import Derived.JoinedCond
import Derived.JoinedOf
import Derived.JoinedAt
import Derived.RowKit3
import Derived.Lib.LaidTab
import Derived.LaidSub
import Derived.Test.YtbkpnhbcihcgaaaGreatDoorCards
import Derived.Test.YtbkpnhbcihcgaaaGreatDoorTie
import Derived.WalkKit
import Derived.Deep.DeepHandedRow
section
set_option linter.all false
set_option maxRecDepth 1000000
open Go.RowKit
namespace Go.Proofs.YtbkpnhbcihcgaaaGreatDoor
open Mini
theorem lsum_any (a0 a1 a2 b0 b1 b2 z0 z1 : Int) (hb : (-128 ≤ b0 ∧ b0 ≤ 127) ∧ (-128 ≤ b1 ∧ b1 ≤ 127) ∧ (-128 ≤ z0 ∧ z0 ≤ 127) ∧ (-128 ≤ z1 ∧ z1 ≤ 127)) (w : World) (hh : Holds Tryz.prog aw3S0 w) : Calls Tryz.prog 10 #[.agg #[.int .i8 a0, .int .i8 a1, .int .i8 a2], .agg #[.int .i8 b0, .int .i8 b1, .int .i8 b2], .agg #[.int .i8 z0, .int .i8 z1]] w fun en w' => en = .returned (.bool true) ∧ Below w.heap.size w w' := by
  by_cases p2 : (Int.tmod (IntKind.i64.wrap a2) (8 : Int)) = 0
  · by_cases p1 : (Int.tmod (IntKind.i64.wrap a1) (8 : Int)) = 0
    · by_cases p0 : (Int.tmod (IntKind.i64.wrap a0) (8 : Int)) = 0
      · by_cases q2 : (Int.tmod (IntKind.i64.wrap b2) (8 : Int)) = 0
        · by_cases q1 : (Int.tmod (IntKind.i64.wrap b1) (8 : Int)) = 0
          · by_cases q0 : (Int.tmod (IntKind.i64.wrap b0) (8 : Int)) = 0
            · exact A_any ⟨a0, a1, a2, b0, b1, b2, z0, z1⟩ ⟨hb.1, hb.2.1, hb.2.2.1, hb.2.2.2, p2, p1, p0, q2, q1, q0⟩ w hh
            · exact B_any ⟨a0, a1, a2, b0, b1, b2, z0, z1⟩ ⟨hb.1, hb.2.1, hb.2.2.1, hb.2.2.2, p2, p1, p0, q2, q1, q0⟩ w hh
          · exact C_any ⟨a0, a1, a2, b0, b1, b2, z0, z1⟩ ⟨hb.1, hb.2.1, hb.2.2.1, hb.2.2.2, p2, p1, p0, q2, q1⟩ w hh
        · exact D_any ⟨a0, a1, a2, b0, b1, b2, z0, z1⟩ ⟨hb.1, hb.2.1, hb.2.2.1, hb.2.2.2, p2, p1, p0, q2⟩ w hh
      · by_cases q2 : (Int.tmod (IntKind.i64.wrap b2) (8 : Int)) = 0
        · by_cases q1 : (Int.tmod (IntKind.i64.wrap b1) (8 : Int)) = 0
          · by_cases q0 : (Int.tmod (IntKind.i64.wrap b0) (8 : Int)) = 0
            · exact E_any ⟨a0, a1, a2, b0, b1, b2, z0, z1⟩ ⟨hb.1, hb.2.1, hb.2.2.1, hb.2.2.2, p2, p1, p0, q2, q1, q0⟩ w hh
            · exact F_any ⟨a0, a1, a2, b0, b1, b2, z0, z1⟩ ⟨hb.1, hb.2.1, hb.2.2.1, hb.2.2.2, p2, p1, p0, q2, q1, q0⟩ w hh
          · exact G_any ⟨a0, a1, a2, b0, b1, b2, z0, z1⟩ ⟨hb.1, hb.2.1, hb.2.2.1, hb.2.2.2, p2, p1, p0, q2, q1⟩ w hh
        · exact H_any ⟨a0, a1, a2, b0, b1, b2, z0, z1⟩ ⟨hb.1, hb.2.1, hb.2.2.1, hb.2.2.2, p2, p1, p0, q2⟩ w hh
    · by_cases q2 : (Int.tmod (IntKind.i64.wrap b2) (8 : Int)) = 0
      · by_cases q1 : (Int.tmod (IntKind.i64.wrap b1) (8 : Int)) = 0
        · by_cases q0 : (Int.tmod (IntKind.i64.wrap b0) (8 : Int)) = 0
          · exact I_any ⟨a0, a1, a2, b0, b1, b2, z0, z1⟩ ⟨hb.1, hb.2.1, hb.2.2.1, hb.2.2.2, p2, p1, q2, q1, q0⟩ w hh
          · exact J_any ⟨a0, a1, a2, b0, b1, b2, z0, z1⟩ ⟨hb.1, hb.2.1, hb.2.2.1, hb.2.2.2, p2, p1, q2, q1, q0⟩ w hh
        · exact K_any ⟨a0, a1, a2, b0, b1, b2, z0, z1⟩ ⟨hb.1, hb.2.1, hb.2.2.1, hb.2.2.2, p2, p1, q2, q1⟩ w hh
      · exact L_any ⟨a0, a1, a2, b0, b1, b2, z0, z1⟩ ⟨hb.1, hb.2.1, hb.2.2.1, hb.2.2.2, p2, p1, q2⟩ w hh
  · by_cases q2 : (Int.tmod (IntKind.i64.wrap b2) (8 : Int)) = 0
    · by_cases q1 : (Int.tmod (IntKind.i64.wrap b1) (8 : Int)) = 0
      · by_cases q0 : (Int.tmod (IntKind.i64.wrap b0) (8 : Int)) = 0
        · exact M_any ⟨a0, a1, a2, b0, b1, b2, z0, z1⟩ ⟨hb.1, hb.2.1, hb.2.2.1, hb.2.2.2, p2, q2, q1, q0⟩ w hh
        · exact N_any ⟨a0, a1, a2, b0, b1, b2, z0, z1⟩ ⟨hb.1, hb.2.1, hb.2.2.1, hb.2.2.2, p2, q2, q1, q0⟩ w hh
      · exact O_any ⟨a0, a1, a2, b0, b1, b2, z0, z1⟩ ⟨hb.1, hb.2.1, hb.2.2.1, hb.2.2.2, p2, q2, q1⟩ w hh
    · exact P_any ⟨a0, a1, a2, b0, b1, b2, z0, z1⟩ ⟨hb.1, hb.2.1, hb.2.2.1, hb.2.2.2, p2, q2⟩ w hh
end Go.Proofs.YtbkpnhbcihcgaaaGreatDoor
end
section
namespace Go.Proofs.YtbkpnhbcihcgaaaGreatDoor
set_option linter.all false
open Go.ChangeShapes Go.WideShapes Go.RowKit
namespace Mini

def pairsK (g : TypeId → Option (List IntKind)) (P : Program) : Nat → List (Nat × TypeId) → Option (List IntKind)
  | _, [] => some []
  | off, x :: l => match g x.2 with
    | some ks => match (x.1 == off) && (P.cellsOf x.2 == ks.length) with
      | true => match pairsK g P (off + ks.length) l with
        | some r => some (ks ++ r)
        | none => none
      | false => none
    | none => none
def kindsT (P : Program) : Nat → TypeId → Option (List IntKind)
  | 0, _ => none
  | n + 1, t => match P.underlying t with
    | some (.int k) => some [k]
    | some (.array m e) => match pairsK (kindsT P n) P 0 ((List.range m).map fun i => (i * P.cellsOf e, e)) with
      | some ks => match P.cellsOf t == ks.length with
        | true => some ks
        | false => none
      | none => none
    | some (.struct fs) => match pairsK (kindsT P n) P 0 (fs.toList.map fun f => (f.offset, f.type)) with
      | some ks => match P.cellsOf t == ks.length with
        | true => some ks
        | false => none
      | none => none
    | _ => none
def wfs : List IntKind → List Int → Bool
  | k :: ks, n :: ns => (Lit.int k n).wf && wfs ks ns
  | _, _ => true
theorem backI_append : ∀ (ks ks' : List IntKind) (ns ns' : List Int), ns.length = ks.length → backI (ks ++ ks') (ns ++ ns') = backI ks ns ++ backI ks' ns'
  | [], ks', [], ns', _ => rfl
  | k :: ks, ks', n :: ns, ns', h => by
    show Value.int k n :: backI (ks ++ ks') (ns ++ ns') = _
    rw [backI_append ks ks' ns ns' (by simpa using h)]
    rfl
  | [], ks', n :: ns, ns', h => by cases h
  | k :: ks, ks', [], ns', h => by cases h
theorem wfs_append : ∀ (ks ks' : List IntKind) (ns ns' : List Int), ns.length = ks.length → wfs ks ns = true → wfs ks' ns' = true → wfs (ks ++ ks') (ns ++ ns') = true
  | [], ks', [], ns', _, _, h => h
  | k :: ks, ks', n :: ns, ns', h, h1, h2 => by
    simp only [wfs, Bool.and_eq_true] at h1
    show ((Lit.int k n).wf && wfs (ks ++ ks') (ns ++ ns')) = true
    rw [h1.1, wfs_append ks ks' ns ns' (by simpa using h) h1.2 h2]
    rfl
  | [], ks', n :: ns, ns', h, _, _ => by cases h
  | k :: ks, ks', [], ns', h, _, _ => by cases h
theorem mapM_map' {α β γ : Type} (f : α → β) (g : β → Option γ) : ∀ l : List α, (l.map f).mapM g = l.mapM fun a => g (f a)
  | [] => rfl
  | a :: l => by simp [List.mapM_cons, mapM_map' f g l]

section
variable {H : Type} {enc : TypeId × Value → H} {P : Program}

def Flat (enc : TypeId × Value → H) (P : Program) (fuel : Nat) (t : TypeId) (cs : List Value) (d : DataW H) (ks : List IntKind) : Prop :=
  ∃ ns, ns.length = ks.length ∧ cs = backI ks ns ∧ wfs ks ns = true ∧ ∀ w b sp held, DataW.trod enc P w b sp held fuel t cs = some (d, [])
theorem flat_pairs {n fuel : Nat} (IH : ∀ (t : TypeId) (ks : List IntKind), kindsT P n t = some ks → ∀ (cs : List Value) (d : DataW H) (p : List MemPlace) w b sp held, DataW.trod enc P w b sp held fuel t cs = some (d, p) → p = [] ∧ Flat enc P fuel t cs d ks) :
    ∀ (L : List (Nat × TypeId)) (off : Nat) (ks : List IntKind) (cs : List Value) (xs : List (DataW H × List MemPlace)) (w : World) (b : Nat) (sp : Nat → Bool) (held : Bool), pairsK (kindsT P n) P off L = some ks → off + ks.length ≤ cs.length →
      L.mapM (fun x => DataW.trod enc P w b sp held fuel x.2 ((cs.drop x.1).take (P.cellsOf x.2))) = some xs →
      xs.flatMap (·.2) = [] ∧ ∃ ns, ns.length = ks.length ∧ (cs.drop off).take ks.length = backI ks ns ∧ wfs ks ns = true ∧ ∀ w b sp held, L.mapM (fun x => DataW.trod enc P w b sp held fuel x.2 ((cs.drop x.1).take (P.cellsOf x.2))) = some xs
  | [], off, ks, cs, xs, w, b, sp, held, hk, hl, hm => by
    cases hk
    simp at hm
    subst hm
    exact ⟨rfl, [], rfl, by simp [backI], rfl, fun _ _ _ _ => rfl⟩
  | x :: L, off, ks, cs, xs, w, b, sp, held, hk, hl, hm => by
    simp only [pairsK] at hk
    split at hk
    · rename_i ks1 hk1
      split at hk
      · rename_i hc
        simp only [Bool.and_eq_true, beq_iff_eq] at hc
        obtain ⟨hx, hcell⟩ := hc
        split at hk
        · rename_i r hr
          cases hk
          simp only [List.length_append] at hl
          simp only [List.mapM_cons, Option.bind_eq_bind, Option.bind_eq_some_iff, Option.pure_def, Option.some.injEq] at hm
          obtain ⟨y, hy, ys, hys, rfl⟩ := hm
          obtain ⟨d, p⟩ := y
          obtain ⟨rfl, ns1, l1, c1, f1, t1⟩ := IH x.2 ks1 hk1 _ d p w b sp held hy
          obtain ⟨e2, ns2, l2, c2, f2, t2⟩ := flat_pairs IH L (off + ks1.length) r cs ys w b sp held hr (by omega) hys
          refine ⟨by simpa using e2, ns1 ++ ns2, by simp [l1, l2], ?_, wfs_append _ _ _ _ l1 f1 f2, fun w' b' sp' held' => ?_⟩
          · rw [backI_append _ _ _ _ l1, ← c2, List.length_append, List.take_add, List.drop_drop]
            rw [hx, hcell] at c1
            rw [c1]
          · simp only [List.mapM_cons, Option.bind_eq_bind, Option.pure_def]
            rw [t1 w' b' sp' held', t2 w' b' sp' held']
            rfl
        · cases hk
      · cases hk
    · cases hk
theorem open_kinds : ∀ (n : Nat) (t : TypeId) (ks : List IntKind), kindsT P n t = some ks → ∀ (fuel : Nat) (cs : List Value) (d : DataW H) (p : List MemPlace) w b sp held, DataW.trod enc P w b sp held fuel t cs = some (d, p) → p = [] ∧ Flat enc P fuel t cs d ks
  | 0, t, ks, hk, fuel, cs, d, p, w, b, sp, held, h => by cases hk
  | n + 1, t, ks, hk, fuel, cs, d, p, w, b, sp, held, h => by
    cases fuel with
    | zero => simp [DataW.trod] at h
    | succ fuel =>
      simp only [kindsT] at hk
      split at hk
      · rename_i k ht
        cases hk
        obtain ⟨z, rfl, hx, hw⟩ := DataW.trod_int ht h
        cases hx
        refine ⟨rfl, [z], rfl, rfl, by simp [wfs, hw], fun w' b' sp' held' => ?_⟩
        simp [DataW.trod, ht, hw]
      · rename_i m e ht
        split at hk
        · rename_i ks' hk'
          split at hk
          · rename_i hc
            cases hk
            have hc := beq_iff_eq.1 hc
            simp only [DataW.trod, ht] at h
            split at h
            · rename_i hl
              obtain ⟨xs, hm, hx⟩ := Option.map_eq_some_iff.1 h
              have hm2 : ((List.range m).map fun i => (i * P.cellsOf e, e)).mapM (fun x => DataW.trod enc P w b sp held fuel x.2 ((cs.drop x.1).take (P.cellsOf x.2))) = some xs := by rw [mapM_map']; exact hm
              obtain ⟨e1, ns, l1, c1, f1, t1⟩ := flat_pairs (fun t ks hk cs d p w b sp held h => open_kinds n t ks hk fuel cs d p w b sp held h) _ 0 ks cs xs w b sp held hk' (by omega) hm2
              simp only [Prod.mk.injEq] at hx
              obtain ⟨rfl, rfl⟩ := hx
              refine ⟨e1, ns, l1, ?_, f1, fun w' b' sp' held' => ?_⟩
              · rw [← c1, List.drop_zero, List.take_of_length_le (by omega)]
              · have := t1 w' b' sp' held'
                rw [mapM_map'] at this
                simp only [DataW.trod, ht, if_pos hl]
                rw [this]
                simp [e1]
            · cases h
          · cases hk
        · cases hk
      · rename_i fs ht
        split at hk
        · rename_i ks' hk'
          split at hk
          · rename_i hc
            cases hk
            have hc := beq_iff_eq.1 hc
            simp only [DataW.trod, ht] at h
            split at h
            · rename_i hl
              obtain ⟨xs, hm, hx⟩ := Option.map_eq_some_iff.1 h
              have hm2 : (fs.toList.map fun f => (f.offset, f.type)).mapM (fun x => DataW.trod enc P w b sp held fuel x.2 ((cs.drop x.1).take (P.cellsOf x.2))) = some xs := by rw [mapM_map']; exact hm
              obtain ⟨e1, ns, l1, c1, f1, t1⟩ := flat_pairs (fun t ks hk cs d p w b sp held h => open_kinds n t ks hk fuel cs d p w b sp held h) _ 0 ks cs xs w b sp held hk' (by omega) hm2
              simp only [Prod.mk.injEq] at hx
              obtain ⟨rfl, rfl⟩ := hx
              refine ⟨e1, ns, l1, ?_, f1, fun w' b' sp' held' => ?_⟩
              · rw [← c1, List.drop_zero, List.take_of_length_le (by omega)]
              · have := t1 w' b' sp' held'
                rw [mapM_map'] at this
                simp only [DataW.trod, ht, if_pos hl]
                rw [this]
                simp [e1]
            · cases h
          · cases hk
        · cases hk
      · cases hk
def isRow (P : Program) (t : TypeId) : Bool := match P.underlying t with
  | some (.struct _) | some (.array _ _) => true
  | _ => false
theorem open_agg {w : World} {base b0 n : Nat} {spare : Nat → Bool} {held : Bool} {r : Reach} {t : TypeId} {v : Value} {d : DataW H} {ps : List MemPlace} {ks : List IntKind} (hr : isRow P t = true) (hk : kindsT P n t = some ks) (hval : Value.okWide P w r b0 t v) (hd : DataW.Trod enc P w base spare held t v d ps) :
    ∃ ns, ns.length = ks.length ∧ v = .agg (backI ks ns).toArray ∧ ps = [] ∧ wfs ks ns = true ∧ ∀ w b sp held, DataW.Trod enc P w b sp held t v d [] := by
  obtain ⟨cs, rfl⟩ : ∃ cs, v = .agg cs := by
    unfold isRow at hr
    unfold Value.okWide at hval
    split at hr
    · rename_i h; rw [h] at hval; obtain ⟨cs, h1, _⟩ := hval; exact ⟨cs, h1⟩
    · rename_i h; rw [h] at hval; obtain ⟨cs, h1, _⟩ := hval; exact ⟨cs, h1⟩
    · cases hr
  obtain ⟨fuel, hf⟩ := hd
  obtain ⟨rfl, ns, l1, c1, f1, t1⟩ := open_kinds n t ks hk fuel _ d ps w base spare held hf
  refine ⟨ns, l1, ?_, rfl, f1, fun w b sp held => ⟨fuel, t1 w b sp held⟩⟩
  congr 1
  apply Array.ext'
  simpa [Value.cells] using c1
end
end Mini
end Go.Proofs.YtbkpnhbcihcgaaaGreatDoor
end
section
namespace Go.Proofs.YtbkpnhbcihcgaaaGreatDoor
set_option linter.all false
open Go.ChangeShapes Go.WideShapes Go.ChangeAt Go.RowKit

section
variable {H : Type} {enc : TypeId × Value → H} {P : Program}
theorem post_below {f : Func} {s : ChangeSpec} {W W' : World} {args : Array Value} {v : Value} {ds gs : List (DataW H)} {ps pa pv : List MemPlace} {apart fresh handsOn again : Bool} (hw : DataW.Whole enc P f.params.toList s.vars apart W args.toList ds gs ps)
    (ok : ∀ (j : Nat) (t : TypeId) (r : Value), f.resultTypes[j]? = some t → (v.resultList f.resultTypes.size)[j]? = some r → Value.okWide P W' .any 0 t r)
    (res : ∀ (b : Nat) (sp : Nat → Bool) (hd : Bool), DataW.TrodAll enc P W' b sp hd f.resultTypes.toList (v.resultList f.resultTypes.size) (s.fn H (ds ++ gs)).results [])
    (arg : ∀ sp : Nat → Bool, (∀ p ∈ ps, sp p.block = true) → DataW.TrodAll enc P W' 0 sp true f.params.toList args.toList (s.fn H (ds ++ gs)).args pa)
    (vrs : ∀ sp : Nat → Bool, (∀ p ∈ ps, sp p.block = true) → DataW.TrodVars enc P W' sp s.vars (s.fn H (ds ++ gs)).vars pv)
    (hps : ps = pa ++ pv) (hb : Below W.heap.size W W') : s.post enc P f apart fresh handsOn again W args v W' := by
  have hb' := hb
  have lt : ∀ p ∈ ps, p.block < W.heap.size := fun p hp => hw.lt p hp
  have old : ∀ p ∈ ps, (fun b => decide (b < W.heap.size)) p.block = true := fun p hp => by simpa using lt p hp
  have whole := hw
  obtain ⟨_, _, _, _, _, hz, hn⟩ := hw
  subst hps
  refine ⟨ds, gs, pa ++ pv, [], pa, pv, whole, res _ _ _, arg _ old, vrs _ old, World.keptBut_mono (fun p hp => ⟨hp, Or.inr (List.mem_append.1 hp)⟩) (hb'.frame (· ∈ pa ++ pv)), fun _ => ⟨ok, _, _, ([] ++ pa) ++ pv, ⟨[] ++ pa, pv, trodAll_append (arg _ (fun _ _ => rfl)) (res _ _ _), vrs _ (fun _ _ => rfl), rfl, fun b off hp => ?_, fun ha => ?_⟩, fun p hp _ => ?_⟩⟩
  · have hin : MemPlace.cell b off ∈ pa ++ pv := by simpa using hp
    exact (hb'.frozen (lt _ hin)).trans (hz b off hin)
  · simpa using hn ha
  · simpa using hp
end

section
open Go.Lib

theorem trod_lit {H : Type} {enc : TypeId × Value → H} {P : Program} {w : World} {base : Nat} {sp : Nat → Bool} {held : Bool} {fuel : Nat} {t : TypeId} {k : IntKind} {z : Int} {cs : List Value} {p : List MemPlace}
    (ht : P.underlying t = some (.int k)) (h : DataW.trod enc P w base sp held fuel t cs = some (.lit (.int k z), p)) : cs = [.int k z] := by
  obtain ⟨z', hc, hd, _⟩ := DataW.trod_int ht h
  cases hd
  exact hc
theorem cells_of_pairs {H : Type} {enc : TypeId × Value → H} {P : Program} {w : World} {base : Nat} {sp : Nat → Bool} {held : Bool} {fuel : Nat} {t e : TypeId} {n : Nat} {k : IntKind} {cs : List Value} {zs : List (Int × Int)} {p : List MemPlace} {fs : Array Field} {f0 f1 : Field}
    (ht : P.underlying t = some (.array n e)) (he : P.underlying e = some (.struct fs)) (hfs : fs.toList = [f0, f1]) (h0 : f0.offset = 0) (h1 : f1.offset = 1) (k0 : P.underlying f0.type = some (.int k)) (k1 : P.underlying f1.type = some (.int k))
    (c0 : P.cellsOf f0.type = 1) (c1 : P.cellsOf f1.type = 1) (hce : P.cellsOf e = 2)
    (h : DataW.trod enc P w base sp held fuel t cs = some (.agg (zs.map fun z => .agg [.lit (.int k z.1), .lit (.int k z.2)]), p)) :
    ∀ (i : Nat) (z : Int × Int), zs[i]? = some z → cs[i * 2]? = some (.int k z.1) ∧ cs[i * 2 + 1]? = some (.int k z.2) := by
  cases fuel with
  | zero => simp [DataW.trod] at h
  | succ fuel =>
    simp only [DataW.trod, ht, hce] at h
    split at h
    · rename_i hl
      obtain ⟨xs, hm, hx⟩ := Option.map_eq_some_iff.1 h
      have hxs : xs.map (·.1) = zs.map fun z => (DataW.agg [.lit (.int k z.1), .lit (.int k z.2)] : DataW H) := by
        have := congrArg Prod.fst hx
        simpa using this
      have hxl : xs.length = n := by simpa using mapM_length hm
      have hzl : zs.length = n := by
        have := congrArg List.length hxs
        simp at this
        omega
      intro i z hz
      have hi : i < n := by
        have := (List.getElem?_eq_some_iff.1 hz).1
        omega
      obtain ⟨b, hb, hf⟩ := mapM_at hm i i (by simp [hi])
      have h2 : (xs.map (·.1))[i]? = some b.1 := by simp [hb]
      rw [hxs] at h2
      simp only [List.getElem?_map, hz, Option.map_some, Option.some.injEq] at h2
      cases fuel with
      | zero => simp [DataW.trod] at hf
      | succ fuel =>
        simp only [DataW.trod, he] at hf
        split at hf
        · obtain ⟨ys, hy, hyb⟩ := Option.map_eq_some_iff.1 hf
          rw [hfs] at hy
          simp only [List.mapM_cons, List.mapM_nil, Option.bind_eq_bind, Option.bind_eq_some_iff, Option.pure_def, Option.some.injEq] at hy
          obtain ⟨y0, e0, l1, ⟨y1, e1, l2, rfl, rfl⟩, rfl⟩ := hy
          have hb1 := congrArg Prod.fst hyb
          simp only [List.map_cons, List.map_nil] at hb1
          rw [← h2] at hb1
          simp only [DataW.agg.injEq, List.cons.injEq, and_true] at hb1
          obtain ⟨q0, q1⟩ := hb1
          obtain ⟨d0, p0⟩ := y0
          obtain ⟨d1, p1⟩ := y1
          simp only at q0 q1
          subst q0 q1
          have g0 := trod_lit k0 e0
          have g1 := trod_lit k1 e1
          rw [h0, c0] at g0
          rw [h1, c1] at g1
          have a0 := congrArg (·[0]?) g0
          have a1 := congrArg (·[0]?) g1
          simp [List.getElem?_take, List.getElem?_drop] at a0 a1
          exact ⟨by simpa using a0, by simpa using a1⟩
        · cases hf
    · cases h
end
theorem pairs_of_laid {P : Program} {W : World} {name : String} {k : IntKind} {zs : List (Int × Int)} {g : Nat} {t e : TypeId} {n : Nat} {fs : Array Field} {f0 f1 : Field}
    (hg : P.globalNamed name = some g) (hty : (P.globals[g]?).map (·.type) = some t) (ht : P.underlying t = some (.array n e)) (he : P.underlying e = some (.struct fs)) (hfs : fs.toList = [f0, f1]) (h0 : f0.offset = 0) (h1 : f1.offset = 1) (k0 : P.underlying f0.type = some (.int k)) (k1 : P.underlying f1.type = some (.int k))
    (c0 : P.cellsOf f0.type = 1) (c1 : P.cellsOf f1.type = 1) (hce : P.cellsOf e = 2)
    (h : laidMet P [(name, .agg (zs.map fun z => .agg [.lit (.int k z.1), .lit (.int k z.2)]))] W) (i : Nat) (z : Int × Int) (hz : zs[i]? = some z) :
    W.cell? ⟨g, i * 2, none⟩ = some (.int k z.1) ∧ W.cell? ⟨g, i * 2 + 1, none⟩ = some (.int k z.2) := by
  obtain ⟨ps, ⟨g', t', cs, fuel, p, q, hg', ht', hvar, hd, _, _⟩, _⟩ := h
  obtain rfl := Option.some.inj (hg.symm.trans hg')
  obtain rfl := Option.some.inj (hty.symm.trans ht')
  obtain ⟨a, b⟩ := cells_of_pairs ht he hfs h0 h1 k0 k1 c0 c1 hce hd i z hz
  have r0 := World.var?_cell hg hvar (i * 2)
  have r1 := World.var?_cell hg hvar (i * 2 + 1)
  constructor
  · rw [r0]; simpa using a
  · rw [r1]; simpa using b
end Go.Proofs.YtbkpnhbcihcgaaaGreatDoor
end
section
namespace Go.Proofs.YtbkpnhbcihcgaaaGreatDoor
set_option linter.all false
open Go.ChangeShapes Go.WideShapes Go.ChangeAt Go.RowKit Go.Lib
end Go.Proofs.YtbkpnhbcihcgaaaGreatDoor
end
section
namespace Go.Proofs.YtbkpnhbcihcgaaaGreatDoor
set_option linter.all false
open Go.ChangeShapes Go.WideShapes Go.ChangeAt Go.RowKit
section
open Go.Lib
theorem cells_of_strs {H : Type} {enc : TypeId × Value → H} {P : Program} {w : World} {base : Nat} {sp : Nat → Bool} {held : Bool} {fuel : Nat} {t e : TypeId} {n : Nat} {cs : List Value} {zs : List (List UInt8)} {p : List MemPlace}
    (ht : P.underlying t = some (.array n e)) (he : P.underlying e = some .string) (hce : P.cellsOf e = 1)
    (h : DataW.trod enc P w base sp held fuel t cs = some (.agg (zs.map fun z => .lit (.string z)), p)) (i : Nat) (z : List UInt8) (hz : zs[i]? = some z) : cs[i]? = some (.string ⟨z.toArray⟩) := by
  cases fuel with
  | zero => simp [DataW.trod] at h
  | succ fuel =>
    simp only [DataW.trod, ht, hce, Nat.mul_one] at h
    split at h
    · rename_i hl
      obtain ⟨xs, hm, hx⟩ := Option.map_eq_some_iff.1 h
      have hxs : xs.map (·.1) = zs.map fun z => (DataW.lit (.string z) : DataW H) := by
        have := congrArg Prod.fst hx
        simpa using this
      have hxl : xs.length = n := by simpa using mapM_length hm
      have hzl : zs.length = n := by
        have := congrArg List.length hxs
        simp at this
        omega
      have hi : i < n := by
        have := (List.getElem?_eq_some_iff.1 hz).1
        omega
      obtain ⟨b, hb, hf⟩ := mapM_at hm i i (by simp [hi])
      obtain ⟨s, hc, rfl, _⟩ := DataW.trod_string he hf
      have h1 : cs[i]? = some (.string s) := by
        have := congrArg (·[0]?) hc
        simpa [List.getElem?_take, List.getElem?_drop] using this
      have h2 : (xs.map (·.1))[i]? = some (DataW.lit (.string s.data.toList) : DataW H) := by simp [hb]
      rw [hxs] at h2
      simp only [List.getElem?_map, hz, Option.map_some, Option.some.injEq, DataW.lit.injEq, Lit.string.injEq] at h2
      subst h2
      exact h1
    · cases h
end
theorem strs_of_laid {P : Program} {W : World} {name : String} {zs : List (List UInt8)} {g : Nat} {t e : TypeId} {n : Nat}
    (hg : P.globalNamed name = some g) (hty : (P.globals[g]?).map (·.type) = some t) (ht : P.underlying t = some (.array n e)) (he : P.underlying e = some .string) (hce : P.cellsOf e = 1)
    (h : laidMet P [(name, .agg (zs.map fun z => .lit (.string z)))] W) (i : Nat) (z : List UInt8) (hz : zs[i]? = some z) : W.cell? ⟨g, i, none⟩ = some (.string ⟨z.toArray⟩) := by
  obtain ⟨ps, ⟨g', t', cs, fuel, p, q, hg', ht', hvar, hd, _, _⟩, _⟩ := h
  obtain rfl := Option.some.inj (hg.symm.trans hg')
  obtain rfl := Option.some.inj (hty.symm.trans ht')
  have r0 := World.var?_cell hg hvar i
  rw [r0]
  simpa using cells_of_strs ht he hce hd i z hz
end Go.Proofs.YtbkpnhbcihcgaaaGreatDoor
end
section
set_option linter.all false
namespace Go.Proofs.YtbkpnhbcihcgaaaGreatDoor.loopSums
open Go.ChangeShapes Go.WideShapes Go.ChangeAt Go.RowKit Mini

theorem own : ownKnob Tryz.prog.godebug = none := by kernel_rfl
theorem gt0N : Tryz.prog.globalNamed "bipole/loop.quarters" = some 0 := by kernel_rfl
theorem gt0T : (Tryz.prog.globals[0]?).map (·.type) = some 150 := by kernel_rfl
def t0 : List (Int × Int) := [(1, 0), (0, 1), (-1, 0), (0, -1)]
theorem onet0 : (Rows.loopSumsRow.laid.filter fun x => x.1 == "bipole/loop.quarters") = [("bipole/loop.quarters", .agg (t0.map fun z => .agg [.lit (.int .i64 z.1), .lit (.int .i64 z.2)]))] := by kernel_rfl
theorem cellst0 {W : World} (h : laidMetH Tryz.prog Rows.loopSumsRow.laid W) (i : Nat) (z : Int × Int) (hz : t0[i]? = some z) : W.cell? ⟨0, i * 2, none⟩ = some (.int .i64 z.1) ∧ W.cell? ⟨0, i * 2 + 1, none⟩ = some (.int .i64 z.2) := by
  have h1 := laidMetH.filter (P := Tryz.prog) (fun x => x.1 == "bipole/loop.quarters") h
  rw [onet0] at h1
  exact pairs_of_laid gt0N gt0T Tryz.underlying150 Tryz.underlying24 rfl rfl rfl Tryz.underlying3 Tryz.underlying3 (by kernel_rfl) (by kernel_rfl) (by kernel_rfl) h1 i z hz
theorem s0t0 : aw3S0.get 0 = .cells ((t0.flatMap fun z => [z.1, z.2]).map fun n => Value.int .i64 n) 150 true 0 true := by kernel_rfl
theorem gt1N : Tryz.prog.globalNamed "bipole/loop.words" = some 1 := by kernel_rfl
theorem gt1T : (Tryz.prog.globals[1]?).map (·.type) = some 166 := by kernel_rfl
def t1 : List (List UInt8) := [[112, 108, 97, 110, 116, 110, 117, 109], [112, 108, 97, 110, 116, 100, 101, 110], [99, 111, 110, 116, 114, 111, 108, 108, 101, 114, 110, 117, 109], [99, 111, 110, 116, 114, 111, 108, 108, 101, 114, 100, 101, 110]]
theorem onet1 : (Rows.loopSumsRow.laid.filter fun x => x.1 == "bipole/loop.words") = [("bipole/loop.words", .agg (t1.map fun z => .lit (.string z)))] := by kernel_rfl
theorem cellst1 {W : World} (h : laidMetH Tryz.prog Rows.loopSumsRow.laid W) (i : Nat) (z : List UInt8) (hz : t1[i]? = some z) : W.cell? ⟨1, i, none⟩ = some (.string ⟨z.toArray⟩) := by
  have h1 := laidMetH.filter (P := Tryz.prog) (fun x => x.1 == "bipole/loop.words") h
  rw [onet1] at h1
  exact strs_of_laid gt1N gt1T Tryz.underlying166 Tryz.underlying9 (by kernel_rfl) h1 i z hz
theorem s0t1 : aw3S0.get 1 = .cells (t1.map fun z => Value.string ⟨z.toArray⟩) 166 true 0 true := by kernel_rfl
theorem gt2N : Tryz.prog.globalNamed "internal/strconv.uint64pow10" = some 2 := by kernel_rfl
theorem gt2T : (Tryz.prog.globals[2]?).map (·.type) = some 231 := by kernel_rfl
def t2 : List Int := (List.range 20).map fun i => ((10 ^ i : Nat) : Int)
theorem onet2 : (Rows.loopSumsRow.laid.filter fun x => x.1 == "internal/strconv.uint64pow10") = [("internal/strconv.uint64pow10", Lib.tabData .u64 t2)] := by kernel_rfl
theorem cellst2 {W : World} (h : laidMetH Tryz.prog Rows.loopSumsRow.laid W) (i : Nat) (hi : i < 20) : W.cell? ⟨2, i, none⟩ = some (.int .u64 (t2.getD i 0)) := by
  have h1 := laidMetH.filter (P := Tryz.prog) (fun x => x.1 == "internal/strconv.uint64pow10") h
  rw [onet2] at h1
  exact (Lib.tabIs_of_head (rest := []) gt2N gt2T Tryz.underlying231 Tryz.underlying213 (by kernel_rfl) (by kernel_rfl) h1).cell gt2N i (by simpa [t2] using hi)
theorem s0t2 : aw3S0.get 2 = .cells (t2.map fun n => Value.int .u64 n) 231 true 0 true := by kernel_rfl
theorem holds0 {W : World} (h : laidMetH Tryz.prog Rows.loopSumsRow.laid W) : Holds Tryz.prog aw3S0 W := by
  refine ⟨by kernel_rfl, fun b hb => ?_⟩
  rw [show Tryz.prog.globals.size = 6 by kernel_rfl] at hb
  match b, hb with
  | 0, _ =>
    refine .inr ⟨_, _, s0t0, by simp [t0], by kernel_rfl, fun i v hi => ?_⟩
    have p0 := cellst0 h 0 (1, 0) rfl
    have p1 := cellst0 h 1 (0, 1) rfl
    have p2 := cellst0 h 2 (-1, 0) rfl
    have p3 := cellst0 h 3 (0, -1) rfl
    match i, hi with
    | 0, hi => simp [t0] at hi; subst hi; exact p0.1
    | 1, hi => simp [t0] at hi; subst hi; exact p0.2
    | 2, hi => simp [t0] at hi; subst hi; exact p1.1
    | 3, hi => simp [t0] at hi; subst hi; exact p1.2
    | 4, hi => simp [t0] at hi; subst hi; exact p2.1
    | 5, hi => simp [t0] at hi; subst hi; exact p2.2
    | 6, hi => simp [t0] at hi; subst hi; exact p3.1
    | 7, hi => simp [t0] at hi; subst hi; exact p3.2
    | i + 8, hi => simp [t0] at hi
  | 1, _ =>
    refine .inr ⟨_, _, s0t1, by simp [t1], by kernel_rfl, fun i v hi => ?_⟩
    simp only [List.getElem?_map, Option.map_eq_some_iff] at hi
    obtain ⟨a, h1, rfl⟩ := hi
    exact cellst1 h i a h1
  | 2, _ =>
    refine .inr ⟨_, _, s0t2, by simp [t2], by kernel_rfl, fun i v hi => ?_⟩
    have hlt : i < 20 := by
      have := (List.getElem?_eq_some_iff.1 hi).1
      simpa [t2] using this
    rw [cellst2 h i hlt]
    simp only [List.getElem?_map, Option.map_eq_some_iff] at hi
    obtain ⟨a, h1, rfl⟩ := hi
    simp [List.getD, h1]
  | 3, _ => exact .inl (by kernel_rfl)
  | 4, _ => exact .inl (by kernel_rfl)
  | 5, _ => exact .inl (by kernel_rfl)
  | b + 6, hb => omega

set_option maxRecDepth 100000 in
theorem contract (H : Type) (enc : TypeId × Value → H) (W : World) (base : Nat) (args : Array Value) (ds gs : List (DataW H)) (before : List MemPlace)
    (hval : ∀ (j : Nat) t v, Tryz.f10.params[j]? = some t → args[j]? = some v → Value.okWide Tryz.prog W .any base t v)
    (hW : DataW.Whole enc Tryz.prog Tryz.f10.params.toList Rows.loopSumsSpec.vars false W args.toList ds gs before) (hL : laidMetH Tryz.prog Rows.loopSumsRow.laid W) :
    Calls Tryz.prog 10 args W fun e W' => ∃ v, e = .returned v ∧ Rows.loopSumsSpec.post enc Tryz.prog Tryz.f10 false true false false W args v W' := by
  have hW' := hW
  obtain ⟨p, q, hA0, hV, rfl, hfz, hnd⟩ := hW
  have hA : DataW.TrodAll enc Tryz.prog W 0 (fun _ => true) true Tryz.f10.params.toList args.toList ds p := hA0
  rw [Tryz.params10] at hA hval
  obtain ⟨v0, vs0, d0, ds0, p0, q0, hargs, rfl, rfl, h0, r0⟩ := trodAll_cons hA
  obtain ⟨v1, vs1, d1, ds1, p1, q1, rfl, rfl, rfl, h1, r1⟩ := trodAll_cons r0
  obtain ⟨v2, vs2, d2, ds2, p2, q2, rfl, rfl, rfl, h2, r2⟩ := trodAll_cons r1
  obtain ⟨rfl, rfl, rfl⟩ := trodAll_nil r2
  obtain rfl : args = #[v0, v1, v2] := by apply Array.ext'; simpa using hargs
  obtain ⟨rfl, rfl⟩ := trodVars_none hV
  obtain ⟨ns0, l0, rfl, rfl, f0, t0⟩ := open_agg (n := 6) (ks := [.i8, .i8, .i8]) (by kernel_rfl) (by kernel_rfl) (hval 0 107 v0 rfl rfl) h0
  have l0_0 : ns0.length = 3 := l0
  clear l0
  obtain ⟨x0_0, ns0_0, rfl, l0_1⟩ := len_cons l0_0
  obtain ⟨x0_1, ns0_1, rfl, l0_2⟩ := len_cons l0_1
  obtain ⟨x0_2, ns0_2, rfl, l0_3⟩ := len_cons l0_2
  obtain rfl := len_nil l0_3
  obtain ⟨ns1, l1, rfl, rfl, f1, t1⟩ := open_agg (n := 6) (ks := [.i8, .i8, .i8]) (by kernel_rfl) (by kernel_rfl) (hval 1 107 v1 rfl rfl) h1
  have l1_0 : ns1.length = 3 := l1
  clear l1
  obtain ⟨x1_0, ns1_0, rfl, l1_1⟩ := len_cons l1_0
  obtain ⟨x1_1, ns1_1, rfl, l1_2⟩ := len_cons l1_1
  obtain ⟨x1_2, ns1_2, rfl, l1_3⟩ := len_cons l1_2
  obtain rfl := len_nil l1_3
  obtain ⟨ns2, l2, rfl, rfl, f2, t2⟩ := open_agg (n := 6) (ks := [.i8, .i8]) (by kernel_rfl) (by kernel_rfl) (hval 2 106 v2 rfl rfl) h2
  have l2_0 : ns2.length = 2 := l2
  clear l2
  obtain ⟨x2_0, ns2_0, rfl, l2_1⟩ := len_cons l2_0
  obtain ⟨x2_1, ns2_1, rfl, l2_2⟩ := len_cons l2_1
  obtain rfl := len_nil l2_2
  clear hA0
  simp only [List.append_nil] at hW'
  refine (lsum_any x0_0 x0_1 x0_2 x1_0 x1_1 x1_2 x2_0 x2_1 (by have hmn : IntKind.i8.min = -128 := (by decide); have hmx : IntKind.i8.max = 127 := (by decide); simp [wfs, Lit.wf, hmn, hmx] at f1 f2; omega) W (holds0 hL)).mono fun e W' ⟨he, hb⟩ => ?_
  subst he
  exact ⟨_, rfl, post_below (pa := []) (pv := []) hW' (ok_one (by kernel_rfl) rfl (okWide_bool_mk Tryz.underlying4 _)) (fun _ _ _ => trodAll_cons_mk (shut_bool Tryz.underlying4 _) trodAll_mk0)
    (fun sp _ => trodAll_cons_mk (t0 _ _ _ _) (trodAll_cons_mk (t1 _ _ _ _) (trodAll_cons_mk (t2 _ _ _ _) (trodAll_mk0))))
    (fun _ _ => rfl) rfl hb⟩

def setTab (b : Nat) (cs : Array Value) (h : Array Obj) : Array Obj := h.modify b fun
  | .cells _ t frozen => .cells cs t frozen
  | o => o
noncomputable def laidWorld (os : Os) : World :=
  { World.holding Tryz.prog os ⟨#[], #[], []⟩ with heap := setTab 5 #[.int .u8 (0), .int .u8 (1), .int .u8 (56), .int .u8 (2), .int .u8 (57), .int .u8 (49), .int .u8 (28), .int .u8 (3), .int .u8 (61), .int .u8 (58), .int .u8 (42), .int .u8 (50), .int .u8 (38), .int .u8 (29), .int .u8 (17), .int .u8 (4), .int .u8 (62), .int .u8 (47), .int .u8 (59), .int .u8 (36), .int .u8 (45), .int .u8 (43), .int .u8 (51), .int .u8 (22), .int .u8 (53), .int .u8 (39), .int .u8 (33), .int .u8 (30), .int .u8 (24), .int .u8 (18), .int .u8 (12), .int .u8 (5), .int .u8 (63), .int .u8 (55), .int .u8 (48), .int .u8 (27), .int .u8 (60), .int .u8 (41), .int .u8 (37), .int .u8 (16), .int .u8 (46), .int .u8 (35), .int .u8 (44), .int .u8 (21), .int .u8 (52), .int .u8 (32), .int .u8 (23), .int .u8 (11), .int .u8 (54), .int .u8 (26), .int .u8 (40), .int .u8 (15), .int .u8 (34), .int .u8 (20), .int .u8 (31), .int .u8 (10), .int .u8 (25), .int .u8 (14), .int .u8 (19), .int .u8 (9), .int .u8 (13), .int .u8 (8), .int .u8 (7), .int .u8 (6)] (setTab 4 #[.int .u8 (0), .int .u8 (1), .int .u8 (28), .int .u8 (2), .int .u8 (29), .int .u8 (14), .int .u8 (24), .int .u8 (3), .int .u8 (30), .int .u8 (22), .int .u8 (20), .int .u8 (15), .int .u8 (25), .int .u8 (17), .int .u8 (4), .int .u8 (8), .int .u8 (31), .int .u8 (27), .int .u8 (13), .int .u8 (23), .int .u8 (21), .int .u8 (19), .int .u8 (16), .int .u8 (7), .int .u8 (26), .int .u8 (12), .int .u8 (18), .int .u8 (6), .int .u8 (11), .int .u8 (5), .int .u8 (10), .int .u8 (9)] (setTab 2 #[.int .u64 (1), .int .u64 (10), .int .u64 (100), .int .u64 (1000), .int .u64 (10000), .int .u64 (100000), .int .u64 (1000000), .int .u64 (10000000), .int .u64 (100000000), .int .u64 (1000000000), .int .u64 (10000000000), .int .u64 (100000000000), .int .u64 (1000000000000), .int .u64 (10000000000000), .int .u64 (100000000000000), .int .u64 (1000000000000000), .int .u64 (10000000000000000), .int .u64 (100000000000000000), .int .u64 (1000000000000000000), .int .u64 (10000000000000000000)] (setTab 1 #[.string ⟨#[112, 108, 97, 110, 116, 110, 117, 109]⟩, .string ⟨#[112, 108, 97, 110, 116, 100, 101, 110]⟩, .string ⟨#[99, 111, 110, 116, 114, 111, 108, 108, 101, 114, 110, 117, 109]⟩, .string ⟨#[99, 111, 110, 116, 114, 111, 108, 108, 101, 114, 100, 101, 110]⟩] (setTab 0 #[.int .i64 (1), .int .i64 (0), .int .i64 (0), .int .i64 (1), .int .i64 (-1), .int .i64 (0), .int .i64 (0), .int .i64 (-1)] ((World.holding Tryz.prog os ⟨#[], #[], []⟩).heap))))) }
def wArgs : Array Value := #[.agg #[.int .i8 0, .int .i8 0, .int .i8 0], .agg #[.int .i8 0, .int .i8 0, .int .i8 0], .agg #[.int .i8 0, .int .i8 0]]
theorem laid_met (os : Os) : laidMet Tryz.prog Rows.loopSumsRow.laid ((laidWorld os).forCall (fun _ _ => 0) ⟨#[], wArgs, []⟩).memory :=
  laidMet_of_run' 8 (by kernel_rfl) (by kernel_rfl)
theorem reads (os : Os) {H : Type} (enc : TypeId × Value → H) : ∃ places, DataW.whole enc Tryz.prog ((laidWorld os).forCall (fun _ _ => 0) ⟨#[], wArgs, []⟩).memory Tryz.f10.params.toList Rows.loopSumsSpec.vars false wArgs.toList 8 = some ([.agg [.lit (.int .i8 0), .lit (.int .i8 0), .lit (.int .i8 0)], .agg [.lit (.int .i8 0), .lit (.int .i8 0), .lit (.int .i8 0)], .agg [.lit (.int .i8 0), .lit (.int .i8 0)]], [], places) :=
  ⟨[], by kernel_rfl⟩
set_option maxRecDepth 100000 in
theorem lifted (os : Os) (started : os.Started) (H : Type) (enc : TypeId × Value → H) (F : Stop.Interp) :
    ReturnsInHanded {} Tryz.checked os 10 .any ((OpenSpec.ofChange Rows.loopSumsSpec).preRow enc Tryz.prog Tryz.f10 Rows.loopSumsRow.domain false Rows.loopSumsRow.laid) (((OpenSpec.ofChange Rows.loopSumsSpec).at F).post enc Tryz.prog Tryz.f10 false true false false) := by
  obtain ⟨places, hx⟩ := reads os enc
  refine returnsInHanded_of_row (C := Tryz.checked) (s := OpenSpec.ofChange Rows.loopSumsSpec) own started (by kernel_rfl) Tryz.func10
    (witness_row_at (enc := enc) (C := Tryz.checked) false (laidWorld os) wArgs rfl (by kernel_rfl) (by kernel_rfl) (by kernel_rfl)
      (OpenSpec.preRow_of_cond 8 hx (by kernel_rfl) (fun k hk => by cases hk) (by kernel_rfl) (laid_met os))) ?_
  intro W base args ds gs before hval hW _ _ _ hL _ _
  exact contract H enc W base args ds gs before hval hW hL
theorem said : Rows.LoopSumsSaid :=
  OpenClaim.holds_of_cond 10 Tryz.f10 rfl rfl rfl rfl rfl rfl rfl ⟨rfl, rfl, rfl, rfl, rfl⟩ rfl rfl rfl rfl rfl (by kernel_rfl) Tryz.func10 (by kernel_rfl)
    (of_decide_eq_true (by kernel_rfl)) (by unfold Func.isWrapper; first | (rw [if_pos (by decide +kernel)]; kernel_rfl) | (rw [if_neg (by decide +kernel)]; exact ⟨rfl, rfl⟩))
    (fun os started H enc _ F => by rw [OpenClaim.pre_eq_preRow]; exact lifted os started H enc F)
theorem plain (f : FuncId) (fn : Func) (hf : Tryz.pinned.checked.prog.funcNamed "bipole/bipolelaw03.LoopSums" = some f) (hfn : Tryz.pinned.checked.prog.funcs[f]? = some fn) :
    false = Tryz.pinned.checked.prog.looks [] ∧ ∀ (j : Nat) t, fn.params[j]? = some t → Tryz.pinned.checked.prog.wantsStandIn t = false := by
  obtain rfl : f = 10 := Option.some.inj ((show Tryz.prog.funcNamed "bipole/bipolelaw03.LoopSums" = some 10 by kernel_rfl).symm.trans hf) |>.symm
  obtain rfl : fn = Tryz.f10 := (Option.some.inj (Tryz.func10.symm.trans hfn)).symm
  refine ⟨by kernel_rfl, fun j t ht => ?_⟩
  rw [Tryz.params10] at ht
  have hm : t = 107 ∨ t = 107 ∨ t = 106 := by simpa using Array.mem_of_getElem? ht
  rcases hm with rfl | rfl | rfl
  · exact (show Tryz.prog.wantsStandIn 107 = false by kernel_rfl)
  · exact (show Tryz.prog.wantsStandIn 107 = false by kernel_rfl)
  · exact (show Tryz.prog.wantsStandIn 106 = false by kernel_rfl)
theorem card : Rows.LoopSumsCardSaid :=
  Claim7.holds_tied_plain_at .later [] _ _ _ _ said (fun _ h => by cases h) (by kernel_rfl) (fun _ h => by cases h) loopSums_row_tie rfl ⟨rfl, rfl⟩ (by kernel_rfl) rfl plain (by kernel_rfl)
end Go.Proofs.YtbkpnhbcihcgaaaGreatDoor.loopSums
end
