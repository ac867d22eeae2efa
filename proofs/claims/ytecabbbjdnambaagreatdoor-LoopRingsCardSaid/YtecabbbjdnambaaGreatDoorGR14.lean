/-
  LoopRings: for all arguments the law returns true and leaves its arguments as they were, wherever the tables that its row lists are laid as the text lays them.
  Tables of strings on a row's list.
  The law LoopRings in each real world.
  Two slices of numbers as arguments: a law over two rows in the small world holds in the real one (the rows may lie together there).
  Slices of numbers (or of structs and arrays of numbers) as arguments: what the program reads of them; a law over a row in the small world holds in the real one.
-/
import Derived.Test.YtecabbbjdnambaaGreatDoorGR13
import Derived.Deep.Slices
import Derived.WideShapes
import Derived.WideKeyArgs
import Derived.Test.YtecabbbjdnambaaGreatDoorCards
import Derived.Test.YtecabbbjdnambaaGreatDoorTie
import Derived.WalkKit
import Derived.ProofKit
import Derived.OpenShut
import Derived.Deep.DeepHandedRow
import Derived.Lib.LaidTab
section
namespace Go.Proofs.YtecabbbjdnambaaGreatDoor
set_option linter.all false
open Go.ChangeShapes Go.WideShapes Go.ChangeAt Go.RowKit Go.Lib Go.Deep
namespace Mini
def RowsAt (W : World) (ks : List IntKind) (v : Value) : Prop := v = .slice none 0 0 ∨ ∃ (b off len cap : Nat) (g : Nat → Nat → Int), v = .slice (some ⟨b, off, none⟩) len cap ∧ len ≤ cap ∧ cap ≤ maxLen ∧
  ∀ i j, i < len → j < ks.length → W.cell? ⟨b, off + (i * ks.length + j), none⟩ = some (.int (ks.getD j .i64) (g i j)) ∧ (Lit.int (ks.getD j .i64) (g i j)).wf = true
theorem wfs_at : ∀ {ks : List IntKind} {ns : List Int} {j : Nat}, ns.length = ks.length → wfs ks ns = true → j < ks.length → (Lit.int (ks.getD j .i64) (ns.getD j 0)).wf = true
  | [], _, j, _, _, h => absurd h (by simp)
  | k :: ks, [], j, h, _, _ => by cases h
  | k :: ks, n :: ns, 0, _, h, _ => by simp only [wfs, Bool.and_eq_true] at h; exact h.1
  | k :: ks, n :: ns, j + 1, hl, h, hj => by
    simp only [wfs, Bool.and_eq_true] at h
    have := wfs_at (ks := ks) (ns := ns) (j := j) (by simpa using hl) h.2 (by simpa using hj)
    simpa using this
theorem backI_at : ∀ {ks : List IntKind} {ns : List Int} {j : Nat}, ns.length = ks.length → j < ks.length → (backI ks ns)[j]? = some (.int (ks.getD j .i64) (ns.getD j 0))
  | [], _, j, _, h => absurd h (by simp)
  | k :: ks, [], j, h, _ => by cases h
  | k :: ks, n :: ns, 0, _, _ => rfl
  | k :: ks, n :: ns, j + 1, hl, hj => by
    have := backI_at (ks := ks) (ns := ns) (j := j) (by simpa using hl) (by simpa using hj)
    simpa [backI] using this
theorem rows_of {H : Type} {enc : TypeId × Value → H} {P : Program} {W : World} {base m : Nat} {t e : TypeId} {v : Value} {d : DataW H} {p : List MemPlace} {ks : List IntKind} (ht : P.underlying t = some (.slice e)) (hk : kindsT P m e = some ks) (hc : P.cellsOf e = ks.length)
    (hv : Value.okWide P W .any base t v) (h : DataW.Trod enc P W 0 (fun _ => true) true t v d p) : RowsAt W ks v := by
  obtain ⟨a, len, cap, rfl⟩ := okWide_slice ht hv
  obtain ⟨fuel, hf⟩ := h
  rcases open_slice ht hf with ⟨hcs, _⟩ | ⟨a', len', cap', m', n, D, Pl, hcs, _, hl, hmx, hm, _, hx⟩
  · left
    simpa [Value.cells] using hcs
  · right
    have hcs : Value.slice a len cap = .slice (some a') len' cap' := by simpa [Value.cells] using hcs
    cases hcs
    simp only [Value.okWide, ht, Cell.okWide, Cell.ok, World.has] at hv
    obtain ⟨b, off, spot⟩ := a'
    have hs : spot = none := hv.2.2.2.1
    subst hs
    have hm' : len ≤ m' := by rw [hm]; exact hl
    have z0 : ∀ i, ∃ ns : List Int, i < len → ns.length = ks.length ∧ wfs ks ns = true ∧ ∀ j, j < ks.length → W.cell? ⟨b, off + (i * ks.length + j), none⟩ = (backI ks ns)[j]? := fun i => by
      by_cases hi : i < len
      · obtain ⟨cs', q1, q2⟩ := hx i (by omega)
        rw [hc] at q1
        obtain ⟨_, hlen, hcell⟩ := World.cells?_some q1
        obtain ⟨_, ns, l1, c1, f1, _⟩ := open_kinds m e ks hk n cs' (D i) (Pl i) W 0 (fun _ => true) true q2
        refine ⟨ns, fun _ => ⟨l1, f1, fun j hj => ?_⟩⟩
        have h2 := hcell j hj
        rw [Go.WideShapes.add_plain, Go.WideShapes.add_plain] at h2
        rw [← c1, ← h2]
        congr 2
        omega
      · exact ⟨[], fun h => absurd h hi⟩
    refine ⟨b, off, len, cap, fun i j => (Classical.choose (z0 i)).getD j 0, rfl, hl, hmx, fun i j hi hj => ?_⟩
    obtain ⟨e1, e2, e3⟩ := Classical.choose_spec (z0 i) hi
    exact ⟨(e3 j hj).trans (backI_at e1 hj), wfs_at e1 e2 hj⟩
def extAt (N b off sz : Nat) : Nat → Option Mini.Loc := fun x => if x = N then some ⟨b, off, true, 0, sz⟩ else none
theorem cell_obj {W : World} {b off : Nat} {v : Value} (h : W.cell? ⟨b, off, none⟩ = some v) : ∃ cs e fr, W.heap[b]? = some (.cells cs e fr) ∧ cs[off]? = some v := by
  unfold World.cell? at h
  split at h
  · rename_i c e fr hc
    exact ⟨c, e, fr, hc, by simpa using h⟩
  · cases h
theorem vrs_one {ρ : Ren} {pre post : List Value} {u u' : Value} (h1 : pre.all (ground 8) = true) (h2 : post.all (ground 8) = true) (hu : VR ρ u u') : VRs ρ (pre ++ u :: post).toArray (pre ++ u' :: post).toArray := by
  refine ⟨by simp, fun i x x' e1 e2 => ?_⟩
  simp only [List.getElem?_toArray] at e1 e2
  rw [List.all_eq_true] at h1 h2
  rcases Nat.lt_trichotomy i pre.length with c | c | c
  · rw [List.getElem?_append_left c] at e1 e2
    rw [e1] at e2
    cases e2
    exact ground_refl 8 (h1 _ (List.mem_of_getElem? e1))
  · rw [List.getElem?_append_right (by omega)] at e1 e2
    rw [c, Nat.sub_self] at e1 e2
    cases e1
    cases e2
    exact hu
  · rw [List.getElem?_append_right (by omega)] at e1 e2
    obtain ⟨q, hq⟩ : ∃ q, i - pre.length = q + 1 := ⟨i - pre.length - 1, by omega⟩
    rw [hq] at e1 e2
    simp only [List.getElem?_cons_succ] at e1 e2
    rw [e1] at e2
    cases e2
    exact ground_refl 8 (h2 _ (List.mem_of_getElem? e1))
theorem calls_row1 {P : Program} {f : FuncId} {S0 : St} {W : World} {ks : List IntKind} {pre post : List Value} {v0 : Value} {G : (Nat → Nat → Int) → Nat → Nat → Value} (hh : Holds P S0 W) (hn : S0.next = P.globals.size) (hw0 : ∀ b, b < P.globals.size → b < S0.next)
    (hp1 : pre.all (ground 8) = true) (hp2 : post.all (ground 8) = true) (hG : ∀ g i j, j < ks.length → G g i j = .int (ks.getD j .i64) (g i j)) (hk : 0 < ks.length) (hv : RowsAt W ks v0)
    (hnil : ∃ s1 R, SndF P f (pre ++ .slice none 0 0 :: post).toArray S0 (.bool true) s1 R 0)
    (hemp : ∀ c, ∃ s1 R, SndF P f (pre ++ .slice (some ⟨S0.next, 0, none⟩) 0 c :: post).toArray (S0.push .hole) (.bool true) s1 R 0)
    (hrow : ∀ n c g, 0 < n → n ≤ c → c ≤ maxLen → (∀ i j, i < n → j < ks.length → (Lit.int (ks.getD j .i64) (g i j)).wf = true) → ∃ s1 R, SndF P f (pre ++ .slice (some ⟨S0.next, 0, none⟩) n c :: post).toArray (S0.push (.rows n ks.length (G g) 0 true 0 true)) (.bool true) s1 R 0) :
    Calls P f (pre ++ v0 :: post).toArray W fun e W' => e = .returned (.bool true) ∧ Below W.heap.size W W' := by
  have hold : ∀ (o : MObj) b, b < P.globals.size → (S0.push o).get b = S0.get b := fun o b hb => St.get_push_old S0 o b (hw0 b hb)
  have hnx : ∀ o : MObj, (S0.push o).next = S0.next + 1 := fun o => rfl
  have hnew : ∀ o : MObj, (S0.push o).get S0.next = o := fun o => St.get_push_new S0 o
  rcases hv with rfl | ⟨b, off, len, cap, g, rfl, hl, hmx, hc⟩
  · obtain ⟨s1, R, h⟩ := hnil
    exact calls_of h rfl (by simp only [List.all_append, List.all_cons, hp1, hp2, ground, Bool.and_self]) (fun b _ => by simp) hh
  · rcases Nat.eq_zero_or_pos len with z | z
    · subst z
      obtain ⟨s1, R, h⟩ := hemp cap
      refine calls_ofX (ext := extAt S0.next b off 0) h rfl (by rw [hnx]; omega) (fun x hx => by rw [hold _ x hx]; exact hh.holds x hx) (fun x h1 h2 h3 => ?_) (fun x hx => if_neg (by rw [hnx] at hx; omega)) (fun x y L L' h1 h2 h3 h4 _ h5 h6 _ => ?_) (vrs_one hp1 hp2 ?_) (fun x _ => by simp)
      · rw [hnx] at h2
        have : x = S0.next := by omega
        subst this
        exact absurd (hnew _) h3
      · unfold extAt at h5 h6
        split at h5
        · split at h6
          · omega
          · cases h6
        · cases h5
      · exact .slice S0.next 0 0 cap cap ⟨b, off, true, 0, 0⟩ (by unfold rhoX; rw [if_neg (by omega)]; exact if_pos rfl) (.inl rfl)
    · obtain ⟨s1, R, h⟩ := hrow len cap g z hl hmx (fun i j hi hj => (hc i j hi hj).2)
      have c0 := (hc 0 0 z hk).1
      obtain ⟨cs, e', fr, ho, _⟩ := cell_obj c0
      have hcs : ∀ i j, i < len → j < ks.length → cs[off + (i * ks.length + j)]? = some (G g i j) := fun i j hi hj => by
        obtain ⟨c1, e1, f1, o1, r1⟩ := cell_obj (hc i j hi hj).1
        rw [ho] at o1
        cases o1
        rw [hG g i j hj]
        exact r1
      have hsize : off + len * ks.length ≤ cs.size := by
        have := (Array.getElem?_eq_some_iff.1 (hcs (len - 1) (ks.length - 1) (by omega) (by omega))).1
        have e1 : (len - 1) * ks.length + ks.length = len * ks.length := by
          obtain ⟨q, rfl⟩ : ∃ q, len = q + 1 := ⟨len - 1, by omega⟩
          simp [Nat.succ_mul]
        omega
      refine calls_ofX (ext := extAt S0.next b off cs.size) h rfl (by rw [hnx]; omega) (fun x hx => by rw [hold _ x hx]; exact hh.holds x hx) (fun x h1 h2 h3 => ?_) (fun x hx => if_neg (by rw [hnx] at hx; omega)) (fun x y L L' h1 h2 h3 h4 _ h5 h6 _ => ?_) (vrs_one hp1 hp2 ?_) (fun x _ => by simp)
      · rw [hnx] at h2
        have : x = S0.next := by omega
        subst this
        have hr := hnew (.rows len ks.length (G g) 0 true 0 true)
        refine ⟨⟨b, off, true, 0, cs.size⟩, .cells cs e' fr, if_pos rfl, fun h => ?_, ho, ?_⟩
        · rw [hr] at h; cases h
        · rw [hr]
          exact or_read hsize (fun i j _ hj => by rw [hG g i j hj]; rfl) fun i j hi hj => hcs i j hi hj
      · unfold extAt at h5 h6
        split at h5
        · split at h6
          · omega
          · cases h6
        · cases h5
      · exact .slice S0.next 0 len cap cap ⟨b, off, true, 0, cs.size⟩ (by unfold rhoX; rw [if_neg (by omega)]; exact if_pos rfl) (.inl rfl)
theorem calls_row1o {P : Program} {f : FuncId} {S0 : St} {W : World} {ks : List IntKind} {pre post : List Value} {v0 : Value} {G : (Nat → Nat → Int) → Nat → Nat → Value} (hh : Holds P S0 W) (hn : S0.next = P.globals.size) (hw0 : ∀ b, b < P.globals.size → b < S0.next)
    (hp1 : pre.all (ground 8) = true) (hp2 : post.all (ground 8) = true) (hG : ∀ g i j, j < ks.length → G g i j = .int (ks.getD j .i64) (g i j)) (hk : 0 < ks.length) (hv : RowsAt W ks v0)
    (hnil : ∃ s1 R, SndF P f (pre ++ .slice none 0 0 :: post).toArray S0 (.bool true) s1 R 0)
    (hemp : ∀ c, ∃ s1 R, SndF P f (pre ++ .slice (some ⟨S0.next, 0, none⟩) 0 c :: post).toArray (S0.push .hole) (.bool true) s1 R 0)
    (hrow : ∀ n c g, 0 < n → n ≤ c → c ≤ maxLen → (∀ i j, i < n → j < ks.length → (Lit.int (ks.getD j .i64) (g i j)).wf = true) → ∃ o s1 R, (o = .rows n ks.length (G g) 0 true 0 true ∨ o = .cells (rowsL n ks.length (G g)) 0 true 0 true) ∧ SndF P f (pre ++ .slice (some ⟨S0.next, 0, none⟩) n c :: post).toArray (S0.push o) (.bool true) s1 R 0) :
    Calls P f (pre ++ v0 :: post).toArray W fun e W' => e = .returned (.bool true) ∧ Below W.heap.size W W' := by
  have hold : ∀ (o : MObj) b, b < P.globals.size → (S0.push o).get b = S0.get b := fun o b hb => St.get_push_old S0 o b (hw0 b hb)
  have hnx : ∀ o : MObj, (S0.push o).next = S0.next + 1 := fun o => rfl
  have hnew : ∀ o : MObj, (S0.push o).get S0.next = o := fun o => St.get_push_new S0 o
  rcases hv with rfl | ⟨b, off, len, cap, g, rfl, hl, hmx, hc⟩
  · obtain ⟨s1, R, h⟩ := hnil
    exact calls_of h rfl (by simp only [List.all_append, List.all_cons, hp1, hp2, ground, Bool.and_self]) (fun b _ => by simp) hh
  · rcases Nat.eq_zero_or_pos len with z | z
    · subst z
      obtain ⟨s1, R, h⟩ := hemp cap
      refine calls_ofX (ext := extAt S0.next b off 0) h rfl (by rw [hnx]; omega) (fun x hx => by rw [hold _ x hx]; exact hh.holds x hx) (fun x h1 h2 h3 => ?_) (fun x hx => if_neg (by rw [hnx] at hx; omega)) (fun x y L L' h1 h2 h3 h4 _ h5 h6 _ => ?_) (vrs_one hp1 hp2 ?_) (fun x _ => by simp)
      · rw [hnx] at h2
        have : x = S0.next := by omega
        subst this
        exact absurd (hnew _) h3
      · unfold extAt at h5 h6
        split at h5
        · split at h6
          · omega
          · cases h6
        · cases h5
      · exact .slice S0.next 0 0 cap cap ⟨b, off, true, 0, 0⟩ (by unfold rhoX; rw [if_neg (by omega)]; exact if_pos rfl) (.inl rfl)
    · obtain ⟨o, s1, R, hobj, h⟩ := hrow len cap g z hl hmx (fun i j hi hj => (hc i j hi hj).2)
      have c0 := (hc 0 0 z hk).1
      obtain ⟨cs, e', fr, ho, _⟩ := cell_obj c0
      have hcs : ∀ i j, i < len → j < ks.length → cs[off + (i * ks.length + j)]? = some (G g i j) := fun i j hi hj => by
        obtain ⟨c1, e1, f1, o1, r1⟩ := cell_obj (hc i j hi hj).1
        rw [ho] at o1
        cases o1
        rw [hG g i j hj]
        exact r1
      have hsize : off + len * ks.length ≤ cs.size := by
        have := (Array.getElem?_eq_some_iff.1 (hcs (len - 1) (ks.length - 1) (by omega) (by omega))).1
        have e1 : (len - 1) * ks.length + ks.length = len * ks.length := by
          obtain ⟨q, rfl⟩ : ∃ q, len = q + 1 := ⟨len - 1, by omega⟩
          simp [Nat.succ_mul]
        omega
      refine calls_ofX (ext := extAt S0.next b off cs.size) h rfl (by rw [hnx]; omega) (fun x hx => by rw [hold _ x hx]; exact hh.holds x hx) (fun x h1 h2 h3 => ?_) (fun x hx => if_neg (by rw [hnx] at hx; omega)) (fun x y L L' h1 h2 h3 h4 _ h5 h6 _ => ?_) (vrs_one hp1 hp2 ?_) (fun x _ => by simp)
      · rw [hnx] at h2
        have : x = S0.next := by omega
        subst this
        have hr := hnew o
        have hro := or_read (ρ := rhoX P W (extAt S0.next b off cs.size)) (e := 0) (blk := b) (e' := e') (fr := fr) hsize (fun i j _ hj => by rw [hG g i j hj]; rfl) fun i j hi hj => hcs i j hi hj
        refine ⟨⟨b, off, true, 0, cs.size⟩, .cells cs e' fr, if_pos rfl, fun h => ?_, ho, ?_⟩
        · rw [hr] at h
          rcases hobj with rfl | rfl <;> cases h
        · rw [hr]
          rcases hobj with rfl | rfl
          · exact hro
          · exact Mini.or_congr (show nrm (.rows len ks.length (G g) 0 true 0 true) = nrm (.cells (rowsL len ks.length (G g)) 0 true 0 true) from rfl) hro
      · unfold extAt at h5 h6
        split at h5
        · split at h6
          · omega
          · cases h6
        · cases h5
      · exact .slice S0.next 0 len cap cap ⟨b, off, true, 0, cs.size⟩ (by unfold rhoX; rw [if_neg (by omega)]; exact if_pos rfl) (.inl rfl)
end Mini
end Go.Proofs.YtecabbbjdnambaaGreatDoor
end
section
namespace Go.Proofs.YtecabbbjdnambaaGreatDoor
set_option linter.all false
open Go.ChangeShapes Go.WideShapes Go.ChangeAt Go.RowKit Go.Lib Go.Deep
namespace Mini
inductive RA where
  | nil
  | emp (c : Nat)
  | row (n c : Nat) (g : Nat → Nat → Int)
def RA.val (x : Nat) : RA → Value
  | .nil => .slice none 0 0
  | .emp c => .slice (some ⟨x, 0, none⟩) 0 c
  | .row n c _ => .slice (some ⟨x, 0, none⟩) n c
def RA.obj (k : Nat) (G : (Nat → Nat → Int) → Nat → Nat → Value) : RA → MObj
  | .row n _ g => .rows n k (G g) 0 true 0 true
  | _ => .hole
def RA.ok (ks : List IntKind) : RA → Prop
  | .row n c g => 0 < n ∧ n ≤ c ∧ c ≤ maxLen ∧ ∀ i j, i < n → j < ks.length → (Lit.int (ks.getD j .i64) (g i j)).wf = true
  | _ => True
theorem row_arg {W : World} {ks : List IntKind} {v : Value} {G : (Nat → Nat → Int) → Nat → Nat → Value} (hv : RowsAt W ks v) (hk : 0 < ks.length) (hG : ∀ g i j, j < ks.length → G g i j = .int (ks.getD j .i64) (g i j)) :
    ∃ (a : RA) (L : Mini.Loc), a.ok ks ∧ (∀ (ρ : Ren) (x : Nat), ρ x = some L → VR ρ (a.val x) v) ∧ (a.obj ks.length G ≠ .hole → roO (a.obj ks.length G) = true ∧ ∀ ρ : Ren, ∃ o', W.heap[L.blk]? = some o' ∧ OR ρ L (a.obj ks.length G) o') := by
  rcases hv with rfl | ⟨b, off, len, cap, g, rfl, hl, hmx, hc⟩
  · exact ⟨.nil, ⟨0, 0, true, 0, 0⟩, trivial, fun ρ x _ => .slice0 0 0, fun h => absurd rfl h⟩
  · rcases Nat.eq_zero_or_pos len with z | z
    · subst z
      exact ⟨.emp cap, ⟨b, off, true, 0, 0⟩, trivial, fun ρ x hx => .slice x 0 0 cap cap ⟨b, off, true, 0, 0⟩ hx (.inl rfl), fun h => absurd rfl h⟩
    · have c0 := (hc 0 0 z hk).1
      obtain ⟨cs, e', fr, ho, _⟩ := cell_obj c0
      have hcs : ∀ i j, i < len → j < ks.length → cs[off + (i * ks.length + j)]? = some (G g i j) := fun i j hi hj => by
        obtain ⟨c1, e1, f1, o1, r1⟩ := cell_obj (hc i j hi hj).1
        rw [ho] at o1
        cases o1
        rw [hG g i j hj]
        exact r1
      have hsize : off + len * ks.length ≤ cs.size := by
        have := (Array.getElem?_eq_some_iff.1 (hcs (len - 1) (ks.length - 1) (by omega) (by omega))).1
        have e1 : (len - 1) * ks.length + ks.length = len * ks.length := by
          obtain ⟨q, rfl⟩ : ∃ q, len = q + 1 := ⟨len - 1, by omega⟩
          simp [Nat.succ_mul]
        omega
      exact ⟨.row len cap g, ⟨b, off, true, 0, cs.size⟩, ⟨z, hl, hmx, fun i j hi hj => (hc i j hi hj).2⟩, fun ρ x hx => .slice x 0 len cap cap ⟨b, off, true, 0, cs.size⟩ hx (.inl rfl),
        fun _ => ⟨rfl, fun ρ => ⟨.cells cs e' fr, ho, or_read hsize (fun i j _ hj => by rw [hG g i j hj]; rfl) fun i j hi hj => hcs i j hi hj⟩⟩⟩
theorem calls_row2 {P : Program} {f : FuncId} {S0 : St} {W : World} {ks0 ks1 : List IntKind} {pre mid post : List Value} {v0 v1 : Value} {G0 G1 : (Nat → Nat → Int) → Nat → Nat → Value} (hh : Holds P S0 W) (hn : S0.next = P.globals.size)
    (hp1 : pre.all (ground 8) = true) (hp2 : mid.all (ground 8) = true) (hp3 : post.all (ground 8) = true) (hG0 : ∀ g i j, j < ks0.length → G0 g i j = .int (ks0.getD j .i64) (g i j)) (hG1 : ∀ g i j, j < ks1.length → G1 g i j = .int (ks1.getD j .i64) (g i j)) (hk0 : 0 < ks0.length) (hk1 : 0 < ks1.length) (hv0 : RowsAt W ks0 v0) (hv1 : RowsAt W ks1 v1)
    (hlaw : ∀ a0 a1 : RA, a0.ok ks0 → a1.ok ks1 → ∃ s1 R, SndF P f (pre ++ a0.val S0.next :: (mid ++ a1.val (S0.next + 1) :: post)).toArray ((S0.push (a0.obj ks0.length G0)).push (a1.obj ks1.length G1)) (.bool true) s1 R 0) :
    Calls P f (pre ++ v0 :: (mid ++ v1 :: post)).toArray W fun e W' => e = .returned (.bool true) ∧ Below W.heap.size W W' := by
  obtain ⟨a0, L0, ok0, r0, o0⟩ := row_arg (G := G0) hv0 hk0 hG0
  obtain ⟨a1, L1, ok1, r1, o1⟩ := row_arg (G := G1) hv1 hk1 hG1
  obtain ⟨s1, R, h⟩ := hlaw a0 a1 ok0 ok1
  have hnx : ((S0.push (a0.obj ks0.length G0)).push (a1.obj ks1.length G1)).next = S0.next + 2 := rfl
  have g0 : ((S0.push (a0.obj ks0.length G0)).push (a1.obj ks1.length G1)).get S0.next = a0.obj ks0.length G0 := by
    rw [St.get_push_old _ _ _ (show S0.next < (S0.push _).next from Nat.lt_succ_self _)]
    exact St.get_push_new S0 _
  have g1 : ((S0.push (a0.obj ks0.length G0)).push (a1.obj ks1.length G1)).get (S0.next + 1) = a1.obj ks1.length G1 := St.get_push_new (S0.push _) _
  have hold : ∀ b, b < P.globals.size → ((S0.push (a0.obj ks0.length G0)).push (a1.obj ks1.length G1)).get b = S0.get b := fun b hb => by
    rw [St.get_push_old _ _ _ (show b < (S0.push _).next from by show b < S0.next + 1; omega), St.get_push_old S0 _ b (by omega)]
  let ext : Nat → Option Mini.Loc := fun x => if x = S0.next then some L0 else if x = S0.next + 1 then some L1 else none
  have e0 : rhoX P W ext S0.next = some L0 := by
    unfold rhoX
    rw [if_neg (by omega)]
    exact if_pos rfl
  have e1 : rhoX P W ext (S0.next + 1) = some L1 := by
    unfold rhoX
    rw [if_neg (by omega)]
    show (if S0.next + 1 = S0.next then _ else _) = _
    rw [if_neg (by omega), if_pos rfl]
  refine calls_ofX (ext := ext) h rfl (by rw [hnx]; omega) (fun x hx => by rw [hold _ hx]; exact hh.holds x hx) (fun x h1 h2 h3 => ?_) (fun x hx => ?_) (fun x y L L' h1 h2 h3 h4 hro h5 h6 _ => ?_) ?_ (fun x _ => by simp)
  · rw [hnx] at h2
    have : x = S0.next ∨ x = S0.next + 1 := by omega
    rcases this with rfl | rfl
    · rw [g0] at h3 ⊢
      obtain ⟨q1, q2⟩ := o0 h3
      obtain ⟨o', q3, q4⟩ := q2 (rhoX P W ext)
      exact ⟨L0, o', if_pos rfl, (by intro h; rw [q1] at h; cases h), q3, q4⟩
    · rw [g1] at h3 ⊢
      obtain ⟨q1, q2⟩ := o1 h3
      obtain ⟨o', q3, q4⟩ := q2 (rhoX P W ext)
      exact ⟨L1, o', (by show (if S0.next + 1 = S0.next then _ else _) = _; rw [if_neg (by omega), if_pos rfl]), (by intro h; rw [q1] at h; cases h), q3, q4⟩
  · rw [hnx] at hx
    show (if x = S0.next then _ else _) = _
    rw [if_neg (by omega), if_neg (by omega)]
  · have key : ∀ z, P.globals.size ≤ z → ((S0.push (a0.obj ks0.length G0)).push (a1.obj ks1.length G1)).get z ≠ .hole → roO (((S0.push (a0.obj ks0.length G0)).push (a1.obj ks1.length G1)).get z) = true := fun z hz hl => by
      have hlt := St.lt_of_live hl
      rw [hnx] at hlt
      have : z = S0.next ∨ z = S0.next + 1 := by omega
      rcases this with rfl | rfl
      · rw [g0] at hl ⊢; exact (o0 hl).1
      · rw [g1] at hl ⊢; exact (o1 hl).1
    rw [key x h1 h3, key y h2 h4] at hro
    cases hro
  · refine ⟨by simp, fun i u u' q1 q2 => ?_⟩
    have gr : ∀ {l : List Value}, l.all (ground 8) = true → ∀ {x : Value}, x ∈ l → VR (rhoX P W ext) x x := fun hl x hx => ground_refl 8 (List.all_eq_true.1 hl _ hx)
    simp only [List.getElem?_toArray] at q1 q2
    rcases Nat.lt_trichotomy i pre.length with c | c | c
    · rw [List.getElem?_append_left c] at q1 q2
      rw [q1] at q2
      cases q2
      exact gr hp1 (List.mem_of_getElem? q1)
    · rw [List.getElem?_append_right (by omega)] at q1 q2
      rw [c, Nat.sub_self] at q1 q2
      cases q1
      cases q2
      exact r0 _ _ e0
    · rw [List.getElem?_append_right (by omega)] at q1 q2
      obtain ⟨q, hq⟩ : ∃ q, i - pre.length = q + 1 := ⟨i - pre.length - 1, by omega⟩
      rw [hq] at q1 q2
      simp only [List.getElem?_cons_succ] at q1 q2
      rcases Nat.lt_trichotomy q mid.length with d | d | d
      · rw [List.getElem?_append_left d] at q1 q2
        rw [q1] at q2
        cases q2
        exact gr hp2 (List.mem_of_getElem? q1)
      · rw [List.getElem?_append_right (by omega)] at q1 q2
        rw [d, Nat.sub_self] at q1 q2
        cases q1
        cases q2
        exact r1 _ _ e1
      · rw [List.getElem?_append_right (by omega)] at q1 q2
        obtain ⟨q', hq'⟩ : ∃ q', q - mid.length = q' + 1 := ⟨q - mid.length - 1, by omega⟩
        rw [hq'] at q1 q2
        simp only [List.getElem?_cons_succ] at q1 q2
        rw [q1] at q2
        cases q2
        exact gr hp3 (List.mem_of_getElem? q1)
end Mini
end Go.Proofs.YtecabbbjdnambaaGreatDoor
end
section
set_option linter.all false
set_option maxRecDepth 1000000
open Go.RowKit
namespace Go.Proofs.YtecabbbjdnambaaGreatDoor
open Mini
theorem awn3 : aw3S0.next = Tryz.prog.globals.size := by kernel_rfl
theorem lr_calls {W : World} (hh : Holds Tryz.prog aw3S0 W) (v0 v2 : Value) (x0 x1 : Int) (hv : RowsAt W [.i64] v0) (hw : RowsAt W [.i64] v2) :
    Calls Tryz.prog 8 #[v0, .agg #[.int .i64 x0, .int .i64 x1], v2] W fun e W' => e = .returned (.bool true) ∧ Below W.heap.size W W' := by
  refine calls_row2 (pre := []) (mid := [.agg #[.int .i64 x0, .int .i64 x1]]) (post := []) (G0 := fun g i j => .int .i64 (g i j)) (G1 := fun g i j => .int .i64 (g i j)) hh awn3 rfl rfl rfl (fun g i j hj => ?_) (fun g i j hj => ?_) (by decide) (by decide) hv hw (fun a0 a1 h0 h1 => ?_)
  · match j, hj with
    | 0, _ => rfl
  · match j, hj with
    | 0, _ => rfl
  · match a0, a1, h0, h1 with
    | .nil, .nil, _, _ => exact lr_nil_nil x0 x1
    | .nil, .emp c2, _, _ => exact lr_nil_emp c2 x0 x1
    | .nil, .row m c2 h, _, h1 => exact lr_nil_row m c2 h x0 x1 (Nat.pos_iff_ne_zero.1 h1.1)
    | .emp c, .nil, _, _ => exact lr_emp_nil c x0 x1
    | .emp c, .emp c2, _, _ => exact lr_emp_emp c c2 x0 x1
    | .emp c, .row m c2 h, _, h1 => exact lr_emp_row c m c2 h x0 x1 (Nat.pos_iff_ne_zero.1 h1.1)
    | .row n c g, .nil, h0, _ => exact lr_row_nil n c g x0 x1 (Nat.pos_iff_ne_zero.1 h0.1)
    | .row n c g, .emp c2, h0, _ => exact lr_row_emp n c g c2 x0 x1 (Nat.pos_iff_ne_zero.1 h0.1)
    | .row n c g, .row m c2 h, h0, h1 => exact lr_row_row n c g m c2 h x0 x1 (Nat.pos_iff_ne_zero.1 h0.1) (Nat.pos_iff_ne_zero.1 h1.1)
end Go.Proofs.YtecabbbjdnambaaGreatDoor
end
section
namespace Go.Proofs.YtecabbbjdnambaaGreatDoor
set_option linter.all false
open Go.ChangeShapes Go.WideShapes Go.ChangeAt Go.RowKit
section
open Go.Lib
theorem cells_of_strs {H : Type} {enc : TypeId × Value → H} {P : Program} {w : World} {base : Nat} {sp : Nat → Bool} {held : Bool} {fuel : Nat} {t e : TypeId} {n : Nat} {cs : List Value} {zs : List (List UInt8)} {p : List MemPlace}
    (ht : P.underlying t = some (.array n e)) (he : P.underlying e = some .string) (hce : P.cellsOf e = 1)
    (h : DataW.trod enc P w base sp held fuel t cs = some (.agg (zs.map fun z => .lit (.string z)), p)) (i : Nat) (z : List UInt8) (hz : zs[i]? = some z) : cs[i]? = some (.string ⟨z.toArray⟩) := by
  cases fuel with
  | zero => simp [DataW.trod] at h
  | succ fuel =>
    simp only [DataW.trod, ht, hce, Nat.mul_one] at h
    split at h
    · rename_i hl
      obtain ⟨xs, hm, hx⟩ := Option.map_eq_some_iff.1 h
      have hxs : xs.map (·.1) = zs.map fun z => (DataW.lit (.string z) : DataW H) := by
        have := congrArg Prod.fst hx
        simpa using this
      have hxl : xs.length = n := by simpa using mapM_length hm
      have hzl : zs.length = n := by
        have := congrArg List.length hxs
        simp at this
        omega
      have hi : i < n := by
        have := (List.getElem?_eq_some_iff.1 hz).1
        omega
      obtain ⟨b, hb, hf⟩ := mapM_at hm i i (by simp [hi])
      obtain ⟨s, hc, rfl, _⟩ := DataW.trod_string he hf
      have h1 : cs[i]? = some (.string s) := by
        have := congrArg (·[0]?) hc
        simpa [List.getElem?_take, List.getElem?_drop] using this
      have h2 : (xs.map (·.1))[i]? = some (DataW.lit (.string s.data.toList) : DataW H) := by simp [hb]
      rw [hxs] at h2
      simp only [List.getElem?_map, hz, Option.map_some, Option.some.injEq, DataW.lit.injEq, Lit.string.injEq] at h2
      subst h2
      exact h1
    · cases h
end
theorem strs_of_laid {P : Program} {W : World} {name : String} {zs : List (List UInt8)} {g : Nat} {t e : TypeId} {n : Nat}
    (hg : P.globalNamed name = some g) (hty : (P.globals[g]?).map (·.type) = some t) (ht : P.underlying t = some (.array n e)) (he : P.underlying e = some .string) (hce : P.cellsOf e = 1)
    (h : laidMet P [(name, .agg (zs.map fun z => .lit (.string z)))] W) (i : Nat) (z : List UInt8) (hz : zs[i]? = some z) : W.cell? ⟨g, i, none⟩ = some (.string ⟨z.toArray⟩) := by
  obtain ⟨ps, ⟨g', t', cs, fuel, p, q, hg', ht', hvar, hd, _, _⟩, _⟩ := h
  obtain rfl := Option.some.inj (hg.symm.trans hg')
  obtain rfl := Option.some.inj (hty.symm.trans ht')
  have r0 := World.var?_cell hg hvar i
  rw [r0]
  simpa using cells_of_strs ht he hce hd i z hz
end Go.Proofs.YtecabbbjdnambaaGreatDoor
end
section
set_option linter.all false
namespace Go.Proofs.YtecabbbjdnambaaGreatDoor.loopRings
open Go.ChangeShapes Go.WideShapes Go.ChangeAt Go.RowKit Mini

theorem own : ownKnob Tryz.prog.godebug = none := by kernel_rfl
theorem gt0N : Tryz.prog.globalNamed "bipole/loop.quarters" = some 0 := by kernel_rfl
theorem gt0T : (Tryz.prog.globals[0]?).map (·.type) = some 150 := by kernel_rfl
def t0 : List (Int × Int) := [(1, 0), (0, 1), (-1, 0), (0, -1)]
theorem onet0 : (Rows.loopRingsRow.laid.filter fun x => x.1 == "bipole/loop.quarters") = [("bipole/loop.quarters", .agg (t0.map fun z => .agg [.lit (.int .i64 z.1), .lit (.int .i64 z.2)]))] := by kernel_rfl
theorem cellst0 {W : World} (h : laidMetH Tryz.prog Rows.loopRingsRow.laid W) (i : Nat) (z : Int × Int) (hz : t0[i]? = some z) : W.cell? ⟨0, i * 2, none⟩ = some (.int .i64 z.1) ∧ W.cell? ⟨0, i * 2 + 1, none⟩ = some (.int .i64 z.2) := by
  have h1 := laidMetH.filter (P := Tryz.prog) (fun x => x.1 == "bipole/loop.quarters") h
  rw [onet0] at h1
  exact pairs_of_laid gt0N gt0T Tryz.underlying150 Tryz.underlying24 rfl rfl rfl Tryz.underlying3 Tryz.underlying3 (by kernel_rfl) (by kernel_rfl) (by kernel_rfl) h1 i z hz
theorem s0t0 : aw3S0.get 0 = .cells ((t0.flatMap fun z => [z.1, z.2]).map fun n => Value.int .i64 n) 150 true 0 true := by kernel_rfl
theorem gt1N : Tryz.prog.globalNamed "bipole/loop.words" = some 1 := by kernel_rfl
theorem gt1T : (Tryz.prog.globals[1]?).map (·.type) = some 166 := by kernel_rfl
def t1 : List (List UInt8) := [[112, 108, 97, 110, 116, 110, 117, 109], [112, 108, 97, 110, 116, 100, 101, 110], [99, 111, 110, 116, 114, 111, 108, 108, 101, 114, 110, 117, 109], [99, 111, 110, 116, 114, 111, 108, 108, 101, 114, 100, 101, 110]]
theorem onet1 : (Rows.loopRingsRow.laid.filter fun x => x.1 == "bipole/loop.words") = [("bipole/loop.words", .agg (t1.map fun z => .lit (.string z)))] := by kernel_rfl
theorem cellst1 {W : World} (h : laidMetH Tryz.prog Rows.loopRingsRow.laid W) (i : Nat) (z : List UInt8) (hz : t1[i]? = some z) : W.cell? ⟨1, i, none⟩ = some (.string ⟨z.toArray⟩) := by
  have h1 := laidMetH.filter (P := Tryz.prog) (fun x => x.1 == "bipole/loop.words") h
  rw [onet1] at h1
  exact strs_of_laid gt1N gt1T Tryz.underlying166 Tryz.underlying9 (by kernel_rfl) h1 i z hz
theorem s0t1 : aw3S0.get 1 = .cells (t1.map fun z => Value.string ⟨z.toArray⟩) 166 true 0 true := by kernel_rfl
theorem gt2N : Tryz.prog.globalNamed "internal/strconv.uint64pow10" = some 2 := by kernel_rfl
theorem gt2T : (Tryz.prog.globals[2]?).map (·.type) = some 231 := by kernel_rfl
def t2 : List Int := (List.range 20).map fun i => ((10 ^ i : Nat) : Int)
theorem onet2 : (Rows.loopRingsRow.laid.filter fun x => x.1 == "internal/strconv.uint64pow10") = [("internal/strconv.uint64pow10", Lib.tabData .u64 t2)] := by kernel_rfl
theorem cellst2 {W : World} (h : laidMetH Tryz.prog Rows.loopRingsRow.laid W) (i : Nat) (hi : i < 20) : W.cell? ⟨2, i, none⟩ = some (.int .u64 (t2.getD i 0)) := by
  have h1 := laidMetH.filter (P := Tryz.prog) (fun x => x.1 == "internal/strconv.uint64pow10") h
  rw [onet2] at h1
  exact (Lib.tabIs_of_head (rest := []) gt2N gt2T Tryz.underlying231 Tryz.underlying213 (by kernel_rfl) (by kernel_rfl) h1).cell gt2N i (by simpa [t2] using hi)
theorem s0t2 : aw3S0.get 2 = .cells (t2.map fun n => Value.int .u64 n) 231 true 0 true := by kernel_rfl
theorem holds0 {W : World} (h : laidMetH Tryz.prog Rows.loopRingsRow.laid W) : Holds Tryz.prog aw3S0 W := by
  refine ⟨by kernel_rfl, fun b hb => ?_⟩
  rw [show Tryz.prog.globals.size = 6 by kernel_rfl] at hb
  match b, hb with
  | 0, _ =>
    refine .inr ⟨_, _, s0t0, by simp [t0], by kernel_rfl, fun i v hi => ?_⟩
    have p0 := cellst0 h 0 (1, 0) rfl
    have p1 := cellst0 h 1 (0, 1) rfl
    have p2 := cellst0 h 2 (-1, 0) rfl
    have p3 := cellst0 h 3 (0, -1) rfl
    match i, hi with
    | 0, hi => simp [t0] at hi; subst hi; exact p0.1
    | 1, hi => simp [t0] at hi; subst hi; exact p0.2
    | 2, hi => simp [t0] at hi; subst hi; exact p1.1
    | 3, hi => simp [t0] at hi; subst hi; exact p1.2
    | 4, hi => simp [t0] at hi; subst hi; exact p2.1
    | 5, hi => simp [t0] at hi; subst hi; exact p2.2
    | 6, hi => simp [t0] at hi; subst hi; exact p3.1
    | 7, hi => simp [t0] at hi; subst hi; exact p3.2
    | i + 8, hi => simp [t0] at hi
  | 1, _ =>
    refine .inr ⟨_, _, s0t1, by simp [t1], by kernel_rfl, fun i v hi => ?_⟩
    simp only [List.getElem?_map, Option.map_eq_some_iff] at hi
    obtain ⟨a, h1, rfl⟩ := hi
    exact cellst1 h i a h1
  | 2, _ =>
    refine .inr ⟨_, _, s0t2, by simp [t2], by kernel_rfl, fun i v hi => ?_⟩
    have hlt : i < 20 := by
      have := (List.getElem?_eq_some_iff.1 hi).1
      simpa [t2] using this
    rw [cellst2 h i hlt]
    simp only [List.getElem?_map, Option.map_eq_some_iff] at hi
    obtain ⟨a, h1, rfl⟩ := hi
    simp [List.getD, h1]
  | 3, _ => exact .inl (by kernel_rfl)
  | 4, _ => exact .inl (by kernel_rfl)
  | 5, _ => exact .inl (by kernel_rfl)
  | b + 6, hb => omega

set_option maxRecDepth 100000 in
theorem contract (H : Type) (enc : TypeId × Value → H) (W : World) (base : Nat) (args : Array Value) (ds gs : List (DataW H)) (before : List MemPlace)
    (hval : ∀ (j : Nat) t v, Tryz.f8.params[j]? = some t → args[j]? = some v → Value.okWide Tryz.prog W .any base t v)
    (hW : DataW.Whole enc Tryz.prog Tryz.f8.params.toList Rows.loopRingsSpec.vars false W args.toList ds gs before) (hL : laidMetH Tryz.prog Rows.loopRingsRow.laid W) :
    Calls Tryz.prog 8 args W fun e W' => ∃ v, e = .returned v ∧ Rows.loopRingsSpec.post enc Tryz.prog Tryz.f8 false true false false W args v W' := by
  have hW' := hW
  obtain ⟨p, q, hA0, hV, rfl, hfz, hnd⟩ := hW
  have hA : DataW.TrodAll enc Tryz.prog W 0 (fun _ => true) true Tryz.f8.params.toList args.toList ds p := hA0
  rw [Tryz.params8] at hA hval
  obtain ⟨v0, vs0, d0, ds0, p0, q0, hargs, rfl, rfl, h0, r0⟩ := trodAll_cons hA
  obtain ⟨v1, vs1, d1, ds1, p1, q1, rfl, rfl, rfl, h1, r1⟩ := trodAll_cons r0
  obtain ⟨v2, vs2, d2, ds2, p2, q2, rfl, rfl, rfl, h2, r2⟩ := trodAll_cons r1
  obtain ⟨rfl, rfl, rfl⟩ := trodAll_nil r2
  obtain rfl : args = #[v0, v1, v2] := by apply Array.ext'; simpa using hargs
  obtain ⟨rfl, rfl⟩ := trodVars_none hV
  have hk0 := h0
  have o0 := rows_of (P := Tryz.prog) (m := 6) (ks := [.i64]) Tryz.underlying22 (by kernel_rfl) (by kernel_rfl) (hval 0 22 v0 rfl rfl) h0
  obtain ⟨ns1, l1, rfl, rfl, f1, t1⟩ := open_agg (n := 6) (ks := [.i64, .i64]) (by kernel_rfl) (by kernel_rfl) (hval 1 92 v1 rfl rfl) h1
  have l1_0 : ns1.length = 2 := l1
  clear l1
  obtain ⟨x1_0, ns1_0, rfl, l1_1⟩ := len_cons l1_0
  obtain ⟨x1_1, ns1_1, rfl, l1_2⟩ := len_cons l1_1
  obtain rfl := len_nil l1_2
  have hk2 := h2
  have o2 := rows_of (P := Tryz.prog) (m := 6) (ks := [.i64]) Tryz.underlying22 (by kernel_rfl) (by kernel_rfl) (hval 2 22 v2 rfl rfl) h2
  clear hA0
  simp only [List.append_nil] at hW'
  refine (lr_calls (holds0 hL) v0 v2 x1_0 x1_1 o0 o2).mono fun e W' ⟨he, hb⟩ => ?_
  subst he
  exact ⟨_, rfl, post_below (pa := p0 ++ ([] ++ (p2 ++ []))) (pv := []) hW' (ok_one (by kernel_rfl) rfl (okWide_bool_mk Tryz.underlying4 _)) (fun _ _ _ => trodAll_cons_mk (shut_bool Tryz.underlying4 _) trodAll_mk0)
    (fun sp hsp => trodAll_cons_mk (WideElems.Trod_stays (P := Tryz.prog) (by kernel_rfl) (by kernel_rfl) (of_decide_eq_true (by kernel_rfl)) hk0 (fun x hx => hb.same (hW'.lt x (by simp [hx]))) (fun x hx => hsp x (by simp [hx]))) (trodAll_cons_mk (t1 _ _ _ _) (trodAll_cons_mk (WideElems.Trod_stays (P := Tryz.prog) (by kernel_rfl) (by kernel_rfl) (of_decide_eq_true (by kernel_rfl)) hk2 (fun x hx => hb.same (hW'.lt x (by simp [hx]))) (fun x hx => hsp x (by simp [hx]))) (trodAll_mk0))))
    (fun _ _ => rfl) (by simp) hb⟩

def setTab (b : Nat) (cs : Array Value) (h : Array Obj) : Array Obj := h.modify b fun
  | .cells _ t frozen => .cells cs t frozen
  | o => o
noncomputable def laidWorld (os : Os) : World :=
  { World.holding Tryz.prog os ⟨#[], #[], []⟩ with heap := setTab 5 #[.int .u8 (0), .int .u8 (1), .int .u8 (56), .int .u8 (2), .int .u8 (57), .int .u8 (49), .int .u8 (28), .int .u8 (3), .int .u8 (61), .int .u8 (58), .int .u8 (42), .int .u8 (50), .int .u8 (38), .int .u8 (29), .int .u8 (17), .int .u8 (4), .int .u8 (62), .int .u8 (47), .int .u8 (59), .int .u8 (36), .int .u8 (45), .int .u8 (43), .int .u8 (51), .int .u8 (22), .int .u8 (53), .int .u8 (39), .int .u8 (33), .int .u8 (30), .int .u8 (24), .int .u8 (18), .int .u8 (12), .int .u8 (5), .int .u8 (63), .int .u8 (55), .int .u8 (48), .int .u8 (27), .int .u8 (60), .int .u8 (41), .int .u8 (37), .int .u8 (16), .int .u8 (46), .int .u8 (35), .int .u8 (44), .int .u8 (21), .int .u8 (52), .int .u8 (32), .int .u8 (23), .int .u8 (11), .int .u8 (54), .int .u8 (26), .int .u8 (40), .int .u8 (15), .int .u8 (34), .int .u8 (20), .int .u8 (31), .int .u8 (10), .int .u8 (25), .int .u8 (14), .int .u8 (19), .int .u8 (9), .int .u8 (13), .int .u8 (8), .int .u8 (7), .int .u8 (6)] (setTab 4 #[.int .u8 (0), .int .u8 (1), .int .u8 (28), .int .u8 (2), .int .u8 (29), .int .u8 (14), .int .u8 (24), .int .u8 (3), .int .u8 (30), .int .u8 (22), .int .u8 (20), .int .u8 (15), .int .u8 (25), .int .u8 (17), .int .u8 (4), .int .u8 (8), .int .u8 (31), .int .u8 (27), .int .u8 (13), .int .u8 (23), .int .u8 (21), .int .u8 (19), .int .u8 (16), .int .u8 (7), .int .u8 (26), .int .u8 (12), .int .u8 (18), .int .u8 (6), .int .u8 (11), .int .u8 (5), .int .u8 (10), .int .u8 (9)] (setTab 2 #[.int .u64 (1), .int .u64 (10), .int .u64 (100), .int .u64 (1000), .int .u64 (10000), .int .u64 (100000), .int .u64 (1000000), .int .u64 (10000000), .int .u64 (100000000), .int .u64 (1000000000), .int .u64 (10000000000), .int .u64 (100000000000), .int .u64 (1000000000000), .int .u64 (10000000000000), .int .u64 (100000000000000), .int .u64 (1000000000000000), .int .u64 (10000000000000000), .int .u64 (100000000000000000), .int .u64 (1000000000000000000), .int .u64 (10000000000000000000)] (setTab 1 #[.string ⟨#[112, 108, 97, 110, 116, 110, 117, 109]⟩, .string ⟨#[112, 108, 97, 110, 116, 100, 101, 110]⟩, .string ⟨#[99, 111, 110, 116, 114, 111, 108, 108, 101, 114, 110, 117, 109]⟩, .string ⟨#[99, 111, 110, 116, 114, 111, 108, 108, 101, 114, 100, 101, 110]⟩] (setTab 0 #[.int .i64 (1), .int .i64 (0), .int .i64 (0), .int .i64 (1), .int .i64 (-1), .int .i64 (0), .int .i64 (0), .int .i64 (-1)] ((World.holding Tryz.prog os ⟨#[], #[], []⟩).heap))))) }
def wArgs : Array Value := #[.slice none 0 0, .agg #[.int .i64 0, .int .i64 0], .slice none 0 0]
theorem laid_met (os : Os) : laidMet Tryz.prog Rows.loopRingsRow.laid ((laidWorld os).forCall (fun _ _ => 0) ⟨#[], wArgs, []⟩).memory :=
  laidMet_of_run' 8 (by kernel_rfl) (by kernel_rfl)
theorem reads (os : Os) {H : Type} (enc : TypeId × Value → H) : ∃ places, DataW.whole enc Tryz.prog ((laidWorld os).forCall (fun _ _ => 0) ⟨#[], wArgs, []⟩).memory Tryz.f8.params.toList Rows.loopRingsSpec.vars false wArgs.toList 8 = some ([.nil, .agg [.lit (.int .i64 0), .lit (.int .i64 0)], .nil], [], places) :=
  ⟨[], by kernel_rfl⟩
set_option maxRecDepth 100000 in
theorem lifted (os : Os) (started : os.Started) (H : Type) (enc : TypeId × Value → H) (F : Stop.Interp) :
    ReturnsInHanded {} Tryz.checked os 8 .any ((OpenSpec.ofChange Rows.loopRingsSpec).preRow enc Tryz.prog Tryz.f8 Rows.loopRingsRow.domain false Rows.loopRingsRow.laid) (((OpenSpec.ofChange Rows.loopRingsSpec).at F).post enc Tryz.prog Tryz.f8 false true false false) := by
  obtain ⟨places, hx⟩ := reads os enc
  refine returnsInHanded_of_row (C := Tryz.checked) (s := OpenSpec.ofChange Rows.loopRingsSpec) own started (by kernel_rfl) Tryz.func8
    (witness_row_at (enc := enc) (C := Tryz.checked) false (laidWorld os) wArgs rfl (by kernel_rfl) (by kernel_rfl) (by kernel_rfl)
      (OpenSpec.preRow_of_cond 8 hx (by kernel_rfl) (fun k hk => by cases hk) (by kernel_rfl) (laid_met os))) ?_
  intro W base args ds gs before hval hW _ _ _ hL _ _
  exact contract H enc W base args ds gs before hval hW hL
theorem said : Rows.LoopRingsSaid :=
  OpenClaim.holds_of_cond 8 Tryz.f8 rfl rfl rfl rfl rfl rfl rfl ⟨rfl, rfl, rfl, rfl, rfl⟩ rfl rfl rfl rfl rfl (by kernel_rfl) Tryz.func8 (by kernel_rfl)
    (of_decide_eq_true (by kernel_rfl)) (by unfold Func.isWrapper; first | (rw [if_pos (by decide +kernel)]; kernel_rfl) | (rw [if_neg (by decide +kernel)]; exact ⟨rfl, rfl⟩))
    (fun os started H enc _ F => by rw [OpenClaim.pre_eq_preRow]; exact lifted os started H enc F)
theorem plain (f : FuncId) (fn : Func) (hf : Tryz.pinned.checked.prog.funcNamed "bipole/bipolelaw03.LoopRings" = some f) (hfn : Tryz.pinned.checked.prog.funcs[f]? = some fn) :
    false = Tryz.pinned.checked.prog.looks [] ∧ ∀ (j : Nat) t, fn.params[j]? = some t → Tryz.pinned.checked.prog.wantsStandIn t = false := by
  obtain rfl : f = 8 := Option.some.inj ((show Tryz.prog.funcNamed "bipole/bipolelaw03.LoopRings" = some 8 by kernel_rfl).symm.trans hf) |>.symm
  obtain rfl : fn = Tryz.f8 := (Option.some.inj (Tryz.func8.symm.trans hfn)).symm
  refine ⟨by kernel_rfl, fun j t ht => ?_⟩
  rw [Tryz.params8] at ht
  have hm : t = 22 ∨ t = 92 ∨ t = 22 := by simpa using Array.mem_of_getElem? ht
  rcases hm with rfl | rfl | rfl
  · exact (show Tryz.prog.wantsStandIn 22 = false by kernel_rfl)
  · exact (show Tryz.prog.wantsStandIn 92 = false by kernel_rfl)
  · exact (show Tryz.prog.wantsStandIn 22 = false by kernel_rfl)
theorem card : Rows.LoopRingsCardSaid :=
  Claim7.holds_tied_plain_at .later [] _ _ _ _ said (fun _ h => by cases h) (by kernel_rfl) (fun _ h => by cases h) loopRings_row_tie rfl ⟨rfl, rfl⟩ (by kernel_rfl) rfl plain (by kernel_rfl)
end Go.Proofs.YtecabbbjdnambaaGreatDoor.loopRings
end
